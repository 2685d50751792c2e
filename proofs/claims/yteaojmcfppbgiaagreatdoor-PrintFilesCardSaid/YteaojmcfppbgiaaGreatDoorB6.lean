/- From each token on something is read: the grammar's relation has a derivation at every state. No program. -/
import Derived.Test.YteaojmcfppbgiaaGreatDoorB5
import Derived.Test.YteaojmcfppbgiaaGreatDoorB1
import Derived.ProofKit
namespace Go.Proofs.YteaojmcfppbgiaaGreatDoor
open Go.RowKit
set_option linter.unusedVariables false
set_option maxRecDepth 100000

/-- The end alone stands at the end. -/
def EndAt (L : List Tk) : Prop := ∀ i, i < L.length → ((tk L i).1 = 5 ↔ i + 1 = L.length)
theorem isB_end {L : List Tk} (hL : EndAt L) {k : Nat} (hk : k + 1 = L.length) {d : Int} (hd : d ≠ 5) (u : ByteArray) : isB L k d u = false := by
  have := (hL k (by omega)).2 hk
  unfold isB
  rw [this, decide_eq_false (fun e => hd e.symm)]
  rfl
theorem isB_go {L : List Tk} (hL : EndAt L) {k : Nat} (hk : k < L.length) {d : Int} (hd : d ≠ 5) {u : ByteArray} (h : isB L k d u = true) : k + 1 < L.length := by
  rcases Nat.lt_or_ge (k + 1) L.length with h1 | h1
  · exact h1
  · rw [isB_end hL (by omega) hd] at h; cases h
theorem nmd_end {L : List Tk} (hL : EndAt L) {k : Nat} (hk : k + 1 = L.length) : nmdB L k = false := by
  have := (hL k (by omega)).2 hk
  unfold nmdB
  rw [this]; rfl
theorem fn_end {L : List Tk} (hL : EndAt L) {k : Nat} (hk : k + 1 = L.length) : fnB L k = false := by
  unfold fnB mkB
  rw [isB_end hL hk (by decide)]; rfl
theorem at_end {L : List Tk} (hL : EndAt L) {k : Nat} (hk : k + 1 = L.length) : agB L k = false := by
  unfold agB kyB mkB
  rw [isB_end hL hk (by decide), isB_end hL hk (by decide), nmd_end hL hk]; rfl
theorem pt_end {L : List Tk} (hL : EndAt L) {k : Nat} (hk : k + 1 = L.length) : ptB L k = false := by
  unfold ptB loB mkB
  rw [isB_end hL hk (by decide), isB_end hL hk (by decide), isB_end hL hk (by decide), nmd_end hL hk]; rfl
/-- It stays within the tokens, and goes on where it is not at the end. -/
def Fwd (L : List Tk) (s s' : St) : Prop := s'.k < L.length ∧ s.k ≤ s'.k ∧ (s.k + 1 < L.length → s.k < s'.k)
theorem step_fwd {L : List Tk} {s : St} (h : s.k < L.length) : Fwd L s (stepS L s) := by
  unfold stepS
  split
  · exact ⟨by simp; omega, by simp, fun _ => by simp⟩
  · exact ⟨h, Nat.le_refl _, fun _ => by omega⟩
theorem fail_fwd {L : List Tk} {s : St} (h : s.k < L.length) (a e : Int) : Fwd L s (failS L s a e) := by
  unfold failS
  exact ⟨by simp; omega, by simp; omega, fun _ => by simp; omega⟩
theorem Fwd.trans {L : List Tk} {a b c : St} (h : Fwd L a b) (k : Fwd L b c) : Fwd L a c := ⟨k.1, Nat.le_trans h.2.1 k.2.1, fun x => Nat.lt_of_lt_of_le (h.2.2 x) k.2.1⟩
theorem Fwd.le {L : List Tk} {a b c : St} (h : Fwd L a b) (k : b.k ≤ c.k) (kl : c.k < L.length) : Fwd L a c := ⟨kl, Nat.le_trans h.2.1 k, fun x => Nat.lt_of_lt_of_le (h.2.2 x) k⟩
theorem take_fwd {L : List Tk} {s : St} (h : s.k < L.length) (u : ByteArray) : Fwd L s (takeS L u s) := by
  unfold takeS
  split
  · exact step_fwd h
  · have h1 := fail_fwd (L := L) h (tk L s.k).2.2 1
    exact h1.trans (step_fwd h1.1)
theorem var_fwd {L : List Tk} {s : St} (h : s.k < L.length) : Fwd L s (stepS L (varS L s)) := by
  unfold varS
  split
  · exact step_fwd h
  · have h1 := fail_fwd (L := L) h (tk L s.k).2.2 1
    exact h1.trans (step_fwd h1.1)
theorem level_fwd {L : List Tk} {s s' : St} {v : Nat} (h : s.k < L.length) (hv : LevelR L s v s') : s.k ≤ s'.k ∧ s'.k < L.length := by
  obtain ⟨M, B, _, ⟨_, _, _, rfl⟩ | ⟨_, _, rfl⟩⟩ := hv
  · have := step_fwd h; exact ⟨this.2.1, this.1⟩
  · exact ⟨Nat.le_refl _, h⟩

structure Reads (L : List Tk) (s : St) : Prop where
  expr : ∃ t s', RE L .expr s [t] s' ∧ Fwd L s s'
  bound : ∀ kd a, ∃ t s', RE L (.bound kd a) s [t] s' ∧ Fwd L s s'
  app : ∃ t s', RE L .app s [t] s' ∧ Fwd L s s'
  atom : ∃ t s', RE L .atom s [t] s' ∧ Fwd L s s'
  atoms : ∀ n, ∃ l s', RE L (.atoms n) s l s' ∧ s.k ≤ s'.k ∧ s'.k < L.length
  pat : ∃ t s', RE L .pat s [t] s' ∧ Fwd L s s'
  encl : ∃ t s', RE L .encl s [t] s' ∧ Fwd L s s'
  appl : ∀ a, ∃ t s', RE L (.appl a) s [t] s' ∧ Fwd L s s'
  pats : ∀ n, ∃ l s', RE L (.pats n) s l s' ∧ s.k ≤ s'.k ∧ s'.k < L.length

theorem bool_no {b : Bool} (h : ¬ b = true) : b = false := by cases b <;> simp_all

/-- Given what is read from any later token on. -/
theorem reads_step {L : List Tk} (hL : EndAt L) {s : St} (hk : s.k < L.length) (hend : s.k + 1 = L.length ∨ ∀ z : St, s.k < z.k → z.k < L.length → Reads L z)
    (hexpr : s.k + 1 = L.length → ∀ z : St, z.k + 1 = L.length → ∃ t s', RE L .expr z [t] s' ∧ Fwd L z s') (hpats : s.k + 1 = L.length → ∀ (z : St) n, z.k + 1 = L.length → RE L (.pats n) z [] z)
    (hpat : s.k + 1 = L.length → ∀ z : St, z.k + 1 = L.length → ∃ t s', RE L .pat z [t] s' ∧ Fwd L z s') : Reads L s := by
  -- what may be read behind a step
  have eX : ∀ z : St, Fwd L s z → ∃ t s', RE L .expr z [t] s' ∧ Fwd L z s' := by
    intro z hz
    rcases hend with he | he
    · exact hexpr he z (by have := hz.1; have := hz.2.1; omega)
    · rcases Nat.lt_or_ge (s.k + 1) L.length with h1 | h1
      · exact (he z (hz.2.2 h1) hz.1).expr
      · exact hexpr (by omega) z (by have := hz.1; have := hz.2.1; omega)
  have eP : ∀ z : St, Fwd L s z → ∃ t s', RE L .pat z [t] s' ∧ Fwd L z s' := by
    intro z hz
    rcases hend with he | he
    · exact hpat he z (by have := hz.1; have := hz.2.1; omega)
    · rcases Nat.lt_or_ge (s.k + 1) L.length with h1 | h1
      · exact (he z (hz.2.2 h1) hz.1).pat
      · exact hpat (by omega) z (by have := hz.1; have := hz.2.1; omega)
  have ePs : ∀ (z : St) n, Fwd L s z → ∃ l s', RE L (.pats n) z l s' ∧ z.k ≤ s'.k ∧ s'.k < L.length := by
    intro z n hz
    rcases hend with he | he
    · exact ⟨[], z, hpats he z n (by have := hz.1; have := hz.2.1; omega), Nat.le_refl _, hz.1⟩
    · rcases Nat.lt_or_ge (s.k + 1) L.length with h1 | h1
      · exact (he z (hz.2.2 h1) hz.1).pats n
      · exact ⟨[], z, hpats (by omega) z n (by have := hz.1; have := hz.2.1; omega), Nat.le_refl _, hz.1⟩
  have hatom : ∃ t s', RE L .atom s [t] s' ∧ Fwd L s s' := by
    by_cases h1 : nmdB L s.k = true
    · exact ⟨_, _, .atomName h1, step_fwd hk⟩
    · by_cases h2 : kyB L s.k setT = true
      · obtain ⟨v, s2, hv⟩ := level_ex L (stepS L s)
        have h3 := level_fwd (step_fwd hk).1 hv
        exact ⟨_, _, .atomSet (bool_no h1) h2 hv, (step_fwd hk).le h3.1 h3.2⟩
      · by_cases h3 : mkB L s.k openT = true
        · obtain ⟨t, s2, hr, hf⟩ := eX _ (step_fwd hk)
          exact ⟨_, _, .atomPar (bool_no h1) (bool_no h2) h3 hr, ((step_fwd hk).trans hf).trans (take_fwd hf.1 _)⟩
        · exact ⟨_, _, .atomBad (bool_no h1) (bool_no h2) (bool_no h3), fail_fwd hk _ _⟩
  -- lists from a state on: by what is read from there
  have hatoms' : ∀ n, ∃ l s', RE L (.atoms n) s l s' ∧ s.k ≤ s'.k ∧ s'.k < L.length := by
    intro n
    by_cases h1 : s.e = 0 ∧ agB L s.k = true
    · by_cases h2 : n = 8192
      · have := fail_fwd (L := L) hk (tk L s.k).2.2 2
        exact ⟨_, _, .atomsFull h1.1 h1.2 h2, this.2.1, this.1⟩
      · obtain ⟨t, s1, hr, hf⟩ := hatom
        have hne : s.k + 1 < L.length := by
          rcases Nat.lt_or_ge (s.k + 1) L.length with h | h
          · exact h
          · have := at_end hL (k := s.k) (by omega); rw [this] at h1; cases h1.2
        rcases hend with he | he
        · omega
        · obtain ⟨l, s2, hr2, h3, h4⟩ := (he s1 (hf.2.2 hne) hf.1).atoms (n + 1)
          exact ⟨_, _, .atomsNext h1.1 h1.2 h2 hr hr2, Nat.le_trans hf.2.1 h3, h4⟩
    · exact ⟨_, _, .atomsStop h1, Nat.le_refl _, hk⟩
  have happ : ∃ t s', RE L .app s [t] s' ∧ Fwd L s s' := by
    obtain ⟨t, s1, hr, hf⟩ := hatom
    have : ∃ l s2, RE L (.atoms 0) s1 l s2 ∧ s1.k ≤ s2.k ∧ s2.k < L.length := by
      rcases Nat.lt_or_ge (s.k + 1) L.length with h | h
      · rcases hend with he | he
        · omega
        · exact (he s1 (hf.2.2 h) hf.1).atoms 0
      · have e1 : s1.k + 1 = L.length := by have := hf.1; have := hf.2.1; omega
        exact ⟨[], s1, .atomsStop (fun x => by rw [at_end hL e1] at x; cases x.2), Nat.le_refl _, hf.1⟩
    obtain ⟨l, s2, hr2, h3, h4⟩ := this
    exact ⟨_, _, .app hr hr2, hf.le h3 h4⟩
  have hbound : ∀ kd a, ∃ t s', RE L (.bound kd a) s [t] s' ∧ Fwd L s s' := by
    intro kd a
    have f1 := take_fwd (L := L) hk openT
    have f2 := f1.trans (var_fwd f1.1)
    have f3 := f2.trans (take_fwd f2.1 colonT)
    obtain ⟨t, s4, hr, hf⟩ := eX _ f3
    have f4 := f3.trans hf
    have f5 := f4.trans (take_fwd f4.1 closeT)
    have f6 := f5.trans (take_fwd f5.1 arrowT)
    obtain ⟨u, s7, hr2, hf2⟩ := eX _ f6
    exact ⟨_, _, .bound rfl rfl rfl rfl hr rfl rfl hr2, f6.trans hf2⟩
  have hexpr' : ∃ t s', RE L .expr s [t] s' ∧ Fwd L s s' := by
    by_cases h1 : mkB L s.k lamT = true
    · have hne := isB_go hL hk (by decide) h1
      have f1 := step_fwd hk
      rcases hend with he | he
      · omega
      · obtain ⟨t, s2, hr, hf⟩ := (he _ (f1.2.2 hne) f1.1).bound 4 (tk L s.k).2.2
        exact ⟨_, _, .lam h1 hr, f1.trans hf⟩
    · by_cases h2 : fnB L s.k = true
      · obtain ⟨t, s2, hr, hf⟩ := hbound 3 (tk L s.k).2.2
        exact ⟨_, _, .pi (bool_no h1) h2 hr, hf⟩
      · obtain ⟨t, s2, hr, hf⟩ := happ
        by_cases h3 : mkB L s2.k arrowT = true
        · have f2 := hf.trans (step_fwd hf.1)
          obtain ⟨u, s3, hr2, hf2⟩ := eX _ f2
          exact ⟨_, _, .arr (bool_no h1) (bool_no h2) hr h3 hr2, f2.trans hf2⟩
        · exact ⟨_, _, .plain (bool_no h1) (bool_no h2) hr (bool_no h3), hf⟩
  have happl : ∀ a, ∃ t s', RE L (.appl a) s [t] s' ∧ Fwd L s s' := by
    intro a
    obtain ⟨l, s2, hr, h3, h4⟩ := ePs _ 0 (step_fwd hk)
    by_cases hl : l.length = 0
    · exact ⟨_, _, .applNil hl hr, (step_fwd hk).le h3 h4⟩
    · exact ⟨_, _, .applCons hl hr, (step_fwd hk).le h3 h4⟩
  have eA : ∀ z : St, Fwd L s z → ∀ a, ∃ t s', RE L (.appl a) z [t] s' ∧ Fwd L z s' := by
    intro z hz a
    have f := hz.trans (step_fwd hz.1)
    obtain ⟨l, s2, hr, h3, h4⟩ := ePs _ 0 f
    by_cases hl : l.length = 0
    · exact ⟨_, _, .applNil hl hr, (step_fwd hz.1).le h3 h4⟩
    · exact ⟨_, _, .applCons hl hr, (step_fwd hz.1).le h3 h4⟩
  have hencl : ∃ t s', RE L .encl s [t] s' ∧ Fwd L s s' := by
    have f1 := step_fwd hk
    by_cases h1 : nmdB L (stepS L s).k = true
    · obtain ⟨t, s2, hr, hf⟩ := eA _ f1 (tk L s.k).2.2
      exact ⟨_, _, .encName h1 hr, (f1.trans hf).trans (take_fwd hf.1 _)⟩
    · by_cases h2 : mkB L (stepS L s).k closeT = true
      · exact ⟨_, _, .encNone (bool_no h1) h2, f1.trans (take_fwd f1.1 _)⟩
      · obtain ⟨t, s2, hr, hf⟩ := eP _ f1
        exact ⟨_, _, .encPat (bool_no h1) (bool_no h2) hr, (f1.trans hf).trans (take_fwd hf.1 _)⟩
  have hpat' : ∃ t s', RE L .pat s [t] s' ∧ Fwd L s s' := by
    by_cases h1 : nmdB L s.k = true
    · exact ⟨_, _, .patName h1, step_fwd hk⟩
    · by_cases h2 : loB L s.k = true
      · exact ⟨_, _, .patAny (bool_no h1) h2, step_fwd hk⟩
      · by_cases h3 : mkB L s.k dotT = true
        · have hne := isB_go hL hk (by decide) h3
          have f1 := step_fwd hk
          rcases hend with he | he
          · omega
          · obtain ⟨t, s2, hr, hf⟩ := (he _ (f1.2.2 hne) f1.1).atom
            exact ⟨_, _, .patDot (bool_no h1) (bool_no h2) h3 hr, f1.trans hf⟩
        · by_cases h4 : mkB L s.k openT = true
          · obtain ⟨t, s2, hr, hf⟩ := hencl
            exact ⟨_, _, .patPar (bool_no h1) (bool_no h2) (bool_no h3) h4 hr, hf⟩
          · exact ⟨_, _, .patBad (bool_no h1) (bool_no h2) (bool_no h3) (bool_no h4), fail_fwd hk _ _⟩
  have hpats' : ∀ n, ∃ l s', RE L (.pats n) s l s' ∧ s.k ≤ s'.k ∧ s'.k < L.length := by
    intro n
    by_cases h1 : s.e = 0 ∧ ptB L s.k = true
    · by_cases h2 : n = 8192
      · have := fail_fwd (L := L) hk (tk L s.k).2.2 2
        exact ⟨_, _, .patsFull h1.1 h1.2 h2, this.2.1, this.1⟩
      · obtain ⟨t, s1, hr, hf⟩ := hpat'
        have hne : s.k + 1 < L.length := by
          rcases Nat.lt_or_ge (s.k + 1) L.length with h | h
          · exact h
          · have := pt_end hL (k := s.k) (by omega); rw [this] at h1; cases h1.2
        rcases hend with he | he
        · omega
        · obtain ⟨l, s2, hr2, h3, h4⟩ := (he s1 (hf.2.2 hne) hf.1).pats (n + 1)
          exact ⟨_, _, .patsNext h1.1 h1.2 h2 hr hr2, Nat.le_trans hf.2.1 h3, h4⟩
    · exact ⟨_, _, .patsStop h1, Nat.le_refl _, hk⟩
  exact ⟨hexpr', hbound, happ, hatom, hatoms', hpat', hencl, happl, hpats'⟩

/-- At the end. -/
theorem end_expr {L : List Tk} (hL : EndAt L) (z : St) (hz : z.k + 1 = L.length) : ∃ t s', RE L .expr z [t] s' ∧ Fwd L z s' := by
  have hk : z.k < L.length := by omega
  have hf := fail_fwd (L := L) hk (tk L z.k).2.2 1
  have he : (badS L z).k + 1 = L.length := by have := hf.1; have := hf.2.1; unfold badS; omega
  refine ⟨_, _, .plain (isB_end hL hz (by decide) _) (fn_end hL hz) (.app (.atomBad (nmd_end hL hz) (isB_end hL hz (by decide) _) (isB_end hL hz (by decide) _)) (.atomsStop (fun x => ?_))) (isB_end hL he (by decide) _), hf⟩
  rw [at_end hL he] at x
  cases x.2
theorem end_pat {L : List Tk} (hL : EndAt L) (z : St) (hz : z.k + 1 = L.length) : ∃ t s', RE L .pat z [t] s' ∧ Fwd L z s' :=
  ⟨_, _, .patBad (nmd_end hL hz) (isB_end hL hz (by decide) _) (isB_end hL hz (by decide) _) (isB_end hL hz (by decide) _), fail_fwd (by omega) _ _⟩
theorem reads {L : List Tk} (hL : EndAt L) (n : Nat) : ∀ s : St, s.k < L.length → L.length - s.k ≤ n → Reads L s := by
  induction n with
  | zero => intro s h1 h2; omega
  | succ n ih =>
    intro s hk hn
    refine reads_step hL hk (.inr (fun z h1 h2 => ih z h2 (by omega))) (fun _ z hz => end_expr hL z hz) (fun _ z m hz => .patsStop (fun x => by rw [pt_end hL hz] at x; cases x.2)) (fun _ z hz => end_pat hL z hz)
end Go.Proofs.YteaojmcfppbgiaaGreatDoor

/- parse: an expression, a pattern as a whole: too great or too deep ones are told; patterns. -/
namespace Go.Proofs.YteaojmcfppbgiaaGreatDoor
open Go.RowKit
set_option linter.unusedVariables false
set_option maxRecDepth 100000

end Go.Proofs.YteaojmcfppbgiaaGreatDoor
