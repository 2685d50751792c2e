/- The reading of tokens, run: what comes out is what the relation says. No program. -/
import Derived.Test.YtkccjfbgepmfkaaB5
import Derived.Test.YtkccjfbgepmfkaaC2
import Derived.Test.YtkccjfbgepmfkaaB7
import Derived.BigRegion
import Derived.Test.YtkccjfbgepmfkaaB8
namespace Go.Proofs.Ytkccjfbgepmfkaa
open Go.RowKit
set_option linter.unusedVariables false
set_option maxRecDepth 100000

abbrev Res := Option (List RT × St)
def one? (o : Res) (g : RT → St → Res) : Res := match o with
  | some ([t], s) => g t s
  | _ => none
def row? (o : Res) (g : List RT → St → Res) : Res := match o with
  | some (l, s) => g l s
  | none => none
theorem one_some {o : Res} {g : RT → St → Res} {x : List RT × St} (h : one? o g = some x) : ∃ t s, o = some ([t], s) ∧ g t s = some x := by
  unfold one? at h
  split at h
  · exact ⟨_, _, rfl, h⟩
  · cases h
theorem row_some {o : Res} {g : List RT → St → Res} {x : List RT × St} (h : row? o g = some x) : ∃ l s, o = some (l, s) ∧ g l s = some x := by
  unfold row? at h
  split at h
  · exact ⟨_, _, rfl, h⟩
  · cases h
/-- The next token begins with no digit. -/
def flatB (L : List Tk) (k : Nat) : Bool := match bytesL (tk L k).2.1 with
  | [] => false
  | b :: _ => decide (b < 48 ∨ 57 < b)
theorem level_flat {L : List Tk} {s : St} (h : flatB L s.k = true) : LevelR L s 0 s := by
  unfold flatB at h
  refine ⟨0, false, IsNum.no fun n hn hd => ?_, .inr ⟨fun x => Bool.noConfusion x.1, rfl, rfl⟩⟩
  split at h
  · cases h
  · rename_i b q hb
    have := digs_mem (i := n) (x := b) (by rw [hd, hb]; exact List.mem_cons_self ..)
    have := of_decide_eq_true h
    omega
def reC (L : List Tk) : Nat → Job → St → Res
  | 0, _, _ => none
  | f + 1, .expr, s =>
    if mkB L s.k lamT then one? (reC L f (.bound 4 (tk L s.k).2.2) (stepS L s)) fun t s2 => some ([t], s2)
    else if fnB L s.k then one? (reC L f (.bound 3 (tk L s.k).2.2) s) fun t s2 => some ([t], s2)
    else one? (reC L f .app s) fun t s2 => if mkB L s2.k arrowT then one? (reC L f .expr (stepS L s2)) fun u s3 => some ([.node 3 t.a ⟨#[95]⟩ 0 [t, u]], s3) else some ([t], s2)
  | f + 1, .bound kd a, s =>
    one? (reC L f .expr (takeS L colonT (stepS L (varS L (takeS L openT s))))) fun t s4 => one? (reC L f .expr (takeS L arrowT (takeS L closeT s4))) fun u s7 =>
      some ([.node kd a (tk L (varS L (takeS L openT s)).k).2.1 0 [t, u]], s7)
  | f + 1, .app, s => one? (reC L f .atom s) fun t s1 => row? (reC L f (.atoms 0) s1) fun l s2 => some ([l.foldl mkApp t], s2)
  | f + 1, .atoms n, s =>
    if s.e = 0 ∧ agB L s.k = true then (if n = 8192 then none else one? (reC L f .atom s) fun t s1 => row? (reC L f (.atoms (n + 1)) s1) fun l s2 => some (t :: l, s2)) else some ([], s)
  | f + 1, .atom, s =>
    if nmdB L s.k then some ([.node 1 (tk L s.k).2.2 (tk L s.k).2.1 0 []], stepS L s)
    else if kyB L s.k setT then (if flatB L (stepS L s).k then some ([.node 2 (tk L s.k).2.2 ⟨#[]⟩ ((0 : Nat) : Int) []], stepS L s) else none)
    else if mkB L s.k openT then one? (reC L f .expr (stepS L s)) fun t s2 => some ([t], takeS L closeT s2)
    else some ([.node 0 0 ⟨#[]⟩ 0 []], badS L s)
  | f + 1, .pat, s =>
    if nmdB L s.k then some ([.node 6 (tk L s.k).2.2 (tk L s.k).2.1 0 []], stepS L s)
    else if loB L s.k then some ([.node 7 (tk L s.k).2.2 ⟨#[]⟩ 0 []], stepS L s)
    else if mkB L s.k dotT then one? (reC L f .atom (stepS L s)) fun t s2 => some ([.node 10 (tk L s.k).2.2 ⟨#[]⟩ 0 [t]], s2)
    else if mkB L s.k openT then one? (reC L f .encl s) fun t s2 => some ([t], s2)
    else some ([.node 0 0 ⟨#[]⟩ 0 []], badS L s)
  | f + 1, .encl, s =>
    if nmdB L (stepS L s).k then one? (reC L f (.appl (tk L s.k).2.2) (stepS L s)) fun t s2 => some ([t], takeS L closeT s2)
    else if mkB L (stepS L s).k closeT then some ([.node 9 (tk L s.k).2.2 ⟨#[]⟩ 0 []], takeS L closeT (stepS L s))
    else one? (reC L f .pat (stepS L s)) fun t s2 => some ([t], takeS L closeT s2)
  | f + 1, .appl a, s => row? (reC L f (.pats 0) (stepS L s)) fun l s2 =>
    if l.length = 0 then some ([.node 6 (tk L s.k).2.2 (tk L s.k).2.1 0 []], s2) else some ([.node 8 a (tk L s.k).2.1 0 l], s2)
  | f + 1, .pats n, s =>
    if s.e = 0 ∧ ptB L s.k = true then (if n = 8192 then none else one? (reC L f .pat s) fun t s1 => row? (reC L f (.pats (n + 1)) s1) fun l s2 => some (t :: l, s2)) else some ([], s)

theorem some_pair {l l' : List RT} {s s' : St} (h : (some (l, s) : Res) = some (l', s')) : l = l' ∧ s = s' := by
  injection h with h
  injection h with h1 h2
  exact ⟨h1, h2⟩
theorem reC_sound (L : List Tk) (f : Nat) : ∀ (j : Job) (s : St) (l : List RT) (s' : St), reC L f j s = some (l, s') → RE L j s l s' := by
  induction f with
  | zero => intro j s l s' h; cases j <;> cases h
  | succ f ih =>
    intro j s l s' h
    cases j with
    | expr =>
      rw [reC] at h
      split at h
      · rename_i h1
        obtain ⟨t, s2, hr, h⟩ := one_some h
        obtain ⟨rfl, rfl⟩ := some_pair h
        exact .lam h1 (ih _ _ _ _ hr)
      · rename_i h1
        have h1 := Bool.eq_false_iff.2 h1
        split at h
        · rename_i h2
          obtain ⟨t, s2, hr, h⟩ := one_some h
          obtain ⟨rfl, rfl⟩ := some_pair h
          exact .pi h1 h2 (ih _ _ _ _ hr)
        · rename_i h2
          have h2 := Bool.eq_false_iff.2 h2
          obtain ⟨t, s2, hr, h⟩ := one_some h
          split at h
          · rename_i h3
            obtain ⟨u, s3, hr2, h⟩ := one_some h
            obtain ⟨rfl, rfl⟩ := some_pair h
            exact .arr h1 h2 (ih _ _ _ _ hr) h3 (ih _ _ _ _ hr2)
          · rename_i h3
            obtain ⟨rfl, rfl⟩ := some_pair h
            exact .plain h1 h2 (ih _ _ _ _ hr) (Bool.eq_false_iff.2 h3)
    | bound kd a =>
      rw [reC] at h
      obtain ⟨t, s4, hr, h⟩ := one_some h
      obtain ⟨u, s7, hr2, h⟩ := one_some h
      obtain ⟨rfl, rfl⟩ := some_pair h
      exact .bound rfl rfl rfl rfl (ih _ _ _ _ hr) rfl rfl (ih _ _ _ _ hr2)
    | app =>
      rw [reC] at h
      obtain ⟨t, s1, hr, h⟩ := one_some h
      obtain ⟨m, s2, hr2, h⟩ := row_some h
      obtain ⟨rfl, rfl⟩ := some_pair h
      exact .app (ih _ _ _ _ hr) (ih _ _ _ _ hr2)
    | atoms n =>
      rw [reC] at h
      split at h
      · rename_i h1
        split at h
        · cases h
        · rename_i h2
          obtain ⟨t, s1, hr, h⟩ := one_some h
          obtain ⟨m, s2, hr2, h⟩ := row_some h
          obtain ⟨rfl, rfl⟩ := some_pair h
          exact .atomsNext h1.1 h1.2 h2 (ih _ _ _ _ hr) (ih _ _ _ _ hr2)
      · rename_i h1
        obtain ⟨rfl, rfl⟩ := some_pair h
        exact .atomsStop h1
    | pats n =>
      rw [reC] at h
      split at h
      · rename_i h1
        split at h
        · cases h
        · rename_i h2
          obtain ⟨t, s1, hr, h⟩ := one_some h
          obtain ⟨m, s2, hr2, h⟩ := row_some h
          obtain ⟨rfl, rfl⟩ := some_pair h
          exact .patsNext h1.1 h1.2 h2 (ih _ _ _ _ hr) (ih _ _ _ _ hr2)
      · rename_i h1
        obtain ⟨rfl, rfl⟩ := some_pair h
        exact .patsStop h1
    | atom =>
      rw [reC] at h
      split at h
      · rename_i h1
        obtain ⟨rfl, rfl⟩ := some_pair h
        exact .atomName h1
      · rename_i h1
        have h1 := Bool.eq_false_iff.2 h1
        split at h
        · rename_i h2
          split at h
          · rename_i h3
            obtain ⟨rfl, rfl⟩ := some_pair h
            exact .atomSet h1 h2 (level_flat h3)
          · cases h
        · rename_i h2
          have h2 := Bool.eq_false_iff.2 h2
          split at h
          · rename_i h3
            obtain ⟨t, s2, hr, h⟩ := one_some h
            obtain ⟨rfl, rfl⟩ := some_pair h
            exact .atomPar h1 h2 h3 (ih _ _ _ _ hr)
          · rename_i h3
            obtain ⟨rfl, rfl⟩ := some_pair h
            exact .atomBad h1 h2 (Bool.eq_false_iff.2 h3)
    | pat =>
      rw [reC] at h
      split at h
      · rename_i h1
        obtain ⟨rfl, rfl⟩ := some_pair h
        exact .patName h1
      · rename_i h1
        have h1 := Bool.eq_false_iff.2 h1
        split at h
        · rename_i h2
          obtain ⟨rfl, rfl⟩ := some_pair h
          exact .patAny h1 h2
        · rename_i h2
          have h2 := Bool.eq_false_iff.2 h2
          split at h
          · rename_i h3
            obtain ⟨t, s2, hr, h⟩ := one_some h
            obtain ⟨rfl, rfl⟩ := some_pair h
            exact .patDot h1 h2 h3 (ih _ _ _ _ hr)
          · rename_i h3
            have h3 := Bool.eq_false_iff.2 h3
            split at h
            · rename_i h4
              obtain ⟨t, s2, hr, h⟩ := one_some h
              obtain ⟨rfl, rfl⟩ := some_pair h
              exact .patPar h1 h2 h3 h4 (ih _ _ _ _ hr)
            · rename_i h4
              obtain ⟨rfl, rfl⟩ := some_pair h
              exact .patBad h1 h2 h3 (Bool.eq_false_iff.2 h4)
    | encl =>
      rw [reC] at h
      split at h
      · rename_i h1
        obtain ⟨t, s2, hr, h⟩ := one_some h
        obtain ⟨rfl, rfl⟩ := some_pair h
        exact .encName h1 (ih _ _ _ _ hr)
      · rename_i h1
        have h1 := Bool.eq_false_iff.2 h1
        split at h
        · rename_i h2
          obtain ⟨rfl, rfl⟩ := some_pair h
          exact .encNone h1 h2
        · rename_i h2
          obtain ⟨t, s2, hr, h⟩ := one_some h
          obtain ⟨rfl, rfl⟩ := some_pair h
          exact .encPat h1 (Bool.eq_false_iff.2 h2) (ih _ _ _ _ hr)
    | appl a =>
      rw [reC] at h
      obtain ⟨m, s2, hr, h⟩ := row_some h
      split at h
      · rename_i h1
        obtain ⟨rfl, rfl⟩ := some_pair h
        exact .applNil h1 (ih _ _ _ _ hr)
      · rename_i h1
        obtain ⟨rfl, rfl⟩ := some_pair h
        exact .applCons h1 (ih _ _ _ _ hr)

end Go.Proofs.Ytkccjfbgepmfkaa

/- parse.read of declarations, parse.File: a text cut, and read to its end. -/
namespace Go.Proofs.Ytkccjfbgepmfkaa
open Go.RowKit
set_option linter.unusedVariables false
set_option maxRecDepth 100000

/-- What File comes back with: the declarations, or the first error. -/
def DeclsOut (l : List DT) (z : St) (n : Nat) (w : World) (e : Ending) (w' : World) : Prop :=
  Below w.heap.size w w' ∧ (z.e = 0 → ∃ A c, e = .returned (.tuple #[.slice A l.length c, .int .i64 n, .int .i64 0]) ∧ l.length ≤ c ∧ c ≤ maxLen ∧ DeclsAt w' w.heap.size w'.heap.size A l) ∧
  (z.e ≠ 0 → e = .returned (.tuple #[.slice none 0 0, .int .i64 z.f, .int .i64 z.e]))
theorem DeclsAt.wide {w : World} {lo hi lo' hi' : Nat} {A : Option Addr} {l : List DT} (h : DeclsAt w lo hi A l) (h1 : lo' ≤ lo) (h2 : hi ≤ hi') : DeclsAt w lo' hi' A l := by
  intro i hi0
  obtain ⟨b, o, p, hA, h3, h4, h5, h6⟩ := h i hi0
  exact ⟨b, o, p, hA, by omega, by omega, h5, h6.to (fun _ _ _ _ => rfl) (fun b h1 h2 => ⟨by omega, by omega⟩)⟩

set_option maxHeartbeats 4000000 in
theorem read_decls {s : ByteArray} {ns : List Int} {w : World} {l : List Tk} {stop : Nat} {lp : List DT} {s' : St} (hs : s.size ≤ 65535) (hp : Parse (bytesL s) ns []) (hx : Lex s (skipL (bytesL s)) 0 l stop 0)
    (hc : ∀ r g cap, ChainX (withEnd l s.size) (OneD 35 r g (withEnd l s.size) cap) (nxGo (withEnd l s.size)) 8192 0 s0 lp s') :
    Calls Try.prog 14 #[.string s, .func (.func 15) #[] #[]] w (DeclsOut lp (endS (withEnd l s.size) s') s.size w) := by
  have hstop : stop = s.size := by rcases lex_err hx with ⟨_, h⟩ | h | h <;> first | exact h | cases h
  subst hstop
  have HALL := Lib.hid (fun (V : World) => tokAll_any s ns V l s.size 0 hs hp hx)
  have HT := Lib.hid (fun (V V' : World) (v : Value) (h : AllOut V V' v l s.size 0) => toks_of hs hx h)
  obtain ⟨L, hL⟩ : ∃ L, withEnd l s.size = L := ⟨_, rfl⟩
  have HLN : Hid (L.length = l.length + 1) := Lib.hid (by rw [← hL, withEnd_length])
  rw [hL] at hc HT ⊢
  have HW := Lib.hid (fun (V : World) (r g cap : Nat) (h : Rd V r g L cap s0) => decls_c h (hc r g cap))
  unfold ListDR at HW
  clear hp hx hc hL
  go_enter Try.func14, Try.ntmps14
  go_wp2_with fail
  refine (HALL.out _).mono ?_; rintro e w1 ⟨v, rfl, hall, hb1⟩
  obtain ⟨g, cap, rfl, hg, htk⟩ := HT.out _ _ _ hall
  have hs1 := hb1.size
  have HB1 := Lib.hid hb1
  have hl0 := HLN.out
  have HRD : Hid (Rd (w1.alloc (.cells #[.slice (some ⟨g, 0, none⟩) (l.length + 1) cap, .int .i64 0, .int .i64 0] 80)) w1.heap.size g L cap s0) := Lib.hid (by
    refine ⟨?_, by show 0 < _; omega, htk.lt, htk.kept (r := w1.heap.size) (Kp.of ((Below.refl _ _).alloc (Nat.le_refl _) _)) (by have := htk.lt; omega)⟩
    have := Bk.new w1 80 #[.slice (some ⟨g, 0, none⟩) (l.length + 1) cap, .int .i64 0, .int .i64 0]
    show Bk _ _ _ #[.slice (some ⟨g, 0 * 3, none⟩) (L.length - 0) (cap - 0), .int .i64 0, .int .i64 0]
    rw [Nat.zero_mul, Nat.sub_zero, Nat.sub_zero, hl0]
    exact this)
  clear hall htk hb1 HALL HT hl0
  go_wp2_with fail
  refine (HW.out _ _ _ _ HRD.out).mono ?_; rintro e w2 ⟨A, c, rfl, hl1, hl2, hns, hr2, hk2⟩
  have hs2 := hk2.size
  simp at hs2
  have HB2 : Hid (Below w.heap.size w w2) := Lib.hid ((HB1.out.alloc hs1 _).trans (hk2.under hs1 (by simp; omega)))
  have HLA := Lib.hid hl1
  have HLB := Lib.hid hl2
  have HNS := Lib.hid hns
  have HR2 := Lib.hid hr2
  have HGO := Lib.hid (goesOn_tells hr2)
  have HBAD := Lib.hid (bad_moves hr2)
  clear hl1 hl2 hns hk2 HRD HW
  have hc2 : w2.cell? ⟨w1.heap.size, 2, none⟩ = some (.int .i64 s'.e) := hr2.bk.cell 2
  have hc1 : w2.cell? ⟨w1.heap.size, 1, none⟩ = some (.int .i64 s'.f) := hr2.bk.cell 1
  have hlt2 := hr2.bk.lt
  cases hen : enB L s'.k with
  | true =>
    rw [hen] at HGO
    have hE : endS L s' = s' := by unfold endS; rw [if_pos hen]
    by_cases he : s'.e = 0
    · have hb : (s'.e != 0) = false := by simpa using he
      have HOUT : Hid (DeclsOut lp (endS L s') s.size w (.returned (.tuple #[.slice A lp.length c, .int .i64 s.size, .int .i64 0])) w2) := Lib.hid (by rw [hE]; exact ⟨HB2.out, fun _ => ⟨A, c, rfl, HLA.out, HLB.out, HNS.out.wide (by simp; omega) (Nat.le_refl _)⟩, fun h => absurd he h⟩)
      clear hE hen hr2 he HBAD HNS HR2 HB2 HLA HLB
      go_wp2_with fail
      refine HGO.out.mono ?_; rintro e w' ⟨rfl, rfl⟩
      go_wp2_with fail
      refine bodyPost_ret (v := .tuple #[.slice A lp.length c, .int .i64 s.size, .int .i64 0]) (by simp [results, Try.results14, go_sem]) rfl ?_
      exact HOUT.out
    · have hb : (s'.e != 0) = true := by simpa using he
      have HOUT : Hid (DeclsOut lp (endS L s') s.size w (.returned (.tuple #[.slice none 0 0, .int .i64 s'.f, .int .i64 s'.e])) w2) := Lib.hid (by rw [hE]; exact ⟨HB2.out, fun h => absurd h he, fun _ => rfl⟩)
      have HOUTD : Hid (DeclsOut lp (endS L s') s.size w (.returned (.tuple #[.slice none 0 0, .int .i64 s'.f, .int .i64 s'.e])) w2.drew) := Lib.hid (by rw [hE]; exact ⟨HB2.out.drew, fun h => absurd h he, fun _ => rfl⟩)
      clear hE hen hr2 he HBAD HNS HR2 HB2 HLA HLB
      go_wp2_with fail
      refine HGO.out.mono ?_; rintro e w' ⟨rfl, rfl⟩
      go_wp2_with fail
      go_region
      all_goals
        go_wp2_with fail
        refine bodyPost_ret (v := .tuple #[.slice none 0 0, .int .i64 s'.f, .int .i64 s'.e]) (by simp [results, Try.results14, go_sem]) rfl ?_
        first | exact HOUT.out | exact HOUTD.out
  | false =>
    rw [hen] at HGO
    have hE0 : endS L s' = badS L s' := by unfold endS; rw [if_neg (by rw [hen]; simp)]
    obtain ⟨z, hz⟩ : ∃ z, badS L s' = z := ⟨_, rfl⟩
    rw [hz] at HBAD hE0
    have HE := Lib.hid hE0
    clear hE0
    have hze : z.e ≠ 0 := by
      rw [← hz]; unfold badS failS
      show (if s'.e = 0 then (1 : Int) else s'.e) ≠ 0
      split
      · decide
      · assumption
    clear hen hr2 hz HNS HR2 HLA HLB hc1 hc2
    go_wp2_with fail
    refine HGO.out.mono ?_; rintro e w' ⟨rfl, rfl⟩
    go_wp2_with fail
    refine HBAD.out.mono ?_; rintro e w3 ⟨rfl, hr3, hk3⟩
    have hb : (z.e != 0) = true := by simpa using hze
    have HB3 := Lib.hid (HB2.out.trans (hk3.under hs1 (by omega)))
    have HOUT : Hid (DeclsOut lp (endS L s') s.size w (.returned (.tuple #[.slice none 0 0, .int .i64 z.f, .int .i64 z.e])) w3) := Lib.hid (by rw [HE.out]; exact ⟨HB3.out, fun h => absurd h hze, fun _ => rfl⟩)
    have HOUTD : Hid (DeclsOut lp (endS L s') s.size w (.returned (.tuple #[.slice none 0 0, .int .i64 z.f, .int .i64 z.e])) w3.drew) := Lib.hid (by rw [HE.out]; exact ⟨HB3.out.drew, fun h => absurd h hze, fun _ => rfl⟩)
    have hd2 : w3.cell? ⟨w1.heap.size, 2, none⟩ = some (.int .i64 z.e) := hr3.bk.cell 2
    have hd1 : w3.cell? ⟨w1.heap.size, 1, none⟩ = some (.int .i64 z.f) := hr3.bk.cell 1
    have hlt3 := hr3.bk.lt
    clear hr3 hk3 hze
    go_wp2_with fail
    go_region
    all_goals
      go_wp2_with fail
      refine bodyPost_ret (v := .tuple #[.slice none 0 0, .int .i64 z.f, .int .i64 z.e]) (by simp [results, Try.results14, go_sem]) rfl ?_
      first | exact HOUT.out | exact HOUTD.out


set_option maxHeartbeats 1000000 in
theorem file_c {s : ByteArray} {ns : List Int} {w : World} {l : List Tk} {stop : Nat} {lp : List DT} {s' : St} (hs : s.size ≤ 65535) (hp : Parse (bytesL s) ns []) (hx : Lex s (skipL (bytesL s)) 0 l stop 0)
    (hc : ∀ r g cap, ChainX (withEnd l s.size) (OneD 35 r g (withEnd l s.size) cap) (nxGo (withEnd l s.size)) 8192 0 s0 lp s') :
    Calls Try.prog 7 #[.string s] w (DeclsOut lp (endS (withEnd l s.size) s') s.size w) := by
  have H := Lib.hid (read_decls (w := w) hs hp hx hc)
  obtain ⟨z, hz⟩ : ∃ z, endS (withEnd l s.size) s' = z := ⟨_, rfl⟩
  rw [hz] at H ⊢
  clear hp hx hc hz
  go_enter Try.func7, Try.ntmps7
  go_wp2_with fail
  refine H.out.mono ?_; rintro e w1 hx
  have HX := Lib.hid hx
  obtain ⟨-, h1, h2⟩ := hx
  by_cases he : z.e = 0
  · obtain ⟨A, c, rfl, -⟩ := h1 he
    clear h1 h2 he
    go_wp2_with fail
    refine bodyPost_ret (v := .tuple #[.slice A lp.length c, .int .i64 s.size, .int .i64 0]) (by simp [results, Try.results7, go_sem]) rfl ?_
    exact HX.out
  · obtain rfl := h2 he
    clear h1 h2 he
    go_wp2_with fail
    refine bodyPost_ret (v := .tuple #[.slice none 0 0, .int .i64 z.f, .int .i64 z.e]) (by simp [results, Try.results7, go_sem]) rfl ?_
    exact HX.out


end Go.Proofs.Ytkccjfbgepmfkaa

/- What a file's declarations are, as relations over the tokens: the program's functions do just this; there is one at every state; tokens of the same kinds and texts give the same but for offsets. -/
namespace Go.Proofs.Ytkccjfbgepmfkaa
open Go.RowKit
set_option linter.unusedVariables false
set_option maxRecDepth 100000

def semiT : ByteArray := ⟨#[59]⟩
def eqT : ByteArray := ⟨#[61]⟩
def lbT : ByteArray := ⟨#[123]⟩
def rbT : ByteArray := ⟨#[125]⟩
def TypedR (L : List Tk) (s : St) (x : BT) (s' : St) : Prop :=
  ∃ t, x = ⟨(tk L (nameS L s).k).2.1, (tk L (nameS L s).k).2.2, t⟩ ∧ ExprR L (takeS L ⟨#[58]⟩ (stepS L (nameS L s))) t s'
def BindRl (L : List Tk) (s : St) (x : BT) (s' : St) : Prop := ∃ s2, TypedR L (takeS L ⟨#[40]⟩ s) x s2 ∧ takeS L ⟨#[41]⟩ s2 = s'
def ConRl (L : List Tk) (s : St) (x : BT) (s' : St) : Prop := ∃ s2, TypedR L s x s2 ∧ takeS L ⟨#[59]⟩ s2 = s'
def RowRl (L : List Tk) (s : St) (x : CT) (s' : St) : Prop :=
  ∃ l s1, PatsR L 0 s l s1 ∧ ((mkB L s1.k ⟨#[61]⟩ = true ∧ ∃ t s3, ExprR L (stepS L s1) t s3 ∧ x = ⟨(tk L s.k).2.2, l, true, t⟩ ∧ takeS L ⟨#[59]⟩ s3 = s') ∨
    (mkB L s1.k ⟨#[61]⟩ = false ∧ x = ⟨(tk L s.k).2.2, l, false, zeroT⟩ ∧ takeS L ⟨#[59]⟩ s1 = s'))
def DeclRl (L : List Tk) (s : St) (x : DT) (s' : St) : Prop :=
  ∃ v s1, KindR L s v s1 ∧
    ((v ≠ 3 ∧ ∃ te s4 t s6 co s8, ChainX L (BindRl L) (nxOp L) 24 0 (stepS L (nameS L (stepS L s1))) te s4 ∧ ExprR L (takeS L ⟨#[58]⟩ s4) t s6 ∧ ChainX L (ConRl L) (nxIn L) 16 0 (takeS L ⟨#[123]⟩ s6) co s8 ∧ takeS L ⟨#[125]⟩ s8 = s' ∧
      x = ⟨v, (tk L s1.k).2.2, (tk L (nameS L (stepS L s1)).k).2.1, te, t, co, []⟩) ∨
     (v = 3 ∧ ∃ t s6 ro s8, ExprR L (takeS L ⟨#[58]⟩ (stepS L (nameS L (stepS L s1)))) t s6 ∧ ChainX L (RowRl L) (nxIn L) 32 0 (takeS L ⟨#[123]⟩ s6) ro s8 ∧ takeS L ⟨#[125]⟩ s8 = s' ∧
      x = ⟨v, (tk L s1.k).2.2, (tk L (nameS L (stepS L s1)).k).2.1, [], t, [], ro⟩))
def FileR (L : List Tk) (s : St) (l : List DT) (s' : St) : Prop := ChainX L (DeclRl L) (nxGo L) 8192 0 s l s'

theorem chainX_map {α : Type} {L : List Tk} {one one' : St → α → St → Prop} {more : Nat → Bool} {most n : Nat} {s s' : St} {l : List α} (hm : ∀ s x s', one s x s' → one' s x s') (h : ChainX L one more most n s l s') : ChainX L one' more most n s l s' := by
  induction h with
  | stop h => exact .stop h
  | full h1 h2 h3 => exact .full h1 h2 h3
  | next h1 h2 h3 h4 _ ih => exact .next h1 h2 h3 (hm _ _ _ h4) ih

section
variable {L : List Tk} {s s' : St} (r g cap : Nat)
theorem typedR_one {x : BT} (h : TypedR L s x s') : OneB 83 r g L cap s x s' := by
  obtain ⟨t, rfl, he⟩ := h
  exact typed_c rfl rfl rfl (exprR_one he r g cap)
theorem bindR_one {x : BT} (h : BindRl L s x s') : OneB 63 r g L cap s x s' := by
  obtain ⟨s2, ht, h3⟩ := h
  exact bind_c rfl (typedR_one r g cap ht) h3
theorem conR_one {x : BT} (h : ConRl L s x s') : OneB 68 r g L cap s x s' := by
  obtain ⟨s2, ht, h3⟩ := h
  exact con_c (s1 := s) (typedR_one r g cap ht) h3
theorem rowR_one {x : CT} (h : RowRl L s x s') : OneR 67 r g L cap s x s' := by
  obtain ⟨l, s1, hp, ⟨hm, t, s3, he, rfl, h4⟩ | ⟨hm, rfl, h4⟩⟩ := h
  · exact row_body (patsR_chain hp r g cap) hm (exprR_one he r g cap) rfl h4
  · exact row_none (s2 := s1) (s3 := s1) (t := zeroT) (patsR_chain hp r g cap) hm h4
theorem declR_one {x : DT} (h : DeclRl L s x s') : OneD 35 r g L cap s x s' := by
  obtain ⟨v, s1, hk, ⟨hv, te, s4, t, s6, co, s8, ht, he, hl, h9, rfl⟩ | ⟨hv, t, s6, ro, s8, he, hl, h9, rfl⟩⟩ := h
  · exact decl_data (ro := []) hk rfl rfl rfl (chainX_map (fun _ _ _ h => bindR_one r g cap h) ht) rfl (exprR_one he r g cap) rfl (chainX_map (fun _ _ _ h => conR_one r g cap h) hl) h9 hv
  · exact decl_def (s4 := s1) (te := []) (co := []) hk rfl rfl rfl rfl (exprR_one he r g cap) rfl (chainX_map (fun _ _ _ h => rowR_one r g cap h) hl) h9 hv
end
/-- parse.File of a text that is cut into tokens: what the grammar says of them. -/
theorem file_of {s : ByteArray} {ns : List Int} {w : World} {l : List Tk} {stop : Nat} {ld : List DT} {s' : St} (hs : s.size ≤ 65535) (hp : Parse (bytesL s) ns []) (hx : Lex s (skipL (bytesL s)) 0 l stop 0)
    (hr : FileR (withEnd l s.size) s0 ld s') : Calls Try.prog 7 #[.string s] w (DeclsOut ld (endS (withEnd l s.size) s') s.size w) :=
  file_c hs hp hx (fun r g cap => chainX_map (fun _ _ _ h => declR_one r g cap h) hr)

/-! ### there is one at every state -/
section
variable {L : List Tk} (hL : EndAt L)
include hL
theorem typedR_ex (s : St) (hk : s.k < L.length) : ∃ x s', TypedR L s x s' ∧ s'.k < L.length := by
  have h1 : (nameS L s).k < L.length := by
    unfold nameS
    split
    · exact hk
    · exact (fail_fwd hk _ _).1
  have h2 := (step_fwd h1).1
  have h3 := (take_fwd h2 ⟨#[58]⟩).1
  obtain ⟨t, s', he, hf⟩ := exprR_ex hL _ h3
  exact ⟨_, s', ⟨t, rfl, he⟩, hf.1⟩
theorem bindR_ex (s : St) (hk : s.k < L.length) : ∃ x s', BindRl L s x s' ∧ s'.k < L.length := by
  obtain ⟨x, s2, h, h2⟩ := typedR_ex hL _ (take_fwd hk ⟨#[40]⟩).1
  exact ⟨x, _, ⟨s2, h, rfl⟩, (take_fwd h2 _).1⟩
theorem conR_ex (s : St) (hk : s.k < L.length) : ∃ x s', ConRl L s x s' ∧ s'.k < L.length := by
  obtain ⟨x, s2, h, h2⟩ := typedR_ex hL s hk
  exact ⟨x, _, ⟨s2, h, rfl⟩, (take_fwd h2 _).1⟩
theorem rowR_ex (s : St) (hk : s.k < L.length) : ∃ x s', RowRl L s x s' ∧ s'.k < L.length := by
  obtain ⟨l, s1, hp, h1, h2⟩ := patsR_ex hL 24 0 s (by omega) (by omega) hk
  cases hm : mkB L s1.k ⟨#[61]⟩ with
  | true =>
    obtain ⟨t, s3, he, hf⟩ := exprR_ex hL _ (step_fwd h2).1
    exact ⟨_, _, ⟨l, s1, hp, .inl ⟨hm, t, s3, he, rfl, rfl⟩⟩, (take_fwd hf.1 _).1⟩
  | false => exact ⟨_, _, ⟨l, s1, hp, .inr ⟨hm, rfl, rfl⟩⟩, (take_fwd h2 _).1⟩
omit hL in
theorem chainX_ex {α : Type} {one : St → α → St → Prop} {more : Nat → Bool} {most : Nat} (hone : ∀ s, s.k < L.length → ∃ x s', one s x s' ∧ s'.k < L.length) (m : Nat) : ∀ (n : Nat) (s : St), most - n ≤ m → n ≤ most → s.k < L.length → ∃ l s', ChainX L one more most n s l s' ∧ s'.k < L.length := by
  induction m with
  | zero =>
    intro n s h1 h2 hk
    by_cases hp : s.e = 0 ∧ more s.k = true
    · exact ⟨_, _, .full hp.1 hp.2 (by omega), (fail_fwd hk _ _).1⟩
    · exact ⟨_, _, .stop hp, hk⟩
  | succ m ih =>
    intro n s h1 h2 hk
    by_cases hp : s.e = 0 ∧ more s.k = true
    · by_cases hn : n = most
      · exact ⟨_, _, .full hp.1 hp.2 hn, (fail_fwd hk _ _).1⟩
      · obtain ⟨x, s1, ho, h3⟩ := hone s hk
        obtain ⟨l, s2, hc, h4⟩ := ih (n + 1) s1 (by omega) (by omega) h3
        exact ⟨_, _, .next hp.1 hp.2 hn ho hc, h4⟩
    · exact ⟨_, _, .stop hp, hk⟩
theorem declR_ex (s : St) (hk : s.k < L.length) : ∃ x s', DeclRl L s x s' ∧ s'.k < L.length := by
  obtain ⟨v, s1, hv⟩ := kindR_ex L s
  have h1 : s1.k < L.length := by
    rcases hv with ⟨_, _, rfl⟩ | ⟨_, _, _, rfl⟩ | ⟨_, _, _, _, rfl⟩ | ⟨_, _, _, _, rfl⟩
    · exact hk
    · exact hk
    · exact hk
    · exact (fail_fwd hk _ _).1
  have h2 := (step_fwd h1).1
  have h3 : (nameS L (stepS L s1)).k < L.length := by
    unfold nameS
    split
    · exact h2
    · exact (fail_fwd h2 _ _).1
  have h4 := (step_fwd h3).1
  by_cases h : v = 3
  · obtain ⟨t, s6, he, hf⟩ := exprR_ex hL _ (take_fwd h4 ⟨#[58]⟩).1
    obtain ⟨ro, s8, hl, h8⟩ := chainX_ex (rowR_ex hL) (more := nxIn L) (most := 32) 32 0 _ (by omega) (by omega) (take_fwd hf.1 ⟨#[123]⟩).1
    exact ⟨_, _, ⟨v, s1, hv, .inr ⟨h, t, s6, ro, s8, he, hl, rfl, rfl⟩⟩, (take_fwd h8 _).1⟩
  · obtain ⟨te, s4, ht, h5⟩ := chainX_ex (bindR_ex hL) (more := nxOp L) (most := 24) 24 0 _ (by omega) (by omega) h4
    obtain ⟨t, s6, he, hf⟩ := exprR_ex hL _ (take_fwd h5 ⟨#[58]⟩).1
    obtain ⟨co, s8, hl, h8⟩ := chainX_ex (conR_ex hL) (more := nxIn L) (most := 16) 16 0 _ (by omega) (by omega) (take_fwd hf.1 ⟨#[123]⟩).1
    exact ⟨_, _, ⟨v, s1, hv, .inl ⟨h, te, s4, t, s6, co, s8, ht, he, hl, rfl, rfl⟩⟩, (take_fwd h8 _).1⟩
theorem fileR_ex (s : St) (hk : s.k < L.length) : ∃ l s', FileR L s l s' ∧ s'.k < L.length :=
  chainX_ex (declR_ex hL) (more := nxGo L) (most := 8192) 8192 0 s (by omega) (by omega) hk
end

/-! ### tokens of the same kinds and texts -/
inductive All2 {α : Type} (E : α → α → Prop) : List α → List α → Prop
  | nil : All2 E [] []
  | cons {x y : α} {l l' : List α} : E x y → All2 E l l' → All2 E (x :: l) (y :: l')
theorem All2.length {α : Type} {E : α → α → Prop} {l l' : List α} (h : All2 E l l') : l.length = l'.length := by
  induction h with
  | nil => rfl
  | cons _ _ ih => simp [ih]
def EqvB (x y : BT) : Prop := x.s = y.s ∧ Eqv x.t y.t
def EqvR (x y : CT) : Prop := x.h = y.h ∧ EqvL x.ps y.ps ∧ Eqv x.t y.t
def EqvD (x y : DT) : Prop := x.k = y.k ∧ x.s = y.s ∧ All2 EqvB x.te y.te ∧ Eqv x.t y.t ∧ All2 EqvB x.co y.co ∧ All2 EqvR x.ro y.ro
theorem chainX_same {α : Type} {L M : List Tk} (hS : SameTk L M) {one one' : St → α → St → Prop} {more more' : Nat → Bool} {most : Nat} {E : α → α → Prop} (hm : ∀ k, more k = more' k)
    (hone : ∀ s x s' z, one s x s' → SameSt s z → ∃ y z', one' z y z' ∧ SameSt s' z' ∧ E x y) {n : Nat} {s s' : St} {l : List α} (h : ChainX L one more most n s l s') :
    ∀ z, SameSt s z → ∃ l' z', ChainX M one' more' most n z l' z' ∧ SameSt s' z' ∧ All2 E l l' := by
  induction h with
  | stop h => intro z hz; exact ⟨_, _, .stop (by rw [← hm, ← hz.1, ← hz.2]; exact h), hz, .nil⟩
  | full h1 h2 h3 => intro z hz; exact ⟨_, _, .full (by rw [← hz.2]; exact h1) (by rw [← hm, ← hz.1]; exact h2) h3, fail_same hS hz _ _ _, .nil⟩
  | next h1 h2 h3 h4 _ ih =>
    intro z hz
    obtain ⟨y, z1, ho, hs, he⟩ := hone _ _ _ z h4 hz
    obtain ⟨l', z2, hc, hs2, he2⟩ := ih z1 hs
    exact ⟨_, _, .next (by rw [← hz.2]; exact h1) (by rw [← hm, ← hz.1]; exact h2) h3 ho hc, hs2, .cons he he2⟩
section
variable {L M : List Tk} (hS : SameTk L M)
include hS
theorem name_same {s z : St} (hz : SameSt s z) : SameSt (nameS L s) (nameS M z) := by
  unfold nameS
  rw [nm_same hS, hz.1]
  split
  · exact hz
  · exact fail_same hS hz _ _ _
theorem typedR_same (s : St) (x : BT) (s' z : St) (h : TypedR L s x s') (hz : SameSt s z) : ∃ y z', TypedR M z y z' ∧ SameSt s' z' ∧ EqvB x y := by
  obtain ⟨t, rfl, he⟩ := h
  have h1 := name_same hS hz
  obtain ⟨u, z', he', hs', hu⟩ := exprR_same hS (take_same hS (step_same hS h1) ⟨#[58]⟩) he
  refine ⟨_, z', ⟨u, rfl, he'⟩, hs', ?_, hu⟩
  show (tk L (nameS L s).k).2.1 = (tk M (nameS M z).k).2.1
  rw [hS.text, h1.1]
theorem bindR_same (s : St) (x : BT) (s' z : St) (h : BindRl L s x s') (hz : SameSt s z) : ∃ y z', BindRl M z y z' ∧ SameSt s' z' ∧ EqvB x y := by
  obtain ⟨s2, ht, rfl⟩ := h
  obtain ⟨y, z2, h2, hs2, he⟩ := typedR_same hS _ _ _ _ ht (take_same hS hz ⟨#[40]⟩)
  exact ⟨y, _, ⟨z2, h2, rfl⟩, take_same hS hs2 _, he⟩
theorem conR_same (s : St) (x : BT) (s' z : St) (h : ConRl L s x s') (hz : SameSt s z) : ∃ y z', ConRl M z y z' ∧ SameSt s' z' ∧ EqvB x y := by
  obtain ⟨s2, ht, rfl⟩ := h
  obtain ⟨y, z2, h2, hs2, he⟩ := typedR_same hS _ _ _ _ ht hz
  exact ⟨y, _, ⟨z2, h2, rfl⟩, take_same hS hs2 _, he⟩
theorem rowR_same (s : St) (x : CT) (s' z : St) (h : RowRl L s x s') (hz : SameSt s z) : ∃ y z', RowRl M z y z' ∧ SameSt s' z' ∧ EqvR x y := by
  obtain ⟨l, s1, hp, ⟨hm, t, s3, he, rfl, rfl⟩ | ⟨hm, rfl, rfl⟩⟩ := h
  · obtain ⟨l', z1, hp', hs1, hl⟩ := patsR_same hS hp z hz
    obtain ⟨u, z3, he', hs3, hu⟩ := exprR_same hS (step_same hS hs1) he
    exact ⟨_, _, ⟨l', z1, hp', .inl ⟨by rw [← mk_same hS, ← hs1.1]; exact hm, u, z3, he', rfl, rfl⟩⟩, take_same hS hs3 _, rfl, hl, hu⟩
  · obtain ⟨l', z1, hp', hs1, hl⟩ := patsR_same hS hp z hz
    exact ⟨_, _, ⟨l', z1, hp', .inr ⟨by rw [← mk_same hS, ← hs1.1]; exact hm, rfl, rfl⟩⟩, take_same hS hs1 _, rfl, hl, Eqv.leaf _ _ _ _ _⟩
theorem kindR_same (s : St) (v : Int) (s' z : St) (h : KindR L s v s') (hz : SameSt s z) : ∃ z', KindR M z v z' ∧ SameSt s' z' := by
  have k := fun u => (ky_same hS s.k u).symm.trans rfl
  rcases h with ⟨h1, rfl, rfl⟩ | ⟨h1, h2, rfl, rfl⟩ | ⟨h1, h2, h3, rfl, rfl⟩ | ⟨h1, h2, h3, rfl, rfl⟩
  · exact ⟨z, .inl ⟨by rw [← hz.1, ← ky_same hS]; exact h1, rfl, rfl⟩, hz⟩
  · exact ⟨z, .inr (.inl ⟨by rw [← hz.1, ← ky_same hS]; exact h1, by rw [← hz.1, ← ky_same hS]; exact h2, rfl, rfl⟩), hz⟩
  · exact ⟨z, .inr (.inr (.inl ⟨by rw [← hz.1, ← ky_same hS]; exact h1, by rw [← hz.1, ← ky_same hS]; exact h2, by rw [← hz.1, ← ky_same hS]; exact h3, rfl, rfl⟩)), hz⟩
  · exact ⟨_, .inr (.inr (.inr ⟨by rw [← hz.1, ← ky_same hS]; exact h1, by rw [← hz.1, ← ky_same hS]; exact h2, by rw [← hz.1, ← ky_same hS]; exact h3, rfl, rfl⟩)), fail_same hS hz _ _ _⟩
theorem declR_same (s : St) (x : DT) (s' z : St) (h : DeclRl L s x s') (hz : SameSt s z) : ∃ y z', DeclRl M z y z' ∧ SameSt s' z' ∧ EqvD x y := by
  have mIn : ∀ k, nxIn L k = nxIn M k := fun k => by unfold nxIn; rw [mk_same hS]
  have mOp : ∀ k, nxOp L k = nxOp M k := fun k => by unfold nxOp; rw [mk_same hS]
  obtain ⟨v, s1, hk, hc⟩ := h
  obtain ⟨z1, hk', hs1⟩ := kindR_same hS s v s1 z hk hz
  have hn := name_same hS (step_same hS hs1)
  have hst := step_same hS hn
  have htx : (tk L (nameS L (stepS L s1)).k).2.1 = (tk M (nameS M (stepS M z1)).k).2.1 := by rw [hS.text, hn.1]
  rcases hc with ⟨hv, te, s4, t, s6, co, s8, ht, he, hl, rfl, rfl⟩ | ⟨hv, t, s6, ro, s8, he, hl, rfl, rfl⟩
  · obtain ⟨te', z4, ht', hs4, e1⟩ := chainX_same hS mOp (bindR_same hS) ht _ hst
    obtain ⟨u, z6, he', hs6, e2⟩ := exprR_same hS (take_same hS hs4 ⟨#[58]⟩) he
    obtain ⟨co', z8, hl', hs8, e3⟩ := chainX_same hS mIn (conR_same hS) hl _ (take_same hS hs6 ⟨#[123]⟩)
    exact ⟨_, _, ⟨v, z1, hk', .inl ⟨hv, te', z4, u, z6, co', z8, ht', he', hl', rfl, rfl⟩⟩, take_same hS hs8 _, rfl, htx, e1, e2, e3, .nil⟩
  · obtain ⟨u, z6, he', hs6, e2⟩ := exprR_same hS (take_same hS hst ⟨#[58]⟩) he
    obtain ⟨ro', z8, hl', hs8, e3⟩ := chainX_same hS mIn (rowR_same hS) hl _ (take_same hS hs6 ⟨#[123]⟩)
    exact ⟨_, _, ⟨v, z1, hk', .inr ⟨hv, u, z6, ro', z8, he', hl', rfl, rfl⟩⟩, take_same hS hs8 _, rfl, htx, .nil, e2, .nil, e3⟩
theorem fileR_same {s s' z : St} {l : List DT} (h : FileR L s l s') (hz : SameSt s z) : ∃ l' z', FileR M z l' z' ∧ SameSt s' z' ∧ All2 EqvD l l' :=
  chainX_same hS (fun k => by unfold nxGo enB; rw [hS.kind]) (declR_same hS) h z hz
end

end Go.Proofs.Ytkccjfbgepmfkaa

/- The reading of declarations, run: what comes out is what the relations say. No program. -/
namespace Go.Proofs.Ytkccjfbgepmfkaa
open Go.RowKit
set_option linter.unusedVariables false
set_option maxRecDepth 100000

def exprC (L : List Tk) (f : Nat) (s : St) : Option (RT × St) := match reC L f .expr s with
  | some ([t], s1) => some (t, wholeS L s t s1)
  | _ => none
theorem exprC_sound {L : List Tk} {f : Nat} {s s' : St} {t : RT} (h : exprC L f s = some (t, s')) : ExprR L s t s' := by
  unfold exprC at h
  split at h
  · rename_i u s1 hr
    injection h with h
    injection h with h1 h2
    subst h1
    exact ⟨s1, reC_sound L f _ _ _ _ hr, h2⟩
  · cases h
def patC (L : List Tk) (f : Nat) (s : St) : Option (RT × St) := match reC L f .pat s with
  | some ([t], s1) => some (t, wholeS L s t s1)
  | _ => none
/-- A row of them, run: most of them, fuel m. -/
def chainC {α : Type} (L : List Tk) (one : St → Option (α × St)) (more : Nat → Bool) (most : Nat) : Nat → Nat → St → Option (List α × St)
  | 0, _, _ => none
  | m + 1, n, s => if s.e = 0 ∧ more s.k = true then (if n = most then some ([], failS L s (tk L s.k).2.2 2) else
      match one s with
      | some (t, s1) => match chainC L one more most m (n + 1) s1 with
        | some (l, s2) => some (t :: l, s2)
        | none => none
      | none => none) else some ([], s)
theorem chainC_sound {α : Type} {L : List Tk} {one : St → Option (α × St)} {One : St → α → St → Prop} {more : Nat → Bool} {most : Nat} (ho : ∀ s t s', one s = some (t, s') → One s t s') (m : Nat) :
    ∀ (n : Nat) (s : St) (l : List α) (s' : St), chainC L one more most m n s = some (l, s') → ChainX L One more most n s l s' := by
  induction m with
  | zero => intro n s l s' h; cases h
  | succ m ih =>
    intro n s l s' h
    rw [chainC] at h
    split at h
    · rename_i h1
      split at h
      · rename_i h2
        injection h with h
        injection h with h3 h4
        subst h3; subst h4
        exact .full h1.1 h1.2 h2
      · rename_i h2
        split at h
        · rename_i t s1 hr
          split at h
          · rename_i l' s2 hr2
            injection h with h
            injection h with h3 h4
            subst h3; subst h4
            exact .next h1.1 h1.2 h2 (ho _ _ _ hr) (ih _ _ _ _ hr2)
          · cases h
        · cases h
    · rename_i h1
      injection h with h
      injection h with h3 h4
      subst h3; subst h4
      exact .stop h1
theorem patsX_R {L : List Tk} {n : Nat} {s s' : St} {l : List RT} (h : ChainX L (fun s t s' => ∃ s1, RE L .pat s [t] s1 ∧ wholeS L s t s1 = s') (ptB L) 24 n s l s') : PatsR L n s l s' := by
  induction h with
  | stop h => exact .stop h
  | full h1 h2 h3 => exact .full h1 h2 h3
  | next h1 h2 h3 h4 _ ih =>
    obtain ⟨s1, hr, rfl⟩ := h4
    exact .next h1 h2 h3 hr ih
def patsC (L : List Tk) (f : Nat) (s : St) : Option (List RT × St) := chainC L (patC L f) (ptB L) 24 26 0 s
theorem patsC_sound {L : List Tk} {f : Nat} {s s' : St} {l : List RT} (h : patsC L f s = some (l, s')) : PatsR L 0 s l s' := by
  refine patsX_R (chainC_sound (fun z t z' hz => ?_) 26 0 s l s' h)
  unfold patC at hz
  split at hz
  · rename_i u s1 hr
    injection hz with hz
    injection hz with h1 h2
    subst h1
    exact ⟨s1, reC_sound L f _ _ _ _ hr, h2⟩
  · cases hz
def typedC (L : List Tk) (f : Nat) (s : St) : Option (BT × St) := match exprC L f (takeS L ⟨#[58]⟩ (stepS L (nameS L s))) with
  | some (t, s') => some (⟨(tk L (nameS L s).k).2.1, (tk L (nameS L s).k).2.2, t⟩, s')
  | none => none
theorem typedC_sound {L : List Tk} {f : Nat} {s s' : St} {x : BT} (h : typedC L f s = some (x, s')) : TypedR L s x s' := by
  unfold typedC at h
  split at h
  · rename_i t z hr
    injection h with h
    injection h with h1 h2
    subst h1; subst h2
    exact ⟨t, rfl, exprC_sound hr⟩
  · cases h
def bindC (L : List Tk) (f : Nat) (s : St) : Option (BT × St) := match typedC L f (takeS L ⟨#[40]⟩ s) with
  | some (x, s2) => some (x, takeS L ⟨#[41]⟩ s2)
  | none => none
theorem bindC_sound {L : List Tk} {f : Nat} (s : St) (x : BT) (s' : St) (h : bindC L f s = some (x, s')) : BindRl L s x s' := by
  unfold bindC at h
  split at h
  · rename_i y z hr
    injection h with h
    injection h with h1 h2
    subst h1
    exact ⟨z, typedC_sound hr, h2⟩
  · cases h
def conC (L : List Tk) (f : Nat) (s : St) : Option (BT × St) := match typedC L f s with
  | some (x, s2) => some (x, takeS L ⟨#[59]⟩ s2)
  | none => none
theorem conC_sound {L : List Tk} {f : Nat} (s : St) (x : BT) (s' : St) (h : conC L f s = some (x, s')) : ConRl L s x s' := by
  unfold conC at h
  split at h
  · rename_i y z hr
    injection h with h
    injection h with h1 h2
    subst h1
    exact ⟨z, typedC_sound hr, h2⟩
  · cases h
def rowC (L : List Tk) (f : Nat) (s : St) : Option (CT × St) := match patsC L f s with
  | some (l, s1) => if mkB L s1.k ⟨#[61]⟩ then (match exprC L f (stepS L s1) with
      | some (t, s3) => some (⟨(tk L s.k).2.2, l, true, t⟩, takeS L ⟨#[59]⟩ s3)
      | none => none) else some (⟨(tk L s.k).2.2, l, false, zeroT⟩, takeS L ⟨#[59]⟩ s1)
  | none => none
theorem rowC_sound {L : List Tk} {f : Nat} (s : St) (x : CT) (s' : St) (h : rowC L f s = some (x, s')) : RowRl L s x s' := by
  unfold rowC at h
  split at h
  · rename_i l s1 hr
    split at h
    · rename_i hm
      split at h
      · rename_i t s3 hr2
        injection h with h
        injection h with h1 h2
        exact ⟨l, s1, patsC_sound hr, .inl ⟨hm, t, s3, exprC_sound hr2, h1.symm, h2⟩⟩
      · cases h
    · rename_i hm
      injection h with h
      injection h with h1 h2
      exact ⟨l, s1, patsC_sound hr, .inr ⟨Bool.eq_false_iff.2 hm, h1.symm, h2⟩⟩
  · cases h
def kindC (L : List Tk) (s : St) : Int × St := if kyB L s.k dataT then (1, s) else if kyB L s.k recordT then (2, s) else if kyB L s.k defT then (3, s) else (0, badS L s)
theorem kindC_sound (L : List Tk) (s : St) : KindR L s (kindC L s).1 (kindC L s).2 := by
  unfold kindC KindR
  split
  · rename_i h1; exact .inl ⟨h1, rfl, rfl⟩
  · rename_i h1
    have h1 := Bool.eq_false_iff.2 h1
    split
    · rename_i h2; exact .inr (.inl ⟨h1, h2, rfl, rfl⟩)
    · rename_i h2
      have h2 := Bool.eq_false_iff.2 h2
      split
      · rename_i h3; exact .inr (.inr (.inl ⟨h1, h2, h3, rfl, rfl⟩))
      · rename_i h3; exact .inr (.inr (.inr ⟨h1, h2, Bool.eq_false_iff.2 h3, rfl, rfl⟩))
def declC (L : List Tk) (f : Nat) (s : St) : Option (DT × St) :=
  let v := (kindC L s).1
  let s1 := (kindC L s).2
  let s3 := stepS L (nameS L (stepS L s1))
  if v = 3 then (match exprC L f (takeS L ⟨#[58]⟩ s3) with
    | some (t, s6) => (match chainC L (rowC L f) (nxIn L) 32 34 0 (takeS L ⟨#[123]⟩ s6) with
      | some (ro, s8) => some (⟨v, (tk L s1.k).2.2, (tk L (nameS L (stepS L s1)).k).2.1, [], t, [], ro⟩, takeS L ⟨#[125]⟩ s8)
      | none => none)
    | none => none)
  else (match chainC L (bindC L f) (nxOp L) 24 26 0 s3 with
    | some (te, s4) => (match exprC L f (takeS L ⟨#[58]⟩ s4) with
      | some (t, s6) => (match chainC L (conC L f) (nxIn L) 16 18 0 (takeS L ⟨#[123]⟩ s6) with
        | some (co, s8) => some (⟨v, (tk L s1.k).2.2, (tk L (nameS L (stepS L s1)).k).2.1, te, t, co, []⟩, takeS L ⟨#[125]⟩ s8)
        | none => none)
      | none => none)
    | none => none)
theorem declC_sound {L : List Tk} {f : Nat} (s : St) (x : DT) (s' : St) (h : declC L f s = some (x, s')) : DeclRl L s x s' := by
  unfold declC at h
  simp only at h
  refine ⟨_, _, kindC_sound L s, ?_⟩
  split at h
  · rename_i hv
    split at h
    · rename_i t s6 he
      split at h
      · rename_i ro s8 hl
        injection h with h
        injection h with h1 h2
        exact .inr ⟨hv, t, s6, ro, s8, exprC_sound he, chainC_sound rowC_sound _ _ _ _ _ hl, h2, h1.symm⟩
      · cases h
    · cases h
  · rename_i hv
    split at h
    · rename_i te s4 ht
      split at h
      · rename_i t s6 he
        split at h
        · rename_i co s8 hl
          injection h with h
          injection h with h1 h2
          exact .inl ⟨hv, te, s4, t, s6, co, s8, chainC_sound bindC_sound _ _ _ _ _ ht, exprC_sound he, chainC_sound conC_sound _ _ _ _ _ hl, h2, h1.symm⟩
        · cases h
      · cases h
    · cases h
def fileC (L : List Tk) (f : Nat) (s : St) : Option (List DT × St) := chainC L (declC L f) (nxGo L) 8192 f 0 s
theorem fileC_sound {L : List Tk} {f : Nat} {s s' : St} {l : List DT} (h : fileC L f s = some (l, s')) : FileR L s l s' := chainC_sound declC_sound f 0 s l s' h

end Go.Proofs.Ytkccjfbgepmfkaa
