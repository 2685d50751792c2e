/- Tokens of the same kinds and texts are read alike: the same trees but for offsets. No program. -/
import Derived.Test.YtkccjfbgepmfkaaB7
import Derived.Test.YtkccjfbgepmfkaaA6
namespace Go.Proofs.Ytkccjfbgepmfkaa
open Go.RowKit
set_option linter.unusedVariables false
set_option maxRecDepth 100000

/-- The same but for offsets. -/
structure SameTk (L M : List Tk) : Prop where
  len : L.length = M.length
  kind : ∀ k, (tk L k).1 = (tk M k).1
  text : ∀ k, (tk L k).2.1 = (tk M k).2.1
def SameSt (s z : St) : Prop := s.k = z.k ∧ s.e = z.e
inductive Eqv : RT → RT → Prop
  | node {k a a' : Int} {s : ByteArray} {n : Int} {l l' : List RT} : l.length = l'.length → (∀ i (h : i < l.length) (h' : i < l'.length), Eqv l[i] l'[i]) → Eqv (.node k a s n l) (.node k a' s n l')
def EqvL (l l' : List RT) : Prop := l.length = l'.length ∧ ∀ i (h : i < l.length) (h' : i < l'.length), Eqv l[i] l'[i]
theorem EqvL.nil : EqvL [] [] := ⟨rfl, fun i h => by simp at h⟩
theorem EqvL.cons {t u : RT} {l l' : List RT} (h : Eqv t u) (hl : EqvL l l') : EqvL (t :: l) (u :: l') := by
  refine ⟨by simp [hl.1], fun i h1 h2 => ?_⟩
  match i, h1, h2 with
  | 0, _, _ => exact h
  | i + 1, h1, h2 => exact hl.2 i (by simpa using h1) (by simpa using h2)
theorem EqvL.head {t : RT} {l : List RT} {m : List RT} (h : EqvL (t :: l) m) : ∃ u l', m = u :: l' ∧ Eqv t u ∧ EqvL l l' := by
  obtain ⟨hl, he⟩ := h
  match m, hl, he with
  | u :: l', hl, he =>
    exact ⟨u, l', rfl, he 0 (by simp) (by simp), by simpa using hl, fun i h1 h2 => he (i + 1) (by simpa using h1) (by simpa using h2)⟩
theorem EqvL.one {t : RT} {m : List RT} (h : EqvL [t] m) : ∃ u, m = [u] ∧ Eqv t u := by
  obtain ⟨u, l', rfl, he, hn⟩ := h.head
  have : l' = [] := List.eq_nil_of_length_eq_zero (by have := hn.1; simpa using this.symm)
  subst this
  exact ⟨u, rfl, he⟩
theorem Eqv.leaf (k a a' : Int) (s : ByteArray) (n : Int) : Eqv (.node k a s n []) (.node k a' s n []) := .node rfl (fun i h => by simp at h)
theorem Eqv.list {k a a' : Int} {s : ByteArray} {n : Int} {l l' : List RT} (h : EqvL l l') : Eqv (.node k a s n l) (.node k a' s n l') := .node h.1 h.2
theorem Eqv.two {k a a' : Int} {s : ByteArray} {n : Int} {t u t' u' : RT} (h : Eqv t t') (g : Eqv u u') : Eqv (.node k a s n [t, u]) (.node k a' s n [t', u']) := .list (.cons h (.cons g .nil))
theorem eqv_fold : ∀ (l l' : List RT) (t u : RT), EqvL l l' → Eqv t u → Eqv (l.foldl mkApp t) (l'.foldl mkApp u)
  | [], l', t, u, hl, h => by
    have : l' = [] := List.eq_nil_of_length_eq_zero (by have := hl.1; simpa using this.symm)
    subst this; exact h
  | x :: l, l', t, u, hl, h => by
    obtain ⟨y, m, rfl, h1, h2⟩ := hl.head
    exact eqv_fold l m _ _ h2 (Eqv.two h h1)

theorem isB_same {L M : List Tk} (h : SameTk L M) (k : Nat) (d : Int) (u : ByteArray) : isB L k d u = isB M k d u := by unfold isB; rw [h.kind, h.text]
theorem mk_same {L M : List Tk} (h : SameTk L M) (k : Nat) (u : ByteArray) : mkB L k u = mkB M k u := isB_same h _ _ _
theorem ky_same {L M : List Tk} (h : SameTk L M) (k : Nat) (u : ByteArray) : kyB L k u = kyB M k u := isB_same h _ _ _
theorem lo_same {L M : List Tk} (h : SameTk L M) (k : Nat) : loB L k = loB M k := isB_same h _ _ _
theorem nm_same {L M : List Tk} (h : SameTk L M) (k : Nat) : nmdB L k = nmdB M k := by unfold nmdB; rw [h.kind, lo_same h]
theorem fn_same {L M : List Tk} (h : SameTk L M) (k : Nat) : fnB L k = fnB M k := by unfold fnB; rw [mk_same h, h.kind, h.kind, h.text]
theorem at_same {L M : List Tk} (h : SameTk L M) (k : Nat) : agB L k = agB M k := by unfold agB; rw [nm_same h, ky_same h, mk_same h, fn_same h]
theorem pt_same {L M : List Tk} (h : SameTk L M) (k : Nat) : ptB L k = ptB M k := by unfold ptB; rw [nm_same h, lo_same h, mk_same h, mk_same h]
theorem step_same {L M : List Tk} (h : SameTk L M) {s z : St} (hs : SameSt s z) : SameSt (stepS L s) (stepS M z) := by
  unfold stepS
  rw [← h.len, ← hs.1]
  split
  · exact ⟨by simp, hs.2⟩
  · exact hs
theorem fail_same {L M : List Tk} (h : SameTk L M) {s z : St} (hs : SameSt s z) (a a' e : Int) : SameSt (failS L s a e) (failS M z a' e) := by
  unfold failS
  exact ⟨by simp [h.len], by simp only; rw [hs.2]⟩
theorem take_same {L M : List Tk} (h : SameTk L M) {s z : St} (hs : SameSt s z) (u : ByteArray) : SameSt (takeS L u s) (takeS M u z) := by
  unfold takeS
  rw [mk_same h, hs.1]
  split
  · exact step_same h hs
  · exact step_same h (fail_same h hs _ _ _)
theorem var_same {L M : List Tk} (h : SameTk L M) {s z : St} (hs : SameSt s z) : SameSt (varS L s) (varS M z) := by
  unfold varS
  rw [h.kind, hs.1]
  split
  · exact hs
  · exact fail_same h hs _ _ _
theorem level_same {L M : List Tk} (h : SameTk L M) {s z s' : St} {v : Nat} (hs : SameSt s z) (hv : LevelR L s v s') : ∃ z', LevelR M z v z' ∧ SameSt s' z' := by
  obtain ⟨N, B, hn, hc⟩ := hv
  rw [h.text, hs.1] at hn
  rcases hc with ⟨h1, h2, h3, rfl⟩ | ⟨h1, h2, rfl⟩
  · exact ⟨_, ⟨N, B, hn, .inl ⟨h1, h2, h3, rfl⟩⟩, step_same h hs⟩
  · exact ⟨_, ⟨N, B, hn, .inr ⟨h1, h2, rfl⟩⟩, hs⟩

/-- The same job but for an offset. -/
def SameJob : Job → Job → Prop
  | .bound kd _, .bound kd' _ => kd = kd'
  | .appl _, .appl _ => True
  | .atoms n, .atoms m => n = m
  | .pats n, .pats m => n = m
  | .expr, .expr => True
  | .app, .app => True
  | .atom, .atom => True
  | .pat, .pat => True
  | .encl, .encl => True
  | _, _ => False

theorem re_same {L M : List Tk} (h : SameTk L M) {j : Job} {s s' : St} {l : List RT} (hr : RE L j s l s') : ∀ (j' : Job) (z : St), SameJob j j' → SameSt s z → ∃ l' z', RE M j' z l' z' ∧ SameSt s' z' ∧ EqvL l l' := by
  induction hr with
  | lam h1 _ ih =>
    intro j' z hj hz
    cases j' <;> try exact hj.elim
    obtain ⟨l', z', hr, hs, he⟩ := ih (.bound 4 (tk M z.k).2.2) (stepS M z) rfl (step_same h hz)
    obtain ⟨u, rfl, hu⟩ := he.one
    exact ⟨_, _, .lam (by rw [← mk_same h, ← hz.1]; exact h1) hr, hs, he⟩
  | pi h1 h2 _ ih =>
    intro j' z hj hz
    cases j' <;> try exact hj.elim
    obtain ⟨l', z', hr, hs, he⟩ := ih (.bound 3 (tk M z.k).2.2) z rfl hz
    obtain ⟨u, rfl, hu⟩ := he.one
    exact ⟨_, _, .pi (by rw [← mk_same h, ← hz.1]; exact h1) (by rw [← fn_same h, ← hz.1]; exact h2) hr, hs, he⟩
  | plain h1 h2 _ h3 ih =>
    intro j' z hj hz
    cases j' <;> try exact hj.elim
    obtain ⟨l', z', hr, hs, he⟩ := ih .app z trivial hz
    obtain ⟨u, rfl, hu⟩ := he.one
    exact ⟨_, _, .plain (by rw [← mk_same h, ← hz.1]; exact h1) (by rw [← fn_same h, ← hz.1]; exact h2) hr (by rw [← mk_same h, ← hs.1]; exact h3), hs, he⟩
  | arr h1 h2 _ h3 _ ih1 ih2 =>
    intro j' z hj hz
    cases j' <;> try exact hj.elim
    obtain ⟨l', z', hr, hs, he⟩ := ih1 .app z trivial hz
    obtain ⟨u, rfl, hu⟩ := he.one
    obtain ⟨l2, z2, hr2, hs2, he2⟩ := ih2 .expr (stepS M z') trivial (step_same h hs)
    obtain ⟨u2, rfl, hu2⟩ := he2.one
    exact ⟨_, _, .arr (by rw [← mk_same h, ← hz.1]; exact h1) (by rw [← fn_same h, ← hz.1]; exact h2) hr (by rw [← mk_same h, ← hs.1]; exact h3) hr2, hs2, .cons (.two hu hu2) .nil⟩
  | @bound kd a s s1 s2 s3 s4 s5 s6 s7 zz t u h1 h2 h3 h4 _ h5 h6 _ ih1 ih2 =>
    intro j' z hj hz
    cases j' <;> try exact hj.elim
    rename_i kd' a'
    obtain rfl : kd = kd' := hj
    have q1 : SameSt s1 (takeS M openT z) := by rw [← h1]; exact take_same h hz _
    have q2 := var_same h q1
    have q3 : SameSt s2 (stepS M (varS M (takeS M openT z))) := by rw [← h3]; exact step_same h q2
    have q4 : SameSt s3 (takeS M colonT (stepS M (varS M (takeS M openT z)))) := by rw [← h4]; exact take_same h q3 _
    obtain ⟨l', z', hr, hs, he⟩ := ih1 .expr _ trivial q4
    obtain ⟨v, rfl, hv⟩ := he.one
    have q5 : SameSt s5 (takeS M closeT z') := by rw [← h5]; exact take_same h hs _
    have q6 : SameSt s6 (takeS M arrowT (takeS M closeT z')) := by rw [← h6]; exact take_same h q5 _
    obtain ⟨l2, z2, hr2, hs2, he2⟩ := ih2 .expr _ trivial q6
    obtain ⟨v2, rfl, hv2⟩ := he2.one
    refine ⟨_, _, .bound rfl rfl rfl rfl hr rfl rfl hr2, hs2, .cons ?_ .nil⟩
    rw [← h2, q2.1, h.text]
    exact .two hv hv2
  | app _ _ ih1 ih2 =>
    intro j' z hj hz
    cases j' <;> try exact hj.elim
    obtain ⟨l', z', hr, hs, he⟩ := ih1 .atom z trivial hz
    obtain ⟨u, rfl, hu⟩ := he.one
    obtain ⟨l2, z2, hr2, hs2, he2⟩ := ih2 (.atoms 0) z' rfl hs
    exact ⟨_, _, .app hr hr2, hs2, .cons (eqv_fold _ _ _ _ he2 hu) .nil⟩
  | atomsStop h1 =>
    intro j' z hj hz
    cases j' <;> try exact hj.elim
    exact ⟨_, _, .atomsStop (by rw [← at_same h, ← hz.1, ← hz.2]; exact h1), hz, .nil⟩
  | atomsFull h1 h2 h3 =>
    intro j' z hj hz
    cases j' <;> try exact hj.elim
    rename_i m
    obtain rfl := (show _ = m from hj)
    exact ⟨_, _, .atomsFull (by rw [← hz.2]; exact h1) (by rw [← at_same h, ← hz.1]; exact h2) h3, fail_same h hz _ _ _, .nil⟩
  | atomsNext h1 h2 h3 _ _ ih1 ih2 =>
    intro j' z hj hz
    cases j' <;> try exact hj.elim
    rename_i m
    obtain rfl := (show _ = m from hj)
    obtain ⟨l', z', hr, hs, he⟩ := ih1 .atom z trivial hz
    obtain ⟨u, rfl, hu⟩ := he.one
    obtain ⟨l2, z2, hr2, hs2, he2⟩ := ih2 (.atoms _) z' rfl hs
    exact ⟨_, _, .atomsNext (by rw [← hz.2]; exact h1) (by rw [← at_same h, ← hz.1]; exact h2) h3 hr hr2, hs2, .cons hu he2⟩
  | atomName h1 =>
    intro j' z hj hz
    cases j' <;> try exact hj.elim
    refine ⟨_, _, .atomName (by rw [← nm_same h, ← hz.1]; exact h1), step_same h hz, .cons ?_ .nil⟩
    rw [h.text, hz.1]; exact .leaf _ _ _ _ _
  | atomSet h1 h2 h3 =>
    intro j' z hj hz
    cases j' <;> try exact hj.elim
    obtain ⟨z2, hv, hs⟩ := level_same h (step_same h hz) h3
    exact ⟨_, _, .atomSet (by rw [← nm_same h, ← hz.1]; exact h1) (by rw [← ky_same h, ← hz.1]; exact h2) hv, hs, .cons (.leaf _ _ _ _ _) .nil⟩
  | atomPar h1 h2 h3 _ ih =>
    intro j' z hj hz
    cases j' <;> try exact hj.elim
    obtain ⟨l', z', hr, hs, he⟩ := ih .expr _ trivial (step_same h hz)
    obtain ⟨u, rfl, hu⟩ := he.one
    exact ⟨_, _, .atomPar (by rw [← nm_same h, ← hz.1]; exact h1) (by rw [← ky_same h, ← hz.1]; exact h2) (by rw [← mk_same h, ← hz.1]; exact h3) hr, take_same h hs _, he⟩
  | atomBad h1 h2 h3 =>
    intro j' z hj hz
    cases j' <;> try exact hj.elim
    exact ⟨_, _, .atomBad (by rw [← nm_same h, ← hz.1]; exact h1) (by rw [← ky_same h, ← hz.1]; exact h2) (by rw [← mk_same h, ← hz.1]; exact h3), fail_same h hz _ _ _, .cons (.leaf _ _ _ _ _) .nil⟩
  | patName h1 =>
    intro j' z hj hz
    cases j' <;> try exact hj.elim
    refine ⟨_, _, .patName (by rw [← nm_same h, ← hz.1]; exact h1), step_same h hz, .cons ?_ .nil⟩
    rw [h.text, hz.1]; exact .leaf _ _ _ _ _
  | patAny h1 h2 =>
    intro j' z hj hz
    cases j' <;> try exact hj.elim
    exact ⟨_, _, .patAny (by rw [← nm_same h, ← hz.1]; exact h1) (by rw [← lo_same h, ← hz.1]; exact h2), step_same h hz, .cons (.leaf _ _ _ _ _) .nil⟩
  | patDot h1 h2 h3 _ ih =>
    intro j' z hj hz
    cases j' <;> try exact hj.elim
    obtain ⟨l', z', hr, hs, he⟩ := ih .atom _ trivial (step_same h hz)
    obtain ⟨u, rfl, hu⟩ := he.one
    exact ⟨_, _, .patDot (by rw [← nm_same h, ← hz.1]; exact h1) (by rw [← lo_same h, ← hz.1]; exact h2) (by rw [← mk_same h, ← hz.1]; exact h3) hr, hs, .cons (.list he) .nil⟩
  | patPar h1 h2 h3 h4 _ ih =>
    intro j' z hj hz
    cases j' <;> try exact hj.elim
    obtain ⟨l', z', hr, hs, he⟩ := ih .encl z trivial hz
    obtain ⟨u, rfl, hu⟩ := he.one
    exact ⟨_, _, .patPar (by rw [← nm_same h, ← hz.1]; exact h1) (by rw [← lo_same h, ← hz.1]; exact h2) (by rw [← mk_same h, ← hz.1]; exact h3) (by rw [← mk_same h, ← hz.1]; exact h4) hr, hs, he⟩
  | patBad h1 h2 h3 h4 =>
    intro j' z hj hz
    cases j' <;> try exact hj.elim
    exact ⟨_, _, .patBad (by rw [← nm_same h, ← hz.1]; exact h1) (by rw [← lo_same h, ← hz.1]; exact h2) (by rw [← mk_same h, ← hz.1]; exact h3) (by rw [← mk_same h, ← hz.1]; exact h4), fail_same h hz _ _ _, .cons (.leaf _ _ _ _ _) .nil⟩
  | encName h1 _ ih =>
    intro j' z hj hz
    cases j' <;> try exact hj.elim
    have q := step_same h hz
    obtain ⟨l', z', hr, hs, he⟩ := ih (.appl (tk M z.k).2.2) _ trivial q
    obtain ⟨u, rfl, hu⟩ := he.one
    exact ⟨_, _, .encName (by rw [← nm_same h, ← q.1]; exact h1) hr, take_same h hs _, he⟩
  | encNone h1 h2 =>
    intro j' z hj hz
    cases j' <;> try exact hj.elim
    have q := step_same h hz
    exact ⟨_, _, .encNone (by rw [← nm_same h, ← q.1]; exact h1) (by rw [← mk_same h, ← q.1]; exact h2), take_same h q _, .cons (.leaf _ _ _ _ _) .nil⟩
  | encPat h1 h2 _ ih =>
    intro j' z hj hz
    cases j' <;> try exact hj.elim
    have q := step_same h hz
    obtain ⟨l', z', hr, hs, he⟩ := ih .pat _ trivial q
    obtain ⟨u, rfl, hu⟩ := he.one
    exact ⟨_, _, .encPat (by rw [← nm_same h, ← q.1]; exact h1) (by rw [← mk_same h, ← q.1]; exact h2) hr, take_same h hs _, he⟩
  | applNil h1 _ ih =>
    intro j' z hj hz
    cases j' <;> try exact hj.elim
    obtain ⟨l', z', hr, hs, he⟩ := ih (.pats 0) _ rfl (step_same h hz)
    refine ⟨_, _, .applNil (by rw [← he.1]; exact h1) hr, hs, .cons ?_ .nil⟩
    rw [h.text, hz.1]; exact .leaf _ _ _ _ _
  | applCons h1 _ ih =>
    intro j' z hj hz
    cases j' <;> try exact hj.elim
    obtain ⟨l', z', hr, hs, he⟩ := ih (.pats 0) _ rfl (step_same h hz)
    refine ⟨_, _, .applCons (by rw [← he.1]; exact h1) hr, hs, .cons ?_ .nil⟩
    rw [h.text, hz.1]; exact .list he
  | patsStop h1 =>
    intro j' z hj hz
    cases j' <;> try exact hj.elim
    exact ⟨_, _, .patsStop (by rw [← pt_same h, ← hz.1, ← hz.2]; exact h1), hz, .nil⟩
  | patsFull h1 h2 h3 =>
    intro j' z hj hz
    cases j' <;> try exact hj.elim
    rename_i m
    obtain rfl := (show _ = m from hj)
    exact ⟨_, _, .patsFull (by rw [← hz.2]; exact h1) (by rw [← pt_same h, ← hz.1]; exact h2) h3, fail_same h hz _ _ _, .nil⟩
  | patsNext h1 h2 h3 _ _ ih1 ih2 =>
    intro j' z hj hz
    cases j' <;> try exact hj.elim
    rename_i m
    obtain rfl := (show _ = m from hj)
    obtain ⟨l', z', hr, hs, he⟩ := ih1 .pat z trivial hz
    obtain ⟨u, rfl, hu⟩ := he.one
    obtain ⟨l2, z2, hr2, hs2, he2⟩ := ih2 (.pats _) z' rfl hs
    exact ⟨_, _, .patsNext (by rw [← hz.2]; exact h1) (by rw [← pt_same h, ← hz.1]; exact h2) h3 hr hr2, hs2, .cons hu he2⟩

end Go.Proofs.Ytkccjfbgepmfkaa

/- Trees that are the same but for offsets are as great and as deep; wholes over tokens of the same kinds and texts. No program. -/
namespace Go.Proofs.Ytkccjfbgepmfkaa
open Go.RowKit
set_option linter.unusedVariables false
set_option maxRecDepth 100000

theorem sizeL_eqv : ∀ (l l' : List RT), l.length = l'.length → (∀ i (h : i < l.length) (h' : i < l'.length), l[i].size = l'[i].size) → sizeL l = sizeL l'
  | [], l', h, _ => by
    have : l' = [] := List.eq_nil_of_length_eq_zero (by simpa using h.symm)
    subst this; rfl
  | t :: l, u :: l', h, he => by
    rw [sizeL_cons, sizeL_cons, sizeL_eqv l l' (by simpa using h) (fun i h1 h2 => he (i + 1) (by simpa using h1) (by simpa using h2))]
    have := he 0 (by simp) (by simp)
    simp only [List.getElem_cons_zero] at this
    omega
theorem depthL_eqv : ∀ (l l' : List RT), l.length = l'.length → (∀ i (h : i < l.length) (h' : i < l'.length), l[i].depth = l'[i].depth) → depthL l = depthL l'
  | [], l', h, _ => by
    have : l' = [] := List.eq_nil_of_length_eq_zero (by simpa using h.symm)
    subst this; rfl
  | t :: l, u :: l', h, he => by
    rw [depthL_cons, depthL_cons, depthL_eqv l l' (by simpa using h) (fun i h1 h2 => he (i + 1) (by simpa using h1) (by simpa using h2))]
    have := he 0 (by simp) (by simp)
    simp only [List.getElem_cons_zero] at this
    omega
theorem eqv_size {t u : RT} (h : Eqv t u) : t.size = u.size ∧ t.depth = u.depth := by
  induction h with
  | node hl _ ih =>
    refine ⟨?_, ?_⟩
    · rw [size_node, size_node, sizeL_eqv _ _ hl (fun i h1 h2 => (ih i h1 h2).1)]
    · rw [depth_node, depth_node, depthL_eqv _ _ hl (fun i h1 h2 => (ih i h1 h2).2)]
theorem deep_eqv {t u : RT} (h : Eqv t u) : deepN t = deepN u := by
  obtain ⟨h1, h2⟩ := eqv_size h
  unfold deepN
  rw [h1, h2]
theorem whole_same {L M : List Tk} (h : SameTk L M) {s z s1 z1 : St} {t u : RT} (ht : Eqv t u) (h1 : SameSt s1 z1) : SameSt (wholeS L s t s1) (wholeS M z u z1) := by
  unfold wholeS
  rw [deep_eqv ht]
  split
  · exact fail_same h h1 _ _ _
  · exact h1
theorem exprR_same {L M : List Tk} (h : SameTk L M) {s z s' : St} {t : RT} (hz : SameSt s z) (hr : ExprR L s t s') : ∃ u z', ExprR M z u z' ∧ SameSt s' z' ∧ Eqv t u := by
  obtain ⟨s1, hr, rfl⟩ := hr
  obtain ⟨l', z1, hr', hs, he⟩ := re_same h hr .expr z trivial hz
  obtain ⟨u, rfl, hu⟩ := he.one
  exact ⟨u, _, ⟨z1, hr', rfl⟩, whole_same h hu hs, hu⟩
theorem patsR_same {L M : List Tk} (h : SameTk L M) {n : Nat} {s s' : St} {l : List RT} (hr : PatsR L n s l s') : ∀ z, SameSt s z → ∃ l' z', PatsR M n z l' z' ∧ SameSt s' z' ∧ EqvL l l' := by
  induction hr with
  | stop h1 => intro z hz; exact ⟨_, _, .stop (by rw [← pt_same h, ← hz.1, ← hz.2]; exact h1), hz, .nil⟩
  | full h1 h2 h3 => intro z hz; exact ⟨_, _, .full (by rw [← hz.2]; exact h1) (by rw [← pt_same h, ← hz.1]; exact h2) h3, fail_same h hz _ _ _, .nil⟩
  | next h1 h2 h3 h4 _ ih =>
    intro z hz
    obtain ⟨l', z1, hr', hs, he⟩ := re_same h h4 .pat z trivial hz
    obtain ⟨u, rfl, hu⟩ := he.one
    obtain ⟨l2, z2, hr2, hs2, he2⟩ := ih _ (whole_same h (s := _) (z := z) hu hs)
    exact ⟨_, _, .next (by rw [← hz.2]; exact h1) (by rw [← pt_same h, ← hz.1]; exact h2) h3 hr' hr2, hs2, .cons hu he2⟩
theorem end_same {L M : List Tk} (h : SameTk L M) {s z : St} (hz : SameSt s z) : SameSt (endS L s) (endS M z) := by
  unfold endS enB
  rw [h.kind, hz.1]
  split
  · exact hz
  · exact fail_same h hz _ _ _

end Go.Proofs.Ytkccjfbgepmfkaa

/- The text made of tokens' texts and gaps: it is UTF-8, it isn't long, and its tokens are read alike. No walk. -/
namespace Go.Proofs.Ytkccjfbgepmfkaa
open Go.RowKit
set_option linter.unusedVariables false
set_option maxRecDepth 100000

theorem same_tk {l l' : List Tk} {n n' : Nat} (h : l'.map (fun x => (x.1, x.2.1)) = l.map (fun x => (x.1, x.2.1))) : SameTk (withEnd l n) (withEnd l' n') := by
  have hl : l'.length = l.length := by have := congrArg List.length h; simpa using this
  have key : ∀ k, (tk (withEnd l n) k).1 = (tk (withEnd l' n') k).1 ∧ (tk (withEnd l n) k).2.1 = (tk (withEnd l' n') k).2.1 := fun k => by
    rcases Nat.lt_trichotomy k l.length with hk | rfl | hk
    · rw [withEnd_at hk, withEnd_at (show k < l'.length by omega)]
      have h1 := congrArg (fun z => z[k]?) h
      simp only [List.getElem?_map] at h1
      rw [List.getElem?_eq_getElem hk, List.getElem?_eq_getElem (show k < l'.length by omega)] at h1
      simp only [Option.map_some, Option.some.injEq, Prod.mk.injEq] at h1
      exact ⟨h1.1.symm, h1.2.symm⟩
    · rw [withEnd_last, ← hl, withEnd_last]; exact ⟨rfl, rfl⟩
    · have e1 : ∀ (m : List Tk) (q : Nat), m.length < k → tk (withEnd m q) k = tk [] 0 := fun m q hm => by
        unfold tk withEnd
        rw [List.getD_eq_getElem?_getD, List.getElem?_eq_none (by simp; omega)]; rfl
      rw [e1 l n hk, e1 l' n' (by omega)]; exact ⟨rfl, rfl⟩
  exact ⟨by rw [withEnd_length, withEnd_length, hl], fun k => (key k).1, fun k => (key k).2⟩

/-- A list of bytes that is the bytes of some signs. -/
def Fine (l : List Int) : Prop := ∃ ns, l = encAll ns ∧ ∀ n ∈ ns, rightB n = true
theorem Fine.app {l m : List Int} (h : Fine l) (k : Fine m) : Fine (l ++ m) := by
  obtain ⟨ns, rfl, h⟩ := h
  obtain ⟨ms, rfl, k⟩ := k
  exact ⟨ns ++ ms, (encAll_append _ _).symm, fun n hn => (List.mem_append.1 hn).elim (h n) (k n)⟩
theorem Fine.ascii : ∀ (l : List Int), (∀ b ∈ l, 0 ≤ b ∧ b < 128) → Fine l
  | [], _ => ⟨[], rfl, fun n hn => by cases hn⟩
  | b :: l, h => by
    have hb := h b (List.mem_cons_self ..)
    have e : encI b = [b] := encI_1 (by omega)
    have hr : rightB b = true := by unfold rightB; simp; omega
    have := Fine.app (l := [b]) ⟨[b], by show [b] = encI b ++ []; rw [e]; rfl, fun n hn => by rw [List.mem_singleton] at hn; rw [hn]; exact hr⟩ (Fine.ascii l (fun x hx => h x (List.mem_cons_of_mem _ hx)))
    exact this
theorem Fine.parse {l : List Int} (h : Fine l) : ∃ ns, Parse l ns [] := by
  obtain ⟨ns, e, h⟩ := h
  exact ⟨ns, by rw [e, List.append_nil], h, rfl⟩
theorem tok_fine {t u : ByteArray} {k : Int} {m : Nat} (h : TokOf t k u m) : Fine (bytesL u) ∧ 0 < u.size ∧ u.size ≤ m := by
  obtain ⟨_, n, hd, ⟨hw, hk, hwd, ⟨ns, r, hp, hu⟩, hm⟩ | ⟨hw, hk, hm⟩⟩ := h
  · obtain ⟨h0, hn0⟩ := parse_head hd hp
    have hpos : 0 < lead ns := lead_pos h0 (by rw [hn0]; exact hw)
    have hbu : bytesL u = encAll (ns.take (lead ns)) := by
      rw [hu, bytesL_extract, List.drop_zero, Nat.sub_zero, hp.eq]
      have h1 := offs_le ns (lead ns)
      rw [List.take_append_of_le_length h1, offs_take]
    refine ⟨⟨_, hbu, fun n hn => hp.right n (List.mem_of_mem_take hn)⟩, ?_, by rw [hm]; exact Nat.le_refl _⟩
    rw [← bytesL_length, hbu]
    have := offs_pos hpos h0
    exact this
  · rcases hm with ⟨hn, hbu, rfl⟩ | ⟨_, rfl, rfl⟩ | ⟨_, rfl, rfl⟩ | ⟨_, _, rfl, rfl⟩
    · have h1 := (within_mark hn).1
      have hs : u.size = 1 := by rw [← bytesL_length, hbu]; rfl
      have hn0 : 0 ≤ n := bytesL_nonneg u n (by rw [hbu]; exact List.mem_singleton_self _)
      exact ⟨by rw [hbu]; exact Fine.ascii _ (fun b hb => by rw [List.mem_singleton] at hb; omega), by omega, by omega⟩
    · exact ⟨Fine.ascii _ (by decide), by decide, by decide⟩
    · exact ⟨Fine.ascii _ (by decide), by decide, by decide⟩
    · exact ⟨Fine.ascii _ (by decide), by decide, by decide⟩
theorem lex_le {s : ByteArray} {a c stop : Nat} {l : List (Int × ByteArray × Nat)} {e : Int} (h : Lex s a c l stop e) : a ≤ s.size := by
  cases h <;> omega
/-- Each token's text is UTF-8 and isn't empty; the texts with their gaps are UTF-8, and at most eight times as long as what was read. -/
theorem lex_fine {s : ByteArray} {a c stop : Nat} {l : List (Int × ByteArray × Nat)} (h : Lex s a c l stop 0) : Fine (txB l) ∧ (txB l).length ≤ 8 * (s.size - a) := by
  generalize he : (0 : Int) = e0 at h
  induction h with
  | done h0 => exact ⟨⟨[], rfl, fun n hn => by cases hn⟩, by simp [txB]⟩
  | long _ _ => cases he
  | form _ _ _ => cases he
  | @tok a c m k u l stop e h1 h2 hk hx ih =>
    obtain ⟨i1, i2⟩ := ih he
    obtain ⟨k1, k2, k3⟩ := tok_fine hk
    rw [txB_cons]
    refine ⟨k1.app ((Fine.ascii _ (by decide)).app i1), ?_⟩
    rw [List.length_append, List.length_append, bytesL_length]
    have h7 : gapB.length = 7 := rfl
    have hle := lex_le hx
    omega
/-- Read again, the texts with their gaps and one gap more are the same tokens. -/
theorem lex_pieces2 {s : ByteArray} {a c stop : Nat} {l : List (Int × ByteArray × Nat)} (h : Lex s a c l stop 0) : ∀ (t : ByteArray) (a' : Nat), a' ≤ t.size → (bytesL t).drop a' = txB l ++ gapB →
    ∃ l', Lex t (a' + skipL ((bytesL t).drop a')) c l' t.size 0 ∧ l'.map (fun x => (x.1, x.2.1)) = l.map (fun x => (x.1, x.2.1)) := by
  have h7 : gapB.length = 7 := rfl
  generalize he : (0 : Int) = e0 at h
  induction h with
  | done h0 =>
    intro t a' ha hd
    have hl := congrArg List.length hd
    rw [List.length_drop, bytesL_length] at hl
    have hz : skipL ((bytesL t).drop a') = 7 := by
      rw [hd]
      have := skip_gapB []
      rw [List.append_nil] at this
      exact this
    have : a' + 7 = t.size := by simp [txB, h7] at hl; omega
    rw [hz, this]
    exact ⟨[], .done rfl, rfl⟩
  | long _ _ => cases he
  | form _ _ _ => cases he
  | @tok a c m k u l stop e h1 h2 hk hx ih =>
    intro t a' ha hd
    subst he
    rw [txB_cons, List.append_assoc, List.append_assoc] at hd
    have hex : bytesL (t.extract a' t.size) = bytesL u ++ (gapB ++ (txB l ++ gapB)) := by
      rw [bytesL_extract, List.take_of_length_le (by rw [List.length_drop, bytesL_length]; exact Nat.le_refl _), hd]
    have hk' : TokOf (t.extract a' t.size) k u u.size := tok_again hk (rest := [45, 45, 32, 40, 10, 9] ++ (txB l ++ gapB)) (by rw [hex, gapB_cons])
    have hz0 : skipL ((bytesL t).drop a') = 0 := by
      have := skipL_stop (tok_gap hk')
      rw [hex] at this
      rw [hd]; exact this
    have hlen := congrArg List.length hd
    rw [List.length_drop, bytesL_length, List.length_append, List.length_append, bytesL_length] at hlen
    have hd2 : (bytesL t).drop (a' + u.size) = gapB ++ (txB l ++ gapB) := by
      rw [← List.drop_drop, hd, ← bytesL_length u, List.drop_left']
      rfl
    have hd3 : (bytesL t).drop (a' + u.size + 7) = txB l ++ gapB := by
      rw [← List.drop_drop, hd2, ← h7, List.drop_left']
      rfl
    obtain ⟨l', hl', hmap⟩ := ih rfl t (a' + u.size + 7) (by omega) hd3
    have hz : skipL ((bytesL t).drop (a' + u.size)) = 7 + skipL ((bytesL t).drop (a' + u.size + 7)) := by
      rw [hd2, skip_gapB, hd3]
    rw [hz0]
    refine ⟨(k, u, a') :: l', .tok (by omega) h2 hk' (by rw [Nat.add_zero, hz, ← Nat.add_assoc]; exact hl'), ?_⟩
    rw [List.map_cons, List.map_cons, hmap]
/-- The built text: read, it has the same tokens. -/
theorem lex_built {s t : ByteArray} {a stop : Nat} {l : List (Int × ByteArray × Nat)} (h : Lex s a 0 l stop 0) (e : bytesL t = firstB ++ (txB l ++ gapB)) :
    ∃ l', Lex t (skipL (bytesL t)) 0 l' t.size 0 ∧ l'.map (fun x => (x.1, x.2.1)) = l.map (fun x => (x.1, x.2.1)) := by
  have hlen := congrArg List.length e
  rw [bytesL_length, List.length_append] at hlen
  have h11 : firstB.length = 11 := rfl
  have hd : (bytesL t).drop 11 = txB l ++ gapB := by rw [e, ← h11, List.drop_left']; rfl
  have hs : skipL (bytesL t) = 11 + skipL ((bytesL t).drop 11) := by rw [hd, e, skip_firstB]
  rw [hs]
  exact lex_pieces2 h t 11 (by omega) hd
theorem built_fine {s t : ByteArray} {a stop : Nat} {l : List (Int × ByteArray × Nat)} (h : Lex s a 0 l stop 0) (e : bytesL t = firstB ++ (txB l ++ gapB)) :
    (∃ ns, Parse (bytesL t) ns []) ∧ t.size ≤ 18 + 8 * s.size := by
  obtain ⟨h1, h2⟩ := lex_fine h
  refine ⟨by rw [e]; exact ((Fine.ascii _ (by decide)).app (h1.app (Fine.ascii _ (by decide)))).parse, ?_⟩
  rw [← bytesL_length, e, List.length_append, List.length_append]
  have h11 : firstB.length = 11 := rfl
  have h7 : gapB.length = 7 := rfl
  omega

end Go.Proofs.Ytkccjfbgepmfkaa

/- A plain text given as its tokens, with blanks behind each: it is cut into just these. No program. -/
namespace Go.Proofs.Ytkccjfbgepmfkaa
open Go.RowKit
set_option linter.unusedVariables false
set_option maxRecDepth 100000

def ascB (l : List Int) : Bool := l.all fun b => decide (0 ≤ b) && decide (b < 128)
theorem asc_true {l : List Int} (h : ascB l = true) : ∀ b ∈ l, 0 ≤ b ∧ b < 128 := fun b hb => by
  have := List.all_eq_true.1 h b hb
  simpa using this
theorem asc_enc : ∀ {l : List Int}, ascB l = true → encAll l = l ∧ ∀ n ∈ l, rightB n = true
  | [], _ => ⟨rfl, fun n hn => by cases hn⟩
  | b :: l, h => by
    have hb := asc_true h b (List.mem_cons_self ..)
    have hl : ascB l = true := by unfold ascB at h ⊢; rw [List.all_cons, Bool.and_eq_true] at h; exact h.2
    obtain ⟨e1, e2⟩ := asc_enc hl
    refine ⟨?_, fun n hn => ?_⟩
    · show encI b ++ encAll l = _
      rw [encI_1 (by omega), e1]; rfl
    · rcases List.mem_cons.1 hn with rfl | hn
      · exact rightB_true.2 (by omega)
      · exact e2 n hn
/-- The head is no digit. -/
def noDigB (l : List Int) : Bool := match l with
  | [] => false
  | b :: _ => decide (b < 48 ∨ 57 < b)
theorem noDig_num {l : List Int} (h : noDigB l = true) : IsNum l 0 false := by
  refine IsNum.no fun n hn hd => ?_
  unfold noDigB at h
  split at h
  · cases h
  · rename_i b q
    have := digs_mem (i := n) (x := b) (by rw [hd]; exact List.mem_cons_self ..)
    have := of_decide_eq_true h
    omega
def wordB (k : Int) (u : ByteArray) : Bool :=
  ascB (bytesL u) && ((bytesL u).all withinB && (decide (0 < u.size) && ((decide (k = 2) && keyB u) || (decide (k = 1) && (!keyB u && (noDigB (bytesL u) && (decide (u.size ≤ 40) && begB (bytesL u))))))))
def stopB (l : List Int) : Bool := match l with
  | [] => true
  | b :: _ => decide (0 ≤ b) && (decide (b < 128) && !withinB b)
theorem word_tok {t u : ByteArray} {k : Int} {rest : List Int} (h : wordB k u = true) (hr : stopB rest = true) (e : bytesL t = bytesL u ++ rest) : TokOf t k u u.size := by
  unfold wordB at h
  simp only [Bool.and_eq_true, Bool.or_eq_true, decide_eq_true_eq, Bool.not_eq_true'] at h
  obtain ⟨ha, hw, hpos, hk⟩ := h
  obtain ⟨e1, e2⟩ := asc_enc ha
  have hlen : (bytesL u).length = u.size := bytesL_length u
  have hall : ∀ i, i < (bytesL u).length → withinB ((bytesL u).getD i 0) = true := fun i hi => by
    rw [List.getD_eq_getElem?_getD, List.getElem?_eq_getElem hi]
    exact List.all_eq_true.1 hw _ (List.getElem_mem hi)
  have hwd : WordOf u k := by
    rcases hk with ⟨rfl, h⟩ | ⟨rfl, h1, h2, h3, h4⟩
    · exact .inl ⟨h, rfl⟩
    · exact .inr (.inr (.inl ⟨h1, noDig_num h2, .inr ⟨bytesL u, ⟨by rw [e1, List.append_nil], e2, rfl⟩, h3, h1, h4, hw⟩, rfl⟩))
  have hk0 : k ≠ 0 := by rcases hk with ⟨rfl, _⟩ | ⟨rfl, _⟩ <;> decide
  obtain ⟨rs, r0, hp0⟩ := parse_exists _ rest (Nat.le_refl _) (fun x hx => bytesL_nonneg t x (by rw [e]; exact List.mem_append_right _ hx))
  have hrs : withinB (rs.getD 0 0) = false := by
    cases rest with
    | nil =>
      have : rs = [] := by
        cases rs with
        | nil => rfl
        | cons n ns =>
          have := congrArg List.length hp0.eq
          have hw1 : 1 ≤ wid n := by unfold wid; (repeat' split) <;> omega
          rw [encAll, List.length_append, List.length_append, encI_length] at this
          simp at this; omega
      rw [this]; decide
    | cons b q =>
      unfold stopB at hr
      simp only [Bool.and_eq_true, decide_eq_true_eq, Bool.not_eq_true'] at hr
      rw [(parse_nil_head rfl hr.2.1 hp0).2]; exact hr.2.2
  have hp' : Parse (bytesL t) (bytesL u ++ rs) r0 := ⟨by rw [e, encAll_append, e1, List.append_assoc, ← hp0.eq], fun x hx => by
    rcases List.mem_append.1 hx with hx | hx
    · exact e2 x hx
    · exact hp0.right x hx, hp0.stop⟩
  have hlead : lead (bytesL u ++ rs) = u.size := by rw [lead_app hall hrs, hlen]
  have hd' : dec (bytesL t) = some ((bytesL u).getD 0 0) := by
    have h1 := dec_at hp' (j := 0) (by rw [List.length_append]; omega)
    rw [offs_0, List.drop_zero] at h1
    rw [h1]
    congr 1
    rw [List.getD_eq_getElem?_getD, List.getElem?_append_left (by omega), ← List.getD_eq_getElem?_getD]
  have hw0 := hall 0 (by omega)
  refine ⟨p2_false_of hd' (fun h => by rw [h] at hw0; exact absurd hw0 (by decide)), _, hd', .inl ⟨hw0, hk0, hwd, ⟨_, r0, hp', ?_⟩, rfl⟩⟩
  apply bytesL_inj
  rw [hlead, bytesL_extract, List.drop_zero, Nat.sub_zero, hp'.eq]
  have h2 : offs (bytesL u ++ rs) u.size = u.size := by
    unfold offs
    rw [← hlen, List.take_append_of_le_length (Nat.le_refl _), List.take_of_length_le (Nat.le_refl _), e1]
  rw [h2, encAll_append, e1, List.append_assoc, List.take_append_of_le_length (by omega), List.take_of_length_le (by omega)]
def signB (u : ByteArray) (rest : List Int) : Bool := match bytesL u with
  | [z] => oneMarks.contains z && !(decide (z = 123) && decide (rest.head? = some 45))
  | [45, 62] => true
  | _ => false
theorem sign_tok {t u : ByteArray} {rest : List Int} (h : signB u rest = true) (e : bytesL t = bytesL u ++ rest) : TokOf t 4 u u.size := by
  unfold signB at h
  split at h
  · rename_i z hz
    rw [hz] at e
    simp only [Bool.and_eq_true, Bool.not_eq_true', Bool.and_eq_false_iff, decide_eq_false_iff_not] at h
    obtain ⟨hm, hc⟩ := h
    have hm : z ∈ oneMarks := by simpa using hm
    have hwz : withinB z = false := by
      simp only [oneMarks, List.mem_cons, List.not_mem_nil, or_false] at hm
      rcases hm with rfl | rfl | rfl | rfl | rfl | rfl | rfl | rfl | rfl | rfl | rfl <;> decide
    have hus : u.size = 1 := by rw [← bytesL_length, hz]; rfl
    refine ⟨?_, z, by rw [e]; exact dec_1 (within_mark hm).1, .inr ⟨hwz, rfl, .inl ⟨hm, hz, hus⟩⟩⟩
    cases h2 : p2 (bytesL t) 123 45 with
    | false => rfl
    | true =>
      obtain ⟨q, hq⟩ := p2_cases h2
      rw [e] at hq
      injection hq with h3 h4
      have h4 : rest = 45 :: q := h4
      rw [h4] at hc
      rcases hc with hc | hc
      · exact absurd h3 hc
      · exact absurd rfl hc
  · rename_i hz
    rw [hz] at e
    have e2 : bytesL t = 45 :: 62 :: rest := e
    have hus : u.size = 2 := by rw [← bytesL_length, hz]; rfl
    have hu : u = ⟨#[45, 62]⟩ := bytesL_inj hz
    refine ⟨by rw [e2]; simp [p2], 45, by rw [e2]; exact dec_1 (by omega), .inr ⟨by decide, rfl, .inr (.inr (.inr ⟨rfl, ?_, hu, hus⟩))⟩⟩
    rw [pre_p2, e2]; rfl
  · cases h

/-- A token's kind, its text, how many blanks stand behind it. -/
abbrev Pc := Int × ByteArray × Nat
def pcsL (P : List Pc) : List Int := P.flatMap fun p => bytesL p.2.1 ++ List.replicate p.2.2 32
theorem pcsL_cons (p : Pc) (P : List Pc) : pcsL (p :: P) = bytesL p.2.1 ++ (List.replicate p.2.2 32 ++ pcsL P) := by unfold pcsL; rw [List.flatMap_cons, List.append_assoc]
def toksPc : List Pc → Nat → List Tk
  | [], _ => []
  | (k, u, g) :: P, a => (k, u, a) :: toksPc P (a + u.size + g)
def okPc : List Pc → Bool
  | [] => true
  | (k, u, g) :: P => ((wordB k u && stopB (List.replicate g 32 ++ pcsL P)) || (decide (k = 4) && signB u (List.replicate g 32 ++ pcsL P))) && okPc P
theorem okPc_tok {t : ByteArray} {k : Int} {u : ByteArray} {g : Nat} {P : List Pc} (h : okPc ((k, u, g) :: P) = true) (e : bytesL t = pcsL ((k, u, g) :: P)) : TokOf t k u u.size := by
  rw [pcsL_cons] at e
  rw [okPc] at h
  simp only [Bool.and_eq_true, Bool.or_eq_true, decide_eq_true_eq] at h
  rcases h.1 with ⟨h1, h2⟩ | ⟨rfl, h2⟩
  · exact word_tok h1 h2 e
  · exact sign_tok h2 e
theorem skip_blanks (rest : List Int) : ∀ g : Nat, skipL (List.replicate g 32 ++ rest) = g + skipL rest
  | 0 => by simp
  | g + 1 => by
    have h1 : gapL (32 :: (List.replicate g 32 ++ rest)) = 1 := by rw [gapL_cons, if_pos (by decide)]
    rw [List.replicate_succ, List.cons_append, skipL_more (by rw [h1]; omega), h1]
    show 1 + skipL (List.replicate g 32 ++ rest) = _
    rw [skip_blanks rest g]; omega
theorem lex_run : ∀ (P : List Pc) (t : ByteArray) (a c : Nat), okPc P = true → a ≤ t.size → (bytesL t).drop a = pcsL P → c + P.length ≤ 8192 → Lex t a c (toksPc P a) t.size 0
  | [], t, a, c, _, ha, hd, _ => by
    have hl := congrArg List.length hd
    rw [List.length_drop, bytesL_length] at hl
    have : a = t.size := by simp [pcsL] at hl; omega
    subst this
    exact .done rfl
  | (k, u, g) :: P, t, a, c, h, ha, hd, hc => by
    have hex : bytesL (t.extract a t.size) = pcsL ((k, u, g) :: P) := by
      rw [bytesL_extract, List.take_of_length_le (by rw [List.length_drop, bytesL_length]; exact Nat.le_refl _), hd]
    have hk := okPc_tok h hex
    have hpos := (tok_fine hk).2.1
    have hP : okPc P = true := by rw [okPc, Bool.and_eq_true] at h; exact h.2
    rw [pcsL_cons] at hd
    have hlen := congrArg List.length hd
    rw [List.length_drop, bytesL_length, List.length_append, List.length_append, bytesL_length, List.length_replicate] at hlen
    simp only at hlen hd
    have hd2 : (bytesL t).drop (a + u.size) = List.replicate g 32 ++ pcsL P := by
      rw [← List.drop_drop, hd, ← bytesL_length u, List.drop_left']
      rfl
    have hd3 : (bytesL t).drop (a + u.size + g) = pcsL P := by
      rw [← List.drop_drop, hd2, List.drop_left' (by rw [List.length_replicate])]
    have hz : skipL ((bytesL t).drop (a + u.size)) = g := by
      rw [hd2, skip_blanks]
      have h0 : skipL (pcsL P) = 0 := by
        match P, hP, hd3 with
        | [], _, _ => rfl
        | (k', u', g') :: P', hP, hd3 =>
          have hex' : bytesL (t.extract (a + u.size + g) t.size) = pcsL ((k', u', g') :: P') := by
            rw [bytesL_extract, List.take_of_length_le (by rw [List.length_drop, bytesL_length]; exact Nat.le_refl _), hd3]
          have := skipL_stop (tok_gap (okPc_tok hP hex'))
          rw [hex'] at this; exact this
      rw [h0]; rfl
    rw [List.length_cons] at hc
    exact .tok (by omega) (by omega) hk (by rw [hz]; exact lex_run P t (a + u.size + g) (c + 1) hP (by omega) hd3 (by omega))

end Go.Proofs.Ytkccjfbgepmfkaa
