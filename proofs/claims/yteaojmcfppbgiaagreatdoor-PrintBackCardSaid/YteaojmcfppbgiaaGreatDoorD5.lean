/- A text given as its tokens with any blanks behind each: it is cut into just these. No program. -/
import Derived.Test.YteaojmcfppbgiaaGreatDoorD4
import Derived.Test.YteaojmcfppbgiaaGreatDoorC3
import Derived.Test.YteaojmcfppbgiaaGreatDoorD1
namespace Go.Proofs.YteaojmcfppbgiaaGreatDoor
open Go.RowKit
set_option linter.unusedVariables false
set_option maxRecDepth 100000

abbrev Gc := Int × ByteArray × List Int
def dnG (p : Gc) : Pc := (p.1, p.2.1, p.2.2.length)
def upG (p : Pc) : Gc := (p.1, p.2.1, List.replicate p.2.2 32)
def pcsG (P : List Gc) : List Int := P.flatMap fun p => bytesL p.2.1 ++ p.2.2
def OkG : List Gc → List Int → Prop
  | [], _ => True
  | (k, u, g) :: P, R => g.all blankB = true ∧ PcOk k u (g ++ (pcsG P ++ R)) ∧ OkG P R
theorem pcsG_cons (p : Gc) (P : List Gc) : pcsG (p :: P) = bytesL p.2.1 ++ (p.2.2 ++ pcsG P) := by unfold pcsG; rw [List.flatMap_cons, List.append_assoc]
theorem pcsG_app (P Q : List Gc) : pcsG (P ++ Q) = pcsG P ++ pcsG Q := by unfold pcsG; rw [List.flatMap_append]
theorem pcsG_nil : pcsG [] = [] := rfl
theorem okG_app : ∀ {P Q : List Gc} {R : List Int}, OkG P (pcsG Q ++ R) → OkG Q R → OkG (P ++ Q) R
  | [], _, _, _, h2 => h2
  | (k, u, g) :: P, Q, R, h1, h2 => by
    refine ⟨h1.1, ?_, okG_app h1.2.2 h2⟩
    show PcOk k u (g ++ (pcsG (P ++ Q) ++ R))
    rw [pcsG_app, List.append_assoc]
    exact h1.2.1
theorem pcsG_up : ∀ P : List Pc, pcsG (P.map upG) = pcsL P
  | [] => rfl
  | p :: P => by rw [List.map_cons, pcsG_cons, pcsL_cons, pcsG_up P]; rfl
theorem okG_up : ∀ {P : List Pc} {R : List Int}, OkPcs P R → OkG (P.map upG) R
  | [], _, _ => trivial
  | (k, u, g) :: P, R, h => by
    refine ⟨?_, ?_, okG_up h.2⟩
    · show (List.replicate g (32 : Int)).all blankB = true
      rw [List.all_eq_true]
      intro x hx
      rw [List.eq_of_mem_replicate hx]
      decide
    · show PcOk k u (List.replicate g 32 ++ (pcsG (P.map upG) ++ R))
      rw [pcsG_up]
      exact h.1
theorem dn_up : ∀ P : List Pc, (P.map upG).map dnG = P
  | [] => rfl
  | (k, u, g) :: P => by rw [List.map_cons, List.map_cons, dn_up P]; show (k, u, (List.replicate g (32 : Int)).length) :: P = _; rw [List.length_replicate]
theorem skip_gap (rest : List Int) : ∀ g : List Int, g.all blankB = true → skipL (g ++ rest) = g.length + skipL rest
  | [], _ => by simp
  | x :: g, h => by
    rw [List.all_cons, Bool.and_eq_true] at h
    have h1 : gapL (x :: (g ++ rest)) = 1 := by rw [gapL_cons, if_pos h.1]
    rw [List.cons_append, skipL_more (by rw [h1]; omega), h1]
    show 1 + skipL (g ++ rest) = _
    rw [skip_gap rest g h.2, List.length_cons]; omega
theorem lex_runG : ∀ (P : List Gc) (t : ByteArray) (a c : Nat), OkG P [] → a ≤ t.size → (bytesL t).drop a = pcsG P → c + P.length ≤ 8192 → Lex t a c (toksPc (P.map dnG) a) t.size 0
  | [], t, a, c, _, ha, hd, _ => by
    have hl := congrArg List.length hd
    rw [List.length_drop, bytesL_length] at hl
    have : a = t.size := by simp [pcsG] at hl; omega
    subst this
    exact .done rfl
  | (k, u, g) :: P, t, a, c, h, ha, hd, hc => by
    have hex : bytesL (t.extract a t.size) = bytesL u ++ (g ++ (pcsG P ++ [])) := by
      rw [bytesL_extract, List.take_of_length_le (by rw [List.length_drop, bytesL_length]; exact Nat.le_refl _), hd, pcsG_cons, List.append_nil]
    have hk := h.2.1 _ hex
    have hpos := (tok_fine hk).2.1
    rw [pcsG_cons] at hd
    have hlen := congrArg List.length hd
    rw [List.length_drop, bytesL_length, List.length_append, List.length_append, bytesL_length] at hlen
    simp only at hlen hd
    have hd2 : (bytesL t).drop (a + u.size) = g ++ pcsG P := by
      rw [← List.drop_drop, hd, ← bytesL_length u, List.drop_left']
      rfl
    have hd3 : (bytesL t).drop (a + u.size + g.length) = pcsG P := by
      rw [← List.drop_drop, hd2, List.drop_left' rfl]
    have hz : skipL ((bytesL t).drop (a + u.size)) = g.length := by
      rw [hd2, skip_gap _ _ h.1]
      have h0 : skipL (pcsG P) = 0 := by
        match P, h.2.2, hd3 with
        | [], _, _ => rfl
        | (k', u', g') :: P', hP, hd3 =>
          have hex' : bytesL (t.extract (a + u.size + g.length) t.size) = bytesL u' ++ (g' ++ (pcsG P' ++ [])) := by
            rw [bytesL_extract, List.take_of_length_le (by rw [List.length_drop, bytesL_length]; exact Nat.le_refl _), hd3, pcsG_cons, List.append_nil]
          have := skipL_stop (tok_gap (hP.2.1 _ hex'))
          rw [hex', List.append_nil] at this
          rw [pcsG_cons]
          exact this
      rw [h0]; rfl
    rw [List.length_cons] at hc
    exact .tok (by omega) (by omega) hk (by rw [hz]; exact lex_runG P t (a + u.size + g.length) (c + 1) h.2.2 (by omega) hd3 (by omega))

end Go.Proofs.YteaojmcfppbgiaaGreatDoor

/- The pieces of what is typed, bound, a constructor, a row, a declaration; that they are read back. -/
namespace Go.Proofs.YteaojmcfppbgiaaGreatDoor
open Go.RowKit
set_option linter.unusedVariables false
set_option maxRecDepth 100000

def AtG (L : List Tk) (k : Nat) (P : List Gc) : Prop := At L k (P.map dnG)
theorem atG_cons {L : List Tk} {k : Nat} {p : Gc} {P : List Gc} (h : AtG L k (p :: P)) : (tk L k).1 = p.1 ∧ (tk L k).2.1 = p.2.1 ∧ AtG L (k + 1) P := at_cons (p := dnG p) (P := P.map dnG) h
theorem atG_app {L : List Tk} {k : Nat} {P Q : List Gc} (h : AtG L k (P ++ Q)) : AtG L k P ∧ AtG L (k + P.length) Q := by
  unfold AtG at h ⊢
  rw [List.map_append] at h
  have := at_app h
  rw [List.length_map] at this
  exact this
theorem atG_up {L : List Tk} {k : Nat} {P : List Pc} (h : AtG L k (P.map upG)) : At L k P := by
  unfold AtG at h
  rw [dn_up] at h
  exact h
/-- What may stand behind an expression here. -/
def StpT (u : ByteArray) : Prop := (u.toList == openT.toList) = false ∧ (u.toList == arrowT.toList) = false ∧ (u.toList == [58]) = false ∧ IsNum (bytesL u) 0 false
theorem stp_marks : StpT closeT ∧ StpT semiT ∧ StpT lbT ∧ StpT eqT := by
  refine ⟨⟨?_, ?_, ?_, noDig_num ?_⟩, ⟨?_, ?_, ?_, noDig_num ?_⟩, ⟨?_, ?_, ?_, noDig_num ?_⟩, ⟨?_, ?_, ?_, noDig_num ?_⟩⟩ <;> kernel_rfl
theorem stp_nx {L : List Tk} {k : Nat} {u : ByteArray} (hu : StpT u) (h2 : (tk L k).2.1 = u) : Nx L k := ⟨by rw [h2]; exact hu.2.2.2, col_mark h2 hu.2.2.1⟩
theorem stp_ag {L : List Tk} {k : Nat} {u : ByteArray} (hu : StpT u) (h1 : (tk L k).1 = 4) (h2 : (tk L k).2.1 = u) : agB L k = false := by
  unfold agB
  have h3 : kyB L k ⟨#[83, 101, 116]⟩ = false := isB_ne h1 (by decide)
  have h4 : mkB L k ⟨#[40]⟩ = false := isB_tx h2 hu.1
  rw [nmd_kind h1 (by decide), h3, h4]; rfl
theorem expr_at {L : List Tk} (hL : L.length ≤ 8193) {t : RT} {g : Nat} {Q : List Pc} (h : PE t 0 g Q) (hd : deepN t ≤ 128) (s : St) (he : s.e = 0) (ha : At L s.k Q) {u : ByteArray} (hu : StpT u)
    (h1 : (tk L (s.k + Q.length)).1 = 4) (h2 : (tk L (s.k + Q.length)).2.1 = u) (hk : s.k + Q.length < L.length) : ∃ t', Eqv t' t ∧ ExprR L s t' (mv s Q.length) := by
  obtain ⟨t', e1, r1⟩ := (pe_read hL h s he ha hk (stp_nx hu h2)).2.1 rfl (stp_ag hu h1 h2) (isB_tx h2 hu.2.1)
  exact ⟨t', e1, _, r1, by unfold wholeS; rw [if_neg (by rw [deep_eqv e1]; omega)]⟩
/-- Typed. -/
def PTyp (x : BT) (g : Nat) (P : List Pc) : Prop := ∃ ns Q, IsName x.s ns ∧ PE x.t 0 g Q ∧ deepN x.t ≤ 128 ∧ P = (1, x.s, 1) :: (4, colonT, 1) :: Q
theorem typed_at {L : List Tk} (hL : L.length ≤ 8193) {x : BT} {g : Nat} {P : List Pc} (h : PTyp x g P) (s : St) (he : s.e = 0) (ha : At L s.k P) {u : ByteArray} (hu : StpT u)
    (h1 : (tk L (s.k + P.length)).1 = 4) (h2 : (tk L (s.k + P.length)).2.1 = u) (hk : s.k + P.length < L.length) : ∃ x', EqvB x' x ∧ TypedR L s x' (mv s P.length) := by
  obtain ⟨ns, Q, hn, hp, hd, rfl⟩ := h
  obtain ⟨a1, a2, ha2⟩ := at_cons ha
  obtain ⟨b1, b2, ha3⟩ := at_cons ha2
  simp only [List.length_cons] at h1 h2 hk ⊢
  have hn1 : nameS L s = s := by unfold nameS; rw [nmd_name hn a1 a2, if_pos rfl]
  have hs1 : stepS L s = mv s 1 := step_ok (by omega)
  have hs2 : takeS L ⟨#[58]⟩ (mv s 1) = mv s 2 := by rw [take_ok (by show s.k + 1 + 1 < _; omega) (isB_at b1 b2), mv_mv]
  have ek : (mv s 2).k + Q.length = s.k + (Q.length + 1 + 1) := by show s.k + 2 + Q.length = _; omega
  obtain ⟨t', e1, r1⟩ := expr_at hL hp hd (mv s 2) he ha3 hu (by rw [ek]; exact h1) (by rw [ek]; exact h2) (by rw [ek]; exact hk)
  rw [mv_mv, show 2 + Q.length = Q.length + 1 + 1 by omega] at r1
  exact ⟨⟨x.s, (tk L s.k).2.2, t'⟩, ⟨rfl, e1⟩, t', by rw [hn1, a2], by rw [hn1, hs1, hs2]; exact r1⟩
/-- Bindings, a blank behind each. -/
inductive PBinds : List BT → List Gc → Prop
  | nil : PBinds [] []
  | cons {x : BT} {l : List BT} {P : List Pc} {Q : List Gc} : PTyp x 0 P → PBinds l Q → PBinds (x :: l) ((4, openT, []) :: (P.map upG ++ ((4, closeT, [32]) :: Q)))
theorem binds_read {L : List Tk} (hL : L.length ≤ 8193) {l : List BT} {P : List Gc} (h : PBinds l P) : ∀ (n : Nat) (s : St), n + l.length ≤ 24 → s.e = 0 → AtG L s.k P → s.k + P.length < L.length → nxOp L (s.k + P.length) = false →
    ∃ l', All2 EqvB l' l ∧ ChainX L (BindRl L) (nxOp L) 24 n s l' (mv s P.length) := by
  induction h with
  | nil => intro n s hn he ha hk hx; exact ⟨[], .nil, .stop (fun h => by have h2 := h.2.symm.trans hx; cases h2)⟩
  | @cons x l P Q hp hq ih =>
    intro n s hn he ha hk hx
    obtain ⟨a1, a2, ha2⟩ := atG_cons ha
    obtain ⟨c1, c2⟩ := atG_app ha2
    rw [List.length_map] at c2
    obtain ⟨d1, d2, ha4⟩ := atG_cons c2
    simp only [List.length_cons, List.length_append, List.length_map] at hn hk hx ⊢
    have hop : mkB L s.k openT = true := isB_at a1 a2
    have hs1 : takeS L ⟨#[40]⟩ s = mv s 1 := take_ok (by omega) hop
    obtain ⟨x', e1, r1⟩ := typed_at hL hp (mv s 1) he (atG_up c1) stp_marks.1 d1 d2 (by show s.k + 1 + P.length < _; omega)
    have hs2 : takeS L ⟨#[41]⟩ (mv (mv s 1) P.length) = mv s (1 + P.length + 1) := by
      rw [mv_mv, take_ok (by show s.k + (1 + P.length) + 1 < _; omega) (isB_at (by show (tk L (s.k + (1 + P.length))).1 = 4; rw [← Nat.add_assoc]; exact d1) (by show (tk L (s.k + (1 + P.length))).2.1 = closeT; rw [← Nat.add_assoc]; exact d2)), mv_mv]
    have ek : (mv s (1 + P.length + 1)).k = s.k + 1 + P.length + 1 := by show s.k + (1 + P.length + 1) = _; omega
    obtain ⟨l', e2, r2⟩ := ih (n + 1) (mv s (1 + P.length + 1)) (by omega) he (by rw [ek]; exact ha4) (by rw [ek]; omega) (by rw [ek, show s.k + 1 + P.length + 1 + Q.length = s.k + (P.length + (Q.length + 1) + 1) by omega]; exact hx)
    rw [mv_mv, show 1 + P.length + 1 + Q.length = P.length + (Q.length + 1) + 1 by omega] at r2
    exact ⟨x' :: l', .cons e1 e2, .next he hop (by omega) ⟨_, by rw [hs1]; exact r1, hs2⟩ r2⟩

/-! ### items, each with a semicolon behind it -/
def nlG : Nat → List Int
  | 0 => [10]
  | _ + 1 => [10, 32, 32]
inductive PItems {α : Type} (item : α → List Pc → Prop) : List α → List Gc → Prop
  | nil : PItems item [] []
  | cons {x : α} {l : List α} {P : List Pc} {Q : List Gc} : item x P → PItems item l Q → PItems item (x :: l) (P.map upG ++ ((4, semiT, nlG l.length) :: Q))
theorem items_read {α : Type} {L : List Tk} {E : α → α → Prop} {item : α → List Pc → Prop} {one : St → α → St → Prop} {most : Nat}
    (hone : ∀ x P s, item x P → s.e = 0 → At L s.k P → (tk L (s.k + P.length)).1 = 4 → (tk L (s.k + P.length)).2.1 = semiT → s.k + P.length + 1 < L.length → nxIn L s.k = true ∧ ∃ x', E x' x ∧ one s x' (mv s (P.length + 1)))
    {l : List α} {P : List Gc} (h : PItems item l P) : ∀ (n : Nat) (s : St), n + l.length ≤ most → s.e = 0 → AtG L s.k P → s.k + P.length < L.length → nxIn L (s.k + P.length) = false →
    ∃ l', All2 E l' l ∧ ChainX L one (nxIn L) most n s l' (mv s P.length) := by
  induction h with
  | nil => intro n s hn he ha hk hx; exact ⟨[], .nil, .stop (fun h => by have h2 := h.2.symm.trans hx; cases h2)⟩
  | @cons x l P Q hp hq ih =>
    intro n s hn he ha hk hx
    obtain ⟨c1, c2⟩ := atG_app ha
    rw [List.length_map] at c2
    obtain ⟨d1, d2, ha4⟩ := atG_cons c2
    simp only [List.length_cons, List.length_append, List.length_map] at hn hk hx ⊢
    obtain ⟨h0, x', e1, r1⟩ := hone x P s hp he (atG_up c1) d1 d2 (by omega)
    obtain ⟨l', e2, r2⟩ := ih (n + 1) (mv s (P.length + 1)) (by omega) he ha4 (by show s.k + (P.length + 1) + Q.length < _; omega) (by show nxIn L (s.k + (P.length + 1) + Q.length) = false; rw [show s.k + (P.length + 1) + Q.length = s.k + (P.length + (Q.length + 1)) by omega]; exact hx)
    rw [mv_mv, show P.length + 1 + Q.length = P.length + (Q.length + 1) by omega] at r2
    exact ⟨x' :: l', .cons e1 e2, .next he h0 (by omega) r1 r2⟩
def PCon (x : BT) (P : List Pc) : Prop := PTyp x 0 P
theorem in_kind {L : List Tk} {k : Nat} {d : Int} (h : (tk L k).1 = d) (hd : d ≠ 4) : nxIn L k = true := by
  have : mkB L k ⟨#[125]⟩ = false := isB_ne h hd
  unfold nxIn; rw [this]; rfl
theorem con_read {L : List Tk} (hL : L.length ≤ 8193) (x : BT) (P : List Pc) (s : St) (hp : PCon x P) (he : s.e = 0) (ha : At L s.k P) (h1 : (tk L (s.k + P.length)).1 = 4) (h2 : (tk L (s.k + P.length)).2.1 = semiT) (hk : s.k + P.length + 1 < L.length) :
    nxIn L s.k = true ∧ ∃ x', EqvB x' x ∧ ConRl L s x' (mv s (P.length + 1)) := by
  obtain ⟨x', e1, r1⟩ := typed_at hL hp s he ha stp_marks.2.1 h1 h2 (by omega)
  refine ⟨?_, x', e1, _, r1, ?_⟩
  · obtain ⟨ns, Q, _, _, _, rfl⟩ := hp
    exact in_kind (at_cons ha).1 (show (1 : Int) ≠ 4 by decide)
  · rw [take_ok (by show s.k + P.length + 1 < _; omega) (isB_at h1 h2), mv_mv]

end Go.Proofs.YteaojmcfppbgiaaGreatDoor

/- The pieces of a row, of a declaration, of a file; that they are read back. -/
namespace Go.Proofs.YteaojmcfppbgiaaGreatDoor
open Go.RowKit
set_option linter.unusedVariables false
set_option maxRecDepth 100000

theorem pt_mark {L : List Tk} {k : Nat} {u : ByteArray} (a1 : (tk L k).1 = 4) (a2 : (tk L k).2.1 = u) (h1 : (u.toList == openT.toList) = false) (h2 : (u.toList == dotT.toList) = false) : ptB L k = false := by
  unfold ptB
  have g1 : loB L k = false := isB_ne a1 (by decide)
  have g2 : mkB L k ⟨#[40]⟩ = false := isB_tx a2 h1
  have g3 : mkB L k ⟨#[46]⟩ = false := isB_tx a2 h2
  rw [nmd_kind a1 (by decide), g1, g2, g3]; rfl
theorem row_lists : (semiT.toList == dotT.toList) = false ∧ (eqT.toList == dotT.toList) = false ∧ (semiT.toList == eqT.toList) = false ∧ (semiT.toList == rbT.toList) = false ∧ (eqT.toList == rbT.toList) = false ∧ (openT.toList == rbT.toList) = false ∧ (dotT.toList == rbT.toList) = false ∧ (rbT.toList == openT.toList) = false ∧ (colonT.toList == openT.toList) = false := by
  refine ⟨?_, ?_, ?_, ?_, ?_, ?_, ?_, ?_, ?_⟩ <;> kernel_rfl
theorem pt_in {L : List Tk} {k : Nat} (h : ptB L k = true) : nxIn L k = true := by
  unfold ptB at h
  have mk : ∀ u : ByteArray, (u.toList == rbT.toList) = false → mkB L k u = true → nxIn L k = true := fun u hu hm => by
    unfold mkB isB at hm
    rw [Bool.and_eq_true] at hm
    have e : (tk L k).2.1.toList = u.toList := by simpa using hm.2
    have : mkB L k ⟨#[125]⟩ = false := by
      unfold mkB isB
      have hu2 : (u.toList == (⟨#[125]⟩ : ByteArray).toList) = false := hu
      rw [e, hu2]; simp
    unfold nxIn; rw [this]; rfl
  cases h1 : nmdB L k with
  | true =>
    unfold nmdB at h1
    rw [Bool.and_eq_true] at h1
    exact in_kind (of_decide_eq_true h1.1) (by decide)
  | false =>
    rw [h1, Bool.false_or] at h
    cases h2 : loB L k with
    | true => exact in_kind (isB_kind h2) (by decide)
    | false =>
      rw [h2, Bool.false_or, Bool.or_eq_true] at h
      rcases h with h | h
      · exact mk _ row_lists.2.2.2.2.2.1 h
      · exact mk _ row_lists.2.2.2.2.2.2.1 h
theorem psteps_pats {L : List Tk} {s s2 : St} {l : List RT} (h : PSteps L s l s2) (ha : ptB L s2.k = false) : (∀ t ∈ l, deepN t ≤ 128) → ∀ n, n + l.length ≤ 24 → PatsR L n s l s2 := by
  induction h with
  | nil => exact fun _ n _ => .stop (fun h => by rw [ha] at h; cases h.2)
  | @cons s s1 s2 t l h1 h2 h3 _ ih =>
    intro hd n hn
    rw [List.length_cons] at hn
    have hw : wholeS L s t s1 = s1 := by unfold wholeS; rw [if_neg (by have := hd t (List.mem_cons_self ..); omega)]
    exact .next h1 h2 (by omega) h3 (by rw [hw]; exact ih ha (fun t ht => hd t (List.mem_cons_of_mem _ ht)) (n + 1) (by omega))
theorem psteps_pt {L : List Tk} {s s2 : St} {l : List RT} (h : PSteps L s l s2) (hl : 0 < l.length) : ptB L s.k = true := by
  cases h with
  | nil => exact absurd hl (by simp)
  | cons _ h2 _ _ => exact h2
theorem pp_pos {l : List RT} {g : Nat} {P : List Pc} (h : PP l g P) : 0 < l.length := by
  cases h <;> simp
theorem eqvL_deep {l l' : List RT} (h : EqvL l' l) (hd : ∀ t ∈ l, deepN t ≤ 128) : ∀ t ∈ l', deepN t ≤ 128 := by
  intro t ht
  obtain ⟨i, hi, rfl⟩ := List.getElem_of_mem ht
  have hi2 : i < l.length := by rw [← h.1]; exact hi
  rw [deep_eqv (h.2 i hi hi2)]
  exact hd _ (List.getElem_mem hi2)
/-- A row of patterns, a blank behind each. -/
def PPats (l : List RT) (P : List Pc) : Prop := (l = [] ∧ P = []) ∨ PP l 1 P
theorem pats_at {L : List Tk} (hL : L.length ≤ 8193) {l : List RT} {P : List Pc} (h : PPats l P) (hd : ∀ t ∈ l, deepN t ≤ 128) (hl : l.length ≤ 24) (s : St) (he : s.e = 0) (ha : At L s.k P) {u : ByteArray} (hu : StpT u) (hu2 : (u.toList == dotT.toList) = false)
    (h1 : (tk L (s.k + P.length)).1 = 4) (h2 : (tk L (s.k + P.length)).2.1 = u) (hk : s.k + P.length < L.length) : ∃ l', EqvL l' l ∧ PatsR L 0 s l' (mv s P.length) ∧ (P = [] ∨ ptB L s.k = true) := by
  have hpt := pt_mark h1 h2 hu.1 hu2
  rcases h with ⟨rfl, rfl⟩ | h
  · exact ⟨[], EqvL.nil, .stop (fun h => by have h2 := h.2.symm.trans hpt; cases h2), .inl rfl⟩
  · obtain ⟨l', e1, r1, _⟩ := pp_read hL h s he ha hk (stp_nx hu h2)
    refine ⟨l', e1, psteps_pats r1 hpt (eqvL_deep e1 hd) 0 (by rw [e1.1]; omega), .inr ?_⟩
    exact psteps_pt r1 (by rw [e1.1]; exact pp_pos h)
def PRow (x : CT) (P : List Pc) : Prop :=
  ∃ Q R, P = Q ++ R ∧ PPats x.ps Q ∧ (∀ t ∈ x.ps, deepN t ≤ 128) ∧ x.ps.length ≤ 24 ∧
    ((x.h = true ∧ ∃ S, PE x.t 0 0 S ∧ deepN x.t ≤ 128 ∧ R = (4, eqT, 1) :: S) ∨ (x.h = false ∧ Eqv zeroT x.t ∧ R = []))
theorem row_read {L : List Tk} (hL : L.length ≤ 8193) (x : CT) (P : List Pc) (s : St) (hp : PRow x P) (he : s.e = 0) (ha : At L s.k P) (h1 : (tk L (s.k + P.length)).1 = 4) (h2 : (tk L (s.k + P.length)).2.1 = semiT) (hk : s.k + P.length + 1 < L.length) :
    nxIn L s.k = true ∧ ∃ x', EqvR x' x ∧ RowRl L s x' (mv s (P.length + 1)) := by
  obtain ⟨Q, R, rfl, hq, hd, hl, hb⟩ := hp
  obtain ⟨c1, c2⟩ := at_app ha
  rw [List.length_append] at h1 h2 hk ⊢
  have mkin : ∀ u : ByteArray, (u.toList == rbT.toList) = false → (tk L s.k).2.1 = u → nxIn L s.k = true := fun u hu e => by
    have : mkB L s.k ⟨#[125]⟩ = false := isB_tx e hu
    unfold nxIn; rw [this]; rfl
  rcases hb with ⟨hh, S, hS, hdS, rfl⟩ | ⟨hh, hz, rfl⟩
  · obtain ⟨b1, b2, c3⟩ := at_cons c2
    rw [List.length_cons] at h1 h2 hk ⊢
    obtain ⟨l', e1, r1, h0⟩ := pats_at hL hq hd hl s he c1 stp_marks.2.2.2 row_lists.2.1 b1 b2 (by omega)
    have hm : mkB L (mv s Q.length).k ⟨#[61]⟩ = true := isB_at b1 b2
    have hs1 : stepS L (mv s Q.length) = mv s (Q.length + 1) := by rw [step_ok (by show s.k + Q.length + 1 < _; omega), mv_mv]
    have ek : (mv s (Q.length + 1)).k + S.length = s.k + (Q.length + (S.length + 1)) := by show s.k + (Q.length + 1) + S.length = _; omega
    obtain ⟨t', e2, r2⟩ := expr_at hL hS hdS (mv s (Q.length + 1)) he c3 stp_marks.2.1 (by rw [ek]; exact h1) (by rw [ek]; exact h2) (by rw [ek]; omega)
    rw [mv_mv, show Q.length + 1 + S.length = Q.length + (S.length + 1) by omega] at r2
    refine ⟨?_, ⟨(tk L s.k).2.2, l', true, t'⟩, ⟨hh.symm, e1, e2⟩, l', _, r1, .inl ⟨hm, t', _, by rw [hs1]; exact r2, rfl, ?_⟩⟩
    · rcases h0 with h0 | h0
      · rw [h0] at b2
        exact mkin _ row_lists.2.2.2.2.1 b2
      · exact pt_in h0
    · rw [take_ok (by show s.k + (Q.length + (S.length + 1)) + 1 < _; omega) (isB_at h1 h2), mv_mv]
  · simp only [List.length_nil, Nat.add_zero] at h1 h2 hk ⊢
    obtain ⟨l', e1, r1, h0⟩ := pats_at hL hq hd hl s he c1 stp_marks.2.1 row_lists.1 h1 h2 (by omega)
    have hm : mkB L (mv s Q.length).k ⟨#[61]⟩ = false := isB_tx h2 row_lists.2.2.1
    refine ⟨?_, ⟨(tk L s.k).2.2, l', false, zeroT⟩, ⟨hh.symm, e1, hz⟩, l', _, r1, .inr ⟨hm, rfl, ?_⟩⟩
    · rcases h0 with h0 | h0
      · rw [h0] at h2
        exact mkin _ row_lists.2.2.2.1 h2
      · exact pt_in h0
    · rw [take_ok (by show s.k + Q.length + 1 < _; omega) (isB_at h1 h2), mv_mv]

end Go.Proofs.YteaojmcfppbgiaaGreatDoor

/- The pieces of a declaration, of a file; that they are read back. -/
namespace Go.Proofs.YteaojmcfppbgiaaGreatDoor
open Go.RowKit
set_option linter.unusedVariables false
set_option maxRecDepth 100000

def kwT (k : Int) : ByteArray := if k = 1 then dataT else if k = 2 then recordT else defT
theorem kw_lists : (recordT.toList == dataT.toList) = false ∧ (defT.toList == dataT.toList) = false ∧ (defT.toList == recordT.toList) = false := by
  refine ⟨?_, ?_, ?_⟩ <;> kernel_rfl
def PBody (x : DT) (n : Nat) (I : List Gc) : Prop :=
  ((x.k = 1 ∨ x.k = 2) ∧ x.ro = [] ∧ PItems PCon x.co I ∧ x.co.length ≤ 16 ∧ n = x.co.length) ∨ (x.k = 3 ∧ x.te = [] ∧ x.co = [] ∧ PItems PRow x.ro I ∧ x.ro.length ≤ 32 ∧ n = x.ro.length)
def declG (x : DT) (n : Nat) (B : List Gc) (E : List Pc) (I : List Gc) : List Gc :=
  (2, kwT x.k, [32]) :: (1, x.s, [32]) :: (B ++ ((4, colonT, [32]) :: (E.map upG ++ ((4, lbT, nlG n) :: (I ++ [(4, rbT, [10])])))))
def PDecl (x : DT) (P : List Gc) : Prop :=
  ∃ ns n B E I, IsName x.s ns ∧ PBinds x.te B ∧ x.te.length ≤ 24 ∧ PE x.t 0 1 E ∧ deepN x.t ≤ 128 ∧ PBody x n I ∧ P = declG x n B E I
theorem kind_read {L : List Tk} {s : St} {k : Int} (hk : k = 1 ∨ k = 2 ∨ k = 3) (a1 : (tk L s.k).1 = 2) (a2 : (tk L s.k).2.1 = kwT k) : KindR L s k s := by
  rcases hk with rfl | rfl | rfl
  · exact .inl ⟨isB_at a1 a2, rfl, rfl⟩
  · exact .inr (.inl ⟨isB_tx a2 kw_lists.1, isB_at a1 a2, rfl, rfl⟩)
  · exact .inr (.inr (.inl ⟨isB_tx a2 kw_lists.2.1, isB_tx a2 kw_lists.2.2, isB_at a1 a2, rfl, rfl⟩))
theorem decl_read {L : List Tk} (hL : L.length ≤ 8193) {x : DT} {P : List Gc} (h : PDecl x P) (s : St) (he : s.e = 0) (ha : AtG L s.k P) (hk : s.k + P.length < L.length) :
    nxGo L s.k = true ∧ ∃ x', EqvD x' x ∧ DeclRl L s x' (mv s P.length) := by
  obtain ⟨ns, n, B, E, I, hn, hB, hBl, hE, hd, hbody, rfl⟩ := h
  unfold declG at ha hk ⊢
  obtain ⟨a1, a2, ha1⟩ := atG_cons ha
  obtain ⟨b1, b2, ha2⟩ := atG_cons ha1
  obtain ⟨c0, c1⟩ := atG_app ha2
  obtain ⟨d1, d2, ha3⟩ := atG_cons c1
  obtain ⟨e0, e1⟩ := atG_app ha3
  rw [List.length_map] at e1
  obtain ⟨f1, f2, ha4⟩ := atG_cons e1
  obtain ⟨g0, g1⟩ := atG_app ha4
  obtain ⟨i1, i2, _⟩ := atG_cons g1
  simp only [List.length_cons, List.length_append, List.length_map, List.length_nil] at hk ⊢
  have hgo : nxGo L s.k = true := by
    have : enB L s.k = false := by unfold enB; rw [a1]; rfl
    unfold nxGo; rw [this]; rfl
  have hkk : x.k = 1 ∨ x.k = 2 ∨ x.k = 3 := by
    rcases hbody with ⟨h | h, _⟩ | ⟨h, _⟩
    · exact .inl h
    · exact .inr (.inl h)
    · exact .inr (.inr h)
  have hK := kind_read hkk a1 a2
  have s1 : stepS L s = mv s 1 := step_ok (by omega)
  have s2 : nameS L (mv s 1) = mv s 1 := by unfold nameS; rw [show nmdB L (mv s 1).k = true from nmd_name hn b1 b2, if_pos rfl]
  have s3 : stepS L (mv s 1) = mv s 2 := by rw [step_ok (by show s.k + 1 + 1 < _; omega), mv_mv]
  have k2 : s.k + 1 + 1 = (mv s 2).k := rfl
  have kB : s.k + 1 + 1 + B.length = (mv s (2 + B.length)).k := by show _ = s.k + (2 + B.length); omega
  have kC : s.k + 1 + 1 + B.length + 1 = (mv s (3 + B.length)).k := by show _ = s.k + (3 + B.length); omega
  have kE : s.k + 1 + 1 + B.length + 1 + E.length = (mv s (3 + B.length + E.length)).k := by show _ = s.k + (3 + B.length + E.length); omega
  have kF : s.k + 1 + 1 + B.length + 1 + E.length + 1 = (mv s (4 + B.length + E.length)).k := by show _ = s.k + (4 + B.length + E.length); omega
  have kI : s.k + 1 + 1 + B.length + 1 + E.length + 1 + I.length = (mv s (4 + B.length + E.length + I.length)).k := by show _ = s.k + (4 + B.length + E.length + I.length); omega
  have mk : ∀ m, (mv s m).k = s.k + m := fun _ => rfl
  have hBk : (mv s 2).k + B.length = (mv s (2 + B.length)).k := by rw [mk, mk]; omega
  have hEk : (mv s (3 + B.length)).k + E.length = (mv s (3 + B.length + E.length)).k := by rw [mk, mk]; omega
  have hIk : (mv s (4 + B.length + E.length)).k + I.length = (mv s (4 + B.length + E.length + I.length)).k := by rw [mk, mk]; omega
  rw [k2] at c0
  rw [kB] at d1 d2
  rw [kC] at e0
  rw [kE] at f1 f2
  rw [kF] at g0
  rw [kI] at i1 i2
  obtain ⟨te', q1, r1⟩ := binds_read hL hB 0 (mv s 2) (by omega) he c0 (by rw [hBk, mk]; omega) (by rw [hBk]; exact isB_tx d2 row_lists.2.2.2.2.2.2.2.2)
  rw [mv_mv] at r1
  have t1 : takeS L ⟨#[58]⟩ (mv s (2 + B.length)) = mv s (3 + B.length) := by
    rw [take_ok (u := ⟨#[58]⟩) (by rw [mk]; omega) (isB_at d1 d2), mv_mv]
    congr 1; omega
  obtain ⟨t', q2, r2⟩ := expr_at hL hE hd (mv s (3 + B.length)) he (atG_up e0) stp_marks.2.2.1 (by rw [hEk]; exact f1) (by rw [hEk]; exact f2) (by rw [hEk, mk]; omega)
  rw [mv_mv] at r2
  have t2 : takeS L ⟨#[123]⟩ (mv s (3 + B.length + E.length)) = mv s (4 + B.length + E.length) := by
    rw [take_ok (u := ⟨#[123]⟩) (by rw [mk]; omega) (isB_at f1 f2), mv_mv]
    congr 1; omega
  have t3 : takeS L ⟨#[125]⟩ (mv s (4 + B.length + E.length + I.length)) = mv s (B.length + (E.length + (I.length + (0 + 1) + 1) + 1) + 1 + 1) := by
    rw [take_ok (u := ⟨#[125]⟩) (by rw [mk]; omega) (isB_at i1 i2), mv_mv]
    congr 1; omega
  have hend : nxIn L ((mv s (4 + B.length + E.length)).k + I.length) = false := by
    rw [hIk]
    have : mkB L (mv s (4 + B.length + E.length + I.length)).k ⟨#[125]⟩ = true := isB_at i1 i2
    unfold nxIn; rw [this]; rfl
  have hnm : (tk L (nameS L (stepS L (stepS L s))).k).2.1 = (tk L (nameS L (stepS L (stepS L s))).k).2.1 := rfl
  have b2' : (tk L (mv s 1).k).2.1 = x.s := b2
  refine ⟨hgo, ?_⟩
  rcases hbody with ⟨hv, hro, hI, hIl, _⟩ | ⟨hv, hte, hco, hI, hIl, _⟩
  · obtain ⟨co', q3, r3⟩ := items_read (most := 16) (con_read hL) hI 0 (mv s (4 + B.length + E.length)) (by omega) he g0 (by rw [hIk, mk]; omega) hend
    rw [mv_mv] at r3
    refine ⟨⟨x.k, (tk L s.k).2.2, x.s, te', t', co', []⟩, ⟨rfl, rfl, q1, q2, q3, by rw [hro]; exact .nil⟩, x.k, s, hK, .inl ⟨by omega, te', mv s (2 + B.length), t', mv s (3 + B.length + E.length), co', mv s (4 + B.length + E.length + I.length), ?_, ?_, ?_, t3, ?_⟩⟩
    · rw [s1, s2, s3]; exact r1
    · rw [t1]; exact r2
    · rw [t2]; exact r3
    · rw [s1, s2, b2']
  · obtain ⟨ro', q3, r3⟩ := items_read (most := 32) (row_read hL) hI 0 (mv s (4 + B.length + E.length)) (by omega) he g0 (by rw [hIk, mk]; omega) hend
    rw [mv_mv] at r3
    rw [hte] at hB q1
    have hB0 : B.length = 0 := by
      cases hB; rfl
    refine ⟨⟨x.k, (tk L s.k).2.2, x.s, [], t', [], ro'⟩, ⟨rfl, rfl, by rw [hte]; exact .nil, q2, by rw [hco]; exact .nil, q3⟩, x.k, s, hK, .inr ⟨hv, t', mv s (3 + B.length + E.length), ro', mv s (4 + B.length + E.length + I.length), ?_, ?_, t3, ?_⟩⟩
    · have t1' := t1
      have t0 : mv s (2 + B.length) = mv s 2 := by rw [hB0]
      rw [t0] at t1'
      rw [s1, s2, s3, t1']
      exact r2
    · rw [t2]; exact r3
    · rw [s1, s2, b2']
/-- Declarations, one behind the other. -/
inductive PFile : List DT → List Gc → Prop
  | nil : PFile [] []
  | cons {x : DT} {l : List DT} {P Q : List Gc} : PDecl x P → PFile l Q → PFile (x :: l) (P ++ Q)
theorem file_read {L : List Tk} (hL : L.length ≤ 8193) {l : List DT} {P : List Gc} (h : PFile l P) : ∀ (n : Nat) (s : St), n + l.length ≤ 8192 → s.e = 0 → AtG L s.k P → s.k + P.length < L.length → enB L (s.k + P.length) = true →
    ∃ l', All2 EqvD l' l ∧ ChainX L (DeclRl L) (nxGo L) 8192 n s l' (mv s P.length) := by
  induction h with
  | nil =>
    intro n s hn he ha hk hx
    refine ⟨[], .nil, .stop (fun h => ?_)⟩
    have hx : enB L s.k = true := hx
    have h2 := h.2
    unfold nxGo at h2
    rw [hx] at h2
    cases h2
  | @cons x l P Q hp hq ih =>
    intro n s hn he ha hk hx
    obtain ⟨c1, c2⟩ := atG_app ha
    simp only [List.length_cons, List.length_append] at hn hk hx ⊢
    obtain ⟨h0, x', e1, r1⟩ := decl_read hL hp s he c1 (by omega)
    obtain ⟨l', e2, r2⟩ := ih (n + 1) (mv s P.length) (by omega) he c2 (by show s.k + P.length + Q.length < _; omega) (by show enB L (s.k + P.length + Q.length) = true; rw [Nat.add_assoc]; exact hx)
    rw [mv_mv] at r2
    exact ⟨x' :: l', .cons e1 e2, .next he h0 (by omega) r1 r2⟩

end Go.Proofs.YteaojmcfppbgiaaGreatDoor

/- A declaration's printed text is its pieces'; it is cut into just these. No program. -/
namespace Go.Proofs.YteaojmcfppbgiaaGreatDoor
open Go.RowKit
set_option linter.unusedVariables false
set_option maxRecDepth 100000

theorem kw_tx (k : Int) : kwX k = tx (kwT k) := by
  unfold kwX kwT
  split
  · rfl
  · split <;> rfl
theorem typ_text {x : BT} {g : Nat} {P : List Pc} (h : PTyp x g P) : pcsL P = toI (conX x) ++ List.replicate g 32 := by
  obtain ⟨ns, Q, hn, hp, hd, rfl⟩ := h
  rw [pcsL_cons, pcsL_cons, pe_text hp (by omega)]
  unfold conX typedX
  simp only [toI_app, List.append_assoc, mark_bytes.2.2.2.2.1, toI_tx]
  rfl
theorem more_bytes : bytesL semiT = [59] ∧ bytesL eqT = [61] ∧ bytesL lbT = [123] ∧ bytesL rbT = [125] := ⟨rfl, rfl, rfl, rfl⟩
theorem binds_text {l : List BT} {P : List Gc} (h : PBinds l P) : [32] ++ pcsG P = toI (bindsX l) ++ [32] := by
  induction h with
  | nil => rfl
  | @cons x l P Q hp hq ih =>
    rw [pcsG_cons, pcsG_app, pcsG_cons, pcsG_up, typ_text hp, bindsX]
    show [32] ++ (bytesL openT ++ ([] ++ ((toI (conX x) ++ []) ++ (bytesL closeT ++ ([32] ++ pcsG Q))))) = _
    rw [ih, mark_bytes.1, mark_bytes.2.1]
    unfold bindX
    simp only [toI_app, List.append_assoc, List.append_nil, List.nil_append]
    rfl
def indG : Nat → List Int
  | 0 => []
  | _ + 1 => [32, 32]
theorem nl_ind (n : Nat) : nlG n = 10 :: indG n := by cases n <;> rfl
theorem items_text {α : Type} {item : α → List Pc → Prop} {f : α → Tx} (hf : ∀ x P, item x P → pcsL P = toI (f x)) {l : List α} {P : List Gc} (h : PItems item l P) : indG l.length ++ pcsG P = toI (itemsX f l) := by
  induction h with
  | nil => rfl
  | @cons x l P Q hp hq ih =>
    rw [pcsG_app, pcsG_cons, pcsG_up, hf _ _ hp, itemsX]
    show [32, 32] ++ (toI (f x) ++ (bytesL semiT ++ (nlG l.length ++ pcsG Q))) = _
    rw [nl_ind, show (10 :: indG l.length) ++ pcsG Q = 10 :: (indG l.length ++ pcsG Q) from rfl, ih, more_bytes.1]
    simp only [toI_app]
    rfl
theorem rowPX_pats : ∀ {l : List RT}, 0 < l.length → rowPX l = patsX l ++ [32]
  | [t], _ => by rw [rowPX, rowPX, patsX, List.append_nil]
  | t :: u :: r, _ => by
    rw [rowPX, rowPX_pats (l := u :: r) (by simp), patsX_cons t (by simp)]
    simp
theorem row_text {x : CT} {P : List Pc} (h : PRow x P) : pcsL P = toI (rowX x) := by
  obtain ⟨Q, R, rfl, hq, hd, hl, hb⟩ := h
  have h1 : pcsL Q = toI (rowPX x.ps) := by
    rcases hq with ⟨h1, h2⟩ | h1
    · rw [h1, h2]; rfl
    · rw [pp_text h1, rowPX_pats (pp_pos h1), toI_app]; rfl
  rw [pcsL_app, h1]
  unfold rowX
  rcases hb with ⟨hh, S, hS, hdS, rfl⟩ | ⟨hh, hz, rfl⟩
  · rw [pcsL_cons, pe_text hS (by omega), hh, if_pos rfl]
    simp only [toI_app, more_bytes.2.1]
    show _ ++ ([61] ++ ([32] ++ (_ ++ []))) = _
    rw [List.append_nil]; rfl
  · rw [hh]
    show _ ++ [] = toI (_ ++ [])
    rw [List.append_nil, List.append_nil]
theorem decl_text {x : DT} {P : List Gc} (h : PDecl x P) : pcsG P = toI (declX x) := by
  obtain ⟨ns, n, B, E, I, hn, hB, hBl, hE, hd, hbody, rfl⟩ := h
  have hI : indG n ++ pcsG I = toI (itemsX conX x.co ++ itemsX rowX x.ro) := by
    rcases hbody with ⟨hv, hro, hI, hIl, rfl⟩ | ⟨hv, hte, hco, hI, hIl, rfl⟩
    · rw [items_text (f := conX) (fun x P hp => by have := typ_text (g := 0) hp; rw [this]; exact List.append_nil _) hI, hro]
      show _ = toI (_ ++ [])
      rw [List.append_nil]
    · rw [items_text (f := rowX) (fun x P hp => row_text hp) hI, hco]
      rfl
  unfold declG declX
  rw [kw_tx]
  rw [pcsG_cons, pcsG_cons, pcsG_app, pcsG_cons, pcsG_app, pcsG_cons, pcsG_app, pcsG_cons, pcsG_nil, pcsG_up, pe_text hE (by omega), nl_ind]
  show bytesL (kwT x.k) ++ ([32] ++ (bytesL x.s ++ ([32] ++ (pcsG B ++ (bytesL colonT ++ ([32] ++ ((toI (exprX x.t 0) ++ [32]) ++ (bytesL lbT ++ ([10] ++ (indG n ++ (pcsG I ++ (bytesL rbT ++ ([10] ++ [])))))))))))))  = _
  have e1 : ∀ X : List Int, [32] ++ (pcsG B ++ X) = toI (bindsX x.te) ++ ([32] ++ X) := fun X => by rw [← List.append_assoc, binds_text hB, List.append_assoc]
  have e2 : ∀ X : List Int, indG n ++ (pcsG I ++ X) = toI (itemsX conX x.co ++ itemsX rowX x.ro) ++ X := fun X => by rw [← List.append_assoc, hI]
  rw [e1, e2, mark_bytes.2.2.2.2.1, more_bytes.2.2.1, more_bytes.2.2.2]
  simp only [toI_app, List.append_assoc, toI_tx]
  rfl
theorem file_text {l : List DT} {P : List Gc} (h : PFile l P) : pcsG P = toI (fileX l) := by
  induction h with
  | nil => rfl
  | cons hp _ ih => rw [pcsG_app, decl_text hp, ih, fileX, toI_app]

/-! ### cutting -/
theorem sign_semi (rest : List Int) : signB semiT rest = true ∧ signB eqT rest = true ∧ signB rbT rest = true := by
  obtain ⟨h1, h2, h3, h4⟩ := more_bytes
  refine ⟨?_, ?_, ?_⟩
  · unfold signB; rw [h1]; simp [oneMarks]
  · unfold signB; rw [h2]; simp [oneMarks]
  · unfold signB; rw [h4]; simp [oneMarks]
theorem sign_lb (n : Nat) (R : List Int) : signB lbT (nlG n ++ R) = true := by
  unfold signB
  rw [more_bytes.2.2.1, nl_ind]
  simp [oneMarks]
theorem stop_semi (R : List Int) : stopB (59 :: R) = true := by
  show (decide ((0 : Int) ≤ 59) && (decide ((59 : Int) < 128) && !withinB 59)) = true
  kernel_rfl
theorem typ_ok {x : BT} {g : Nat} {P : List Pc} (h : PTyp x g P) {R : List Int} (hr : stopB (List.replicate g 32 ++ R) = true) : OkPcs P R := by
  obtain ⟨ns, Q, hn, hp, hd, rfl⟩ := h
  exact ⟨name_pc hn (stop_sp _), sign_pc (sign_open _).2.2.2.2, pe_ok hp R hr⟩
theorem binds_ok {l : List BT} {P : List Gc} (h : PBinds l P) : ∀ R, OkG P R := by
  induction h with
  | nil => intro R; exact trivial
  | @cons x l P Q hp hq ih =>
    intro R
    refine ⟨rfl, sign_pc (sign_open _).1, okG_app (okG_up (typ_ok hp ?_)) ⟨by decide, sign_pc (sign_open _).2.1, ih R⟩⟩
    rw [pcsG_cons, mark_bytes.2.1]
    exact stop_close _
theorem nl_blank (n : Nat) : (nlG n).all blankB = true := by
  cases n with
  | zero => decide
  | succ n => show ([10, 32, 32] : List Int).all blankB = true; decide
theorem items_ok {α : Type} {item : α → List Pc → Prop} (hf : ∀ x P R, item x P → OkPcs P (59 :: R)) {l : List α} {P : List Gc} (h : PItems item l P) : ∀ R, OkG P R := by
  induction h with
  | nil => intro R; exact trivial
  | @cons x l P Q hp hq ih =>
    intro R
    refine okG_app (okG_up ?_) ⟨nl_blank _, sign_pc (sign_semi _).1, ih R⟩
    rw [pcsG_cons, more_bytes.1]
    exact hf _ _ _ hp
theorem row_ok {x : CT} {P : List Pc} (h : PRow x P) (R0 : List Int) : OkPcs P (59 :: R0) := by
  obtain ⟨Q, R, rfl, hq, hd, hl, hb⟩ := h
  refine okPcs_app ?_ ?_
  · rcases hq with ⟨h1, h2⟩ | h1
    · rw [h2]; exact trivial
    · exact pp_ok h1 _ (stop_sp _)
  · rcases hb with ⟨hh, S, hS, hdS, rfl⟩ | ⟨hh, hz, rfl⟩
    · exact ⟨sign_pc (sign_semi _).2.1, pe_ok hS _ (stop_semi _)⟩
    · exact trivial
theorem kw_word (k : Int) : wordB 2 (kwT k) = true := by
  unfold kwT
  split
  · kernel_rfl
  · split <;> kernel_rfl
theorem decl_ok {x : DT} {P : List Gc} (h : PDecl x P) (R : List Int) : OkG P R := by
  obtain ⟨ns, n, B, E, I, hn, hB, hBl, hE, hd, hbody, rfl⟩ := h
  have hI : ∀ R, OkG I R := by
    rcases hbody with ⟨hv, hro, hI, hIl, rfl⟩ | ⟨hv, hte, hco, hI, hIl, rfl⟩
    · exact items_ok (fun x P R hp => typ_ok (g := 0) hp (stop_semi _)) hI
    · exact items_ok (fun x P R hp => row_ok hp R) hI
  exact ⟨by decide, word_pc (kw_word _) (stop_sp _), by decide, name_pc hn (stop_sp _), okG_app (binds_ok hB _) ⟨by decide, sign_pc (sign_open _).2.2.2.2, okG_app (okG_up (pe_ok hE _ (stop_sp _)))
    ⟨nl_blank _, sign_pc (sign_lb _ _), okG_app (hI _) ⟨by decide, sign_pc (sign_semi _).2.2, trivial⟩⟩⟩⟩
theorem file_ok {l : List DT} {P : List Gc} (h : PFile l P) : ∀ R, OkG P R := by
  induction h with
  | nil => intro R; exact trivial
  | cons hp _ ih => intro R; exact okG_app (decl_ok hp _) (ih R)

end Go.Proofs.YteaojmcfppbgiaaGreatDoor
