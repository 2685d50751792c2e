/- What is right has pieces. No program. -/
import Derived.Test.YteaojmcfppbgiaaGreatDoorD5
import Derived.Test.YteaojmcfppbgiaaGreatDoorFitD
namespace Go.Proofs.YteaojmcfppbgiaaGreatDoor
open Go.RowKit
set_option linter.unusedVariables false
set_option maxRecDepth 100000

theorem low_is {s : ByteArray} (h : lowB s = true) : s = lowT := by
  have e : s.toList = [95] := by unfold lowB at h; simpa using h
  apply bytesL_inj
  unfold bytesL
  rw [ByteArray.toList_eq] at e
  rw [e]; rfl
theorem none_is {s : ByteArray} (h : noneB s = true) : s = ⟨#[]⟩ := by
  have e : s.toList = [] := by unfold noneB at h; simpa using h
  apply bytesL_inj
  unfold bytesL
  rw [ByteArray.toList_eq] at e
  rw [e]; first | done | rfl
theorem nm_is {s : ByteArray} (h : nmB s = true) : ∃ ns, IsName s ns := by
  unfold nmB at h
  exact @of_decide_eq_true _ (Classical.propDecidable _) h
theorem len_two {α : Type} {l : List α} (h : l.length = 2) : ∃ x y, l = [x, y] := by
  match l, h with
  | [x, y], _ => exact ⟨x, y, rfl⟩
theorem len_one {α : Type} {l : List α} (h : l.length = 1) : ∃ x, l = [x] := by
  match l, h with
  | [x], _ => exact ⟨x, rfl⟩
theorem good_parts {k a : Int} {s : ByteArray} {n : Int} {l : List RT} {p : Bool} (h : goodB (.node k a s n l) p = true) :
    (1 ≤ k ∧ k ≤ 10 ∧ decide (5 < k) = p ∧ manyB k l.length = true ∧ namedB k s = true ∧ numB k n = true) ∧ ∀ t ∈ l, goodB t (decide (k = 8)) = true := by
  rw [goodB_node, Bool.and_eq_true, goodL_all] at h
  unfold topB at h
  simp only [Bool.and_eq_true, decide_eq_true_eq, beq_iff_eq] at h
  exact ⟨⟨h.1.1, h.1.2.1, h.1.2.2.1, h.1.2.2.2.1, h.1.2.2.2.2.1, h.1.2.2.2.2.2⟩, fun t ht => List.all_eq_true.1 h.2 t ht⟩
theorem good_wf (t : RT) : goodB t false = true → WfE t := by
  induction t using RT.ind with
  | h k a s n l ih =>
    intro h
    obtain ⟨⟨h1, h2, h3, h4, h5, h6⟩, h7⟩ := good_parts h
    have hk : k = 1 ∨ k = 2 ∨ k = 3 ∨ k = 4 ∨ k = 5 := by
      have := of_decide_eq_false h3
      omega
    rcases hk with rfl | rfl | rfl | rfl | rfl
    · obtain ⟨ns, hn⟩ := nm_is (s := s) h5
      have e1 : l = [] := List.eq_nil_of_length_eq_zero (by simpa [manyB] using h4)
      have e2 : n = 0 := by simpa [numB] using h6
      subst e1; subst e2
      exact .nm hn
    · have e1 : l = [] := List.eq_nil_of_length_eq_zero (by simpa [manyB] using h4)
      have e2 : 0 ≤ n ∧ n ≤ 7 := by simpa [numB] using h6
      have e3 : s = ⟨#[]⟩ := none_is h5
      subst e1; subst e3
      exact .set e2.1 e2.2
    · obtain ⟨x, y, rfl⟩ := len_two (l := l) (by simpa [manyB] using h4)
      have e2 : n = 0 := by simpa [numB] using h6
      subst e2
      have hx := ih x (by simp) (h7 x (by simp))
      have hy := ih y (by simp) (h7 y (by simp))
      have h5 : (lowB s || nmB s) = true := h5
      rw [Bool.or_eq_true] at h5
      rcases h5 with h5 | h5
      · rw [low_is h5]; exact .arr hx hy
      · obtain ⟨ns, hn⟩ := nm_is h5; exact .pi hn hx hy
    · obtain ⟨x, y, rfl⟩ := len_two (l := l) (by simpa [manyB] using h4)
      have e2 : n = 0 := by simpa [numB] using h6
      subst e2
      have hx := ih x (by simp) (h7 x (by simp))
      have hy := ih y (by simp) (h7 y (by simp))
      have h5 : (lowB s || nmB s) = true := h5
      rw [Bool.or_eq_true] at h5
      rcases h5 with h5 | h5
      · exact .lam (.inl (low_is h5)) hx hy
      · exact .lam (.inr (nm_is h5)) hx hy
    · obtain ⟨x, y, rfl⟩ := len_two (l := l) (by simpa [manyB] using h4)
      have e2 : n = 0 := by simpa [numB] using h6
      have e3 : s = ⟨#[]⟩ := none_is h5
      subst e2; subst e3
      exact .app (ih x (by simp) (h7 x (by simp))) (ih y (by simp) (h7 y (by simp)))
theorem pp_many : ∀ {l : List RT}, 0 < l.length → (∀ t ∈ l, ∀ g, ∃ P, PP [t] g P) → ∀ g, ∃ P, PP l g P
  | [t], _, h, g => h t (List.mem_cons_self ..) g
  | t :: u :: r, _, h, g => by
    obtain ⟨P, hP⟩ := h t (List.mem_cons_self ..) 1
    obtain ⟨Q, hQ⟩ := pp_many (l := u :: r) (by simp) (fun t ht => h t (List.mem_cons_of_mem _ ht)) g
    exact ⟨_, .cons (by simp) hP hQ⟩
theorem good_pp (t : RT) : goodB t true = true → ∀ g, ∃ P, PP [t] g P := by
  induction t using RT.ind with
  | h k a s n l ih =>
    intro h g
    obtain ⟨⟨h1, h2, h3, h4, h5, h6⟩, h7⟩ := good_parts h
    have hk : k = 6 ∨ k = 7 ∨ k = 8 ∨ k = 9 ∨ k = 10 := by
      have := of_decide_eq_true h3
      omega
    rcases hk with rfl | rfl | rfl | rfl | rfl
    · obtain ⟨ns, hn⟩ := nm_is (s := s) h5
      have e1 : l = [] := List.eq_nil_of_length_eq_zero (by simpa [manyB] using h4)
      have e2 : n = 0 := by simpa [numB] using h6
      subst e1; subst e2
      exact ⟨_, .nm hn⟩
    · have e1 : l = [] := List.eq_nil_of_length_eq_zero (by simpa [manyB] using h4)
      have e2 : n = 0 := by simpa [numB] using h6
      have e3 : s = ⟨#[]⟩ := none_is h5
      subst e1; subst e2; subst e3
      exact ⟨_, .any⟩
    · obtain ⟨ns, hn⟩ := nm_is (s := s) h5
      have e1 : 0 < l.length := by simpa [manyB] using h4
      have e2 : n = 0 := by simpa [numB] using h6
      subst e2
      obtain ⟨P, hP⟩ := pp_many e1 (fun t ht g => ih t ht (h7 t ht) g) 0
      exact ⟨_, .con hn e1 hP⟩
    · have e1 : l = [] := List.eq_nil_of_length_eq_zero (by simpa [manyB] using h4)
      have e2 : n = 0 := by simpa [numB] using h6
      have e3 : s = ⟨#[]⟩ := none_is h5
      subst e1; subst e2; subst e3
      exact ⟨_, .none⟩
    · obtain ⟨x, rfl⟩ := len_one (l := l) (by simpa [manyB] using h4)
      have e2 : n = 0 := by simpa [numB] using h6
      have e3 : s = ⟨#[]⟩ := none_is h5
      subst e2; subst e3
      obtain ⟨P, hP⟩ := pe_ex (good_wf x (h7 x (by simp))) 2 g
      exact ⟨_, .dot hP⟩

/-! ### declarations -/
theorem allB_mem {α : Type} {f : α → Bool} {l : List α} (h : allB (fun i => (l[i]?.map f).getD true) l.length = true) : ∀ x ∈ l, f x = true := by
  intro x hx
  obtain ⟨i, hi, rfl⟩ := List.getElem_of_mem hx
  have := allB_true.1 h i hi
  rw [List.getElem?_eq_getElem hi] at this
  exact this
theorem expr_pe {t : RT} (h : exprB t = true) (lv g : Nat) : deepN t ≤ 128 ∧ ∃ P, PE t lv g P := by
  unfold exprB at h
  rw [Bool.and_eq_true] at h
  exact ⟨of_decide_eq_true h.1, pe_ex (good_wf t h.2) lv g⟩
theorem bind_typ {x : BT} (h : bindB x = true) (g : Nat) : ∃ P, PTyp x g P := by
  unfold bindB at h
  rw [Bool.and_eq_true] at h
  obtain ⟨ns, hn⟩ := nm_is h.1
  obtain ⟨hd, P, hP⟩ := expr_pe h.2 0 g
  exact ⟨_, ns, P, hn, hP, hd, rfl⟩
theorem binds_ex : ∀ {l : List BT}, (∀ x ∈ l, bindB x = true) → ∃ P, PBinds l P
  | [], _ => ⟨_, .nil⟩
  | x :: l, h => by
    obtain ⟨P, hP⟩ := bind_typ (h x (List.mem_cons_self ..)) 0
    obtain ⟨Q, hQ⟩ := binds_ex (l := l) (fun x hx => h x (List.mem_cons_of_mem _ hx))
    exact ⟨_, .cons hP hQ⟩
theorem items_ex {α : Type} {item : α → List Pc → Prop} : ∀ {l : List α}, (∀ x ∈ l, ∃ P, item x P) → ∃ P, PItems item l P
  | [], _ => ⟨_, .nil⟩
  | x :: l, h => by
    obtain ⟨P, hP⟩ := h x (List.mem_cons_self ..)
    obtain ⟨Q, hQ⟩ := items_ex (l := l) (fun x hx => h x (List.mem_cons_of_mem _ hx))
    exact ⟨_, .cons hP hQ⟩
theorem zero_is {t : RT} (h : zeroB t = true) : t = zeroT := by
  obtain ⟨k, a, s, n, l⟩ := t
  unfold zeroB at h
  simp only [Bool.and_eq_true, decide_eq_true_eq] at h
  obtain ⟨h1, h2, h3, h4, h5⟩ := h
  have h1 : k = 0 := h1
  have h2 : a = 0 := h2
  have h3' : s = ⟨#[]⟩ := none_is h3
  have h4 : n = 0 := h4
  have h5x : l = [] := List.eq_nil_of_length_eq_zero h5
  subst h1; subst h2; subst h3'; subst h4; subst h5x
  rfl
theorem row_ex {x : CT} (h : rowB x = true) : ∃ P, PRow x P := by
  unfold rowB at h
  rw [Bool.and_eq_true, Bool.and_eq_true, decide_eq_true_eq] at h
  obtain ⟨h1, h2, h3⟩ := h
  have hp := allB_mem h2
  have hd : ∀ t ∈ x.ps, deepN t ≤ 128 ∧ goodB t true = true := fun t ht => by
    have := hp t ht
    unfold patB at this
    rw [Bool.and_eq_true] at this
    exact ⟨of_decide_eq_true this.1, this.2⟩
  have hq : ∃ Q, PPats x.ps Q := by
    by_cases h0 : x.ps = []
    · exact ⟨[], .inl ⟨h0, rfl⟩⟩
    · obtain ⟨Q, hQ⟩ := pp_many (by cases hx : x.ps with | nil => exact absurd hx h0 | cons _ _ => simp) (fun t ht g => good_pp t (hd t ht).2 g) 1
      exact ⟨Q, .inr hQ⟩
  obtain ⟨Q, hQ⟩ := hq
  cases hh : x.h with
  | true =>
    rw [hh, if_pos rfl] at h3
    obtain ⟨hdt, S, hS⟩ := expr_pe h3 0 0
    exact ⟨_, Q, _, rfl, hQ, fun t ht => (hd t ht).1, h1, .inl ⟨hh, S, hS, hdt, rfl⟩⟩
  | false =>
    rw [hh, if_neg (by decide)] at h3
    refine ⟨_, Q, [], rfl, hQ, fun t ht => (hd t ht).1, h1, .inr ⟨hh, ?_, rfl⟩⟩
    rw [zero_is h3]
    exact Eqv.leaf 0 0 0 _ 0
theorem decl_ex {x : DT} (h : declB x = true) : ∃ P, PDecl x P := by
  unfold declB at h
  simp only [Bool.and_eq_true, decide_eq_true_eq] at h
  obtain ⟨h1, h2, h3, h4, h5, h6, h7, h8⟩ := h
  obtain ⟨ns, hn⟩ := nm_is h3
  obtain ⟨B, hB⟩ := binds_ex (allB_mem h5)
  obtain ⟨hd, E, hE⟩ := expr_pe h6 0 1
  unfold roomB at h4
  by_cases hk : x.k = 3
  · rw [if_pos hk] at h4
    simp only [Bool.and_eq_true, decide_eq_true_eq] at h4
    have e1 : x.te = [] := List.eq_nil_of_length_eq_zero (by omega)
    have e2 : x.co = [] := List.eq_nil_of_length_eq_zero (by omega)
    obtain ⟨I, hI⟩ := items_ex (item := PRow) (fun y hy => row_ex (allB_mem h8 y hy))
    exact ⟨_, ns, _, B, E, I, hn, hB, by omega, hE, hd, .inr ⟨hk, e1, e2, hI, by omega, rfl⟩, rfl⟩
  · rw [if_neg hk] at h4
    simp only [Bool.and_eq_true, decide_eq_true_eq] at h4
    have e1 : x.ro = [] := List.eq_nil_of_length_eq_zero (by omega)
    obtain ⟨I, hI⟩ := items_ex (item := PCon) (fun y hy => bind_typ (allB_mem h7 y hy) 0)
    exact ⟨_, ns, _, B, E, I, hn, hB, by omega, hE, hd, .inl ⟨by omega, e1, hI, by omega, rfl⟩, rfl⟩
theorem file_ex : ∀ {l : List DT}, (∀ x ∈ l, declB x = true) → ∃ P, PFile l P
  | [], _ => ⟨_, .nil⟩
  | x :: l, h => by
    obtain ⟨P, hP⟩ := decl_ex (h x (List.mem_cons_self ..))
    obtain ⟨Q, hQ⟩ := file_ex (l := l) (fun x hx => h x (List.mem_cons_of_mem _ hx))
    exact ⟨_, .cons hP hQ⟩

end Go.Proofs.YteaojmcfppbgiaaGreatDoor

/- What parse says of a printed text. No walk. -/
namespace Go.Proofs.YteaojmcfppbgiaaGreatDoor
open Go.RowKit
set_option linter.unusedVariables false
set_option maxRecDepth 100000

theorem blank_asc {g : List Int} (h : g.all blankB = true) : ∀ b ∈ g, 0 ≤ b ∧ b < 128 := fun b hb => by
  have := List.all_eq_true.1 h b hb
  unfold blankB at this
  simp only [Bool.or_eq_true, decide_eq_true_eq] at this
  omega
theorem fine_runG : ∀ (P : List Gc) (t : ByteArray) (a : Nat), OkG P [] → a ≤ t.size → (bytesL t).drop a = pcsG P → Fine (pcsG P)
  | [], t, a, _, ha, hd => Fine.ascii _ (by decide)
  | (k, u, g) :: P, t, a, h, ha, hd => by
    have hex : bytesL (t.extract a t.size) = bytesL u ++ (g ++ (pcsG P ++ [])) := by
      rw [bytesL_extract, List.take_of_length_le (by rw [List.length_drop, bytesL_length]; exact Nat.le_refl _), hd, pcsG_cons, List.append_nil]
    have hf := (tok_fine (h.2.1 _ hex)).1
    rw [pcsG_cons] at hd ⊢
    have hlen := congrArg List.length hd
    rw [List.length_drop, bytesL_length, List.length_append, List.length_append, bytesL_length] at hlen
    simp only at hlen hd
    have hd3 : (bytesL t).drop (a + u.size + g.length) = pcsG P := by
      rw [← List.drop_drop, ← List.drop_drop, hd, ← bytesL_length u, List.drop_left' rfl, List.drop_left' rfl]
    exact hf.app ((Fine.ascii _ (blank_asc h.1)).app (fine_runG P t _ h.2.2 (by omega) hd3))
theorem text_cutG {u : ByteArray} {P : List Gc} (hu : bytesL u = pcsG P) (ok : OkG P []) (hm : P.length ≤ 8192) :
    (∃ ns, Parse (bytesL u) ns []) ∧ Lex u (skipL (bytesL u)) 0 (toksPc (P.map dnG) 0) u.size 0 := by
  have hs : skipL (bytesL u) = 0 := by
    match P, hu, ok with
    | [], hu, _ => rw [hu]; rfl
    | (k, v, g) :: P, hu, ok =>
      rw [pcsG_cons] at hu
      exact skipL_stop (tok_gap (ok.2.1 u (by rw [hu, List.append_nil])))
  exact ⟨by rw [hu]; exact (fine_runG P u 0 ok (Nat.zero_le _) (by rw [List.drop_zero]; exact hu)).parse, by rw [hs]; exact lex_runG P u 0 0 ok (Nat.zero_le _) (by rw [List.drop_zero]; exact hu) (by omega)⟩

/-- The tokens, and how they end. -/
def tkG (P : List Gc) (n : Nat) : List Tk := withEnd (toksPc (P.map dnG) 0) n
theorem tkG_length (P : List Gc) (n : Nat) : (tkG P n).length = P.length + 1 := by unfold tkG withEnd; simp [toksPc_length]
theorem tkG_at (P : List Gc) (n : Nat) : AtG (tkG P n) 0 P := at_toks (P.map dnG) 0 n
theorem tkG_end (P : List Gc) (n : Nat) : tk (tkG P n) P.length = (5, ⟨#[]⟩, n) := by
  have := end_toks (P.map dnG) 0 n
  rw [List.length_map] at this
  exact this
theorem end_nx {L : List Tk} {k n : Nat} (h : tk L k = (5, ⟨#[]⟩, n)) : Nx L k ∧ agB L k = false ∧ ptB L k = false ∧ mkB L k arrowT = false ∧ enB L k = true := by
  have h1 : (tk L k).1 = 5 := by rw [h]
  have h2 : (tk L k).2.1 = ⟨#[]⟩ := by rw [h]
  have g0 : ∀ u, mkB L k u = false := fun u => isB_ne h1 (by decide)
  have g1 : kyB L k ⟨#[83, 101, 116]⟩ = false := isB_ne h1 (by decide)
  have g2 : loB L k = false := isB_ne h1 (by decide)
  refine ⟨⟨by rw [h2]; exact nil_num, col_kind h1 (by decide)⟩, ?_, ?_, g0 _, ?_⟩
  · unfold agB; rw [nmd_kind h1 (by decide), g0, g1]; rfl
  · unfold ptB; rw [nmd_kind h1 (by decide), g0, g0, g2]; rfl
  · unfold enB; rw [h1]; rfl
theorem end_mv {L : List Tk} {m n : Nat} (h : tk L m = (5, ⟨#[]⟩, n)) : endS L (mv s0 m) = mv s0 m := by
  have : enB L (mv s0 m).k = true := by show enB L (0 + m) = true; rw [Nat.zero_add]; exact (end_nx h).2.2.2.2
  unfold endS; rw [this, if_pos rfl]
theorem expr_back {t : RT} {P : List Pc} (h : PE t 0 0 P) (hd : deepN t ≤ 128) (hm : P.length ≤ 8192) {u : ByteArray} (hu : bytesL u = toI (exprX t 0)) (hs : u.size ≤ 65535) :
    ∃ t' z, Eqv t' t ∧ (z : St).e = 0 ∧ ∀ w, Calls Tryz.prog 13 #[.string u] w (ExprOut t' z u.size w) := by
  have hG : bytesL u = pcsG (P.map upG) := by rw [pcsG_up, pe_text h (by omega), hu]; exact (List.append_nil _).symm
  obtain ⟨⟨ns, hp⟩, hx⟩ := text_cutG hG (okG_up (pe_ok h [] rfl)) (by rw [List.length_map]; exact hm)
  have hl := tkG_length (P.map upG) u.size
  have he := tkG_end (P.map upG) u.size
  rw [List.length_map] at hl he
  obtain ⟨g1, g2, g3, g4, g5⟩ := end_nx he
  have e0 : s0.k + P.length = P.length := Nat.zero_add _
  obtain ⟨t', e1, r1⟩ := (pe_read (by rw [hl]; omega) h s0 rfl (atG_up (tkG_at (P.map upG) u.size)) (by rw [e0, hl]; omega) (by rw [e0]; exact g1)).2.1 rfl (by rw [e0]; exact g2) (by rw [e0]; exact g4)
  refine ⟨t', mv s0 P.length, e1, rfl, fun w => ?_⟩
  have := expr_of (w := w) hs hp hx (t := t') (s' := mv s0 P.length) ⟨_, r1, by unfold wholeS; rw [if_neg (by rw [deep_eqv e1]; omega)]⟩
  rw [show endS (withEnd (toksPc ((P.map upG).map dnG) 0) u.size) (mv s0 P.length) = mv s0 P.length from end_mv he] at this
  exact this
theorem pat_back {t : RT} {P : List Pc} (h : PP [t] 0 P) (hd : deepN t ≤ 128) (hm : P.length ≤ 8192) {u : ByteArray} (hu : bytesL u = toI (patX t)) (hs : u.size ≤ 65535) :
    ∃ t' z, Eqv t' t ∧ (z : St).e = 0 ∧ ∀ w, Calls Tryz.prog 16 #[.string u] w (PatsOut [t'] z u.size w) := by
  have hG : bytesL u = pcsG (P.map upG) := by rw [pcsG_up, pp_text h, hu]; exact (List.append_nil _).symm
  obtain ⟨⟨ns, hp⟩, hx⟩ := text_cutG hG (okG_up (pp_ok h [] rfl)) (by rw [List.length_map]; exact hm)
  have hl := tkG_length (P.map upG) u.size
  have he := tkG_end (P.map upG) u.size
  rw [List.length_map] at hl he
  obtain ⟨g1, g2, g3, g4, g5⟩ := end_nx he
  have e0 : s0.k + P.length = P.length := Nat.zero_add _
  obtain ⟨t', e1, r1, g6⟩ := pp_one (by rw [hl]; omega) h s0 rfl (atG_up (tkG_at (P.map upG) u.size)) (by rw [e0, hl]; omega) (by rw [e0]; exact g1)
  refine ⟨t', mv s0 P.length, e1, rfl, fun w => ?_⟩
  have hps : PatsR (tkG (P.map upG) u.size) 0 s0 [t'] (mv s0 P.length) := psteps_pats (.cons rfl g6 r1 .nil) (by show ptB _ (s0.k + P.length) = false; rw [e0]; exact g3) (fun t ht => by rw [List.mem_singleton.1 ht, deep_eqv e1]; exact hd) 0 (by simp)
  have := pats_of (w := w) hs hp hx hps
  rw [show endS (withEnd (toksPc ((P.map upG).map dnG) 0) u.size) (mv s0 P.length) = mv s0 P.length from end_mv he] at this
  exact this
end Go.Proofs.YteaojmcfppbgiaaGreatDoor

/- How many pieces a printed text has; what token.All says of one that has too many. No walk. -/
namespace Go.Proofs.YteaojmcfppbgiaaGreatDoor
open Go.RowKit
set_option linter.unusedVariables false
set_option maxRecDepth 100000

theorem size_two (k a : Int) (s : ByteArray) (n : Int) (x y : RT) : (RT.node k a s n [x, y]).size = x.size + y.size + 1 := by
  rw [size_node, sizeL_cons, sizeL_cons, sizeL_nil]; omega
theorem size_leaf (k a : Int) (s : ByteArray) (n : Int) : (RT.node k a s n []).size = 1 := by rw [size_node, sizeL_nil]
theorem pe_len {t : RT} {lv g : Nat} {P : List Pc} (h : PE t lv g P) : P.length ≤ 10 * t.size ∧ (lv = 0 → P.length + 2 ≤ 10 * t.size) := by
  induction h with
  | nm h => rw [size_leaf]; exact ⟨by simp, fun _ => by simp⟩
  | set0 => rw [size_leaf]; exact ⟨by simp, fun _ => by simp⟩
  | setN h1 h7 => rw [size_leaf]; exact ⟨by simp, fun _ => by simp⟩
  | arr _ _ ih1 ih2 => rw [size_two]; simp only [List.length_append, List.length_cons]; have := ih2.2 rfl; omega
  | pi h _ _ ih1 ih2 => rw [size_two]; simp only [List.length_append, List.length_cons]; have := ih2.2 rfl; have := ih1.2 rfl; omega
  | lam h _ _ ih1 ih2 => rw [size_two]; simp only [List.length_append, List.length_cons]; have := ih2.2 rfl; have := ih1.2 rfl; omega
  | app hl _ _ ih1 ih2 => rw [size_two]; simp only [List.length_append]; omega
  | par hc _ ih => simp only [List.length_append, List.length_cons, List.length_nil]; have := ih.2 rfl; omega
theorem pp_len {l : List RT} {g : Nat} {P : List Pc} (h : PP l g P) : P.length ≤ 10 * sizeL l := by
  induction h with
  | nm h => rw [sizeL_cons, sizeL_nil, size_leaf]; simp
  | any => rw [sizeL_cons, sizeL_nil, size_leaf]; simp
  | none => rw [sizeL_cons, sizeL_nil, size_leaf]; simp
  | dot hp => rw [sizeL_cons, sizeL_nil, size_node, sizeL_cons, sizeL_nil, List.length_cons]; have := (pe_len hp).1; omega
  | con h hl hp ih => rw [sizeL_cons, sizeL_nil, size_node]; simp only [List.length_append, List.length_cons, List.length_nil]; omega
  | cons hl _ _ ih1 ih2 => rw [sizeL_cons, List.length_append]; rw [sizeL_cons, sizeL_nil] at ih1; omega
/-- More pieces than there may be tokens. -/
theorem lex_longG : ∀ (P : List Gc) (t : ByteArray) (a c : Nat), OkG P [] → a ≤ t.size → (bytesL t).drop a = pcsG P → c ≤ 8192 → 8192 < c + P.length → ∃ l stop, Lex t a c l stop 2
  | [], t, a, c, _, ha, hd, h1, h2 => by simp at h2; omega
  | (k, u, g) :: P, t, a, c, h, ha, hd, h1, h2 => by
    have hex : bytesL (t.extract a t.size) = bytesL u ++ (g ++ (pcsG P ++ [])) := by
      rw [bytesL_extract, List.take_of_length_le (by rw [List.length_drop, bytesL_length]; exact Nat.le_refl _), hd, pcsG_cons, List.append_nil]
    have hk := h.2.1 _ hex
    have hpos := (tok_fine hk).2.1
    rw [pcsG_cons] at hd
    have hlen := congrArg List.length hd
    rw [List.length_drop, bytesL_length, List.length_append, List.length_append, bytesL_length] at hlen
    simp only at hlen hd
    have hd2 : (bytesL t).drop (a + u.size) = g ++ pcsG P := by
      rw [← List.drop_drop, hd, ← bytesL_length u, List.drop_left' rfl]
    have hd3 : (bytesL t).drop (a + u.size + g.length) = pcsG P := by
      rw [← List.drop_drop, hd2, List.drop_left' rfl]
    have hz : skipL ((bytesL t).drop (a + u.size)) = g.length := by
      rw [hd2, skip_gap _ _ h.1]
      have h0 : skipL (pcsG P) = 0 := by
        match P, h.2.2, hd3 with
        | [], _, _ => rfl
        | (k', u', g') :: P', hP, hd3 =>
          have hex' : bytesL (t.extract (a + u.size + g.length) t.size) = bytesL u' ++ (g' ++ (pcsG P' ++ [])) := by
            rw [bytesL_extract, List.take_of_length_le (by rw [List.length_drop, bytesL_length]; exact Nat.le_refl _), hd3, pcsG_cons, List.append_nil]
          have := skipL_stop (tok_gap (hP.2.1 _ hex'))
          rw [hex', List.append_nil] at this
          rw [pcsG_cons]
          exact this
      rw [h0]; rfl
    rw [List.length_cons] at h2
    by_cases hc : c = 8192
    · exact ⟨_, _, .long (by omega) hc⟩
    · obtain ⟨l, stop, hl⟩ := lex_longG P t (a + u.size + g.length) (c + 1) h.2.2 (by omega) hd3 (by omega) (by omega)
      exact ⟨_, _, .tok (by omega) hc hk (by rw [hz]; exact hl)⟩
/-- The tokens of a printed file: as many as its pieces and the end, or why there are none. -/
theorem file_tokens {l : List DT} {P : List Gc} (h : PFile l P) {u : ByteArray} (hu : bytesL u = toI (fileX l)) (hs : u.size ≤ 65535) :
    ∃ (L : List (Int × ByteArray × Nat)) (stop : Nat) (E : Int), (E = 0 → L.length = P.length ∧ P.length ≤ 8192) ∧ (P.length ≤ 8192 → E = 0) ∧
      ∀ w, Calls Tryz.prog 46 #[.string u] w fun e w' => ∃ v, e = .returned (.tuple #[v, .int .i64 stop, .int .i64 E]) ∧ AllOut w w' v L u.size E ∧ Below w.heap.size w w' := by
  have hG : bytesL u = pcsG P := by rw [file_text h, hu]
  have ok := file_ok h []
  by_cases hm : P.length ≤ 8192
  · obtain ⟨⟨ns, hp⟩, hx⟩ := text_cutG hG ok hm
    exact ⟨_, _, 0, fun _ => ⟨by rw [toksPc_length, List.length_map], hm⟩, fun _ => rfl, fun w => tokAll_any u ns w _ _ 0 hs hp hx⟩
  · have hskip : skipL (bytesL u) = 0 := by
      match P, hG, ok with
      | [], hu, _ => rw [hu]; rfl
      | (k, v, g) :: P, hu, ok =>
        rw [pcsG_cons] at hu
        exact skipL_stop (tok_gap (ok.2.1 u (by rw [hu, List.append_nil])))
    obtain ⟨ns, hp⟩ := (fine_runG P u 0 ok (Nat.zero_le _) (by rw [List.drop_zero]; exact hG)).parse
    obtain ⟨L, stop, hl⟩ := lex_longG P u 0 0 ok (Nat.zero_le _) (by rw [List.drop_zero]; exact hG) (by omega) (by omega)
    refine ⟨L, stop, 2, fun h => absurd h (by decide), fun h => absurd h hm, fun w => tokAll_any u ns w L stop 2 hs (by rw [hG]; exact hp) (by rw [hskip]; exact hl)⟩

end Go.Proofs.YteaojmcfppbgiaaGreatDoor

/- Printed texts don't look at offsets. No program. -/
namespace Go.Proofs.YteaojmcfppbgiaaGreatDoor
open Go.RowKit
set_option linter.unusedVariables false
set_option maxRecDepth 100000

end Go.Proofs.YteaojmcfppbgiaaGreatDoor

/- What was read without fault is right. No program. -/
namespace Go.Proofs.YteaojmcfppbgiaaGreatDoor
open Go.RowKit
set_option linter.unusedVariables false
set_option maxRecDepth 100000

/-- What stands in tokens that are names. -/
def NamesT (L : List Tk) : Prop := ∀ k, (tk L k).1 = 1 → (tk L k).2.1 = lowT ∨ ∃ ns, IsName (tk L k).2.1 ns
theorem goodB_mk {k a : Int} {s : ByteArray} {n : Int} {l : List RT} {p : Bool} (h1 : topB k s n l.length p = true) (h2 : ∀ t ∈ l, goodB t (decide (k = 8)) = true) : goodB (.node k a s n l) p = true := by
  rw [goodB_node, Bool.and_eq_true, goodL_all]
  exact ⟨h1, List.all_eq_true.2 h2⟩
theorem topB_mk {k : Int} {s : ByteArray} {n : Int} {len : Nat} {p : Bool} (h1 : 1 ≤ k) (h2 : k ≤ 10) (h3 : (decide (5 < k) == p) = true) (h4 : manyB k len = true) (h5 : namedB k s = true) (h6 : numB k n = true) : topB k s n len p = true := by
  unfold topB
  rw [decide_eq_true h1, decide_eq_true h2, h3, h4, h5, h6]; rfl
theorem low_list : lowB lowT = true := by kernel_rfl
theorem none_list : noneB ⟨#[]⟩ = true := by kernel_rfl
theorem nmd_is {L : List Tk} (HN : NamesT L) {k : Nat} (h : nmdB L k = true) : nmB (tk L k).2.1 = true := by
  unfold nmdB at h
  rw [Bool.and_eq_true] at h
  have h1 : (tk L k).1 = 1 := of_decide_eq_true h.1
  rcases HN k h1 with h2 | ⟨ns, h2⟩
  · have : loB L k = true := isB_at h1 h2
    rw [this] at h
    exact absurd h.2 (by decide)
  · exact nmB_yes h2
theorem var_is {L : List Tk} (HN : NamesT L) {k : Nat} (h : (tk L k).1 = 1) : (lowB (tk L k).2.1 || nmB (tk L k).2.1) = true := by
  rcases HN k h with h2 | ⟨ns, h2⟩
  · rw [h2, low_list]; rfl
  · rw [nmB_yes h2]; simp
theorem good_leaf {k a : Int} {s : ByteArray} {n : Int} {p : Bool} (h : topB k s n 0 p = true) : goodB (.node k a s n []) p = true := goodB_mk h (fun t ht => by cases ht)
theorem good_app {t u : RT} (h1 : goodB t false = true) (h2 : goodB u false = true) : goodB (mkApp t u) false = true := by
  unfold mkApp
  refine goodB_mk (topB_mk (by decide) (by decide) rfl (show manyB 5 2 = true by decide) none_list (by decide)) (fun x hx => ?_)
  rcases List.mem_cons.1 hx with rfl | hx
  · exact h1
  · rw [List.mem_singleton.1 hx]; exact h2
theorem good_fold : ∀ {l : List RT} {t : RT}, goodB t false = true → (∀ u ∈ l, goodB u false = true) → goodB (l.foldl mkApp t) false = true
  | [], t, h, _ => h
  | u :: l, t, h, hl => good_fold (l := l) (t := mkApp t u) (good_app h (hl u (List.mem_cons_self ..))) (fun x hx => hl x (List.mem_cons_of_mem _ hx))
def Gd (L : List Tk) : Job → St → List RT → Prop
  | .expr, _, l => ∀ t ∈ l, goodB t false = true
  | .bound kd _, _, l => kd = 3 ∨ kd = 4 → ∀ t ∈ l, goodB t false = true
  | .app, _, l => ∀ t ∈ l, goodB t false = true
  | .atom, _, l => ∀ t ∈ l, goodB t false = true
  | .atoms _, _, l => ∀ t ∈ l, goodB t false = true
  | .pat, _, l => ∀ t ∈ l, goodB t true = true
  | .encl, _, l => ∀ t ∈ l, goodB t true = true
  | .appl _, s, l => nmdB L s.k = true → ∀ t ∈ l, goodB t true = true
  | .pats _, _, l => ∀ t ∈ l, goodB t true = true
theorem level_seven {L : List Tk} {s s' : St} {v : Nat} (h : LevelR L s v s') : v ≤ 7 := by
  obtain ⟨M, B, _, ⟨_, h1, h2, _⟩ | ⟨_, h1, _⟩⟩ := h <;> omega
theorem one_mem {P : RT → Prop} {t : RT} (h : P t) : ∀ x ∈ [t], P x := fun x hx => by rw [List.mem_singleton.1 hx]; exact h
theorem re_good {L : List Tk} (HN : NamesT L) {j : Job} {s s' : St} {l : List RT} (h : RE L j s l s') : s'.e = 0 → Gd L j s l := by
  induction h with
  | lam _ _ ih => exact fun h0 => ih h0 (.inr rfl)
  | pi _ _ _ ih => exact fun h0 => ih h0 (.inl rfl)
  | plain _ _ _ _ ih => exact fun h0 => ih h0
  | arr _ _ hr _ hr2 ih1 ih2 =>
    intro h0
    have g2 := ih2 h0
    have g1 := ih1 ((keep_step L _).zero ((keep_re hr2).zero h0))
    refine one_mem (goodB_mk (topB_mk (by decide) (by decide) rfl (show manyB 3 2 = true by decide) (by show (lowB lowT || nmB lowT) = true; rw [low_list]; rfl) (by decide)) (fun x hx => ?_))
    rcases List.mem_cons.1 hx with rfl | hx
    · exact g1 _ (List.mem_cons_self ..)
    · rw [List.mem_singleton.1 hx]; exact g2 _ (List.mem_cons_self ..)
  | @bound kd a s s1 s2 s3 s4 s5 s6 s7 z t u h1 h2 h3 h4 hr1 h5 h6 hr2 ih1 ih2 =>
    intro h0 hkd
    have z6 := (keep_re hr2).zero h0
    subst h6
    have z5 := (keep_take L _ _).zero z6
    subst h5
    have z4 := (keep_take L _ _).zero z5
    have z3 := (keep_re hr1).zero z4
    subst h4
    have z2 := (keep_take L _ _).zero z3
    subst h3
    have z1 := (keep_step L _).zero z2
    have hv : (tk L s1.k).1 = 1 ∧ varS L s1 = s1 := by
      unfold varS at z1 ⊢
      split at z1
      · rename_i hh; exact ⟨hh, by rw [if_pos hh]⟩
      · exact absurd z1 (fail_ne L _ _ (by decide))
    have hz : z = s1.k := by rw [← h2, hv.2]
    have hb := var_is HN hv.1
    rw [← hz] at hb
    have g1 := ih1 z4
    have g2 := ih2 h0
    refine one_mem ?_
    rcases hkd with rfl | rfl
    · refine goodB_mk (topB_mk (by decide) (by decide) rfl (show manyB 3 2 = true by decide) hb (by decide)) (fun x hx => ?_)
      rcases List.mem_cons.1 hx with rfl | hx
      · exact g1 _ (List.mem_cons_self ..)
      · rw [List.mem_singleton.1 hx]; exact g2 _ (List.mem_cons_self ..)
    · refine goodB_mk (topB_mk (by decide) (by decide) rfl (show manyB 4 2 = true by decide) hb (by decide)) (fun x hx => ?_)
      rcases List.mem_cons.1 hx with rfl | hx
      · exact g1 _ (List.mem_cons_self ..)
      · rw [List.mem_singleton.1 hx]; exact g2 _ (List.mem_cons_self ..)
  | app hr1 hr2 ih1 ih2 => exact fun h0 => one_mem (good_fold (ih1 ((keep_re hr2).zero h0) _ (List.mem_cons_self ..)) (ih2 h0))
  | atomsStop _ => exact fun _ t ht => by cases ht
  | atomsFull _ _ _ => exact fun _ t ht => by cases ht
  | atomsNext _ _ _ hr1 hr2 ih1 ih2 =>
    intro h0 t ht
    rcases List.mem_cons.1 ht with rfl | ht
    · exact ih1 ((keep_re hr2).zero h0) _ (List.mem_cons_self ..)
    · exact ih2 h0 t ht
  | atomName hn => exact fun _ => one_mem (good_leaf (topB_mk (by decide) (by decide) rfl (by decide) (nmd_is HN hn) (by decide)))
  | @atomSet s s2 v _ _ hv =>
    intro h0
    have hv7 : v ≤ 7 := level_seven hv
    refine one_mem (good_leaf (topB_mk (by decide) (by decide) rfl (by decide) none_list ?_))
    show (decide ((0 : Int) ≤ (v : Int)) && decide ((v : Int) ≤ 7)) = true
    rw [decide_eq_true (by omega), decide_eq_true (by omega)]; rfl
  | atomPar _ _ _ _ ih => exact fun h0 => ih ((keep_take L _ _).zero h0)
  | atomBad _ _ _ => exact fun h0 => absurd h0 (fail_ne L _ _ (by decide))
  | patName hn => exact fun _ => one_mem (good_leaf (topB_mk (by decide) (by decide) rfl (by decide) (nmd_is HN hn) (by decide)))
  | patAny _ _ => exact fun _ => one_mem (good_leaf (topB_mk (by decide) (by decide) rfl (by decide) none_list (by decide)))
  | patDot _ _ _ _ ih => exact fun h0 => one_mem (goodB_mk (topB_mk (by decide) (by decide) rfl (show manyB 10 1 = true by decide) none_list (by decide)) (ih h0))
  | patPar _ _ _ _ _ ih => exact fun h0 => ih h0
  | patBad _ _ _ _ => exact fun h0 => absurd h0 (fail_ne L _ _ (by decide))
  | encName hn _ ih => exact fun h0 => ih ((keep_take L _ _).zero h0) hn
  | encNone _ _ => exact fun h0 => one_mem (good_leaf (topB_mk (by decide) (by decide) rfl (by decide) none_list (by decide)))
  | encPat _ _ _ ih => exact fun h0 => ih ((keep_take L _ _).zero h0)
  | applNil _ _ ih => exact fun h0 hn => one_mem (good_leaf (topB_mk (by decide) (by decide) rfl (by decide) (nmd_is HN hn) (by decide)))
  | applCons hl _ ih =>
    intro h0 hn
    refine one_mem (goodB_mk (topB_mk (by decide) (by decide) rfl ?_ (nmd_is HN hn) (by decide)) (ih h0))
    unfold manyB
    rw [if_pos rfl]
    exact decide_eq_true (by omega)
  | patsStop _ => exact fun _ t ht => by cases ht
  | patsFull _ _ _ => exact fun _ t ht => by cases ht
  | patsNext _ _ _ hr1 hr2 ih1 ih2 =>
    intro h0 t ht
    rcases List.mem_cons.1 ht with rfl | ht
    · exact ih1 ((keep_re hr2).zero h0) _ (List.mem_cons_self ..)
    · exact ih2 h0 t ht

end Go.Proofs.YteaojmcfppbgiaaGreatDoor

/- What was read without fault is right: declarations; the names of a text's tokens. No program. -/
namespace Go.Proofs.YteaojmcfppbgiaaGreatDoor
open Go.RowKit
set_option linter.unusedVariables false
set_option maxRecDepth 100000

theorem expr_good {L : List Tk} (HN : NamesT L) {s s' : St} {t : RT} (h : ExprR L s t s') (h0 : s'.e = 0) : exprB t = true := by
  obtain ⟨s1, hr, rfl⟩ := h
  obtain ⟨z1, hf⟩ := whole_zero h0
  unfold exprB
  rw [hf, re_good HN hr z1 t (List.mem_cons_self ..)]; rfl
theorem pats_good {L : List Tk} (HN : NamesT L) {n : Nat} {s s' : St} {l : List RT} (h : PatsR L n s l s') : s'.e = 0 → n ≤ 24 → (∀ t ∈ l, patB t = true) ∧ n + l.length ≤ 24 := by
  induction h with
  | stop _ => exact fun _ hn => ⟨fun t ht => (by cases ht), by simpa using hn⟩
  | full _ _ _ => exact fun h0 _ => absurd h0 (fail_ne L _ _ (by decide))
  | next _ _ hne hr hp ih =>
    intro h0 hn
    obtain ⟨g1, g2⟩ := ih h0 (by omega)
    obtain ⟨z1, hf⟩ := whole_zero ((pats_fit hp).1.zero h0)
    refine ⟨fun t ht => ?_, by rw [List.length_cons]; omega⟩
    rcases List.mem_cons.1 ht with rfl | ht
    · unfold patB
      rw [hf, re_good HN hr z1 _ (List.mem_cons_self ..)]; rfl
    · exact g1 t ht
theorem chain_good {α : Type} {L : List Tk} {one : St → α → St → Prop} {F : α → Prop} {more : Nat → Bool} {most n : Nat} {s s' : St} {l : List α} (hone : ∀ s x s', one s x s' → Keep s s' ∧ (s'.e = 0 → F x)) (h : ChainX L one more most n s l s') :
    Keep s s' ∧ (s'.e = 0 → n ≤ most → (∀ x ∈ l, F x) ∧ n + l.length ≤ most) := by
  induction h with
  | stop _ => exact ⟨Keep.refl _, fun _ hn => ⟨fun t ht => (by cases ht), by simpa using hn⟩⟩
  | full _ _ _ => exact ⟨keep_fail _ _ _ _, fun h0 _ => absurd h0 (fail_ne L _ _ (by decide))⟩
  | next _ _ hne ho _ ih =>
    obtain ⟨k1, f1⟩ := hone _ _ _ ho
    refine ⟨k1.trans ih.1, fun h0 hn => ?_⟩
    obtain ⟨g1, g2⟩ := ih.2 h0 (by omega)
    refine ⟨fun t ht => ?_, by rw [List.length_cons]; omega⟩
    rcases List.mem_cons.1 ht with rfl | ht
    · exact f1 (ih.1.zero h0)
    · exact g1 t ht
theorem name_zero {L : List Tk} (HN : NamesT L) {s : St} (h : (nameS L s).e = 0) : nmB (tk L (nameS L s).k).2.1 = true := by
  unfold nameS at h ⊢
  split at h
  · rename_i hn; rw [if_pos hn]; exact nmd_is HN hn
  · exact absurd h (fail_ne L _ _ (by decide))
theorem typed_good {L : List Tk} (HN : NamesT L) (s : St) (x : BT) (s' : St) (h : TypedR L s x s') : Keep s s' ∧ (s'.e = 0 → bindB x = true) := by
  obtain ⟨t, rfl, he⟩ := h
  have k2 : Keep (nameS L s) s' := (keep_step L _).trans ((keep_take L _ _).trans (keep_expr he))
  refine ⟨(keep_name L s).trans k2, fun h0 => ?_⟩
  unfold bindB
  rw [show nmB (tk L (nameS L s).k).2.1 = true from name_zero HN (k2.zero h0), expr_good HN he h0]; rfl
theorem bindR_good {L : List Tk} (HN : NamesT L) (s : St) (x : BT) (s' : St) (h : BindRl L s x s') : Keep s s' ∧ (s'.e = 0 → bindB x = true) := by
  obtain ⟨s2, ht, rfl⟩ := h
  obtain ⟨k, f⟩ := typed_good HN _ _ _ ht
  exact ⟨(keep_take L _ _).trans (k.trans (keep_take L _ _)), fun h0 => f ((keep_take L s2 _).zero h0)⟩
theorem conR_good {L : List Tk} (HN : NamesT L) (s : St) (x : BT) (s' : St) (h : ConRl L s x s') : Keep s s' ∧ (s'.e = 0 → bindB x = true) := by
  obtain ⟨s2, ht, rfl⟩ := h
  obtain ⟨k, f⟩ := typed_good HN _ _ _ ht
  exact ⟨k.trans (keep_take L _ _), fun h0 => f ((keep_take L s2 _).zero h0)⟩
theorem mem_allB {α : Type} {f : α → Bool} {l : List α} (h : ∀ x ∈ l, f x = true) : allB (fun i => (l[i]?.map f).getD true) l.length = true := by
  refine allB_true.2 fun i hi => ?_
  rw [List.getElem?_eq_getElem hi]
  exact h _ (List.getElem_mem hi)
theorem zero_zero : zeroB zeroT = true := by kernel_rfl
theorem rowR_good {L : List Tk} (HN : NamesT L) (s : St) (x : CT) (s' : St) (h : RowRl L s x s') : Keep s s' ∧ (s'.e = 0 → rowB x = true) := by
  refine ⟨(rowR_fit s x s' h).1, fun h0 => ?_⟩
  obtain ⟨l, s1, hp, ⟨hm, t, s3, he, rfl, rfl⟩ | ⟨hm, rfl, rfl⟩⟩ := h
  · have h3 := (keep_take L s3 _).zero h0
    obtain ⟨g1, g2⟩ := pats_good HN hp ((keep_step L s1).zero ((keep_expr he).zero h3)) (by omega)
    unfold rowB patsB
    rw [mem_allB g1, decide_eq_true (by omega : l.length ≤ 24), if_pos rfl, expr_good HN he h3]; rfl
  · obtain ⟨g1, g2⟩ := pats_good HN hp ((keep_take L s1 _).zero h0) (by omega)
    unfold rowB patsB
    rw [mem_allB g1, decide_eq_true (by omega : l.length ≤ 24), if_neg (show ¬ (false = true) by decide), zero_zero]; rfl
theorem kind_good {L : List Tk} {s s' : St} {v : Int} (h : KindR L s v s') (h0 : s'.e = 0) : 1 ≤ v ∧ v ≤ 3 := by
  rcases h with ⟨_, rfl, rfl⟩ | ⟨_, _, rfl, rfl⟩ | ⟨_, _, _, rfl, rfl⟩ | ⟨_, _, _, rfl, rfl⟩
  · omega
  · omega
  · omega
  · exact absurd h0 (fail_ne L _ _ (by decide))
theorem declR_good {L : List Tk} (HN : NamesT L) (s : St) (x : DT) (s' : St) (h : DeclRl L s x s') : Keep s s' ∧ (s'.e = 0 → declB x = true) := by
  refine ⟨(declR_fit s x s' h).1, fun h0 => ?_⟩
  obtain ⟨v, s1, hk, hc⟩ := h
  rcases hc with ⟨hv, te, s4, t, s6, co, s8, ht, he, hl, rfl, rfl⟩ | ⟨hv, t, s6, ro, s8, he, hl, rfl, rfl⟩
  · obtain ⟨k2, f2⟩ := chain_good (bindR_good HN) ht
    obtain ⟨k3, f3⟩ := chain_good (conR_good HN) hl
    have h8 := (keep_take L s8 _).zero h0
    have h6 := (keep_take L s6 _).zero (k3.zero h8)
    have h4 := (keep_take L s4 _).zero ((keep_expr he).zero h6)
    have h3 := (keep_step L (nameS L (stepS L s1))).zero (k2.zero h4)
    have h1 := (keep_step L s1).zero ((keep_name L _).zero h3)
    obtain ⟨v1, v3⟩ := kind_good hk h1
    obtain ⟨g1, g2⟩ := f2 h4 (by omega)
    obtain ⟨g3, g4⟩ := f3 h8 (by omega)
    unfold declB roomB bindsB rowsB
    rw [show nmB (tk L (nameS L (stepS L s1)).k).2.1 = true from name_zero HN h3, mem_allB g1, mem_allB g3, expr_good HN he h6, decide_eq_true v1, decide_eq_true v3, if_neg hv,
      decide_eq_true (by omega : te.length ≤ 24), decide_eq_true (by omega : co.length ≤ 16)]; rfl
  · obtain ⟨k3, f3⟩ := chain_good (rowR_good HN) hl
    have h8 := (keep_take L s8 _).zero h0
    have h6 := (keep_take L s6 _).zero (k3.zero h8)
    have h4 := (keep_take L _ _).zero ((keep_expr he).zero h6)
    have h3 := (keep_step L (nameS L (stepS L s1))).zero h4
    obtain ⟨g3, g4⟩ := f3 h8 (by omega)
    subst hv
    unfold declB roomB bindsB rowsB
    rw [show nmB (tk L (nameS L (stepS L s1)).k).2.1 = true from name_zero HN h3, mem_allB g3, expr_good HN he h6, if_pos rfl, decide_eq_true (by omega : ro.length ≤ 32)]; rfl
/-- A file that was read without fault. -/
theorem fileR_good {L : List Tk} (HN : NamesT L) {s s' : St} {l : List DT} (h : FileR L s l s') (h0 : s'.e = 0) : (∀ x ∈ l, declB x = true) ∧ l.length ≤ 8192 := by
  obtain ⟨g1, g2⟩ := (chain_good (declR_good HN) h).2 h0 (by omega)
  exact ⟨g1, by omega⟩

theorem lex_names {s : ByteArray} {a c : Nat} {l : List (Int × ByteArray × Nat)} {stop : Nat} {E : Int} (h : Lex s a c l stop E) : ∀ x ∈ l, x.1 = 1 → x.2.1 = lowT ∨ ∃ ns, IsName x.2.1 ns := by
  induction h with
  | done _ => exact fun x hx => by cases hx
  | long _ _ => exact fun x hx => by cases hx
  | form _ _ _ => exact fun x hx => by cases hx
  | tok _ _ hk _ ih =>
    intro x hx
    rcases List.mem_cons.1 hx with rfl | hx
    · intro (h1 : _ = (1 : Int))
      obtain ⟨_, n, _, ⟨_, _, hw, _⟩ | ⟨_, h4, _⟩⟩ := hk
      · rcases hw with ⟨_, h2⟩ | ⟨_, _, h2⟩ | ⟨_, _, h2, _⟩ | ⟨_, _, _, _, h2⟩
        · omega
        · omega
        · rcases h2 with h2 | h2
          · exact .inl (low_is h2)
          · exact .inr h2
        · omega
      · omega
    · exact ih x hx
theorem names_end {s : ByteArray} {a c : Nat} {l : List (Int × ByteArray × Nat)} {stop n : Nat} {E : Int} (h : Lex s a c l stop E) : NamesT (withEnd l n) := by
  intro k hk
  by_cases h1 : k < l.length
  · have e : tk (withEnd l n) k = l[k] := withEnd_at h1
    rw [e] at hk ⊢
    exact lex_names h _ (List.getElem_mem h1) hk
  · exfalso
    by_cases h2 : k = l.length
    · rw [h2, withEnd_last] at hk
      have hk : (5 : Int) = 1 := hk; omega
    · have e : tk (withEnd l n) k = (0, ⟨#[]⟩, 0) := by
        unfold tk
        rw [List.getD_eq_getElem?_getD, List.getElem?_eq_none (by rw [withEnd_length]; omega)]
        rfl
      rw [e] at hk
      have hk : (0 : Int) = 1 := hk
      omega

end Go.Proofs.YteaojmcfppbgiaaGreatDoor
