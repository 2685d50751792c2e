/- Telescopes, plainly: types laid around a term, taken off it; a type of functions with its arguments; what each argument's type must be. No walk. -/
import Derived.Test.YtofmoggjpgjdgaaDoorUOk
namespace Go.Proofs.YtofmoggjpgjdgaaDoor
open Go.RowKit
set_option linter.unusedVariables false

/-- Each of l around t, the first one outermost. -/
def aroundT (k : Int) (l : List TM) (t : TM) : TM := l.foldr (fun a b => .node k 0 [a, b]) t
theorem aroundT_nil (k : Int) (t : TM) : aroundT k [] t = t := rfl
theorem aroundT_cons (k : Int) (a : TM) (l : List TM) (t : TM) : aroundT k (a :: l) t = .node k 0 [a, aroundT k l t] := rfl
def aroundX (k : Int) (l : List TM) (t : TM) : TM × Int := if 24 < l.length then (.node 0 0 [], 2) else if shapedB t && l.all shapedB then gotX (aroundT k l t) else (.node 0 0 [], 5)
/-- How many outermost types of functions there are. -/
def pisN : TM → Nat
  | .node k _ l => if k = 3 then pisL l + 1 else 0
where pisL : List TM → Nat
  | [_, b] => pisN b
  | _ => 0
theorem pisN_not {t : TM} (h : t.k ≠ 3) : pisN t = 0 := by
  obtain ⟨k, n, l⟩ := t
  rw [pisN, if_neg (show ¬ k = 3 from h)]
theorem pisN_pi (n : Int) (a b : TM) : pisN (.node 3 n [a, b]) = pisN b + 1 := by rw [pisN, if_pos rfl, pisN.pisL]
/-- So many outermost types, and what stands beneath; nothing, where there are fewer. -/
def takeT : Nat → TM → Option (List TM × TM)
  | 0, t => some ([], t)
  | n + 1, t => if t.k = 3 then (takeT n (t.l.getD 1 (.node 0 0 []))).map (fun p => (t.l.getD 0 (.node 0 0 []) :: p.1, p.2)) else none
theorem takeT_not {n : Nat} {t : TM} (h : t.k ≠ 3) : takeT (n + 1) t = none := by
  rw [takeT, if_neg h]
theorem takeT_pi (n : Nat) (m : Int) (a b : TM) : takeT (n + 1) (.node 3 m [a, b]) = (takeT n b).map (fun p => (a :: p.1, p.2)) := by
  rw [takeT]; exact if_pos rfl
def splitX (t : TM) (n : Int) : List TM × TM × Int :=
  if shapedB t && decide (0 ≤ n) then (if 24 < n then ([], .node 0 0 [], 2) else match takeT n.toNat t with | some p => (p.1, p.2, 0) | none => ([], .node 0 0 [], 6)) else ([], .node 0 0 [], 5)
theorem pi_parts {t : TM} (h : tgoodB t = true) (hk : t.k = 3) : ∃ n a b, t = .node 3 n [a, b] ∧ tgoodB a = true ∧ tgoodB b = true := by
  obtain ⟨k, n, l⟩ := t
  obtain rfl : k = 3 := hk
  obtain ⟨g1, g2, g3, g4, g5, g6, gp⟩ := good_parts h
  match l, g3, gp with
  | [a, b], _, gp => exact ⟨n, a, b, rfl, gp a List.mem_cons_self, gp b (List.mem_cons_of_mem _ List.mem_cons_self)⟩
theorem pi_shaped {n : Int} {a b : TM} (h : shapedB (.node 3 n [a, b]) = true) : shapedB a = true ∧ shapedB b = true :=
  ⟨shaped_part List.mem_cons_self h, shaped_part (List.mem_cons_of_mem _ List.mem_cons_self) h⟩
theorem pisN_depth : ∀ t : TM, pisN t ≤ t.depth := by
  intro t
  induction t using TM.ind with
  | h k n l ih =>
    by_cases hk : k = 3
    · subst hk
      rw [pisN, if_pos rfl, tdepth_node]
      unfold pisN.pisL
      split
      · rename_i a b
        have := ih b (by simp)
        rw [depthM_cons, depthM_cons, depthM_nil]
        omega
      · omega
    · rw [pisN_not (t := .node k n l) hk]; omega
/-- What is left of a type of functions, once it has arguments. -/
def resT : TM → List TM → TM × Int
  | t, [] => (t, 0)
  | t, a :: r => if t.k = 3 then (if (manyX (t.l.getD 1 (.node 0 0 [])) [a]).2 = 0 then resT (manyX (t.l.getD 1 (.node 0 0 [])) [a]).1 r else (.node 0 0 [], (manyX (t.l.getD 1 (.node 0 0 [])) [a]).2)) else (.node 0 0 [], 6)
theorem resT_nil (t : TM) : resT t [] = (t, 0) := by rw [resT]
theorem resT_not {t a : TM} {r : List TM} (h : t.k ≠ 3) : resT t (a :: r) = (.node 0 0 [], 6) := by rw [resT, if_neg h]
theorem resT_pi (n : Int) (x b a : TM) (r : List TM) : resT (.node 3 n [x, b]) (a :: r) = if (manyX b [a]).2 = 0 then resT (manyX b [a]).1 r else (.node 0 0 [], (manyX b [a]).2) := by
  rw [resT]; exact if_pos rfl
def resultX (t : TM) (args : List TM) : TM × Int := if shapedB t then resT t args else (.node 0 0 [], 5)
theorem many_shaped {t x : TM} {l : List TM} (h : manyX t l = (x, 0)) : shapedB x = true := (many_ok h).2.2.2
/-- What the type of the argument at a place must be. -/
def typeX (l args : List TM) (i : Nat) : TM × Int := manyX (l.getD i (.node 0 0 [])) (args.take i).reverse
theorem typeX_at {l args : List TM} {i : Nat} (h : i < l.length) : typeX l args i = manyX l[i] (args.take i).reverse := by
  unfold typeX
  rw [List.getD_eq_getElem?_getD, List.getElem?_eq_getElem h]; rfl
def typesL (l args : List TM) (i : Nat) : List TM := (List.range i).map fun j => (typeX l args j).1
theorem typesL_succ (l args : List TM) (i : Nat) : typesL l args (i + 1) = typesL l args i ++ [(typeX l args i).1] := by
  unfold typesL; rw [List.range_succ, List.map_append]; rfl
theorem typesL_len (l args : List TM) (i : Nat) : (typesL l args i).length = i := by unfold typesL; simp
theorem typesL_at (l args : List TM) (i j : Nat) (h : j < (typesL l args i).length) : (typesL l args i)[j] = (typeX l args j).1 := by simp [typesL]
def okT (l args : List TM) (i : Nat) : Prop := ∀ j, j < i → (typeX l args j).2 = 0
theorem okT_succ {l args : List TM} {i : Nat} (h : okT l args i) (h1 : (typeX l args i).2 = 0) : okT l args (i + 1) := fun j hj => by
  by_cases e : j < i
  · exact h j e
  · obtain rfl : j = i := by omega
    exact h1
/-- Variables of a telescope: of so many, from the last to the first. -/
def varsT (n : Nat) : List TM := (List.range n).map fun (i : Nat) => TM.node 1 ((n - 1 - i : Nat) : Int) []
def selfT (n : Nat) : List TM := (List.range n).map fun (i : Nat) => TM.node 1 (i : Int) []
theorem varsT_len (n : Nat) : (varsT n).length = n := by unfold varsT; simp
theorem selfT_len (n : Nat) : (selfT n).length = n := by unfold selfT; simp
theorem vars_rev (n : Nat) : (varsT n).reverse = selfT n := by
  apply List.ext_getElem
  · rw [List.length_reverse, varsT_len, selfT_len]
  · intro i h1 h2
    rw [selfT_len] at h2
    rw [List.getElem_reverse]
    simp only [varsT, selfT, List.getElem_map, List.getElem_range, List.length_map, List.length_range]
    congr 1
    omega

/- A closed term: nothing becomes of it. -/
theorem looseL_le {k : Int} {x : Int} : ∀ (l : List TM) (i j : Nat) (h : j < l.length), looseL k i l x ≤ 0 → looseT l[j] (x + bndR k (i + j)) ≤ 0
  | t :: r, i, 0, h, hl => by
    rw [looseL_cons] at hl
    show looseT t _ ≤ 0
    rw [Nat.add_zero]; omega
  | t :: r, i, j + 1, h, hl => by
    rw [looseL_cons] at hl
    have := looseL_le (k := k) (x := x) r (i + 1) j (by simpa using h) (by omega)
    rw [show i + 1 + j = i + (j + 1) by omega] at this
    exact this
theorem closed_move : ∀ (t : TM) (x : Int), tgoodB t = true → looseT t x ≤ 0 → ∀ y, moveT y t x = t := by
  intro t
  induction t using TM.ind with
  | h k n l ih =>
    intro x hg hl y
    have hgp := (good_parts hg).2.2.2.2.2.2
    rw [looseT_node] at hl
    rw [moveT_node]
    by_cases hk : k = 1
    · rw [if_pos hk]
      by_cases hx : x ≤ n
      · rw [if_pos ⟨hk, hx⟩] at hl; omega
      · rw [if_pos (by omega)]
    · rw [if_neg hk]
      rw [if_neg (fun h => hk h.1)] at hl
      congr 1
      apply List.ext_getElem
      · rw [moveM_len]
      · intro j h1 h2
        have e : ∀ (r : List TM) (i j : Nat) (h : j < (moveM y k i r x).length) (h' : j < r.length), (moveM y k i r x)[j] = moveT y r[j] (x + bndR k (i + j)) := by
          intro r
          induction r with
          | nil => intro i j h h'; simp at h'
          | cons u r ihr =>
            intro i j h h'
            cases j with
            | zero => simp [moveM_cons]
            | succ j =>
              simp only [moveM_cons, List.getElem_cons_succ]
              rw [ihr (i + 1) j _ (by simpa using h'), show i + 1 + j = i + (j + 1) by omega]
        rw [e l 0 j h1 h2]
        exact ih _ (List.getElem_mem h2) _ (hgp _ (List.getElem_mem h2)) (looseL_le l 0 j h2 hl) y
theorem putM_get (H : Put) (k b : Int) : ∀ (r : List TM) (i j : Nat) (h : j < (putM H k i r b).length) (h' : j < r.length), (putM H k i r b)[j] = putT H r[j] (b + bnd k (i + j)) := by
  intro r
  induction r with
  | nil => intro i j h h'; simp at h'
  | cons u r ihr =>
    intro i j h h'
    cases j with
    | zero => simp [putM_cons]
    | succ j =>
      simp only [putM_cons, List.getElem_cons_succ]
      rw [ihr (i + 1) j _ (by simpa using h'), show i + 1 + j = i + (j + 1) by omega]
theorem closed_put (ls : List TM) : ∀ (t : TM) (x d : Int), tgoodB t = true → looseT t x ≤ 0 → x ≤ d → putT (firstP ls) t d = t := by
  intro t
  induction t using TM.ind with
  | h k n l ih =>
    intro x d hg hl hxd
    have hgp := (good_parts hg).2.2.2.2.2.2
    rw [looseT_node] at hl
    by_cases hv : isV k n d
    · obtain rfl := leaf_nil (b := 0) hg (isV_leaf hv)
      rw [putT_node, if_pos hv]
      rcases hv with h8 | ⟨h1, h2⟩
      · unfold firstP; rw [if_pos h8]
      · rw [if_pos ⟨h1, by omega⟩] at hl; omega
    · rw [putT_node, if_neg hv]
      congr 1
      have hk1 : ¬ (k = 1 ∧ x ≤ n) := fun h => by rw [if_pos h] at hl; omega
      rw [if_neg hk1] at hl
      apply List.ext_getElem
      · rw [putM_len]
      · intro j h1 h2
        rw [putM_get _ _ _ l 0 j h1 h2]
        refine ih _ (List.getElem_mem h2) (x + bndR k (0 + j)) _ (hgp _ (List.getElem_mem h2)) (looseL_le l 0 j h2 hl) ?_
        rw [bnds_good hg (0 + j) (by omega)]
        omega
/-- One more is put in beneath the others, where it is closed. -/
theorem put_snoc (ls : List TM) (a : TM) (ha : tgoodB a = true) (hc : looseT a 0 ≤ 0) : ∀ (t : TM) (d : Int), tgoodB t = true → 0 ≤ d →
    putT (firstP ls) (putT (firstP [a]) t (d + ls.length)) d = putT (firstP (ls ++ [a])) t d := by
  intro t
  induction t using TM.ind with
  | h k n l ih =>
    intro d hg hd
    have hgp := (good_parts hg).2.2.2.2.2.2
    by_cases hv : isV k n d
    · obtain rfl := leaf_nil (b := 0) hg (isV_leaf hv)
      rw [putT_node (firstP (ls ++ [a])), if_pos hv]
      by_cases h8 : k = 8
      · have hv2 : isV k n (d + ls.length) := .inl h8
        rw [putT_node (firstP [a]), if_pos hv2]
        unfold firstP
        rw [if_pos h8, if_pos h8, putT_node, if_pos hv, if_pos h8]
      · have hdn : d ≤ n := by rcases hv with h | h; exact absurd h h8; exact h.2
        have hk : k = 1 := by rcases hv with h | h; exact absurd h h8; exact h.1
        subst hk
        by_cases h1 : n - d < ls.length
        · rw [putT_node (firstP [a]), if_neg (fun h => h.elim h8 (fun h => by omega)), putM_nil, putT_node, if_pos hv]
          unfold firstP
          rw [if_neg h8, if_pos h1, if_neg h8, if_pos (by simp; omega)]
          rw [List.getD_eq_getElem?_getD, List.getD_eq_getElem?_getD, List.getElem?_append_left (by omega)]
        · rw [putT_node (firstP [a]), if_pos (.inr ⟨rfl, by omega⟩)]
          rw [show firstP [a] 1 n (d + ls.length) = if n - (d + ls.length) < (([a] : List TM).length : Int) then moveT (d + ls.length) (([a] : List TM).getD (n - (d + ls.length)).toNat (.node 0 0 [])) 0 else .node 1 (n - (([a] : List TM).length : Int)) [] from by unfold firstP; rw [if_neg (by omega)]]
          rw [show firstP (ls ++ [a]) 1 n d = if n - d < ((ls ++ [a]).length : Int) then moveT d ((ls ++ [a]).getD (n - d).toNat (.node 0 0 [])) 0 else .node 1 (n - ((ls ++ [a]).length : Int)) [] from by unfold firstP; rw [if_neg (by omega)]]
          by_cases h2 : n - d = ls.length
          · rw [if_pos (by simp; omega), if_pos (by simp; omega)]
            have e1 : (n - (d + (ls.length : Int))).toNat = 0 := by omega
            have e2 : (n - d).toNat = ls.length := by omega
            rw [e1, e2, List.getD_eq_getElem?_getD (l := ls ++ [a]), List.getElem?_append_right (Nat.le_refl _), Nat.sub_self]
            show putT (firstP ls) (moveT _ a 0) d = moveT d a 0
            rw [closed_move a 0 ha hc, closed_move a 0 ha hc, closed_put ls a 0 d ha hc hd]
          · rw [if_neg (by simp; omega), if_neg (by simp; omega), putT_node, if_pos (.inr ⟨rfl, by simp; omega⟩)]
            unfold firstP
            rw [if_neg (by omega), if_neg (by simp; omega)]
            simp
            omega
    · have hv2 : ¬ isV k n (d + ls.length) := fun h => hv (h.elim .inl (fun h => .inr ⟨h.1, by omega⟩))
      rw [putT_node (firstP [a]), if_neg hv2, putT_node, if_neg hv, putT_node, if_neg hv]
      congr 1
      apply List.ext_getElem
      · rw [putM_len, putM_len, putM_len]
      · intro j h1 h2
        have hj : j < l.length := by rw [putM_len] at h2; exact h2
        rw [putM_get _ _ _ l 0 j h2 hj, putM_get _ _ _ _ 0 j h1 (by rw [putM_len]; exact hj), putM_get _ _ _ l 0 j _ hj]
        have hb := bnd_01 k (0 + j)
        have := ih _ (List.getElem_mem hj) (d + bnd k (0 + j)) (hgp _ (List.getElem_mem hj)) (by omega)
        rw [← this]
        congr 2
        omega
theorem put_none : ∀ (t : TM) (d : Int), tgoodB t = true → putT (firstP []) t d = t := by
  intro t
  induction t using TM.ind with
  | h k n l ih =>
    intro d hg
    have hgp := (good_parts hg).2.2.2.2.2.2
    by_cases hv : isV k n d
    · obtain rfl := leaf_nil (b := 0) hg (isV_leaf hv)
      rw [putT_node, if_pos hv]
      unfold firstP
      by_cases h8 : k = 8
      · rw [if_pos h8]
      · have hk : k = 1 ∧ d ≤ n := by rcases hv with h | h; exact absurd h h8; exact h
        rw [if_neg h8, if_neg (by simp; omega), hk.1]
        simp
    · rw [putT_node, if_neg hv]
      congr 1
      apply List.ext_getElem
      · rw [putM_len]
      · intro j h1 h2
        rw [putM_get _ _ _ l 0 j h1 h2]
        exact ih _ (List.getElem_mem h2) _ (hgp _ (List.getElem_mem h2))
/-- P10.6. -/
theorem put_self (m : Nat) : ∀ (t : TM) (d : Int), tgoodB t = true → 0 ≤ d → putT (firstP (selfT m)) (moveT m t (m + d)) d = t := by
  intro t
  induction t using TM.ind with
  | h k n l ih =>
    intro d hg hd
    have hgp := (good_parts hg).2.2.2.2.2.2
    rw [moveT_node]
    by_cases hk : k = 1
    · subst hk
      obtain rfl := leaf_nil (b := 0) hg (.inl rfl)
      rw [if_pos rfl]
      by_cases h1 : n < m + d
      · rw [if_pos h1]
        by_cases h2 : d ≤ n
        · rw [putT_node, if_pos (.inr ⟨rfl, h2⟩)]
          unfold firstP
          rw [if_neg (by omega), if_pos (by rw [selfT_len]; omega), List.getD_eq_getElem?_getD, List.getElem?_eq_getElem (by rw [selfT_len]; omega)]
          unfold selfT
          simp only [List.getElem_map, List.getElem_range, Option.getD_some]
          rw [moveT_node, if_pos rfl, if_neg (by omega)]
          congr 1
          omega
        · rw [putT_node, if_neg (fun h => h.elim (by omega) (fun h => h2 h.2)), putM_nil]
      · rw [if_neg h1, putT_node, if_pos (.inr ⟨rfl, by omega⟩)]
        unfold firstP
        rw [if_neg (by omega), if_neg (by rw [selfT_len]; omega), selfT_len]
        congr 1
        omega
    · rw [if_neg hk]
      by_cases h8 : k = 8
      · obtain rfl := leaf_nil (b := 0) hg (.inr h8)
        rw [moveM_nil, putT_node, if_pos (.inl h8)]
        unfold firstP
        rw [if_pos h8]
      · rw [putT_node, if_neg (fun h => h.elim h8 (fun h => hk h.1))]
        congr 1
        have hL : ∀ (r : List TM) (i : Nat), i + r.length = l.length → (∀ u ∈ r, u ∈ l) → putM (firstP (selfT m)) k i (moveM m k i r (m + d)) d = r := by
          intro r
          induction r with
          | nil => intro i _ _; rw [moveM_nil, putM_nil]
          | cons u r ihr =>
            intro i hi hm
            have hu := hm u List.mem_cons_self
            have h01 := bnd_01 k i
            rw [moveM_cons, putM_cons, ihr (i + 1) (by simp at hi; omega) (fun v hv => hm v (List.mem_cons_of_mem _ hv)), ← bnds_good hg i (by simp at hi; omega)]
            have := ih u hu (d + bnd k i) (hgp u hu) (by omega)
            rw [show (m : Int) + (d + bnd k i) = m + d + bnd k i by omega] at this
            rw [this]
        exact hL l 0 (by omega) (fun _ h => h)
theorem put_around (H : Put) : ∀ (l : List TM) (t : TM) (d : Int), ∃ l', l'.length = l.length ∧ putT H (aroundT 3 l t) d = aroundT 3 l' (putT H t (d + l.length))
  | [], t, d => ⟨[], rfl, by rw [aroundT_nil, aroundT_nil]; simp⟩
  | a :: l, t, d => by
    obtain ⟨l', h1, h2⟩ := put_around H l t (d + 1)
    refine ⟨putT H a d :: l', by simp [h1], ?_⟩
    rw [aroundT_cons, aroundT_cons, putT_node, if_neg (fun h => h.elim (by omega) (fun h => by omega)), putM_cons, putM_cons, putM_nil]
    have e0 : bnd 3 0 = 0 := rfl
    have e1 : bnd 3 (0 + 1) = 1 := rfl
    rw [e0, e1, Int.add_zero, h2]
    have : d + 1 + (l.length : Int) = d + ((a :: l).length : Int) := by simp; omega
    rw [this]
theorem around_shaped {k : Int} : ∀ {l : List TM} {t : TM}, shapedB (aroundT k l t) = true → shapedB t = true ∧ l.all shapedB = true
  | [], t, h => ⟨h, rfl⟩
  | a :: l, t, h => by
    rw [aroundT_cons] at h
    have h1 := shaped_part (t := a) List.mem_cons_self h
    obtain ⟨h2, h3⟩ := around_shaped (shaped_part (t := aroundT k l t) (List.mem_cons_of_mem _ List.mem_cons_self) h)
    exact ⟨h2, by rw [List.all_cons, h1, h3]; rfl⟩
/-- P10.5. -/
theorem res_back : ∀ (args l : List TM) (t x : TM) (e : Int), l.length = args.length → shapedB (aroundT 3 l t) = true → (∀ a ∈ args, shapedB a = true ∧ looseT a 0 ≤ 0) → resT (aroundT 3 l t) args = (x, e) →
    (e = 0 ∧ x = putT (firstP args.reverse) t 0) ∨ e = 2
  | [], l, t, x, e, hl, hs, ha, h => by
    obtain rfl := List.eq_nil_of_length_eq_zero hl
    rw [aroundT_nil] at hs h
    rw [resT_nil] at h
    injection h with h1 h2
    exact .inl ⟨h2.symm, by rw [List.reverse_nil, put_none t 0 (shapedB_true.1 hs).2.2]; exact h1.symm⟩
  | a :: rs, [], t, x, e, hl, hs, ha, h => by simp at hl
  | a :: rs, b :: l, t, x, e, hl, hs, ha, h => by
    rw [aroundT_cons] at hs h
    have hs2 := (pi_shaped hs).2
    obtain ⟨ha1, ha2⟩ := ha a List.mem_cons_self
    obtain ⟨l', hl1, hl2⟩ := put_around (firstP [a]) l t 0
    rw [resT_pi] at h
    have hm : manyX (aroundT 3 l t) [a] = gotX (aroundT 3 l' (putT (firstP [a]) t (0 + l.length))) := by
      unfold manyX
      rw [hs2, List.all_cons, ha1, List.all_nil, if_pos (show (true && (true && true)) = true from rfl), hl2]
    rw [hm] at h
    have hll : l.length = rs.length := by simpa using hl
    cases hz : shapedB (aroundT 3 l' (putT (firstP [a]) t (0 + l.length))) with
    | false =>
      unfold gotX at h
      rw [hz] at h
      simp at h
      exact .inr h.2.symm
    | true =>
      unfold gotX at h
      rw [hz, if_pos rfl, if_pos rfl] at h
      have hst := (shapedB_true.1 (around_shaped hs2).1).2.2
      rcases res_back rs l' _ x e (by omega) hz (fun c hc => ha c (List.mem_cons_of_mem _ hc)) h with ⟨h1, h2⟩ | h1
      · refine .inl ⟨h1, ?_⟩
        rw [h2, List.reverse_cons]
        have := put_snoc rs.reverse a (shapedB_true.1 ha1).2.2 ha2 t 0 hst (Int.le_refl _)
        rw [List.length_reverse, ← hll] at this
        exact this
      · exact .inr h1
/-- P10.4. -/
theorem pis_around : ∀ (l : List TM) (t : TM), t.k ≠ 3 → pisN (aroundT 3 l t) = l.length
  | [], t, h => pisN_not h
  | a :: l, t, h => by rw [aroundT_cons, pisN_pi, pis_around l t h]; rfl
theorem take_around : ∀ (l : List TM) (t : TM), takeT l.length (aroundT 3 l t) = some (l, t)
  | [], t => by rw [List.length_nil, takeT]; rfl
  | a :: l, t => by rw [List.length_cons, aroundT_cons, takeT_pi, take_around l t]; rfl
theorem around_ok {k : Int} {l : List TM} {t x : TM} (h : aroundX k l t = (x, 0)) : l.length ≤ 24 ∧ x = aroundT k l t ∧ shapedB x = true := by
  unfold aroundX at h
  by_cases h24 : 24 < l.length
  · rw [if_pos h24] at h; injection h with _ h; cases h
  · rw [if_neg h24] at h
    cases e : shapedB t && l.all shapedB with
    | false => rw [e] at h; injection h with _ h; cases h
    | true =>
      rw [e, if_pos rfl] at h
      obtain ⟨h1, h2⟩ := got_ok h
      exact ⟨by omega, h1, by rw [h1]; exact h2⟩
theorem split_around {l : List TM} {t x : TM} (h : aroundX 3 l t = (x, 0)) (hk : t.k ≠ 3) : splitX x (pisN x) = (l, t, 0) := by
  obtain ⟨h1, rfl, h3⟩ := around_ok h
  unfold splitX
  rw [h3, pis_around l t hk, decide_eq_true (show (0 : Int) ≤ (l.length : Int) by omega), if_pos (show (true && true) = true from rfl), if_neg (by omega), Int.toNat_natCast, take_around]
theorem result_back {l args : List TM} {t p x : TM} {e : Int} (h : aroundX 3 l t = (p, 0)) (hl : args.length = l.length) (ha : ∀ a ∈ args, shapedB a = true ∧ looseT a 0 ≤ 0) (hr : resultX p args = (x, e)) :
    (e = 0 ∧ x = putT (firstP args.reverse) t 0) ∨ e = 2 := by
  obtain ⟨h1, rfl, h3⟩ := around_ok h
  unfold resultX at hr
  rw [h3, if_pos rfl] at hr
  exact res_back args l t x e hl.symm h3 ha hr
theorem fill_back {l args : List TM} {t p y : TM} {e : Int} (h : aroundX 3 l t = (p, 0)) (ha : ∀ a ∈ args, shapedB a = true ∧ looseT a 0 ≤ 0) (hr : manyX t args.reverse = (y, e)) :
    (e = 0 ∧ y = putT (firstP args.reverse) t 0) ∨ e = 2 := by
  obtain ⟨h1, rfl, h3⟩ := around_ok h
  have hst := (around_shaped h3).1
  have hsa : args.reverse.all shapedB = true := by rw [List.all_eq_true]; intro a hm; exact (ha a (by simpa using hm)).1
  unfold manyX at hr
  rw [hst, hsa, if_pos (show (true && true) = true from rfl)] at hr
  unfold gotX at hr
  split at hr
  · injection hr with h1 h2; exact .inl ⟨h2.symm, h1.symm⟩
  · injection hr with h1 h2; exact .inr h2.symm
theorem selfT_shaped (m : Nat) (hm : m ≤ 100) : (selfT m).all shapedB = true := by
  rw [List.all_eq_true]
  intro a ha
  unfold selfT at ha
  simp only [List.mem_map, List.mem_range] at ha
  obtain ⟨i, hi, rfl⟩ := ha
  refine shapedB_true.2 ⟨by rw [tsize_node, sizeM_nil]; omega, by rw [tdepth_node, depthM_nil]; omega, ?_⟩
  rw [leaf_good, decide_eq_true (show (0 : Int) ≤ i by omega), decide_eq_true (show (i : Int) ≤ 1048576 by omega)]; rfl
theorem self_back {t u : TM} {m : Nat} {e : Int} (hm : m ≤ 100) (hs : shapedB t = true) (h : liftX t m m = (u, e)) : (e = 0 ∧ manyX u (varsT m).reverse = (t, 0)) ∨ e = 2 := by
  have hf : fitsB (m : Int) = true := fitsB_true.2 ⟨by omega, by omega⟩
  rw [liftX_eq, hf, hs, if_pos (show (true && (true && true)) = true from rfl)] at h
  cases e2 : tgoodB (moveT m t m) with
  | false => rw [e2] at h; injection h with h1 h2; exact .inr h2.symm
  | true =>
    rw [e2, if_pos rfl] at h
    injection h with h1 h2
    refine .inl ⟨h2.symm, ?_⟩
    have hsu : shapedB u = true := by rw [← h1, moveT_shaped hs]; exact e2
    unfold manyX
    rw [vars_rev, hsu, selfT_shaped m hm, if_pos (show (true && true) = true from rfl), ← h1]
    have := put_self m t 0 (shapedB_true.1 hs).2.2 (Int.le_refl _)
    rw [Int.add_zero] at this
    rw [this]
    unfold gotX
    rw [hs, if_pos rfl]

end Go.Proofs.YtofmoggjpgjdgaaDoor
