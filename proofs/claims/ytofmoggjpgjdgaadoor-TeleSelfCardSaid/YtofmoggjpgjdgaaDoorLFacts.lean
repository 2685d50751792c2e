/- What follows of lifting, plainly: lifted by 0, twice, and back. No walk. -/
import Derived.Test.YtofmoggjpgjdgaaDoorLCalls
namespace Go.Proofs.YtofmoggjpgjdgaaDoor
open Go.RowKit
set_option linter.unusedVariables false

theorem liftX_eq (t : TM) (k n : Int) : liftX t k n = if fitsB k && (fitsB n && shapedB t) then (if tgoodB (moveT k t n) then (moveT k t n, 0) else (.node 0 0 [], 2)) else (.node 0 0 [], 5) := by
  unfold liftX
  cases h : fitsB k && (fitsB n && shapedB t) with
  | false => rfl
  | true =>
    simp only [Bool.and_eq_true] at h
    obtain ⟨h1, h2, h3⟩ := h
    rw [if_pos rfl, if_pos rfl, lift_eq k n (fitsB_true.1 h1).1 (fitsB_true.1 h2).1 t 0 (by omega) (shapedB_true.1 h3).2.2, Int.add_zero]
    cases tgoodB (moveT k t n) <;> rfl
theorem lowerX_eq (t : TM) (k n : Int) : lowerX t k n = if fitsB k && (fitsB n && shapedB t) then (if !betweenT t n (n + k) then (moveT (-k) t (n + k), 0) else (.node 0 0 [], 3)) else (.node 0 0 [], 5) := by
  unfold lowerX
  cases h : fitsB k && (fitsB n && shapedB t) with
  | false => rfl
  | true =>
    simp only [Bool.and_eq_true] at h
    obtain ⟨h1, h2, h3⟩ := h
    rw [if_pos rfl, if_pos rfl, lower_eq k n (fitsB_true.1 h1).1 (fitsB_true.1 h2).1 t 0 (by omega) (shapedB_true.1 h3).2.2, Int.add_zero, Int.add_zero]
    cases betweenT t n (n + k) <;> rfl
theorem swapX_eq (t : TM) (n : Int) : swapX t n = if fitsB n && shapedB t then (if n = 1048576 then (.node 0 0 [], 2) else if tgoodB (swapT t n) then (swapT t n, 0) else (.node 0 0 [], 2)) else (.node 0 0 [], 5) := by
  unfold swapX
  cases h : fitsB n && shapedB t with
  | false => rfl
  | true =>
    simp only [Bool.and_eq_true] at h
    obtain ⟨h2, h3⟩ := h
    rw [if_pos rfl, if_pos rfl, swap_eq n (fitsB_true.1 h2).1 t 0 (by omega) (shapedB_true.1 h3).2.2, Int.add_zero]
    split
    · rfl
    · cases tgoodB (swapT t n) <;> rfl

theorem move_zero : ∀ (t : TM) (m : Int), tgoodB t = true → moveT 0 t m = t := by
  intro t
  induction t using TM.ind with
  | h k n l ih =>
    intro m h
    have h7 := (good_parts h).2.2.2.2.2.2
    rw [moveT_node]
    split
    · rename_i hk
      obtain rfl := var_nil h hk
      subst hk
      split
      · rfl
      · rw [Int.add_zero]
    · have hL : ∀ (r : List TM), (∀ u ∈ r, u ∈ l) → ∀ (i : Nat), moveM 0 k i r m = r := by
        intro r
        induction r with
        | nil => intro _ i; rw [moveM_nil]
        | cons u r ihr =>
          intro hm i
          rw [moveM_cons, ih u (hm u List.mem_cons_self) _ (h7 u (hm u List.mem_cons_self)), ihr (fun v hv => hm v (List.mem_cons_of_mem _ hv))]
      rw [hL l (fun _ h => h)]
theorem move_move (y z : Int) (hy : 0 ≤ y) : ∀ (t : TM) (m : Int), moveT z (moveT y t m) m = moveT (y + z) t m := by
  intro t
  induction t using TM.ind with
  | h k n l ih =>
    intro m
    rw [moveT_node, moveT_node]
    by_cases hk : k = 1
    · rw [if_pos hk, if_pos hk]
      by_cases hn : n < m
      · rw [if_pos hn, if_pos hn, moveT_node, if_pos hk, if_pos hn]
      · rw [if_neg hn, if_neg hn, moveT_node, if_pos rfl, if_neg (by omega), Int.add_assoc]
    · rw [if_neg hk, if_neg hk, moveT_node, if_neg hk]
      have hL : ∀ (r : List TM), (∀ u ∈ r, u ∈ l) → ∀ (i : Nat), moveM z k i (moveM y k i r m) m = moveM (y + z) k i r m := by
        intro r
        induction r with
        | nil => intro _ i; rw [moveM_nil, moveM_nil, moveM_nil]
        | cons u r ihr =>
          intro hm i
          rw [moveM_cons, moveM_cons, moveM_cons, ih u (hm u List.mem_cons_self), ihr (fun v hv => hm v (List.mem_cons_of_mem _ hv))]
      rw [hL l (fun _ h => h)]
/-- What is good when lifted more is good when lifted less. -/
theorem move_less (y z : Int) (hy : 0 ≤ y) (hz : 0 ≤ z) : ∀ (t : TM) (m : Int), tgoodB t = true → tgoodB (moveT (y + z) t m) = true → tgoodB (moveT y t m) = true := by
  intro t
  induction t using TM.ind with
  | h k n l ih =>
    intro m h h2
    have h7 := (good_parts h).2.2.2.2.2.2
    by_cases hk : k = 1
    · obtain rfl := var_nil h hk
      subst hk
      rw [moveT_node, if_pos rfl] at h2 ⊢
      by_cases hn : n < m
      · rw [if_pos hn]; exact h
      · rw [if_neg hn, leaf_good, Bool.and_eq_true, decide_eq_true_eq, decide_eq_true_eq] at h2 ⊢
        have := (good_parts h).2.2.2.1
        omega
    · rw [good_move hk h, List.all_eq_true] at h2 ⊢
      intro p hp
      have hp1 : p.1 ∈ l := by
        obtain ⟨a, b⟩ := p
        exact List.fst_mem_of_mem_zipIdx hp
      exact ih p.1 hp1 _ (h7 _ hp1) (h2 p hp)
theorem move_back (y : Int) (hy : 0 ≤ y) : ∀ (t : TM) (m : Int), tgoodB t = true → moveT (-y) (moveT y t m) (m + y) = t ∧ betweenT (moveT y t m) m (m + y) = false := by
  intro t
  induction t using TM.ind with
  | h k n l ih =>
    intro m h
    have h7 := (good_parts h).2.2.2.2.2.2
    rw [moveT_node]
    by_cases hk : k = 1
    · obtain rfl := var_nil h hk
      subst hk
      rw [if_pos rfl]
      by_cases hn : n < m
      · rw [if_pos hn, moveT_node, betweenT_node, if_pos rfl, if_pos rfl, if_pos (by omega), decide_eq_false (by omega)]
        exact ⟨rfl, rfl⟩
      · rw [if_neg hn, moveT_node, betweenT_node, if_pos rfl, if_pos rfl, if_neg (by omega), decide_eq_false (show ¬ n + y < m + y by omega), Bool.and_false]
        exact ⟨by rw [show n + y + -y = n by omega], rfl⟩
    · rw [if_neg hk, moveT_node, betweenT_node, if_neg hk, if_neg hk]
      have hL : ∀ (r : List TM), (∀ u ∈ r, u ∈ l) → ∀ (i : Nat), moveM (-y) k i (moveM y k i r m) (m + y) = r ∧ betweenL k i (moveM y k i r m) m (m + y) = false := by
        intro r
        induction r with
        | nil => intro _ i; rw [moveM_nil, moveM_nil, betweenL_nil]; exact ⟨rfl, rfl⟩
        | cons u r ihr =>
          intro hm i
          obtain ⟨e1, e2⟩ := ih u (hm u List.mem_cons_self) (m + bndR k i) (h7 u (hm u List.mem_cons_self))
          obtain ⟨e3, e4⟩ := ihr (fun v hv => hm v (List.mem_cons_of_mem _ hv)) (i + 1)
          rw [moveM_cons, moveM_cons, betweenL_cons, show m + y + bndR k i = m + bndR k i + y by omega, e1, e2, e3, e4]
          exact ⟨rfl, rfl⟩
      obtain ⟨e1, e2⟩ := hL l (fun _ h => h) 0
      rw [e1, e2]
      exact ⟨rfl, rfl⟩
theorem back_move (y : Int) (hy : 0 ≤ y) : ∀ (t : TM) (m : Int), 0 ≤ m → tgoodB t = true → betweenT t m (m + y) = false → moveT y (moveT (-y) t (m + y)) m = t ∧ tgoodB (moveT (-y) t (m + y)) = true := by
  intro t
  induction t using TM.ind with
  | h k n l ih =>
    intro m h0 h hb
    obtain ⟨g1, g2, g3, g4, g5, g6, h7⟩ := good_parts h
    by_cases hk : k = 1
    · obtain rfl := var_nil h hk
      subst hk
      rw [betweenT_node, if_pos rfl, Bool.and_eq_false_iff, decide_eq_false_iff_not, decide_eq_false_iff_not] at hb
      rw [moveT_node, if_pos rfl]
      by_cases hn : n < m + y
      · rw [if_pos hn, moveT_node, if_pos rfl, if_pos (by omega)]
        exact ⟨rfl, h⟩
      · rw [if_neg hn, moveT_node, if_pos rfl, if_neg (by omega), show n + -y + y = n by omega, leaf_good, decide_eq_true (by omega), decide_eq_true (by omega)]
        exact ⟨rfl, rfl⟩
    · rw [betweenT_node, if_neg hk] at hb
      rw [good_move hk h, moveT_node, if_neg hk, moveT_node, if_neg hk]
      have hL : ∀ (r : List TM), (∀ u ∈ r, u ∈ l) → ∀ (i : Nat), betweenL k i r m (m + y) = false → moveM y k i (moveM (-y) k i r (m + y)) m = r ∧ (r.zipIdx i).all (fun p => tgoodB (moveT (-y) p.1 (m + y + bndR k p.2))) = true := by
        intro r
        induction r with
        | nil => intro _ i _; rw [moveM_nil, moveM_nil]; exact ⟨rfl, rfl⟩
        | cons u r ihr =>
          intro hm i hb
          rw [betweenL_cons, Bool.or_eq_false_iff] at hb
          have hb1 := (bndR_01 k i).1
          obtain ⟨e1, e2⟩ := ih u (hm u List.mem_cons_self) (m + bndR k i) (by omega) (h7 u (hm u List.mem_cons_self)) (by rw [show m + bndR k i + y = m + y + bndR k i by omega]; exact hb.1)
          obtain ⟨e3, e4⟩ := ihr (fun v hv => hm v (List.mem_cons_of_mem _ hv)) (i + 1) hb.2
          rw [show m + bndR k i + y = m + y + bndR k i by omega] at e1 e2
          rw [moveM_cons, moveM_cons, e1, e3, List.zipIdx_cons, List.all_cons, e4, Bool.and_true]
          exact ⟨rfl, e2⟩
      obtain ⟨e1, e2⟩ := hL l (fun _ h => h) 0 hb
      rw [e1]
      exact ⟨rfl, e2⟩
theorem swap_swap : ∀ (t : TM) (m : Int), tgoodB t = true → swapT (swapT t m) m = t := by
  intro t
  induction t using TM.ind with
  | h k n l ih =>
    intro m h
    have h7 := (good_parts h).2.2.2.2.2.2
    rw [swapT_node]
    by_cases hk : k = 1
    · obtain rfl := var_nil h hk
      subst hk
      by_cases hn : n = m
      · rw [if_pos ⟨rfl, hn⟩, swapT_node, if_neg (by omega), if_pos ⟨rfl, rfl⟩, hn]
      · rw [if_neg (by omega)]
        by_cases hn2 : n = m + 1
        · rw [if_pos ⟨rfl, hn2⟩, swapT_node, if_pos ⟨rfl, rfl⟩, hn2]
        · rw [if_neg (by omega), swapM_nil, swapT_node, if_neg (by omega), if_neg (by omega), swapM_nil]
    · rw [if_neg (by omega), if_neg (by omega), swapT_node, if_neg (by omega), if_neg (by omega)]
      have hL : ∀ (r : List TM), (∀ u ∈ r, u ∈ l) → ∀ (i : Nat), swapM k i (swapM k i r m) m = r := by
        intro r
        induction r with
        | nil => intro _ i; rw [swapM_nil, swapM_nil]
        | cons u r ihr =>
          intro hm i
          rw [swapM_cons, swapM_cons, ih u (hm u List.mem_cons_self) _ (h7 u (hm u List.mem_cons_self)), ihr (fun v hv => hm v (List.mem_cons_of_mem _ hv))]
      rw [hL l (fun _ h => h)]

theorem lift_back {t a : TM} {k n : Int} (h : liftX t k n = (a, 0)) : lowerX a k n = (t, 0) := by
  rw [liftX_eq] at h
  split at h
  · rename_i hc
    simp only [Bool.and_eq_true] at hc
    obtain ⟨h1, h2, h3⟩ := hc
    split at h
    · rename_i hg
      injection h with h _
      subst h
      have hs : shapedB (moveT k t n) = true := (moveT_shaped h3).trans hg
      obtain ⟨e1, e2⟩ := move_back k (fitsB_true.1 h1).1 t n (shapedB_true.1 h3).2.2
      rw [lowerX_eq, h1, h2, hs, e1, e2]
      rfl
    · injection h with _ h; omega
  · injection h with _ h; omega
theorem back_lift {t c : TM} {k n : Int} (h : lowerX t k n = (c, 0)) : liftX c k n = (t, 0) := by
  rw [lowerX_eq] at h
  split at h
  · rename_i hc
    simp only [Bool.and_eq_true] at hc
    obtain ⟨h1, h2, h3⟩ := hc
    split at h
    · rename_i hg
      injection h with h _
      subst h
      have hb : betweenT t n (n + k) = false := by simpa using hg
      obtain ⟨e1, e2⟩ := back_move k (fitsB_true.1 h1).1 t n (fitsB_true.1 h2).1 (shapedB_true.1 h3).2.2 hb
      have hs : shapedB (moveT (-k) t (n + k)) = true := (moveT_shaped h3).trans e2
      rw [liftX_eq, h1, h2, hs, e1, (shapedB_true.1 h3).2.2]
      rfl
    · injection h with _ h; omega
  · injection h with _ h; omega
theorem swap_back {t a : TM} {n : Int} (h : swapX t n = (a, 0)) : swapX a n = (t, 0) := by
  rw [swapX_eq] at h
  split at h
  · rename_i hc
    simp only [Bool.and_eq_true] at hc
    obtain ⟨h2, h3⟩ := hc
    split at h
    · injection h with _ h; omega
    · rename_i hn
      split at h
      · rename_i hg
        injection h with h _
        subst h
        have hs : shapedB (swapT t n) = true := (swapT_shaped h3).trans hg
        rw [swapX_eq, h2, hs, swap_swap t n (shapedB_true.1 h3).2.2, if_pos (show (true && true) = true from rfl), if_neg hn, (shapedB_true.1 h3).2.2]
        rfl
      · injection h with _ h; omega
  · injection h with _ h; omega

end Go.Proofs.YtofmoggjpgjdgaaDoor
