/- What follows of putting terms in, plainly: of what was lifted, in either order, and back. No walk. -/
import Derived.Test.YtofmoggjpgjdgaaDoorUFair
namespace Go.Proofs.YtofmoggjpgjdgaaDoor
open Go.RowKit
set_option linter.unusedVariables false

theorem bnds_good {k n : Int} {l : List TM} (h : tgoodB (.node k n l) = true) : ∀ i, i < l.length → bnd k i = bndR k i := fun i hi => by
  obtain ⟨g1, g2, g3, _⟩ := good_parts h
  exact bnd_good (m := l.length - i) g1 g2 (by omega) (by omega)
theorem leaf_nil {k n b : Int} {l : List TM} (h : tgoodB (.node k n l) = true) (hv : k = 1 ∨ k = 8) : l = [] := by
  obtain ⟨g1, g2, g3, _⟩ := good_parts h
  have h0 : manyM k = 0 := by unfold manyM; rcases hv with h | h <;> (rw [if_neg (by omega), if_neg (by omega)])
  rw [h0] at g3
  exact List.length_eq_zero_iff.1 g3
theorem isV_leaf {k n b : Int} (h : isV k n b) : k = 1 ∨ k = 8 := h.elim .inr (fun h => .inl h.1)
theorem bndR_0 (k : Int) (i : Nat) : 0 ≤ bndR k i := (bndR_01 k i).1

/-- Lifted twice, the second time above what was lifted first. -/
theorem move_over (y z : Int) (hy : 0 ≤ y) : ∀ (t : TM) (m : Int), moveT z (moveT y t m) (m + y) = moveT (y + z) t m := by
  intro t
  induction t using TM.ind with
  | h k n l ih =>
    intro m
    rw [moveT_node, moveT_node (y + z)]
    by_cases hk : k = 1
    · rw [if_pos hk, if_pos hk]
      by_cases hn : n < m
      · rw [if_pos hn, if_pos hn, moveT_node, if_pos hk, if_pos (by omega)]
      · rw [if_neg hn, if_neg hn, moveT_node, if_pos rfl, if_neg (by omega)]
        congr 1; omega
    · rw [if_neg hk, if_neg hk, moveT_node, if_neg hk]
      congr 1
      have hL : ∀ (r : List TM), (∀ u ∈ r, u ∈ l) → ∀ (i : Nat), moveM z k i (moveM y k i r m) (m + y) = moveM (y + z) k i r m := by
        intro r
        induction r with
        | nil => intro _ i; rw [moveM_nil, moveM_nil, moveM_nil]
        | cons u r ihr =>
          intro hm i
          rw [moveM_cons, moveM_cons, moveM_cons, ihr (fun v hv => hm v (List.mem_cons_of_mem _ hv))]
          have e : m + y + bndR k i = m + bndR k i + y := by omega
          rw [e, ih u (hm u List.mem_cons_self)]
      exact hL l (fun _ h => h) 0

/-- Putting in beneath what was lifted. -/
theorem put_move (ls : List TM) (d : Int) (hd : 0 ≤ d) : ∀ (t : TM) (j : Int), tgoodB t = true → 0 ≤ j → putT (firstP ls) (moveT d t j) (d + j) = moveT d (putT (firstP ls) t j) j := by
  intro t
  induction t using TM.ind with
  | h k n l ih =>
    intro j hg hj
    have hB := bnds_good hg
    have hgp := (good_parts hg).2.2.2.2.2.2
    by_cases hk : k = 1
    · obtain rfl := leaf_nil (b := 0) hg (.inl hk)
      subst hk
      rw [moveT_node, if_pos rfl]
      by_cases hn : n < j
      · rw [if_pos hn, putT_node, if_neg (fun h => by rcases h with h | h <;> omega), putM_nil, putT_node, if_neg (fun h => by rcases h with h | h <;> omega), putM_nil, moveT_node, if_pos rfl, if_pos hn]
      · rw [if_neg hn, putT_node, if_pos (.inr ⟨rfl, by omega⟩), putT_node, if_pos (.inr ⟨rfl, by omega⟩)]
        unfold firstP
        rw [if_neg (show ¬ (1 : Int) = 8 by omega), if_neg (show ¬ (1 : Int) = 8 by omega)]
        have e : n + d - (d + j) = n - j := by omega
        rw [e]
        by_cases hm : n - j < (ls.length : Int)
        · rw [if_pos hm, if_pos hm]
          have h1 := move_over j d hj (ls.getD (n - j).toNat (.node 0 0 [])) 0
          rw [Int.zero_add] at h1
          rw [h1, Int.add_comm d j]
        · rw [if_neg hm, if_neg hm, moveT_node, if_pos rfl, if_neg (by omega)]
          congr 1; omega
    · by_cases h8 : k = 8
      · obtain rfl := leaf_nil (b := 0) hg (.inr h8)
        rw [moveT_node, if_neg hk, moveM_nil, putT_node, if_pos (.inl h8), putT_node, if_pos (.inl h8)]
        unfold firstP
        rw [if_pos h8, if_pos h8, moveT_node, if_neg hk, moveM_nil]
      · rw [moveT_node, if_neg hk, putT_node, if_neg (fun h => h.elim h8 (fun h => hk h.1)), putT_node, if_neg (fun h => h.elim h8 (fun h => hk h.1)), moveT_node, if_neg hk]
        congr 1
        have hL : ∀ (r : List TM) (i : Nat), (∀ u ∈ r, u ∈ l) → i + r.length = l.length → putM (firstP ls) k i (moveM d k i r j) (d + j) = moveM d k i (putM (firstP ls) k i r j) j := by
          intro r
          induction r with
          | nil => intro i _ _; rw [moveM_nil, putM_nil, putM_nil, moveM_nil]
          | cons u r ihr =>
            intro i hm hlen
            have hu := hm u List.mem_cons_self
            simp only [List.length_cons] at hlen
            have hbb := hB i (by omega)
            have h01 := bndR_0 k i
            rw [moveM_cons, putM_cons, putM_cons, moveM_cons, ihr (i + 1) (fun v hv => hm v (List.mem_cons_of_mem _ hv)) (by omega), hbb]
            have e : d + j + bndR k i = d + (j + bndR k i) := by omega
            rw [e, ih u hu _ (hgp u hu) (by omega)]
        exact hL l 0 (fun _ h => h) (by omega)

/-- Putting in as many as it was lifted by, and more, takes these away. -/
theorem put_lifted (ls : List TM) (d : Int) (hd : 0 ≤ d) : ∀ (t : TM) (j : Int), tgoodB t = true → 0 ≤ j → putT (firstP ls) (moveT (d + ls.length) t j) (d + j) = moveT d t j := by
  intro t
  induction t using TM.ind with
  | h k n l ih =>
    intro j hg hj
    have hB := bnds_good hg
    have hgp := (good_parts hg).2.2.2.2.2.2
    by_cases hk : k = 1
    · obtain rfl := leaf_nil (b := 0) hg (.inl hk)
      subst hk
      rw [moveT_node, if_pos rfl, moveT_node, if_pos rfl]
      by_cases hn : n < j
      · rw [if_pos hn, if_pos hn, putT_node, if_neg (fun h => by rcases h with h | h <;> omega), putM_nil]
      · rw [if_neg hn, if_neg hn, putT_node, if_pos (.inr ⟨rfl, by omega⟩)]
        unfold firstP
        rw [if_neg (by omega), if_neg (by omega)]
        congr 1; omega
    · by_cases h8 : k = 8
      · obtain rfl := leaf_nil (b := 0) hg (.inr h8)
        rw [moveT_node, if_neg hk, moveM_nil, putT_node, if_pos (.inl h8), moveT_node, if_neg hk, moveM_nil]
        unfold firstP
        rw [if_pos h8]
      · rw [moveT_node, if_neg hk, putT_node, if_neg (fun h => h.elim h8 (fun h => hk h.1)), moveT_node, if_neg hk]
        congr 1
        have hL : ∀ (r : List TM) (i : Nat), (∀ u ∈ r, u ∈ l) → i + r.length = l.length → putM (firstP ls) k i (moveM (d + ls.length) k i r j) (d + j) = moveM d k i r j := by
          intro r
          induction r with
          | nil => intro i _ _; rw [moveM_nil, putM_nil, moveM_nil]
          | cons u r ihr =>
            intro i hm hlen
            have hu := hm u List.mem_cons_self
            simp only [List.length_cons] at hlen
            have hbb := hB i (by omega)
            have h01 := bndR_0 k i
            rw [moveM_cons, putM_cons, moveM_cons, ihr (i + 1) (fun v hv => hm v (List.mem_cons_of_mem _ hv)) (by omega), hbb]
            have e : d + j + bndR k i = d + (j + bndR k i) := by omega
            rw [e, ih u hu _ (hgp u hu) (by omega)]
        exact hL l 0 (fun _ h => h) (by omega)

/-- Over the parts of a term that is no variable. -/
theorem putM_eq {H H2 : Put} {k : Int} {f : TM → TM} {l : List TM} {b b2 : Int} : ∀ (r : List TM) (i : Nat), (∀ u ∈ r, u ∈ l) → (∀ u ∈ l, ∀ i, putT H (f u) (b + bnd k i) = putT H2 u (b2 + bnd k i)) → putM H k i (r.map f) b = putM H2 k i r b2
  | [], i, _, _ => by rw [List.map_nil, putM_nil, putM_nil]
  | u :: r, i, hm, h => by
    rw [List.map_cons, putM_cons, putM_cons, h u (hm u List.mem_cons_self) i, putM_eq r (i + 1) (fun v hv => hm v (List.mem_cons_of_mem _ hv)) h]

/-- In either order. -/
theorem put_twice (a b : TM) (ha : tgoodB a = true) (hb : tgoodB b = true) : ∀ (t : TM) (d : Int), tgoodB t = true → 0 ≤ d →
    putT (firstP [b]) (putT (firstP [a]) t d) d = putT (firstP [putT (firstP [b]) a 0]) (putT (atP b 1) t d) d := by
  intro t
  induction t using TM.ind with
  | h k n l ih =>
    intro d hg hd
    have hgp := (good_parts hg).2.2.2.2.2.2
    by_cases hv : isV k n d
    · obtain rfl := leaf_nil (b := 0) hg (isV_leaf hv)
      rw [putT_node (firstP [a]), if_pos hv, putT_node (atP b 1), if_pos hv]
      unfold atP
      rw [show firstP [a] k n d = if k = 8 then .node k n [] else if n - d < (([a] : List TM).length : Int) then moveT d (([a] : List TM).getD (n - d).toNat (.node 0 0 [])) 0 else .node 1 (n - (([a] : List TM).length : Int)) [] from rfl]
      by_cases h8 : k = 8
      · rw [if_pos h8, if_pos (.inl h8), putT_node, if_pos hv, putT_node, if_pos hv]
        unfold firstP
        rw [if_pos h8, if_pos h8]
      · have hdn : d ≤ n := by rcases hv with h | h; exact absurd h h8; exact h.2
        have hk : k = 1 := by rcases hv with h | h; exact absurd h h8; exact h.1
        rw [if_neg h8]
        simp only [List.length_cons, List.length_nil, Nat.zero_add]
        by_cases h0 : n - d = 0
        · rw [if_pos (by omega), if_pos (.inr (by omega)), h0]
          show putT (firstP [b]) (moveT d a 0) d = _
          have h1 := put_move [b] d hd a 0 ha (by omega)
          rw [Int.add_zero] at h1
          rw [h1, putT_node, if_pos hv]
          unfold firstP
          rw [if_neg h8, if_pos (by simp; omega), h0]
          rfl
        · rw [if_neg (by omega), if_neg (fun h => h.elim h8 (by omega))]
          by_cases h1 : n - d = 1
          · rw [if_pos h1, putT_node, if_pos (.inr ⟨rfl, by omega⟩)]
            have h2 := put_lifted [putT (firstP [b]) a 0] d hd b 0 hb (by omega)
            rw [Int.add_zero] at h2
            have e : d + (([putT (firstP [b]) a 0] : List TM).length : Int) = 1 + d := by simp; omega
            rw [e] at h2
            rw [h2]
            unfold firstP
            rw [if_neg (by omega), if_pos (by simp; omega)]
            have e2 : (n - ((1 : Nat) : Int) - d).toNat = 0 := by omega
            rw [e2]
            rfl
          · rw [if_neg h1, putT_node, if_pos (.inr ⟨rfl, by omega⟩), putT_node, if_pos (.inr ⟨rfl, by omega⟩)]
            unfold firstP
            rw [if_neg (by omega), if_neg (by simp; omega), if_neg (by omega), if_neg (by simp; omega)]
            rfl
    · rw [putT_node (firstP [a]), if_neg hv, putT_node (atP b 1), if_neg hv, putT_node, if_neg hv, putT_node, if_neg hv]
      congr 1
      have hL : ∀ (r : List TM) (i : Nat), (∀ u ∈ r, u ∈ l) → putM (firstP [b]) k i (putM (firstP [a]) k i r d) d = putM (firstP [putT (firstP [b]) a 0]) k i (putM (atP b 1) k i r d) d := by
        intro r
        induction r with
        | nil => intro i _; rw [putM_nil, putM_nil, putM_nil, putM_nil]
        | cons u r ihr =>
          intro i hm
          have hu := hm u List.mem_cons_self
          have h01 := bnd_01 k i
          rw [putM_cons, putM_cons, putM_cons, putM_cons, ihr (i + 1) (fun v hv => hm v (List.mem_cons_of_mem _ hv)), ih u hu _ (hgp u hu) (by omega)]
      exact hL l 0 (fun _ h => h)

/-- Bound, and opened. -/
theorem bind_open (N : Int) : ∀ (t : TM) (d : Int), tgoodB t = true → 0 ≤ d → putT (firstP [.node 8 N []]) (putT (bindP N) t d) d = t := by
  intro t
  induction t using TM.ind with
  | h k n l ih =>
    intro d hg hd
    have hgp := (good_parts hg).2.2.2.2.2.2
    by_cases hv : isV k n d
    · obtain rfl := leaf_nil (b := 0) hg (isV_leaf hv)
      rw [putT_node (bindP N), if_pos hv]
      unfold bindP
      by_cases hk : k = 1
      · have hdn : d ≤ n := by rcases hv with h | h; omega; exact h.2
        rw [if_pos hk, putT_node, if_pos (.inr ⟨rfl, by omega⟩)]
        unfold firstP
        rw [if_neg (by omega), if_neg (by simp; omega), hk]
        congr 1
        simp
      · rw [if_neg hk]
        have h8 : k = 8 := hv.elim id (fun h => absurd h.1 hk)
        by_cases hn : n = N
        · rw [if_pos hn, putT_node, if_pos (.inr ⟨rfl, Int.le_refl _⟩)]
          unfold firstP
          rw [if_neg (by omega), if_pos (by simp)]
          have e : (d - d).toNat = 0 := by omega
          rw [e, h8, hn]
          show moveT d (.node 8 N []) 0 = _
          rw [moveT_node, if_neg (by omega), moveM_nil]
        · rw [if_neg hn, putT_node, if_pos hv]
          unfold firstP
          rw [if_pos h8]
    · rw [putT_node (bindP N), if_neg hv, putT_node, if_neg hv]
      congr 1
      have hL : ∀ (r : List TM) (i : Nat), (∀ u ∈ r, u ∈ l) → putM (firstP [.node 8 N []]) k i (putM (bindP N) k i r d) d = r := by
        intro r
        induction r with
        | nil => intro i _; rw [putM_nil, putM_nil]
        | cons u r ihr =>
          intro i hm
          have hu := hm u List.mem_cons_self
          have h01 := bnd_01 k i
          rw [putM_cons, putM_cons, ihr (i + 1) (fun v hv => hm v (List.mem_cons_of_mem _ hv)), ih u hu _ (hgp u hu) (by omega)]
      exact hL l 0 (fun _ h => h)

/-- Is no node of it the named variable N? -/
def freeN (N : Int) : TM → Bool
  | .node k n l => !(decide (k = 8) && decide (n = N)) && freeL N l
where freeL (N : Int) : List TM → Bool
  | [] => true
  | t :: r => freeN N t && freeL N r
theorem freeL_all (N : Int) : ∀ l : List TM, freeN.freeL N l = l.all (freeN N)
  | [] => by rw [freeN.freeL]; rfl
  | t :: r => by rw [freeN.freeL, freeL_all N r, List.all_cons]
theorem freeN_node (N k n : Int) (l : List TM) : freeN N (.node k n l) = (!(decide (k = 8) && decide (n = N)) && l.all (freeN N)) := by rw [freeN, freeL_all]
/-- Opened with what it has not, and bound. -/
theorem open_bind (N : Int) : ∀ (t : TM) (d : Int), tgoodB t = true → freeN N t = true → 0 ≤ d → putT (bindP N) (putT (firstP [.node 8 N []]) t d) d = t := by
  intro t
  induction t using TM.ind with
  | h k n l ih =>
    intro d hg hf hd
    have hgp := (good_parts hg).2.2.2.2.2.2
    rw [freeN_node, Bool.and_eq_true, List.all_eq_true] at hf
    obtain ⟨hf1, hf2⟩ := hf
    by_cases hv : isV k n d
    · obtain rfl := leaf_nil (b := 0) hg (isV_leaf hv)
      rw [putT_node (firstP [.node 8 N []]), if_pos hv]
      by_cases h8 : k = 8
      · have hn : n ≠ N := fun e => by simp [h8, e] at hf1
        rw [show firstP [.node 8 N []] k n d = .node k n [] by unfold firstP; rw [if_pos h8], putT_node, if_pos hv]
        unfold bindP
        rw [if_neg (by omega), if_neg hn]
      · have hdn : d ≤ n := by rcases hv with h | h; exact absurd h h8; exact h.2
        have hk : k = 1 := by rcases hv with h | h; exact absurd h h8; exact h.1
        unfold firstP
        rw [if_neg h8]
        by_cases h0 : n - d = 0
        · rw [if_pos (by simp; omega), h0]
          show putT (bindP N) (moveT d (.node 8 N []) 0) d = _
          rw [moveT_node, if_neg (by omega), moveM_nil, putT_node, if_pos (.inl rfl)]
          unfold bindP
          rw [if_neg (by omega), if_pos rfl, hk]
          congr 1; omega
        · rw [if_neg (by simp; omega), putT_node, if_pos (.inr ⟨rfl, by simp; omega⟩)]
          unfold bindP
          rw [if_pos rfl, hk]
          congr 1; simp
    · rw [putT_node (firstP [.node 8 N []]), if_neg hv, putT_node, if_neg hv]
      congr 1
      have hL : ∀ (r : List TM) (i : Nat), (∀ u ∈ r, u ∈ l) → putM (bindP N) k i (putM (firstP [.node 8 N []]) k i r d) d = r := by
        intro r
        induction r with
        | nil => intro i _; rw [putM_nil, putM_nil]
        | cons u r ihr =>
          intro i hm
          have hu := hm u List.mem_cons_self
          have h01 := bnd_01 k i
          rw [putM_cons, putM_cons, ihr (i + 1) (fun v hv => hm v (List.mem_cons_of_mem _ hv)), ih u hu _ (hgp u hu) (hf2 u hu) (by omega)]
      exact hL l 0 (fun _ h => h)

end Go.Proofs.YtofmoggjpgjdgaaDoor
