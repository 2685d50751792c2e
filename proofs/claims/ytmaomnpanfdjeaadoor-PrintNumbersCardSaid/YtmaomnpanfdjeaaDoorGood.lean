/- What is a right node: the document's rule as a test on trees; the program's table of shapes says the same of each kind. No walk. -/
import Derived.Test.YtmaomnpanfdjeaaDoorNm
import Derived.Test.YtmaomnpanfdjeaaDoorIdx
import Derived.Test.YtmaomnpanfdjeaaDoorDeep
namespace Go.Proofs.YtmaomnpanfdjeaaDoor
open Go.RowKit
set_option linter.unusedVariables false

def numB (k n : Int) : Bool := if k = 2 then decide (0 ≤ n) && decide (n ≤ 7) else decide (n = 0)
noncomputable def topB (k : Int) (s : ByteArray) (n : Int) (len : Nat) (p : Bool) : Bool :=
  decide (1 ≤ k) && (decide (k ≤ 10) && ((decide (5 < k) == p) && (manyB k len && (namedB k s && numB k n))))
mutual
noncomputable def goodB : RT → Bool → Bool
  | .node k _ s n l, p => topB k s n l.length p && goodL l (decide (k = 8))
noncomputable def goodL : List RT → Bool → Bool
  | [], _ => true
  | t :: r, p => goodB t p && goodL r p
end
theorem goodB_node (k a : Int) (s : ByteArray) (n : Int) (l : List RT) (p : Bool) : goodB (.node k a s n l) p = (topB k s n l.length p && goodL l (decide (k = 8))) := by rw [goodB]

/-- A test of what stands at a place. -/
def atB (f : RT → Bool) (l : List RT) (i : Nat) : Bool := match l[i]? with | some t => f t | none => true
theorem atB_of (f : RT → Bool) {l : List RT} {i : Nat} (h : i < l.length) : atB f l i = f l[i] := by
  unfold atB; rw [List.getElem?_eq_getElem h]
theorem allB_congr {Q R : Nat → Bool} : ∀ {n : Nat}, (∀ i, i < n → Q i = R i) → allB Q n = allB R n
  | 0, _ => rfl
  | n + 1, h => by rw [allB, allB, allB_congr (fun i hi => h i (by omega)), h n (by omega)]
theorem allB_succ (Q : Nat → Bool) : ∀ n, allB Q (n + 1) = (Q 0 && allB (fun i => Q (i + 1)) n)
  | 0 => by simp [allB]
  | n + 1 => by
    have := allB_succ Q n
    rw [allB, this, allB, Bool.and_assoc]
theorem allB_at (f : RT → Bool) : ∀ l : List RT, allB (atB f l) l.length = l.all f
  | [] => rfl
  | t :: r => by
    rw [List.length_cons, allB_succ, List.all_cons, ← allB_at f r]
    rfl
theorem goodL_all (p : Bool) : ∀ l : List RT, goodL l p = l.all fun t => goodB t p
  | [] => by rw [goodL]; rfl
  | t :: r => by rw [goodL, goodL_all p r, List.all_cons]
theorem goodL_at (l : List RT) (p : Bool) : allB (atB (fun t => goodB t p) l) l.length = goodL l p := by rw [allB_at, goodL_all]

/-- The table of shapes. -/
def shpT : List (List Int) := [[0, 0, 0, 0, 0, 0], [1, 1, 0, 0, 0, 0], [1, 0, 7, 0, 0, 0], [1, 2, 0, 2, 2, 1], [1, 2, 0, 2, 2, 1], [1, 0, 0, 2, 2, 1], [2, 1, 0, 0, 0, 0], [2, 0, 0, 0, 0, 0], [2, 1, 0, 1, 8192, 2], [2, 0, 0, 0, 0, 0], [2, 0, 0, 1, 1, 1]]
def shp (k j : Nat) : Int := (shpT.getD k []).getD j 0
def Shapes (w : World) : Prop := ∀ i j, i < 11 → j < 6 → w.cell? ⟨1, i * 6 + j, none⟩ = some (.int .i64 (shp i j))
theorem Shapes.lt {w : World} (h : Shapes w) : 1 < w.heap.size := World.block_lt_of_cell? w _ (h 0 0 (by omega) (by omega))
theorem Shapes.below {w w' : World} (h : Shapes w) (hb : Below w.heap.size w w') : Shapes w' := fun i j hi hj => (hb.cell (p := ⟨1, i * 6 + j, none⟩) h.lt).trans (h i j hi hj)

theorem kind_cases {K : Nat} (h1 : 1 ≤ K) (h2 : K ≤ 10) : K = 1 ∨ K = 2 ∨ K = 3 ∨ K = 4 ∨ K = 5 ∨ K = 6 ∨ K = 7 ∨ K = 8 ∨ K = 9 ∨ K = 10 := by omega
theorem shp_is {K : Nat} (h1 : 1 ≤ K) (h2 : K ≤ 10) : shp K 0 = if 5 < K then 2 else 1 := by
  rcases kind_cases h1 h2 with rfl | rfl | rfl | rfl | rfl | rfl | rfl | rfl | rfl | rfl <;> rfl
theorem shp_name {K : Nat} (h1 : 1 ≤ K) (h2 : K ≤ 10) (s : ByteArray) : bearsB s (shp K 1) = namedB (K : Int) s := by
  rcases kind_cases h1 h2 with rfl | rfl | rfl | rfl | rfl | rfl | rfl | rfl | rfl | rfl <;> rfl
theorem shp_num {K : Nat} (h1 : 1 ≤ K) (h2 : K ≤ 10) (n : Int) : numB (K : Int) n = true ↔ 0 ≤ n ∧ n ≤ shp K 2 := by
  unfold numB
  by_cases h : K = 2
  · subst h
    have e : shp 2 2 = 7 := rfl
    rw [e]; simp
  · have e : shp K 2 = 0 := by
      rcases kind_cases h1 h2 with rfl | rfl | rfl | rfl | rfl | rfl | rfl | rfl | rfl | rfl <;> first | rfl | omega
    have h' : ¬ (K : Int) = 2 := by omega
    rw [e, if_neg h', decide_eq_true_eq]; omega
theorem shp_many {K : Nat} (h1 : 1 ≤ K) (h2 : K ≤ 10) {n : Nat} (hn : n ≤ 8192) : manyB (K : Int) n = true ↔ shp K 3 ≤ (n : Int) ∧ (n : Int) ≤ shp K 4 := by
  rcases kind_cases h1 h2 with rfl | rfl | rfl | rfl | rfl | rfl | rfl | rfl | rfl | rfl
  · have e3 : shp 1 3 = 0 := rfl
    have e4 : shp 1 4 = 0 := rfl
    rw [e3, e4]; simp [manyB]; try omega
  · have e3 : shp 2 3 = 0 := rfl
    have e4 : shp 2 4 = 0 := rfl
    rw [e3, e4]; simp [manyB]; try omega
  · have e3 : shp 3 3 = 2 := rfl
    have e4 : shp 3 4 = 2 := rfl
    rw [e3, e4]; simp [manyB]; try omega
  · have e3 : shp 4 3 = 2 := rfl
    have e4 : shp 4 4 = 2 := rfl
    rw [e3, e4]; simp [manyB]; try omega
  · have e3 : shp 5 3 = 2 := rfl
    have e4 : shp 5 4 = 2 := rfl
    rw [e3, e4]; simp [manyB]; try omega
  · have e3 : shp 6 3 = 0 := rfl
    have e4 : shp 6 4 = 0 := rfl
    rw [e3, e4]; simp [manyB]; try omega
  · have e3 : shp 7 3 = 0 := rfl
    have e4 : shp 7 4 = 0 := rfl
    rw [e3, e4]; simp [manyB]; try omega
  · have e3 : shp 8 3 = 1 := rfl
    have e4 : shp 8 4 = 8192 := rfl
    rw [e3, e4]; simp [manyB]; try omega
  · have e3 : shp 9 3 = 0 := rfl
    have e4 : shp 9 4 = 0 := rfl
    rw [e3, e4]; simp [manyB]; try omega
  · have e3 : shp 10 3 = 1 := rfl
    have e4 : shp 10 4 = 1 := rfl
    rw [e3, e4]; simp [manyB]; try omega
theorem shp_sub {K : Nat} (h1 : 1 ≤ K) (h2 : K ≤ 10) {n : Nat} (hn : 0 < n) (hm : manyB (K : Int) n = true) : (shp K 5 = 1 ∨ shp K 5 = 2) ∧ decide (shp K 5 = 2) = decide ((K : Int) = 8) := by
  rcases kind_cases h1 h2 with rfl | rfl | rfl | rfl | rfl | rfl | rfl | rfl | rfl | rfl <;> first | (exact ⟨.inl rfl, rfl⟩) | (exact ⟨.inr rfl, rfl⟩) | (exfalso; simp [manyB] at hm; omega)

end Go.Proofs.YtmaomnpanfdjeaaDoor
