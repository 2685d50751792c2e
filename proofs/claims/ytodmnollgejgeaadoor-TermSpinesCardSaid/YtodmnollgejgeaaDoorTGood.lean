/- What is a right term of the core: the document's rule as a test on plain terms; the program's table of shapes says the same of each kind. No walk. -/
import Derived.Test.YtodmnollgejgeaaDoorTIdx
import Derived.Test.YtodmnollgejgeaaDoorTDeep
namespace Go.Proofs.YtodmnollgejgeaaDoor
open Go.RowKit
set_option linter.unusedVariables false

/-- How many Subs a kind asks, and the greatest number. -/
def manyM (k : Int) : Nat := if k = 3 ∨ k = 4 ∨ k = 5 then 2 else if k = 7 then 1 else 0
def mostM (k : Int) : Int := if k = 3 ∨ k = 4 ∨ k = 5 then 0 else if k = 2 then 7 else 1048576
/-- Is the first Sub, where there is one, a universe? -/
def firstM (l : List TM) : Bool := match l with | [] => true | t :: _ => decide (t.k = 2)
def ttopB (k n : Int) (l : List TM) : Bool :=
  decide (1 ≤ k) && (decide (k ≤ 8) && (decide (l.length = manyM k) && (decide (0 ≤ n) && (decide (n ≤ mostM k) && (!decide (k = 7) || firstM l)))))
mutual
def tgoodB : TM → Bool
  | .node k n l => ttopB k n l && tgoodL l
def tgoodL : List TM → Bool
  | [] => true
  | t :: r => tgoodB t && tgoodL r
end
theorem tgoodB_node (k n : Int) (l : List TM) : tgoodB (.node k n l) = (ttopB k n l && tgoodL l) := by rw [tgoodB]
theorem tgoodL_all : ∀ l : List TM, tgoodL l = l.all tgoodB
  | [] => by rw [tgoodL]; rfl
  | t :: r => by rw [tgoodL, tgoodL_all r, List.all_cons]
theorem tgoodL_take {l : List TM} {i : Nat} (h : i < l.length) : tgoodL (l.take (i + 1)) = (tgoodL (l.take i) && tgoodB l[i]) := by
  rw [tgoodL_all, tgoodL_all, take_snocM h, List.all_append]; simp
theorem tgoodL_no {l : List TM} {i : Nat} (h : i < l.length) (hg : tgoodB l[i] = false) : tgoodL l = false := by
  cases e : tgoodL l with
  | false => rfl
  | true =>
    rw [tgoodL_all, List.all_eq_true] at e
    have := e _ (List.getElem_mem h)
    rw [hg] at this; cases this
theorem tgoodL_at {l : List TM} (h : tgoodL l = true) {i : Nat} (hi : i < l.length) : tgoodB l[i] = true := by
  rw [tgoodL_all, List.all_eq_true] at h
  exact h _ (List.getElem_mem hi)
theorem ttop_facts {k n : Int} {l : List TM} (h : ttopB k n l = true) : 1 ≤ k ∧ k ≤ 8 ∧ l.length = manyM k ∧ 0 ≤ n ∧ n ≤ mostM k ∧ (k = 7 → firstM l = true) := by
  unfold ttopB at h
  simp only [Bool.and_eq_true, decide_eq_true_eq, Bool.or_eq_true, Bool.not_eq_true', decide_eq_false_iff_not] at h
  obtain ⟨h1, h2, h3, h4, h5, h6⟩ := h
  exact ⟨h1, h2, h3, h4, h5, fun e => h6.resolve_left (fun h => h e)⟩
theorem ttop_mk {k n : Int} {l : List TM} (h1 : 1 ≤ k) (h2 : k ≤ 8) (h3 : l.length = manyM k) (h4 : 0 ≤ n) (h5 : n ≤ mostM k) (h6 : k = 7 → firstM l = true) : ttopB k n l = true := by
  unfold ttopB
  simp only [Bool.and_eq_true, decide_eq_true_eq, Bool.or_eq_true, Bool.not_eq_true', decide_eq_false_iff_not]
  refine ⟨h1, h2, h3, h4, h5, ?_⟩
  by_cases e : k = 7
  · exact .inr (h6 e)
  · exact .inl e
theorem manyM_le (k : Int) : manyM k ≤ 2 := by unfold manyM; split; omega; split <;> omega

/-- Is a term shaped? -/
def shapedB (t : TM) : Bool := tfitB t && tgoodB t
theorem shapedB_true {t : TM} : shapedB t = true ↔ t.size ≤ 8192 ∧ t.depth ≤ 128 ∧ tgoodB t = true := by
  unfold shapedB
  rw [Bool.and_eq_true, tfitB_true, and_assoc]

/-- The table of shapes: the greatest number, how many Subs, of which kind alone, the binders above each. -/
def shpM : List (List Int) := [[0, 0, 0, 0, 0], [1048576, 0, 0, 0, 0], [7, 0, 0, 0, 0], [0, 2, 0, 0, 1], [0, 2, 0, 0, 1], [0, 2, 0, 0, 0], [1048576, 0, 0, 0, 0], [1048576, 1, 2, 0, 0], [1048576, 0, 0, 0, 0]]
def shm (k j : Nat) : Int := (shpM.getD k []).getD j 0
def ShapesM (w : World) : Prop := ∀ i j, i < 9 → j < 5 → w.cell? ⟨0, i * 5 + j, none⟩ = some (.int .i64 (shm i j))
theorem ShapesM.lt {w : World} (h : ShapesM w) : 0 < w.heap.size := World.block_lt_of_cell? w _ (h 0 0 (by omega) (by omega))
theorem ShapesM.below {w w' : World} {B : Nat} (h : ShapesM w) (hb : Below B w w') (hB : 0 < B) : ShapesM w' := fun i j hi hj => (hb.cell (p := ⟨0, i * 5 + j, none⟩) hB).trans (h i j hi hj)
theorem ShapesM.kept {w w' : World} (h : ShapesM w) (hb : Below w.heap.size w w') : ShapesM w' := h.below hb h.lt
theorem kind_m {K : Nat} (h1 : 1 ≤ K) (h2 : K ≤ 8) : K = 1 ∨ K = 2 ∨ K = 3 ∨ K = 4 ∨ K = 5 ∨ K = 6 ∨ K = 7 ∨ K = 8 := by omega
theorem shm_most {K : Nat} (h1 : 1 ≤ K) (h2 : K ≤ 8) : shm K 0 = mostM (K : Int) := by
  rcases kind_m h1 h2 with rfl | rfl | rfl | rfl | rfl | rfl | rfl | rfl <;> rfl
theorem shm_many {K : Nat} (h1 : 1 ≤ K) (h2 : K ≤ 8) : shm K 1 = (manyM (K : Int) : Int) := by
  rcases kind_m h1 h2 with rfl | rfl | rfl | rfl | rfl | rfl | rfl | rfl <;> rfl
theorem shm_only {K : Nat} (h1 : 1 ≤ K) (h2 : K ≤ 8) : shm K 2 = if K = 7 then 2 else 0 := by
  rcases kind_m h1 h2 with rfl | rfl | rfl | rfl | rfl | rfl | rfl | rfl <;> rfl

end Go.Proofs.YtodmnollgejgeaaDoor
