/- Names as tests: name.Right and the document's Right come to one bool, for every string; tree.bears, scholiumref04.many, scholiumref04.named. -/
import Derived.Test.YtkccjfbgepmfkaaRefRight
import Derived.LoopTactic
import Derived.RegionTactic
import Derived.Test.YtkccjfbgepmfkaaB1
namespace Go.Proofs.Ytkccjfbgepmfkaa
open Go.RowKit
set_option linter.unusedVariables false

/-- Is the text a name? -/
noncomputable def nmB (s : ByteArray) : Bool := @decide (∃ ns, IsName s ns) (Classical.propDecidable _)
theorem nmB_yes {s : ByteArray} {ns : List Int} (h : IsName s ns) : nmB s = true := @decide_eq_true _ (Classical.propDecidable _) ⟨ns, h⟩
theorem nmB_no {s : ByteArray} (h : ¬ ∃ ns, IsName s ns) : nmB s = false := @decide_eq_false _ (Classical.propDecidable _) h
theorem nameRight_any (s : ByteArray) (w : World) (hs : s.size ≤ 9223372036854775807) :
    Calls Try.prog 56 #[.string s] w fun e w' => e = .returned (.bool (nmB s)) ∧ Below w.heap.size w w' := by
  rcases Classical.em (∃ ns, IsName s ns) with ⟨ns, h⟩ | h
  · rw [nmB_yes h]; exact right_yes s ns w h
  · rw [nmB_no h]; exact right_no s w hs h
def lowB (s : ByteArray) : Bool := s.toList == [95]
def noneB (s : ByteArray) : Bool := s.toList == []
/-- May a node bear the name? -/
noncomputable def bearsB (s : ByteArray) (may : Int) : Bool := if may = 1 then nmB s else if may = 2 then lowB s || nmB s else noneB s

/-- May a kind have so many Subs? -/
def manyB (k : Int) (n : Nat) : Bool := if k = 8 then decide (0 < n) else if k = 3 ∨ k = 4 ∨ k = 5 then decide (n = 2) else if k = 10 then decide (n = 1) else decide (n = 0)
/-- May a kind have the name? -/
noncomputable def namedB (k : Int) (s : ByteArray) : Bool := if k = 1 ∨ k = 6 ∨ k = 8 then nmB s else if k = 3 ∨ k = 4 then lowB s || nmB s else noneB s

theorem beq_cast (n m : Nat) : ((n : Int) == (m : Int)) = decide (n = m) := by rw [Bool.eq_iff_iff]; simp; omega
end Go.Proofs.Ytkccjfbgepmfkaa

/- What is a right node: the document's rule as a test on trees; the program's table of shapes says the same of each kind. No walk. -/
namespace Go.Proofs.Ytkccjfbgepmfkaa
open Go.RowKit
set_option linter.unusedVariables false

def numB (k n : Int) : Bool := if k = 2 then decide (0 ≤ n) && decide (n ≤ 7) else decide (n = 0)
noncomputable def topB (k : Int) (s : ByteArray) (n : Int) (len : Nat) (p : Bool) : Bool :=
  decide (1 ≤ k) && (decide (k ≤ 10) && ((decide (5 < k) == p) && (manyB k len && (namedB k s && numB k n))))
mutual
noncomputable def goodB : RT → Bool → Bool
  | .node k _ s n l, p => topB k s n l.length p && goodL l (decide (k = 8))
noncomputable def goodL : List RT → Bool → Bool
  | [], _ => true
  | t :: r, p => goodB t p && goodL r p
end
theorem goodB_node (k a : Int) (s : ByteArray) (n : Int) (l : List RT) (p : Bool) : goodB (.node k a s n l) p = (topB k s n l.length p && goodL l (decide (k = 8))) := by rw [goodB]

/-- A test of what stands at a place. -/
def atB (f : RT → Bool) (l : List RT) (i : Nat) : Bool := match l[i]? with | some t => f t | none => true
theorem atB_of (f : RT → Bool) {l : List RT} {i : Nat} (h : i < l.length) : atB f l i = f l[i] := by
  unfold atB; rw [List.getElem?_eq_getElem h]
theorem allB_congr {Q R : Nat → Bool} : ∀ {n : Nat}, (∀ i, i < n → Q i = R i) → allB Q n = allB R n
  | 0, _ => rfl
  | n + 1, h => by rw [allB, allB, allB_congr (fun i hi => h i (by omega)), h n (by omega)]
theorem allB_succ (Q : Nat → Bool) : ∀ n, allB Q (n + 1) = (Q 0 && allB (fun i => Q (i + 1)) n)
  | 0 => by simp [allB]
  | n + 1 => by
    have := allB_succ Q n
    rw [allB, this, allB, Bool.and_assoc]
theorem allB_at (f : RT → Bool) : ∀ l : List RT, allB (atB f l) l.length = l.all f
  | [] => rfl
  | t :: r => by
    rw [List.length_cons, allB_succ, List.all_cons, ← allB_at f r]
    rfl
theorem goodL_all (p : Bool) : ∀ l : List RT, goodL l p = l.all fun t => goodB t p
  | [] => by rw [goodL]; rfl
  | t :: r => by rw [goodL, goodL_all p r, List.all_cons]
theorem goodL_at (l : List RT) (p : Bool) : allB (atB (fun t => goodB t p) l) l.length = goodL l p := by rw [allB_at, goodL_all]

/-- The table of shapes. -/
def shpT : List (List Int) := [[0, 0, 0, 0, 0, 0], [1, 1, 0, 0, 0, 0], [1, 0, 7, 0, 0, 0], [1, 2, 0, 2, 2, 1], [1, 2, 0, 2, 2, 1], [1, 0, 0, 2, 2, 1], [2, 1, 0, 0, 0, 0], [2, 0, 0, 0, 0, 0], [2, 1, 0, 1, 8192, 2], [2, 0, 0, 0, 0, 0], [2, 0, 0, 1, 1, 1]]
def shp (k j : Nat) : Int := (shpT.getD k []).getD j 0
theorem kind_cases {K : Nat} (h1 : 1 ≤ K) (h2 : K ≤ 10) : K = 1 ∨ K = 2 ∨ K = 3 ∨ K = 4 ∨ K = 5 ∨ K = 6 ∨ K = 7 ∨ K = 8 ∨ K = 9 ∨ K = 10 := by omega
theorem shp_is {K : Nat} (h1 : 1 ≤ K) (h2 : K ≤ 10) : shp K 0 = if 5 < K then 2 else 1 := by
  rcases kind_cases h1 h2 with rfl | rfl | rfl | rfl | rfl | rfl | rfl | rfl | rfl | rfl <;> rfl
theorem shp_name {K : Nat} (h1 : 1 ≤ K) (h2 : K ≤ 10) (s : ByteArray) : bearsB s (shp K 1) = namedB (K : Int) s := by
  rcases kind_cases h1 h2 with rfl | rfl | rfl | rfl | rfl | rfl | rfl | rfl | rfl | rfl <;> rfl
theorem shp_num {K : Nat} (h1 : 1 ≤ K) (h2 : K ≤ 10) (n : Int) : numB (K : Int) n = true ↔ 0 ≤ n ∧ n ≤ shp K 2 := by
  unfold numB
  by_cases h : K = 2
  · subst h
    have e : shp 2 2 = 7 := rfl
    rw [e]; simp
  · have e : shp K 2 = 0 := by
      rcases kind_cases h1 h2 with rfl | rfl | rfl | rfl | rfl | rfl | rfl | rfl | rfl | rfl <;> first | rfl | omega
    have h' : ¬ (K : Int) = 2 := by omega
    rw [e, if_neg h', decide_eq_true_eq]; omega
theorem shp_many {K : Nat} (h1 : 1 ≤ K) (h2 : K ≤ 10) {n : Nat} (hn : n ≤ 8192) : manyB (K : Int) n = true ↔ shp K 3 ≤ (n : Int) ∧ (n : Int) ≤ shp K 4 := by
  rcases kind_cases h1 h2 with rfl | rfl | rfl | rfl | rfl | rfl | rfl | rfl | rfl | rfl
  · have e3 : shp 1 3 = 0 := rfl
    have e4 : shp 1 4 = 0 := rfl
    rw [e3, e4]; simp [manyB]; try omega
  · have e3 : shp 2 3 = 0 := rfl
    have e4 : shp 2 4 = 0 := rfl
    rw [e3, e4]; simp [manyB]; try omega
  · have e3 : shp 3 3 = 2 := rfl
    have e4 : shp 3 4 = 2 := rfl
    rw [e3, e4]; simp [manyB]; try omega
  · have e3 : shp 4 3 = 2 := rfl
    have e4 : shp 4 4 = 2 := rfl
    rw [e3, e4]; simp [manyB]; try omega
  · have e3 : shp 5 3 = 2 := rfl
    have e4 : shp 5 4 = 2 := rfl
    rw [e3, e4]; simp [manyB]; try omega
  · have e3 : shp 6 3 = 0 := rfl
    have e4 : shp 6 4 = 0 := rfl
    rw [e3, e4]; simp [manyB]; try omega
  · have e3 : shp 7 3 = 0 := rfl
    have e4 : shp 7 4 = 0 := rfl
    rw [e3, e4]; simp [manyB]; try omega
  · have e3 : shp 8 3 = 1 := rfl
    have e4 : shp 8 4 = 8192 := rfl
    rw [e3, e4]; simp [manyB]; try omega
  · have e3 : shp 9 3 = 0 := rfl
    have e4 : shp 9 4 = 0 := rfl
    rw [e3, e4]; simp [manyB]; try omega
  · have e3 : shp 10 3 = 1 := rfl
    have e4 : shp 10 4 = 1 := rfl
    rw [e3, e4]; simp [manyB]; try omega
theorem shp_sub {K : Nat} (h1 : 1 ≤ K) (h2 : K ≤ 10) {n : Nat} (hn : 0 < n) (hm : manyB (K : Int) n = true) : (shp K 5 = 1 ∨ shp K 5 = 2) ∧ decide (shp K 5 = 2) = decide ((K : Int) = 8) := by
  rcases kind_cases h1 h2 with rfl | rfl | rfl | rfl | rfl | rfl | rfl | rfl | rfl | rfl <;> first | (exact ⟨.inl rfl, rfl⟩) | (exact ⟨.inr rfl, rfl⟩) | (exfalso; simp [manyB] at hm; omega)

end Go.Proofs.Ytkccjfbgepmfkaa

/- tree.all over nodes, with the tests that the program hands it. -/
namespace Go.Proofs.Ytkccjfbgepmfkaa
open Go.RowKit
set_option linter.unusedVariables false

end Go.Proofs.Ytkccjfbgepmfkaa

/- tree.stands: what is a right node, by the table of shapes: the document's rule, for every tree that is not too great. -/
namespace Go.Proofs.Ytkccjfbgepmfkaa
open Go.RowKit
set_option linter.unusedVariables false

theorem topB_not {k : Int} {s : ByteArray} {n : Int} {p : Bool} (l : List RT) (a : Int) (h : topB k s n l.length p = false) : goodB (.node k a s n l) p = false := by
  rw [goodB_node, h]; rfl

end Go.Proofs.Ytkccjfbgepmfkaa

/- tree.Expr, tree.Pattern. -/
namespace Go.Proofs.Ytkccjfbgepmfkaa
open Go.RowKit
set_option linter.unusedVariables false

theorem fit_size {t : RT} (h : fitB t = true) : t.size ≤ 8192 := (fitB_true.1 h).1

end Go.Proofs.Ytkccjfbgepmfkaa
