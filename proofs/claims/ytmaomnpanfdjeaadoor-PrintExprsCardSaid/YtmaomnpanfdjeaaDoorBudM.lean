/- How much of a tree scholiumlaw04.budget copies: all of it, unless it is very great. No program. -/
import Derived.Test.YtmaomnpanfdjeaaDoorRose
namespace Go.Proofs.YtmaomnpanfdjeaaDoor
open Go.RowKit
set_option linter.unusedVariables false

mutual
def bud : RT → Int → RT × Int
  | .node k a s n l, x => (.node k a s n (budL l (x - 1)).1, (budL l (x - 1)).2)
def budL : List RT → Int → List RT × Int
  | [], x => ([], x)
  | t :: r, x => if -9000 < x then ((bud t x).1 :: (budL r (bud t x).2).1, (budL r (bud t x).2).2) else ([], x)
end
theorem bud_node (k a : Int) (s : ByteArray) (n : Int) (l : List RT) (x : Int) : bud (.node k a s n l) x = (.node k a s n (budL l (x - 1)).1, (budL l (x - 1)).2) := by rw [bud]
theorem budL_nil (x : Int) : budL [] x = ([], x) := by rw [budL]
theorem budL_go {t : RT} {r : List RT} {x : Int} (h : -9000 < x) : budL (t :: r) x = ((bud t x).1 :: (budL r (bud t x).2).1, (budL r (bud t x).2).2) := by rw [budL, if_pos h]
theorem budL_stop {l : List RT} {x : Int} (h : ¬ -9000 < x) : budL l x = ([], x) := by
  cases l with
  | nil => rw [budL]
  | cons t r => rw [budL, if_neg h]

/-- Either all was copied, or no more were left. -/
def BudOk (t : RT) : Prop := ∀ x : Int, -9000 < x → ((bud t x).1 = t ∧ x - (bud t x).2 = t.size ∧ -9000 ≤ (bud t x).2) ∨ ((bud t x).2 = -9000 ∧ x + 9000 ≤ t.size)
theorem budL_ok : ∀ (l : List RT), (∀ t ∈ l, BudOk t) → ∀ x : Int, -9000 ≤ x → ((budL l x).1 = l ∧ x - (budL l x).2 = sizeL l ∧ -9000 ≤ (budL l x).2) ∨ ((budL l x).2 = -9000 ∧ x + 9000 ≤ sizeL l)
  | [], _, x, hx => by rw [budL_nil, sizeL_nil]; left; exact ⟨rfl, by simp, hx⟩
  | t :: r, h, x, hx => by
    by_cases hx' : -9000 < x
    · rw [budL_go hx', sizeL_cons]
      rcases h t (List.mem_cons_self) x hx' with ⟨h1, h2, h3⟩ | ⟨h1, h2⟩
      · rcases budL_ok r (fun u hu => h u (List.mem_cons_of_mem _ hu)) (bud t x).2 h3 with ⟨g1, g2, g3⟩ | ⟨g1, g2⟩
        · left; exact ⟨by rw [h1, g1], by omega, g3⟩
        · right; exact ⟨g1, by omega⟩
      · right
        have e : budL r (bud t x).2 = ([], (bud t x).2) := budL_stop (by omega)
        rw [e]
        exact ⟨h1, by omega⟩
    · rw [budL_stop hx']
      right; exact ⟨by show x = -9000; omega, by omega⟩
theorem bud_ok : ∀ t, BudOk t := by
  intro t
  induction t using RT.ind with
  | h k a s n l ih =>
    intro x hx
    rw [bud_node, size_node]
    rcases budL_ok l ih (x - 1) (by omega) with ⟨h1, h2, h3⟩ | ⟨h1, h2⟩
    · left; exact ⟨by rw [h1], by show x - (budL l (x - 1)).2 = _; omega, h3⟩
    · right; exact ⟨h1, by omega⟩
theorem bud_range (t : RT) {x : Int} (hx : -9000 < x) : -9000 ≤ (bud t x).2 ∧ (bud t x).2 + 1 ≤ x := by
  have := size_pos t
  rcases bud_ok t x hx with ⟨_, h2, h3⟩ | ⟨h1, _⟩ <;> omega
/-- A tree that was copied whole. -/
theorem bud_yes {t : RT} (h : -8900 < (bud t 1000).2) : (bud t 1000).1 = t ∧ t.size < 9900 := by
  rcases bud_ok t 1000 (by omega) with ⟨h1, h2, h3⟩ | ⟨h1, _⟩
  · exact ⟨h1, by omega⟩
  · omega
theorem bud_no {t : RT} (h : ¬ -8900 < (bud t 1000).2) : 9900 ≤ t.size := by
  rcases bud_ok t 1000 (by omega) with ⟨_, h2, h3⟩ | ⟨_, h2⟩ <;> omega

theorem budL_step {l : List RT} {x0 x : Int} {O : List RT} {i : Nat} (hi : i < l.length) (hx : -9000 < x) (h : budL l x0 = (O ++ (budL (l.drop i) x).1, (budL (l.drop i) x).2)) :
    budL l x0 = ((O ++ [(bud l[i] x).1]) ++ (budL (l.drop (i + 1)) (bud l[i] x).2).1, (budL (l.drop (i + 1)) (bud l[i] x).2).2) := by
  rw [List.drop_eq_getElem_cons hi, budL_go hx] at h
  rw [h]; simp
theorem budL_end {l : List RT} {x0 x : Int} {O : List RT} {i : Nat} (hi : ¬ i < l.length ∨ ¬ -9000 < x) (h : budL l x0 = (O ++ (budL (l.drop i) x).1, (budL (l.drop i) x).2)) : budL l x0 = (O, x) := by
  have e : budL (l.drop i) x = ([], x) := by
    rcases hi with hi | hx
    · rw [List.drop_eq_nil_of_le (by omega), budL_nil]
    · exact budL_stop hx
  rw [h, e]; simp

end Go.Proofs.YtmaomnpanfdjeaaDoor
