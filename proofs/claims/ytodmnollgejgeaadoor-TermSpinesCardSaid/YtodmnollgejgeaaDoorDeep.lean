/- tree.count's and tree.deepest's callers: Size, Depth, fits; tree.deepest. -/
import Derived.Test.YtodmnollgejgeaaDoorCnt
namespace Go.Proofs.YtodmnollgejgeaaDoor
open Go.RowKit
set_option linter.unusedVariables false

/-- A depth, told up to 129. -/
def dpN (n : Nat) : Nat := min n 129
theorem dpN_max (a x y : Nat) : max (dpN (a + x)) (dpN (a + y)) = dpN (a + max x y) := by unfold dpN; omega
theorem dpN_le (n : Nat) : dpN n ≤ 129 := by unfold dpN; omega
theorem dpN_one {n : Nat} (h : n ≤ 129) : dpN n = n := by unfold dpN; omega
theorem dpN_top {n : Nat} (h : 129 ≤ n) : dpN n = 129 := by unfold dpN; omega

/-- How deep a node is told to be. -/
def deepN (t : RT) : Nat := if 8192 < t.size then 129 else dpN t.depth
theorem deepN_le (t : RT) : deepN t ≤ 129 := by unfold deepN; split; omega; exact dpN_le _
/-- Is a node neither too great nor too deep? -/
def fitB (t : RT) : Bool := decide (deepN t ≤ 128)
theorem fitB_true {t : RT} : fitB t = true ↔ t.size ≤ 8192 ∧ t.depth ≤ 128 := by
  unfold fitB deepN dpN
  rw [decide_eq_true_eq]
  split <;> omega
end Go.Proofs.YtodmnollgejgeaaDoor
