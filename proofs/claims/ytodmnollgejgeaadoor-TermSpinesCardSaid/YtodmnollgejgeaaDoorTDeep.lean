/- term.deepest, Size, Depth. -/
import Derived.Test.YtodmnollgejgeaaDoorTCnt
import Derived.Test.YtodmnollgejgeaaDoorDeep
namespace Go.Proofs.YtodmnollgejgeaaDoor
open Go.RowKit
set_option linter.unusedVariables false

theorem tsize_any (t : TM) (lo hi : Nat) (A : Option Addr) (cap : Nat) (w : World) (h : IsTerm w lo hi t A cap) (hhi : hi ≤ w.heap.size) :
    Calls Tryd.prog 52 #[termV t A cap] w fun e w' => e = .returned (.int .i64 (topN t.size : Int)) ∧ Below w.heap.size w w' := by
  have hc := tcount_any t 0 lo hi A cap
  rw [Nat.zero_add] at hc
  have HC := Lib.hid hc
  clear hc
  unfold termV at HC ⊢
  go_enter Tryd.func52, Tryd.ntmps52
  go_wp2_with fail
  refine (HC.out _ (h.alloc hhi _) (by simp; omega) (by omega)).mono ?_
  rintro e w1 ⟨rfl, hb1⟩
  go_wp2_with fail
  go_ret
  exact ⟨rfl, ((Below.refl _ _).alloc (Nat.le_refl _) _).trans (hb1.mono (by simp))⟩

/-- How deep a node is told to be. -/
def tdeepN (t : TM) : Nat := if 8192 < t.size then 129 else dpN t.depth
theorem tdeepN_le (t : TM) : tdeepN t ≤ 129 := by unfold tdeepN; split; omega; exact dpN_le _
/-- Is a node neither too great nor too deep? -/
def tfitB (t : TM) : Bool := decide (tdeepN t ≤ 128)
theorem tfitB_true {t : TM} : tfitB t = true ↔ t.size ≤ 8192 ∧ t.depth ≤ 128 := by
  unfold tfitB tdeepN dpN
  rw [decide_eq_true_eq]
  split <;> omega
end Go.Proofs.YtodmnollgejgeaaDoor
