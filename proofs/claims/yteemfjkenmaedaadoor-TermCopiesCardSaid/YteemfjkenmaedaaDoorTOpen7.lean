/- The table of shapes of terms as stage 7's rows list it. -/
import Derived.Test.YteemfjkenmaedaaDoorTOpen
namespace Go.Proofs.YteemfjkenmaedaaDoor
open Go.RowKit
set_option linter.unusedVariables false
set_option maxRecDepth 100000

theorem shapesM_row {W : World} (h : laidMetH Tryd.prog Rows.termSamesRow.laid W) : ShapesM W := by
  rw [MakeChecks.laidMetH_plain _ _ _ (by kernel_rfl)] at h
  exact shapesM_of h
end Go.Proofs.YteemfjkenmaedaaDoor
