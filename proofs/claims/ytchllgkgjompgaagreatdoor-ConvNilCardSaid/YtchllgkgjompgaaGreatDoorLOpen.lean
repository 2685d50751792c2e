/- The table of shapes of terms as stage 8's rows list it. -/
import Derived.Test.YtchllgkgjompgaaGreatDoorR3
namespace Go.Proofs.YtchllgkgjompgaaGreatDoor
open Go.RowKit
set_option linter.unusedVariables false
set_option maxRecDepth 100000

theorem shapesM_row {W : World} (h : laidMetH Tryz.prog [("scholium/term.shapes", Rows.laid_scholium_term_shapes)] W) : ShapesM W := by
  rw [MakeChecks.laidMetH_plain _ _ _ (by kernel_rfl)] at h
  exact shapesM_of h
end Go.Proofs.YtchllgkgjompgaaGreatDoor
