/- The document's texts of expressions and patterns: scholiumref06.Expr, inner, Pattern, Number. -/
import Derived.Test.YteaojmcfppbgiaaGreatDoorD3
import Derived.Test.YteaojmcfppbgiaaGreatDoorA4
import Derived.Deep.RegionHeld3
import Derived.LoopTactic
import Derived.LoopN
namespace Go.Proofs.YteaojmcfppbgiaaGreatDoor
open Go.RowKit
set_option linter.unusedVariables false
set_option maxRecDepth 100000

def baX (X : Tx) : ByteArray := ⟨X.toArray⟩
def StrIs (R : ByteArray) (w : World) (e : Ending) (w' : World) : Prop := e = .returned (.string R) ∧ Below w.heap.size w w'
end Go.Proofs.YteaojmcfppbgiaaGreatDoor

/- The document's text of a pattern: scholiumref06.Pattern. -/
namespace Go.Proofs.YteaojmcfppbgiaaGreatDoor
open Go.RowKit
set_option linter.unusedVariables false
set_option maxRecDepth 100000

end Go.Proofs.YteaojmcfppbgiaaGreatDoor
