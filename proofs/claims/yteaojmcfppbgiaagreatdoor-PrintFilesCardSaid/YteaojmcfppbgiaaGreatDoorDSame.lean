/- tree.SameDecl. -/
import Derived.Test.YteaojmcfppbgiaaGreatDoorC4
namespace Go.Proofs.YteaojmcfppbgiaaGreatDoor
open Go.RowKit
set_option linter.unusedVariables false
set_option maxRecDepth 100000

end Go.Proofs.YteaojmcfppbgiaaGreatDoor
