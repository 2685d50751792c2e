/- scholiumref07.good, scholiumref07.Shaped: the document's rule, for every term. -/
import Derived.Test.YtchllgkgjompgaaGreatDoorM2
import Derived.Test.YtchllgkgjompgaaGreatDoorM6
namespace Go.Proofs.YtchllgkgjompgaaGreatDoor
open Go.RowKit
set_option linter.unusedVariables false
set_option maxRecDepth 100000

end Go.Proofs.YtchllgkgjompgaaGreatDoor
