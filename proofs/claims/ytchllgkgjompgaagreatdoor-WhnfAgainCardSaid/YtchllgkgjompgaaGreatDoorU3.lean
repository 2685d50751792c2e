import Derived.Test.YtchllgkgjompgaaGreatDoorM8
import Derived.Test.YtchllgkgjompgaaGreatDoorL2
import Derived.Deep.RegionLaw
import Derived.Deep.RegionHeld3
namespace Go.Proofs.YtchllgkgjompgaaGreatDoor
open Go.RowKit
set_option linter.unusedVariables false
set_option maxRecDepth 100000
end Go.Proofs.YtchllgkgjompgaaGreatDoor
