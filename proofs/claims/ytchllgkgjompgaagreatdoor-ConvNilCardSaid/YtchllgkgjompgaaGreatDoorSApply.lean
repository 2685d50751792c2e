/- A term applied to others: term.Apply and the document's Apply. -/
import Derived.Test.YtchllgkgjompgaaGreatDoorR4
import Derived.Test.YtchllgkgjompgaaGreatDoorM4
import Derived.Test.YtchllgkgjompgaaGreatDoorR1
import Derived.Deep.RegionLaw
namespace Go.Proofs.YtchllgkgjompgaaGreatDoor
open Go.RowKit
set_option linter.unusedVariables false
set_option maxRecDepth 100000

end Go.Proofs.YtchllgkgjompgaaGreatDoor
