/- A term applied to others: term.Apply and the document's Apply. -/
import Derived.Test.YtkolhhdfbhddlaaGreatDoorR4
import Derived.Test.YtkolhhdfbhddlaaGreatDoorM4
import Derived.Test.YtkolhhdfbhddlaaGreatDoorR1
import Derived.Deep.RegionLaw
namespace Go.Proofs.YtkolhhdfbhddlaaGreatDoor
open Go.RowKit
set_option linter.unusedVariables false
set_option maxRecDepth 100000

end Go.Proofs.YtkolhhdfbhddlaaGreatDoor
