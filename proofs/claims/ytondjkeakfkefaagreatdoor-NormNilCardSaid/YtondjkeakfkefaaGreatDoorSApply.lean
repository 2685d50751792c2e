/- A term applied to others: term.Apply and the document's Apply. -/
import Derived.Test.YtondjkeakfkefaaGreatDoorR4
import Derived.Test.YtondjkeakfkefaaGreatDoorM4
import Derived.Test.YtondjkeakfkefaaGreatDoorR1
import Derived.Deep.RegionLaw
namespace Go.Proofs.YtondjkeakfkefaaGreatDoor
open Go.RowKit
set_option linter.unusedVariables false
set_option maxRecDepth 100000

end Go.Proofs.YtondjkeakfkefaaGreatDoor
