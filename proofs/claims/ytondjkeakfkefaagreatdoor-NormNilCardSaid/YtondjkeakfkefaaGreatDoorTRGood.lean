/- scholiumref07.good, scholiumref07.Shaped: the document's rule, for every term. -/
import Derived.Test.YtondjkeakfkefaaGreatDoorM2
import Derived.Test.YtondjkeakfkefaaGreatDoorM6
namespace Go.Proofs.YtondjkeakfkefaaGreatDoor
open Go.RowKit
set_option linter.unusedVariables false
set_option maxRecDepth 100000

end Go.Proofs.YtondjkeakfkefaaGreatDoor
