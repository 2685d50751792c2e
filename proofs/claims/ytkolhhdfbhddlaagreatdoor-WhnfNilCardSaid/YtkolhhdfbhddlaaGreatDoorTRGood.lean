/- scholiumref07.good, scholiumref07.Shaped: the document's rule, for every term. -/
import Derived.Test.YtkolhhdfbhddlaaGreatDoorM2
import Derived.Test.YtkolhhdfbhddlaaGreatDoorM6
namespace Go.Proofs.YtkolhhdfbhddlaaGreatDoor
open Go.RowKit
set_option linter.unusedVariables false
set_option maxRecDepth 100000

end Go.Proofs.YtkolhhdfbhddlaaGreatDoor
