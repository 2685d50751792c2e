/- tree.count. -/
import Derived.Test.YtodmnollgejgeaaDoorRose
import Derived.LoopTactic
import Derived.LoopN
import Derived.RegionTactic
namespace Go.Proofs.YtodmnollgejgeaaDoor
open Go.RowKit
set_option linter.unusedVariables false

end Go.Proofs.YtodmnollgejgeaaDoor
