/- tree.count. -/
import Derived.Test.YteemfjkenmaedaaDoorRose
import Derived.LoopTactic
import Derived.LoopN
import Derived.RegionTactic
namespace Go.Proofs.YteemfjkenmaedaaDoor
open Go.RowKit
set_option linter.unusedVariables false

end Go.Proofs.YteemfjkenmaedaaDoor
