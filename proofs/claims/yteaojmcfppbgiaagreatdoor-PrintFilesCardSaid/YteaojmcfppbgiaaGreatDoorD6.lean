/- What is right has pieces. No program. -/
import Derived.Test.YteaojmcfppbgiaaGreatDoorD5
import Derived.Test.YteaojmcfppbgiaaGreatDoorFitD
namespace Go.Proofs.YteaojmcfppbgiaaGreatDoor
open Go.RowKit
set_option linter.unusedVariables false
set_option maxRecDepth 100000

/-! ### declarations -/
end Go.Proofs.YteaojmcfppbgiaaGreatDoor

/- What parse says of a printed text. No walk. -/
namespace Go.Proofs.YteaojmcfppbgiaaGreatDoor
open Go.RowKit
set_option linter.unusedVariables false
set_option maxRecDepth 100000

end Go.Proofs.YteaojmcfppbgiaaGreatDoor

/- How many pieces a printed text has; what token.All says of one that has too many. No walk. -/
namespace Go.Proofs.YteaojmcfppbgiaaGreatDoor
open Go.RowKit
set_option linter.unusedVariables false
set_option maxRecDepth 100000

end Go.Proofs.YteaojmcfppbgiaaGreatDoor

/- Printed texts don't look at offsets. No program. -/
namespace Go.Proofs.YteaojmcfppbgiaaGreatDoor
open Go.RowKit
set_option linter.unusedVariables false
set_option maxRecDepth 100000

end Go.Proofs.YteaojmcfppbgiaaGreatDoor

/- What was read without fault is right. No program. -/
namespace Go.Proofs.YteaojmcfppbgiaaGreatDoor
open Go.RowKit
set_option linter.unusedVariables false
set_option maxRecDepth 100000

end Go.Proofs.YteaojmcfppbgiaaGreatDoor

/- What was read without fault is right: declarations; the names of a text's tokens. No program. -/
namespace Go.Proofs.YteaojmcfppbgiaaGreatDoor
open Go.RowKit
set_option linter.unusedVariables false
set_option maxRecDepth 100000

end Go.Proofs.YteaojmcfppbgiaaGreatDoor
