/- A text given as its tokens with any blanks behind each: it is cut into just these. No program. -/
import Derived.Test.YteaojmcfppbgiaaGreatDoorD4
import Derived.Test.YteaojmcfppbgiaaGreatDoorC3
import Derived.Test.YteaojmcfppbgiaaGreatDoorD1
namespace Go.Proofs.YteaojmcfppbgiaaGreatDoor
open Go.RowKit
set_option linter.unusedVariables false
set_option maxRecDepth 100000

end Go.Proofs.YteaojmcfppbgiaaGreatDoor

/- The pieces of what is typed, bound, a constructor, a row, a declaration; that they are read back. -/
namespace Go.Proofs.YteaojmcfppbgiaaGreatDoor
open Go.RowKit
set_option linter.unusedVariables false
set_option maxRecDepth 100000

/-! ### items, each with a semicolon behind it -/
end Go.Proofs.YteaojmcfppbgiaaGreatDoor

/- The pieces of a row, of a declaration, of a file; that they are read back. -/
namespace Go.Proofs.YteaojmcfppbgiaaGreatDoor
open Go.RowKit
set_option linter.unusedVariables false
set_option maxRecDepth 100000

end Go.Proofs.YteaojmcfppbgiaaGreatDoor

/- The pieces of a declaration, of a file; that they are read back. -/
namespace Go.Proofs.YteaojmcfppbgiaaGreatDoor
open Go.RowKit
set_option linter.unusedVariables false
set_option maxRecDepth 100000

end Go.Proofs.YteaojmcfppbgiaaGreatDoor

/- A declaration's printed text is its pieces'; it is cut into just these. No program. -/
namespace Go.Proofs.YteaojmcfppbgiaaGreatDoor
open Go.RowKit
set_option linter.unusedVariables false
set_option maxRecDepth 100000

/-! ### cutting -/
end Go.Proofs.YteaojmcfppbgiaaGreatDoor
