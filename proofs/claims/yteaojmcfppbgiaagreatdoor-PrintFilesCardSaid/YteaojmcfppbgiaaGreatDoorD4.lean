/- A text given as its tokens, whatever signs its names have, with blanks behind each: it is cut into just these. No program. -/
import Derived.Test.YteaojmcfppbgiaaGreatDoorB8
import Derived.Test.YteaojmcfppbgiaaGreatDoorC8
import Derived.Test.YteaojmcfppbgiaaGreatDoorD1
namespace Go.Proofs.YteaojmcfppbgiaaGreatDoor
open Go.RowKit
set_option linter.unusedVariables false
set_option maxRecDepth 100000

end Go.Proofs.YteaojmcfppbgiaaGreatDoor

/- An expression's printed text, as pieces; that it is read back as the expression, but for offsets. No program but what Rel names. -/
namespace Go.Proofs.YteaojmcfppbgiaaGreatDoor
open Go.RowKit
set_option linter.unusedVariables false
set_option maxRecDepth 100000

/-! ### reading -/
def At (L : List Tk) (k : Nat) (P : List Pc) : Prop := ∀ i (h : i < P.length), (tk L (k + i)).1 = P[i].1 ∧ (tk L (k + i)).2.1 = P[i].2.1
end Go.Proofs.YteaojmcfppbgiaaGreatDoor

/- An expression's printed text is its pieces'; it is cut into just these. No program. -/
namespace Go.Proofs.YteaojmcfppbgiaaGreatDoor
open Go.RowKit
set_option linter.unusedVariables false
set_option maxRecDepth 100000

/-! ### cutting -/
end Go.Proofs.YteaojmcfppbgiaaGreatDoor

/- A pattern's printed text, as pieces; that it is read back as the pattern, but for offsets. -/
namespace Go.Proofs.YteaojmcfppbgiaaGreatDoor
open Go.RowKit
set_option linter.unusedVariables false
set_option maxRecDepth 100000

/-! ### text -/
end Go.Proofs.YteaojmcfppbgiaaGreatDoor
