/- The pieces of token.All: which signs stand in words, blanks, the runs, words and marks with which a text begins. In terms of facts on its bytes; nothing that was there is written. -/
import Derived.Test.YteaojmcfppbgiaaGreatDoorA4
import Derived.Test.YteaojmcfppbgiaaGreatDoorA3
namespace Go.Proofs.YteaojmcfppbgiaaGreatDoor
open Go.RowKit
set_option linter.unusedVariables false

/-! ### blanks -/
/-! ### marks -/
/-! ### words -/
end Go.Proofs.YteaojmcfppbgiaaGreatDoor

/- token.next: the token that begins at an offset: a word, a mark. In terms of facts on the text there; nothing that was there is written. -/
namespace Go.Proofs.YteaojmcfppbgiaaGreatDoor
open Go.RowKit
set_option linter.unusedVariables false

end Go.Proofs.YteaojmcfppbgiaaGreatDoor

/- token.All over a text whose tokens are known one by one: all of them, the end behind, in new memory; nothing that was there is written. -/
namespace Go.Proofs.YteaojmcfppbgiaaGreatDoor
open Go.RowKit
set_option linter.unusedVariables false

end Go.Proofs.YteaojmcfppbgiaaGreatDoor
