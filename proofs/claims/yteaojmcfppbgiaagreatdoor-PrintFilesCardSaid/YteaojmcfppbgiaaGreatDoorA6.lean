/- Words of a text as plain functions on its bytes: remarks, blanks, how far they go. No program. -/
import Derived.Test.YteaojmcfppbgiaaGreatDoorA4
import Derived.Test.YteaojmcfppbgiaaGreatDoorA3
import Derived.Test.YteaojmcfppbgiaaGreatDoorA5
import Derived.Lib.IndexLaws
import Derived.RegionTactic
import Derived.WalkMore
import Derived.Deep.QuietTactic
import Derived.BigQuiet
namespace Go.Proofs.YteaojmcfppbgiaaGreatDoor
open Go.RowKit
set_option linter.unusedVariables false

end Go.Proofs.YteaojmcfppbgiaaGreatDoor

/- token.remark, token.gap and token.skip over any text: how far remarks and blanks go. Nothing that was there is written. -/
namespace Go.Proofs.YteaojmcfppbgiaaGreatDoor
open Go.RowKit Go.Shelf
set_option linter.unusedVariables false

/-! ### a remark in braces -/
/-! ### a line -/
end Go.Proofs.YteaojmcfppbgiaaGreatDoor

/- token.mark, token.word, token.next over any text. Nothing that was there is written. -/
namespace Go.Proofs.YteaojmcfppbgiaaGreatDoor
open Go.RowKit
set_option linter.unusedVariables false

/-! ### words -/
/-! ### marks -/
end Go.Proofs.YteaojmcfppbgiaaGreatDoor

/- token.next over any text, at any place; token.All over any text: its tokens, or the first error that shows, and its offset. Nothing that was there is written. -/
namespace Go.Proofs.YteaojmcfppbgiaaGreatDoor
open Go.RowKit
set_option linter.unusedVariables false

end Go.Proofs.YteaojmcfppbgiaaGreatDoor

/- token.All over any text: its tokens, or the first error that shows, and its offset. Nothing that was there is written. -/
namespace Go.Proofs.YteaojmcfppbgiaaGreatDoor
open Go.RowKit
set_option linter.unusedVariables false

end Go.Proofs.YteaojmcfppbgiaaGreatDoor

/- A token's text, with a blank behind it, is that token again; blanks and remarks between tokens are skipped. No walk. -/
namespace Go.Proofs.YteaojmcfppbgiaaGreatDoor
open Go.RowKit
set_option linter.unusedVariables false
set_option maxRecDepth 100000

end Go.Proofs.YteaojmcfppbgiaaGreatDoor
