/- scholiumref01.number tells, of one to four bytes, the sign whose bytes they are, or -1: in terms of 'numV'; nothing that was there is written. -/
import Derived.Test.YtcdblhhieihjlaaRefPut
import Derived.Test.YtcdblhhieihjlaaStr
import Derived.WalkSpells
namespace Go.Proofs.Ytcdblhhieihjlaa
open Go.RowKit
set_option linter.unusedVariables false

end Go.Proofs.Ytcdblhhieihjlaa
