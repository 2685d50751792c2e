import Derived.Test.YtinlmmaokphhbaaGreatDoorS6
import Derived.Test.YtinlmmaokphhbaaGreatDoorR2
import Derived.Test.YtinlmmaokphhbaaGreatDoorTRGood
import Derived.Test.YtinlmmaokphhbaaGreatDoorA3
import Derived.Deep.RegionHeld3
import Derived.RegionTactic
import Derived.LoopTactic
import Derived.Test.YtinlmmaokphhbaaGreatDoorS4
import Derived.Test.YtinlmmaokphhbaaGreatDoorS7
namespace Go.Proofs.YtinlmmaokphhbaaGreatDoor
open Go.RowKit
set_option linter.unusedVariables false
set_option maxRecDepth 100000
def Zyb (t u:TM):Prop:=t=u∨(Zb t=false∧Zb u=false)
theorem Zyb.shaped {t u:TM}(h:Zyb t u):Zb u=Zb t:=by
 rcases h with rfl|⟨h1,h2⟩
 ·rfl
 ·rw[h1,h2]
