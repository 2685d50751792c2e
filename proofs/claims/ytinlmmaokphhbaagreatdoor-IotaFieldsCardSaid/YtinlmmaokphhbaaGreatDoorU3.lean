import Derived.Test.YtinlmmaokphhbaaGreatDoorM8
import Derived.Test.YtinlmmaokphhbaaGreatDoorL2
import Derived.Deep.RegionLaw
import Derived.Deep.RegionHeld3
namespace Go.Proofs.YtinlmmaokphhbaaGreatDoor
open Go.RowKit
set_option linter.unusedVariables false
set_option maxRecDepth 100000
abbrev GP:=TM×Option Addr×Nat×Bool
def Z23 (p:GP):TM×Option Addr×Nat:=(p.1,p.2.1,p.2.2.1)
def Z8s (p:GP):Value:= .agg #[.int .i64 p.1.k,.int .i64 p.1.n,.slice p.2.1 p.1.l.length p.2.2.1,.bool p.2.2.2]
def Zor (u:TM)(lo:Nat)(w:World)(e:Ending)(w':World):Prop:=
 ∃p:GP,e= .returned (Z8s p)∧Za w' lo w'.heap.size p.1 p.2.1 p.2.2.1∧Below w.heap.size w w'∧Z75 u p.1 p.2.2.2
theorem map_take {ps:List GP}{i:Nat}(h:i<ps.length):(ps.take (i+1)).map Z23=(ps.take i).map Z23++[Z23 ps[i]]:=by
 rw[List.take_succ_eq_append_getElem h,List.map_append];rfl
theorem Zor.over {u:TM}{lo lo':Nat}{w w0:World}{e:Ending}{w':World}(h:Zor u lo w e w')(hb:Below w0.heap.size w0 w)(hl:lo'≤lo):Zor u lo' w0 e w':=by
 obtain⟨p,h1,h2,h3,h4⟩:=h;exact⟨p,h1,h2.wide hl (Nat.le_refl _),hb.trans (h3.mono hb.size),h4⟩
