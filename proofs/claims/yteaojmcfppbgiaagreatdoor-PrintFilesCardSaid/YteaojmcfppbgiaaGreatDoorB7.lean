/- What token.All hands back, as the tokens of a reader. No program. -/
import Derived.Test.YteaojmcfppbgiaaGreatDoorB6
import Derived.ProofKit
import Derived.BigRegion
namespace Go.Proofs.YteaojmcfppbgiaaGreatDoor
open Go.RowKit
set_option linter.unusedVariables false
set_option maxRecDepth 100000

end Go.Proofs.YteaojmcfppbgiaaGreatDoor

/- parse.read of patterns: a text cut, and read to its end. -/
namespace Go.Proofs.YteaojmcfppbgiaaGreatDoor
open Go.RowKit
set_option linter.unusedVariables false
set_option maxRecDepth 100000

def s0 : St := ⟨0, 0, 0⟩
theorem NodesAt.wide {w : World} {lo hi lo' hi' : Nat} {A : Option Addr} {l : List RT} (h : NodesAt w lo hi A l) (h1 : lo' ≤ lo) (h2 : hi ≤ hi') : NodesAt w lo' hi' A l := by
  intro i hi0
  obtain ⟨b, o, F, C, hA, h3, h4, h5, h6⟩ := h i hi0
  exact ⟨b, o, F, C, hA, by omega, by omega, h5, h6.wide h1 h2⟩

end Go.Proofs.YteaojmcfppbgiaaGreatDoor

/- parse.Pats, parse.read of an expression, parse.Expr: a text cut, and read to its end. -/
namespace Go.Proofs.YteaojmcfppbgiaaGreatDoor
open Go.RowKit
set_option linter.unusedVariables false
set_option maxRecDepth 100000

end Go.Proofs.YteaojmcfppbgiaaGreatDoor

/- parse.Expr: a text that is one expression. -/
namespace Go.Proofs.YteaojmcfppbgiaaGreatDoor
open Go.RowKit
set_option linter.unusedVariables false
set_option maxRecDepth 100000

end Go.Proofs.YteaojmcfppbgiaaGreatDoor

/- Wholes as relations: an expression, patterns; there is one at every state; the program's functions do just this. -/
namespace Go.Proofs.YteaojmcfppbgiaaGreatDoor
open Go.RowKit
set_option linter.unusedVariables false
set_option maxRecDepth 100000

end Go.Proofs.YteaojmcfppbgiaaGreatDoor
