/- parse: a node as a result; what a level, an atom comes to. The reader alone is written. -/
import Derived.Test.YteaojmcfppbgiaaGreatDoorB3
import Derived.ProofKit
import Derived.Deep.RegionHeld3
namespace Go.Proofs.YteaojmcfppbgiaaGreatDoor
open Go.RowKit
set_option linter.unusedVariables false
set_option maxRecDepth 100000

theorem Bk.c5 {w : World} {g : Nat} {e : TypeId} {c0 c1 c2 c3 c4 : Value} (h : Bk w g e #[c0, c1, c2, c3, c4]) :
    w.cell? ⟨g, 0, none⟩ = some c0 ∧ w.cell? ⟨g, 1, none⟩ = some c1 ∧ w.cell? ⟨g, 2, none⟩ = some c2 ∧ w.cell? ⟨g, 3, none⟩ = some c3 ∧ w.cell? ⟨g, 4, none⟩ = some c4 :=
  ⟨h.cell 0, h.cell 1, h.cell 2, h.cell 3, h.cell 4⟩
theorem Bk.c3 {w : World} {g : Nat} {e : TypeId} {c0 c1 c2 : Value} (h : Bk w g e #[c0, c1, c2]) :
    w.cell? ⟨g, 0, none⟩ = some c0 ∧ w.cell? ⟨g, 1, none⟩ = some c1 ∧ w.cell? ⟨g, 2, none⟩ = some c2 := ⟨h.cell 0, h.cell 1, h.cell 2⟩
def five (w : World) (g : Nat) (v0 v1 v2 v3 v4 : Value) : World := ((((w.setCell ⟨g, 0, none⟩ v0).setCell ⟨g, 1, none⟩ v1).setCell ⟨g, 2, none⟩ v2).setCell ⟨g, 3, none⟩ v3).setCell ⟨g, 4, none⟩ v4
/-- The level that is read, and how. -/
def LevelR (L : List Tk) (s : St) (v : Nat) (s' : St) : Prop :=
  ∃ M B, IsNum (bytesL (tk L s.k).2.1) M B ∧ ((B = true ∧ M ≤ 7 ∧ M = v ∧ stepS L s = s') ∨ (¬ (B = true ∧ M ≤ 7) ∧ v = 0 ∧ s = s'))
theorem level_ex (L : List Tk) (s : St) : ∃ v s', LevelR L s v s' := by
  obtain ⟨M, B, h⟩ := isNum_ex (bytesL (tk L s.k).2.1)
  by_cases hb : B = true ∧ M ≤ 7
  · exact ⟨_, _, M, B, h, .inl ⟨hb.1, hb.2, rfl, rfl⟩⟩
  · exact ⟨_, _, M, B, h, .inr ⟨hb, rfl, rfl⟩⟩
end Go.Proofs.YteaojmcfppbgiaaGreatDoor

/- parse: an atom in parentheses. -/
namespace Go.Proofs.YteaojmcfppbgiaaGreatDoor
open Go.RowKit
set_option linter.unusedVariables false
set_option maxRecDepth 100000

end Go.Proofs.YteaojmcfppbgiaaGreatDoor

/- parse: a pattern that is a name, _, one in parentheses, none; what stands in parentheses. -/
namespace Go.Proofs.YteaojmcfppbgiaaGreatDoor
open Go.RowKit
set_option linter.unusedVariables false
set_option maxRecDepth 100000

end Go.Proofs.YteaojmcfppbgiaaGreatDoor

/- parse: what stands in parentheses, as a pattern. -/
namespace Go.Proofs.YteaojmcfppbgiaaGreatDoor
open Go.RowKit
set_option linter.unusedVariables false
set_option maxRecDepth 100000

end Go.Proofs.YteaojmcfppbgiaaGreatDoor

/- parse: a node whose Subs are one, two nodes just made; a forced pattern. -/
namespace Go.Proofs.YteaojmcfppbgiaaGreatDoor
open Go.RowKit
set_option linter.unusedVariables false
set_option maxRecDepth 100000

end Go.Proofs.YteaojmcfppbgiaaGreatDoor

/- parse: the type of functions between two expressions. -/
namespace Go.Proofs.YteaojmcfppbgiaaGreatDoor
open Go.RowKit
set_option linter.unusedVariables false
set_option maxRecDepth 100000

end Go.Proofs.YteaojmcfppbgiaaGreatDoor

/- parse: an expression that is a function, a type of functions, an application alone. -/
namespace Go.Proofs.YteaojmcfppbgiaaGreatDoor
open Go.RowKit
set_option linter.unusedVariables false
set_option maxRecDepth 100000

end Go.Proofs.YteaojmcfppbgiaaGreatDoor
