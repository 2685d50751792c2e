/- parse.read of declarations, parse.File: a text cut, and read to its end. -/
import Derived.Test.YteaojmcfppbgiaaGreatDoorC2
import Derived.Test.YteaojmcfppbgiaaGreatDoorB7
import Derived.BigRegion
import Derived.Test.YteaojmcfppbgiaaGreatDoorB8
namespace Go.Proofs.YteaojmcfppbgiaaGreatDoor
open Go.RowKit
set_option linter.unusedVariables false
set_option maxRecDepth 100000

theorem DeclsAt.wide {w : World} {lo hi lo' hi' : Nat} {A : Option Addr} {l : List DT} (h : DeclsAt w lo hi A l) (h1 : lo' ≤ lo) (h2 : hi ≤ hi') : DeclsAt w lo' hi' A l := by
  intro i hi0
  obtain ⟨b, o, p, hA, h3, h4, h5, h6⟩ := h i hi0
  exact ⟨b, o, p, hA, by omega, by omega, h5, h6.to (fun _ _ _ _ => rfl) (fun b h1 h2 => ⟨by omega, by omega⟩)⟩

end Go.Proofs.YteaojmcfppbgiaaGreatDoor

/- What a file's declarations are, as relations over the tokens: the program's functions do just this; there is one at every state; tokens of the same kinds and texts give the same but for offsets. -/
namespace Go.Proofs.YteaojmcfppbgiaaGreatDoor
open Go.RowKit
set_option linter.unusedVariables false
set_option maxRecDepth 100000

section
variable {L : List Tk} {s s' : St} (r g cap : Nat)
end
/-! ### there is one at every state -/
section
variable {L : List Tk} (hL : EndAt L)
include hL
omit hL in
end

/-! ### tokens of the same kinds and texts -/
inductive All2 {α : Type} (E : α → α → Prop) : List α → List α → Prop
  | nil : All2 E [] []
  | cons {x y : α} {l l' : List α} : E x y → All2 E l l' → All2 E (x :: l) (y :: l')
theorem All2.length {α : Type} {E : α → α → Prop} {l l' : List α} (h : All2 E l l') : l.length = l'.length := by
  induction h with
  | nil => rfl
  | cons _ _ ih => simp [ih]
section
variable {L M : List Tk} (hS : SameTk L M)
include hS
end

end Go.Proofs.YteaojmcfppbgiaaGreatDoor
