/-
  DERIVED. GIVEN WITH THE SEED: THE CARDS: each row of YtondjkeakfkefaaGreatDoorRows.lean that lists a variable, with what it lists TIED to the program's text (the seventh form; the later family's looks); each row that meets fmt, with fmt's text TOLD by the authors' own Lean function (tested against real Go, not proved from fmt's source: count such statements apart). THE CARD IS WHAT COUNTS. Prove the row's statement (the work); the ties are given (YtondjkeakfkefaaGreatDoorTie.lean); close each card by the builder's one call (the guide's Derived/Test/ToyasCard.lean, 'card_holds'). Laid BY PROGRAM, IN A SANDBOX (cutbox-door.mjs). By AI agents, Wed Nov 11 2026. No macro, syntax, notation, axiom, sorry.
-/
import Derived.Test.YtondjkeakfkefaaGreatDoorRows
import GoSem.ClaimSeven
namespace Go.Proofs.YtondjkeakfkefaaGreatDoor
namespace Rows

/-- THE TIED CARD OF 'scholiumlaw15.NormAgain'. -/
def normAgainCard : Claim7 := { stood := { row := normAgainRow, standIns := [], harness := (true, "92b3f5cb9a4cb670a378abf0591128acb8bc5bc6a637b0b8d400991ebf8b79f0"), looks := false }, kinds := [], alts := [], laidByText := true, laidKinds := [.data], laidTests := true, laidLooks := .later }
def NormAgainCardSaid : Prop := Claim7.holds Tryz.pinned (.plain (OpenSpec.ofChange normAgainSpec)) normAgainCard

/-- THE TIED CARD OF 'scholiumlaw15.NormValues'. -/
def normValuesCard : Claim7 := { stood := { row := normValuesRow, standIns := [], harness := (true, "92b3f5cb9a4cb670a378abf0591128acb8bc5bc6a637b0b8d400991ebf8b79f0"), looks := false }, kinds := [], alts := [], laidByText := true, laidKinds := [.data], laidTests := true, laidLooks := .later }
def NormValuesCardSaid : Prop := Claim7.holds Tryz.pinned (.plain (OpenSpec.ofChange normValuesSpec)) normValuesCard

/-- THE TIED CARD OF 'scholiumlaw15.NormNil'. -/
def normNilCard : Claim7 := { stood := { row := normNilRow, standIns := [], harness := (true, "92b3f5cb9a4cb670a378abf0591128acb8bc5bc6a637b0b8d400991ebf8b79f0"), looks := false }, kinds := [], alts := [], laidByText := true, laidKinds := [.data], laidTests := true, laidLooks := .later }
def NormNilCardSaid : Prop := Claim7.holds Tryz.pinned (.plain (OpenSpec.ofChange normNilSpec)) normNilCard

/-- THE SECOND FORM's CARD OF 'scholiumlaw15.NormAgain'. -/
def normAgainUptoCard : Claim7 := { stood := { row := normAgainUptoRow, standIns := [], harness := (true, "92b3f5cb9a4cb670a378abf0591128acb8bc5bc6a637b0b8d400991ebf8b79f0"), looks := false }, kinds := [], alts := [], laidByText := true, laidKinds := [.data], laidTests := true, laidLooks := .later }
def NormAgainUptoCardSaid : Prop := Claim7.holds Tryz.pinned (.plain (OpenSpec.upto normAgainSpec)) normAgainUptoCard

/-- THE SECOND FORM's CARD OF 'scholiumlaw15.NormValues'. -/
def normValuesUptoCard : Claim7 := { stood := { row := normValuesUptoRow, standIns := [], harness := (true, "92b3f5cb9a4cb670a378abf0591128acb8bc5bc6a637b0b8d400991ebf8b79f0"), looks := false }, kinds := [], alts := [], laidByText := true, laidKinds := [.data], laidTests := true, laidLooks := .later }
def NormValuesUptoCardSaid : Prop := Claim7.holds Tryz.pinned (.plain (OpenSpec.upto normValuesSpec)) normValuesUptoCard

/-- THE SECOND FORM's CARD OF 'scholiumlaw15.NormNil'. -/
def normNilUptoCard : Claim7 := { stood := { row := normNilUptoRow, standIns := [], harness := (true, "92b3f5cb9a4cb670a378abf0591128acb8bc5bc6a637b0b8d400991ebf8b79f0"), looks := false }, kinds := [], alts := [], laidByText := true, laidKinds := [.data], laidTests := true, laidLooks := .later }
def NormNilUptoCardSaid : Prop := Claim7.holds Tryz.pinned (.plain (OpenSpec.upto normNilSpec)) normNilUptoCard
end Rows
end Go.Proofs.YtondjkeakfkefaaGreatDoor
