/-
  DERIVED. GIVEN WITH THE SEED: THE CARDS: each row of YteaojmcfppbgiaaGreatDoorRows.lean that lists a variable, with what it lists TIED to the program's text (the seventh form; the later family's looks); each row that meets fmt, with fmt's text TOLD by the authors' own Lean function (tested against real Go, not proved from fmt's source: count such statements apart). THE CARD IS WHAT COUNTS. Prove the row's statement (the work); the ties are given (YteaojmcfppbgiaaGreatDoorTie.lean); close each card by the builder's one call (the guide's Derived/Test/ToyasCard.lean, 'card_holds'). Laid BY PROGRAM, IN A SANDBOX (cutbox-door.mjs). By AI agents, Wed Nov 11 2026. No macro, syntax, notation, axiom, sorry.
-/
import Derived.Test.YteaojmcfppbgiaaGreatDoorRows
import GoSem.ClaimSeven
namespace Go.Proofs.YteaojmcfppbgiaaGreatDoor
namespace Rows

/-- THE TIED CARD OF 'scholiumlaw06.PrintFiles'. -/
def printFilesCard : Claim7 := { stood := { row := printFilesRow, standIns := [], harness := (true, "e05aaf12ad46526858270c88c401610169e84bd4705ba8c28aa95a2f2049fac7"), looks := false }, kinds := [], alts := [], laidByText := true, laidKinds := [.data, .data, .data, .data, .data, .data, .data], laidTests := true, laidLooks := .later }
def PrintFilesCardSaid : Prop := Claim7.holds Tryz.pinned (.plain (OpenSpec.ofChange printFilesSpec)) printFilesCard

/-- THE TIED CARD OF 'scholiumlaw06.PrintBack'. -/
def printBackCard : Claim7 := { stood := { row := printBackRow, standIns := [], harness := (true, "e05aaf12ad46526858270c88c401610169e84bd4705ba8c28aa95a2f2049fac7"), looks := false }, kinds := [], alts := [], laidByText := true, laidKinds := [.data, .data, .data, .data, .data, .data, .data], laidTests := true, laidLooks := .later }
def PrintBackCardSaid : Prop := Claim7.holds Tryz.pinned (.plain (OpenSpec.ofChange printBackSpec)) printBackCard

/-- THE TIED CARD OF 'scholiumlaw06.PrintOnce'. -/
def printOnceCard : Claim7 := { stood := { row := printOnceRow, standIns := [], harness := (true, "e05aaf12ad46526858270c88c401610169e84bd4705ba8c28aa95a2f2049fac7"), looks := false }, kinds := [], alts := [], laidByText := true, laidKinds := [.data, .data, .data, .data, .data, .data, .data], laidTests := true, laidLooks := .later }
def PrintOnceCardSaid : Prop := Claim7.holds Tryz.pinned (.plain (OpenSpec.ofChange printOnceSpec)) printOnceCard

/-- THE SECOND FORM's CARD OF 'scholiumlaw06.PrintFiles'. -/
def printFilesUptoCard : Claim7 := { stood := { row := printFilesUptoRow, standIns := [], harness := (true, "e05aaf12ad46526858270c88c401610169e84bd4705ba8c28aa95a2f2049fac7"), looks := false }, kinds := [], alts := [], laidByText := true, laidKinds := [.data, .data, .data, .data, .data, .data, .data], laidTests := true, laidLooks := .later }
def PrintFilesUptoCardSaid : Prop := Claim7.holds Tryz.pinned (.plain (OpenSpec.upto printFilesSpec)) printFilesUptoCard

/-- THE SECOND FORM's CARD OF 'scholiumlaw06.PrintBack'. -/
def printBackUptoCard : Claim7 := { stood := { row := printBackUptoRow, standIns := [], harness := (true, "e05aaf12ad46526858270c88c401610169e84bd4705ba8c28aa95a2f2049fac7"), looks := false }, kinds := [], alts := [], laidByText := true, laidKinds := [.data, .data, .data, .data, .data, .data, .data], laidTests := true, laidLooks := .later }
def PrintBackUptoCardSaid : Prop := Claim7.holds Tryz.pinned (.plain (OpenSpec.upto printBackSpec)) printBackUptoCard

/-- THE SECOND FORM's CARD OF 'scholiumlaw06.PrintOnce'. -/
def printOnceUptoCard : Claim7 := { stood := { row := printOnceUptoRow, standIns := [], harness := (true, "e05aaf12ad46526858270c88c401610169e84bd4705ba8c28aa95a2f2049fac7"), looks := false }, kinds := [], alts := [], laidByText := true, laidKinds := [.data, .data, .data, .data, .data, .data, .data], laidTests := true, laidLooks := .later }
def PrintOnceUptoCardSaid : Prop := Claim7.holds Tryz.pinned (.plain (OpenSpec.upto printOnceSpec)) printOnceUptoCard
end Rows
end Go.Proofs.YteaojmcfppbgiaaGreatDoor
