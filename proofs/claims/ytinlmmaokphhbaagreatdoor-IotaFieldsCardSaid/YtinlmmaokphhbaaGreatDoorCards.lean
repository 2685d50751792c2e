/-
  DERIVED. GIVEN WITH THE SEED: THE CARDS: each row of YtinlmmaokphhbaaGreatDoorRows.lean that lists a variable, with what it lists TIED to the program's text (the seventh form; the later family's looks); each row that meets fmt, with fmt's text TOLD by the authors' own Lean function (tested against real Go, not proved from fmt's source: count such statements apart). THE CARD IS WHAT COUNTS. Prove the row's statement (the work); the ties are given (YtinlmmaokphhbaaGreatDoorTie.lean); close each card by the builder's one call (the guide's Derived/Test/ToyasCard.lean, 'card_holds'). Laid BY PROGRAM, IN A SANDBOX (cutbox-door.mjs). By AI agents, Wed Nov 11 2026. No macro, syntax, notation, axiom, sorry.
-/
import Derived.Test.YtinlmmaokphhbaaGreatDoorRows
import GoSem.ClaimSeven
namespace Go.Proofs.YtinlmmaokphhbaaGreatDoor
namespace Rows

/-- THE TIED CARD OF 'scholiumlaw13.IotaFields'. -/
def iotaFieldsCard : Claim7 := { stood := { row := iotaFieldsRow, standIns := [], harness := (true, "1a573d22eba2312d1d2b50d4edf7fb71238c7bdcaa31173139e1f7fc06c1b367"), looks := false }, kinds := [], alts := [], laidByText := true, laidKinds := [.data], laidTests := true, laidLooks := .later }
def IotaFieldsCardSaid : Prop := Claim7.holds Tryz.pinned (.plain (OpenSpec.ofChange iotaFieldsSpec)) iotaFieldsCard

/-- THE SECOND FORM's CARD OF 'scholiumlaw13.IotaFields'. -/
def iotaFieldsUptoCard : Claim7 := { stood := { row := iotaFieldsUptoRow, standIns := [], harness := (true, "1a573d22eba2312d1d2b50d4edf7fb71238c7bdcaa31173139e1f7fc06c1b367"), looks := false }, kinds := [], alts := [], laidByText := true, laidKinds := [.data], laidTests := true, laidLooks := .later }
def IotaFieldsUptoCardSaid : Prop := Claim7.holds Tryz.pinned (.plain (OpenSpec.upto iotaFieldsSpec)) iotaFieldsUptoCard
end Rows
end Go.Proofs.YtinlmmaokphhbaaGreatDoor
