/-
  DERIVED. GIVEN WITH THE SEED: THE CARDS: each row of YtlolonhknfimeaaDoorRows.lean that lists a variable, with what it lists TIED to the program's text (the seventh form; the later family's looks); each row that meets fmt, with fmt's text TOLD by the authors' own Lean function (tested against real Go, not proved from fmt's source: count such statements apart). THE CARD IS WHAT COUNTS. Prove the row's statement (the work); the ties are given (YtlolonhknfimeaaDoorTie.lean); close each card by the builder's one call (the guide's Derived/Test/ToyasCard.lean, 'card_holds'). Laid BY PROGRAM, IN A SANDBOX (cutbox-door.mjs). By AI agents, Wed Nov 11 2026. No macro, syntax, notation, axiom, sorry.
-/
import Derived.Test.YtlolonhknfimeaaDoorRows
import GoSem.ClaimSeven
namespace Go.Proofs.YtlolonhknfimeaaDoor
namespace Rows

/-- THE TIED CARD OF 'scholiumlaw11.MeterNil'. -/
def meterNilCard : Claim7 := { stood := { row := meterNilRow, standIns := [], harness := (true, "5d643a089afb93061bb2cc37d891a8e56dcf8e55386bb2ed8bd1a5de20f61d35"), looks := false }, kinds := [], alts := [], laidByText := true, laidKinds := [.data], laidTests := true, laidLooks := .later }
def MeterNilCardSaid : Prop := Claim7.holds Tryd.pinned (.plain (OpenSpec.ofChange meterNilSpec)) meterNilCard

/-- THE SECOND FORM's CARD OF 'scholiumlaw11.MeterNil'. -/
def meterNilUptoCard : Claim7 := { stood := { row := meterNilUptoRow, standIns := [], harness := (true, "5d643a089afb93061bb2cc37d891a8e56dcf8e55386bb2ed8bd1a5de20f61d35"), looks := false }, kinds := [], alts := [], laidByText := true, laidKinds := [.data], laidTests := true, laidLooks := .later }
def MeterNilUptoCardSaid : Prop := Claim7.holds Tryd.pinned (.plain (OpenSpec.upto meterNilSpec)) meterNilUptoCard
end Rows
end Go.Proofs.YtlolonhknfimeaaDoor
