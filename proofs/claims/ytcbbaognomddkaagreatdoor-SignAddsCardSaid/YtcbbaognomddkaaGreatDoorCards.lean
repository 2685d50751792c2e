/-
  DERIVED. GIVEN WITH THE SEED: THE CARDS: each row of YtcbbaognomddkaaGreatDoorRows.lean that lists a variable, with what it lists TIED to the program's text (the seventh form; the later family's looks); each row that meets fmt, with fmt's text TOLD by the authors' own Lean function (tested against real Go, not proved from fmt's source: count such statements apart). THE CARD IS WHAT COUNTS. Prove the row's statement (the work); the ties are given (YtcbbaognomddkaaGreatDoorTie.lean); close each card by the builder's one call (the guide's Derived/Test/ToyasCard.lean, 'card_holds'). Laid BY PROGRAM, IN A SANDBOX (cutbox-door.mjs). By AI agents, Wed Nov 11 2026. No macro, syntax, notation, axiom, sorry.
-/
import Derived.Test.YtcbbaognomddkaaGreatDoorRows
import GoSem.ClaimSeven
namespace Go.Proofs.YtcbbaognomddkaaGreatDoor
namespace Rows

/-- THE TIED CARD OF 'scholiumlaw12.SignAdds'. -/
def signAddsCard : Claim7 := { stood := { row := signAddsRow, standIns := [], harness := (true, "35c732a149ce8b4fb444e4457411b389e73c6a2323bd48ca05728ec900a8730a"), looks := false }, kinds := [], alts := [], laidByText := true, laidKinds := [.data], laidTests := true, laidLooks := .later }
def SignAddsCardSaid : Prop := Claim7.holds Tryz.pinned (.plain (OpenSpec.ofChange signAddsSpec)) signAddsCard

/-- THE TIED CARD OF 'scholiumlaw12.SignBegins'. -/
def signBeginsCard : Claim7 := { stood := { row := signBeginsRow, standIns := [], harness := (true, "35c732a149ce8b4fb444e4457411b389e73c6a2323bd48ca05728ec900a8730a"), looks := false }, kinds := [], alts := [], laidByText := true, laidKinds := [.data], laidTests := true, laidLooks := .later }
def SignBeginsCardSaid : Prop := Claim7.holds Tryz.pinned (.plain (OpenSpec.ofChange signBeginsSpec)) signBeginsCard

/-- THE SECOND FORM's CARD OF 'scholiumlaw12.SignAdds'. -/
def signAddsUptoCard : Claim7 := { stood := { row := signAddsUptoRow, standIns := [], harness := (true, "35c732a149ce8b4fb444e4457411b389e73c6a2323bd48ca05728ec900a8730a"), looks := false }, kinds := [], alts := [], laidByText := true, laidKinds := [.data], laidTests := true, laidLooks := .later }
def SignAddsUptoCardSaid : Prop := Claim7.holds Tryz.pinned (.plain (OpenSpec.upto signAddsSpec)) signAddsUptoCard

/-- THE SECOND FORM's CARD OF 'scholiumlaw12.SignBegins'. -/
def signBeginsUptoCard : Claim7 := { stood := { row := signBeginsUptoRow, standIns := [], harness := (true, "35c732a149ce8b4fb444e4457411b389e73c6a2323bd48ca05728ec900a8730a"), looks := false }, kinds := [], alts := [], laidByText := true, laidKinds := [.data], laidTests := true, laidLooks := .later }
def SignBeginsUptoCardSaid : Prop := Claim7.holds Tryz.pinned (.plain (OpenSpec.upto signBeginsSpec)) signBeginsUptoCard
end Rows
end Go.Proofs.YtcbbaognomddkaaGreatDoor
