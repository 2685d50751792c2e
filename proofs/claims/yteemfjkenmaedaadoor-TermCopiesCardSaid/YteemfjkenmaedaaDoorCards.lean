/-
  DERIVED. GIVEN WITH THE SEED: THE CARDS: each row of YteemfjkenmaedaaDoorRows.lean that lists a variable, with what it lists TIED to the program's text (the seventh form; the later family's looks); each row that meets fmt, with fmt's text TOLD by the authors' own Lean function (tested against real Go, not proved from fmt's source: count such statements apart). THE CARD IS WHAT COUNTS. Prove the row's statement (the work); the ties are given (YteemfjkenmaedaaDoorTie.lean); close each card by the builder's one call (the guide's Derived/Test/ToyasCard.lean, 'card_holds'). Laid BY PROGRAM, IN A SANDBOX (cutbox-door.mjs). By AI agents, Wed Nov 11 2026. No macro, syntax, notation, axiom, sorry.
-/
import Derived.Test.YteemfjkenmaedaaDoorRows
import GoSem.ClaimSeven
namespace Go.Proofs.YteemfjkenmaedaaDoor
namespace Rows

/-- THE TIED CARD OF 'scholiumlaw07.TermNumbers'. -/
def termNumbersCard : Claim7 := { stood := { row := termNumbersRow, standIns := [], harness := (true, "38d9131e21d5a0f48939faeab0717998ca82f225c3bd68f9d8f6f8bc1dab66bf"), looks := false }, kinds := [], alts := [], laidByText := true, laidKinds := [.data], laidTests := true, laidLooks := .later }
def TermNumbersCardSaid : Prop := Claim7.holds Tryd.pinned (.plain (OpenSpec.ofChange termNumbersSpec)) termNumbersCard

/-- THE TIED CARD OF 'scholiumlaw07.TermSames'. -/
def termSamesCard : Claim7 := { stood := { row := termSamesRow, standIns := [], harness := (true, "38d9131e21d5a0f48939faeab0717998ca82f225c3bd68f9d8f6f8bc1dab66bf"), looks := false }, kinds := [], alts := [], laidByText := true, laidKinds := [.data], laidTests := true, laidLooks := .later }
def TermSamesCardSaid : Prop := Claim7.holds Tryd.pinned (.plain (OpenSpec.ofChange termSamesSpec)) termSamesCard

/-- THE TIED CARD OF 'scholiumlaw07.TermMakes'. -/
def termMakesCard : Claim7 := { stood := { row := termMakesRow, standIns := [], harness := (true, "38d9131e21d5a0f48939faeab0717998ca82f225c3bd68f9d8f6f8bc1dab66bf"), looks := false }, kinds := [], alts := [], laidByText := true, laidKinds := [.data], laidTests := true, laidLooks := .later }
def TermMakesCardSaid : Prop := Claim7.holds Tryd.pinned (.plain (OpenSpec.ofChange termMakesSpec)) termMakesCard

/-- THE TIED CARD OF 'scholiumlaw07.TermSpines'. -/
def termSpinesCard : Claim7 := { stood := { row := termSpinesRow, standIns := [], harness := (true, "38d9131e21d5a0f48939faeab0717998ca82f225c3bd68f9d8f6f8bc1dab66bf"), looks := false }, kinds := [], alts := [], laidByText := true, laidKinds := [.data], laidTests := true, laidLooks := .later }
def TermSpinesCardSaid : Prop := Claim7.holds Tryd.pinned (.plain (OpenSpec.ofChange termSpinesSpec)) termSpinesCard

/-- THE TIED CARD OF 'scholiumlaw07.TermLoose'. -/
def termLooseCard : Claim7 := { stood := { row := termLooseRow, standIns := [], harness := (true, "38d9131e21d5a0f48939faeab0717998ca82f225c3bd68f9d8f6f8bc1dab66bf"), looks := false }, kinds := [], alts := [], laidByText := true, laidKinds := [.data], laidTests := true, laidLooks := .later }
def TermLooseCardSaid : Prop := Claim7.holds Tryd.pinned (.plain (OpenSpec.ofChange termLooseSpec)) termLooseCard

/-- THE TIED CARD OF 'scholiumlaw07.TermCopies'. -/
def termCopiesCard : Claim7 := { stood := { row := termCopiesRow, standIns := [], harness := (true, "38d9131e21d5a0f48939faeab0717998ca82f225c3bd68f9d8f6f8bc1dab66bf"), looks := false }, kinds := [], alts := [], laidByText := true, laidKinds := [.data], laidTests := true, laidLooks := .later }
def TermCopiesCardSaid : Prop := Claim7.holds Tryd.pinned (.plain (OpenSpec.ofChange termCopiesSpec)) termCopiesCard

/-- THE TIED CARD OF 'scholiumlaw07.TermLimits'. -/
def termLimitsCard : Claim7 := { stood := { row := termLimitsRow, standIns := [], harness := (true, "38d9131e21d5a0f48939faeab0717998ca82f225c3bd68f9d8f6f8bc1dab66bf"), looks := false }, kinds := [], alts := [], laidByText := true, laidKinds := [.data], laidTests := true, laidLooks := .later }
def TermLimitsCardSaid : Prop := Claim7.holds Tryd.pinned (.plain (OpenSpec.ofChange termLimitsSpec)) termLimitsCard

/-- THE SECOND FORM's CARD OF 'scholiumlaw07.TermNumbers'. -/
def termNumbersUptoCard : Claim7 := { stood := { row := termNumbersUptoRow, standIns := [], harness := (true, "38d9131e21d5a0f48939faeab0717998ca82f225c3bd68f9d8f6f8bc1dab66bf"), looks := false }, kinds := [], alts := [], laidByText := true, laidKinds := [.data], laidTests := true, laidLooks := .later }
def TermNumbersUptoCardSaid : Prop := Claim7.holds Tryd.pinned (.plain (OpenSpec.upto termNumbersSpec)) termNumbersUptoCard

/-- THE SECOND FORM's CARD OF 'scholiumlaw07.TermSames'. -/
def termSamesUptoCard : Claim7 := { stood := { row := termSamesUptoRow, standIns := [], harness := (true, "38d9131e21d5a0f48939faeab0717998ca82f225c3bd68f9d8f6f8bc1dab66bf"), looks := false }, kinds := [], alts := [], laidByText := true, laidKinds := [.data], laidTests := true, laidLooks := .later }
def TermSamesUptoCardSaid : Prop := Claim7.holds Tryd.pinned (.plain (OpenSpec.upto termSamesSpec)) termSamesUptoCard

/-- THE SECOND FORM's CARD OF 'scholiumlaw07.TermMakes'. -/
def termMakesUptoCard : Claim7 := { stood := { row := termMakesUptoRow, standIns := [], harness := (true, "38d9131e21d5a0f48939faeab0717998ca82f225c3bd68f9d8f6f8bc1dab66bf"), looks := false }, kinds := [], alts := [], laidByText := true, laidKinds := [.data], laidTests := true, laidLooks := .later }
def TermMakesUptoCardSaid : Prop := Claim7.holds Tryd.pinned (.plain (OpenSpec.upto termMakesSpec)) termMakesUptoCard

/-- THE SECOND FORM's CARD OF 'scholiumlaw07.TermSpines'. -/
def termSpinesUptoCard : Claim7 := { stood := { row := termSpinesUptoRow, standIns := [], harness := (true, "38d9131e21d5a0f48939faeab0717998ca82f225c3bd68f9d8f6f8bc1dab66bf"), looks := false }, kinds := [], alts := [], laidByText := true, laidKinds := [.data], laidTests := true, laidLooks := .later }
def TermSpinesUptoCardSaid : Prop := Claim7.holds Tryd.pinned (.plain (OpenSpec.upto termSpinesSpec)) termSpinesUptoCard

/-- THE SECOND FORM's CARD OF 'scholiumlaw07.TermLoose'. -/
def termLooseUptoCard : Claim7 := { stood := { row := termLooseUptoRow, standIns := [], harness := (true, "38d9131e21d5a0f48939faeab0717998ca82f225c3bd68f9d8f6f8bc1dab66bf"), looks := false }, kinds := [], alts := [], laidByText := true, laidKinds := [.data], laidTests := true, laidLooks := .later }
def TermLooseUptoCardSaid : Prop := Claim7.holds Tryd.pinned (.plain (OpenSpec.upto termLooseSpec)) termLooseUptoCard

/-- THE SECOND FORM's CARD OF 'scholiumlaw07.TermCopies'. -/
def termCopiesUptoCard : Claim7 := { stood := { row := termCopiesUptoRow, standIns := [], harness := (true, "38d9131e21d5a0f48939faeab0717998ca82f225c3bd68f9d8f6f8bc1dab66bf"), looks := false }, kinds := [], alts := [], laidByText := true, laidKinds := [.data], laidTests := true, laidLooks := .later }
def TermCopiesUptoCardSaid : Prop := Claim7.holds Tryd.pinned (.plain (OpenSpec.upto termCopiesSpec)) termCopiesUptoCard

/-- THE SECOND FORM's CARD OF 'scholiumlaw07.TermLimits'. -/
def termLimitsUptoCard : Claim7 := { stood := { row := termLimitsUptoRow, standIns := [], harness := (true, "38d9131e21d5a0f48939faeab0717998ca82f225c3bd68f9d8f6f8bc1dab66bf"), looks := false }, kinds := [], alts := [], laidByText := true, laidKinds := [.data], laidTests := true, laidLooks := .later }
def TermLimitsUptoCardSaid : Prop := Claim7.holds Tryd.pinned (.plain (OpenSpec.upto termLimitsSpec)) termLimitsUptoCard
end Rows
end Go.Proofs.YteemfjkenmaedaaDoor
