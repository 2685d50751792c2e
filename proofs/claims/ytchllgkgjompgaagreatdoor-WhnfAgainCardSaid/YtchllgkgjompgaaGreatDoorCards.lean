/-
  DERIVED. GIVEN WITH THE SEED: THE CARDS: each row of YtchllgkgjompgaaGreatDoorRows.lean that lists a variable, with what it lists TIED to the program's text (the seventh form; the later family's looks); each row that meets fmt, with fmt's text TOLD by the authors' own Lean function (tested against real Go, not proved from fmt's source: count such statements apart). THE CARD IS WHAT COUNTS. Prove the row's statement (the work); the ties are given (YtchllgkgjompgaaGreatDoorTie.lean); close each card by the builder's one call (the guide's Derived/Test/ToyasCard.lean, 'card_holds'). Laid BY PROGRAM, IN A SANDBOX (cutbox-door.mjs). By AI agents, Wed Nov 11 2026. No macro, syntax, notation, axiom, sorry.
-/
import Derived.Test.YtchllgkgjompgaaGreatDoorRows
import GoSem.ClaimSeven
namespace Go.Proofs.YtchllgkgjompgaaGreatDoor
namespace Rows

/-- THE TIED CARD OF 'scholiumlaw16.ConvSelf'. -/
def convSelfCard : Claim7 := { stood := { row := convSelfRow, standIns := [], harness := (true, "e07f03c6770bb40b8bddc7b48363a7eb852787108fa38a8ff44bf355599e9683"), looks := false }, kinds := [], alts := [], laidByText := true, laidKinds := [.data], laidTests := true, laidLooks := .later }
def ConvSelfCardSaid : Prop := Claim7.holds Tryz.pinned (.plain (OpenSpec.ofChange convSelfSpec)) convSelfCard

/-- THE TIED CARD OF 'scholiumlaw16.ConvTurned'. -/
def convTurnedCard : Claim7 := { stood := { row := convTurnedRow, standIns := [], harness := (true, "e07f03c6770bb40b8bddc7b48363a7eb852787108fa38a8ff44bf355599e9683"), looks := false }, kinds := [], alts := [], laidByText := true, laidKinds := [.data], laidTests := true, laidLooks := .later }
def ConvTurnedCardSaid : Prop := Claim7.holds Tryz.pinned (.plain (OpenSpec.ofChange convTurnedSpec)) convTurnedCard

/-- THE TIED CARD OF 'scholiumlaw16.ConvEta'. -/
def convEtaCard : Claim7 := { stood := { row := convEtaRow, standIns := [], harness := (true, "e07f03c6770bb40b8bddc7b48363a7eb852787108fa38a8ff44bf355599e9683"), looks := false }, kinds := [], alts := [], laidByText := true, laidKinds := [.data], laidTests := true, laidLooks := .later }
def ConvEtaCardSaid : Prop := Claim7.holds Tryz.pinned (.plain (OpenSpec.ofChange convEtaSpec)) convEtaCard

/-- THE TIED CARD OF 'scholiumlaw16.ConvNil'. -/
def convNilCard : Claim7 := { stood := { row := convNilRow, standIns := [], harness := (true, "e07f03c6770bb40b8bddc7b48363a7eb852787108fa38a8ff44bf355599e9683"), looks := false }, kinds := [], alts := [], laidByText := true, laidKinds := [.data], laidTests := true, laidLooks := .later }
def ConvNilCardSaid : Prop := Claim7.holds Tryz.pinned (.plain (OpenSpec.ofChange convNilSpec)) convNilCard

/-- THE TIED CARD OF 'scholiumlaw14.WhnfAgain'. -/
def whnfAgainCard : Claim7 := { stood := { row := whnfAgainRow, standIns := [], harness := (true, "e07f03c6770bb40b8bddc7b48363a7eb852787108fa38a8ff44bf355599e9683"), looks := false }, kinds := [], alts := [], laidByText := true, laidKinds := [.data], laidTests := true, laidLooks := .later }
def WhnfAgainCardSaid : Prop := Claim7.holds Tryz.pinned (.plain (OpenSpec.ofChange whnfAgainSpec)) whnfAgainCard

/-- THE TIED CARD OF 'scholiumlaw14.WhnfFuel'. -/
def whnfFuelCard : Claim7 := { stood := { row := whnfFuelRow, standIns := [], harness := (true, "e07f03c6770bb40b8bddc7b48363a7eb852787108fa38a8ff44bf355599e9683"), looks := false }, kinds := [], alts := [], laidByText := true, laidKinds := [.data], laidTests := true, laidLooks := .later }
def WhnfFuelCardSaid : Prop := Claim7.holds Tryz.pinned (.plain (OpenSpec.ofChange whnfFuelSpec)) whnfFuelCard

/-- THE SECOND FORM's CARD OF 'scholiumlaw16.ConvSelf'. -/
def convSelfUptoCard : Claim7 := { stood := { row := convSelfUptoRow, standIns := [], harness := (true, "e07f03c6770bb40b8bddc7b48363a7eb852787108fa38a8ff44bf355599e9683"), looks := false }, kinds := [], alts := [], laidByText := true, laidKinds := [.data], laidTests := true, laidLooks := .later }
def ConvSelfUptoCardSaid : Prop := Claim7.holds Tryz.pinned (.plain (OpenSpec.upto convSelfSpec)) convSelfUptoCard

/-- THE SECOND FORM's CARD OF 'scholiumlaw16.ConvTurned'. -/
def convTurnedUptoCard : Claim7 := { stood := { row := convTurnedUptoRow, standIns := [], harness := (true, "e07f03c6770bb40b8bddc7b48363a7eb852787108fa38a8ff44bf355599e9683"), looks := false }, kinds := [], alts := [], laidByText := true, laidKinds := [.data], laidTests := true, laidLooks := .later }
def ConvTurnedUptoCardSaid : Prop := Claim7.holds Tryz.pinned (.plain (OpenSpec.upto convTurnedSpec)) convTurnedUptoCard

/-- THE SECOND FORM's CARD OF 'scholiumlaw16.ConvEta'. -/
def convEtaUptoCard : Claim7 := { stood := { row := convEtaUptoRow, standIns := [], harness := (true, "e07f03c6770bb40b8bddc7b48363a7eb852787108fa38a8ff44bf355599e9683"), looks := false }, kinds := [], alts := [], laidByText := true, laidKinds := [.data], laidTests := true, laidLooks := .later }
def ConvEtaUptoCardSaid : Prop := Claim7.holds Tryz.pinned (.plain (OpenSpec.upto convEtaSpec)) convEtaUptoCard

/-- THE SECOND FORM's CARD OF 'scholiumlaw16.ConvNil'. -/
def convNilUptoCard : Claim7 := { stood := { row := convNilUptoRow, standIns := [], harness := (true, "e07f03c6770bb40b8bddc7b48363a7eb852787108fa38a8ff44bf355599e9683"), looks := false }, kinds := [], alts := [], laidByText := true, laidKinds := [.data], laidTests := true, laidLooks := .later }
def ConvNilUptoCardSaid : Prop := Claim7.holds Tryz.pinned (.plain (OpenSpec.upto convNilSpec)) convNilUptoCard

/-- THE SECOND FORM's CARD OF 'scholiumlaw14.WhnfAgain'. -/
def whnfAgainUptoCard : Claim7 := { stood := { row := whnfAgainUptoRow, standIns := [], harness := (true, "e07f03c6770bb40b8bddc7b48363a7eb852787108fa38a8ff44bf355599e9683"), looks := false }, kinds := [], alts := [], laidByText := true, laidKinds := [.data], laidTests := true, laidLooks := .later }
def WhnfAgainUptoCardSaid : Prop := Claim7.holds Tryz.pinned (.plain (OpenSpec.upto whnfAgainSpec)) whnfAgainUptoCard

/-- THE SECOND FORM's CARD OF 'scholiumlaw14.WhnfFuel'. -/
def whnfFuelUptoCard : Claim7 := { stood := { row := whnfFuelUptoRow, standIns := [], harness := (true, "e07f03c6770bb40b8bddc7b48363a7eb852787108fa38a8ff44bf355599e9683"), looks := false }, kinds := [], alts := [], laidByText := true, laidKinds := [.data], laidTests := true, laidLooks := .later }
def WhnfFuelUptoCardSaid : Prop := Claim7.holds Tryz.pinned (.plain (OpenSpec.upto whnfFuelSpec)) whnfFuelUptoCard
end Rows
end Go.Proofs.YtchllgkgjompgaaGreatDoor
