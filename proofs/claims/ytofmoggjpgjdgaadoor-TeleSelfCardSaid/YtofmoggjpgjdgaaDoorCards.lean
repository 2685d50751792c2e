/-
  DERIVED. GIVEN WITH THE SEED: THE CARDS: each row of YtofmoggjpgjdgaaDoorRows.lean that lists a variable, with what it lists TIED to the program's text (the seventh form; the later family's looks); each row that meets fmt, with fmt's text TOLD by the authors' own Lean function (tested against real Go, not proved from fmt's source: count such statements apart). THE CARD IS WHAT COUNTS. Prove the row's statement (the work); the ties are given (YtofmoggjpgjdgaaDoorTie.lean); close each card by the builder's one call (the guide's Derived/Test/ToyasCard.lean, 'card_holds'). Laid BY PROGRAM, IN A SANDBOX (cutbox-door.mjs). By AI agents, Wed Nov 11 2026. No macro, syntax, notation, axiom, sorry.
-/
import Derived.Test.YtofmoggjpgjdgaaDoorRows
import GoSem.ClaimSeven
namespace Go.Proofs.YtofmoggjpgjdgaaDoor
namespace Rows

/-- THE TIED CARD OF 'scholiumlaw10.TeleArounds'. -/
def teleAroundsCard : Claim7 := { stood := { row := teleAroundsRow, standIns := [], harness := (true, "8939265ff684ca4910e8c4a08445002908b8e130f18aed756d9c77b58b8ff3a3"), looks := false }, kinds := [], alts := [], laidByText := true, laidKinds := [.data], laidTests := true, laidLooks := .later }
def TeleAroundsCardSaid : Prop := Claim7.holds Tryd.pinned (.plain (OpenSpec.ofChange teleAroundsSpec)) teleAroundsCard

/-- THE TIED CARD OF 'scholiumlaw10.TeleSplits'. -/
def teleSplitsCard : Claim7 := { stood := { row := teleSplitsRow, standIns := [], harness := (true, "8939265ff684ca4910e8c4a08445002908b8e130f18aed756d9c77b58b8ff3a3"), looks := false }, kinds := [], alts := [], laidByText := true, laidKinds := [.data], laidTests := true, laidLooks := .later }
def TeleSplitsCardSaid : Prop := Claim7.holds Tryd.pinned (.plain (OpenSpec.ofChange teleSplitsSpec)) teleSplitsCard

/-- THE TIED CARD OF 'scholiumlaw10.TeleTypes'. -/
def teleTypesCard : Claim7 := { stood := { row := teleTypesRow, standIns := [], harness := (true, "8939265ff684ca4910e8c4a08445002908b8e130f18aed756d9c77b58b8ff3a3"), looks := false }, kinds := [], alts := [], laidByText := true, laidKinds := [.data], laidTests := true, laidLooks := .later }
def TeleTypesCardSaid : Prop := Claim7.holds Tryd.pinned (.plain (OpenSpec.ofChange teleTypesSpec)) teleTypesCard

/-- THE TIED CARD OF 'scholiumlaw10.TeleResults'. -/
def teleResultsCard : Claim7 := { stood := { row := teleResultsRow, standIns := [], harness := (true, "8939265ff684ca4910e8c4a08445002908b8e130f18aed756d9c77b58b8ff3a3"), looks := false }, kinds := [], alts := [], laidByText := true, laidKinds := [.data], laidTests := true, laidLooks := .later }
def TeleResultsCardSaid : Prop := Claim7.holds Tryd.pinned (.plain (OpenSpec.ofChange teleResultsSpec)) teleResultsCard

/-- THE TIED CARD OF 'scholiumlaw10.TeleBack'. -/
def teleBackCard : Claim7 := { stood := { row := teleBackRow, standIns := [], harness := (true, "8939265ff684ca4910e8c4a08445002908b8e130f18aed756d9c77b58b8ff3a3"), looks := false }, kinds := [], alts := [], laidByText := true, laidKinds := [.data], laidTests := true, laidLooks := .later }
def TeleBackCardSaid : Prop := Claim7.holds Tryd.pinned (.plain (OpenSpec.ofChange teleBackSpec)) teleBackCard

/-- THE TIED CARD OF 'scholiumlaw10.TeleSelf'. -/
def teleSelfCard : Claim7 := { stood := { row := teleSelfRow, standIns := [], harness := (true, "8939265ff684ca4910e8c4a08445002908b8e130f18aed756d9c77b58b8ff3a3"), looks := false }, kinds := [], alts := [], laidByText := true, laidKinds := [.data], laidTests := true, laidLooks := .later }
def TeleSelfCardSaid : Prop := Claim7.holds Tryd.pinned (.plain (OpenSpec.ofChange teleSelfSpec)) teleSelfCard

/-- THE SECOND FORM's CARD OF 'scholiumlaw10.TeleArounds'. -/
def teleAroundsUptoCard : Claim7 := { stood := { row := teleAroundsUptoRow, standIns := [], harness := (true, "8939265ff684ca4910e8c4a08445002908b8e130f18aed756d9c77b58b8ff3a3"), looks := false }, kinds := [], alts := [], laidByText := true, laidKinds := [.data], laidTests := true, laidLooks := .later }
def TeleAroundsUptoCardSaid : Prop := Claim7.holds Tryd.pinned (.plain (OpenSpec.upto teleAroundsSpec)) teleAroundsUptoCard

/-- THE SECOND FORM's CARD OF 'scholiumlaw10.TeleSplits'. -/
def teleSplitsUptoCard : Claim7 := { stood := { row := teleSplitsUptoRow, standIns := [], harness := (true, "8939265ff684ca4910e8c4a08445002908b8e130f18aed756d9c77b58b8ff3a3"), looks := false }, kinds := [], alts := [], laidByText := true, laidKinds := [.data], laidTests := true, laidLooks := .later }
def TeleSplitsUptoCardSaid : Prop := Claim7.holds Tryd.pinned (.plain (OpenSpec.upto teleSplitsSpec)) teleSplitsUptoCard

/-- THE SECOND FORM's CARD OF 'scholiumlaw10.TeleTypes'. -/
def teleTypesUptoCard : Claim7 := { stood := { row := teleTypesUptoRow, standIns := [], harness := (true, "8939265ff684ca4910e8c4a08445002908b8e130f18aed756d9c77b58b8ff3a3"), looks := false }, kinds := [], alts := [], laidByText := true, laidKinds := [.data], laidTests := true, laidLooks := .later }
def TeleTypesUptoCardSaid : Prop := Claim7.holds Tryd.pinned (.plain (OpenSpec.upto teleTypesSpec)) teleTypesUptoCard

/-- THE SECOND FORM's CARD OF 'scholiumlaw10.TeleResults'. -/
def teleResultsUptoCard : Claim7 := { stood := { row := teleResultsUptoRow, standIns := [], harness := (true, "8939265ff684ca4910e8c4a08445002908b8e130f18aed756d9c77b58b8ff3a3"), looks := false }, kinds := [], alts := [], laidByText := true, laidKinds := [.data], laidTests := true, laidLooks := .later }
def TeleResultsUptoCardSaid : Prop := Claim7.holds Tryd.pinned (.plain (OpenSpec.upto teleResultsSpec)) teleResultsUptoCard

/-- THE SECOND FORM's CARD OF 'scholiumlaw10.TeleBack'. -/
def teleBackUptoCard : Claim7 := { stood := { row := teleBackUptoRow, standIns := [], harness := (true, "8939265ff684ca4910e8c4a08445002908b8e130f18aed756d9c77b58b8ff3a3"), looks := false }, kinds := [], alts := [], laidByText := true, laidKinds := [.data], laidTests := true, laidLooks := .later }
def TeleBackUptoCardSaid : Prop := Claim7.holds Tryd.pinned (.plain (OpenSpec.upto teleBackSpec)) teleBackUptoCard

/-- THE SECOND FORM's CARD OF 'scholiumlaw10.TeleSelf'. -/
def teleSelfUptoCard : Claim7 := { stood := { row := teleSelfUptoRow, standIns := [], harness := (true, "8939265ff684ca4910e8c4a08445002908b8e130f18aed756d9c77b58b8ff3a3"), looks := false }, kinds := [], alts := [], laidByText := true, laidKinds := [.data], laidTests := true, laidLooks := .later }
def TeleSelfUptoCardSaid : Prop := Claim7.holds Tryd.pinned (.plain (OpenSpec.upto teleSelfSpec)) teleSelfUptoCard
end Rows
end Go.Proofs.YtofmoggjpgjdgaaDoor
