/-
  DERIVED. GIVEN WITH THE SEED: THE CARDS: each row of YtodmnollgejgeaaDoorRows.lean that lists a variable, with what it lists TIED to the program's text (the seventh form; the later family's looks); each row that meets fmt, with fmt's text TOLD by the authors' own Lean function (tested against real Go, not proved from fmt's source: count such statements apart). THE CARD IS WHAT COUNTS. Prove the row's statement (the work); the ties are given (YtodmnollgejgeaaDoorTie.lean); close each card by the builder's one call (the guide's Derived/Test/ToyasCard.lean, 'card_holds'). Laid BY PROGRAM, IN A SANDBOX (cutbox-door.mjs). By AI agents, Wed Nov 11 2026. No macro, syntax, notation, axiom, sorry.
-/
import Derived.Test.YtodmnollgejgeaaDoorRows
import GoSem.ClaimSeven
namespace Go.Proofs.YtodmnollgejgeaaDoor
namespace Rows

/-- THE TIED CARD OF 'scholiumlaw07.TermNumbers'. -/
def termNumbersCard : Claim7 := { stood := { row := termNumbersRow, standIns := [], harness := (true, "6c51c640a98adce505e59c88fcc04a744fcede699d225f9193a0f01b47d0439b"), looks := false }, kinds := [], alts := [], laidByText := true, laidKinds := [.data], laidTests := true, laidLooks := .later }
def TermNumbersCardSaid : Prop := Claim7.holds Tryd.pinned (.plain (OpenSpec.ofChange termNumbersSpec)) termNumbersCard

/-- THE TIED CARD OF 'scholiumlaw07.TermSpines'. -/
def termSpinesCard : Claim7 := { stood := { row := termSpinesRow, standIns := [], harness := (true, "6c51c640a98adce505e59c88fcc04a744fcede699d225f9193a0f01b47d0439b"), looks := false }, kinds := [], alts := [], laidByText := true, laidKinds := [.data], laidTests := true, laidLooks := .later }
def TermSpinesCardSaid : Prop := Claim7.holds Tryd.pinned (.plain (OpenSpec.ofChange termSpinesSpec)) termSpinesCard

/-- THE TIED CARD OF 'scholiumlaw08.LiftLifts'. -/
def liftLiftsCard : Claim7 := { stood := { row := liftLiftsRow, standIns := [], harness := (true, "6c51c640a98adce505e59c88fcc04a744fcede699d225f9193a0f01b47d0439b"), looks := false }, kinds := [], alts := [], laidByText := true, laidKinds := [.data], laidTests := true, laidLooks := .later }
def LiftLiftsCardSaid : Prop := Claim7.holds Tryd.pinned (.plain (OpenSpec.ofChange liftLiftsSpec)) liftLiftsCard

/-- THE TIED CARD OF 'scholiumlaw08.LiftLowers'. -/
def liftLowersCard : Claim7 := { stood := { row := liftLowersRow, standIns := [], harness := (true, "6c51c640a98adce505e59c88fcc04a744fcede699d225f9193a0f01b47d0439b"), looks := false }, kinds := [], alts := [], laidByText := true, laidKinds := [.data], laidTests := true, laidLooks := .later }
def LiftLowersCardSaid : Prop := Claim7.holds Tryd.pinned (.plain (OpenSpec.ofChange liftLowersSpec)) liftLowersCard

/-- THE TIED CARD OF 'scholiumlaw08.LiftSwaps'. -/
def liftSwapsCard : Claim7 := { stood := { row := liftSwapsRow, standIns := [], harness := (true, "6c51c640a98adce505e59c88fcc04a744fcede699d225f9193a0f01b47d0439b"), looks := false }, kinds := [], alts := [], laidByText := true, laidKinds := [.data], laidTests := true, laidLooks := .later }
def LiftSwapsCardSaid : Prop := Claim7.holds Tryd.pinned (.plain (OpenSpec.ofChange liftSwapsSpec)) liftSwapsCard

/-- THE TIED CARD OF 'scholiumlaw08.LiftAlls'. -/
def liftAllsCard : Claim7 := { stood := { row := liftAllsRow, standIns := [], harness := (true, "6c51c640a98adce505e59c88fcc04a744fcede699d225f9193a0f01b47d0439b"), looks := false }, kinds := [], alts := [], laidByText := true, laidKinds := [.data], laidTests := true, laidLooks := .later }
def LiftAllsCardSaid : Prop := Claim7.holds Tryd.pinned (.plain (OpenSpec.ofChange liftAllsSpec)) liftAllsCard

/-- THE TIED CARD OF 'scholiumlaw08.LiftAdds'. -/
def liftAddsCard : Claim7 := { stood := { row := liftAddsRow, standIns := [], harness := (true, "6c51c640a98adce505e59c88fcc04a744fcede699d225f9193a0f01b47d0439b"), looks := false }, kinds := [], alts := [], laidByText := true, laidKinds := [.data], laidTests := true, laidLooks := .later }
def LiftAddsCardSaid : Prop := Claim7.holds Tryd.pinned (.plain (OpenSpec.ofChange liftAddsSpec)) liftAddsCard

/-- THE TIED CARD OF 'scholiumlaw08.LiftBack'. -/
def liftBackCard : Claim7 := { stood := { row := liftBackRow, standIns := [], harness := (true, "6c51c640a98adce505e59c88fcc04a744fcede699d225f9193a0f01b47d0439b"), looks := false }, kinds := [], alts := [], laidByText := true, laidKinds := [.data], laidTests := true, laidLooks := .later }
def LiftBackCardSaid : Prop := Claim7.holds Tryd.pinned (.plain (OpenSpec.ofChange liftBackSpec)) liftBackCard

/-- THE SECOND FORM's CARD OF 'scholiumlaw07.TermNumbers'. -/
def termNumbersUptoCard : Claim7 := { stood := { row := termNumbersUptoRow, standIns := [], harness := (true, "6c51c640a98adce505e59c88fcc04a744fcede699d225f9193a0f01b47d0439b"), looks := false }, kinds := [], alts := [], laidByText := true, laidKinds := [.data], laidTests := true, laidLooks := .later }
def TermNumbersUptoCardSaid : Prop := Claim7.holds Tryd.pinned (.plain (OpenSpec.upto termNumbersSpec)) termNumbersUptoCard

/-- THE SECOND FORM's CARD OF 'scholiumlaw07.TermSpines'. -/
def termSpinesUptoCard : Claim7 := { stood := { row := termSpinesUptoRow, standIns := [], harness := (true, "6c51c640a98adce505e59c88fcc04a744fcede699d225f9193a0f01b47d0439b"), looks := false }, kinds := [], alts := [], laidByText := true, laidKinds := [.data], laidTests := true, laidLooks := .later }
def TermSpinesUptoCardSaid : Prop := Claim7.holds Tryd.pinned (.plain (OpenSpec.upto termSpinesSpec)) termSpinesUptoCard

/-- THE SECOND FORM's CARD OF 'scholiumlaw08.LiftLifts'. -/
def liftLiftsUptoCard : Claim7 := { stood := { row := liftLiftsUptoRow, standIns := [], harness := (true, "6c51c640a98adce505e59c88fcc04a744fcede699d225f9193a0f01b47d0439b"), looks := false }, kinds := [], alts := [], laidByText := true, laidKinds := [.data], laidTests := true, laidLooks := .later }
def LiftLiftsUptoCardSaid : Prop := Claim7.holds Tryd.pinned (.plain (OpenSpec.upto liftLiftsSpec)) liftLiftsUptoCard

/-- THE SECOND FORM's CARD OF 'scholiumlaw08.LiftLowers'. -/
def liftLowersUptoCard : Claim7 := { stood := { row := liftLowersUptoRow, standIns := [], harness := (true, "6c51c640a98adce505e59c88fcc04a744fcede699d225f9193a0f01b47d0439b"), looks := false }, kinds := [], alts := [], laidByText := true, laidKinds := [.data], laidTests := true, laidLooks := .later }
def LiftLowersUptoCardSaid : Prop := Claim7.holds Tryd.pinned (.plain (OpenSpec.upto liftLowersSpec)) liftLowersUptoCard

/-- THE SECOND FORM's CARD OF 'scholiumlaw08.LiftSwaps'. -/
def liftSwapsUptoCard : Claim7 := { stood := { row := liftSwapsUptoRow, standIns := [], harness := (true, "6c51c640a98adce505e59c88fcc04a744fcede699d225f9193a0f01b47d0439b"), looks := false }, kinds := [], alts := [], laidByText := true, laidKinds := [.data], laidTests := true, laidLooks := .later }
def LiftSwapsUptoCardSaid : Prop := Claim7.holds Tryd.pinned (.plain (OpenSpec.upto liftSwapsSpec)) liftSwapsUptoCard

/-- THE SECOND FORM's CARD OF 'scholiumlaw08.LiftAlls'. -/
def liftAllsUptoCard : Claim7 := { stood := { row := liftAllsUptoRow, standIns := [], harness := (true, "6c51c640a98adce505e59c88fcc04a744fcede699d225f9193a0f01b47d0439b"), looks := false }, kinds := [], alts := [], laidByText := true, laidKinds := [.data], laidTests := true, laidLooks := .later }
def LiftAllsUptoCardSaid : Prop := Claim7.holds Tryd.pinned (.plain (OpenSpec.upto liftAllsSpec)) liftAllsUptoCard

/-- THE SECOND FORM's CARD OF 'scholiumlaw08.LiftAdds'. -/
def liftAddsUptoCard : Claim7 := { stood := { row := liftAddsUptoRow, standIns := [], harness := (true, "6c51c640a98adce505e59c88fcc04a744fcede699d225f9193a0f01b47d0439b"), looks := false }, kinds := [], alts := [], laidByText := true, laidKinds := [.data], laidTests := true, laidLooks := .later }
def LiftAddsUptoCardSaid : Prop := Claim7.holds Tryd.pinned (.plain (OpenSpec.upto liftAddsSpec)) liftAddsUptoCard

/-- THE SECOND FORM's CARD OF 'scholiumlaw08.LiftBack'. -/
def liftBackUptoCard : Claim7 := { stood := { row := liftBackUptoRow, standIns := [], harness := (true, "6c51c640a98adce505e59c88fcc04a744fcede699d225f9193a0f01b47d0439b"), looks := false }, kinds := [], alts := [], laidByText := true, laidKinds := [.data], laidTests := true, laidLooks := .later }
def LiftBackUptoCardSaid : Prop := Claim7.holds Tryd.pinned (.plain (OpenSpec.upto liftBackSpec)) liftBackUptoCard
end Rows
end Go.Proofs.YtodmnollgejgeaaDoor
