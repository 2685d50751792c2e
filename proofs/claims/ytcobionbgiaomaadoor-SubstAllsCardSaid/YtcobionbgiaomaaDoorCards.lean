/-
  DERIVED. GIVEN WITH THE SEED: THE CARDS: each row of YtcobionbgiaomaaDoorRows.lean that lists a variable, with what it lists TIED to the program's text (the seventh form; the later family's looks); each row that meets fmt, with fmt's text TOLD by the authors' own Lean function (tested against real Go, not proved from fmt's source: count such statements apart). THE CARD IS WHAT COUNTS. Prove the row's statement (the work); the ties are given (YtcobionbgiaomaaDoorTie.lean); close each card by the builder's one call (the guide's Derived/Test/ToyasCard.lean, 'card_holds'). Laid BY PROGRAM, IN A SANDBOX (cutbox-door.mjs). By AI agents, Wed Nov 11 2026. No macro, syntax, notation, axiom, sorry.
-/
import Derived.Test.YtcobionbgiaomaaDoorRows
import GoSem.ClaimSeven
namespace Go.Proofs.YtcobionbgiaomaaDoor
namespace Rows

/-- THE TIED CARD OF 'scholiumlaw09.SubstManies'. -/
def substManiesCard : Claim7 := { stood := { row := substManiesRow, standIns := [], harness := (true, "77ccfffbc37c54b23ffc87740316530e858b9e2e5a898f7b00717fde8c5352d8"), looks := false }, kinds := [], alts := [], laidByText := true, laidKinds := [.data], laidTests := true, laidLooks := .later }
def SubstManiesCardSaid : Prop := Claim7.holds Tryd.pinned (.plain (OpenSpec.ofChange substManiesSpec)) substManiesCard

/-- THE TIED CARD OF 'scholiumlaw09.SubstAts'. -/
def substAtsCard : Claim7 := { stood := { row := substAtsRow, standIns := [], harness := (true, "77ccfffbc37c54b23ffc87740316530e858b9e2e5a898f7b00717fde8c5352d8"), looks := false }, kinds := [], alts := [], laidByText := true, laidKinds := [.data], laidTests := true, laidLooks := .later }
def SubstAtsCardSaid : Prop := Claim7.holds Tryd.pinned (.plain (OpenSpec.ofChange substAtsSpec)) substAtsCard

/-- THE TIED CARD OF 'scholiumlaw09.SubstNames'. -/
def substNamesCard : Claim7 := { stood := { row := substNamesRow, standIns := [], harness := (true, "77ccfffbc37c54b23ffc87740316530e858b9e2e5a898f7b00717fde8c5352d8"), looks := false }, kinds := [], alts := [], laidByText := true, laidKinds := [.data], laidTests := true, laidLooks := .later }
def SubstNamesCardSaid : Prop := Claim7.holds Tryd.pinned (.plain (OpenSpec.ofChange substNamesSpec)) substNamesCard

/-- THE TIED CARD OF 'scholiumlaw09.SubstAlls'. -/
def substAllsCard : Claim7 := { stood := { row := substAllsRow, standIns := [], harness := (true, "77ccfffbc37c54b23ffc87740316530e858b9e2e5a898f7b00717fde8c5352d8"), looks := false }, kinds := [], alts := [], laidByText := true, laidKinds := [.data], laidTests := true, laidLooks := .later }
def SubstAllsCardSaid : Prop := Claim7.holds Tryd.pinned (.plain (OpenSpec.ofChange substAllsSpec)) substAllsCard

/-- THE TIED CARD OF 'scholiumlaw09.SubstLifted'. -/
def substLiftedCard : Claim7 := { stood := { row := substLiftedRow, standIns := [], harness := (true, "77ccfffbc37c54b23ffc87740316530e858b9e2e5a898f7b00717fde8c5352d8"), looks := false }, kinds := [], alts := [], laidByText := true, laidKinds := [.data], laidTests := true, laidLooks := .later }
def SubstLiftedCardSaid : Prop := Claim7.holds Tryd.pinned (.plain (OpenSpec.ofChange substLiftedSpec)) substLiftedCard

/-- THE TIED CARD OF 'scholiumlaw09.SubstTwice'. -/
def substTwiceCard : Claim7 := { stood := { row := substTwiceRow, standIns := [], harness := (true, "77ccfffbc37c54b23ffc87740316530e858b9e2e5a898f7b00717fde8c5352d8"), looks := false }, kinds := [], alts := [], laidByText := true, laidKinds := [.data], laidTests := true, laidLooks := .later }
def SubstTwiceCardSaid : Prop := Claim7.holds Tryd.pinned (.plain (OpenSpec.ofChange substTwiceSpec)) substTwiceCard

/-- THE TIED CARD OF 'scholiumlaw09.SubstBack'. -/
def substBackCard : Claim7 := { stood := { row := substBackRow, standIns := [], harness := (true, "77ccfffbc37c54b23ffc87740316530e858b9e2e5a898f7b00717fde8c5352d8"), looks := false }, kinds := [], alts := [], laidByText := true, laidKinds := [.data], laidTests := true, laidLooks := .later }
def SubstBackCardSaid : Prop := Claim7.holds Tryd.pinned (.plain (OpenSpec.ofChange substBackSpec)) substBackCard

/-- THE TIED CARD OF 'scholiumlaw09.SubstLimits'. -/
def substLimitsCard : Claim7 := { stood := { row := substLimitsRow, standIns := [], harness := (true, "77ccfffbc37c54b23ffc87740316530e858b9e2e5a898f7b00717fde8c5352d8"), looks := false }, kinds := [], alts := [], laidByText := true, laidKinds := [.data], laidTests := true, laidLooks := .later }
def SubstLimitsCardSaid : Prop := Claim7.holds Tryd.pinned (.plain (OpenSpec.ofChange substLimitsSpec)) substLimitsCard

/-- THE SECOND FORM's CARD OF 'scholiumlaw09.SubstManies'. -/
def substManiesUptoCard : Claim7 := { stood := { row := substManiesUptoRow, standIns := [], harness := (true, "77ccfffbc37c54b23ffc87740316530e858b9e2e5a898f7b00717fde8c5352d8"), looks := false }, kinds := [], alts := [], laidByText := true, laidKinds := [.data], laidTests := true, laidLooks := .later }
def SubstManiesUptoCardSaid : Prop := Claim7.holds Tryd.pinned (.plain (OpenSpec.upto substManiesSpec)) substManiesUptoCard

/-- THE SECOND FORM's CARD OF 'scholiumlaw09.SubstAts'. -/
def substAtsUptoCard : Claim7 := { stood := { row := substAtsUptoRow, standIns := [], harness := (true, "77ccfffbc37c54b23ffc87740316530e858b9e2e5a898f7b00717fde8c5352d8"), looks := false }, kinds := [], alts := [], laidByText := true, laidKinds := [.data], laidTests := true, laidLooks := .later }
def SubstAtsUptoCardSaid : Prop := Claim7.holds Tryd.pinned (.plain (OpenSpec.upto substAtsSpec)) substAtsUptoCard

/-- THE SECOND FORM's CARD OF 'scholiumlaw09.SubstNames'. -/
def substNamesUptoCard : Claim7 := { stood := { row := substNamesUptoRow, standIns := [], harness := (true, "77ccfffbc37c54b23ffc87740316530e858b9e2e5a898f7b00717fde8c5352d8"), looks := false }, kinds := [], alts := [], laidByText := true, laidKinds := [.data], laidTests := true, laidLooks := .later }
def SubstNamesUptoCardSaid : Prop := Claim7.holds Tryd.pinned (.plain (OpenSpec.upto substNamesSpec)) substNamesUptoCard

/-- THE SECOND FORM's CARD OF 'scholiumlaw09.SubstAlls'. -/
def substAllsUptoCard : Claim7 := { stood := { row := substAllsUptoRow, standIns := [], harness := (true, "77ccfffbc37c54b23ffc87740316530e858b9e2e5a898f7b00717fde8c5352d8"), looks := false }, kinds := [], alts := [], laidByText := true, laidKinds := [.data], laidTests := true, laidLooks := .later }
def SubstAllsUptoCardSaid : Prop := Claim7.holds Tryd.pinned (.plain (OpenSpec.upto substAllsSpec)) substAllsUptoCard

/-- THE SECOND FORM's CARD OF 'scholiumlaw09.SubstLifted'. -/
def substLiftedUptoCard : Claim7 := { stood := { row := substLiftedUptoRow, standIns := [], harness := (true, "77ccfffbc37c54b23ffc87740316530e858b9e2e5a898f7b00717fde8c5352d8"), looks := false }, kinds := [], alts := [], laidByText := true, laidKinds := [.data], laidTests := true, laidLooks := .later }
def SubstLiftedUptoCardSaid : Prop := Claim7.holds Tryd.pinned (.plain (OpenSpec.upto substLiftedSpec)) substLiftedUptoCard

/-- THE SECOND FORM's CARD OF 'scholiumlaw09.SubstTwice'. -/
def substTwiceUptoCard : Claim7 := { stood := { row := substTwiceUptoRow, standIns := [], harness := (true, "77ccfffbc37c54b23ffc87740316530e858b9e2e5a898f7b00717fde8c5352d8"), looks := false }, kinds := [], alts := [], laidByText := true, laidKinds := [.data], laidTests := true, laidLooks := .later }
def SubstTwiceUptoCardSaid : Prop := Claim7.holds Tryd.pinned (.plain (OpenSpec.upto substTwiceSpec)) substTwiceUptoCard

/-- THE SECOND FORM's CARD OF 'scholiumlaw09.SubstBack'. -/
def substBackUptoCard : Claim7 := { stood := { row := substBackUptoRow, standIns := [], harness := (true, "77ccfffbc37c54b23ffc87740316530e858b9e2e5a898f7b00717fde8c5352d8"), looks := false }, kinds := [], alts := [], laidByText := true, laidKinds := [.data], laidTests := true, laidLooks := .later }
def SubstBackUptoCardSaid : Prop := Claim7.holds Tryd.pinned (.plain (OpenSpec.upto substBackSpec)) substBackUptoCard

/-- THE SECOND FORM's CARD OF 'scholiumlaw09.SubstLimits'. -/
def substLimitsUptoCard : Claim7 := { stood := { row := substLimitsUptoRow, standIns := [], harness := (true, "77ccfffbc37c54b23ffc87740316530e858b9e2e5a898f7b00717fde8c5352d8"), looks := false }, kinds := [], alts := [], laidByText := true, laidKinds := [.data], laidTests := true, laidLooks := .later }
def SubstLimitsUptoCardSaid : Prop := Claim7.holds Tryd.pinned (.plain (OpenSpec.upto substLimitsSpec)) substLimitsUptoCard
end Rows
end Go.Proofs.YtcobionbgiaomaaDoor
