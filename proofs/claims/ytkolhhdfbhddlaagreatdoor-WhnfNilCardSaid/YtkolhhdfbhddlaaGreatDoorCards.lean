/-
  DERIVED. GIVEN WITH THE SEED: THE CARDS: each row of YtkolhhdfbhddlaaGreatDoorRows.lean that lists a variable, with what it lists TIED to the program's text (the seventh form; the later family's looks); each row that meets fmt, with fmt's text TOLD by the authors' own Lean function (tested against real Go, not proved from fmt's source: count such statements apart). THE CARD IS WHAT COUNTS. Prove the row's statement (the work); the ties are given (YtkolhhdfbhddlaaGreatDoorTie.lean); close each card by the builder's one call (the guide's Derived/Test/ToyasCard.lean, 'card_holds'). Laid BY PROGRAM, IN A SANDBOX (cutbox-door.mjs). By AI agents, Wed Nov 11 2026. No macro, syntax, notation, axiom, sorry.
-/
import Derived.Test.YtkolhhdfbhddlaaGreatDoorRows
import GoSem.ClaimSeven
namespace Go.Proofs.YtkolhhdfbhddlaaGreatDoor
namespace Rows

/-- THE TIED CARD OF 'scholiumlaw13.IotaFields'. -/
def iotaFieldsCard : Claim7 := { stood := { row := iotaFieldsRow, standIns := [], harness := (true, "521927500f36f53ab67869ba50f0115d062c7cd994d3c1d9d6ed19aaadd15249"), looks := false }, kinds := [], alts := [], laidByText := true, laidKinds := [.data], laidTests := true, laidLooks := .later }
def IotaFieldsCardSaid : Prop := Claim7.holds Tryz.pinned (.plain (OpenSpec.ofChange iotaFieldsSpec)) iotaFieldsCard

/-- THE TIED CARD OF 'scholiumlaw13.IotaMotives'. -/
def iotaMotivesCard : Claim7 := { stood := { row := iotaMotivesRow, standIns := [], harness := (true, "521927500f36f53ab67869ba50f0115d062c7cd994d3c1d9d6ed19aaadd15249"), looks := false }, kinds := [], alts := [], laidByText := true, laidKinds := [.data], laidTests := true, laidLooks := .later }
def IotaMotivesCardSaid : Prop := Claim7.holds Tryz.pinned (.plain (OpenSpec.ofChange iotaMotivesSpec)) iotaMotivesCard

/-- THE TIED CARD OF 'scholiumlaw13.IotaMethods'. -/
def iotaMethodsCard : Claim7 := { stood := { row := iotaMethodsRow, standIns := [], harness := (true, "521927500f36f53ab67869ba50f0115d062c7cd994d3c1d9d6ed19aaadd15249"), looks := false }, kinds := [], alts := [], laidByText := true, laidKinds := [.data], laidTests := true, laidLooks := .later }
def IotaMethodsCardSaid : Prop := Claim7.holds Tryz.pinned (.plain (OpenSpec.ofChange iotaMethodsSpec)) iotaMethodsCard

/-- THE TIED CARD OF 'scholiumlaw13.IotaNames'. -/
def iotaNamesCard : Claim7 := { stood := { row := iotaNamesRow, standIns := [], harness := (true, "521927500f36f53ab67869ba50f0115d062c7cd994d3c1d9d6ed19aaadd15249"), looks := false }, kinds := [], alts := [], laidByText := true, laidKinds := [.data], laidTests := true, laidLooks := .later }
def IotaNamesCardSaid : Prop := Claim7.holds Tryz.pinned (.plain (OpenSpec.ofChange iotaNamesSpec)) iotaNamesCard

/-- THE TIED CARD OF 'scholiumlaw14.WhnfAgain'. -/
def whnfAgainCard : Claim7 := { stood := { row := whnfAgainRow, standIns := [], harness := (true, "521927500f36f53ab67869ba50f0115d062c7cd994d3c1d9d6ed19aaadd15249"), looks := false }, kinds := [], alts := [], laidByText := true, laidKinds := [.data], laidTests := true, laidLooks := .later }
def WhnfAgainCardSaid : Prop := Claim7.holds Tryz.pinned (.plain (OpenSpec.ofChange whnfAgainSpec)) whnfAgainCard

/-- THE TIED CARD OF 'scholiumlaw14.WhnfFuel'. -/
def whnfFuelCard : Claim7 := { stood := { row := whnfFuelRow, standIns := [], harness := (true, "521927500f36f53ab67869ba50f0115d062c7cd994d3c1d9d6ed19aaadd15249"), looks := false }, kinds := [], alts := [], laidByText := true, laidKinds := [.data], laidTests := true, laidLooks := .later }
def WhnfFuelCardSaid : Prop := Claim7.holds Tryz.pinned (.plain (OpenSpec.ofChange whnfFuelSpec)) whnfFuelCard

/-- THE TIED CARD OF 'scholiumlaw14.WhnfLoose'. -/
def whnfLooseCard : Claim7 := { stood := { row := whnfLooseRow, standIns := [], harness := (true, "521927500f36f53ab67869ba50f0115d062c7cd994d3c1d9d6ed19aaadd15249"), looks := false }, kinds := [], alts := [], laidByText := true, laidKinds := [.data], laidTests := true, laidLooks := .later }
def WhnfLooseCardSaid : Prop := Claim7.holds Tryz.pinned (.plain (OpenSpec.ofChange whnfLooseSpec)) whnfLooseCard

/-- THE TIED CARD OF 'scholiumlaw14.WhnfNil'. -/
def whnfNilCard : Claim7 := { stood := { row := whnfNilRow, standIns := [], harness := (true, "521927500f36f53ab67869ba50f0115d062c7cd994d3c1d9d6ed19aaadd15249"), looks := false }, kinds := [], alts := [], laidByText := true, laidKinds := [.data], laidTests := true, laidLooks := .later }
def WhnfNilCardSaid : Prop := Claim7.holds Tryz.pinned (.plain (OpenSpec.ofChange whnfNilSpec)) whnfNilCard

/-- THE SECOND FORM's CARD OF 'scholiumlaw13.IotaFields'. -/
def iotaFieldsUptoCard : Claim7 := { stood := { row := iotaFieldsUptoRow, standIns := [], harness := (true, "521927500f36f53ab67869ba50f0115d062c7cd994d3c1d9d6ed19aaadd15249"), looks := false }, kinds := [], alts := [], laidByText := true, laidKinds := [.data], laidTests := true, laidLooks := .later }
def IotaFieldsUptoCardSaid : Prop := Claim7.holds Tryz.pinned (.plain (OpenSpec.upto iotaFieldsSpec)) iotaFieldsUptoCard

/-- THE SECOND FORM's CARD OF 'scholiumlaw13.IotaMotives'. -/
def iotaMotivesUptoCard : Claim7 := { stood := { row := iotaMotivesUptoRow, standIns := [], harness := (true, "521927500f36f53ab67869ba50f0115d062c7cd994d3c1d9d6ed19aaadd15249"), looks := false }, kinds := [], alts := [], laidByText := true, laidKinds := [.data], laidTests := true, laidLooks := .later }
def IotaMotivesUptoCardSaid : Prop := Claim7.holds Tryz.pinned (.plain (OpenSpec.upto iotaMotivesSpec)) iotaMotivesUptoCard

/-- THE SECOND FORM's CARD OF 'scholiumlaw13.IotaMethods'. -/
def iotaMethodsUptoCard : Claim7 := { stood := { row := iotaMethodsUptoRow, standIns := [], harness := (true, "521927500f36f53ab67869ba50f0115d062c7cd994d3c1d9d6ed19aaadd15249"), looks := false }, kinds := [], alts := [], laidByText := true, laidKinds := [.data], laidTests := true, laidLooks := .later }
def IotaMethodsUptoCardSaid : Prop := Claim7.holds Tryz.pinned (.plain (OpenSpec.upto iotaMethodsSpec)) iotaMethodsUptoCard

/-- THE SECOND FORM's CARD OF 'scholiumlaw13.IotaNames'. -/
def iotaNamesUptoCard : Claim7 := { stood := { row := iotaNamesUptoRow, standIns := [], harness := (true, "521927500f36f53ab67869ba50f0115d062c7cd994d3c1d9d6ed19aaadd15249"), looks := false }, kinds := [], alts := [], laidByText := true, laidKinds := [.data], laidTests := true, laidLooks := .later }
def IotaNamesUptoCardSaid : Prop := Claim7.holds Tryz.pinned (.plain (OpenSpec.upto iotaNamesSpec)) iotaNamesUptoCard

/-- THE SECOND FORM's CARD OF 'scholiumlaw14.WhnfAgain'. -/
def whnfAgainUptoCard : Claim7 := { stood := { row := whnfAgainUptoRow, standIns := [], harness := (true, "521927500f36f53ab67869ba50f0115d062c7cd994d3c1d9d6ed19aaadd15249"), looks := false }, kinds := [], alts := [], laidByText := true, laidKinds := [.data], laidTests := true, laidLooks := .later }
def WhnfAgainUptoCardSaid : Prop := Claim7.holds Tryz.pinned (.plain (OpenSpec.upto whnfAgainSpec)) whnfAgainUptoCard

/-- THE SECOND FORM's CARD OF 'scholiumlaw14.WhnfFuel'. -/
def whnfFuelUptoCard : Claim7 := { stood := { row := whnfFuelUptoRow, standIns := [], harness := (true, "521927500f36f53ab67869ba50f0115d062c7cd994d3c1d9d6ed19aaadd15249"), looks := false }, kinds := [], alts := [], laidByText := true, laidKinds := [.data], laidTests := true, laidLooks := .later }
def WhnfFuelUptoCardSaid : Prop := Claim7.holds Tryz.pinned (.plain (OpenSpec.upto whnfFuelSpec)) whnfFuelUptoCard

/-- THE SECOND FORM's CARD OF 'scholiumlaw14.WhnfLoose'. -/
def whnfLooseUptoCard : Claim7 := { stood := { row := whnfLooseUptoRow, standIns := [], harness := (true, "521927500f36f53ab67869ba50f0115d062c7cd994d3c1d9d6ed19aaadd15249"), looks := false }, kinds := [], alts := [], laidByText := true, laidKinds := [.data], laidTests := true, laidLooks := .later }
def WhnfLooseUptoCardSaid : Prop := Claim7.holds Tryz.pinned (.plain (OpenSpec.upto whnfLooseSpec)) whnfLooseUptoCard

/-- THE SECOND FORM's CARD OF 'scholiumlaw14.WhnfNil'. -/
def whnfNilUptoCard : Claim7 := { stood := { row := whnfNilUptoRow, standIns := [], harness := (true, "521927500f36f53ab67869ba50f0115d062c7cd994d3c1d9d6ed19aaadd15249"), looks := false }, kinds := [], alts := [], laidByText := true, laidKinds := [.data], laidTests := true, laidLooks := .later }
def WhnfNilUptoCardSaid : Prop := Claim7.holds Tryz.pinned (.plain (OpenSpec.upto whnfNilSpec)) whnfNilUptoCard
end Rows
end Go.Proofs.YtkolhhdfbhddlaaGreatDoor
