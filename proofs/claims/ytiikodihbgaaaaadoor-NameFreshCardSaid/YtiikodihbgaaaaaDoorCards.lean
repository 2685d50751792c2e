/-
  DERIVED. GIVEN WITH THE SEED: THE CARDS: each row of YtiikodihbgaaaaaDoorRows.lean that lists a variable, with what it lists TIED to the program's text (the seventh form; the later family's looks); each row that meets fmt, with fmt's text TOLD by the authors' own Lean function (tested against real Go, not proved from fmt's source: count such statements apart). THE CARD IS WHAT COUNTS. Prove the row's statement (the work); the ties are given (YtiikodihbgaaaaaDoorTie.lean); close each card by the builder's one call (the guide's Derived/Test/ToyasCard.lean, 'card_holds'). Laid BY PROGRAM, IN A SANDBOX (cutbox-door.mjs). By AI agents, Wed Nov 11 2026. No macro, syntax, notation, axiom, sorry.
-/
import Derived.Test.YtiikodihbgaaaaaDoorRows
import GoSem.ClaimSeven
namespace Go.Proofs.YtiikodihbgaaaaaDoor
namespace Rows

/-- THE TIED CARD OF 'scholiumlaw02.NameKinds'. -/
def nameKindsCard : Claim7 := { stood := { row := nameKindsRow, standIns := [], harness := (true, "12452f821cf5c96513ed1c191f74e83a2de78e8fdf61aa40ca4f844a6ffe17cc"), looks := false }, kinds := [], alts := [], laidByText := true, laidKinds := [.data, .data, .data, .data, .pinned], laidTests := true, laidLooks := .later }
def NameKindsCardSaid : Prop := Claim7.holds Tryd.pinned (.plain (OpenSpec.ofChange nameKindsSpec)) nameKindsCard

/-- THE TIED CARD OF 'scholiumlaw02.NameRights'. -/
def nameRightsCard : Claim7 := { stood := { row := nameRightsRow, standIns := [], harness := (true, "12452f821cf5c96513ed1c191f74e83a2de78e8fdf61aa40ca4f844a6ffe17cc"), looks := false }, kinds := [], alts := [], laidByText := true, laidKinds := [.data, .data, .data, .data, .pinned], laidTests := true, laidLooks := .later }
def NameRightsCardSaid : Prop := Claim7.holds Tryd.pinned (.plain (OpenSpec.ofChange nameRightsSpec)) nameRightsCard

/-- THE TIED CARD OF 'scholiumlaw02.NamePlaces'. -/
def namePlacesCard : Claim7 := { stood := { row := namePlacesRow, standIns := [], harness := (true, "12452f821cf5c96513ed1c191f74e83a2de78e8fdf61aa40ca4f844a6ffe17cc"), looks := false }, kinds := [], alts := [], laidByText := true, laidKinds := [.data, .data, .data, .data, .pinned], laidTests := true, laidLooks := .later }
def NamePlacesCardSaid : Prop := Claim7.holds Tryd.pinned (.plain (OpenSpec.ofChange namePlacesSpec)) namePlacesCard

/-- THE TIED CARD OF 'scholiumlaw02.NameFreshes'. -/
def nameFreshesCard : Claim7 := { stood := { row := nameFreshesRow, standIns := [], harness := (true, "12452f821cf5c96513ed1c191f74e83a2de78e8fdf61aa40ca4f844a6ffe17cc"), looks := false }, kinds := [], alts := [], laidByText := true, laidKinds := [.data, .data, .data, .data, .pinned], laidTests := true, laidLooks := .later }
def NameFreshesCardSaid : Prop := Claim7.holds Tryd.pinned (.plain (OpenSpec.ofChange nameFreshesSpec)) nameFreshesCard

/-- THE TIED CARD OF 'scholiumlaw02.NameFresh'. -/
def nameFreshCard : Claim7 := { stood := { row := nameFreshRow, standIns := [], harness := (true, "12452f821cf5c96513ed1c191f74e83a2de78e8fdf61aa40ca4f844a6ffe17cc"), looks := false }, kinds := [], alts := [], laidByText := true, laidKinds := [.data, .data, .data, .data, .pinned], laidTests := true, laidLooks := .later }
def NameFreshCardSaid : Prop := Claim7.holds Tryd.pinned (.plain (OpenSpec.ofChange nameFreshSpec)) nameFreshCard

/-- THE TIED CARD OF 'scholiumlaw02.NameMany'. -/
def nameManyCard : Claim7 := { stood := { row := nameManyRow, standIns := [], harness := (true, "12452f821cf5c96513ed1c191f74e83a2de78e8fdf61aa40ca4f844a6ffe17cc"), looks := false }, kinds := [], alts := [], laidByText := true, laidKinds := [.data, .data, .data, .data, .pinned], laidTests := true, laidLooks := .later }
def NameManyCardSaid : Prop := Claim7.holds Tryd.pinned (.plain (OpenSpec.ofChange nameManySpec)) nameManyCard

/-- THE SECOND FORM's CARD OF 'scholiumlaw02.NameKinds'. -/
def nameKindsUptoCard : Claim7 := { stood := { row := nameKindsUptoRow, standIns := [], harness := (true, "12452f821cf5c96513ed1c191f74e83a2de78e8fdf61aa40ca4f844a6ffe17cc"), looks := false }, kinds := [], alts := [], laidByText := true, laidKinds := [.data, .data, .data, .data, .pinned], laidTests := true, laidLooks := .later }
def NameKindsUptoCardSaid : Prop := Claim7.holds Tryd.pinned (.plain (OpenSpec.upto nameKindsSpec)) nameKindsUptoCard

/-- THE SECOND FORM's CARD OF 'scholiumlaw02.NameRights'. -/
def nameRightsUptoCard : Claim7 := { stood := { row := nameRightsUptoRow, standIns := [], harness := (true, "12452f821cf5c96513ed1c191f74e83a2de78e8fdf61aa40ca4f844a6ffe17cc"), looks := false }, kinds := [], alts := [], laidByText := true, laidKinds := [.data, .data, .data, .data, .pinned], laidTests := true, laidLooks := .later }
def NameRightsUptoCardSaid : Prop := Claim7.holds Tryd.pinned (.plain (OpenSpec.upto nameRightsSpec)) nameRightsUptoCard

/-- THE SECOND FORM's CARD OF 'scholiumlaw02.NamePlaces'. -/
def namePlacesUptoCard : Claim7 := { stood := { row := namePlacesUptoRow, standIns := [], harness := (true, "12452f821cf5c96513ed1c191f74e83a2de78e8fdf61aa40ca4f844a6ffe17cc"), looks := false }, kinds := [], alts := [], laidByText := true, laidKinds := [.data, .data, .data, .data, .pinned], laidTests := true, laidLooks := .later }
def NamePlacesUptoCardSaid : Prop := Claim7.holds Tryd.pinned (.plain (OpenSpec.upto namePlacesSpec)) namePlacesUptoCard

/-- THE SECOND FORM's CARD OF 'scholiumlaw02.NameFreshes'. -/
def nameFreshesUptoCard : Claim7 := { stood := { row := nameFreshesUptoRow, standIns := [], harness := (true, "12452f821cf5c96513ed1c191f74e83a2de78e8fdf61aa40ca4f844a6ffe17cc"), looks := false }, kinds := [], alts := [], laidByText := true, laidKinds := [.data, .data, .data, .data, .pinned], laidTests := true, laidLooks := .later }
def NameFreshesUptoCardSaid : Prop := Claim7.holds Tryd.pinned (.plain (OpenSpec.upto nameFreshesSpec)) nameFreshesUptoCard

/-- THE SECOND FORM's CARD OF 'scholiumlaw02.NameFresh'. -/
def nameFreshUptoCard : Claim7 := { stood := { row := nameFreshUptoRow, standIns := [], harness := (true, "12452f821cf5c96513ed1c191f74e83a2de78e8fdf61aa40ca4f844a6ffe17cc"), looks := false }, kinds := [], alts := [], laidByText := true, laidKinds := [.data, .data, .data, .data, .pinned], laidTests := true, laidLooks := .later }
def NameFreshUptoCardSaid : Prop := Claim7.holds Tryd.pinned (.plain (OpenSpec.upto nameFreshSpec)) nameFreshUptoCard

/-- THE SECOND FORM's CARD OF 'scholiumlaw02.NameMany'. -/
def nameManyUptoCard : Claim7 := { stood := { row := nameManyUptoRow, standIns := [], harness := (true, "12452f821cf5c96513ed1c191f74e83a2de78e8fdf61aa40ca4f844a6ffe17cc"), looks := false }, kinds := [], alts := [], laidByText := true, laidKinds := [.data, .data, .data, .data, .pinned], laidTests := true, laidLooks := .later }
def NameManyUptoCardSaid : Prop := Claim7.holds Tryd.pinned (.plain (OpenSpec.upto nameManySpec)) nameManyUptoCard
end Rows
end Go.Proofs.YtiikodihbgaaaaaDoor
