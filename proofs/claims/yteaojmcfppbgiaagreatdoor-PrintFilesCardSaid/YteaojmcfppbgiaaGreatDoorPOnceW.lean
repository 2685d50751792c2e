/- The walk of the law PrintOnce. -/
import Derived.Test.YteaojmcfppbgiaaGreatDoorPrF
import Derived.Test.YteaojmcfppbgiaaGreatDoorAw6
import Derived.Test.YteaojmcfppbgiaaGreatDoorD6
namespace Go.Proofs.YteaojmcfppbgiaaGreatDoor
open Go.RowKit
set_option linter.unusedVariables false
set_option maxRecDepth 100000

theorem decls_in {w : World} {lo hi : Nat} {A : Option Addr} {l : List DT} (h : DeclsAt w lo hi A l) : DeclsIn w lo hi A l := fun i hi' => by
  obtain ⟨b, o, p, hA, h1, h2, h3, h4⟩ := h i hi'
  exact ⟨b, o, p, hA, h1, h2, ⟨h3 0 (by omega), h3 1 (by omega), h3 2 (by omega), h3 3 (by omega), h3 4 (by omega), h3 5 (by omega), h3 6 (by omega), h3 7 (by omega), h3 8 (by omega), h3 9 (by omega), h3 10 (by omega)⟩, h4⟩
def Tabs (w : World) : Prop := Shapes w ∧ Rooms w ∧ Bare w ∧ Words w ∧ Tab w
theorem Tabs.below {w w' : World} (h : Tabs w) (hb : Below w.heap.size w w') : Tabs w' := ⟨h.1.below hb, h.2.1.below hb, h.2.2.1.kept hb h.2.2.1.lt, h.2.2.2.1.kept hb h.2.2.2.1.lt, h.2.2.2.2.below hb⟩
theorem awake_tabs {w : World} (h : Tabs w) : Calls Tryz.prog 7 #[] w fun e w' => e = .returned (.bool true) ∧ Below w.heap.size w w' := awake6 w h.1 h.2.2.1 h.2.2.2.2
theorem file_tabs {w : World} (h : Tabs w) (l : List DT) (lo hi : Nat) (A : Option Addr) (c : Nat) (hl : l.length ≤ maxLen) (hd : DeclsIn w lo hi A l) (hhi : hi ≤ w.heap.size) :
    Calls Tryz.prog 8 #[.slice A l.length c] w (TextIs (declsB l) (fileX l) w) := printFile_any l lo hi A c w hl hd hhi h.1 h.2.1 h.2.2.1 h.2.2.2.1
end Go.Proofs.YteaojmcfppbgiaaGreatDoor
