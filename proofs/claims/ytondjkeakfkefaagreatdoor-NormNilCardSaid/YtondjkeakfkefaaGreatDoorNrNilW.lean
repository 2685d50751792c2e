/- The walk of NormNil. -/
import Derived.Test.YtondjkeakfkefaaGreatDoorNrAwk
import Derived.Test.YtondjkeakfkefaaGreatDoorN1
import Derived.Deep.RegionHeld3
namespace Go.Proofs.YtondjkeakfkefaaGreatDoor
open Go.RowKit
set_option linter.unusedVariables false
set_option maxRecDepth 100000

set_option maxHeartbeats 4000000 in
theorem nnil_walk (t : TM) (A : Option Addr) (cap : Nat) (w : World) (ht : IsTerm w 0 w.heap.size t A cap) (hS : ShapesM w) : Calls Tryz.prog 5 #[termV t A cap] w fun e w' => e = .returned (.bool true) ∧ Below w.heap.size w w' := by
  have HT := Lib.hid (fun (V : World) (hV : Below w.heap.size w V) => (show IsTerm V 0 V.heap.size t A cap from (ht.kept hV (Nat.le_refl _)).wide (Nat.le_refl _) hV.size))
  have HSS := Lib.hid (fun (V : World) (hV : Below w.heap.size w V) => hS.kept hV)
  have CN := Lib.hid (fun (V : World) (hV : Below w.heap.size w V) => number_none t A cap V (HT.out V hV) (HSS.out V hV))
  have CV := Lib.hid (fun (V : World) (hV : Below w.heap.size w V) => value_none t A cap V (HT.out V hV) (HSS.out V hV))
  have CM := Lib.hid (fun (F : Option Addr) (V : World) => norm_none t A cap F V)
  have CL := Lib.hid (fun (V : World) => normal_none t A cap V)
  have CA := Lib.hid (fun (V : World) (hV : Below w.heap.size w V) => awake15_any V (HSS.out V hV))
  unfold termV at CN CV CM CL
  unfold termV
  obtain ⟨X, hX⟩ : ∃ X, w.alloc (.cells #[.int .i64 t.k, .int .i64 t.n, .slice A t.l.length cap] 25) = X := ⟨_, rfl⟩
  have HBX := Lib.hid (show Below w.heap.size w X from by rw [← hX]; exact (Below.refl _ _).alloc (Nat.le_refl _) _)
  have HKt := Lib.hid (show Bk X w.heap.size 25 #[.int .i64 t.k, .int .i64 t.n, .slice A t.l.length cap] from by rw [← hX]; exact Bk.new _ _ _)
  have x0 : X.cell? ⟨w.heap.size, 0, none⟩ = some (.int .i64 t.k) := HKt.out.cell 0
  have x1 : X.cell? ⟨w.heap.size, 1, none⟩ = some (.int .i64 t.n) := HKt.out.cell 1
  have x2 : X.cell? ⟨w.heap.size, 2, none⟩ = some (.slice A t.l.length cap) := HKt.out.cell 2
  have HKX := Lib.hid (fun (V : World) (hV : Below X.heap.size X V) => (show V.cell? ⟨w.heap.size, 0, none⟩ = some (.int .i64 t.k) ∧ V.cell? ⟨w.heap.size, 1, none⟩ = some (.int .i64 t.n) ∧ V.cell? ⟨w.heap.size, 2, none⟩ = some (.slice A t.l.length cap) from by
    have k := HKt.out.below hV HKt.out.lt
    exact ⟨k.cell 0, k.cell 1, k.cell 2⟩))
  have HW := Lib.hid (fun (V : World) (hV : Below X.heap.size X V) => (show Below w.heap.size w V from HBX.out.trans (hV.mono HBX.out.size)))
  clear ht hS
  go_enter Tryz.func5, Tryz.ntmps5
  go_wp2_with fail
  refine (new_ok 5 (by omega) (by omega) X).mono ?_
  rintro e w1 ⟨rfl, -, hb1⟩
  have HB1 := Lib.hid hb1
  clear hb1 x0 x1 x2 hX
  obtain ⟨x0, x1, x2⟩ := HKX.out _ HB1.out
  go_wp2_with fail
  refine (CM.out _ _).mono ?_
  rintro e w2 ⟨rfl, hb2⟩
  have HB2 := Lib.hid (HB1.out.trans (hb2.mono HB1.out.size))
  clear hb2 x0 x1 x2
  obtain ⟨x0, x1, x2⟩ := HKX.out _ HB2.out
  have hlx2 : w.heap.size < w2.heap.size := by have := HB2.out.size; have := HKt.out.lt; omega
  go_wp2_with fail
  have HBY := Lib.hid (HB2.out.alloc HB2.out.size (.cells #[.int .i64 0, .int .i64 0, .slice none 0 0] 25))
  refine (CN.out _ (HW.out _ HBY.out)).mono ?_
  rintro e w3 ⟨rfl, hb3⟩
  have HB3 := Lib.hid (HBY.out.trans (hb3.mono HBY.out.size))
  clear hb3 x0 x1 x2
  obtain ⟨x0, x1, x2⟩ := HKX.out _ HB3.out
  go_wp2_with fail
  refine (CL.out _).mono ?_
  rintro e w4 ⟨rfl, hb4⟩
  have HB4 := Lib.hid (HB3.out.trans (hb4.mono HB3.out.size))
  clear hb4 x0 x1 x2
  obtain ⟨x0, x1, x2⟩ := HKX.out _ HB4.out
  go_wp2_with fail
  refine (CV.out _ (HW.out _ HB4.out)).mono ?_
  rintro e w5 ⟨rfl, hb5⟩
  have HB5 := Lib.hid (HB4.out.trans (hb5.mono HB4.out.size))
  clear hb5 x0 x1 x2
  go_wp2_with fail
  refine (CA.out _ (HW.out _ HB5.out)).mono ?_
  rintro e w6 ⟨rfl, hb6⟩
  have HB6 := Lib.hid (HB5.out.trans (hb6.mono HB5.out.size))
  clear hb6
  go_wp2_with fail
  go_ret
  exact ⟨rfl, HW.out _ HB6.out⟩

end Go.Proofs.YtondjkeakfkefaaGreatDoor
