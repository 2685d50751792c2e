import Derived.Test.YtondjkeakfkefaaGreatDoorW3
import Derived.Deep.RegionHeld3
import Derived.Test.YtondjkeakfkefaaGreatDoorVTurn
namespace Go.Proofs.YtondjkeakfkefaaGreatDoor
open Go.RowKit
set_option linter.unusedVariables false
set_option maxRecDepth 100000

set_option maxHeartbeats 1000000 in
theorem wredex_bare (P : Option Addr) (t : TM) (A : Option Addr) (cap : Nat) (w : World) (h : NoEnt w P) (ht : IsTerm w 0 w.heap.size t A cap) (hs : shapedB t = true) (hS : ShapesM w) (hk : (headT t).k = 4) (hx : argsT t = []) :
    Calls Tryz.prog 108 #[.pointer P, termV t A cap] w (NoRedex w) := by
  obtain ⟨q1, q2, q3⟩ := shapedB_true.1 hs
  have HP := Lib.hid (fun (V : World) (hV : Below w.heap.size w V) => (show NoEnt V P from h.over hV))
  have CS := Lib.hid (fun (V : World) (hV : Below w.heap.size w V) => spine_any t 0 w.heap.size A cap V (ht.kept hV (Nat.le_refl _)) hV.size (hS.kept hV) q3 q1 (by omega))
  obtain ⟨H, hH⟩ : ∃ H, headT t = H := ⟨_, rfl⟩
  unfold NoRedex
  rw [hH] at hk
  unfold GivesSp termV at CS
  rw [hH, hx, hk] at CS
  simp only [List.length_nil] at CS
  have CT := Lib.hid (fun (B : Option Addr) (m c : Nat) (V : World) (hV : Below w.heap.size w V) => wtakes_no P 4 H.n B m c V (HP.out V hV))
  unfold takesX at CT
  rw [if_pos rfl] at CT
  obtain ⟨hkk, hn, hl⟩ : ∃ a b c, a = (4 : Int) ∧ b = H.n ∧ c = H.l.length := ⟨_, _, _, rfl, rfl, rfl⟩
  unfold termV
  obtain ⟨X, hX⟩ : ∃ X, (w.alloc (.cells #[.int .i64 t.k, .int .i64 t.n, .slice A t.l.length cap] 25)).alloc (.cells #[.int .i64 0, .int .i64 0, .slice none 0 0, .slice none 0 0, .slice none 0 0] 134) = X := ⟨_, rfl⟩
  have HBX := Lib.hid (show Below w.heap.size w X from by rw [← hX]; exact ((Below.refl _ _).alloc (Nat.le_refl _) _).alloc (by simp) _)
  have HKX := Lib.hid (show Bk X (w.heap.size + 1) 134 #[.int .i64 0, .int .i64 0, .slice none 0 0, .slice none 0 0, .slice none 0 0] from by rw [← hX]; exact Bk.last _ _ _ (by simp))
  have HKT := Lib.hid (show Bk X w.heap.size 25 #[.int .i64 t.k, .int .i64 t.n, .slice A t.l.length cap] from by rw [← hX]; exact (Bk.new _ _ _).alloc _)
  have x0 : X.cell? ⟨w.heap.size, 0, none⟩ = some (.int .i64 t.k) := HKT.out.cell 0
  have x1 : X.cell? ⟨w.heap.size, 1, none⟩ = some (.int .i64 t.n) := HKT.out.cell 1
  have x2 : X.cell? ⟨w.heap.size, 2, none⟩ = some (.slice A t.l.length cap) := HKT.out.cell 2
  clear h ht hs hS q1 q2 q3 hH hk hx
  go_enter Tryz.func108, Tryz.ntmps108
  go_wp2_with fail
  refine (CS.out _ HBX.out).mono ?_
  rintro e w1 ⟨A1, c1, B1, d1, rfl, ht1, ha1, hb1⟩
  have HB1 := Lib.hid (HBX.out.trans (hb1.mono HBX.out.size))
  have HK1 := Lib.hid (HKX.out.below hb1 HKX.out.lt)
  clear ht1 ha1 hb1 hX x0 x1 x2
  go_wp2_with fail
  obtain ⟨Y, hY⟩ : ∃ Y, w1.alloc (.cells #[.int .i64 4, .int .i64 H.n, .slice A1 H.l.length c1] 25) = Y := ⟨_, rfl⟩
  have HBY0 := Lib.hid (show Below w1.heap.size w1 Y from by rw [← hY]; exact (Below.refl _ _).alloc (Nat.le_refl _) _)
  have HBY := Lib.hid (HB1.out.trans (HBY0.out.mono HB1.out.size))
  have HKY := Lib.hid (show Bk Y w1.heap.size 25 #[.int .i64 4, .int .i64 H.n, .slice A1 H.l.length c1] from by rw [← hY]; exact Bk.new _ _ _)
  have y0 : Y.cell? ⟨w1.heap.size, 0, none⟩ = some (.int .i64 4) := HKY.out.cell 0
  have y1 : Y.cell? ⟨w1.heap.size, 1, none⟩ = some (.int .i64 H.n) := HKY.out.cell 1
  have y2 : Y.cell? ⟨w1.heap.size, 2, none⟩ = some (.slice A1 H.l.length c1) := HKY.out.cell 2
  have hzY := HBY0.out.size
  rw [hY]
  refine (CT.out _ _ _ _ HBY.out).mono ?_
  rintro e w2 ⟨rfl, hb2⟩
  have HB2 := Lib.hid (HBY.out.trans (hb2.mono HBY.out.size))
  have HB12 := Lib.hid (HBY0.out.trans (hb2.mono HBY0.out.size))
  have HKR := Lib.hid ((HK1.out.below HBY0.out HK1.out.lt).below hb2 (by have := HK1.out.lt; omega))
  have HKH := Lib.hid (HKY.out.below hb2 HKY.out.lt)
  have HLT := Lib.hid HKH.out.lt
  have h0 : w2.cell? ⟨w1.heap.size, 0, none⟩ = some (.int .i64 4) := HKH.out.cell 0
  have h1 : w2.cell? ⟨w1.heap.size, 1, none⟩ = some (.int .i64 H.n) := HKH.out.cell 1
  have h2 : w2.cell? ⟨w1.heap.size, 2, none⟩ = some (.slice A1 H.l.length c1) := HKH.out.cell 2
  have hfz : ∀ q, w2.frozen? ⟨w.heap.size + 1, q, none⟩ = false := fun q => HKR.out.cold q
  clear y0 y1 y2 hY hb2 hzY
  have hltz : w.heap.size + 1 < w1.heap.size := HK1.out.lt
  have hltz2 : w.heap.size + 1 < w2.heap.size := HKR.out.lt
  have r0 : w2.cell? ⟨w.heap.size + 1, 0, none⟩ = some (.int .i64 0) := HKR.out.cell 0
  have r1 : w2.cell? ⟨w.heap.size + 1, 1, none⟩ = some (.int .i64 0) := HKR.out.cell 1
  have r2 : w2.cell? ⟨w.heap.size + 1, 2, none⟩ = some (.slice none 0 0) := HKR.out.cell 2
  have r3 : w2.cell? ⟨w.heap.size + 1, 3, none⟩ = some (.slice none 0 0) := HKR.out.cell 3
  have r4 : w2.cell? ⟨w.heap.size + 1, 4, none⟩ = some (.slice none 0 0) := HKR.out.cell 4
  have B5 := ((((HKR.out.at_ 0 (.int .i64 0)).at_ 1 (.int .i64 0)).at_ 2 (.slice none 0 0)).at_ 3 (.slice none 0 0)).at_ 4 (.slice none 0 0)
  have HS0 := Lib.hid (B5.cell 0)
  have HS1 := Lib.hid (B5.cell 1)
  have HS2 := Lib.hid (B5.cell 2)
  have HS3 := Lib.hid (B5.cell 3)
  have HS4 := Lib.hid (B5.cell 4)
  clear B5
  go_wp2_with fail
  refine bodyPost_ret (v := .tuple #[.agg #[.int .i64 0, .int .i64 0, .slice none 0 0, .slice none 0 0, .slice none 0 0], .bool false]) (by simp [results, Tryz.results108, go_sem, HS0.out, HS1.out, HS2.out, HS3.out, HS4.out]) rfl ?_
  exact ⟨rfl, ((((HB2.out.setCell (by simp) _).setCell (by simp) _).setCell (by simp) _).setCell (by simp) _).setCell (by simp) _⟩

set_option maxHeartbeats 1000000 in
theorem wbrought_stay (t : TM) (F : Option Addr) (P : Option Addr) (A : Option Addr) (cap : Nat) (w : World) (h : NoEnt w P) (ht : IsTerm w 0 w.heap.size t A cap) (hS : ShapesM w) (hR : ∀ V, Below w.heap.size w V → Calls Tryz.prog 108 #[.pointer P, termV t A cap] V (NoRedex V)) :
    Calls Tryz.prog 80 #[.pointer P, termV t A cap, .pointer F] w fun e w' => e = .returned (.tuple #[termV t A cap, .int .i64 0]) ∧ Below w.heap.size w w' := by
  have HP := Lib.hid (fun (V : World) (hV : Below w.heap.size w V) => (show NoEnt V P from h.over hV))
  have HSS := Lib.hid (fun (V : World) (hV : Below w.heap.size w V) => hS.kept hV)
  have HT := Lib.hid (fun (V : World) (hV : Below w.heap.size w V) => (show IsTerm V 0 w.heap.size t A cap from ht.kept hV (Nat.le_refl _)))
  have HR := Lib.hid hR
  unfold NoRedex termV at HR
  unfold termV
  obtain ⟨X, hX⟩ : ∃ X, ((w.alloc (.cells #[.int .i64 t.k, .int .i64 t.n, .slice A t.l.length cap] 25)).alloc (.cells #[.int .i64 0, .int .i64 0, .slice none 0 0] 25)).alloc (.cells #[.int .i64 t.k, .int .i64 t.n, .slice A t.l.length cap] 25) = X := ⟨_, rfl⟩
  have HBX := Lib.hid (show Below w.heap.size w X from by rw [← hX]; exact (((Below.refl _ _).alloc (Nat.le_refl _) _).alloc (by simp) _).alloc (by simp; omega) _)
  have HKt := Lib.hid (show Bk X w.heap.size 25 #[.int .i64 t.k, .int .i64 t.n, .slice A t.l.length cap] from by rw [← hX]; exact ((Bk.new _ _ _).alloc _).alloc _)
  have HKr := Lib.hid (show Bk X (w.heap.size + 1) 25 #[.int .i64 0, .int .i64 0, .slice none 0 0] from by rw [← hX]; exact (Bk.last _ _ _ (by simp)).alloc _)
  have HKw := Lib.hid (show Bk X (w.heap.size + 1 + 1) 25 #[.int .i64 t.k, .int .i64 t.n, .slice A t.l.length cap] from by rw [← hX]; exact Bk.last _ _ _ (by simp))
  have x0 : X.cell? ⟨w.heap.size, 0, none⟩ = some (.int .i64 t.k) := HKt.out.cell 0
  have x1 : X.cell? ⟨w.heap.size, 1, none⟩ = some (.int .i64 t.n) := HKt.out.cell 1
  have x2 : X.cell? ⟨w.heap.size, 2, none⟩ = some (.slice A t.l.length cap) := HKt.out.cell 2
  have y0 : X.cell? ⟨w.heap.size + 1 + 1, 0, none⟩ = some (.int .i64 t.k) := HKw.out.cell 0
  have y1 : X.cell? ⟨w.heap.size + 1 + 1, 1, none⟩ = some (.int .i64 t.n) := HKw.out.cell 1
  have y2 : X.cell? ⟨w.heap.size + 1 + 1, 2, none⟩ = some (.slice A t.l.length cap) := HKw.out.cell 2
  have hfy : ∀ q, X.frozen? ⟨w.heap.size + 1 + 1, q, none⟩ = false := fun q => HKw.out.cold q
  clear h ht hS hR
  go_enter Tryz.func80, Tryz.ntmps80
  go_wp2_with fail
  go_step3
  go_wp2_with fail
  go_step3
  go_wp2_with fail
  refine wp_loop_rounds 1 ?_
  rw [rounds_succ]
  go_wp2_with fail
  have HBZ := Lib.hid (Below.st (g := w.heap.size + 1 + 1) (q := 2) (Below.st (g := w.heap.size + 1 + 1) (q := 1) (Below.st (g := w.heap.size + 1 + 1) (q := 0) HBX.out (by omega) (.int .i64 t.k)) (by omega) (.int .i64 t.n)) (by omega) (.slice A t.l.length cap))
  have HrZ := Lib.hid (((HKr.out.far (a := ⟨w.heap.size + 1 + 1, 0, none⟩) (by simp) (.int .i64 t.k)).far (a := ⟨w.heap.size + 1 + 1, 1, none⟩) (by simp) (.int .i64 t.n)).far (a := ⟨w.heap.size + 1 + 1, 2, none⟩) (by simp) (.slice A t.l.length cap))
  have HwZ := Lib.hid (((HKw.out.at_ 0 (.int .i64 t.k)).at_ 1 (.int .i64 t.n)).at_ 2 (.slice A t.l.length cap))
  obtain ⟨Z, hZ⟩ : ∃ Z, ((X.setCell ⟨w.heap.size + 1 + 1, 0, none⟩ (.int .i64 t.k)).setCell ⟨w.heap.size + 1 + 1, 1, none⟩ (.int .i64 t.n)).setCell ⟨w.heap.size + 1 + 1, 2, none⟩ (.slice A t.l.length cap) = Z := ⟨_, rfl⟩
  rw [hZ] at HBZ HrZ HwZ ⊢
  clear hX hZ x0 x1 x2 y0 y1 y2 hfy
  refine (HR.out Z HBZ.out).mono ?_
  rintro e w1 ⟨rfl, hb1⟩
  have HB1 := Lib.hid (HBZ.out.trans (hb1.mono HBZ.out.size))
  have Hr1 := Lib.hid (HrZ.out.below hb1 HrZ.out.lt)
  have Hw1 := Lib.hid (HwZ.out.below hb1 HwZ.out.lt)
  clear hb1
  have hlr := Hr1.out.lt
  have hlw := Hw1.out.lt
  have hfz : ∀ q, w1.frozen? ⟨w.heap.size + 1, q, none⟩ = false := fun q => Hr1.out.cold q
  have y0 : w1.cell? ⟨w.heap.size + 1 + 1, 0, none⟩ = some (.int .i64 t.k) := Hw1.out.cell 0
  have y1 : w1.cell? ⟨w.heap.size + 1 + 1, 1, none⟩ = some (.int .i64 t.n) := Hw1.out.cell 1
  have y2 : w1.cell? ⟨w.heap.size + 1 + 1, 2, none⟩ = some (.slice A t.l.length cap) := Hw1.out.cell 2
  have r0 : w1.cell? ⟨w.heap.size + 1, 0, none⟩ = some (.int .i64 0) := Hr1.out.cell 0
  have r1 : w1.cell? ⟨w.heap.size + 1, 1, none⟩ = some (.int .i64 0) := Hr1.out.cell 1
  have r2 : w1.cell? ⟨w.heap.size + 1, 2, none⟩ = some (.slice none 0 0) := Hr1.out.cell 2
  have B5 := (((Hr1.out.at_ 0 (.int .i64 t.k)).at_ 1 (.int .i64 t.n)).at_ 2 (.slice A t.l.length cap)).al (.cells #[.int .i64 0, .int .i64 0, .slice none 0 0, .slice none 0 0, .slice none 0 0] 134)
  have HS0 := Lib.hid (B5.cell 0)
  have HS1 := Lib.hid (B5.cell 1)
  have HS2 := Lib.hid (B5.cell 2)
  clear B5
  go_wp2_with fail
  rw [Exit.noGoto_ret]
  refine bodyPost_ret (v := .tuple #[.agg #[.int .i64 t.k, .int .i64 t.n, .slice A t.l.length cap], .int .i64 0]) (by simp [results, Tryz.results80, go_sem, HS0.out, HS1.out, HS2.out]) rfl ?_
  have B6 := Below.st (g := w.heap.size + 1) (q := 2) (Below.st (g := w.heap.size + 1) (q := 1) (Below.st (g := w.heap.size + 1) (q := 0) HB1.out (by omega) (.int .i64 t.k)) (by omega) (.int .i64 t.n)) (by omega) (.slice A t.l.length cap)
  exact ⟨rfl, B6.alloc B6.size _⟩

set_option maxHeartbeats 1000000 in
theorem wBring_stay (t : TM) (F : Option Addr) (hs : shapedB t = true) (hr : trightB t 1048577 0 = true) (g : Nat) (A : Option Addr) (cap : Nat) (w : World) (h : NilM w g) (ht : IsTerm w 0 w.heap.size t A cap) (hS : ShapesM w) (hR : ∀ V, Below w.heap.size w V → Calls Tryz.prog 108 #[.pointer (some ⟨g, 0, none⟩), termV t A cap] V (NoRedex V)) :
    Calls Tryz.prog 55 #[.pointer (some ⟨g, 0, none⟩), termV t A cap, .pointer F] w fun e w' => ∃ G c, e = .returned (.tuple #[.agg #[.int .i64 t.k, .int .i64 t.n, .slice G t.l.length c], .int .i64 0]) ∧ IsTerm w' w.heap.size w'.heap.size t G c ∧ Below w.heap.size w w' := by
  obtain ⟨X, hX⟩ : ∃ X, (w.alloc (.cells #[.int .i64 t.k, .int .i64 t.n, .slice A t.l.length cap] 25)).alloc (.cells #[.int .i64 0, .int .i64 0, .slice none 0 0] 25) = X := ⟨_, rfl⟩
  have HBX := Lib.hid (show Below w.heap.size w X from by rw [← hX]; exact ((Below.refl _ _).alloc (Nat.le_refl _) _).alloc (by simp) _)
  have HKt := Lib.hid (show Bk X w.heap.size 25 #[.int .i64 t.k, .int .i64 t.n, .slice A t.l.length cap] from by rw [← hX]; exact (Bk.new _ _ _).alloc _)
  have HKr := Lib.hid (show Bk X (w.heap.size + 1) 25 #[.int .i64 0, .int .i64 0, .slice none 0 0] from by rw [← hX]; exact Bk.last _ _ _ (by simp))
  have x0 : X.cell? ⟨w.heap.size, 0, none⟩ = some (.int .i64 t.k) := HKt.out.cell 0
  have x1 : X.cell? ⟨w.heap.size, 1, none⟩ = some (.int .i64 t.n) := HKt.out.cell 1
  have x2 : X.cell? ⟨w.heap.size, 2, none⟩ = some (.slice A t.l.length cap) := HKt.out.cell 2
  have CM := Lib.hid (wmay_zero t A cap g X (h.over HBX.out) ((ht.kept HBX.out (Nat.le_refl _)).wide (Nat.le_refl _) HBX.out.size) (hS.kept HBX.out))
  rw [hr] at CM
  have CB := Lib.hid (fun (V : World) (hV : Below w.heap.size w V) => wbrought_stay t F (some ⟨g, 0, none⟩) A cap V (.inr ⟨g, rfl, h.over hV⟩) ((ht.kept hV (Nat.le_refl _)).wide (Nat.le_refl _) hV.size) (hS.kept hV) (fun Z hZ => hR Z (hV.trans (hZ.mono hV.size))))
  have CC := Lib.hid (fun (V : World) (hV : Below w.heap.size w V) => copy_to t 0 w.heap.size A cap V (ht.kept hV (Nat.le_refl _)) hV.size (hS.kept hV))
  unfold CopyTo at CC
  rw [copyT_shaped hs] at CC
  unfold termV at CB CC
  unfold termV
  clear h ht hS hR hr hs
  go_enter Tryz.func55, Tryz.ntmps55
  go_wp2_with fail
  refine CM.out.mono ?_
  rintro e w1 ⟨rfl, hb1⟩
  have HB1 := Lib.hid (HBX.out.trans (hb1.mono HBX.out.size))
  have Ht1 := Lib.hid (HKt.out.below hb1 HKt.out.lt)
  have Hr1 := Lib.hid (HKr.out.below hb1 HKr.out.lt)
  have t0 : w1.cell? ⟨w.heap.size, 0, none⟩ = some (.int .i64 t.k) := Ht1.out.cell 0
  have t1 : w1.cell? ⟨w.heap.size, 1, none⟩ = some (.int .i64 t.n) := Ht1.out.cell 1
  have t2 : w1.cell? ⟨w.heap.size, 2, none⟩ = some (.slice A t.l.length cap) := Ht1.out.cell 2
  clear hb1 hX x0 x1 x2
  go_wp2_with fail
  refine (CB.out _ HB1.out).mono ?_
  rintro e w2 ⟨rfl, hb2⟩
  have HB2 := Lib.hid (HB1.out.trans (hb2.mono HB1.out.size))
  have Ht2 := Lib.hid (Ht1.out.below hb2 Ht1.out.lt)
  have Hr2 := Lib.hid (Hr1.out.below hb2 Hr1.out.lt)
  have hlt2 := Ht2.out.lt
  have hlr2 := Hr2.out.lt
  have hft : ∀ q, w2.frozen? ⟨w.heap.size, q, none⟩ = false := fun q => Ht2.out.cold q
  have u0 : w2.cell? ⟨w.heap.size, 0, none⟩ = some (.int .i64 t.k) := Ht2.out.cell 0
  have u1 : w2.cell? ⟨w.heap.size, 1, none⟩ = some (.int .i64 t.n) := Ht2.out.cell 1
  have u2 : w2.cell? ⟨w.heap.size, 2, none⟩ = some (.slice A t.l.length cap) := Ht2.out.cell 2
  clear hb2 t0 t1 t2
  go_wp2_with fail
  have HrV := Lib.hid (((Hr2.out.far (a := ⟨w.heap.size, 0, none⟩) (by show w.heap.size + 1 ≠ w.heap.size; omega) (.int .i64 t.k)).far (a := ⟨w.heap.size, 1, none⟩) (by show w.heap.size + 1 ≠ w.heap.size; omega) (.int .i64 t.n)).far (a := ⟨w.heap.size, 2, none⟩) (by show w.heap.size + 1 ≠ w.heap.size; omega) (.slice A t.l.length cap))
  have HBV := Lib.hid (Below.st (g := w.heap.size) (q := 2) (Below.st (g := w.heap.size) (q := 1) (Below.st (g := w.heap.size) (q := 0) HB2.out (by omega) (.int .i64 t.k)) (by omega) (.int .i64 t.n)) (by omega) (.slice A t.l.length cap))
  obtain ⟨V, hV⟩ : ∃ V, ((w2.setCell ⟨w.heap.size, 0, none⟩ (.int .i64 t.k)).setCell ⟨w.heap.size, 1, none⟩ (.int .i64 t.n)).setCell ⟨w.heap.size, 2, none⟩ (.slice A t.l.length cap) = V := ⟨_, rfl⟩
  rw [hV] at HrV HBV ⊢
  clear hV u0 u1 u2 hft
  refine (CC.out V HBV.out).mono ?_
  rintro e w3 ⟨F3, c3, rfl, hc3, hb3⟩
  have HC3 := Lib.hid (show TermIn w3 (fun b => V.heap.size ≤ b ∧ b < w3.heap.size) t F3 c3 from hc3)
  have HB3 := Lib.hid (HBV.out.trans (hb3.mono HBV.out.size))
  have Hr3 := Lib.hid (HrV.out.below hb3 HrV.out.lt)
  have hlr3 := Hr3.out.lt
  have hfr : ∀ q, w3.frozen? ⟨w.heap.size + 1, q, none⟩ = false := fun q => Hr3.out.cold q
  have r0 : w3.cell? ⟨w.heap.size + 1, 0, none⟩ = some (.int .i64 0) := Hr3.out.cell 0
  have r1 : w3.cell? ⟨w.heap.size + 1, 1, none⟩ = some (.int .i64 0) := Hr3.out.cell 1
  have r2 : w3.cell? ⟨w.heap.size + 1, 2, none⟩ = some (.slice none 0 0) := Hr3.out.cell 2
  have B5 := ((Hr3.out.at_ 0 (.int .i64 t.k)).at_ 1 (.int .i64 t.n)).at_ 2 (.slice F3 t.l.length c3)
  have HS0 := Lib.hid (B5.cell 0)
  have HS1 := Lib.hid (B5.cell 1)
  have HS2 := Lib.hid (B5.cell 2)
  clear B5 hb3 hc3
  go_wp2_with fail
  refine bodyPost_ret (v := .tuple #[.agg #[.int .i64 t.k, .int .i64 t.n, .slice F3 t.l.length c3], .int .i64 0]) (by simp [results, Tryz.results55, go_sem, HS0.out, HS1.out, HS2.out]) rfl ?_
  have hzz := HBV.out.size
  have hrl := HrV.out.lt
  exact ⟨F3, c3, rfl, (TermIn.three (g := w.heap.size + 1) HC3.out (fun b hb => by have := hb.1; omega) _ _ _).imp (fun _ _ _ => rfl) (fun b hb => ⟨by have := hb.1; omega, by rw [size_three]; exact hb.2⟩), Below.st (g := w.heap.size + 1) (q := 2) (Below.st (g := w.heap.size + 1) (q := 1) (Below.st (g := w.heap.size + 1) (q := 0) HB3.out (by omega) _) (by omega) _) (by omega) _⟩



theorem Bk.up {b g : Nat} {w w' : World} {e : TypeId} {cs : Array Value} (h : Bk w g e cs) (hu : Up b w w') (h1 : g ≠ b) : Bk w' g e cs := (hu.block g h.lt (fun e => h1 (by injection e))).trans h
theorem own_none (t : TM) (A : Option Addr) (cap : Nat) (w : World) (ht : IsTerm w 0 w.heap.size t A cap) (hS : ShapesM w) :
    Calls Tryz.prog 30 #[.pointer none, termV t A cap] w fun e w' => e = .returned (.tuple #[.slice none 0 0, .bool false]) ∧ Below w.heap.size w w' := by
  have HT := Lib.hid (fun (V : World) (hV : Below w.heap.size w V) => (show IsTerm V 0 V.heap.size t A cap from (ht.kept hV (Nat.le_refl _)).wide (Nat.le_refl _) hV.size))
  have HSS := Lib.hid (fun (V : World) (hV : Below w.heap.size w V) => hS.kept hV)
  have CC := Lib.hid (fun (V : World) (hV : Below w.heap.size w V) => wCon_none t A cap V (HT.out V hV) (HSS.out V hV))
  unfold termV at CC
  unfold termV
  obtain ⟨X, hX⟩ : ∃ X, w.alloc (.cells #[.int .i64 t.k, .int .i64 t.n, .slice A t.l.length cap] 25) = X := ⟨_, rfl⟩
  have HBX := Lib.hid (show Below w.heap.size w X from by rw [← hX]; exact (Below.refl _ _).alloc (Nat.le_refl _) _)
  have HKt := Lib.hid (show Bk X w.heap.size 25 #[.int .i64 t.k, .int .i64 t.n, .slice A t.l.length cap] from by rw [← hX]; exact Bk.new _ _ _)
  have x0 : X.cell? ⟨w.heap.size, 0, none⟩ = some (.int .i64 t.k) := HKt.out.cell 0
  have x1 : X.cell? ⟨w.heap.size, 1, none⟩ = some (.int .i64 t.n) := HKt.out.cell 1
  have x2 : X.cell? ⟨w.heap.size, 2, none⟩ = some (.slice A t.l.length cap) := HKt.out.cell 2
  clear ht hS
  go_enter Tryz.func30, Tryz.ntmps30
  go_wp2_with fail
  refine (CC.out _ HBX.out).mono ?_
  rintro e w1 ⟨rfl, hb1⟩
  have HB1 := Lib.hid (HBX.out.trans (hb1.mono HBX.out.size))
  clear hb1 hX x0 x1 x2
  go_wp2_with fail
  refine bodyPost_ret (v := .tuple #[.slice none 0 0, .bool false]) (by simp [results, Tryz.results30, go_sem]) rfl ?_
  exact ⟨rfl, HB1.out⟩

theorem number_none (t : TM) (A : Option Addr) (cap : Nat) (w : World) (ht : IsTerm w 0 w.heap.size t A cap) (hS : ShapesM w) :
    Calls Tryz.prog 19 #[.pointer none, termV t A cap] w fun e w' => e = .returned (.tuple #[.int .i64 0, .bool false]) ∧ Below w.heap.size w w' := by
  have HT := Lib.hid (fun (V : World) (hV : Below w.heap.size w V) => (show IsTerm V 0 V.heap.size t A cap from (ht.kept hV (Nat.le_refl _)).wide (Nat.le_refl _) hV.size))
  have HSS := Lib.hid (fun (V : World) (hV : Below w.heap.size w V) => hS.kept hV)
  have CC := Lib.hid (fun (V : World) (hV : Below w.heap.size w V) => own_none t A cap V (HT.out V hV) (HSS.out V hV))
  unfold termV at CC
  unfold termV
  obtain ⟨X, hX⟩ : ∃ X, w.alloc (.cells #[.int .i64 t.k, .int .i64 t.n, .slice A t.l.length cap] 25) = X := ⟨_, rfl⟩
  have HBX := Lib.hid (show Below w.heap.size w X from by rw [← hX]; exact (Below.refl _ _).alloc (Nat.le_refl _) _)
  have HKt := Lib.hid (show Bk X w.heap.size 25 #[.int .i64 t.k, .int .i64 t.n, .slice A t.l.length cap] from by rw [← hX]; exact Bk.new _ _ _)
  have x0 : X.cell? ⟨w.heap.size, 0, none⟩ = some (.int .i64 t.k) := HKt.out.cell 0
  have x1 : X.cell? ⟨w.heap.size, 1, none⟩ = some (.int .i64 t.n) := HKt.out.cell 1
  have x2 : X.cell? ⟨w.heap.size, 2, none⟩ = some (.slice A t.l.length cap) := HKt.out.cell 2
  clear ht hS
  go_enter Tryz.func19, Tryz.ntmps19
  go_wp2_with fail
  refine wp_loop_rounds 1 ?_
  rw [rounds_succ]
  go_wp2_with fail
  refine (CC.out _ HBX.out).mono ?_
  rintro e w1 ⟨rfl, hb1⟩
  have HB1 := Lib.hid (HBX.out.trans (hb1.mono HBX.out.size))
  clear hb1 hX x0 x1 x2
  go_wp2_with fail
  refine bodyPost_ret (v := .tuple #[.int .i64 0, .bool false]) (by simp [results, Tryz.results19, go_sem]) rfl ?_
  exact ⟨rfl, HB1.out⟩

theorem value_none (t : TM) (A : Option Addr) (cap : Nat) (w : World) (ht : IsTerm w 0 w.heap.size t A cap) (hS : ShapesM w) :
    Calls Tryz.prog 15 #[.pointer none, termV t A cap] w fun e w' => e = .returned (.bool false) ∧ Below w.heap.size w w' := by
  have HT := Lib.hid (fun (V : World) (hV : Below w.heap.size w V) => (show IsTerm V 0 V.heap.size t A cap from (ht.kept hV (Nat.le_refl _)).wide (Nat.le_refl _) hV.size))
  have HSS := Lib.hid (fun (V : World) (hV : Below w.heap.size w V) => hS.kept hV)
  have CC := Lib.hid (fun (V : World) (hV : Below w.heap.size w V) => own_none t A cap V (HT.out V hV) (HSS.out V hV))
  unfold termV at CC
  unfold termV
  obtain ⟨X, hX⟩ : ∃ X, (w.alloc (.cells #[.pointer none] 31)).alloc (.cells #[.int .i64 t.k, .int .i64 t.n, .slice A t.l.length cap] 25) = X := ⟨_, rfl⟩
  have HBX := Lib.hid (show Below w.heap.size w X from by rw [← hX]; exact ((Below.refl _ _).alloc (Nat.le_refl _) _).alloc (by simp) _)
  have HKm := Lib.hid (show Bk X w.heap.size 31 #[.pointer none] from by rw [← hX]; exact (Bk.new _ _ _).alloc _)
  have HKt := Lib.hid (show Bk X (w.heap.size + 1) 25 #[.int .i64 t.k, .int .i64 t.n, .slice A t.l.length cap] from by rw [← hX]; exact Bk.last _ _ _ (by simp))
  have m0 : X.cell? ⟨w.heap.size, 0, none⟩ = some (.pointer none) := HKm.out.cell 0
  have x0 : X.cell? ⟨w.heap.size + 1, 0, none⟩ = some (.int .i64 t.k) := HKt.out.cell 0
  have x1 : X.cell? ⟨w.heap.size + 1, 1, none⟩ = some (.int .i64 t.n) := HKt.out.cell 1
  have x2 : X.cell? ⟨w.heap.size + 1, 2, none⟩ = some (.slice A t.l.length cap) := HKt.out.cell 2
  clear ht hS
  go_enter Tryz.func15, Tryz.ntmps15
  go_wp2_with fail
  refine (CC.out _ HBX.out).mono ?_
  rintro e w1 ⟨rfl, hb1⟩
  have HB1 := Lib.hid (HBX.out.trans (hb1.mono HBX.out.size))
  clear hb1 hX m0 x0 x1 x2
  go_wp2_with fail
  go_ret
  exact ⟨rfl, HB1.out⟩

def bldV (P F : Option Addr) (n : Int) (z : Bool) : Array Value := #[.pointer P, .pointer F, .int .i64 n, .bool z]
/-- build of a builder without a machine. -/
theorem build_none (t : TM) (A : Option Addr) (cap : Nat) (gb : Nat) (F : Option Addr) (w : World) (hk : Bk w gb 73 (bldV none F 0 false)) :
    Calls Tryz.prog 36 #[.pointer (some ⟨gb, 0, none⟩), termV t A cap, .int .i64 1] w fun e w' => e = .returned (.tuple #[.agg #[.int .i64 0, .int .i64 0, .slice none 0 0], .int .i64 5]) ∧ Up gb w w' := by
  unfold termV
  unfold bldV at hk
  have hgb := hk.lt
  obtain ⟨X, hX⟩ : ∃ X, (w.alloc (.cells #[.int .i64 t.k, .int .i64 t.n, .slice A t.l.length cap] 25)).alloc (.cells #[.int .i64 0, .int .i64 0, .slice none 0 0] 25) = X := ⟨_, rfl⟩
  have HBX := Lib.hid (show Below w.heap.size w X from by rw [← hX]; exact ((Below.refl _ _).alloc (Nat.le_refl _) _).alloc (by simp) _)
  have HKt := Lib.hid (show Bk X w.heap.size 25 #[.int .i64 t.k, .int .i64 t.n, .slice A t.l.length cap] from by rw [← hX]; exact (Bk.new _ _ _).alloc _)
  have HKr := Lib.hid (show Bk X (w.heap.size + 1) 25 #[.int .i64 0, .int .i64 0, .slice none 0 0] from by rw [← hX]; exact Bk.last _ _ _ (by simp))
  have HKb := Lib.hid (hk.below HBX.out hgb)
  have b0 : X.cell? ⟨gb, 0, none⟩ = some (.pointer none) := HKb.out.cell 0
  have b1 : X.cell? ⟨gb, 1, none⟩ = some (.pointer F) := HKb.out.cell 1
  have b3 : X.cell? ⟨gb, 3, none⟩ = some (.bool false) := HKb.out.cell 3
  have hfb : ∀ q, X.frozen? ⟨gb, q, none⟩ = false := fun q => HKb.out.cold q
  have x0 : X.cell? ⟨w.heap.size, 0, none⟩ = some (.int .i64 t.k) := HKt.out.cell 0
  have x1 : X.cell? ⟨w.heap.size, 1, none⟩ = some (.int .i64 t.n) := HKt.out.cell 1
  have x2 : X.cell? ⟨w.heap.size, 2, none⟩ = some (.slice A t.l.length cap) := HKt.out.cell 2
  have hne : w.heap.size ≠ gb := by omega
  have hlX := HKb.out.lt
  have HHX := Lib.hid hX
  have HKbZ := Lib.hid (HKb.out.at_ 3 (.bool false))
  have HKtZ := Lib.hid (HKt.out.far (a := ⟨gb, 3, none⟩) (by show w.heap.size ≠ gb; omega) (.bool false))
  have HKrZ := Lib.hid (HKr.out.far (a := ⟨gb, 3, none⟩) (by show w.heap.size + 1 ≠ gb; omega) (.bool false))
  have HUZ := Lib.hid ((Up.of HBX.out : Up gb w X).trans (Up.set 3 (.bool false)))
  obtain ⟨Z, hZ⟩ : ∃ Z, X.setCell ⟨gb, 3, none⟩ (.bool false) = Z := ⟨_, rfl⟩
  rw [hZ] at HKbZ HKtZ HKrZ HUZ
  have z3 : Z.cell? ⟨gb, 3, none⟩ = some (.bool false) := HKbZ.out.cell 3
  have hlZ := HKbZ.out.lt
  have hlt := HKtZ.out.lt
  have hlr := HKrZ.out.lt
  have HK := Lib.hid (fun (V : World) (hV : Below Z.heap.size Z V) => (show V.cell? ⟨gb, 0, none⟩ = some (.pointer none) ∧ V.cell? ⟨gb, 1, none⟩ = some (.pointer F) ∧ V.cell? ⟨w.heap.size, 0, none⟩ = some (.int .i64 t.k) ∧ V.cell? ⟨w.heap.size, 1, none⟩ = some (.int .i64 t.n) ∧ V.cell? ⟨w.heap.size, 2, none⟩ = some (.slice A t.l.length cap) ∧ (∀ q, V.frozen? ⟨w.heap.size, q, none⟩ = false) from by
    have k1 := HKbZ.out.below hV HKbZ.out.lt
    have k2 := HKtZ.out.below hV HKtZ.out.lt
    exact ⟨k1.cell 0, k1.cell 1, k2.cell 0, k2.cell 1, k2.cell 2, fun q => k2.cold q⟩))
  clear hk
  go_enter Tryz.func36, Tryz.ntmps36
  go_upto_region 4 with fail
  have hbk := Lib.hid ((Below.refl Z.heap.size Z).drew)
  clear hX hZ z3 b0 b1 b3 hfb x0 x1 x2
  obtain ⟨b0, b1, x0, x1, x2, hfz⟩ := HK.out _ hbk.out
  go_region_law
    (first
     | (go_simp; go_at_call 55; refine (wBring_none t.k t.n A t.l.length cap F _).mono ?_; rintro e w3 ⟨rfl, hbn⟩; have hbk := Lib.hid (hbk.out.trans (hbn.mono hbk.out.size)); clear hbn b0 b1 x0 x1 x2 hfz; obtain ⟨b0, b1, x0, x1, x2, hfz⟩ := HK.out _ hbk.out))
  all_goals
    have hzb := hbk.out.size
    have Kr := HKrZ.out.below hbk.out (by omega)
    have hfr : ∀ o, w3.frozen? ⟨w.heap.size + 1, o, none⟩ = false := fun o => Kr.cold o
    have r0 : w3.cell? ⟨w.heap.size + 1, 0, none⟩ = some (.int .i64 0) := Kr.cell 0
    have r1 : w3.cell? ⟨w.heap.size + 1, 1, none⟩ = some (.int .i64 0) := Kr.cell 1
    have r2 : w3.cell? ⟨w.heap.size + 1, 2, none⟩ = some (.slice none 0 0) := Kr.cell 2
    have HU3 := Lib.hid (Up.st (q := 2) (Up.st (q := 1) (Up.st (q := 0) (HUZ.out.trans (Up.of hbk.out)) (g := w.heap.size) (Nat.le_refl _) (.int .i64 0)) (g := w.heap.size) (Nat.le_refl _) (.int .i64 0)) (g := w.heap.size) (Nat.le_refl _) (.slice none 0 0))
    have E5 := (((((Kr.far (a := ⟨w.heap.size, 0, none⟩) (by show w.heap.size + 1 ≠ w.heap.size; omega) (.int .i64 0)).far (a := ⟨w.heap.size, 1, none⟩) (by show w.heap.size + 1 ≠ w.heap.size; omega) (.int .i64 0)).far (a := ⟨w.heap.size, 2, none⟩) (by show w.heap.size + 1 ≠ w.heap.size; omega) (.slice none 0 0)).at_ 0 (.int .i64 0)).at_ 1 (.int .i64 0)).at_ 2 (.slice none 0 0)
    have HS0 := Lib.hid (E5.cell 0)
    have HS1 := Lib.hid (E5.cell 1)
    have HS2 := Lib.hid (E5.cell 2)
    clear E5 Kr
    go_wp2_with fail
    refine bodyPost_ret (v := .tuple #[.agg #[.int .i64 0, .int .i64 0, .slice none 0 0], .int .i64 5]) (by simp [results, Tryz.results36, go_sem, HS0.out, HS1.out, HS2.out]) rfl ?_
    exact ⟨rfl, Up.st (q := 2) (Up.st (q := 1) (Up.st (q := 0) HU3.out (g := w.heap.size + 1) (by omega) _) (g := w.heap.size + 1) (by omega) _) (g := w.heap.size + 1) (by omega) _⟩

theorem norm_none (t : TM) (A : Option Addr) (cap : Nat) (F : Option Addr) (w : World) :
    Calls Tryz.prog 18 #[.pointer none, termV t A cap, .pointer F] w fun e w' => e = .returned (.tuple #[.agg #[.int .i64 0, .int .i64 0, .slice none 0 0], .int .i64 5]) ∧ Below w.heap.size w w' := by
  have CB := Lib.hid (fun (g : Nat) (V : World) (hk : Bk V g 73 (bldV none F 0 false)) => build_none t A cap g F V hk)
  unfold termV bldV at CB
  unfold termV
  obtain ⟨X, hX⟩ : ∃ X, (w.alloc (.cells #[.int .i64 t.k, .int .i64 t.n, .slice A t.l.length cap] 25)).alloc (.cells #[.int .i64 0, .int .i64 0, .slice none 0 0] 25) = X := ⟨_, rfl⟩
  have HBX := Lib.hid (show Below w.heap.size w X from by rw [← hX]; exact ((Below.refl _ _).alloc (Nat.le_refl _) _).alloc (by simp) _)
  have HKt := Lib.hid (show Bk X w.heap.size 25 #[.int .i64 t.k, .int .i64 t.n, .slice A t.l.length cap] from by rw [← hX]; exact (Bk.new _ _ _).alloc _)
  have HKr := Lib.hid (show Bk X (w.heap.size + 1) 25 #[.int .i64 0, .int .i64 0, .slice none 0 0] from by rw [← hX]; exact Bk.last _ _ _ (by simp))
  have x0 : X.cell? ⟨w.heap.size, 0, none⟩ = some (.int .i64 t.k) := HKt.out.cell 0
  have x1 : X.cell? ⟨w.heap.size, 1, none⟩ = some (.int .i64 t.n) := HKt.out.cell 1
  have x2 : X.cell? ⟨w.heap.size, 2, none⟩ = some (.slice A t.l.length cap) := HKt.out.cell 2
  obtain ⟨Y, hY⟩ : ∃ Y, X.alloc (.cells #[.pointer none, .pointer F, .int .i64 0, .bool false] 73) = Y := ⟨_, rfl⟩
  have HBY := Lib.hid (show Below w.heap.size w Y from by rw [← hY]; exact HBX.out.alloc HBX.out.size _)
  have HKb := Lib.hid (show Bk Y X.heap.size 73 #[.pointer none, .pointer F, .int .i64 0, .bool false] from by rw [← hY]; exact Bk.new _ _ _)
  have HKtY := Lib.hid (show Bk Y w.heap.size 25 #[.int .i64 t.k, .int .i64 t.n, .slice A t.l.length cap] from by rw [← hY]; exact HKt.out.alloc _)
  have HKrY := Lib.hid (show Bk Y (w.heap.size + 1) 25 #[.int .i64 0, .int .i64 0, .slice none 0 0] from by rw [← hY]; exact HKr.out.alloc _)
  have hlX := HKr.out.lt
  have hlY := HKb.out.lt
  have y0 : Y.cell? ⟨w.heap.size, 0, none⟩ = some (.int .i64 t.k) := HKtY.out.cell 0
  have y1 : Y.cell? ⟨w.heap.size, 1, none⟩ = some (.int .i64 t.n) := HKtY.out.cell 1
  have y2 : Y.cell? ⟨w.heap.size, 2, none⟩ = some (.slice A t.l.length cap) := HKtY.out.cell 2
  go_enter Tryz.func18, Tryz.ntmps18
  go_wp2_with fail
  clear hX hY x0 x1 x2
  refine (CB.out _ _ HKb.out).mono ?_
  rintro e w3 ⟨rfl, hup⟩
  have Kt := Lib.hid (HKtY.out.up hup (by omega))
  have Kr := Lib.hid (HKrY.out.up hup (by omega))
  have HU3 := Lib.hid (HBY.out.trans (hup.below (B := w.heap.size) (by omega) (by omega)))
  have hlt := Kt.out.lt
  have hlr := Kr.out.lt
  have hft : ∀ q, w3.frozen? ⟨w.heap.size, q, none⟩ = false := fun q => Kt.out.cold q
  have hfr : ∀ q, w3.frozen? ⟨w.heap.size + 1, q, none⟩ = false := fun q => Kr.out.cold q
  have u0 : w3.cell? ⟨w.heap.size, 0, none⟩ = some (.int .i64 t.k) := Kt.out.cell 0
  have u1 : w3.cell? ⟨w.heap.size, 1, none⟩ = some (.int .i64 t.n) := Kt.out.cell 1
  have u2 : w3.cell? ⟨w.heap.size, 2, none⟩ = some (.slice A t.l.length cap) := Kt.out.cell 2
  have r0 : w3.cell? ⟨w.heap.size + 1, 0, none⟩ = some (.int .i64 0) := Kr.out.cell 0
  have r1 : w3.cell? ⟨w.heap.size + 1, 1, none⟩ = some (.int .i64 0) := Kr.out.cell 1
  have r2 : w3.cell? ⟨w.heap.size + 1, 2, none⟩ = some (.slice none 0 0) := Kr.out.cell 2
  have E5 := (((((Kr.out.far (a := ⟨w.heap.size, 0, none⟩) (by show w.heap.size + 1 ≠ w.heap.size; omega) (.int .i64 0)).far (a := ⟨w.heap.size, 1, none⟩) (by show w.heap.size + 1 ≠ w.heap.size; omega) (.int .i64 0)).far (a := ⟨w.heap.size, 2, none⟩) (by show w.heap.size + 1 ≠ w.heap.size; omega) (.slice none 0 0)).at_ 0 (.int .i64 0)).at_ 1 (.int .i64 0)).at_ 2 (.slice none 0 0)
  have HS0 := Lib.hid (E5.cell 0)
  have HS1 := Lib.hid (E5.cell 1)
  have HS2 := Lib.hid (E5.cell 2)
  clear E5 hup y0 y1 y2
  go_wp2_with fail
  refine bodyPost_ret (v := .tuple #[.agg #[.int .i64 0, .int .i64 0, .slice none 0 0], .int .i64 5]) (by simp [results, Tryz.results18, go_sem, HS0.out, HS1.out, HS2.out]) rfl ?_
  exact ⟨rfl, by
    have h0 := Below.st (g := w.heap.size) (q := 2) (Below.st (g := w.heap.size) (q := 1) (Below.st (g := w.heap.size) (q := 0) HU3.out (by omega) (.int .i64 0)) (by omega) (.int .i64 0)) (by omega) (.slice none 0 0)
    exact Below.st (g := w.heap.size + 1) (q := 2) (Below.st (g := w.heap.size + 1) (q := 1) (Below.st (g := w.heap.size + 1) (q := 0) h0 (by omega) _) (by omega) _) (by omega) _⟩

theorem normal_none (t : TM) (A : Option Addr) (cap : Nat) (w : World) :
    Calls Tryz.prog 11 #[.pointer none, termV t A cap] w fun e w' => e = .returned (.bool false) ∧ Below w.heap.size w w' := by
  have CB := Lib.hid (fun (V : World) => norm_none t A cap none V)
  unfold termV at CB
  unfold termV
  obtain ⟨X, hX⟩ : ∃ X, w.alloc (.cells #[.int .i64 t.k, .int .i64 t.n, .slice A t.l.length cap] 25) = X := ⟨_, rfl⟩
  have HBX := Lib.hid (show Below w.heap.size w X from by rw [← hX]; exact (Below.refl _ _).alloc (Nat.le_refl _) _)
  have HKt := Lib.hid (show Bk X w.heap.size 25 #[.int .i64 t.k, .int .i64 t.n, .slice A t.l.length cap] from by rw [← hX]; exact Bk.new _ _ _)
  have x0 : X.cell? ⟨w.heap.size, 0, none⟩ = some (.int .i64 t.k) := HKt.out.cell 0
  have x1 : X.cell? ⟨w.heap.size, 1, none⟩ = some (.int .i64 t.n) := HKt.out.cell 1
  have x2 : X.cell? ⟨w.heap.size, 2, none⟩ = some (.slice A t.l.length cap) := HKt.out.cell 2
  go_enter Tryz.func11, Tryz.ntmps11
  go_wp2_with fail
  clear hX x0 x1 x2
  refine (CB.out _).mono ?_
  rintro e w1 ⟨rfl, hb1⟩
  have HB1 := Lib.hid (HBX.out.trans (hb1.mono HBX.out.size))
  clear hb1
  go_wp2_with fail
  go_ret
  exact ⟨rfl, by first | exact HB1.out | exact HB1.out.alloc HB1.out.size _⟩


/-- All blocks but two are as they were. -/
structure Up2 (a b : Nat) (w w' : World) : Prop where
  os : w'.os = w.os
  tape : w'.tape = w.tape
  output : w'.output = w.output
  size : w.heap.size ≤ w'.heap.size
  block : ∀ k, k < w.heap.size → k ≠ a → k ≠ b → w'.heap[k]? = w.heap[k]?
theorem Up2.refl (a b : Nat) (w : World) : Up2 a b w w := ⟨rfl, rfl, rfl, Nat.le_refl _, fun _ _ _ _ => rfl⟩
theorem Up2.of {a b : Nat} {w w' : World} (h : Below w.heap.size w w') : Up2 a b w w' := ⟨h.os, h.tape, h.output, h.size, fun k hk _ _ => h.block k hk⟩
theorem Up2.ofA {a b : Nat} {w w' : World} (h : Up a w w') : Up2 a b w w' := ⟨h.os, h.tape, h.output, World.grownBy.size h, fun k hk h1 _ => h.block k hk (fun e => h1 (by injection e))⟩
theorem Up2.ofB {a b : Nat} {w w' : World} (h : Up b w w') : Up2 a b w w' := ⟨h.os, h.tape, h.output, World.grownBy.size h, fun k hk _ h1 => h.block k hk (fun e => h1 (by injection e))⟩
theorem Up2.trans {a b : Nat} {w w' w'' : World} (h : Up2 a b w w') (k : Up2 a b w' w'') : Up2 a b w w'' := ⟨k.os.trans h.os, k.tape.trans h.tape, k.output.trans h.output, Nat.le_trans h.size k.size, fun n hn h1 h2 => (k.block n (Nat.lt_of_lt_of_le hn h.size) h1 h2).trans (h.block n hn h1 h2)⟩
theorem Up2.below {a b B : Nat} {w w' : World} (h : Up2 a b w w') (hA : B ≤ a) (hB : B ≤ b) (hw : B ≤ w.heap.size) : Below B w w' :=
  ⟨h.os, h.tape, h.output, h.size, fun k hk => h.block k (by omega) (by omega) (by omega)⟩
theorem Up2.st {a b : Nat} {w V : World} (h : Up2 a b w V) {g q : Nat} (hg : w.heap.size ≤ g ∨ g = a ∨ g = b) (u : Value) : Up2 a b w (V.setCell ⟨g, q, none⟩ u) :=
  ⟨h.os, h.tape, h.output, by simpa using h.size, fun k hk h1 h2 => (Below.heap_setCell V ⟨g, q, none⟩ u k (by show k ≠ g; omega)).trans (h.block k hk h1 h2)⟩
theorem Up2.al {a b : Nat} {w V : World} (h : Up2 a b w V) (o : Obj) : Up2 a b w (V.alloc o) := h.trans (Up2.of ((Below.refl _ _).alloc (Nat.le_refl _) _))
theorem Bk.up2 {a b g : Nat} {w w' : World} {e : TypeId} {cs : Array Value} (h : Bk w g e cs) (hu : Up2 a b w w') (h1 : g ≠ a) (h2 : g ≠ b) : Bk w' g e cs := (hu.block g h.lt h1 h2).trans h
theorem TermIn.up2 {a b : Nat} {w w' : World} {P : Nat → Prop} {t : TM} {A : Option Addr} {cap : Nat} (h : TermIn w P t A cap) (hu : Up2 a b w w') (hP : ∀ k, P k → k < w.heap.size ∧ k ≠ a ∧ k ≠ b) : TermIn w' P t A cap :=
  h.imp (fun k o hk => World.cell?_of_block (a := ⟨k, o, none⟩) (hu.block k (hP k hk).1 (hP k hk).2.1 (hP k hk).2.2)) (fun _ h => h)

theorem parts_leaf (G : Option Addr) (c : Nat) (w : World) : Calls Tryz.prog 56 #[.agg #[.int .i64 2, .int .i64 2, .slice G 0 c]] w fun e w' => e = .returned (.slice none 0 0) ∧ Below w.heap.size w w' := by
  obtain ⟨X, hX⟩ : ∃ X, w.alloc (.cells #[.int .i64 2, .int .i64 2, .slice G 0 c] 25) = X := ⟨_, rfl⟩
  have HBX := Lib.hid (show Below w.heap.size w X from by rw [← hX]; exact (Below.refl _ _).alloc (Nat.le_refl _) _)
  have HKt := Lib.hid (show Bk X w.heap.size 25 #[.int .i64 2, .int .i64 2, .slice G 0 c] from by rw [← hX]; exact Bk.new _ _ _)
  have x0 : X.cell? ⟨w.heap.size, 0, none⟩ = some (.int .i64 2) := HKt.out.cell 0
  have x1 : X.cell? ⟨w.heap.size, 1, none⟩ = some (.int .i64 2) := HKt.out.cell 1
  have x2 : X.cell? ⟨w.heap.size, 2, none⟩ = some (.slice G 0 c) := HKt.out.cell 2
  go_enter Tryz.func56, Tryz.ntmps56
  go_wp2_with fail
  go_ret
  exact ⟨rfl, by first | exact HBX.out | exact HBX.out.alloc HBX.out.size _⟩
theorem joined_leaf (G : Option Addr) (c : Nat) (w : World) : Calls Tryz.prog 58 #[.agg #[.int .i64 2, .int .i64 2, .slice G 0 c], .slice none 0 0] w fun e w' => e = .returned (.agg #[.int .i64 2, .int .i64 2, .slice G 0 c]) ∧ Below w.heap.size w w' := by
  obtain ⟨X, hX⟩ : ∃ X, (w.alloc (.cells #[.int .i64 2, .int .i64 2, .slice G 0 c] 25)).alloc (.cells #[.int .i64 0, .int .i64 0, .slice none 0 0] 25) = X := ⟨_, rfl⟩
  have HBX := Lib.hid (show Below w.heap.size w X from by rw [← hX]; exact ((Below.refl _ _).alloc (Nat.le_refl _) _).alloc (by simp) _)
  have HKt := Lib.hid (show Bk X w.heap.size 25 #[.int .i64 2, .int .i64 2, .slice G 0 c] from by rw [← hX]; exact (Bk.new _ _ _).alloc _)
  have HKr := Lib.hid (show Bk X (w.heap.size + 1) 25 #[.int .i64 0, .int .i64 0, .slice none 0 0] from by rw [← hX]; exact Bk.last _ _ _ (by simp))
  have x0 : X.cell? ⟨w.heap.size, 0, none⟩ = some (.int .i64 2) := HKt.out.cell 0
  have x1 : X.cell? ⟨w.heap.size, 1, none⟩ = some (.int .i64 2) := HKt.out.cell 1
  have x2 : X.cell? ⟨w.heap.size, 2, none⟩ = some (.slice G 0 c) := HKt.out.cell 2
  have hlr := HKr.out.lt
  have hfr : ∀ q, X.frozen? ⟨w.heap.size + 1, q, none⟩ = false := fun q => HKr.out.cold q
  have r0 : X.cell? ⟨w.heap.size + 1, 0, none⟩ = some (.int .i64 0) := HKr.out.cell 0
  have r1 : X.cell? ⟨w.heap.size + 1, 1, none⟩ = some (.int .i64 0) := HKr.out.cell 1
  have r2 : X.cell? ⟨w.heap.size + 1, 2, none⟩ = some (.slice none 0 0) := HKr.out.cell 2
  have B5 := ((HKr.out.at_ 0 (.int .i64 2)).at_ 1 (.int .i64 2)).at_ 2 (.slice G 0 c)
  have HS0 := Lib.hid (B5.cell 0)
  have HS1 := Lib.hid (B5.cell 1)
  have HS2 := Lib.hid (B5.cell 2)
  clear B5
  go_enter Tryz.func58, Tryz.ntmps58
  go_wp2_with fail
  refine bodyPost_ret (v := .agg #[.int .i64 2, .int .i64 2, .slice G 0 c]) (by simp [results, Tryz.results58, go_sem, HS0.out, HS1.out, HS2.out]) rfl ?_
  exact ⟨rfl, Below.st (g := w.heap.size + 1) (q := 2) (Below.st (g := w.heap.size + 1) (q := 1) (Below.st (g := w.heap.size + 1) (q := 0) HBX.out (by omega) _) (by omega) _) (by omega) _⟩
theorem count_leaf (G : Option Addr) (c gb : Nat) (P F : Option Addr) (n : Int) (hn : 0 ≤ n ∧ n ≤ 1000) (w : World) (hk : Bk w gb 73 (bldV P F n false)) (hc : c ≤ maxLen) :
    Calls Tryz.prog 57 #[.pointer (some ⟨gb, 0, none⟩), .agg #[.int .i64 2, .int .i64 2, .slice G 0 c], .slice none 0 0] w fun e w' => e = .returned (.tuple #[]) ∧ Bk w' gb 73 (bldV P F (n + 1) false) ∧ Up gb w w' := by
  obtain ⟨X, hX⟩ : ∃ X, w.alloc (.cells #[.int .i64 2, .int .i64 2, .slice G 0 c] 25) = X := ⟨_, rfl⟩
  have HBX := Lib.hid (show Below w.heap.size w X from by rw [← hX]; exact (Below.refl _ _).alloc (Nat.le_refl _) _)
  have HKt := Lib.hid (show Bk X w.heap.size 25 #[.int .i64 2, .int .i64 2, .slice G 0 c] from by rw [← hX]; exact Bk.new _ _ _)
  have x0 : X.cell? ⟨w.heap.size, 0, none⟩ = some (.int .i64 2) := HKt.out.cell 0
  have x1 : X.cell? ⟨w.heap.size, 1, none⟩ = some (.int .i64 2) := HKt.out.cell 1
  have x2 : X.cell? ⟨w.heap.size, 2, none⟩ = some (.slice G 0 c) := HKt.out.cell 2
  have hgb := hk.lt
  have hs1 : ((topN aS.size : Nat) : Int) = 1 := by kernel_rfl
  have CS := Lib.hid (fun (V : World) => (show Calls Tryz.prog 83 #[.agg #[.int .i64 2, .int .i64 2, .slice G 0 c]] V (fun e w' => e = .returned (.int .i64 1) ∧ Below V.heap.size V w') from by
    have := tsize_any aS 0 V.heap.size G c V (leafAt V _ 2 2 G hc) (Nat.le_refl _)
    rw [hs1] at this
    exact this))
  clear hs1
  unfold bldV at hk ⊢
  have HKb := Lib.hid (hk.below HBX.out hgb)
  have hlX := HKb.out.lt
  have HK := Lib.hid (fun (V : World) (hV : Below X.heap.size X V) => (show V.cell? ⟨gb, 2, none⟩ = some (.int .i64 n) ∧ (∀ q, V.frozen? ⟨gb, q, none⟩ = false) ∧ V.cell? ⟨w.heap.size, 0, none⟩ = some (.int .i64 2) ∧ V.cell? ⟨w.heap.size, 1, none⟩ = some (.int .i64 2) ∧ V.cell? ⟨w.heap.size, 2, none⟩ = some (.slice G 0 c) from by
    have k1 := HKb.out.below hV HKb.out.lt
    have k2 := HKt.out.below hV HKt.out.lt
    exact ⟨k1.cell 2, fun q => k1.cold q, k2.cell 0, k2.cell 1, k2.cell 2⟩))
  have hw1 : IntKind.i64.wrap (n + 1) = n + 1 := IntWalk.i64_in _ (by omega)
  have t1 : decide (n + 1 > 8192) = false := decide_eq_false (by omega)
  have t2 : decide ((8192 : Int) < n + 1) = false := decide_eq_false (by omega)
  clear hk x0 x1 x2
  go_enter Tryz.func57, Tryz.ntmps57
  go_upto_region 1 with fail
  have hbk := Lib.hid ((Below.refl X.heap.size X).drew)
  clear hX
  obtain ⟨b2, hfb, x0, x1, x2⟩ := HK.out _ hbk.out
  go_region_law
    (first
     | (go_simp; go_at_call 83; refine (CS.out _).mono ?_; rintro e w3 ⟨rfl, hbn⟩; have hbk := Lib.hid (hbk.out.trans (hbn.mono hbk.out.size)); clear hbn b2 hfb x0 x1 x2; obtain ⟨b2, hfb, x0, x1, x2⟩ := HK.out _ hbk.out))
  all_goals
    have hzb := hbk.out.size
    have HB3 := Lib.hid (((HKb.out.below hbk.out (by omega)).at_ 2 (.int .i64 (n + 1))))
    have HU3 := Lib.hid (((Up.of HBX.out : Up gb w X).trans (Up.of hbk.out)).trans (Up.set 2 (.int .i64 (n + 1))))
    obtain ⟨Y, hY⟩ : ∃ Y, w3.setCell ⟨gb, 2, none⟩ (.int .i64 (n + 1)) = Y := ⟨_, rfl⟩
    rw [hY] at HB3 HU3
    have y2 : Y.cell? ⟨gb, 2, none⟩ = some (.int .i64 (n + 1)) := HB3.out.cell 2
    have y3 : Y.cell? ⟨gb, 3, none⟩ = some (.bool false) := HB3.out.cell 3
    have hfy : ∀ q, Y.frozen? ⟨gb, q, none⟩ = false := fun q => HB3.out.cold q
    have hly := HB3.out.lt
    clear HKb HK CS HBX
    go_wp2_with fail
    refine wp_loop_rounds 1 ?_
    rw [rounds_succ]
    go_wp2_with fail
    refine bodyPost_end (v := .tuple #[]) (by simp [results, Tryz.results57, go_sem]) rfl ?_
    exact ⟨rfl, HB3.out.at_ 3 (.bool false), HU3.out.trans (Up.set 3 (.bool false))⟩
theorem Bk.c6 {w : World} {g : Nat} {e : TypeId} {v0 v1 v2 v3 v4 v5 : Value} {r : List Value} (h : Bk w g e (v0 :: v1 :: v2 :: v3 :: v4 :: v5 :: r).toArray) :
    w.cell? ⟨g, 0, none⟩ = some v0 ∧ w.cell? ⟨g, 0 + 1, none⟩ = some v1 ∧ w.cell? ⟨g, 0 + 2, none⟩ = some v2 ∧ w.cell? ⟨g, 3, none⟩ = some v3 ∧ w.cell? ⟨g, 3 + 1, none⟩ = some v4 ∧ w.cell? ⟨g, 3 + 2, none⟩ = some v5 :=
  ⟨(h.cell 0).trans (by simp), (h.cell 1).trans (by simp), (h.cell 2).trans (by simp), (h.cell 3).trans (by simp), (h.cell 4).trans (by simp), (h.cell 5).trans (by simp)⟩
def lamT : TM := .node 4 0 [aS, aT]
def rowV (A0 : Option Addr) (c0 : Nat) (A1 : Option Addr) (c1 : Nat) (r : List Value) : Array Value := (.int .i64 2 :: .int .i64 2 :: .slice A0 0 c0 :: .int .i64 5 :: .int .i64 0 :: .slice A1 2 c1 :: r).toArray
set_option maxHeartbeats 2000000 in
theorem count_lam (G : Option Addr) (c gb g : Nat) (P F A0 A1 : Option Addr) (c0 c1 cc : Nat) (r : List Value) (w : World) (hk : Bk w gb 73 (bldV P F 0 false)) (hr : Bk w g 25 (rowV A0 c0 A1 c1 r)) (hne : g ≠ gb) (hcc : 2 ≤ cc) (hc0 : c0 ≤ maxLen)
    (hT : ∀ V, Up gb w V → IsTerm V 0 V.heap.size lamT G c) (h1 : ∀ V, Up gb w V → IsTerm V 0 V.heap.size aT A1 c1) :
    Calls Tryz.prog 57 #[.pointer (some ⟨gb, 0, none⟩), .agg #[.int .i64 4, .int .i64 0, .slice G 2 c], .slice (some ⟨g, 0, none⟩) 2 cc] w fun e w' => e = .returned (.tuple #[]) ∧ Bk w' gb 73 (bldV P F 1 false) ∧ Up gb w w' := by
  obtain ⟨X, hX⟩ : ∃ X, w.alloc (.cells #[.int .i64 4, .int .i64 0, .slice G 2 c] 25) = X := ⟨_, rfl⟩
  have HBX := Lib.hid (show Below w.heap.size w X from by rw [← hX]; exact (Below.refl _ _).alloc (Nat.le_refl _) _)
  have HKt := Lib.hid (show Bk X w.heap.size 25 #[.int .i64 4, .int .i64 0, .slice G 2 c] from by rw [← hX]; exact Bk.new _ _ _)
  have x0 : X.cell? ⟨w.heap.size, 0, none⟩ = some (.int .i64 4) := HKt.out.cell 0
  have x1 : X.cell? ⟨w.heap.size, 1, none⟩ = some (.int .i64 0) := HKt.out.cell 1
  have x2 : X.cell? ⟨w.heap.size, 2, none⟩ = some (.slice G 2 c) := HKt.out.cell 2
  have hgb := hk.lt
  have hg := hr.lt
  have hsT : ((topN lamT.size : Nat) : Int) = 7 := by kernel_rfl
  have hs0 : ((topN aS.size : Nat) : Int) = 1 := by kernel_rfl
  have hs1 : ((topN aT.size : Nat) : Int) = 5 := by kernel_rfl
  have CT := Lib.hid (fun (V : World) (hV : Up gb w V) => (show Calls Tryz.prog 83 #[.agg #[.int .i64 4, .int .i64 0, .slice G 2 c]] V (fun e w' => e = .returned (.int .i64 7) ∧ Below V.heap.size V w') from by
    have := tsize_any lamT 0 V.heap.size G c V (hT V hV) (Nat.le_refl _)
    rw [hsT] at this
    exact this))
  have C0 := Lib.hid (fun (V : World) => (show Calls Tryz.prog 83 #[.agg #[.int .i64 2, .int .i64 2, .slice A0 0 c0]] V (fun e w' => e = .returned (.int .i64 1) ∧ Below V.heap.size V w') from by
    have := tsize_any aS 0 V.heap.size A0 c0 V (leafAt V _ 2 2 A0 hc0) (Nat.le_refl _)
    rw [hs0] at this
    exact this))
  have C1 := Lib.hid (fun (V : World) (hV : Up gb w V) => (show Calls Tryz.prog 83 #[.agg #[.int .i64 5, .int .i64 0, .slice A1 2 c1]] V (fun e w' => e = .returned (.int .i64 5) ∧ Below V.heap.size V w') from by
    have := tsize_any aT 0 V.heap.size A1 c1 V (h1 V hV) (Nat.le_refl _)
    rw [hs1] at this
    exact this))
  have HR := Lib.hid (fun (V : World) (hV : Up gb w V) => (show Bk V g 25 (rowV A0 c0 A1 c1 r) from hr.up hV hne))
  clear hsT hs0 hs1 hT h1 hr
  have hw7 : IntKind.i64.wrap 7 = 7 := by decide
  have hw6 : IntKind.i64.wrap 6 = 6 := by decide
  have hw1 : IntKind.i64.wrap 1 = 1 := by decide
  unfold bldV at hk ⊢
  have HKb := Lib.hid (hk.below HBX.out hgb)
  have hlX := HKb.out.lt
  have HK := Lib.hid (fun (V : World) (hV : Below X.heap.size X V) => (show V.cell? ⟨gb, 2, none⟩ = some (.int .i64 0) ∧ (∀ q, V.frozen? ⟨gb, q, none⟩ = false) ∧ V.cell? ⟨w.heap.size, 0, none⟩ = some (.int .i64 4) ∧ V.cell? ⟨w.heap.size, 1, none⟩ = some (.int .i64 0) ∧ V.cell? ⟨w.heap.size, 2, none⟩ = some (.slice G 2 c) from by
    have k1 := HKb.out.below hV HKb.out.lt
    have k2 := HKt.out.below hV HKt.out.lt
    exact ⟨k1.cell 2, fun q => k1.cold q, k2.cell 0, k2.cell 1, k2.cell 2⟩))
  clear hk x0 x1 x2
  go_enter Tryz.func57, Tryz.ntmps57
  go_upto_region 1 with fail
  clear hX
  go_cut [] from 8 to 17 (fun wx => Bk wx gb 73 #[.pointer P, .pointer F, .int .i64 7, .bool false] ∧ Up gb w wx)
  case first =>
    have hbk := Lib.hid ((Below.refl X.heap.size X).drew)
    obtain ⟨b2, hfb, x0, x1, x2⟩ := HK.out _ hbk.out
    go_region_law
      (first
       | (go_simp; go_at_call 83; refine (CT.out _ ((Up.of HBX.out : Up gb w X).trans (Up.of hbk.out))).mono ?_; rintro e w3 ⟨rfl, hbn⟩; have hbk := Lib.hid (hbk.out.trans (hbn.mono hbk.out.size)); clear hbn b2 hfb x0 x1 x2; obtain ⟨b2, hfb, x0, x1, x2⟩ := HK.out _ hbk.out))
    all_goals
      have hzb := hbk.out.size
      go_wp2_with fail
      go_meet
      case rel => exact ⟨(HKb.out.below hbk.out (by omega)).at_ 2 (.int .i64 7), ((Up.of HBX.out : Up gb w X).trans (Up.of hbk.out)).trans (Up.set 2 (.int .i64 7))⟩
  case rest =>
  obtain ⟨Y, rfl⟩ : ∃ Y : World, Y = wc := ⟨_, rfl⟩
  obtain ⟨hB, hU⟩ := hcut
  have HB3 := Lib.hid hB
  have HU3 := Lib.hid hU
  clear hB hU HKb HK CT
  obtain ⟨l0, l1, l2, -⟩ := (HR.out _ HU3.out).c6
  go_wp2_with fail
  refine wp_loop_rounds 3 ?_
  rw [rounds_succ]
  obtain ⟨P0, hP0⟩ : ∃ V, Y.alloc (.cells #[.int .i64 2, .int .i64 2, .slice A0 0 c0] 25) = V := ⟨_, rfl⟩
  have HBP0 := Lib.hid (show Below Y.heap.size Y P0 from by rw [← hP0]; exact (Below.refl _ _).alloc (Nat.le_refl _) _)
  have HKP0 := Lib.hid (show Bk P0 Y.heap.size 25 #[.int .i64 2, .int .i64 2, .slice A0 0 c0] from by rw [← hP0]; exact Bk.new _ _ _)
  have HUP0 := Lib.hid ((HU3.out).trans (Up.of HBP0.out))
  have HPB0 := Lib.hid (HB3.out.below HBP0.out HB3.out.lt)
  have hlp0 := HKP0.out.lt
  have hlb0 := HPB0.out.lt
  have HQ0 := Lib.hid (fun (V : World) (hV : Below P0.heap.size P0 V) => (show V.cell? ⟨gb, 2, none⟩ = some (.int .i64 7) ∧ (∀ q, V.frozen? ⟨gb, q, none⟩ = false) ∧ V.cell? ⟨Y.heap.size, 0, none⟩ = some (.int .i64 2) ∧ V.cell? ⟨Y.heap.size, 1, none⟩ = some (.int .i64 2) ∧ V.cell? ⟨Y.heap.size, 2, none⟩ = some (.slice A0 0 c0) from by
    have k1 := HPB0.out.below hV HPB0.out.lt
    have k2 := HKP0.out.below hV HKP0.out.lt
    exact ⟨k1.cell 2, fun q => k1.cold q, k2.cell 0, k2.cell 1, k2.cell 2⟩))
  go_upto_region 5 with fail
  clear hP0
  have hbk := Lib.hid ((Below.refl P0.heap.size P0).drew)
  obtain ⟨b2, hfb, x0, x1, x2⟩ := HQ0.out _ hbk.out
  go_region_law
    (first
     | (go_simp; go_at_call 83; refine (C0.out _).mono ?_; rintro e w3 ⟨rfl, hbn⟩; have hbk := Lib.hid (hbk.out.trans (hbn.mono hbk.out.size)); clear hbn b2 hfb x0 x1 x2; obtain ⟨b2, hfb, x0, x1, x2⟩ := HQ0.out _ hbk.out))
  all_goals
    have hzb := hbk.out.size
    have HWB0 := Lib.hid ((HPB0.out.below hbk.out (by omega)).at_ 2 (.int .i64 6))
    have HWU0 := Lib.hid ((HUP0.out.trans (Up.of hbk.out)).trans (Up.set 2 (.int .i64 6)))
    obtain ⟨W0, hW0⟩ : ∃ V, w3.setCell ⟨gb, 2, none⟩ (.int .i64 6) = V := ⟨_, rfl⟩
    rw [hW0] at HWB0 HWU0
    clear HKP0 HQ0 HUP0 HPB0 HBP0 b2 hfb x0 x1 x2 l0 l1 l2
    obtain ⟨-, -, -, l0, l1, l2⟩ := (HR.out _ HWU0.out).c6
    go_wp2_with fail
    clear hW0
    rw [rounds_succ]
    obtain ⟨P1, hP1⟩ : ∃ V, W0.alloc (.cells #[.int .i64 5, .int .i64 0, .slice A1 2 c1] 25) = V := ⟨_, rfl⟩
    have HBP1 := Lib.hid (show Below W0.heap.size W0 P1 from by rw [← hP1]; exact (Below.refl _ _).alloc (Nat.le_refl _) _)
    have HKP1 := Lib.hid (show Bk P1 W0.heap.size 25 #[.int .i64 5, .int .i64 0, .slice A1 2 c1] from by rw [← hP1]; exact Bk.new _ _ _)
    have HUP1 := Lib.hid ((HWU0.out).trans (Up.of HBP1.out))
    have HPB1 := Lib.hid (HWB0.out.below HBP1.out HWB0.out.lt)
    have hlp1 := HKP1.out.lt
    have hlb1 := HPB1.out.lt
    have HQ1 := Lib.hid (fun (V : World) (hV : Below P1.heap.size P1 V) => (show V.cell? ⟨gb, 2, none⟩ = some (.int .i64 6) ∧ (∀ q, V.frozen? ⟨gb, q, none⟩ = false) ∧ V.cell? ⟨W0.heap.size, 0, none⟩ = some (.int .i64 5) ∧ V.cell? ⟨W0.heap.size, 1, none⟩ = some (.int .i64 0) ∧ V.cell? ⟨W0.heap.size, 2, none⟩ = some (.slice A1 2 c1) from by
      have k1 := HPB1.out.below hV HPB1.out.lt
      have k2 := HKP1.out.below hV HKP1.out.lt
      exact ⟨k1.cell 2, fun q => k1.cold q, k2.cell 0, k2.cell 1, k2.cell 2⟩))
    go_upto_region 5 with fail
    clear hP1
    have hbk := Lib.hid ((Below.refl P1.heap.size P1).drew)
    obtain ⟨b2, hfb, x0, x1, x2⟩ := HQ1.out _ hbk.out
    go_region_law
      (first
       | (go_simp; go_at_call 83; refine (C1.out _ (HUP1.out.trans (Up.of hbk.out))).mono ?_; rintro e w3 ⟨rfl, hbn⟩; have hbk := Lib.hid (hbk.out.trans (hbn.mono hbk.out.size)); clear hbn b2 hfb x0 x1 x2; obtain ⟨b2, hfb, x0, x1, x2⟩ := HQ1.out _ hbk.out))
    all_goals
      have hzb := hbk.out.size
      have HWB1 := Lib.hid ((HPB1.out.below hbk.out (by omega)).at_ 2 (.int .i64 1))
      have HWU1 := Lib.hid ((HUP1.out.trans (Up.of hbk.out)).trans (Up.set 2 (.int .i64 1)))
      obtain ⟨W1, hW1⟩ : ∃ V, w3.setCell ⟨gb, 2, none⟩ (.int .i64 1) = V := ⟨_, rfl⟩
      rw [hW1] at HWB1 HWU1
      clear HKP1 HQ1 HUP1 HPB1 HBP1 b2 hfb x0 x1 x2 l0 l1 l2
      have b2 : W1.cell? ⟨gb, 2, none⟩ = some (.int .i64 1) := HWB1.out.cell 2
      have b3 : W1.cell? ⟨gb, 3, none⟩ = some (.bool false) := HWB1.out.cell 3
      have hfb : ∀ q, W1.frozen? ⟨gb, q, none⟩ = false := fun q => HWB1.out.cold q
      have hlb := HWB1.out.lt
      go_wp2_with fail
      rw [rounds_succ]
      go_wp2_with fail
      refine bodyPost_end (v := .tuple #[]) (by simp [results, Tryz.results57, go_sem]) rfl ?_
      exact ⟨rfl, HWB1.out.at_ 3 (.bool false), HWU1.out.trans (Up.set 3 (.bool false))⟩

end Go.Proofs.YtondjkeakfkefaaGreatDoor
