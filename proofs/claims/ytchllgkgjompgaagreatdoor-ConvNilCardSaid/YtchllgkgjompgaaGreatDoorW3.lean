import Derived.Test.YtchllgkgjompgaaGreatDoorW2
import Derived.Deep.RegionHeld3
import Derived.Test.YtchllgkgjompgaaGreatDoorI2
import Derived.Test.YtchllgkgjompgaaGreatDoorMe
import Derived.Test.YtchllgkgjompgaaGreatDoorR2
namespace Go.Proofs.YtchllgkgjompgaaGreatDoor
open Go.RowKit
set_option linter.unusedVariables false
set_option maxRecDepth 100000

set_option maxHeartbeats 1000000 in
/-- What may come to a machine without entries: what names none. -/
theorem wmay_zero (t : TM) (A : Option Addr) (cap g : Nat) (w : World) (h : NilM w g) (ht : IsTerm w 0 w.heap.size t A cap) (hS : ShapesM w) : Calls Tryz.prog 52 #[.pointer (some ⟨g, 0, none⟩), termV t A cap] w fun e w' => e = .returned (.bool (trightB t 1048577 0)) ∧ Below w.heap.size w w' := by
  obtain ⟨X, hX⟩ : ∃ X, w.alloc (.cells #[.int .i64 t.k, .int .i64 t.n, .slice A t.l.length cap] 25) = X := ⟨_, rfl⟩
  have HBX := Lib.hid (show Below w.heap.size w X from by rw [← hX]; exact (Below.refl _ _).alloc (Nat.le_refl _) _)
  have HKt := Lib.hid (show Bk X w.heap.size 25 #[.int .i64 t.k, .int .i64 t.n, .slice A t.l.length cap] from by rw [← hX]; exact Bk.new _ _ _)
  obtain ⟨E, ce, R, hk⟩ := h
  have hgl := hk.lt
  have HM := Lib.hid (hk.below HBX.out hgl)
  have HKK := Lib.hid (fun (V : World) (hV : Below X.heap.size X V) => (show V.cell? ⟨w.heap.size, 0, none⟩ = some (.int .i64 t.k) ∧ V.cell? ⟨w.heap.size, 1, none⟩ = some (.int .i64 t.n) ∧ V.cell? ⟨w.heap.size, 2, none⟩ = some (.slice A t.l.length cap) ∧ V.cell? ⟨g, 0, none⟩ = some (.slice E 0 ce) from by
    have k := HKt.out.below hV HKt.out.lt
    exact ⟨k.cell 0, k.cell 1, k.cell 2, (HM.out.below hV HM.out.lt).cell 0⟩))
  have CR := Lib.hid (fun (V : World) (hV : Below X.heap.size X V) => tRight_any t 1048577 0 0 w.heap.size A cap V (ht.kept (HBX.out.trans (hV.mono HBX.out.size)) (Nat.le_refl _)) (HBX.out.trans (hV.mono HBX.out.size)).size (hS.kept (HBX.out.trans (hV.mono HBX.out.size))))
  obtain ⟨z, hz⟩ : ∃ z, trightB t 1048577 0 = z := ⟨_, rfl⟩
  rw [hz] at CR ⊢
  unfold termV at CR
  unfold termV
  obtain ⟨s0, s1, s2, s3⟩ := HKK.out X (Below.refl _ _)
  have hgX : g < X.heap.size := by have := HBX.out.size; omega
  have hlX := HKt.out.lt
  have hbk0 := Lib.hid (show Below X.heap.size X X.drew from (Below.refl _ _).drew)
  clear ht hS hk hz
  go_enter Tryz.func52, Tryz.ntmps52
  go_wp2_with fail
  go_region_held3 (fun w' => w'.cell? ⟨w.heap.size, 0, none⟩ = some (.int .i64 t.k) ∧ w'.cell? ⟨w.heap.size, 1, none⟩ = some (.int .i64 t.n) ∧ w'.cell? ⟨w.heap.size, 2, none⟩ = some (.slice A t.l.length cap) ∧ w'.cell? ⟨g, 0, none⟩ = some (.slice E 0 ce))
    ((refine (HKK.out _ ?_); repeat (first | with_reducible exact hbk0.out | with_reducible exact hbC.out | with_reducible exact Below.refl _ _ | with_reducible refine Below.al ?_ _ | with_reducible refine Below.dr ?_ | with_reducible refine Below.st ?_ (by first | omega | (simp <;> omega)) _)))
    (first
    | (go_at_call 77
       refine (CR.out _ (by repeat (first | with_reducible exact hbk0.out | with_reducible exact Below.refl _ _ | with_reducible refine Below.al ?_ _ | with_reducible refine Below.dr ?_ | with_reducible refine Below.st ?_ (by first | omega | (simp <;> omega)) _))).mono ?_
       rintro e w3 ⟨rfl, hb3⟩
       have hbC := Lib.hid (by first | exact hbk0.out.trans (hb3.mono hbk0.out.size))
       clear hb3))
  all_goals
    go_wp2_with fail
    go_ret
    exact ⟨rfl, HBX.out.trans (hbC.out.mono HBX.out.size)⟩



set_option maxHeartbeats 1000000 in
theorem wBring_few {t a b x u : TM} {n : Int} (hbt : Beta t n a b x u) (hr : trightB t 1048577 0 = true) (g : Nat) (A : Option Addr) (cap : Nat) (w : World) (h : NilM w g) (ht : IsTerm w 0 w.heap.size t A cap) (hS : ShapesM w) :
    Calls Tryz.prog 35 #[.pointer (some ⟨g, 0, none⟩), termV t A cap, .pointer none] w fun e w' => ∃ G c, e = .returned (.tuple #[.agg #[.int .i64 0, .int .i64 0, .slice G 0 c], .int .i64 8]) ∧ Below w.heap.size w w' := by
  obtain ⟨X, hX⟩ : ∃ X, (w.alloc (.cells #[.int .i64 t.k, .int .i64 t.n, .slice A t.l.length cap] 25)).alloc (.cells #[.int .i64 0, .int .i64 0, .slice none 0 0] 25) = X := ⟨_, rfl⟩
  have HBX := Lib.hid (show Below w.heap.size w X from by rw [← hX]; exact ((Below.refl _ _).alloc (Nat.le_refl _) _).alloc (by simp) _)
  have HKt := Lib.hid (show Bk X w.heap.size 25 #[.int .i64 t.k, .int .i64 t.n, .slice A t.l.length cap] from by rw [← hX]; exact (Bk.new _ _ _).alloc _)
  have HKr := Lib.hid (show Bk X (w.heap.size + 1) 25 #[.int .i64 0, .int .i64 0, .slice none 0 0] from by rw [← hX]; exact Bk.last _ _ _ (by simp))
  have x0 : X.cell? ⟨w.heap.size, 0, none⟩ = some (.int .i64 t.k) := HKt.out.cell 0
  have x1 : X.cell? ⟨w.heap.size, 1, none⟩ = some (.int .i64 t.n) := HKt.out.cell 1
  have x2 : X.cell? ⟨w.heap.size, 2, none⟩ = some (.slice A t.l.length cap) := HKt.out.cell 2
  have CM := Lib.hid (wmay_zero t A cap g X (h.over HBX.out) ((ht.kept HBX.out (Nat.le_refl _)).wide (Nat.le_refl _) HBX.out.size) (hS.kept HBX.out))
  rw [hr] at CM
  have CB := Lib.hid (fun (V : World) (hV : Below w.heap.size w V) => wbrought_none hbt (some ⟨g, 0, none⟩) A cap V (.inr ⟨g, rfl, h.over hV⟩) ((ht.kept hV (Nat.le_refl _)).wide (Nat.le_refl _) hV.size) (hS.kept hV))
  have CC := Lib.hid (fun (V : World) (hV : Below w.heap.size w V) => copy_to (.node 0 0 []) 0 V.heap.size none 0 V (leaf_in _ _ 0 0) (Nat.le_refl _) (hS.kept hV))
  unfold CopyTo at CC
  rw [copyT_zero] at CC
  unfold termV at CB CC
  simp only [TM.k, TM.n, TM.l, List.length_nil] at CC
  unfold termV
  clear h ht hS hbt hr
  go_enter Tryz.func35, Tryz.ntmps35
  go_wp2_with fail
  refine CM.out.mono ?_
  rintro e w1 ⟨rfl, hb1⟩
  have HB1 := Lib.hid (HBX.out.trans (hb1.mono HBX.out.size))
  have Ht1 := Lib.hid (HKt.out.below hb1 HKt.out.lt)
  have Hr1 := Lib.hid (HKr.out.below hb1 HKr.out.lt)
  have t0 : w1.cell? ⟨w.heap.size, 0, none⟩ = some (.int .i64 t.k) := Ht1.out.cell 0
  have t1 : w1.cell? ⟨w.heap.size, 1, none⟩ = some (.int .i64 t.n) := Ht1.out.cell 1
  have t2 : w1.cell? ⟨w.heap.size, 2, none⟩ = some (.slice A t.l.length cap) := Ht1.out.cell 2
  clear hb1 hX x0 x1 x2
  go_wp2_with fail
  refine (CB.out _ HB1.out).mono ?_
  rintro e w2 ⟨rfl, hb2⟩
  have HB2 := Lib.hid (HB1.out.trans (hb2.mono HB1.out.size))
  have Ht2 := Lib.hid (Ht1.out.below hb2 Ht1.out.lt)
  have Hr2 := Lib.hid (Hr1.out.below hb2 Hr1.out.lt)
  have hlt2 := Ht2.out.lt
  have hlr2 := Hr2.out.lt
  have hft : ∀ q, w2.frozen? ⟨w.heap.size, q, none⟩ = false := fun q => Ht2.out.cold q
  have u0 : w2.cell? ⟨w.heap.size, 0, none⟩ = some (.int .i64 t.k) := Ht2.out.cell 0
  have u1 : w2.cell? ⟨w.heap.size, 1, none⟩ = some (.int .i64 t.n) := Ht2.out.cell 1
  have u2 : w2.cell? ⟨w.heap.size, 2, none⟩ = some (.slice A t.l.length cap) := Ht2.out.cell 2
  clear hb2 t0 t1 t2
  go_wp2_with fail
  have HrV := Lib.hid (((Hr2.out.far (a := ⟨w.heap.size, 0, none⟩) (by show w.heap.size + 1 ≠ w.heap.size; omega) (.int .i64 0)).far (a := ⟨w.heap.size, 1, none⟩) (by show w.heap.size + 1 ≠ w.heap.size; omega) (.int .i64 0)).far (a := ⟨w.heap.size, 2, none⟩) (by show w.heap.size + 1 ≠ w.heap.size; omega) (.slice none 0 0))
  have HBV := Lib.hid (Below.st (g := w.heap.size) (q := 2) (Below.st (g := w.heap.size) (q := 1) (Below.st (g := w.heap.size) (q := 0) HB2.out (by omega) (.int .i64 0)) (by omega) (.int .i64 0)) (by omega) (.slice none 0 0))
  obtain ⟨V, hV⟩ : ∃ V, ((w2.setCell ⟨w.heap.size, 0, none⟩ (.int .i64 0)).setCell ⟨w.heap.size, 1, none⟩ (.int .i64 0)).setCell ⟨w.heap.size, 2, none⟩ (.slice none 0 0) = V := ⟨_, rfl⟩
  rw [hV] at HrV HBV ⊢
  clear hV u0 u1 u2 hft
  refine (CC.out V HBV.out).mono ?_
  rintro e w3 ⟨F3, c3, rfl, hc3, hb3⟩
  have hl3 : IsTerm w3 V.heap.size w3.heap.size (.node 0 0 []) F3 c3 := hc3
  have HB3 := Lib.hid (HBV.out.trans (hb3.mono HBV.out.size))
  have Hr3 := Lib.hid (HrV.out.below hb3 HrV.out.lt)
  have hlr3 := Hr3.out.lt
  have hfr : ∀ q, w3.frozen? ⟨w.heap.size + 1, q, none⟩ = false := fun q => Hr3.out.cold q
  have r0 : w3.cell? ⟨w.heap.size + 1, 0, none⟩ = some (.int .i64 0) := Hr3.out.cell 0
  have r1 : w3.cell? ⟨w.heap.size + 1, 1, none⟩ = some (.int .i64 0) := Hr3.out.cell 1
  have r2 : w3.cell? ⟨w.heap.size + 1, 2, none⟩ = some (.slice none 0 0) := Hr3.out.cell 2
  have B5 := ((Hr3.out.at_ 0 (.int .i64 0)).at_ 1 (.int .i64 0)).at_ 2 (.slice F3 0 c3)
  have HS0 := Lib.hid (B5.cell 0)
  have HS1 := Lib.hid (B5.cell 1)
  have HS2 := Lib.hid (B5.cell 2)
  clear B5 hb3 hc3 hl3
  go_wp2_with fail
  refine bodyPost_ret (v := .tuple #[.agg #[.int .i64 0, .int .i64 0, .slice F3 0 c3], .int .i64 8]) (by simp [results, Tryz.results35, go_sem, HS0.out, HS1.out, HS2.out]) rfl ?_
  exact ⟨F3, c3, rfl, Below.st (g := w.heap.size + 1) (q := 2) (Below.st (g := w.heap.size + 1) (q := 1) (Below.st (g := w.heap.size + 1) (q := 0) HB3.out (by omega) _) (by omega) _) (by omega) _⟩

set_option maxHeartbeats 1000000 in
theorem wBring_ok {t a b x u : TM} {n : Int} (hbt : Beta t n a b x u) (hr : trightB t 1048577 0 = true) (g : Nat) (A : Option Addr) (cap : Nat) (w : World) (ht : IsTerm w 0 w.heap.size t A cap) (gf : Nat) (f lf : Int) (hm : Mt w gf f lf) (hlf : 1 ≤ lf ∧ lf ≤ 1048576) (w0 : World) (h0 : Below w0.heap.size w0 w) (hw0 : w0.heap.size ≤ gf) (hS0 : ShapesM w0) (hP0 : NilM w0 g) :
    Calls Tryz.prog 35 #[.pointer (some ⟨g, 0, none⟩), termV t A cap, .pointer (some ⟨gf, 0, none⟩)] w fun e w' => ∃ G c, e = .returned (.tuple #[.agg #[.int .i64 u.k, .int .i64 u.n, .slice G u.l.length c], .int .i64 0]) ∧ IsTerm w' w.heap.size w'.heap.size u G c ∧ Mt w' gf f (lf - 1) ∧ Up gf w w' := by
  have h : NilM w g := hP0.below h0 hP0.lt
  have hS : ShapesM w := hS0.kept h0
  have hgf := hm.lt
  have HM := Lib.hid hm
  have HH0 := Lib.hid h0
  have HS00 := Lib.hid hS0
  have hus := hbt.us
  obtain ⟨X, hX⟩ : ∃ X, (w.alloc (.cells #[.int .i64 t.k, .int .i64 t.n, .slice A t.l.length cap] 25)).alloc (.cells #[.int .i64 0, .int .i64 0, .slice none 0 0] 25) = X := ⟨_, rfl⟩
  have HBX := Lib.hid (show Below w.heap.size w X from by rw [← hX]; exact ((Below.refl _ _).alloc (Nat.le_refl _) _).alloc (by simp) _)
  have HKt := Lib.hid (show Bk X w.heap.size 25 #[.int .i64 t.k, .int .i64 t.n, .slice A t.l.length cap] from by rw [← hX]; exact (Bk.new _ _ _).alloc _)
  have HKr := Lib.hid (show Bk X (w.heap.size + 1) 25 #[.int .i64 0, .int .i64 0, .slice none 0 0] from by rw [← hX]; exact Bk.last _ _ _ (by simp))
  have x0 : X.cell? ⟨w.heap.size, 0, none⟩ = some (.int .i64 t.k) := HKt.out.cell 0
  have x1 : X.cell? ⟨w.heap.size, 1, none⟩ = some (.int .i64 t.n) := HKt.out.cell 1
  have x2 : X.cell? ⟨w.heap.size, 2, none⟩ = some (.slice A t.l.length cap) := HKt.out.cell 2
  have CM := Lib.hid (wmay_zero t A cap g X (h.over HBX.out) ((ht.kept HBX.out (Nat.le_refl _)).wide (Nat.le_refl _) HBX.out.size) (hS.kept HBX.out))
  rw [hr] at CM
  have CB := Lib.hid (fun (V : World) (hV : Below w.heap.size w V) => wbrought_ok hbt (some ⟨g, 0, none⟩) A cap V ((ht.kept hV (Nat.le_refl _)).wide (Nat.le_refl _) hV.size) gf f lf (hm.below hV hgf) hlf w0 (h0.trans (hV.mono h0.size)) hw0 hS0 (.inr ⟨g, rfl, hP0⟩))
  have CC := Lib.hid (fun (F : Option Addr) (cF : Nat) (V : World) (hV : Below w0.heap.size w0 V) (hu : IsTerm V 0 V.heap.size u F cF) => copy_to u 0 V.heap.size F cF V hu (Nat.le_refl _) (hS0.kept hV))
  unfold CopyTo at CC
  rw [copyT_shaped hus] at CC
  unfold termV at CB CC
  unfold termV
  clear h ht hS hbt hr hm hlf h0 hS0 hP0 hus
  go_enter Tryz.func35, Tryz.ntmps35
  go_wp2_with fail
  refine CM.out.mono ?_
  rintro e w1 ⟨rfl, hb1⟩
  have HB1 := Lib.hid (HBX.out.trans (hb1.mono HBX.out.size))
  have Ht1 := Lib.hid (HKt.out.below hb1 HKt.out.lt)
  have Hr1 := Lib.hid (HKr.out.below hb1 HKr.out.lt)
  have t0 : w1.cell? ⟨w.heap.size, 0, none⟩ = some (.int .i64 t.k) := Ht1.out.cell 0
  have t1 : w1.cell? ⟨w.heap.size, 1, none⟩ = some (.int .i64 t.n) := Ht1.out.cell 1
  have t2 : w1.cell? ⟨w.heap.size, 2, none⟩ = some (.slice A t.l.length cap) := Ht1.out.cell 2
  clear hb1 hX x0 x1 x2
  go_wp2_with fail
  refine (CB.out _ HB1.out).mono ?_
  rintro e w2 ⟨F2, c2, rfl, hu2, hm2, hup2⟩
  have hz1 := HB1.out.size
  have hl1 := Hr1.out.lt
  have HUP := Lib.hid ((Up.of HB1.out : Up gf w w1).trans hup2)
  have HM2 := Lib.hid hm2
  have Ht2 := Lib.hid (show Bk w2 w.heap.size 25 #[.int .i64 t.k, .int .i64 t.n, .slice A t.l.length cap] from (hup2.block _ Ht1.out.lt (fun e => by injection e with e; omega)).trans Ht1.out)
  have Hr2 := Lib.hid (show Bk w2 (w.heap.size + 1) 25 #[.int .i64 0, .int .i64 0, .slice none 0 0] from (hup2.block _ Hr1.out.lt (fun e => by injection e with e; omega)).trans Hr1.out)
  have HU2 := Lib.hid (show TermIn w2 (fun b => w1.heap.size ≤ b ∧ b < w2.heap.size) u F2 c2 from hu2)
  have hlt2 := Ht2.out.lt
  have hlr2 := Hr2.out.lt
  have hft : ∀ q, w2.frozen? ⟨w.heap.size, q, none⟩ = false := fun q => Ht2.out.cold q
  have u0 : w2.cell? ⟨w.heap.size, 0, none⟩ = some (.int .i64 t.k) := Ht2.out.cell 0
  have u1 : w2.cell? ⟨w.heap.size, 1, none⟩ = some (.int .i64 t.n) := Ht2.out.cell 1
  have u2 : w2.cell? ⟨w.heap.size, 2, none⟩ = some (.slice A t.l.length cap) := Ht2.out.cell 2
  clear hu2 hm2 hup2 t0 t1 t2
  go_wp2_with fail
  have HrV := Lib.hid (((Hr2.out.far (a := ⟨w.heap.size, 0, none⟩) (by show w.heap.size + 1 ≠ w.heap.size; omega) (.int .i64 u.k)).far (a := ⟨w.heap.size, 1, none⟩) (by show w.heap.size + 1 ≠ w.heap.size; omega) (.int .i64 u.n)).far (a := ⟨w.heap.size, 2, none⟩) (by show w.heap.size + 1 ≠ w.heap.size; omega) (.slice F2 u.l.length c2))
  have HMV := Lib.hid (((HM2.out.far (a := ⟨w.heap.size, 0, none⟩) (by show gf ≠ w.heap.size; omega) (.int .i64 u.k)).far (a := ⟨w.heap.size, 1, none⟩) (by show gf ≠ w.heap.size; omega) (.int .i64 u.n)).far (a := ⟨w.heap.size, 2, none⟩) (by show gf ≠ w.heap.size; omega) (.slice F2 u.l.length c2))
  have HUV := Lib.hid (TermIn.three (g := w.heap.size) HU2.out (fun b hb => by have := hb.1; omega) (.int .i64 u.k) (.int .i64 u.n) (.slice F2 u.l.length c2))
  have HPV := Lib.hid (Up.st (g := w.heap.size) (q := 2) (Up.st (g := w.heap.size) (q := 1) (Up.st (g := w.heap.size) (q := 0) HUP.out (by omega) (.int .i64 u.k)) (by omega) (.int .i64 u.n)) (by omega) (.slice F2 u.l.length c2))
  have hzV : (((w2.setCell ⟨w.heap.size, 0, none⟩ (.int .i64 u.k)).setCell ⟨w.heap.size, 1, none⟩ (.int .i64 u.n)).setCell ⟨w.heap.size, 2, none⟩ (.slice F2 u.l.length c2)).heap.size = w2.heap.size := size_three _ _ _ _ _
  obtain ⟨V, hV⟩ : ∃ V, ((w2.setCell ⟨w.heap.size, 0, none⟩ (.int .i64 u.k)).setCell ⟨w.heap.size, 1, none⟩ (.int .i64 u.n)).setCell ⟨w.heap.size, 2, none⟩ (.slice F2 u.l.length c2) = V := ⟨_, rfl⟩
  rw [hV] at HrV HMV HUV HPV hzV ⊢
  clear hV u0 u1 u2 hft
  have H0V := Lib.hid (HH0.out.trans (HPV.out.below hw0 HH0.out.size))
  refine (CC.out F2 c2 V H0V.out (TermIn.imp (fun _ _ _ => rfl) (fun b hb => ⟨Nat.zero_le _, by have := hb.2; omega⟩) HUV.out)).mono ?_
  rintro e w3 ⟨F3, c3, rfl, hc3, hb3⟩
  have HC3 := Lib.hid hc3
  have Hr3 := Lib.hid (HrV.out.below hb3 HrV.out.lt)
  have HM3 := Lib.hid (HMV.out.over hb3)
  have HP3 := Lib.hid (HPV.out.trans (Up.of hb3))
  have hlr3 := Hr3.out.lt
  have hlrV := HrV.out.lt
  have hfr : ∀ q, w3.frozen? ⟨w.heap.size + 1, q, none⟩ = false := fun q => Hr3.out.cold q
  have r0 : w3.cell? ⟨w.heap.size + 1, 0, none⟩ = some (.int .i64 0) := Hr3.out.cell 0
  have r1 : w3.cell? ⟨w.heap.size + 1, 1, none⟩ = some (.int .i64 0) := Hr3.out.cell 1
  have r2 : w3.cell? ⟨w.heap.size + 1, 2, none⟩ = some (.slice none 0 0) := Hr3.out.cell 2
  have B5 := ((Hr3.out.at_ 0 (.int .i64 u.k)).at_ 1 (.int .i64 u.n)).at_ 2 (.slice F3 u.l.length c3)
  have HS0 := Lib.hid (B5.cell 0)
  have HS1 := Lib.hid (B5.cell 1)
  have HS2 := Lib.hid (B5.cell 2)
  clear B5 hb3 hc3
  go_wp2_with fail
  refine bodyPost_ret (v := .tuple #[.agg #[.int .i64 u.k, .int .i64 u.n, .slice F3 u.l.length c3], .int .i64 0]) (by simp [results, Tryz.results35, go_sem, HS0.out, HS1.out, HS2.out]) rfl ?_
  refine ⟨F3, c3, rfl, ?_, ((HM3.out.far (a := ⟨w.heap.size + 1, 0, none⟩) (by show gf ≠ w.heap.size + 1; omega) _).far (a := ⟨w.heap.size + 1, 1, none⟩) (by show gf ≠ w.heap.size + 1; omega) _).far (a := ⟨w.heap.size + 1, 2, none⟩) (by show gf ≠ w.heap.size + 1; omega) _, Up.st (q := 2) (Up.st (q := 1) (Up.st (q := 0) HP3.out (g := w.heap.size + 1) (by omega) _) (g := w.heap.size + 1) (by omega) _) (g := w.heap.size + 1) (by omega) _⟩
  exact (TermIn.three (g := w.heap.size + 1) HC3.out (fun b hb => by have := hb.1; omega) _ _ _).imp (fun _ _ _ => rfl) (fun b hb => ⟨by have := hb.1; omega, by rw [size_three]; exact hb.2⟩)



set_option maxHeartbeats 1000000 in
theorem wcon_no (P : Option Addr) (t : TM) (A : Option Addr) (cap : Nat) (w : World) (hN : NoEnt w P) (ht : IsTerm w 0 w.heap.size t A cap) (hs : shapedB t = true) (hS : ShapesM w) :
    Calls Tryz.prog 115 #[.pointer P, termV t A cap] w fun e w' => e = .returned (.tuple #[.int .i64 0, .slice none 0 0, .bool false]) ∧ Below w.heap.size w w' := by
  obtain ⟨q1, q2, q3⟩ := shapedB_true.1 hs
  have HBW := Lib.hid (Below.refl w.heap.size w)
  have CS := Lib.hid (fun (V : World) (hV : Below w.heap.size w V) => spine_any t 0 w.heap.size A cap V (ht.kept hV (Nat.le_refl _)) hV.size (hS.kept hV) q3 q1 (by omega))
  obtain ⟨H, hH⟩ : ∃ H, headT t = H := ⟨_, rfl⟩
  unfold GivesSp termV at CS
  rw [hH] at CS
  have CE := Lib.hid (fun (q : Int) (V : World) (hV : Below w.heap.size w V) => wentry_no P q V (hN.over hV))
  unfold zEnt at CE
  unfold termV
  clear ht hs hS q1 q2 q3 hH hN
  go_enter Tryz.func115, Tryz.ntmps115
  go_wp2_with fail
  refine (CS.out _ (HBW.out.alloc (Nat.le_refl _) _)).mono ?_
  rintro e w1 ⟨A1, c1, B1, d1, rfl, ht1, ha1, hb1⟩
  have HB1 := Lib.hid ((HBW.out.alloc (Nat.le_refl _) (.cells #[.int .i64 t.k, .int .i64 t.n, .slice A t.l.length cap] 25)).trans (hb1.mono (HBW.out.alloc (Nat.le_refl _) (.cells #[.int .i64 t.k, .int .i64 t.n, .slice A t.l.length cap] 25)).size))
  clear ht1 ha1 hb1
  go_wp2_with fail
  obtain ⟨Y, hY⟩ : ∃ Y, w1.alloc (.cells #[.int .i64 H.k, .int .i64 H.n, .slice A1 H.l.length c1] 25) = Y := ⟨_, rfl⟩
  have HBY0 := Lib.hid (show Below w1.heap.size w1 Y from by rw [← hY]; exact (Below.refl _ _).alloc (Nat.le_refl _) _)
  have HBY := Lib.hid (HB1.out.trans (HBY0.out.mono HB1.out.size))
  have HKY := Lib.hid (show Bk Y w1.heap.size 25 #[.int .i64 H.k, .int .i64 H.n, .slice A1 H.l.length c1] from by rw [← hY]; exact Bk.new _ _ _)
  rw [hY]
  refine (CE.out _ _ HBY.out).mono ?_
  rintro e w2 ⟨rfl, hb2⟩
  have HB2 := Lib.hid (HBY.out.trans (hb2.mono HBY.out.size))
  have HK2 := Lib.hid (HKY.out.below hb2 HKY.out.lt)
  have hl2 := HK2.out.lt
  have h0 : w2.cell? ⟨w1.heap.size, 0, none⟩ = some (.int .i64 H.k) := HK2.out.cell 0
  clear hY hb2
  by_cases h6 : H.k = 6
  · have t6 : (H.k != 6) = false := by simpa using h6
    clear h6
    go_wp2_with fail
    refine bodyPost_ret (v := .tuple #[.int .i64 0, .slice none 0 0, .bool false]) (by simp [results, Tryz.results115, go_sem]) rfl ?_
    exact ⟨rfl, HB2.out.alloc HB2.out.size _⟩
  · have t6 : (H.k != 6) = true := by simpa using h6
    clear h6
    go_wp2_with fail
    refine bodyPost_ret (v := .tuple #[.int .i64 0, .slice none 0 0, .bool false]) (by simp [results, Tryz.results115, go_sem]) rfl ?_
    exact ⟨rfl, HB2.out.alloc HB2.out.size _⟩

theorem wCon_no (P : Option Addr) (t : TM) (A : Option Addr) (cap : Nat) (w : World) (hN : NoEnt w P) (ht : IsTerm w 0 w.heap.size t A cap) (hS : ShapesM w) :
    Calls Tryz.prog 158 #[.pointer P, termV t A cap] w fun e w' => e = .returned (.tuple #[.int .i64 0, .slice none 0 0, .bool false]) ∧ Below w.heap.size w w' := by
  have HBW := Lib.hid (Below.refl w.heap.size w)
  have CH := Lib.hid (fun (V : World) (hV : Below w.heap.size w V) => shaped_any t 0 w.heap.size A cap V (ht.kept hV (Nat.le_refl _)) hV.size (hS.kept hV))
  have CC := Lib.hid (fun (V : World) (hV : Below w.heap.size w V) (hs : shapedB t = true) => wcon_no P t A cap V (hN.over hV) ((ht.kept hV (Nat.le_refl _)).wide (Nat.le_refl _) hV.size) hs (hS.kept hV))
  obtain ⟨z, hz⟩ : ∃ z, shapedB t = z := ⟨_, rfl⟩
  rw [hz] at CH CC
  unfold termV at CH CC
  unfold termV
  obtain ⟨X, hX⟩ : ∃ X, w.alloc (.cells #[.int .i64 t.k, .int .i64 t.n, .slice A t.l.length cap] 25) = X := ⟨_, rfl⟩
  have HBX := Lib.hid (show Below w.heap.size w X from by rw [← hX]; exact (Below.refl _ _).alloc (Nat.le_refl _) _)
  have HKt := Lib.hid (show Bk X w.heap.size 25 #[.int .i64 t.k, .int .i64 t.n, .slice A t.l.length cap] from by rw [← hX]; exact Bk.new _ _ _)
  have x0 : X.cell? ⟨w.heap.size, 0, none⟩ = some (.int .i64 t.k) := HKt.out.cell 0
  have x1 : X.cell? ⟨w.heap.size, 1, none⟩ = some (.int .i64 t.n) := HKt.out.cell 1
  have x2 : X.cell? ⟨w.heap.size, 2, none⟩ = some (.slice A t.l.length cap) := HKt.out.cell 2
  clear ht hS hz hN
  go_enter Tryz.func158, Tryz.ntmps158
  go_wp2_with fail
  refine (CH.out _ HBX.out).mono ?_
  rintro e w1 ⟨rfl, hb1⟩
  have HB1 := Lib.hid (HBX.out.trans (hb1.mono HBX.out.size))
  have HK1 := Lib.hid (HKt.out.below hb1 HKt.out.lt)
  have t0 : w1.cell? ⟨w.heap.size, 0, none⟩ = some (.int .i64 t.k) := HK1.out.cell 0
  have t1 : w1.cell? ⟨w.heap.size, 1, none⟩ = some (.int .i64 t.n) := HK1.out.cell 1
  have t2 : w1.cell? ⟨w.heap.size, 2, none⟩ = some (.slice A t.l.length cap) := HK1.out.cell 2
  clear hb1 hX x0 x1 x2
  cases z with
  | false =>
    go_wp2_with fail
    refine bodyPost_ret (v := .tuple #[.int .i64 0, .slice none 0 0, .bool false]) (by simp [results, Tryz.results158, go_sem]) rfl ?_
    exact ⟨rfl, HB1.out⟩
  | true =>
    go_wp2_with fail
    refine (CC.out _ HB1.out (by first | trivial | rfl)).mono ?_
    rintro e w2 ⟨rfl, hb2⟩
    have HB2 := Lib.hid (HB1.out.trans (hb2.mono HB1.out.size))
    clear hb2 t0 t1 t2
    go_wp2_with fail
    refine wp_loop_rounds 1 ?_
    rw [rounds_succ]
    go_wp2_with fail
    refine bodyPost_ret (v := .tuple #[.int .i64 0, .slice none 0 0, .bool false]) (by simp [results, Tryz.results158, go_sem]) rfl ?_
    exact ⟨rfl, HB2.out⟩


set_option maxHeartbeats 1000000 in
theorem wbrought_stay (t : TM) (F : Option Addr) (P : Option Addr) (A : Option Addr) (cap : Nat) (w : World) (h : NoEnt w P) (ht : IsTerm w 0 w.heap.size t A cap) (hS : ShapesM w) (hR : ∀ V, Below w.heap.size w V → Calls Tryz.prog 53 #[.pointer P, termV t A cap] V (NoRedex V)) :
    Calls Tryz.prog 56 #[.pointer P, termV t A cap, .pointer F] w fun e w' => e = .returned (.tuple #[termV t A cap, .int .i64 0]) ∧ Below w.heap.size w w' := by
  have HP := Lib.hid (fun (V : World) (hV : Below w.heap.size w V) => (show NoEnt V P from h.over hV))
  have HSS := Lib.hid (fun (V : World) (hV : Below w.heap.size w V) => hS.kept hV)
  have HT := Lib.hid (fun (V : World) (hV : Below w.heap.size w V) => (show IsTerm V 0 w.heap.size t A cap from ht.kept hV (Nat.le_refl _)))
  have HR := Lib.hid hR
  unfold NoRedex termV at HR
  unfold termV
  obtain ⟨X, hX⟩ : ∃ X, ((w.alloc (.cells #[.int .i64 t.k, .int .i64 t.n, .slice A t.l.length cap] 25)).alloc (.cells #[.int .i64 0, .int .i64 0, .slice none 0 0] 25)).alloc (.cells #[.int .i64 t.k, .int .i64 t.n, .slice A t.l.length cap] 25) = X := ⟨_, rfl⟩
  have HBX := Lib.hid (show Below w.heap.size w X from by rw [← hX]; exact (((Below.refl _ _).alloc (Nat.le_refl _) _).alloc (by simp) _).alloc (by simp; omega) _)
  have HKt := Lib.hid (show Bk X w.heap.size 25 #[.int .i64 t.k, .int .i64 t.n, .slice A t.l.length cap] from by rw [← hX]; exact ((Bk.new _ _ _).alloc _).alloc _)
  have HKr := Lib.hid (show Bk X (w.heap.size + 1) 25 #[.int .i64 0, .int .i64 0, .slice none 0 0] from by rw [← hX]; exact (Bk.last _ _ _ (by simp)).alloc _)
  have HKw := Lib.hid (show Bk X (w.heap.size + 1 + 1) 25 #[.int .i64 t.k, .int .i64 t.n, .slice A t.l.length cap] from by rw [← hX]; exact Bk.last _ _ _ (by simp))
  have x0 : X.cell? ⟨w.heap.size, 0, none⟩ = some (.int .i64 t.k) := HKt.out.cell 0
  have x1 : X.cell? ⟨w.heap.size, 1, none⟩ = some (.int .i64 t.n) := HKt.out.cell 1
  have x2 : X.cell? ⟨w.heap.size, 2, none⟩ = some (.slice A t.l.length cap) := HKt.out.cell 2
  have y0 : X.cell? ⟨w.heap.size + 1 + 1, 0, none⟩ = some (.int .i64 t.k) := HKw.out.cell 0
  have y1 : X.cell? ⟨w.heap.size + 1 + 1, 1, none⟩ = some (.int .i64 t.n) := HKw.out.cell 1
  have y2 : X.cell? ⟨w.heap.size + 1 + 1, 2, none⟩ = some (.slice A t.l.length cap) := HKw.out.cell 2
  have hfy : ∀ q, X.frozen? ⟨w.heap.size + 1 + 1, q, none⟩ = false := fun q => HKw.out.cold q
  clear h ht hS hR
  go_enter Tryz.func56, Tryz.ntmps56
  go_wp2_with fail
  go_step3
  go_wp2_with fail
  go_step3
  go_wp2_with fail
  refine wp_loop_rounds 1 ?_
  rw [rounds_succ]
  go_wp2_with fail
  have HBZ := Lib.hid (Below.st (g := w.heap.size + 1 + 1) (q := 2) (Below.st (g := w.heap.size + 1 + 1) (q := 1) (Below.st (g := w.heap.size + 1 + 1) (q := 0) HBX.out (by omega) (.int .i64 t.k)) (by omega) (.int .i64 t.n)) (by omega) (.slice A t.l.length cap))
  have HrZ := Lib.hid (((HKr.out.far (a := ⟨w.heap.size + 1 + 1, 0, none⟩) (by simp) (.int .i64 t.k)).far (a := ⟨w.heap.size + 1 + 1, 1, none⟩) (by simp) (.int .i64 t.n)).far (a := ⟨w.heap.size + 1 + 1, 2, none⟩) (by simp) (.slice A t.l.length cap))
  have HwZ := Lib.hid (((HKw.out.at_ 0 (.int .i64 t.k)).at_ 1 (.int .i64 t.n)).at_ 2 (.slice A t.l.length cap))
  obtain ⟨Z, hZ⟩ : ∃ Z, ((X.setCell ⟨w.heap.size + 1 + 1, 0, none⟩ (.int .i64 t.k)).setCell ⟨w.heap.size + 1 + 1, 1, none⟩ (.int .i64 t.n)).setCell ⟨w.heap.size + 1 + 1, 2, none⟩ (.slice A t.l.length cap) = Z := ⟨_, rfl⟩
  rw [hZ] at HBZ HrZ HwZ ⊢
  clear hX hZ x0 x1 x2 y0 y1 y2 hfy
  refine (HR.out Z HBZ.out).mono ?_
  rintro e w1 ⟨rfl, hb1⟩
  have HB1 := Lib.hid (HBZ.out.trans (hb1.mono HBZ.out.size))
  have Hr1 := Lib.hid (HrZ.out.below hb1 HrZ.out.lt)
  have Hw1 := Lib.hid (HwZ.out.below hb1 HwZ.out.lt)
  clear hb1
  have hlr := Hr1.out.lt
  have hlw := Hw1.out.lt
  have hfz : ∀ q, w1.frozen? ⟨w.heap.size + 1, q, none⟩ = false := fun q => Hr1.out.cold q
  have y0 : w1.cell? ⟨w.heap.size + 1 + 1, 0, none⟩ = some (.int .i64 t.k) := Hw1.out.cell 0
  have y1 : w1.cell? ⟨w.heap.size + 1 + 1, 1, none⟩ = some (.int .i64 t.n) := Hw1.out.cell 1
  have y2 : w1.cell? ⟨w.heap.size + 1 + 1, 2, none⟩ = some (.slice A t.l.length cap) := Hw1.out.cell 2
  have r0 : w1.cell? ⟨w.heap.size + 1, 0, none⟩ = some (.int .i64 0) := Hr1.out.cell 0
  have r1 : w1.cell? ⟨w.heap.size + 1, 1, none⟩ = some (.int .i64 0) := Hr1.out.cell 1
  have r2 : w1.cell? ⟨w.heap.size + 1, 2, none⟩ = some (.slice none 0 0) := Hr1.out.cell 2
  have B5 := (((Hr1.out.at_ 0 (.int .i64 t.k)).at_ 1 (.int .i64 t.n)).at_ 2 (.slice A t.l.length cap)).al (.cells #[.int .i64 0, .int .i64 0, .slice none 0 0, .slice none 0 0, .slice none 0 0] 97)
  have HS0 := Lib.hid (B5.cell 0)
  have HS1 := Lib.hid (B5.cell 1)
  have HS2 := Lib.hid (B5.cell 2)
  clear B5
  go_wp2_with fail
  rw [Exit.noGoto_ret]
  refine bodyPost_ret (v := .tuple #[.agg #[.int .i64 t.k, .int .i64 t.n, .slice A t.l.length cap], .int .i64 0]) (by simp [results, Tryz.results56, go_sem, HS0.out, HS1.out, HS2.out]) rfl ?_
  have B6 := Below.st (g := w.heap.size + 1) (q := 2) (Below.st (g := w.heap.size + 1) (q := 1) (Below.st (g := w.heap.size + 1) (q := 0) HB1.out (by omega) (.int .i64 t.k)) (by omega) (.int .i64 t.n)) (by omega) (.slice A t.l.length cap)
  exact ⟨rfl, B6.alloc B6.size _⟩

set_option maxHeartbeats 1000000 in
theorem wBring_stay (t : TM) (F : Option Addr) (hs : shapedB t = true) (hr : trightB t 1048577 0 = true) (g : Nat) (A : Option Addr) (cap : Nat) (w : World) (h : NilM w g) (ht : IsTerm w 0 w.heap.size t A cap) (hS : ShapesM w) (hR : ∀ V, Below w.heap.size w V → Calls Tryz.prog 53 #[.pointer (some ⟨g, 0, none⟩), termV t A cap] V (NoRedex V)) :
    Calls Tryz.prog 35 #[.pointer (some ⟨g, 0, none⟩), termV t A cap, .pointer F] w fun e w' => ∃ G c, e = .returned (.tuple #[.agg #[.int .i64 t.k, .int .i64 t.n, .slice G t.l.length c], .int .i64 0]) ∧ IsTerm w' w.heap.size w'.heap.size t G c ∧ Below w.heap.size w w' := by
  obtain ⟨X, hX⟩ : ∃ X, (w.alloc (.cells #[.int .i64 t.k, .int .i64 t.n, .slice A t.l.length cap] 25)).alloc (.cells #[.int .i64 0, .int .i64 0, .slice none 0 0] 25) = X := ⟨_, rfl⟩
  have HBX := Lib.hid (show Below w.heap.size w X from by rw [← hX]; exact ((Below.refl _ _).alloc (Nat.le_refl _) _).alloc (by simp) _)
  have HKt := Lib.hid (show Bk X w.heap.size 25 #[.int .i64 t.k, .int .i64 t.n, .slice A t.l.length cap] from by rw [← hX]; exact (Bk.new _ _ _).alloc _)
  have HKr := Lib.hid (show Bk X (w.heap.size + 1) 25 #[.int .i64 0, .int .i64 0, .slice none 0 0] from by rw [← hX]; exact Bk.last _ _ _ (by simp))
  have x0 : X.cell? ⟨w.heap.size, 0, none⟩ = some (.int .i64 t.k) := HKt.out.cell 0
  have x1 : X.cell? ⟨w.heap.size, 1, none⟩ = some (.int .i64 t.n) := HKt.out.cell 1
  have x2 : X.cell? ⟨w.heap.size, 2, none⟩ = some (.slice A t.l.length cap) := HKt.out.cell 2
  have CM := Lib.hid (wmay_zero t A cap g X (h.over HBX.out) ((ht.kept HBX.out (Nat.le_refl _)).wide (Nat.le_refl _) HBX.out.size) (hS.kept HBX.out))
  rw [hr] at CM
  have CB := Lib.hid (fun (V : World) (hV : Below w.heap.size w V) => wbrought_stay t F (some ⟨g, 0, none⟩) A cap V (.inr ⟨g, rfl, h.over hV⟩) ((ht.kept hV (Nat.le_refl _)).wide (Nat.le_refl _) hV.size) (hS.kept hV) (fun Z hZ => hR Z (hV.trans (hZ.mono hV.size))))
  have CC := Lib.hid (fun (V : World) (hV : Below w.heap.size w V) => copy_to t 0 w.heap.size A cap V (ht.kept hV (Nat.le_refl _)) hV.size (hS.kept hV))
  unfold CopyTo at CC
  rw [copyT_shaped hs] at CC
  unfold termV at CB CC
  unfold termV
  clear h ht hS hR hr hs
  go_enter Tryz.func35, Tryz.ntmps35
  go_wp2_with fail
  refine CM.out.mono ?_
  rintro e w1 ⟨rfl, hb1⟩
  have HB1 := Lib.hid (HBX.out.trans (hb1.mono HBX.out.size))
  have Ht1 := Lib.hid (HKt.out.below hb1 HKt.out.lt)
  have Hr1 := Lib.hid (HKr.out.below hb1 HKr.out.lt)
  have t0 : w1.cell? ⟨w.heap.size, 0, none⟩ = some (.int .i64 t.k) := Ht1.out.cell 0
  have t1 : w1.cell? ⟨w.heap.size, 1, none⟩ = some (.int .i64 t.n) := Ht1.out.cell 1
  have t2 : w1.cell? ⟨w.heap.size, 2, none⟩ = some (.slice A t.l.length cap) := Ht1.out.cell 2
  clear hb1 hX x0 x1 x2
  go_wp2_with fail
  refine (CB.out _ HB1.out).mono ?_
  rintro e w2 ⟨rfl, hb2⟩
  have HB2 := Lib.hid (HB1.out.trans (hb2.mono HB1.out.size))
  have Ht2 := Lib.hid (Ht1.out.below hb2 Ht1.out.lt)
  have Hr2 := Lib.hid (Hr1.out.below hb2 Hr1.out.lt)
  have hlt2 := Ht2.out.lt
  have hlr2 := Hr2.out.lt
  have hft : ∀ q, w2.frozen? ⟨w.heap.size, q, none⟩ = false := fun q => Ht2.out.cold q
  have u0 : w2.cell? ⟨w.heap.size, 0, none⟩ = some (.int .i64 t.k) := Ht2.out.cell 0
  have u1 : w2.cell? ⟨w.heap.size, 1, none⟩ = some (.int .i64 t.n) := Ht2.out.cell 1
  have u2 : w2.cell? ⟨w.heap.size, 2, none⟩ = some (.slice A t.l.length cap) := Ht2.out.cell 2
  clear hb2 t0 t1 t2
  go_wp2_with fail
  have HrV := Lib.hid (((Hr2.out.far (a := ⟨w.heap.size, 0, none⟩) (by show w.heap.size + 1 ≠ w.heap.size; omega) (.int .i64 t.k)).far (a := ⟨w.heap.size, 1, none⟩) (by show w.heap.size + 1 ≠ w.heap.size; omega) (.int .i64 t.n)).far (a := ⟨w.heap.size, 2, none⟩) (by show w.heap.size + 1 ≠ w.heap.size; omega) (.slice A t.l.length cap))
  have HBV := Lib.hid (Below.st (g := w.heap.size) (q := 2) (Below.st (g := w.heap.size) (q := 1) (Below.st (g := w.heap.size) (q := 0) HB2.out (by omega) (.int .i64 t.k)) (by omega) (.int .i64 t.n)) (by omega) (.slice A t.l.length cap))
  obtain ⟨V, hV⟩ : ∃ V, ((w2.setCell ⟨w.heap.size, 0, none⟩ (.int .i64 t.k)).setCell ⟨w.heap.size, 1, none⟩ (.int .i64 t.n)).setCell ⟨w.heap.size, 2, none⟩ (.slice A t.l.length cap) = V := ⟨_, rfl⟩
  rw [hV] at HrV HBV ⊢
  clear hV u0 u1 u2 hft
  refine (CC.out V HBV.out).mono ?_
  rintro e w3 ⟨F3, c3, rfl, hc3, hb3⟩
  have HC3 := Lib.hid (show TermIn w3 (fun b => V.heap.size ≤ b ∧ b < w3.heap.size) t F3 c3 from hc3)
  have HB3 := Lib.hid (HBV.out.trans (hb3.mono HBV.out.size))
  have Hr3 := Lib.hid (HrV.out.below hb3 HrV.out.lt)
  have hlr3 := Hr3.out.lt
  have hfr : ∀ q, w3.frozen? ⟨w.heap.size + 1, q, none⟩ = false := fun q => Hr3.out.cold q
  have r0 : w3.cell? ⟨w.heap.size + 1, 0, none⟩ = some (.int .i64 0) := Hr3.out.cell 0
  have r1 : w3.cell? ⟨w.heap.size + 1, 1, none⟩ = some (.int .i64 0) := Hr3.out.cell 1
  have r2 : w3.cell? ⟨w.heap.size + 1, 2, none⟩ = some (.slice none 0 0) := Hr3.out.cell 2
  have B5 := ((Hr3.out.at_ 0 (.int .i64 t.k)).at_ 1 (.int .i64 t.n)).at_ 2 (.slice F3 t.l.length c3)
  have HS0 := Lib.hid (B5.cell 0)
  have HS1 := Lib.hid (B5.cell 1)
  have HS2 := Lib.hid (B5.cell 2)
  clear B5 hb3 hc3
  go_wp2_with fail
  refine bodyPost_ret (v := .tuple #[.agg #[.int .i64 t.k, .int .i64 t.n, .slice F3 t.l.length c3], .int .i64 0]) (by simp [results, Tryz.results35, go_sem, HS0.out, HS1.out, HS2.out]) rfl ?_
  have hzz := HBV.out.size
  have hrl := HrV.out.lt
  exact ⟨F3, c3, rfl, (TermIn.three (g := w.heap.size + 1) HC3.out (fun b hb => by have := hb.1; omega) _ _ _).imp (fun _ _ _ => rfl) (fun b hb => ⟨by have := hb.1; omega, by rw [size_three]; exact hb.2⟩), Below.st (g := w.heap.size + 1) (q := 2) (Below.st (g := w.heap.size + 1) (q := 1) (Below.st (g := w.heap.size + 1) (q := 0) HB3.out (by omega) _) (by omega) _) (by omega) _⟩



theorem formed_nil : formedB [] = true := by kernel_rfl
theorem no_ents (w : World) (lo hi : Nat) (A : Option Addr) : EntsAt w lo hi A [] := fun i h => absurd h (Nat.not_lt_zero i)
theorem iNew_nil (w : World) (hS : ShapesM w) : Calls Tryz.prog 50 #[.slice none 0 0] w fun e w' => ∃ g, e = .returned (.tuple #[.pointer (some ⟨g, 0, none⟩), .int .i64 0]) ∧ Below w.heap.size w w' :=
  (inew_any [] none 0 0 0 w (Nat.zero_le _) (Nat.le_refl _) (no_ents _ _ _ _) (Nat.zero_le _) hS).mono fun e w' h => by
    obtain ⟨g, A, B, cap, h1, _, h3⟩ := GivesNw.yes formed_nil h
    exact ⟨g, h1, h3⟩
theorem sCopy_nil (w : World) (hS : ShapesM w) : Calls Tryz.prog 51 #[.slice none 0 0] w fun e w' => ∃ A c, e = .returned (.slice A 0 c) ∧ Below w.heap.size w w' :=
  (scopyP_any [] none 0 0 0 w (Nat.zero_le _) (fun x hx => by cases hx) (no_ents _ _ _ _) (Nat.zero_le _) hS).mono fun e w' h => by
    obtain ⟨A, c, h1, _, _, h4⟩ := h
    exact ⟨A, c, h1, h4⟩
theorem wNew_nil (w : World) (hS : ShapesM w) : Calls Tryz.prog 26 #[.slice none 0 0] w fun e w' => ∃ g, e = .returned (.tuple #[.pointer (some ⟨g, 0, none⟩), .int .i64 0]) ∧ NilM w' g ∧ w.heap.size ≤ g ∧ Below w.heap.size w w' := by
  have CI := Lib.hid (iNew_nil w hS)
  have CC := Lib.hid (fun (V : World) (hV : Below w.heap.size w V) => sCopy_nil V (hS.kept hV))
  clear hS
  go_enter Tryz.func26, Tryz.ntmps26
  go_wp2_with fail
  refine CI.out.mono ?_
  rintro e w1 ⟨g, rfl, hb1⟩
  have HB1 := Lib.hid hb1
  clear hb1
  go_wp2_with fail
  refine (CC.out _ HB1.out).mono ?_
  rintro e w2 ⟨A2, c2, rfl, hb2⟩
  have HB2 := Lib.hid (HB1.out.trans (hb2.mono HB1.out.size))
  clear hb2
  go_wp2_with fail
  go_ret2
  exact ⟨_, rfl, ⟨_, _, _, Bk.last _ _ _ (by simp)⟩, HB2.out.size, HB2.out.alloc HB2.out.size _⟩



def aS : TM := .node 2 2 []
def aT : TM := .node 5 0 [.node 4 0 [aS, .node 1 0 []], aS]
def bS : TM := .node 2 0 []
def bT : TM := .node 5 0 [.node 4 0 [bS, bS], bS]
theorem aBeta : Beta aT 0 aS (.node 1 0 []) aS aS where
  sh := by kernel_rfl
  hd := by kernel_rfl
  ar := by kernel_rfl
  ga := by kernel_rfl
  gb := by kernel_rfl
  gx := by kernel_rfl
  mu := by kernel_rfl
  us := by kernel_rfl
  uk := by rw [show headT aS = aS from by kernel_rfl]; decide
theorem bBeta : Beta bT 0 bS bS bS bS where
  sh := by kernel_rfl
  hd := by kernel_rfl
  ar := by kernel_rfl
  ga := by kernel_rfl
  gb := by kernel_rfl
  gx := by kernel_rfl
  mu := by kernel_rfl
  us := by kernel_rfl
  uk := by rw [show headT bS = bS from by kernel_rfl]; decide
theorem aRight : trightB aT 1048577 0 = true := by kernel_rfl
theorem bRight : trightB bT 1048577 0 = true := by kernel_rfl
theorem leafAt (w : World) (P : Nat → Prop) (k n : Int) (A : Option Addr) {cap : Nat} (h : cap ≤ maxLen) : TermIn w P (.node k n []) A cap :=
  TermIn.mk k n [] A cap (fun _ => none) (fun _ => 0) (Nat.zero_le _) h (fun h => by simp at h) (fun i h => by simp at h)
/-- A node of two terms. -/
theorem ttwo_any (kk : Int) (x y : TM) (A A' : Option Addr) (cap cap' : Nat) (w : World) (hx : IsTerm w 0 w.heap.size x A cap) (hy : IsTerm w 0 w.heap.size y A' cap') :
    Calls Tryz.prog 17 #[.int .i64 kk, termV x A cap, termV y A' cap'] w fun e w' => ∃ g, e = .returned (.agg #[.int .i64 kk, .int .i64 0, .slice (some ⟨g, 0, none⟩) 2 2]) ∧ IsTerm w' 0 w'.heap.size (.node kk 0 [x, y]) (some ⟨g, 0, none⟩) 2 ∧ Below w.heap.size w w' :=
  (mk_two kk x.k y.k x.n y.n A A' x.l.length y.l.length cap cap' w).mono fun e w' h => by
    obtain ⟨g, h1, h2, h3, h4⟩ := h
    exact ⟨g, h1, two_in ((hx.kept h4 (Nat.le_refl _)).wide (Nat.le_refl _) h4.size) ((hy.kept h4 (Nat.le_refl _)).wide (Nat.le_refl _) h4.size) h3 ⟨Nat.zero_le _, h3.lt⟩ kk 0, h4⟩


end Go.Proofs.YtchllgkgjompgaaGreatDoor
