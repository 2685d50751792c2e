import Derived.Test.YtondjkeakfkefaaGreatDoorN2
import Derived.Deep.RegionHeld3
import Derived.Test.YtondjkeakfkefaaGreatDoorW3
namespace Go.Proofs.YtondjkeakfkefaaGreatDoor
open Go.RowKit
set_option linter.unusedVariables false
set_option maxRecDepth 100000

theorem lam_right : trightB lamT 1048577 0 = true := by kernel_rfl
theorem lam_shaped : shapedB lamT = true := by kernel_rfl
theorem leaf_right : trightB aS 1048577 0 = true := by kernel_rfl
theorem leaf_shaped : shapedB aS = true := by kernel_rfl
/-- A leaf is brought to itself. -/
theorem bring_leaf (g : Nat) (A : Option Addr) (cap : Nat) (F : Option Addr) (w : World) (hc : cap ≤ maxLen) (hS : ShapesM w) (hM : NilM w g) :
    Calls Tryz.prog 55 #[.pointer (some ⟨g, 0, none⟩), .agg #[.int .i64 2, .int .i64 2, .slice A 0 cap], .pointer F] w fun e w' => ∃ G c, e = .returned (.tuple #[.agg #[.int .i64 2, .int .i64 2, .slice G 0 c], .int .i64 0]) ∧ c ≤ maxLen ∧ Below w.heap.size w w' :=
  (wBring_stay aS F leaf_shaped leaf_right g A cap w hM (leafAt w _ 2 2 A hc) hS (fun V hV => wredex_no (some ⟨g, 0, none⟩) aS A cap V (.inr ⟨g, rfl, hM.over hV⟩) (leafAt V _ 2 2 A hc) leaf_shaped (hS.kept hV) (by decide))).mono (by
    rintro e w' ⟨G, c, rfl, ht, hb⟩
    exact ⟨G, c, rfl, ht.bounds.2, hb⟩)
/-- The function is in weak head form. -/
theorem bring_lam (g : Nat) (A : Option Addr) (cap : Nat) (F : Option Addr) (w : World) (ht : IsTerm w 0 w.heap.size lamT A cap) (hS : ShapesM w) (hM : NilM w g) :
    Calls Tryz.prog 55 #[.pointer (some ⟨g, 0, none⟩), .agg #[.int .i64 4, .int .i64 0, .slice A 2 cap], .pointer F] w fun e w' => ∃ G c, e = .returned (.tuple #[.agg #[.int .i64 4, .int .i64 0, .slice G 2 c], .int .i64 0]) ∧ IsTerm w' w.heap.size w'.heap.size lamT G c ∧ Below w.heap.size w w' :=
  wBring_stay lamT F lam_shaped lam_right g A cap w hM ht hS (fun V hV => wredex_bare (some ⟨g, 0, none⟩) lamT A cap V (.inr ⟨g, rfl, hM.over hV⟩) ((ht.kept hV (Nat.le_refl _)).wide (Nat.le_refl _) hV.size) lam_shaped (hS.kept hV) (by decide) (by rfl))
/-- The redex comes to the leaf. -/
theorem bring_redex (g : Nat) (A : Option Addr) (cap : Nat) (w : World) (ht : IsTerm w 0 w.heap.size aT A cap) (gf : Nat) (f lf : Int) (hm : Mt w gf f lf) (hlf : 1 ≤ lf ∧ lf ≤ 1048576) (w0 : World) (h0 : Below w0.heap.size w0 w) (hw0 : w0.heap.size ≤ gf) (hS0 : ShapesM w0) (hP0 : NilM w0 g) :
    Calls Tryz.prog 55 #[.pointer (some ⟨g, 0, none⟩), .agg #[.int .i64 5, .int .i64 0, .slice A 2 cap], .pointer (some ⟨gf, 0, none⟩)] w fun e w' => ∃ G c, e = .returned (.tuple #[.agg #[.int .i64 2, .int .i64 2, .slice G 0 c], .int .i64 0]) ∧ c ≤ maxLen ∧ Mt w' gf f (lf - 1) ∧ Up gf w w' :=
  (wBring_ok aBeta aRight g A cap w ht gf f lf hm hlf w0 h0 hw0 hS0 hP0).mono (by
    rintro e w' ⟨G, c, rfl, ht, hm, hu⟩
    exact ⟨G, c, rfl, ht.bounds.2, hm, hu⟩)

theorem row_set0 (A0 : Option Addr) (c0 : Nat) (A1 : Option Addr) (c1 : Nat) (G : Option Addr) (d : Nat) (r : List Value) : (((rowV A0 c0 A1 c1 r).setIfInBounds 0 (.int .i64 2)).setIfInBounds (0 + 1) (.int .i64 2)).setIfInBounds (0 + 2) (.slice G 0 d) = rowV G d A1 c1 r := by
  simp [rowV]
theorem row_set1 (A0 : Option Addr) (c0 : Nat) (A1 : Option Addr) (c1 : Nat) (G : Option Addr) (d : Nat) (r : List Value) : (((rowV A0 c0 A1 c1 r).setIfInBounds 3 (.int .i64 2)).setIfInBounds (3 + 1) (.int .i64 2)).setIfInBounds (3 + 2) (.slice G 0 d) = rowS A0 c0 G d r := by
  simp [rowV, rowS]
set_option maxHeartbeats 4000000 in
theorem build_lam (A : Option Addr) (cap gb g gf : Nat) (f lf : Int) (w w0 : World) (hne : gb ≠ gf) (h0 : Below w0.heap.size w0 w) (hwb : w0.heap.size ≤ gb) (hwf : w0.heap.size ≤ gf) (hS0 : ShapesM w0) (hM0 : NilM w0 g) (ht0 : IsTerm w0 0 w0.heap.size lamT A cap) (hlf : 1 ≤ lf ∧ lf ≤ 1048576)
    (hk : Bk w gb 73 (bldV (some ⟨g, 0, none⟩) (some ⟨gf, 0, none⟩) 0 false)) (hm : Mt w gf f lf) :
    Calls Tryz.prog 36 #[.pointer (some ⟨gb, 0, none⟩), .agg #[.int .i64 4, .int .i64 0, .slice A 2 cap], .int .i64 1] w fun e w' => ∃ H, e = .returned (.tuple #[.agg #[.int .i64 4, .int .i64 0, .slice H 2 2], .int .i64 0]) ∧ IsTerm w' w.heap.size w'.heap.size lamS H 2 ∧ Bk w' gb 73 (bldV (some ⟨g, 0, none⟩) (some ⟨gf, 0, none⟩) 3 false) ∧ Mt w' gf f (lf - 1) ∧ Up2 gb gf w w' := by
  have HF := Lib.hid (fun (V : World) (hV : Up2 gb gf w V) => (show Below w0.heap.size w0 V from h0.trans (hV.below hwb hwf h0.size)))
  have HS := Lib.hid (fun (V : World) (hV : Up2 gb gf w V) => (show ShapesM V from hS0.kept (HF.out V hV)))
  have HN := Lib.hid (fun (V : World) (hV : Up2 gb gf w V) => (show NilM V g from hM0.over (HF.out V hV)))
  have HT0 := Lib.hid (fun (V : World) (hV : Up2 gb gf w V) => (show IsTerm V 0 V.heap.size lamT A cap from (ht0.kept (HF.out V hV) (Nat.le_refl _)).wide (Nat.le_refl _) (HF.out V hV).size))
  have HBL := Lib.hid (fun (V : World) (hV : Up2 gb gf w V) => bring_lam g A cap (some ⟨gf, 0, none⟩) V (HT0.out V hV) (HS.out V hV) (HN.out V hV))
  have HB0 := Lib.hid (fun (A0 : Option Addr) (c0 : Nat) (V : World) (hc : c0 ≤ maxLen) (hV : Up2 gb gf w V) => bring_leaf g A0 c0 (some ⟨gf, 0, none⟩) V hc (HS.out V hV) (HN.out V hV))
  have HB1 := Lib.hid (fun (A1 : Option Addr) (c1 : Nat) (V : World) (hV : Up2 gb gf w V) (ht : IsTerm V 0 V.heap.size aT A1 c1) (hmV : Mt V gf f lf) => bring_redex g A1 c1 V ht gf f lf hmV hlf w0 (HF.out V hV) hwf hS0 hM0)
  unfold bldV at hk
  have hgb := hk.lt
  have hgf := hm.lt
  obtain ⟨X, hX⟩ : ∃ X, (w.alloc (.cells #[.int .i64 4, .int .i64 0, .slice A 2 cap] 25)).alloc (.cells #[.int .i64 0, .int .i64 0, .slice none 0 0] 25) = X := ⟨_, rfl⟩
  have HBX := Lib.hid (show Below w.heap.size w X from by rw [← hX]; exact ((Below.refl _ _).alloc (Nat.le_refl _) _).alloc (by simp) _)
  have HKt := Lib.hid (show Bk X w.heap.size 25 #[.int .i64 4, .int .i64 0, .slice A 2 cap] from by rw [← hX]; exact (Bk.new _ _ _).alloc _)
  have HKr := Lib.hid (show Bk X (w.heap.size + 1) 25 #[.int .i64 0, .int .i64 0, .slice none 0 0] from by rw [← hX]; exact Bk.last _ _ _ (by simp))
  have x0 : X.cell? ⟨w.heap.size, 0, none⟩ = some (.int .i64 4) := HKt.out.cell 0
  have x1 : X.cell? ⟨w.heap.size, 1, none⟩ = some (.int .i64 0) := HKt.out.cell 1
  have x2 : X.cell? ⟨w.heap.size, 2, none⟩ = some (.slice A 2 cap) := HKt.out.cell 2
  have HKb := Lib.hid (hk.below HBX.out hgb)
  have HMX := Lib.hid (hm.below HBX.out hgf)
  have b0 : X.cell? ⟨gb, 0, none⟩ = some (.pointer (some ⟨g, 0, none⟩)) := HKb.out.cell 0
  have b1 : X.cell? ⟨gb, 1, none⟩ = some (.pointer (some ⟨gf, 0, none⟩)) := HKb.out.cell 1
  have b3 : X.cell? ⟨gb, 3, none⟩ = some (.bool false) := HKb.out.cell 3
  have hfb : ∀ q, X.frozen? ⟨gb, q, none⟩ = false := fun q => HKb.out.cold q
  have HKbZ := Lib.hid (HKb.out.at_ 3 (.bool false))
  have HKtZ := Lib.hid (HKt.out.far (a := ⟨gb, 3, none⟩) (by show w.heap.size ≠ gb; omega) (.bool false))
  have HKrZ := Lib.hid (HKr.out.far (a := ⟨gb, 3, none⟩) (by show w.heap.size + 1 ≠ gb; omega) (.bool false))
  have HMZ := Lib.hid (HMX.out.far (a := ⟨gb, 3, none⟩) (by show gf ≠ gb; omega) (.bool false))
  have HUZ := Lib.hid ((Up2.of HBX.out : Up2 gb gf w X).trans (Up2.ofA (Up.set 3 (.bool false))))
  obtain ⟨Z, hZ⟩ : ∃ Z, X.setCell ⟨gb, 3, none⟩ (.bool false) = Z := ⟨_, rfl⟩
  rw [hZ] at HKbZ HKtZ HKrZ HMZ HUZ
  have z3 : Z.cell? ⟨gb, 3, none⟩ = some (.bool false) := HKbZ.out.cell 3
  have hlZ := HKbZ.out.lt
  have hlt := HKtZ.out.lt
  have hlr := HKrZ.out.lt
  have HK := Lib.hid (fun (V : World) (hV : Below Z.heap.size Z V) => (show V.cell? ⟨gb, 0, none⟩ = some (.pointer (some ⟨g, 0, none⟩)) ∧ V.cell? ⟨gb, 1, none⟩ = some (.pointer (some ⟨gf, 0, none⟩)) ∧ V.cell? ⟨w.heap.size, 0, none⟩ = some (.int .i64 4) ∧ V.cell? ⟨w.heap.size, 1, none⟩ = some (.int .i64 0) ∧ V.cell? ⟨w.heap.size, 2, none⟩ = some (.slice A 2 cap) ∧ (∀ q, V.frozen? ⟨w.heap.size, q, none⟩ = false) from by
    have k1 := HKbZ.out.below hV HKbZ.out.lt
    have k2 := HKtZ.out.below hV HKtZ.out.lt
    exact ⟨k1.cell 0, k1.cell 1, k2.cell 0, k2.cell 1, k2.cell 2, fun q => k2.cold q⟩))
  clear hk hm h0 hS0 hM0 ht0 hlf hwb hwf
  go_enter Tryz.func36, Tryz.ntmps36
  go_upto_region 4 with fail
  clear hX hZ z3 b0 b1 b3 hfb x0 x1 x2
  go_cut [8] from 30 to 43 (fun s8 wx => ∃ G c lo, s8 = .int .i64 0 ∧ w.heap.size + 2 ≤ lo ∧ IsTerm wx lo wx.heap.size lamT G c ∧ Bk wx w.heap.size 25 #[.int .i64 4, .int .i64 0, .slice G 2 c] ∧ Bk wx (w.heap.size + 1) 25 #[.int .i64 0, .int .i64 0, .slice none 0 0] ∧ Bk wx gb 73 (bldV (some ⟨g, 0, none⟩) (some ⟨gf, 0, none⟩) 0 false) ∧ Mt wx gf f lf ∧ Up2 gb gf w wx)
  case first =>
    have hbk := Lib.hid ((Below.refl Z.heap.size Z).drew)
    obtain ⟨b0, b1, x0, x1, x2, hfz⟩ := HK.out _ hbk.out
    go_region_law
      (first
       | (go_simp; go_at_call 55; refine (HBL.out _ (HUZ.out.trans (Up2.of hbk.out))).mono ?_; rintro e w3 ⟨G, c, rfl, ht3, hbn⟩; have HLO := Lib.hid hbk.out.size; have HT3 := Lib.hid ht3; have hbk := Lib.hid (hbk.out.trans (hbn.mono hbk.out.size)); clear hbn ht3 b0 b1 x0 x1 x2 hfz; obtain ⟨b0, b1, x0, x1, x2, hfz⟩ := HK.out _ hbk.out))
    all_goals
      have hzb := hbk.out.size
      have hlo := HLO.out
      have Kt := HKtZ.out.below hbk.out HKtZ.out.lt
      have Kr := HKrZ.out.below hbk.out HKrZ.out.lt
      have Kb := HKbZ.out.below hbk.out HKbZ.out.lt
      have HM3 := Lib.hid (HMZ.out.below hbk.out HMZ.out.lt)
      have hlr' := Kr.lt
      have HA := Lib.hid (((Kt.at_ 0 (.int .i64 4)).at_ 1 (.int .i64 0)).at_ 2 (.slice G 2 c))
      have HB := Lib.hid (((Kr.far (a := ⟨w.heap.size, 0, none⟩) (by show w.heap.size + 1 ≠ w.heap.size; omega) (.int .i64 4)).far (a := ⟨w.heap.size, 1, none⟩) (by show w.heap.size + 1 ≠ w.heap.size; omega) (.int .i64 0)).far (a := ⟨w.heap.size, 2, none⟩) (by show w.heap.size + 1 ≠ w.heap.size; omega) (.slice G 2 c))
      have HCb := Lib.hid (((Kb.far (a := ⟨w.heap.size, 0, none⟩) (by show gb ≠ w.heap.size; omega) (.int .i64 4)).far (a := ⟨w.heap.size, 1, none⟩) (by show gb ≠ w.heap.size; omega) (.int .i64 0)).far (a := ⟨w.heap.size, 2, none⟩) (by show gb ≠ w.heap.size; omega) (.slice G 2 c))
      have HD := Lib.hid (((HM3.out.far (a := ⟨w.heap.size, 0, none⟩) (by show gf ≠ w.heap.size; omega) (.int .i64 4)).far (a := ⟨w.heap.size, 1, none⟩) (by show gf ≠ w.heap.size; omega) (.int .i64 0)).far (a := ⟨w.heap.size, 2, none⟩) (by show gf ≠ w.heap.size; omega) (.slice G 2 c))
      have HE := Lib.hid (Up2.st (g := w.heap.size) (q := 2) (Up2.st (g := w.heap.size) (q := 1) (Up2.st (g := w.heap.size) (q := 0) (HUZ.out.trans (Up2.of hbk.out)) (.inl (Nat.le_refl _)) (.int .i64 4)) (.inl (Nat.le_refl _)) (.int .i64 0)) (.inl (Nat.le_refl _)) (.slice G 2 c))
      have HG := Lib.hid (TermIn.three (g := w.heap.size) HT3.out (fun b hb => by have := hb.1; omega) (.int .i64 4) (.int .i64 0) (.slice G 2 c))
      clear Kt Kr Kb
      go_wp2_with fail
      go_meet
      case rel => exact ⟨G, c, _, rfl, by omega, HG.out.imp (fun _ _ _ => rfl) (fun b hb => ⟨hb.1, by rw [size_three]; exact hb.2⟩), HA.out, HB.out, HCb.out, HD.out, HE.out⟩
  case rest =>
    obtain ⟨Y, rfl⟩ : ∃ Y : World, Y = wc := ⟨_, rfl⟩
    obtain ⟨G, c, lo, rfl, hlo, hG, ht, hr, hb, hm, hu⟩ := hcut
    have HG := Lib.hid hG
    have HT := Lib.hid ht
    have HR := Lib.hid hr
    have HB := Lib.hid hb
    have HM := Lib.hid hm
    have HU := Lib.hid hu
    clear hG ht hr hb hm hu HBL HK HKbZ HKtZ HKrZ HMZ HUZ HKb HMX HBX HKt HKr HT0
    have x0 : Y.cell? ⟨w.heap.size, 0, none⟩ = some (.int .i64 4) := HT.out.cell 0
    have x1 : Y.cell? ⟨w.heap.size, 1, none⟩ = some (.int .i64 0) := HT.out.cell 1
    have x2 : Y.cell? ⟨w.heap.size, 2, none⟩ = some (.slice G 2 c) := HT.out.cell 2
    go_wp2_with fail
    refine (parts_lam lo G c Y HG.out).mono ?_
    rintro e w4 ⟨g1, cc, r, A0, c0, A1, c1, rfl, hrow, hg1, hcc, hc0, h1, hb4⟩
    have HT4 := Lib.hid (HT.out.below hb4 HT.out.lt)
    have HR4 := Lib.hid (HR.out.below hb4 HR.out.lt)
    have HB4 := Lib.hid (HB.out.below hb4 HB.out.lt)
    have HM4 := Lib.hid (HM.out.below hb4 HM.out.lt)
    have HU4 := Lib.hid (HU.out.trans (Up2.of hb4))
    have HG4 := Lib.hid ((HG.out.kept hb4 (Nat.le_refl _)).wide (Nat.le_refl _) hb4.size)
    have HROW := Lib.hid hrow
    have H14 := Lib.hid h1
    have HC0 := Lib.hid hc0
    have hlY := HR.out.lt
    have hl4 := hb4.size
    have hlg4 := HROW.out.lt
    have hcc' : (2 : Int) ≤ (cc : Int) := by omega
    clear hb4 hrow h1 hc0 x0 x1 x2
    have x0 : w4.cell? ⟨w.heap.size, 0, none⟩ = some (.int .i64 4) := HT4.out.cell 0
    have x1 : w4.cell? ⟨w.heap.size, 1, none⟩ = some (.int .i64 0) := HT4.out.cell 1
    have x2 : w4.cell? ⟨w.heap.size, 2, none⟩ = some (.slice G 2 c) := HT4.out.cell 2
    go_wp2_with fail
    refine (count_lam G c gb g1 (some ⟨g, 0, none⟩) (some ⟨gf, 0, none⟩) A0 A1 c0 c1 cc r w4 HB4.out HROW.out (by omega) hcc HC0.out
      (fun V hV => (TermIn.up2 HG4.out (Up2.ofA hV : Up2 gb gf w4 V) (fun k hk => ⟨hk.2, by have := hk.1; omega, by have := hk.1; omega⟩)).imp (fun _ _ _ => rfl) (fun b hb => ⟨Nat.zero_le _, Nat.lt_of_lt_of_le hb.2 (World.grownBy.size hV)⟩))
      (fun V hV => (TermIn.up2 H14.out (Up2.ofA hV : Up2 gb gf w4 V) (fun k hk => ⟨by have := hk.2; omega, by have := hk.1; omega, by have := hk.1; omega⟩)).imp (fun _ _ _ => rfl) (fun b hb => ⟨Nat.zero_le _, Nat.lt_of_lt_of_le (Nat.lt_trans hb.2 hlg4) (World.grownBy.size hV)⟩))).mono ?_
    rintro e w5 ⟨rfl, hb5, hu5⟩
    have HB5 := Lib.hid hb5
    have hz5 : w4.heap.size ≤ w5.heap.size := World.grownBy.size hu5
    have HT5 := Lib.hid (HT4.out.up hu5 (by omega))
    have HR5 := Lib.hid (HR4.out.up hu5 (by omega))
    have HM5 := Lib.hid (HM4.out.up hu5 (by omega))
    have HROW5 := Lib.hid (HROW.out.up hu5 (by omega))
    have H15 := Lib.hid (TermIn.up2 H14.out (Up2.ofA hu5 : Up2 gb gf w4 w5) (fun k hk => ⟨by have := hk.2; omega, by have := hk.1; omega, by have := hk.1; omega⟩))
    have HU5 := Lib.hid (HU4.out.trans (Up2.ofA hu5))
    obtain ⟨l0, l1, l2, -⟩ := HROW5.out.c6
    clear hb5 hu5 x0 x1 x2 HG HG4 HT HR HB HM HU HROW H14
    go_wp2_with fail
    refine wp_loop_rounds 3 ?_
    rw [rounds_succ]
    go_wp2_with fail
    refine (build_leaf aS A0 c0 gb g gf 1 2 f lf lf w5 hne (by omega) (by omega) HB5.out HM5.out (fun V hV hmV => (HB0.out A0 c0 V HC0.out (HU5.out.trans hV)).mono (by
      rintro e w' ⟨G, c, rfl, hc, hb⟩
      exact ⟨G, c, rfl, hc, hmV.over hb, Up.of hb⟩))).mono ?_
    rintro e w6 ⟨G0, d0, rfl, hd0, hb6, hm6, hu6⟩
    have HD0 := Lib.hid hd0
    have HB6 := Lib.hid hb6
    have HM6 := Lib.hid hm6
    have hz6 := hu6.size
    have HT6 := Lib.hid (HT5.out.up2 hu6 (by omega) (by omega))
    have HR6 := Lib.hid (HR5.out.up2 hu6 (by omega) (by omega))
    have HROW6 := Lib.hid (HROW5.out.up2 hu6 (by omega) (by omega))
    have H16 := Lib.hid (TermIn.up2 H15.out hu6 (fun k hk => ⟨by have := hk.2; omega, by have := hk.1; omega, by have := hk.1; omega⟩))
    have HU6 := Lib.hid (HU5.out.trans hu6)
    clear hd0 hb6 hm6 hu6 l0 l1 l2 HT5 HR5 HB5 HM5 HROW5 H15 HU5
    obtain ⟨l0, l1, l2, -⟩ := HROW6.out.c6
    have hlg := HROW6.out.lt
    have hfg : ∀ q, w6.frozen? ⟨g1, q, none⟩ = false := fun q => HROW6.out.cold q
    have HROWV := Lib.hid (show Bk (((w6.setCell ⟨g1, 0, none⟩ (.int .i64 2)).setCell ⟨g1, 0 + 1, none⟩ (.int .i64 2)).setCell ⟨g1, 0 + 2, none⟩ (.slice G0 0 d0)) g1 25 (rowV G0 d0 A1 c1 r) from row_set0 A0 c0 A1 c1 G0 d0 r ▸ (((HROW6.out.at_ (0) (.int .i64 2)).at_ (0 + 1) (.int .i64 2)).at_ (0 + 2) (.slice G0 0 d0)))
    have HTV := Lib.hid ((((HT6.out.far (a := ⟨g1, 0, none⟩) (by show w.heap.size ≠ g1; omega) (.int .i64 2)).far (a := ⟨g1, 0 + 1, none⟩) (by show w.heap.size ≠ g1; omega) (.int .i64 2)).far (a := ⟨g1, 0 + 2, none⟩) (by show w.heap.size ≠ g1; omega) (.slice G0 0 d0)))
    have HRV := Lib.hid ((((HR6.out.far (a := ⟨g1, 0, none⟩) (by show w.heap.size + 1 ≠ g1; omega) (.int .i64 2)).far (a := ⟨g1, 0 + 1, none⟩) (by show w.heap.size + 1 ≠ g1; omega) (.int .i64 2)).far (a := ⟨g1, 0 + 2, none⟩) (by show w.heap.size + 1 ≠ g1; omega) (.slice G0 0 d0)))
    have HBV := Lib.hid ((((HB6.out.far (a := ⟨g1, 0, none⟩) (by show gb ≠ g1; omega) (.int .i64 2)).far (a := ⟨g1, 0 + 1, none⟩) (by show gb ≠ g1; omega) (.int .i64 2)).far (a := ⟨g1, 0 + 2, none⟩) (by show gb ≠ g1; omega) (.slice G0 0 d0)))
    have HMV := Lib.hid ((((HM6.out.far (a := ⟨g1, 0, none⟩) (by show gf ≠ g1; omega) (.int .i64 2)).far (a := ⟨g1, 0 + 1, none⟩) (by show gf ≠ g1; omega) (.int .i64 2)).far (a := ⟨g1, 0 + 2, none⟩) (by show gf ≠ g1; omega) (.slice G0 0 d0)))
    have HUV := Lib.hid ((Up2.st (g := g1) (q := 0 + 2) (Up2.st (g := g1) (q := 0 + 1) (Up2.st (g := g1) (q := 0) HU6.out (.inl (by omega)) (.int .i64 2)) (.inl (by omega)) (.int .i64 2)) (.inl (by omega)) (.slice G0 0 d0)))
    have H1V := Lib.hid ((TermIn.setAt (TermIn.setAt (TermIn.setAt H16.out (g := g1) (q := 0) (fun b hb => by have := hb.2; omega) (.int .i64 2)) (g := g1) (q := 0 + 1) (fun b hb => by have := hb.2; omega) (.int .i64 2)) (g := g1) (q := 0 + 2) (fun b hb => by have := hb.2; omega) (.slice G0 0 d0)))
    obtain ⟨V6, hV6⟩ : ∃ V, ((w6.setCell ⟨g1, 0, none⟩ (.int .i64 2)).setCell ⟨g1, 0 + 1, none⟩ (.int .i64 2)).setCell ⟨g1, 0 + 2, none⟩ (.slice G0 0 d0) = V := ⟨_, rfl⟩
    rw [hV6] at HROWV HTV HRV HBV HMV HUV H1V
    obtain ⟨-, -, -, k3, k4, k5⟩ := HROWV.out.c6
    have hlv := HRV.out.lt
    go_wp2_with fail
    clear hV6 l0 l1 l2 hfg
    rw [rounds_succ]
    go_wp2_with fail
    have hzV := HUV.out.size
    have hlgV := HROWV.out.lt
    refine (build_leaf aT A1 c1 gb g gf 2 2 f lf (lf - 1) V6 hne (by omega) (by omega) HBV.out HMV.out (fun V hV hmV => HB1.out A1 c1 V (HUV.out.trans hV)
      ((TermIn.up2 H1V.out hV (fun k hk => ⟨by have := hk.2; omega, by have := hk.1; omega, by have := hk.1; omega⟩)).imp (fun _ _ _ => rfl) (fun b hb => ⟨Nat.zero_le _, by have := hb.2; have := hV.size; omega⟩)) hmV)).mono ?_
    rintro e w7 ⟨G1, d1, rfl, hd1, hb7, hm7, hu7⟩
    have HD1 := Lib.hid hd1
    have HB7 := Lib.hid hb7
    have HM7 := Lib.hid hm7
    have hz7 := hu7.size
    have HT7 := Lib.hid (HTV.out.up2 hu7 (by omega) (by omega))
    have HR7 := Lib.hid (HRV.out.up2 hu7 (by omega) (by omega))
    have HROW7 := Lib.hid (HROWV.out.up2 hu7 (by omega) (by omega))
    have HU7 := Lib.hid (HUV.out.trans hu7)
    clear hd1 hb7 hm7 hu7 k3 k4 k5 HTV HRV HROWV HBV HMV HUV H1V HT6 HR6 HB6 HM6 HROW6 H16 HU6
    obtain ⟨-, -, -, k3, k4, k5⟩ := HROW7.out.c6
    have hlg7 := HROW7.out.lt
    have hfg7 : ∀ q, w7.frozen? ⟨g1, q, none⟩ = false := fun q => HROW7.out.cold q
    have HROWV := Lib.hid (show Bk (((w7.setCell ⟨g1, 3, none⟩ (.int .i64 2)).setCell ⟨g1, 3 + 1, none⟩ (.int .i64 2)).setCell ⟨g1, 3 + 2, none⟩ (.slice G1 0 d1)) g1 25 (rowS G0 d0 G1 d1 r) from row_set1 G0 d0 A1 c1 G1 d1 r ▸ (((HROW7.out.at_ (3) (.int .i64 2)).at_ (3 + 1) (.int .i64 2)).at_ (3 + 2) (.slice G1 0 d1)))
    have HTV := Lib.hid ((((HT7.out.far (a := ⟨g1, 3, none⟩) (by show w.heap.size ≠ g1; omega) (.int .i64 2)).far (a := ⟨g1, 3 + 1, none⟩) (by show w.heap.size ≠ g1; omega) (.int .i64 2)).far (a := ⟨g1, 3 + 2, none⟩) (by show w.heap.size ≠ g1; omega) (.slice G1 0 d1)))
    have HRV := Lib.hid ((((HR7.out.far (a := ⟨g1, 3, none⟩) (by show w.heap.size + 1 ≠ g1; omega) (.int .i64 2)).far (a := ⟨g1, 3 + 1, none⟩) (by show w.heap.size + 1 ≠ g1; omega) (.int .i64 2)).far (a := ⟨g1, 3 + 2, none⟩) (by show w.heap.size + 1 ≠ g1; omega) (.slice G1 0 d1)))
    have HBV := Lib.hid ((((HB7.out.far (a := ⟨g1, 3, none⟩) (by show gb ≠ g1; omega) (.int .i64 2)).far (a := ⟨g1, 3 + 1, none⟩) (by show gb ≠ g1; omega) (.int .i64 2)).far (a := ⟨g1, 3 + 2, none⟩) (by show gb ≠ g1; omega) (.slice G1 0 d1)))
    have HMV := Lib.hid ((((HM7.out.far (a := ⟨g1, 3, none⟩) (by show gf ≠ g1; omega) (.int .i64 2)).far (a := ⟨g1, 3 + 1, none⟩) (by show gf ≠ g1; omega) (.int .i64 2)).far (a := ⟨g1, 3 + 2, none⟩) (by show gf ≠ g1; omega) (.slice G1 0 d1)))
    have HUV := Lib.hid ((Up2.st (g := g1) (q := 3 + 2) (Up2.st (g := g1) (q := 3 + 1) (Up2.st (g := g1) (q := 3) HU7.out (.inl (by omega)) (.int .i64 2)) (.inl (by omega)) (.int .i64 2)) (.inl (by omega)) (.slice G1 0 d1)))
    obtain ⟨V7, hV7⟩ : ∃ V, ((w7.setCell ⟨g1, 3, none⟩ (.int .i64 2)).setCell ⟨g1, 3 + 1, none⟩ (.int .i64 2)).setCell ⟨g1, 3 + 2, none⟩ (.slice G1 0 d1) = V := ⟨_, rfl⟩
    rw [hV7] at HROWV HTV HRV HBV HMV HUV
    have hlv7 := HRV.out.lt
    have hzV7 := HUV.out.size
    have x0 : V7.cell? ⟨w.heap.size, 0, none⟩ = some (.int .i64 4) := HTV.out.cell 0
    have x1 : V7.cell? ⟨w.heap.size, 1, none⟩ = some (.int .i64 0) := HTV.out.cell 1
    have x2 : V7.cell? ⟨w.heap.size, 2, none⟩ = some (.slice G 2 c) := HTV.out.cell 2
    go_wp2_with fail
    clear hV7 hfg7
    rw [rounds_succ]
    go_wp2_with fail
    refine (joined_lam G G0 G1 c d0 d1 g1 cc r V7 HROWV.out hcc HD0.out HD1.out).mono ?_
    rintro e w8 ⟨H, rfl, ht8, hb8⟩
    have HT8 := Lib.hid (show TermIn w8 (fun b => V7.heap.size ≤ b ∧ b < w8.heap.size) lamS H 2 from ht8)
    have Kr := HRV.out.below hb8 HRV.out.lt
    have HB8 := Lib.hid (HBV.out.below hb8 HBV.out.lt)
    have HM8 := Lib.hid (HMV.out.below hb8 HMV.out.lt)
    have HU8 := Lib.hid (HUV.out.trans (Up2.of hb8))
    clear hb8 ht8 x0 x1 x2
    have hlr := Kr.lt
    have hfr : ∀ q, w8.frozen? ⟨w.heap.size + 1, q, none⟩ = false := fun q => Kr.cold q
    have r0 : w8.cell? ⟨w.heap.size + 1, 0, none⟩ = some (.int .i64 0) := Kr.cell 0
    have r1 : w8.cell? ⟨w.heap.size + 1, 1, none⟩ = some (.int .i64 0) := Kr.cell 1
    have r2 : w8.cell? ⟨w.heap.size + 1, 2, none⟩ = some (.slice none 0 0) := Kr.cell 2
    have B5 := ((Kr.at_ 0 (.int .i64 4)).at_ 1 (.int .i64 0)).at_ 2 (.slice H 2 2)
    have HS0 := Lib.hid (B5.cell 0)
    have HS1 := Lib.hid (B5.cell 1)
    have HS2 := Lib.hid (B5.cell 2)
    clear B5
    clear Kr
    go_wp2_with fail
    refine bodyPost_ret (v := .tuple #[.agg #[.int .i64 4, .int .i64 0, .slice H 2 2], .int .i64 0]) (by simp [results, Tryz.results36, go_sem, HS0.out, HS1.out, HS2.out]) rfl ?_
    exact ⟨H, rfl, (TermIn.three (g := w.heap.size + 1) HT8.out (fun b hb => by have := hb.1; omega) _ _ _).imp (fun _ _ _ => rfl) (fun b hb => ⟨by have := hb.1; omega, by rw [size_three]; exact hb.2⟩),
      ((HB8.out.far (a := ⟨w.heap.size + 1, 0, none⟩) (by show gb ≠ w.heap.size + 1; omega) _).far (a := ⟨w.heap.size + 1, 1, none⟩) (by show gb ≠ w.heap.size + 1; omega) _).far (a := ⟨w.heap.size + 1, 2, none⟩) (by show gb ≠ w.heap.size + 1; omega) _,
      ((HM8.out.far (a := ⟨w.heap.size + 1, 0, none⟩) (by show gf ≠ w.heap.size + 1; omega) _).far (a := ⟨w.heap.size + 1, 1, none⟩) (by show gf ≠ w.heap.size + 1; omega) _).far (a := ⟨w.heap.size + 1, 2, none⟩) (by show gf ≠ w.heap.size + 1; omega) _,
      Up2.st (g := w.heap.size + 1) (q := 2) (Up2.st (g := w.heap.size + 1) (q := 1) (Up2.st (g := w.heap.size + 1) (q := 0) HU8.out (.inl (by omega)) _) (.inl (by omega)) _) (.inl (by omega)) _⟩


theorem lamS_shaped : shapedB lamS = true := by kernel_rfl
set_option maxHeartbeats 4000000 in
theorem norm_lam (g : Nat) (A : Option Addr) (cap : Nat) (w : World) (gf : Nat) (f lf : Int) (hm : Mt w gf f lf) (hlf : 1 ≤ lf ∧ lf ≤ 1048576) (w0 : World) (h0 : Below w0.heap.size w0 w) (hw0 : w0.heap.size ≤ gf) (hS0 : ShapesM w0) (hP0 : NilM w0 g) (ht0 : IsTerm w0 0 w0.heap.size lamT A cap) :
    Calls Tryz.prog 18 #[.pointer (some ⟨g, 0, none⟩), .agg #[.int .i64 4, .int .i64 0, .slice A 2 cap], .pointer (some ⟨gf, 0, none⟩)] w fun e w' => ∃ G c, e = .returned (.tuple #[.agg #[.int .i64 4, .int .i64 0, .slice G 2 c], .int .i64 0]) ∧ IsTerm w' w.heap.size w'.heap.size lamS G c ∧ Mt w' gf f (lf - 1) ∧ Up gf w w' := by
  have CB := Lib.hid (fun (gb : Nat) (V : World) (hV : Below w.heap.size w V) (hgb : w.heap.size ≤ gb) (hne : gb ≠ gf) (hk : Bk V gb 73 (bldV (some ⟨g, 0, none⟩) (some ⟨gf, 0, none⟩) 0 false)) (hm : Mt V gf f lf) => build_lam A cap gb g gf f lf V w0 hne (h0.trans (hV.mono h0.size)) (Nat.le_trans h0.size hgb) hw0 hS0 hP0 ht0 hlf hk hm)
  have CS := Lib.hid (fun (H : Option Addr) (V : World) (hV : Below w0.heap.size w0 V) (ht : IsTerm V 0 V.heap.size lamS H 2) => (show Calls Tryz.prog 37 #[.agg #[.int .i64 4, .int .i64 0, .slice H 2 2]] V (fun e w' => e = .returned (.bool true) ∧ Below V.heap.size V w') from by
    have := shaped_any lamS 0 V.heap.size H 2 V ht (Nat.le_refl _) (hS0.kept hV)
    rw [lamS_shaped] at this
    exact this))
  unfold bldV at CB
  have hgf := hm.lt
  have HH0 := Lib.hid h0
  obtain ⟨X, hX⟩ : ∃ X, (w.alloc (.cells #[.int .i64 4, .int .i64 0, .slice A 2 cap] 25)).alloc (.cells #[.int .i64 0, .int .i64 0, .slice none 0 0] 25) = X := ⟨_, rfl⟩
  have HBX := Lib.hid (show Below w.heap.size w X from by rw [← hX]; exact ((Below.refl _ _).alloc (Nat.le_refl _) _).alloc (by simp) _)
  have HKt := Lib.hid (show Bk X w.heap.size 25 #[.int .i64 4, .int .i64 0, .slice A 2 cap] from by rw [← hX]; exact (Bk.new _ _ _).alloc _)
  have HKr := Lib.hid (show Bk X (w.heap.size + 1) 25 #[.int .i64 0, .int .i64 0, .slice none 0 0] from by rw [← hX]; exact Bk.last _ _ _ (by simp))
  have x0 : X.cell? ⟨w.heap.size, 0, none⟩ = some (.int .i64 4) := HKt.out.cell 0
  have x1 : X.cell? ⟨w.heap.size, 1, none⟩ = some (.int .i64 0) := HKt.out.cell 1
  have x2 : X.cell? ⟨w.heap.size, 2, none⟩ = some (.slice A 2 cap) := HKt.out.cell 2
  obtain ⟨Y, hY⟩ : ∃ Y, X.alloc (.cells #[.pointer (some ⟨g, 0, none⟩), .pointer (some ⟨gf, 0, none⟩), .int .i64 0, .bool false] 73) = Y := ⟨_, rfl⟩
  have HBY := Lib.hid (show Below w.heap.size w Y from by rw [← hY]; exact HBX.out.alloc HBX.out.size _)
  have HKb := Lib.hid (show Bk Y X.heap.size 73 #[.pointer (some ⟨g, 0, none⟩), .pointer (some ⟨gf, 0, none⟩), .int .i64 0, .bool false] from by rw [← hY]; exact Bk.new _ _ _)
  have HKtY := Lib.hid (show Bk Y w.heap.size 25 #[.int .i64 4, .int .i64 0, .slice A 2 cap] from by rw [← hY]; exact HKt.out.alloc _)
  have HKrY := Lib.hid (show Bk Y (w.heap.size + 1) 25 #[.int .i64 0, .int .i64 0, .slice none 0 0] from by rw [← hY]; exact HKr.out.alloc _)
  have HMY := Lib.hid (hm.below HBY.out hgf)
  have hlX := HKr.out.lt
  have hlY := HKb.out.lt
  have hzX := HBX.out.size
  have y0 : Y.cell? ⟨w.heap.size, 0, none⟩ = some (.int .i64 4) := HKtY.out.cell 0
  have y1 : Y.cell? ⟨w.heap.size, 1, none⟩ = some (.int .i64 0) := HKtY.out.cell 1
  have y2 : Y.cell? ⟨w.heap.size, 2, none⟩ = some (.slice A 2 cap) := HKtY.out.cell 2
  clear hm h0 hS0 hP0 ht0 hlf
  go_enter Tryz.func18, Tryz.ntmps18
  go_wp2_with fail
  clear hX hY x0 x1 x2
  refine (CB.out X.heap.size Y HBY.out hzX (by omega) HKb.out HMY.out).mono ?_
  rintro e w3 ⟨H, rfl, ht3, hb3, hm3, hu3⟩
  have HT3 := Lib.hid (show TermIn w3 (fun b => Y.heap.size ≤ b ∧ b < w3.heap.size) lamS H 2 from ht3)
  have HB3 := Lib.hid (show Bk w3 X.heap.size 73 #[.pointer (some ⟨g, 0, none⟩), .pointer (some ⟨gf, 0, none⟩), .int .i64 3, .bool false] from hb3)
  have HM3 := Lib.hid hm3
  have hz3 := hu3.size
  have Kt := Lib.hid (HKtY.out.up2 hu3 (by omega) (by omega))
  have Kr := Lib.hid (HKrY.out.up2 hu3 (by omega) (by omega))
  have HU3 := Lib.hid (show Up gf w w3 from ⟨hu3.os.trans HBY.out.os, hu3.tape.trans HBY.out.tape, hu3.output.trans HBY.out.output, Nat.le_trans HBY.out.size hu3.size, fun k hk hr => (hu3.block k (Nat.lt_of_lt_of_le hk HBY.out.size) (by omega) (fun e => hr (by rw [e]))).trans (HBY.out.block k hk)⟩)
  have hlt3 := Kt.out.lt
  have hlr3 := Kr.out.lt
  have hft : ∀ q, w3.frozen? ⟨w.heap.size, q, none⟩ = false := fun q => Kt.out.cold q
  have u0 : w3.cell? ⟨w.heap.size, 0, none⟩ = some (.int .i64 4) := Kt.out.cell 0
  have u1 : w3.cell? ⟨w.heap.size, 1, none⟩ = some (.int .i64 0) := Kt.out.cell 1
  have u2 : w3.cell? ⟨w.heap.size, 2, none⟩ = some (.slice A 2 cap) := Kt.out.cell 2
  have HtV := Lib.hid (((Kt.out.at_ 0 (.int .i64 4)).at_ 1 (.int .i64 0)).at_ 2 (.slice H 2 2))
  have HrV := Lib.hid ((((Kr.out.far (a := ⟨w.heap.size, 0, none⟩) (by show w.heap.size + 1 ≠ w.heap.size; omega) (.int .i64 4)).far (a := ⟨w.heap.size, 1, none⟩) (by show w.heap.size + 1 ≠ w.heap.size; omega) (.int .i64 0)).far (a := ⟨w.heap.size, 2, none⟩) (by show w.heap.size + 1 ≠ w.heap.size; omega) (.slice H 2 2)))
  have HbV := Lib.hid ((((HB3.out.far (a := ⟨w.heap.size, 0, none⟩) (by show X.heap.size ≠ w.heap.size; omega) (.int .i64 4)).far (a := ⟨w.heap.size, 1, none⟩) (by show X.heap.size ≠ w.heap.size; omega) (.int .i64 0)).far (a := ⟨w.heap.size, 2, none⟩) (by show X.heap.size ≠ w.heap.size; omega) (.slice H 2 2)))
  have HmV := Lib.hid ((((HM3.out.far (a := ⟨w.heap.size, 0, none⟩) (by show gf ≠ w.heap.size; omega) (.int .i64 4)).far (a := ⟨w.heap.size, 1, none⟩) (by show gf ≠ w.heap.size; omega) (.int .i64 0)).far (a := ⟨w.heap.size, 2, none⟩) (by show gf ≠ w.heap.size; omega) (.slice H 2 2)))
  have HTV := Lib.hid (TermIn.three (g := w.heap.size) HT3.out (fun b hb => by have := hb.1; omega) (.int .i64 4) (.int .i64 0) (.slice H 2 2))
  have HUV := Lib.hid (Up.st (g := w.heap.size) (q := 2) (Up.st (g := w.heap.size) (q := 1) (Up.st (g := w.heap.size) (q := 0) HU3.out (Nat.le_refl _) (.int .i64 4)) (Nat.le_refl _) (.int .i64 0)) (Nat.le_refl _) (.slice H 2 2))
  have hzV : (((w3.setCell ⟨w.heap.size, 0, none⟩ (.int .i64 4)).setCell ⟨w.heap.size, 1, none⟩ (.int .i64 0)).setCell ⟨w.heap.size, 2, none⟩ (.slice H 2 2)).heap.size = w3.heap.size := size_three _ _ _ _ _
  obtain ⟨V, hV⟩ : ∃ V, ((w3.setCell ⟨w.heap.size, 0, none⟩ (.int .i64 4)).setCell ⟨w.heap.size, 1, none⟩ (.int .i64 0)).setCell ⟨w.heap.size, 2, none⟩ (.slice H 2 2) = V := ⟨_, rfl⟩
  rw [hV] at HtV HrV HbV HmV HTV HUV hzV
  clear ht3 hb3 hm3 hu3 y0 y1 y2 Kt Kr HKtY HKrY HKb HMY
  have z0 : V.cell? ⟨w.heap.size, 0, none⟩ = some (.int .i64 4) := HtV.out.cell 0
  have z1 : V.cell? ⟨w.heap.size, 1, none⟩ = some (.int .i64 0) := HtV.out.cell 1
  have z2 : V.cell? ⟨w.heap.size, 2, none⟩ = some (.slice H 2 2) := HtV.out.cell 2
  have z3 : V.cell? ⟨X.heap.size, 3, none⟩ = some (.bool false) := HbV.out.cell 3
  have HKV := Lib.hid (fun (V' : World) (hV' : Below V.heap.size V V') => (show V'.cell? ⟨w.heap.size, 0, none⟩ = some (.int .i64 4) ∧ V'.cell? ⟨w.heap.size, 1, none⟩ = some (.int .i64 0) ∧ V'.cell? ⟨w.heap.size, 2, none⟩ = some (.slice H 2 2) from by
    have k := HtV.out.below hV' HtV.out.lt
    exact ⟨k.cell 0, k.cell 1, k.cell 2⟩))
  have CSV := Lib.hid (fun (V' : World) (hV' : Below V.heap.size V V') => CS.out H V' ((HH0.out.trans (HUV.out.below hw0 HH0.out.size)).trans (hV'.mono (by have := HH0.out.size; have := World.grownBy.size HUV.out; omega))) (HTV.out.imp (fun b o hb => hV'.cell (p := ⟨b, o, none⟩) (by show b < V.heap.size; have := hb.2; omega)) (fun b hb => ⟨Nat.zero_le _, by have := hb.2; have := hV'.size; omega⟩)))
  clear CB CS
  go_wp2_with fail
  refine (CSV.out V (Below.refl _ _)).mono ?_
  rintro e w4 ⟨rfl, hb4⟩
  have hz4 := hb4.size
  have Kr4 := HrV.out.below hb4 HrV.out.lt
  have HM4 := Lib.hid (HmV.out.below hb4 HmV.out.lt)
  have HT4 := Lib.hid (HTV.out.imp (P' := fun b => Y.heap.size ≤ b ∧ b < w3.heap.size) (fun b o hb => hb4.cell (p := ⟨b, o, none⟩) (by show b < V.heap.size; have := hb.2; omega)) (fun b hb => hb))
  have HU4 := Lib.hid (HUV.out.trans (Up.of hb4))
  clear z0 z1 z2 z3 hV
  obtain ⟨z0, z1, z2⟩ := HKV.out w4 hb4
  have hlr := Kr4.lt
  have hfr : ∀ q, w4.frozen? ⟨w.heap.size + 1, q, none⟩ = false := fun q => Kr4.cold q
  have r0 : w4.cell? ⟨w.heap.size + 1, 0, none⟩ = some (.int .i64 0) := Kr4.cell 0
  have r1 : w4.cell? ⟨w.heap.size + 1, 1, none⟩ = some (.int .i64 0) := Kr4.cell 1
  have r2 : w4.cell? ⟨w.heap.size + 1, 2, none⟩ = some (.slice none 0 0) := Kr4.cell 2
  have B5 := ((Kr4.at_ 0 (.int .i64 4)).at_ 1 (.int .i64 0)).at_ 2 (.slice H 2 2)
  have HS0 := Lib.hid (B5.cell 0)
  have HS1 := Lib.hid (B5.cell 1)
  have HS2 := Lib.hid (B5.cell 2)
  clear B5
  clear Kr4 hb4
  go_wp2_with fail
  refine bodyPost_ret (v := .tuple #[.agg #[.int .i64 4, .int .i64 0, .slice H 2 2], .int .i64 0]) (by simp [results, Tryz.results18, go_sem, HS0.out, HS1.out, HS2.out]) rfl ?_
  exact ⟨H, 2, rfl, (TermIn.three (g := w.heap.size + 1) HT4.out (fun b hb => by have := hb.1; omega) _ _ _).imp (fun _ _ _ => rfl) (fun b hb => ⟨by have := hb.1; omega, by rw [size_three]; have := hb.2; omega⟩),
    ((HM4.out.far (a := ⟨w.heap.size + 1, 0, none⟩) (by show gf ≠ w.heap.size + 1; omega) _).far (a := ⟨w.heap.size + 1, 1, none⟩) (by show gf ≠ w.heap.size + 1; omega) _).far (a := ⟨w.heap.size + 1, 2, none⟩) (by show gf ≠ w.heap.size + 1; omega) _,
    Up.st (q := 2) (Up.st (q := 1) (Up.st (q := 0) HU4.out (g := w.heap.size + 1) (by omega) _) (g := w.heap.size + 1) (by omega) _) (g := w.heap.size + 1) (by omega) _⟩

set_option maxHeartbeats 4000000 in
theorem of_lam (A : Option Addr) (cap : Nat) (w : World) (ht : IsTerm w 0 w.heap.size lamT A cap) (hS : ShapesM w) :
    Calls Tryz.prog 8 #[.slice none 0 0, .agg #[.int .i64 4, .int .i64 0, .slice A 2 cap], .int .i64 5] w fun e w' => ∃ G c, e = .returned (.tuple #[.agg #[.int .i64 4, .int .i64 0, .slice G 2 c], .int .i64 1, .int .i64 0]) ∧ IsTerm w' w.heap.size w'.heap.size lamS G c ∧ Below w.heap.size w w' := by
  obtain ⟨X, hX⟩ : ∃ X, (w.alloc (.cells #[.int .i64 4, .int .i64 0, .slice A 2 cap] 25)).alloc (.cells #[.int .i64 0, .int .i64 0, .slice none 0 0] 25) = X := ⟨_, rfl⟩
  have HBX := Lib.hid (show Below w.heap.size w X from by rw [← hX]; exact ((Below.refl _ _).alloc (Nat.le_refl _) _).alloc (by simp) _)
  have HKt := Lib.hid (show Bk X w.heap.size 25 #[.int .i64 4, .int .i64 0, .slice A 2 cap] from by rw [← hX]; exact (Bk.new _ _ _).alloc _)
  have HKr := Lib.hid (show Bk X (w.heap.size + 1) 25 #[.int .i64 0, .int .i64 0, .slice none 0 0] from by rw [← hX]; exact Bk.last _ _ _ (by simp))
  have CN := Lib.hid (wNew_nil X (hS.kept HBX.out))
  have CB := Lib.hid (fun (g : Nat) (V : World) (hV : Below w.heap.size w V) (gf : Nat) (f lf : Int) (hm : Mt V gf f lf) (hlf : 1 ≤ lf ∧ lf ≤ 1048576) (w0 : World) (h0 : Below w0.heap.size w0 V) (hw0 : w0.heap.size ≤ gf) (hw : Below w.heap.size w w0) (hP0 : NilM w0 g) => norm_lam g A cap V gf f lf hm hlf w0 h0 hw0 (hS.kept hw) hP0 ((ht.kept hw (Nat.le_refl _)).wide (Nat.le_refl _) hw.size))
  clear ht hS
  go_enter Tryz.func8, Tryz.ntmps8
  go_wp2_with fail
  refine CN.out.mono ?_
  rintro e w1 ⟨g, rfl, hN1, hg1, hb1⟩
  have HN1 := Lib.hid hN1
  have HB1 := Lib.hid (HBX.out.trans (hb1.mono HBX.out.size))
  have Ht1 := Lib.hid (HKt.out.below hb1 HKt.out.lt)
  have Hr1 := Lib.hid (HKr.out.below hb1 HKr.out.lt)
  clear hN1 hb1 hX CN
  go_wp2_with fail
  refine (new_ok 5 (by omega) (by omega) w1).mono ?_
  rintro e w2 ⟨rfl, hm2, hb2⟩
  have HM2 := Lib.hid hm2
  have HB12 := Lib.hid hb2
  have HB2 := Lib.hid (HB1.out.trans (hb2.mono HB1.out.size))
  have Ht2 := Lib.hid (Ht1.out.below hb2 Ht1.out.lt)
  have Hr2 := Lib.hid (Hr1.out.below hb2 Hr1.out.lt)
  have t0 : w2.cell? ⟨w.heap.size, 0, none⟩ = some (.int .i64 4) := Ht2.out.cell 0
  have t1 : w2.cell? ⟨w.heap.size, 1, none⟩ = some (.int .i64 0) := Ht2.out.cell 1
  have t2 : w2.cell? ⟨w.heap.size, 2, none⟩ = some (.slice A 2 cap) := Ht2.out.cell 2
  clear hm2 hb2
  go_wp2_with fail
  refine (CB.out g w2 HB2.out w1.heap.size 5 5 HM2.out (by omega) w1 HB12.out (Nat.le_refl _) HB1.out HN1.out).mono ?_
  rintro e w3 ⟨F3, c3, rfl, hu3, hm3, hup3⟩
  have hl1 := Hr1.out.lt
  have hz2 := HB12.out.size
  have hz1 := HB1.out.size
  have HU3 := Lib.hid hu3
  have HM3 := Lib.hid (show Mt w3 w1.heap.size 5 4 from hm3)
  have HB13 := Lib.hid (HB12.out.trans (hup3.below (Nat.le_refl _) hz2))
  have HB3 := Lib.hid (HB1.out.trans (HB13.out.mono hz1))
  have Ht3 := Lib.hid (Ht1.out.below HB13.out Ht1.out.lt)
  have Hr3 := Lib.hid (Hr1.out.below HB13.out Hr1.out.lt)
  have hlt3 := Ht3.out.lt
  have hft : ∀ q, w3.frozen? ⟨w.heap.size, q, none⟩ = false := fun q => Ht3.out.cold q
  have u0 : w3.cell? ⟨w.heap.size, 0, none⟩ = some (.int .i64 4) := Ht3.out.cell 0
  have u1 : w3.cell? ⟨w.heap.size, 1, none⟩ = some (.int .i64 0) := Ht3.out.cell 1
  have u2 : w3.cell? ⟨w.heap.size, 2, none⟩ = some (.slice A 2 cap) := Ht3.out.cell 2
  clear hu3 hm3 hup3 t0 t1 t2
  go_wp2_with fail
  have HrV := Lib.hid (((Hr3.out.far (a := ⟨w.heap.size, 0, none⟩) (by show w.heap.size + 1 ≠ w.heap.size; omega) (.int .i64 4)).far (a := ⟨w.heap.size, 1, none⟩) (by show w.heap.size + 1 ≠ w.heap.size; omega) (.int .i64 0)).far (a := ⟨w.heap.size, 2, none⟩) (by show w.heap.size + 1 ≠ w.heap.size; omega) (.slice F3 2 c3))
  have HMV := Lib.hid (((HM3.out.far (a := ⟨w.heap.size, 0, none⟩) (by show w1.heap.size ≠ w.heap.size; omega) (.int .i64 4)).far (a := ⟨w.heap.size, 1, none⟩) (by show w1.heap.size ≠ w.heap.size; omega) (.int .i64 0)).far (a := ⟨w.heap.size, 2, none⟩) (by show w1.heap.size ≠ w.heap.size; omega) (.slice F3 2 c3))
  have HtV := Lib.hid (((Ht3.out.at_ 0 (.int .i64 4)).at_ 1 (.int .i64 0)).at_ 2 (.slice F3 2 c3))
  have HUV := Lib.hid (TermIn.three (g := w.heap.size) HU3.out (fun b hb => by have := hb.1; omega) (.int .i64 4) (.int .i64 0) (.slice F3 2 c3))
  have HBV := Lib.hid (Below.st (g := w.heap.size) (q := 2) (Below.st (g := w.heap.size) (q := 1) (Below.st (g := w.heap.size) (q := 0) HB3.out (by omega) (.int .i64 4)) (by omega) (.int .i64 0)) (by omega) (.slice F3 2 c3))
  have hzV : (((w3.setCell ⟨w.heap.size, 0, none⟩ (.int .i64 4)).setCell ⟨w.heap.size, 1, none⟩ (.int .i64 0)).setCell ⟨w.heap.size, 2, none⟩ (.slice F3 2 c3)).heap.size = w3.heap.size := size_three _ _ _ _ _
  obtain ⟨V, hV⟩ : ∃ V, ((w3.setCell ⟨w.heap.size, 0, none⟩ (.int .i64 4)).setCell ⟨w.heap.size, 1, none⟩ (.int .i64 0)).setCell ⟨w.heap.size, 2, none⟩ (.slice F3 2 c3) = V := ⟨_, rfl⟩
  rw [hV] at HrV HMV HUV HtV HBV hzV ⊢
  clear hV u0 u1 u2 hft
  have HKK := Lib.hid (fun (V' : World) (hV' : Below V.heap.size V V') => (show V'.cell? ⟨w.heap.size, 0, none⟩ = some (.int .i64 4) ∧ V'.cell? ⟨w.heap.size, 1, none⟩ = some (.int .i64 0) ∧ V'.cell? ⟨w.heap.size, 2, none⟩ = some (.slice F3 2 c3) from by
    have k := HtV.out.below hV' HtV.out.lt
    exact ⟨k.cell 0, k.cell 1, k.cell 2⟩))
  have CU := Lib.hid (fun (V' : World) (hV' : Below V.heap.size V V') => (show Calls Tryz.prog 22 #[.pointer (some ⟨w1.heap.size, 0, none⟩)] V' (fun e w' => e = .returned (.int .i64 1) ∧ Below V'.heap.size V' w') from used_any (HMV.out.over hV') (by omega)))
  obtain ⟨s0, s1, s2⟩ := HKK.out V (Below.refl _ _)
  have hltV := HtV.out.lt
  have hlrV := HrV.out.lt
  have hbk0 := Lib.hid (show Below V.heap.size V V.drew from (Below.refl _ _).drew)
  go_region_held3 (fun w' => w'.cell? ⟨w.heap.size, 0, none⟩ = some (.int .i64 4) ∧ w'.cell? ⟨w.heap.size, 1, none⟩ = some (.int .i64 0) ∧ w'.cell? ⟨w.heap.size, 2, none⟩ = some (.slice F3 2 c3))
    ((first
      | with_reducible exact HKS.out
      | (refine HKK.out _ ?_; repeat (first | with_reducible exact hbC.out | with_reducible exact hbk0.out | with_reducible exact Below.refl _ _ | with_reducible refine Below.al ?_ _ | with_reducible refine Below.dr ?_))))
    (first
    | (go_at_call 22
       refine (CU.out _ (by repeat (first | with_reducible exact hbk0.out | with_reducible exact Below.refl _ _ | with_reducible refine Below.al ?_ _ | with_reducible refine Below.dr ?_ | with_reducible refine Below.st ?_ (by first | omega | (simp <;> omega)) _))).mono ?_
       rintro e w5 ⟨rfl, hb5⟩
       have hbC := Lib.hid (by first | exact hbk0.out.trans (hb5.mono hbk0.out.size))
       have Hr5 := Lib.hid (HrV.out.below hbC.out HrV.out.lt)
       have hfr : ∀ q, w5.frozen? ⟨w.heap.size + 1, q, none⟩ = false := fun q => Hr5.out.cold q
       have r0 : w5.cell? ⟨w.heap.size + 1, 0, none⟩ = some (.int .i64 0) := Hr5.out.cell 0
       have r1 : w5.cell? ⟨w.heap.size + 1, 1, none⟩ = some (.int .i64 0) := Hr5.out.cell 1
       have r2 : w5.cell? ⟨w.heap.size + 1, 2, none⟩ = some (.slice none 0 0) := Hr5.out.cell 2
       have HKS := Lib.hid (show (((w5.setCell ⟨w.heap.size + 1, 0, none⟩ (.int .i64 4)).setCell ⟨w.heap.size + 1, 1, none⟩ (.int .i64 0)).setCell ⟨w.heap.size + 1, 2, none⟩ (.slice F3 2 c3)).cell? ⟨w.heap.size, 0, none⟩ = some (.int .i64 4) ∧ (((w5.setCell ⟨w.heap.size + 1, 0, none⟩ (.int .i64 4)).setCell ⟨w.heap.size + 1, 1, none⟩ (.int .i64 0)).setCell ⟨w.heap.size + 1, 2, none⟩ (.slice F3 2 c3)).cell? ⟨w.heap.size, 1, none⟩ = some (.int .i64 0) ∧ (((w5.setCell ⟨w.heap.size + 1, 0, none⟩ (.int .i64 4)).setCell ⟨w.heap.size + 1, 1, none⟩ (.int .i64 0)).setCell ⟨w.heap.size + 1, 2, none⟩ (.slice F3 2 c3)).cell? ⟨w.heap.size, 2, none⟩ = some (.slice F3 2 c3) from by
         obtain ⟨z0, z1, z2⟩ := HKK.out _ hbC.out
         exact ⟨(cells_three (by omega)).trans z0, (cells_three (by omega)).trans z1, (cells_three (by omega)).trans z2⟩)
       clear hb5))
  all_goals
    have B5 := ((Hr5.out.at_ 0 (.int .i64 4)).at_ 1 (.int .i64 0)).at_ 2 (.slice F3 2 c3)
    have HS0 := Lib.hid (B5.cell 0)
    have HS1 := Lib.hid (B5.cell 1)
    have HS2 := Lib.hid (B5.cell 2)
    clear B5
    go_wp2_with fail
    refine bodyPost_ret (v := .tuple #[.agg #[.int .i64 4, .int .i64 0, .slice F3 2 c3], .int .i64 1, .int .i64 0]) (by simp [results, Tryz.results8, go_sem, HS0.out, HS1.out, HS2.out]) rfl ?_
    have q0 := TermIn.imp (P' := fun b => w2.heap.size ≤ b ∧ b < w5.heap.size) (fun b o hb => hbC.out.cell (p := ⟨b, o, none⟩) (by show b < V.heap.size; have := hb.2; omega)) (fun b hb => ⟨hb.1, by have h1 := hb.2; have h2 := hbC.out.size; omega⟩) HUV.out
    have q := TermIn.three (g := w.heap.size + 1) q0 (fun b hb => by have := hb.1; omega) (.int .i64 4) (.int .i64 0) (.slice F3 2 c3)
    refine ⟨F3, c3, rfl, TermIn.imp (fun _ _ _ => rfl) (fun b hb => ⟨by have := hb.1; omega, by rw [size_three]; exact hb.2⟩) q, ?_⟩
    exact Below.st (g := w.heap.size + 1) (q := 2) (Below.st (g := w.heap.size + 1) (q := 1) (Below.st (g := w.heap.size + 1) (q := 0) (HBV.out.trans (hbC.out.mono HBV.out.size)) (by omega) _) (by omega) _) (by omega) _


end Go.Proofs.YtondjkeakfkefaaGreatDoor
