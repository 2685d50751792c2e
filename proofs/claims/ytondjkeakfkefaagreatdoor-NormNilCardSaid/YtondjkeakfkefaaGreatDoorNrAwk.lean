/- norm: awake: without entries a redex under a function is brought to normal form in one step. -/
import Derived.Test.YtondjkeakfkefaaGreatDoorN3
import Derived.Deep.RegionHeld3
namespace Go.Proofs.YtondjkeakfkefaaGreatDoor
open Go.RowKit
set_option linter.unusedVariables false
set_option maxRecDepth 100000

theorem lamS_subs : ∀ u ∈ lamS.l, tgoodB u = true := by decide
theorem lamS_alike : alikeT lamS lamS = true := by kernel_rfl
set_option maxHeartbeats 8000000 in
theorem awake15_any (w : World) (hS : ShapesM w) : Calls Tryz.prog 7 #[] w fun e w' => e = .returned (.bool true) ∧ Below w.heap.size w w' := by
  obtain ⟨X, hX⟩ : ∃ X, w.alloc (.cells #[.int .i64 2, .int .i64 2, .slice none 0 0] 25) = X := ⟨_, rfl⟩
  have HBX := Lib.hid (show Below w.heap.size w X from by rw [← hX]; exact (Below.refl _ _).alloc (Nat.le_refl _) _)
  have HKX := Lib.hid (show Bk X w.heap.size 25 #[.int .i64 2, .int .i64 2, .slice none 0 0] from by rw [← hX]; exact Bk.new _ _ _)
  have HKK := Lib.hid (fun (V : World) (hV : Below X.heap.size X V) => (show V.cell? ⟨w.heap.size, 0, none⟩ = some (.int .i64 2) ∧ V.cell? ⟨w.heap.size, 1, none⟩ = some (.int .i64 2) ∧ V.cell? ⟨w.heap.size, 2, none⟩ = some (.slice none 0 0) from by
    have k := HKX.out.below hV HKX.out.lt
    exact ⟨k.cell 0, k.cell 1, k.cell 2⟩))
  have C1 := Lib.hid (fun (V : World) => (show Calls Tryz.prog 21 #[.int .i64 4, .agg #[.int .i64 2, .int .i64 2, .slice none 0 0], .agg #[.int .i64 1, .int .i64 0, .slice none 0 0]] V (fun e w' => ∃ g, e = .returned (.agg #[.int .i64 4, .int .i64 0, .slice (some ⟨g, 0, none⟩) 2 2]) ∧ IsTerm w' 0 w'.heap.size (.node 4 0 [aS, .node 1 0 []]) (some ⟨g, 0, none⟩) 2 ∧ Below V.heap.size V w') from ttwo_any 4 aS (.node 1 0 []) none none 0 0 V (leaf_in _ _ 2 2) (leaf_in _ _ 1 0)))
  have C2 := Lib.hid (fun (g : Nat) (V : World) (hg : IsTerm V 0 V.heap.size (.node 4 0 [aS, .node 1 0 []]) (some ⟨g, 0, none⟩) 2) => (show Calls Tryz.prog 21 #[.int .i64 5, .agg #[.int .i64 4, .int .i64 0, .slice (some ⟨g, 0, none⟩) 2 2], .agg #[.int .i64 2, .int .i64 2, .slice none 0 0]] V (fun e w' => ∃ g, e = .returned (.agg #[.int .i64 5, .int .i64 0, .slice (some ⟨g, 0, none⟩) 2 2]) ∧ IsTerm w' 0 w'.heap.size aT (some ⟨g, 0, none⟩) 2 ∧ Below V.heap.size V w') from ttwo_any 5 (.node 4 0 [aS, .node 1 0 []]) aS (some ⟨g, 0, none⟩) none 2 0 V hg (leaf_in _ _ 2 2)))
  have C3 := Lib.hid (fun (g : Nat) (V : World) (hg : IsTerm V 0 V.heap.size aT (some ⟨g, 0, none⟩) 2) => (show Calls Tryz.prog 21 #[.int .i64 4, .agg #[.int .i64 2, .int .i64 2, .slice none 0 0], .agg #[.int .i64 5, .int .i64 0, .slice (some ⟨g, 0, none⟩) 2 2]] V (fun e w' => ∃ g, e = .returned (.agg #[.int .i64 4, .int .i64 0, .slice (some ⟨g, 0, none⟩) 2 2]) ∧ IsTerm w' 0 w'.heap.size lamT (some ⟨g, 0, none⟩) 2 ∧ Below V.heap.size V w') from ttwo_any 4 aS aT none (some ⟨g, 0, none⟩) 0 2 V (leaf_in _ _ 2 2) hg))
  have C4 := Lib.hid (fun (g : Nat) (V : World) (hV : Below w.heap.size w V) (hg : IsTerm V 0 V.heap.size lamT (some ⟨g, 0, none⟩) 2) => (show Calls Tryz.prog 8 #[.slice none 0 0, .agg #[.int .i64 4, .int .i64 0, .slice (some ⟨g, 0, none⟩) 2 2], .int .i64 5] V (fun e w' => ∃ G c, e = .returned (.tuple #[.agg #[.int .i64 4, .int .i64 0, .slice G 2 c], .int .i64 1, .int .i64 0]) ∧ IsTerm w' V.heap.size w'.heap.size lamS G c ∧ Below V.heap.size V w') from of_lam (some ⟨g, 0, none⟩) 2 V hg (hS.kept hV)))
  have C5 := Lib.hid (fun (V : World) => (show Calls Tryz.prog 21 #[.int .i64 4, .agg #[.int .i64 2, .int .i64 2, .slice none 0 0], .agg #[.int .i64 2, .int .i64 2, .slice none 0 0]] V (fun e w' => ∃ g, e = .returned (.agg #[.int .i64 4, .int .i64 0, .slice (some ⟨g, 0, none⟩) 2 2]) ∧ IsTerm w' 0 w'.heap.size lamS (some ⟨g, 0, none⟩) 2 ∧ Below V.heap.size V w') from ttwo_any 4 aS aS none none 0 0 V (leaf_in _ _ 2 2) (leaf_in _ _ 2 2)))
  have C6 := Lib.hid (fun (G : Option Addr) (c g : Nat) (V : World) (h1 : IsTerm V 0 V.heap.size lamS G c) (h2 : IsTerm V 0 V.heap.size lamS (some ⟨g, 0, none⟩) 2) => (show Calls Tryz.prog 10 #[.agg #[.int .i64 4, .int .i64 0, .slice G 2 c], .agg #[.int .i64 4, .int .i64 0, .slice (some ⟨g, 0, none⟩) 2 2]] V (fun e w' => e = .returned (.bool true) ∧ Below V.heap.size V w') from by
    have := refEqual_any lamS lamS 0 V.heap.size 0 V.heap.size G (some ⟨g, 0, none⟩) c 2 V h1 h2 (Nat.le_refl _) (Nat.le_refl _)
    rw [lamS_alike] at this
    exact this))
  have hbk0 := Lib.hid (show Below X.heap.size X X.drew from (Below.refl _ _).drew)
  have HXE := Lib.hid hX
  clear hS hX
  go_enter Tryz.func7, Tryz.ntmps7
  go_wp2_with fail
  rw [HXE.out]
  obtain ⟨s0, s1, s2⟩ := HKK.out X (Below.refl _ _)
  have hltX := HKX.out.lt
  go_cut [2, 3, 4] from 6 to 18 (fun s2 s3 s4 wx => ∃ gv Ax cx, s2 = .pointer (some ⟨gv, 0, none⟩) ∧ s3 = .int .i64 1 ∧ s4 = .int .i64 0 ∧ TBox wx gv 4 0 (.slice Ax 2 cx) ∧ Below X.heap.size X wx ∧ IsTerm wx 0 wx.heap.size lamS Ax cx)
  case first =>
    go_region_held3 (fun w' => w'.cell? ⟨w.heap.size, 0, none⟩ = some (.int .i64 2) ∧ w'.cell? ⟨w.heap.size, 1, none⟩ = some (.int .i64 2) ∧ w'.cell? ⟨w.heap.size, 2, none⟩ = some (.slice none 0 0))
      ((refine (HKK.out _ ?_); repeat (first | with_reducible exact hbk0.out | with_reducible exact hbC.out | with_reducible exact hbP.out | with_reducible exact hbR.out | with_reducible exact hbQ.out | with_reducible exact Below.refl _ _ | with_reducible refine Below.al ?_ _ | with_reducible refine Below.dr ?_ | with_reducible refine Below.st ?_ (by first | omega | (simp <;> omega)) _)))
      (first
      | (go_at_call 8
         refine (C4.out g3 _ (HBX.out.trans (Below.mono (by repeat (first | with_reducible exact hbR.out | with_reducible exact Below.refl _ _ | with_reducible refine Below.al ?_ _ | with_reducible refine Below.dr ?_ | with_reducible refine Below.st ?_ (by first | omega | (simp <;> omega)) _)) HBX.out.size)) (by first | exact HT3.out | exact (HT3.out.kept ((Below.refl _ _).alloc (Nat.le_refl _) _) (Nat.le_refl _)).wide (Nat.le_refl _) (by simp))).mono ?_
         rintro e w6 ⟨G, c, rfl, ht6, hbn⟩
         have hbQ := Lib.hid (by first | exact hbR.out.trans (hbn.mono hbR.out.size) | exact (hbR.out.alloc hbR.out.size _).trans (hbn.mono (hbR.out.alloc hbR.out.size _).size))
         have hzhbQ := hbQ.out.size
         first
         | (have hbz2 := Lib.hid (Bk.below hbz.out hbn (by have := hbz.out.lt; simp <;> omega)); have hbz := hbz2; clear hbz2)
         | (have hbz2 := Lib.hid (Bk.below (hbz.out.alloc _) hbn (by have := hbz.out.lt; simp <;> omega)); have hbz := hbz2; clear hbz2)
         | (have hbz : Hid (Bk w6 (w5.heap.size) 25 #[.int .i64 0, .int .i64 0, .slice none 0 0]) := Lib.hid (Bk.below (show Bk _ (w5.heap.size) 25 #[.int .i64 0, .int .i64 0, .slice none 0 0] from (Bk.last w5 25 #[.int .i64 0, .int .i64 0, .slice none 0 0] (by simp))) hbn (by simp <;> omega)))
         | (have hbz : Hid (Bk w6 (w5.heap.size) 25 #[.int .i64 0, .int .i64 0, .slice none 0 0]) := Lib.hid (Bk.below (show Bk _ (w5.heap.size) 25 #[.int .i64 0, .int .i64 0, .slice none 0 0] from ((Bk.last w5 25 #[.int .i64 0, .int .i64 0, .slice none 0 0] (by simp)).alloc _)) hbn (by simp <;> omega)))
         | (have hbz : Hid (Bk w6 (w5.heap.size + 1) 25 #[.int .i64 0, .int .i64 0, .slice none 0 0]) := Lib.hid (Bk.below (show Bk _ (w5.heap.size + 1) 25 #[.int .i64 0, .int .i64 0, .slice none 0 0] from (Bk.last (w5.alloc _) 25 #[.int .i64 0, .int .i64 0, .slice none 0 0] (by simp))) hbn (by simp <;> omega)))
         | skip
         have HT6 := Lib.hid (show IsTerm w6 0 w6.heap.size lamS G c from ht6.wide (Nat.zero_le _) (Nat.le_refl _))
         first
         | (have hfz : ∀ q, w6.frozen? ⟨_, q, none⟩ = false := fun q => hbz.out.cold q
            have d0 := hbz.out.cell 0
            have d1 := hbz.out.cell 1
            have d2 := hbz.out.cell 2
            simp at d0 d1 d2)
         | skip
         clear hbn ht6)
      | (go_at_call 21
         refine (C3.out g2 _ (by first | exact HT2.out | exact (HT2.out.kept ((Below.refl _ _).alloc (Nat.le_refl _) _) (Nat.le_refl _)).wide (Nat.le_refl _) (by simp))).mono ?_
         rintro e w5 ⟨g3, rfl, ht3, hbn⟩
         have hbR := Lib.hid (by first | exact hbP.out.trans (hbn.mono hbP.out.size) | exact (hbP.out.alloc hbP.out.size _).trans (hbn.mono (hbP.out.alloc hbP.out.size _).size))
         have hzhbR := hbR.out.size
         first
         | (have hbz2 := Lib.hid (Bk.below hbz.out hbn (by have := hbz.out.lt; simp <;> omega)); have hbz := hbz2; clear hbz2)
         | (have hbz2 := Lib.hid (Bk.below (hbz.out.alloc _) hbn (by have := hbz.out.lt; simp <;> omega)); have hbz := hbz2; clear hbz2)
         | (have hbz : Hid (Bk w5 (w4.heap.size) 25 #[.int .i64 0, .int .i64 0, .slice none 0 0]) := Lib.hid (Bk.below (show Bk _ (w4.heap.size) 25 #[.int .i64 0, .int .i64 0, .slice none 0 0] from (Bk.last w4 25 #[.int .i64 0, .int .i64 0, .slice none 0 0] (by simp))) hbn (by simp <;> omega)))
         | (have hbz : Hid (Bk w5 (w4.heap.size) 25 #[.int .i64 0, .int .i64 0, .slice none 0 0]) := Lib.hid (Bk.below (show Bk _ (w4.heap.size) 25 #[.int .i64 0, .int .i64 0, .slice none 0 0] from ((Bk.last w4 25 #[.int .i64 0, .int .i64 0, .slice none 0 0] (by simp)).alloc _)) hbn (by simp <;> omega)))
         | (have hbz : Hid (Bk w5 (w4.heap.size + 1) 25 #[.int .i64 0, .int .i64 0, .slice none 0 0]) := Lib.hid (Bk.below (show Bk _ (w4.heap.size + 1) 25 #[.int .i64 0, .int .i64 0, .slice none 0 0] from (Bk.last (w4.alloc _) 25 #[.int .i64 0, .int .i64 0, .slice none 0 0] (by simp))) hbn (by simp <;> omega)))
         | skip
         have HT3 := Lib.hid ht3
         clear hbn ht3)
      | (go_at_call 21
         refine (C2.out g1 _ (by first | exact HT1.out | exact (HT1.out.kept ((Below.refl _ _).alloc (Nat.le_refl _) _) (Nat.le_refl _)).wide (Nat.le_refl _) (by simp))).mono ?_
         rintro e w4 ⟨g2, rfl, ht2, hbn⟩
         have hbP := Lib.hid (by first | exact hbC.out.trans (hbn.mono hbC.out.size) | exact (hbC.out.alloc hbC.out.size _).trans (hbn.mono (hbC.out.alloc hbC.out.size _).size))
         have hzhbP := hbP.out.size
         first
         | (have hbz2 := Lib.hid (Bk.below hbz.out hbn (by have := hbz.out.lt; simp <;> omega)); have hbz := hbz2; clear hbz2)
         | (have hbz2 := Lib.hid (Bk.below (hbz.out.alloc _) hbn (by have := hbz.out.lt; simp <;> omega)); have hbz := hbz2; clear hbz2)
         | (have hbz : Hid (Bk w4 (w3.heap.size) 25 #[.int .i64 0, .int .i64 0, .slice none 0 0]) := Lib.hid (Bk.below (show Bk _ (w3.heap.size) 25 #[.int .i64 0, .int .i64 0, .slice none 0 0] from (Bk.last w3 25 #[.int .i64 0, .int .i64 0, .slice none 0 0] (by simp))) hbn (by simp <;> omega)))
         | (have hbz : Hid (Bk w4 (w3.heap.size) 25 #[.int .i64 0, .int .i64 0, .slice none 0 0]) := Lib.hid (Bk.below (show Bk _ (w3.heap.size) 25 #[.int .i64 0, .int .i64 0, .slice none 0 0] from ((Bk.last w3 25 #[.int .i64 0, .int .i64 0, .slice none 0 0] (by simp)).alloc _)) hbn (by simp <;> omega)))
         | (have hbz : Hid (Bk w4 (w3.heap.size + 1) 25 #[.int .i64 0, .int .i64 0, .slice none 0 0]) := Lib.hid (Bk.below (show Bk _ (w3.heap.size + 1) 25 #[.int .i64 0, .int .i64 0, .slice none 0 0] from (Bk.last (w3.alloc _) 25 #[.int .i64 0, .int .i64 0, .slice none 0 0] (by simp))) hbn (by simp <;> omega)))
         | skip
         have HT2 := Lib.hid ht2
         clear hbn ht2)
      | (go_at_call 21
         refine (C1.out _).mono ?_
         rintro e w3 ⟨g1, rfl, ht1, hbn⟩
         have hbC := Lib.hid (by first | exact hbk0.out.trans (hbn.mono hbk0.out.size) | exact (hbk0.out.alloc hbk0.out.size _).trans (hbn.mono (hbk0.out.alloc hbk0.out.size _).size))
         have hzhbC := hbC.out.size
         first
         | (have hbz2 := Lib.hid (Bk.below hbz.out hbn (by have := hbz.out.lt; simp <;> omega)); have hbz := hbz2; clear hbz2)
         | (have hbz2 := Lib.hid (Bk.below (hbz.out.alloc _) hbn (by have := hbz.out.lt; simp <;> omega)); have hbz := hbz2; clear hbz2)
         | (have hbz : Hid (Bk w3 (X.heap.size) 25 #[.int .i64 0, .int .i64 0, .slice none 0 0]) := Lib.hid (Bk.below (show Bk _ (X.heap.size) 25 #[.int .i64 0, .int .i64 0, .slice none 0 0] from (Bk.last X.drew 25 #[.int .i64 0, .int .i64 0, .slice none 0 0] (by simp))) hbn (by simp <;> omega)))
         | (have hbz : Hid (Bk w3 (X.heap.size) 25 #[.int .i64 0, .int .i64 0, .slice none 0 0]) := Lib.hid (Bk.below (show Bk _ (X.heap.size) 25 #[.int .i64 0, .int .i64 0, .slice none 0 0] from ((Bk.last X.drew 25 #[.int .i64 0, .int .i64 0, .slice none 0 0] (by simp)).alloc _)) hbn (by simp <;> omega)))
         | (have hbz : Hid (Bk w3 (X.heap.size + 1) 25 #[.int .i64 0, .int .i64 0, .slice none 0 0]) := Lib.hid (Bk.below (show Bk _ (X.heap.size + 1) 25 #[.int .i64 0, .int .i64 0, .slice none 0 0] from (Bk.last (X.drew.alloc _) 25 #[.int .i64 0, .int .i64 0, .slice none 0 0] (by simp))) hbn (by simp <;> omega)))
         | skip
         have HT1 := Lib.hid ht1
         clear hbn ht1))
    all_goals
      go_wp2_with fail
      go_meet
      case rel =>
        first
        | exact ⟨_, G, c, rfl, rfl, rfl, TBox.of (((hbz.out.at_ 0 (.int .i64 4)).at_ 1 (.int .i64 0)).at_ 2 (.slice G 2 c)), (by repeat (first | with_reducible exact hbQ.out | with_reducible exact Below.refl _ _ | with_reducible refine Below.al ?_ _ | with_reducible refine Below.dr ?_ | with_reducible refine Below.st ?_ (by first | omega | (simp <;> omega)) _)), (TermIn.three (TermIn.avoid hbz.out.noZero HT6.out lamS_subs) (fun b hb => hb.2) _ _ _).imp (fun _ _ _ => rfl) (fun b hb => ⟨Nat.zero_le _, by rw [size_three]; exact hb.1.2⟩)⟩
        | exact ⟨_, G, c, rfl, rfl, rfl, TBox.of (Bk.new w6 _ _), (by repeat (first | with_reducible exact hbQ.out | with_reducible exact Below.refl _ _ | with_reducible refine Below.al ?_ _ | with_reducible refine Below.dr ?_ | with_reducible refine Below.st ?_ (by first | omega | (simp <;> omega)) _)), (HT6.out.kept ((Below.refl _ _).alloc (Nat.le_refl _) _) (Nat.le_refl _)).wide (Nat.le_refl _) (by simp)⟩
  case rest =>
    obtain ⟨wg, rfl⟩ : ∃ wg : World, wg = wc := ⟨_, rfl⟩
    obtain ⟨gv, Ax, cx, rfl, rfl, rfl, htb, hbg, htx⟩ := hcut
    have HTB := Lib.hid htb
    have HBG := Lib.hid hbg
    have HTX := Lib.hid (fun (V : World) (hV : Below wg.heap.size wg V) => (show IsTerm V 0 V.heap.size lamS Ax cx from (htx.kept hV (Nat.le_refl _)).wide (Nat.le_refl _) hV.size))
    have HKG := Lib.hid (fun (V : World) (hV : Below wg.heap.size wg V) => (show V.cell? ⟨w.heap.size, 0, none⟩ = some (.int .i64 2) ∧ V.cell? ⟨w.heap.size, 1, none⟩ = some (.int .i64 2) ∧ V.cell? ⟨w.heap.size, 2, none⟩ = some (.slice none 0 0) ∧ V.cell? ⟨gv, 0, none⟩ = some (.int .i64 4) ∧ V.cell? ⟨gv, 1, none⟩ = some (.int .i64 0) ∧ V.cell? ⟨gv, 2, none⟩ = some (.slice Ax 2 cx) from by
      obtain ⟨k0, k1, k2⟩ := HKK.out V (HBG.out.trans (hV.mono HBG.out.size))
      obtain ⟨z0, z1, z2, _⟩ := HTB.out.kept hV HTB.out.lt
      exact ⟨k0, k1, k2, z0, z1, z2⟩))
    have hgvl := htb.lt
    have hwg : w.heap.size < wg.heap.size := by have := hbg.size; omega
    have hbk1 := Lib.hid (show Below wg.heap.size wg wg.drew from (Below.refl _ _).drew)
    clear htb hbg htx s0 s1 s2
    obtain ⟨s0, s1, s2, v0, v1, v2⟩ := HKG.out wg (Below.refl _ _)
    go_upto_region 3 with fail
    go_region_held3 (fun w' => w'.cell? ⟨w.heap.size, 0, none⟩ = some (.int .i64 2) ∧ w'.cell? ⟨w.heap.size, 1, none⟩ = some (.int .i64 2) ∧ w'.cell? ⟨w.heap.size, 2, none⟩ = some (.slice none 0 0) ∧ w'.cell? ⟨gv, 0, none⟩ = some (.int .i64 4) ∧ w'.cell? ⟨gv, 1, none⟩ = some (.int .i64 0) ∧ w'.cell? ⟨gv, 2, none⟩ = some (.slice Ax 2 cx))
      ((refine (HKG.out _ ?_); repeat (first | with_reducible exact hbk1.out | with_reducible exact hbE.out | with_reducible exact hbT.out | with_reducible exact Below.refl _ _ | with_reducible refine Below.al ?_ _ | with_reducible refine Below.dr ?_)))
      (first
      | (go_at_call 10
         refine (C6.out Ax cx g5 _ (HTX.out _ hbT.out) HT5.out).mono ?_
         rintro e w8 ⟨rfl, hbn⟩
         have hbE := Lib.hid (hbT.out.trans (hbn.mono hbT.out.size))
         clear hbn)
      | (go_at_call 21
         refine (C5.out _).mono ?_
         rintro e w7 ⟨g5, rfl, ht5, hbn⟩
         have hbT := Lib.hid (hbk1.out.trans (hbn.mono hbk1.out.size))
         have HT5 := Lib.hid ht5
         clear hbn ht5))
    all_goals
      go_wp2_with fail
      go_ret
      exact ⟨rfl, HBX.out.trans ((HBG.out.trans (hbE.out.mono HBG.out.size)).mono HBX.out.size)⟩

end Go.Proofs.YtondjkeakfkefaaGreatDoor
