/- tele.Result: what is left of a type of functions, once it has arguments. -/
import Derived.Test.YtofmoggjpgjdgaaDoorVLaid
import Derived.Test.YtofmoggjpgjdgaaDoorM7
import Derived.Deep.RegionHeld3
import Derived.Deep.CutRange
namespace Go.Proofs.YtofmoggjpgjdgaaDoor
open Go.RowKit
set_option linter.unusedVariables false
set_option maxRecDepth 100000

/-- Where the loop stands: so many are put in; what is left lies in the box. -/
def ResRel (t : TM) (gs : List TM) (w : World) (iv : Value) (wr : World) : Prop :=
  ∃ (i : Nat) (u : TM) (A : Option Addr) (c : Nat), i ≤ gs.length ∧ iv = .int .i64 i ∧ Below w.heap.size w wr ∧ Bk wr w.heap.size 24 #[.int .i64 u.k, .int .i64 u.n, .slice A u.l.length c] ∧
    Bk wr (w.heap.size + 1) 24 #[.int .i64 0, .int .i64 0, .slice none 0 0] ∧ TermIn wr (fun b => b < wr.heap.size ∧ b ≠ w.heap.size ∧ b ≠ w.heap.size + 1) u A c ∧ shapedB u = true ∧ resT t gs = resT u (gs.drop i)
theorem result_no {t : TM} {gs : List TM} (h : shapedB t = false) : resultX t gs = (.node 0 0 [], 5) := by unfold resultX; rw [h]; rfl
theorem result_yes {t : TM} {gs : List TM} (h : shapedB t = true) : resultX t gs = resT t gs := by unfold resultX; rw [h, if_pos rfl]

set_option maxHeartbeats 8000000 in
theorem result_any (t : TM) (A_t : Option Addr) (c_t : Nat) (gs : List TM) (A_g : Option Addr) (c_g : Nat) (w : World) (ht : IsTerm w 0 w.heap.size t A_t c_t) (hg : IsTerms w 0 w.heap.size gs A_g c_g) (hlen : gs.length ≤ 8000) (hS : ShapesM w) :
    Calls Tryd.prog 24 #[termV t A_t c_t, .slice A_g gs.length c_g] w (GivesL (resultX t gs) w) := by
  have HW := Lib.hid (show Below w.heap.size w ((w.alloc (.cells #[.int .i64 t.k, .int .i64 t.n, .slice A_t t.l.length c_t] 24)).alloc (.cells #[.int .i64 0, .int .i64 0, .slice none 0 0] 24)) from ((Below.refl w.heap.size w).alloc (by simp <;> omega) (.cells #[.int .i64 t.k, .int .i64 t.n, .slice A_t t.l.length c_t] 24)).alloc (by simp <;> omega) (.cells #[.int .i64 0, .int .i64 0, .slice none 0 0] 24))
  have KB := Lib.hid (fun (V : World) (hV : Below ((w.alloc (.cells #[.int .i64 t.k, .int .i64 t.n, .slice A_t t.l.length c_t] 24)).alloc (.cells #[.int .i64 0, .int .i64 0, .slice none 0 0] 24)).heap.size ((w.alloc (.cells #[.int .i64 t.k, .int .i64 t.n, .slice A_t t.l.length c_t] 24)).alloc (.cells #[.int .i64 0, .int .i64 0, .slice none 0 0] 24)) V) => (show Bk V w.heap.size 24 #[.int .i64 t.k, .int .i64 t.n, .slice A_t t.l.length c_t] ∧ Bk V (w.heap.size + 1) 24 #[.int .i64 0, .int .i64 0, .slice none 0 0] from ⟨((Bk.new w 24 _).alloc _).below hV (by simp <;> omega), (Bk.last (w.alloc (.cells #[.int .i64 t.k, .int .i64 t.n, .slice A_t t.l.length c_t] 24)) 24 #[.int .i64 0, .int .i64 0, .slice none 0 0] (g := w.heap.size + 1) (by simp)).below hV (by simp <;> omega)⟩))
  have CC0 := Lib.hid (fun (V : World) (hV : Below w.heap.size w V) => shaped_any t 0 w.heap.size A_t c_t V (ht.kept hV (Nat.le_refl _)) hV.size (hS.kept hV))
  have CCP := Lib.hid (fun (V : World) (hV : Below w.heap.size w V) => tcopy_any t 0 w.heap.size A_t c_t V (ht.kept hV (Nat.le_refl _)) hV.size (hS.kept hV))
  have HSH := Lib.hid (fun (V : World) (hV : Below w.heap.size w V) => hS.kept hV)
  have HN := Lib.hid hg.sub
  have HLN := Lib.hid hlen
  obtain ⟨hgl, hgm⟩ := hg.bounds
  unfold maxLen at hgm
  obtain ⟨RR, hRR⟩ : ∃ RR, resultX t gs = RR := ⟨_, rfl⟩
  rw [hRR]
  obtain ⟨bt, hbt⟩ : ∃ b, shapedB t = b := ⟨_, rfl⟩
  rw [hbt] at CC0
  have HX0 := Lib.hid (fun (h : bt = false) => hRR.symm.trans (result_no (hbt.trans h)))
  have HX1 := Lib.hid (fun (h : bt = true) => hRR.symm.trans (result_yes (hbt.trans h)))
  have HBT := Lib.hid hbt
  clear ht hg hRR hbt hlen hS
  unfold termV at CC0 CCP ⊢
  go_enter Tryd.func24, Tryd.ntmps24
  go_wp2_with fail
  refine (CC0.out _ HW.out).mono ?_
  rintro e w0 ⟨rfl, hc0⟩
  have hb0 := Lib.hid (hc0.mono (Nat.le_refl _))
  clear hc0 CC0
  have b00 : w0.cell? ⟨w.heap.size, 0, none⟩ = some (.int .i64 t.k) := (KB.out _ hb0.out).1.cell 0
  have b01 : w0.cell? ⟨w.heap.size, 1, none⟩ = some (.int .i64 t.n) := (KB.out _ hb0.out).1.cell 1
  have b02 : w0.cell? ⟨w.heap.size, 2, none⟩ = some (.slice A_t t.l.length c_t) := (KB.out _ hb0.out).1.cell 2
  have b10 : w0.cell? ⟨w.heap.size + 1, 0, none⟩ = some (.int .i64 0) := (KB.out _ hb0.out).2.cell 0
  have b11 : w0.cell? ⟨w.heap.size + 1, 1, none⟩ = some (.int .i64 0) := (KB.out _ hb0.out).2.cell 1
  have b12 : w0.cell? ⟨w.heap.size + 1, 2, none⟩ = some (.slice none 0 0) := (KB.out _ hb0.out).2.cell 2
  have hfz : ∀ o, w0.frozen? ⟨w.heap.size + 1, o, none⟩ = false := fun o => (KB.out _ hb0.out).2.cold o
  cases bt with
  | false =>
    have HE := Lib.hid (HX0.out rfl)
    clear HX0 HX1
    have B5 := (((KB.out _ hb0.out).2.at_ 0 (.int .i64 0)).at_ 1 (.int .i64 0)).at_ 2 (.slice none 0 0)
    have HS0 := Lib.hid (B5.cell 0)
    have HS1 := Lib.hid (B5.cell 1)
    have HS2 := Lib.hid (B5.cell 2)
    have HBF := Lib.hid (HW.out.trans (hb0.out.mono (by simp <;> omega)))
    clear B5
    go_wp2_with fail
    refine bodyPost_ret (v := .tuple #[.agg #[.int .i64 0, .int .i64 0, .slice none 0 0], .int .i64 5]) (by simp [results, Tryd.results24, go_sem, HS0.out, HS1.out, HS2.out]) rfl ?_
    rw [HE.out]
    exact givel_zero HBF.out (by omega)
  | true =>
  have HE1 := Lib.hid (HX1.out rfl)
  have hb0s := hb0.out.size
  simp at hb0s
  clear HX0 HX1
  go_wp2_with fail
  refine (CCP.out _ (HW.out.trans (hb0.out.mono (by simp <;> omega)))).mono ?_
  rintro e w2 (⟨hs, A', cap', P, rfl, hn, hp, hc, hb2⟩ | ⟨hs, _⟩)
  rotate_left
  · exact absurd (HBT.out.symm.trans hs) (by decide)
  have HN2 := Lib.hid hn.term
  have HP2 := Lib.hid hp
  have hbx := hb0.out.trans (hb2.mono hb0.out.size)
  have hzz2 := hb2.size
  have HBX := Lib.hid hbx
  clear hn hp hc hb2 hs b00 b01 b02 b10 b11 b12 hfz hbx
  have b00 : w2.cell? ⟨w.heap.size, 0, none⟩ = some (.int .i64 t.k) := (KB.out _ HBX.out).1.cell 0
  have b01 : w2.cell? ⟨w.heap.size, 1, none⟩ = some (.int .i64 t.n) := (KB.out _ HBX.out).1.cell 1
  have b02 : w2.cell? ⟨w.heap.size, 2, none⟩ = some (.slice A_t t.l.length c_t) := (KB.out _ HBX.out).1.cell 2
  have b10 : w2.cell? ⟨w.heap.size + 1, 0, none⟩ = some (.int .i64 0) := (KB.out _ HBX.out).2.cell 0
  have b11 : w2.cell? ⟨w.heap.size + 1, 1, none⟩ = some (.int .i64 0) := (KB.out _ HBX.out).2.cell 1
  have b12 : w2.cell? ⟨w.heap.size + 1, 2, none⟩ = some (.slice none 0 0) := (KB.out _ HBX.out).2.cell 2
  have hfz : ∀ o, w2.frozen? ⟨w.heap.size + 1, o, none⟩ = false := fun o => (KB.out _ HBX.out).2.cold o
  have hfz1 : ∀ o, w2.frozen? ⟨w.heap.size, o, none⟩ = false := fun o => (KB.out _ HBX.out).1.cold o
  have HW2 := Lib.hid (show ResRel t gs w (.int .i64 0) (((w2.setCell ⟨w.heap.size, 0, none⟩ (.int .i64 t.k)).setCell ⟨w.heap.size, 1, none⟩ (.int .i64 t.n)).setCell ⟨w.heap.size, 2, none⟩ (.slice A' t.l.length cap')) from
    ⟨0, t, A', cap', Nat.zero_le _, rfl, (((HW.out.trans (HBX.out.mono (by simp <;> omega))).setCell (by simp) _).setCell (by simp) _).setCell (by simp) _, (((KB.out _ HBX.out).1.at_ 0 (.int .i64 t.k)).at_ 1 (.int .i64 t.n)).at_ 2 (.slice A' t.l.length cap'), (((KB.out _ HBX.out).2.far (by simp) _).far (by simp) _).far (by simp) _,
      (HN2.out.three (g := w.heap.size) (fun b hb e => by have := HP2.out b hb; omega) _ _ _).imp (fun _ _ _ => rfl) (fun b hb => ⟨by rw [size_three]; exact (HP2.out b hb).2, by have := HP2.out b hb; omega, by have := HP2.out b hb; omega⟩), HBT.out, by rw [List.drop_zero]⟩)
  rw [termV]
  go_wp2_with fail
  go_loopw [18] (ResRel t gs w) (fun iv _ => gs.length - (intOf iv).toNat)
  case atStart => exact HW2.out
  case round =>
    clear b00 b01 b02 b10 b11 b12 hfz hb0s hfz1
    obtain ⟨i, u, A1, c1, hi1, rfl, hB, b1, b2, hu, hsu, hres⟩ := hrel
    have hz := hB.size
    have hlt2 := b2.lt
    have HB1 := Lib.hid b1
    have HB2 := Lib.hid b2
    have HU := Lib.hid hu
    have HSU := Lib.hid hsu
    have HRS := Lib.hid hres
    have HBB := Lib.hid hB
    have hfz1 : ∀ q, wr.frozen? ⟨w.heap.size, q, none⟩ = false := fun q => b1.cold q
    obtain ⟨y0, y1, y2, yl⟩ := (TBox.of b1 : TBox wr w.heap.size u.k u.n (.slice A1 u.l.length c1))
    clear b1 b2 hu hsu hres
    have hg9 : (gs.length : Int) ≤ 8000 := by have := HLN.out; omega
    by_cases hil : i < gs.length
    · obtain ⟨bk2, o2, F2, C2, hA2, hp1, hp2, hx2, hnode2⟩ := (HN.out i hil).kept hB (Nat.le_refl _)
      subst hA2
      have hi1' : (i : Int) < (gs.length : Int) := by omega
      have hi0' : (0 : Int) ≤ (i : Int) := by omega
      have hdr : gs.drop i = gs[i]'hil :: gs.drop (i + 1) := List.drop_eq_getElem_cons hil
      have HIL := Lib.hid hil
      obtain ⟨a, ha⟩ : ∃ a : TM, gs[i]'hil = a := ⟨_, rfl⟩
      rw [ha] at hdr hx2 hnode2
      have hres2 : resT t gs = resT u (a :: gs.drop (i + 1)) := by rw [HRS.out, hdr]
      have HRS2 := Lib.hid hres2
      have hbw2 : bk2 < wr.heap.size := by omega
      obtain ⟨q0, q1, q2⟩ := hx2
      have HNA := Lib.hid hnode2
      clear hnode2 ha hdr hres2
      by_cases hk : u.k = 3
      rotate_left
      · have HE := Lib.hid (HE1.out.trans (HRS2.out.trans (resT_not hk)))
        have tk : (u.k != 3) = true := by simpa using hk
        have hfz : ∀ q, wr.frozen? ⟨w.heap.size + 1, q, none⟩ = false := fun q => HB2.out.cold q
        have d0 : wr.cell? ⟨w.heap.size + 1, 0, none⟩ = some (.int .i64 0) := HB2.out.cell 0
        have d1 : wr.cell? ⟨w.heap.size + 1, 1, none⟩ = some (.int .i64 0) := HB2.out.cell 1
        have d2 : wr.cell? ⟨w.heap.size + 1, 2, none⟩ = some (.slice none 0 0) := HB2.out.cell 2
        have B5 := (((HB2.out.at_ 0 (.int .i64 0)).at_ 1 (.int .i64 0)).at_ 2 (.slice none 0 0)).alloc (.cells #[.int .i64 a.k, .int .i64 a.n, .slice F2 a.l.length C2] 24)
        have HBF := Lib.hid HBB.out
        have HS0 := Lib.hid (B5.cell 0)
        have HS1 := Lib.hid (B5.cell 1)
        have HS2 := Lib.hid (B5.cell 2)
        clear B5 hk hil
        go_wp2_with fail
        refine bodyPost_ret (v := .tuple #[.agg #[.int .i64 0, .int .i64 0, .slice none 0 0], .int .i64 6]) (by simp [results, Tryd.results24, go_sem, HS0.out, HS1.out, HS2.out]) rfl ?_
        rw [HE.out]
        exact ⟨none, 0, rfl, leaf_in _ _ 0 0, by first | exact ((HBF.out.setCell (by simp) _).setCell (by simp) _).setCell (by simp) _ | exact (((HBB.out.setCell (by simp) _).setCell (by simp) _).setCell (by simp) _).alloc (by simp [World.setCell] <;> omega) _⟩
      · obtain ⟨nn, x0, b, rfl, hga, hgb⟩ := pi_parts (shapedB_true.1 HSU.out).2.2 hk
        obtain ⟨bk, o, G, D, hA, hq, hy, hnode⟩ : ∃ bk o G D, A1 = some ⟨bk, o, none⟩ ∧ (bk < wr.heap.size ∧ bk ≠ w.heap.size ∧ bk ≠ w.heap.size + 1) ∧ Cells3 wr bk (o + 3) b G D ∧ TermIn wr (fun b => b < wr.heap.size ∧ b ≠ w.heap.size ∧ b ≠ w.heap.size + 1) b G D := by
          obtain ⟨bk, o, G, D, h1, h2, h3, h4⟩ := HU.out.at_ 1 (by simp)
          exact ⟨bk, o, G, D, h1, h2, by simpa using h3, h4⟩
        subst hA
        have hsb := (pi_shaped HSU.out).2
        change wr.cell? ⟨w.heap.size, 0, none⟩ = some (.int .i64 3) at y0
        change wr.cell? ⟨w.heap.size, 1, none⟩ = some (.int .i64 nn) at y1
        change wr.cell? ⟨w.heap.size, 2, none⟩ = some (.slice (some ⟨bk, o, none⟩) 2 c1) at y2
        have tk : ((3 : Int) != 3) = false := rfl
        obtain ⟨y, f, hyf⟩ : ∃ y f, manyX b [a] = (y, f) := ⟨_, _, rfl⟩
        have HYF := Lib.hid hyf
        have HNB := Lib.hid (show IsTerm wr 0 wr.heap.size b G D from hnode.imp (fun _ _ _ => rfl) (fun b hb => ⟨Nat.zero_le _, hb.1⟩))
        have hbw : bk < wr.heap.size := hq.1
        have HY := Lib.hid hy
        have HX2 := Lib.hid (show Cells3 wr bk2 (o2 + i * 3) a F2 C2 from ⟨q0, q1, q2⟩)
        clear hga hgb hk hil hyf hnode hsb hy
        have HA0 := Lib.hid (show Below wr.heap.size wr (wr.alloc (.cells #[.int .i64 a.k, .int .i64 a.n, .slice F2 a.l.length C2] 24)) from (Below.refl _ _).alloc (Nat.le_refl _) _)
        have HKT := Lib.hid (fun (V : World) (hV : Below (wr.alloc (.cells #[.int .i64 a.k, .int .i64 a.n, .slice F2 a.l.length C2] 24)).heap.size (wr.alloc (.cells #[.int .i64 a.k, .int .i64 a.n, .slice F2 a.l.length C2] 24)) V) => (show V.cell? ⟨w.heap.size, 2, none⟩ = some (.slice (some ⟨bk, o, none⟩) 2 c1) ∧ V.cell? ⟨bk, o + 3, none⟩ = some (.int .i64 b.k) ∧ V.cell? ⟨bk, o + 3 + 1, none⟩ = some (.int .i64 b.n) ∧ V.cell? ⟨bk, o + 3 + 2, none⟩ = some (.slice G b.l.length D) ∧ V.cell? ⟨wr.heap.size, 0, none⟩ = some (.int .i64 a.k) ∧ V.cell? ⟨wr.heap.size, 1, none⟩ = some (.int .i64 a.n) ∧ V.cell? ⟨wr.heap.size, 2, none⟩ = some (.slice F2 a.l.length C2) from by
          have hW := HA0.out.trans (hV.mono HA0.out.size)
          obtain ⟨a0, a1, a2⟩ := HY.out.kept hW hbw
          have hb : Bk V wr.heap.size 24 #[.int .i64 a.k, .int .i64 a.n, .slice F2 a.l.length C2] := (Bk.new wr 24 _).below hV (by simp)
          exact ⟨(hW.cell (p := ⟨w.heap.size, 2, none⟩) (by show w.heap.size < _; omega)).trans y2, a0, a1, a2, hb.cell 0, hb.cell 1, hb.cell 2⟩))
        have CM := Lib.hid (fun (V : World) (hV : Below wr.heap.size wr V) => (show Calls Tryd.prog 44 #[.agg #[.int .i64 b.k, .int .i64 b.n, .slice G b.l.length D], .agg #[.int .i64 a.k, .int .i64 a.n, .slice F2 a.l.length C2]] V (GivesT (y, f) V) from by
          have q := onec_any b 0 wr.heap.size G D a 0 w.heap.size F2 C2 V (HNB.out.kept hV (Nat.le_refl _)) hV.size (HNA.out.kept hV (by omega)) (by have := hV.size; omega) (HSH.out _ (HBB.out.trans (hV.mono hz)))
          rw [HYF.out] at q
          exact q))
        unfold GivesT termV at CM
        go_upto_region 9 with fail
        obtain ⟨W, hW⟩ : ∃ W, wr.alloc (.cells #[.int .i64 a.k, .int .i64 a.n, .slice F2 a.l.length C2] 24) = W := ⟨_, rfl⟩
        have HWZ := Lib.hid (show W.heap.size = wr.heap.size + 1 by rw [← hW]; simp)
        rw [hW] at HKT HA0 ⊢
        have hbk0 := Lib.hid (show Below W.heap.size W W.drew from (Below.refl _ _).drew)
        have HFW := Lib.hid hW
        clear hW
        obtain ⟨y2', z0, z1, z2, g0, g1, g2⟩ := HKT.out W (Below.refl _ _)
        clear y2
        go_cut [8, 9] from 26 to 34 (fun s8 s9 wx => ∃ gv A_y c_y, s8 = .pointer (some ⟨gv, 0, none⟩) ∧ s9 = .int .i64 f ∧ TBox wx gv y.k y.n (.slice A_y y.l.length c_y) ∧ Below W.heap.size W wx ∧ IsTerm wx W.heap.size wx.heap.size y A_y c_y)
        case first =>
          go_region_held3 (fun w' => w'.cell? ⟨w.heap.size, 2, none⟩ = some (.slice (some ⟨bk, o, none⟩) 2 c1) ∧ w'.cell? ⟨bk, o + 3, none⟩ = some (.int .i64 b.k) ∧ w'.cell? ⟨bk, o + 3 + 1, none⟩ = some (.int .i64 b.n) ∧ w'.cell? ⟨bk, o + 3 + 2, none⟩ = some (.slice G b.l.length D) ∧ w'.cell? ⟨wr.heap.size, 0, none⟩ = some (.int .i64 a.k) ∧ w'.cell? ⟨wr.heap.size, 1, none⟩ = some (.int .i64 a.n) ∧ w'.cell? ⟨wr.heap.size, 2, none⟩ = some (.slice F2 a.l.length C2))
            (first | exact HKT.out _ hbk0.out | exact HKT.out _ (hbk0.out.alloc hbk0.out.size _) | exact HKT.out _ hB5.out | exact HKT.out _ (hB5.out.alloc hB5.out.size _) | exact HKT.out _ (by repeat first | exact Below.refl _ _ | exact hB5.out | refine Below.drew ?_ | refine Below.alloc ?_ (by simp <;> omega) _ | refine Below.setCell ?_ (by simp <;> omega) _))
            (first
            | (go_at_call 44
               refine (CM.out _ (HA0.out.trans ((show Below W.heap.size W _ from by first | exact hbk0.out | exact hbk0.out.alloc hbk0.out.size _).mono HA0.out.size))).mono ?_
               rintro e w5 ⟨A_y, c_y, rfl, hx, hb3⟩
               have hB5 : Hid (Below W.heap.size W w5) := Lib.hid (by first | exact hbk0.out.trans (hb3.mono hbk0.out.size) | exact (hbk0.out.alloc hbk0.out.size _).trans (hb3.mono (hbk0.out.alloc hbk0.out.size _).size))
               first
               | (have hbkv : Bk w5 W.heap.size 24 #[.int .i64 0, .int .i64 0, .slice none 0 0] := Bk.below (B := (W.drew.alloc (.cells #[.int .i64 0, .int .i64 0, .slice none 0 0] 24)).heap.size) (Bk.last W.drew 24 #[.int .i64 0, .int .i64 0, .slice none 0 0] rfl) hb3 (by simp)
                  have HX := Lib.hid (show TermIn w5 (fun b => b ≠ W.heap.size ∧ W.heap.size ≤ b ∧ b < w5.heap.size) y A_y c_y from TermIn.imp (fun _ _ _ => rfl) (fun b hb => ⟨by have h := hb.1; simp at h; omega, by have h := hb.1; simp at h; omega, hb.2⟩) hx)
                  have hfz : ∀ o, w5.frozen? ⟨W.heap.size, o, none⟩ = false := fun o => hbkv.cold o
                  have d0 := hbkv.cell 0
                  have d1 := hbkv.cell 1
                  have d2 := hbkv.cell 2
                  simp at d0 d1 d2)
               | (skip
                  have HX := Lib.hid (show TermIn w5 (fun b => b ≠ w5.heap.size ∧ W.heap.size ≤ b ∧ b < w5.heap.size) y A_y c_y from TermIn.imp (fun _ _ _ => rfl) (fun b hb => ⟨by have := hb.2; omega, hb.1, hb.2⟩) hx)
                  skip)
               clear hb3 hx))
          all_goals
            go_wp2_with fail
            go_meet
            case rel =>
              first
              | exact ⟨_, A_y, c_y, rfl, rfl, TBox.of (Bk.new w5 _ _), hB5.out.alloc hB5.out.size _, TermIn.imp (fun b o hb => ((Below.refl w5.heap.size w5).alloc (Nat.le_refl _) _).cell (p := ⟨b, o, none⟩) hb.2.2) (fun b hb => ⟨hb.2.1, by have := hb.2.2; simp; omega⟩) HX.out⟩
              | exact ⟨_, A_y, c_y, rfl, rfl, TBox.of (((hbkv.at_ 0 (.int .i64 y.k)).at_ 1 (.int .i64 y.n)).at_ 2 (.slice A_y y.l.length c_y)), ((hB5.out.setCell (by simp <;> omega) _).setCell (by simp <;> omega) _).setCell (by simp <;> omega) _, (HX.out.three (fun b hb e => hb.1 e) _ _ _).imp (fun _ _ _ => rfl) (fun b hb => ⟨hb.2.1, by rw [size_three]; exact hb.2.2⟩)⟩
        case rest =>
        obtain ⟨gv, A_y, c_y, rfl, rfl, htb, hbx, hnx⟩ := hcut
        have HBX := Lib.hid (HA0.out.trans (hbx.mono HA0.out.size) : Below wr.heap.size wr wc)
        have hcz := HBX.out.size
        have HNX := Lib.hid (show IsTerm wc wr.heap.size wc.heap.size y A_y c_y from hnx.wide (by have := HWZ.out; omega) (Nat.le_refl _))
        have HBF := Lib.hid (HBB.out.trans (HBX.out.mono hz))
        have K1 := HB1.out.below HBX.out (by omega)
        have K2 := HB2.out.below HBX.out (by omega)
        obtain ⟨v0, v1, v2, vl⟩ := htb
        clear hbx hnx CM HKT hbk0 y0 y1 y2' g0 g1 g2 HA0 z0 z1 z2 hfz1
        by_cases h0 : f = 0
        rotate_left
        · have HE := Lib.hid (HE1.out.trans (HRS2.out.trans (by rw [resT_pi, HYF.out, if_neg (show ¬ (y, f).2 = 0 from h0)])))
          have t0 : (f != 0) = true := by simpa using h0
          have hfz : ∀ q, wc.frozen? ⟨w.heap.size + 1, q, none⟩ = false := fun q => K2.cold q
          have d0 : wc.cell? ⟨w.heap.size + 1, 0, none⟩ = some (.int .i64 0) := K2.cell 0
          have d1 : wc.cell? ⟨w.heap.size + 1, 1, none⟩ = some (.int .i64 0) := K2.cell 1
          have d2 : wc.cell? ⟨w.heap.size + 1, 2, none⟩ = some (.slice none 0 0) := K2.cell 2
          have B5 := ((K2.at_ 0 (.int .i64 0)).at_ 1 (.int .i64 0)).at_ 2 (.slice none 0 0)
          have HS0 := Lib.hid (B5.cell 0)
          have HS1 := Lib.hid (B5.cell 1)
          have HS2 := Lib.hid (B5.cell 2)
          clear B5 K1 K2 h0
          go_wp2_with fail
          refine bodyPost_ret (v := .tuple #[.agg #[.int .i64 0, .int .i64 0, .slice none 0 0], .int .i64 f]) (by simp [results, Tryd.results24, go_sem, HS0.out, HS1.out, HS2.out]) rfl ?_
          rw [HE.out]
          exact givel_zero HBF.out (by omega)
        · have t0 : (f != 0) = false := by rw [h0]; rfl
          have hfz : ∀ q, wc.frozen? ⟨w.heap.size, q, none⟩ = false := fun q => K1.cold q
          have d0 : wc.cell? ⟨w.heap.size, 0, none⟩ = some (.int .i64 3) := K1.cell 0
          have d1 : wc.cell? ⟨w.heap.size, 1, none⟩ = some (.int .i64 nn) := K1.cell 1
          have d2 : wc.cell? ⟨w.heap.size, 2, none⟩ = some (.slice (some ⟨bk, o, none⟩) 2 c1) := K1.cell 2
          have HR := Lib.hid (show ResRel t gs w (.int .i64 ((i + 1 : Nat) : Int)) (((wc.setCell ⟨w.heap.size, 0, none⟩ (.int .i64 y.k)).setCell ⟨w.heap.size, 1, none⟩ (.int .i64 y.n)).setCell ⟨w.heap.size, 2, none⟩ (.slice A_y y.l.length c_y)) from
            ⟨i + 1, y, A_y, c_y, by have := HIL.out; omega, rfl, ((HBF.out.setCell (by simp) _).setCell (by simp) _).setCell (by simp) _, ((K1.at_ 0 (.int .i64 y.k)).at_ 1 (.int .i64 y.n)).at_ 2 (.slice A_y y.l.length c_y), ((K2.far (by simp) _).far (by simp) _).far (by simp) _,
              (TermIn.three HNX.out (fun b hb e => by have := hb.1; omega) _ _ _).imp (fun _ _ _ => rfl) (fun b hb => ⟨by rw [size_three]; exact hb.2, by have := hb.1; omega, by have := hb.1; omega⟩), many_shaped (by rw [HYF.out, h0]), by rw [HRS2.out, resT_pi, HYF.out, if_pos (show (y, f).2 = 0 from h0)]⟩)
          clear K1 K2 h0
          go_wp2_with fail
          go_roundw
          case rel => exact HR.out
          case measure => have := HIL.out; simp [intOf]; omega
    · have HIN := Lib.hid (show i = gs.length by omega)
      have hge : ¬ (i : Int) < (gs.length : Int) := by omega
      have HE := Lib.hid (HE1.out.trans (HRS.out.trans (by rw [HIN.out, List.drop_length, resT_nil])))
      have hfz : ∀ q, wr.frozen? ⟨w.heap.size + 1, q, none⟩ = false := fun q => HB2.out.cold q
      have d0 : wr.cell? ⟨w.heap.size + 1, 0, none⟩ = some (.int .i64 0) := HB2.out.cell 0
      have d1 : wr.cell? ⟨w.heap.size + 1, 1, none⟩ = some (.int .i64 0) := HB2.out.cell 1
      have d2 : wr.cell? ⟨w.heap.size + 1, 2, none⟩ = some (.slice none 0 0) := HB2.out.cell 2
      have B5 := ((HB2.out.at_ 0 (.int .i64 u.k)).at_ 1 (.int .i64 u.n)).at_ 2 (.slice A1 u.l.length c1)
      have HS0 := Lib.hid (B5.cell 0)
      have HS1 := Lib.hid (B5.cell 1)
      have HS2 := Lib.hid (B5.cell 2)
      clear B5 hil
      go_wp2_with fail
      refine bodyPost_ret (v := .tuple #[.agg #[.int .i64 u.k, .int .i64 u.n, .slice A1 u.l.length c1], .int .i64 0]) (by simp [results, Tryd.results24, go_sem, HS0.out, HS1.out, HS2.out]) rfl ?_
      rw [HE.out]
      exact ⟨A1, c1, rfl, (HU.out.three (g := w.heap.size + 1) (fun b hq => hq.2.2) _ _ _).imp (fun _ _ _ => rfl) (fun b hq => ⟨Nat.zero_le _, by rw [size_three]; exact hq.1⟩), ((HBB.out.setCell (by simp) _).setCell (by simp) _).setCell (by simp) _⟩

end Go.Proofs.YtofmoggjpgjdgaaDoor
