/- The walk of the law TeleSplits. -/
import Derived.Test.YtofmoggjpgjdgaaDoorVLaw0
import Derived.Test.YtofmoggjpgjdgaaDoorM9
import Derived.Test.YtofmoggjpgjdgaaDoorLSameAll
import Derived.Deep.RegionHeld3
import Derived.Deep.CutRange
namespace Go.Proofs.YtofmoggjpgjdgaaDoor
open Go.RowKit
set_option linter.unusedVariables false
set_option maxRecDepth 100000

theorem GivesS.any {P : Nat → Prop} {p : List TM × TM × Int} {w w' : World} {e : Ending} (h : GivesS P p w e w') : ∃ A c B d, e = .returned (.tuple #[.slice A p.1.length c, termV p.2.1 B d, .int .i64 p.2.2]) ∧ IsTerms w' 0 w'.heap.size p.1 A c ∧ IsTerm w' 0 w'.heap.size p.2.1 B d ∧ Below w.heap.size w w' := by
  obtain ⟨A, c, B, d, h1, h2, h3, h4⟩ := h
  exact ⟨A, c, B, d, h1, h2.imp (fun _ _ _ => rfl) (fun b hb => ⟨Nat.zero_le _, hb.2⟩), h3.imp (fun _ _ _ => rfl) (fun b hb => ⟨Nat.zero_le _, hb.2⟩), h4⟩
set_option maxHeartbeats 8000000 in
theorem vsplits_walk (t : TM) (A_t : Option Addr) (c_t : Nat) (n : Int) (w : World) (ht : IsTerm w 0 w.heap.size t A_t c_t) (hn : (Lit.int .i64 n).wf = true) (hS : ShapesM w) :
    Calls Tryd.prog 4 #[termV t A_t c_t, .int .i64 n] w fun e w' => e = .returned (.bool true) ∧ Below w.heap.size w w' := by
  have T_t := Lib.hid (fun (V : World) (hV : Below w.heap.size w V) => ht.kept hV (Nat.le_refl _))
  have HS := Lib.hid (fun (V : World) (hV : Below w.heap.size w V) => hS.kept hV)
  obtain ⟨l, x, e1, hE⟩ : ∃ a b c, splitX t n = (a, b, c) := ⟨_, _, _, rfl⟩
  obtain ⟨u, z, e2, hE2⟩ : ∃ a b c, wholeX t = (a, b, c) := ⟨_, _, _, rfl⟩
  obtain ⟨bt, hbt⟩ : ∃ b, shapedB t = b := ⟨_, rfl⟩
  have HE := Lib.hid hE
  have HE2 := Lib.hid hE2
  have HN0 := Lib.hid (fun (h : bt = false) => (show u = [] ∧ e2 = 5 from by
    have q := hE2.symm.trans (whole_no (hbt.trans h))
    injection q with q1 q2
    injection q2 with q2 q3
    exact ⟨q1, q3⟩))
  have HN1 := Lib.hid (fun (h : bt = true) => (show splitX t (pisN t) = (u, z, e2) from (whole_yes (hbt.trans h)).symm.trans hE2))
  have HBT := Lib.hid hbt
  have CSH := Lib.hid (fun (V : World) (hV : Below w.heap.size w V) => refShaped_any t 0 w.heap.size A_t c_t V (ht.kept hV (Nat.le_refl _)) hV.size)
  rw [hbt] at CSH
  clear ht hS hn hE hE2 hbt
  unfold termV at CSH ⊢
  have HB_w := Lib.hid (Below.refl w.heap.size w)
  go_enter Tryd.func4, Tryd.ntmps4
  go_wp2_with fail
  refine (((split_any t A_t c_t n _ ((T_t.out _ (HB_w.out.alloc HB_w.out.size (.cells #[.int .i64 t.k, .int .i64 t.n, .slice A_t t.l.length c_t] 24))).wide (Nat.le_refl _) (HB_w.out.alloc HB_w.out.size (.cells #[.int .i64 t.k, .int .i64 t.n, .slice A_t t.l.length c_t] 24)).size) (HS.out _ (HB_w.out.alloc HB_w.out.size (.cells #[.int .i64 t.k, .int .i64 t.n, .slice A_t t.l.length c_t] 24)))).mono fun _ _ h => GivesS.any (GivesS.kept h HE.out))).mono ?_
  rintro e w1 ⟨A_l, c_l, A_x, c_x, rfl, hl, hx, hb⟩
  rw [termV]
  have hj := Lib.hid (((Below.refl w.heap.size w).alloc (by simp <;> omega) (.cells #[.int .i64 t.k, .int .i64 t.n, .slice A_t t.l.length c_t] 24)).trans (hb.mono (by simp <;> omega)))
  have X_t := Lib.hid (show TBox w1 w.heap.size t.k t.n (.slice A_t t.l.length c_t) from TBox.of ((Bk.new w 24 #[.int .i64 t.k, .int .i64 t.n, .slice A_t t.l.length c_t]).below hb (by simp <;> omega)))
  have HB_w := Lib.hid (HB_w.out.trans (hj.out.mono HB_w.out.size))
  have HB_w1 := Lib.hid (Below.refl w1.heap.size w1)
  have T_x := Lib.hid (fun V (hV : Below w1.heap.size w1 V) => hx.kept hV (Nat.le_refl _))
  clear hx
  clear hb hj
  obtain ⟨t0, t1, t2, tl⟩ := X_t.out
  have T_l := Lib.hid (fun V (hV : Below w1.heap.size w1 V) => hl.kept hV (Nat.le_refl _))
  clear hl
  go_wp2_with fail
  refine (((rsplit_any t A_t c_t n w.heap.size _ (T_t.out _ (HB_w.out.alloc HB_w.out.size (.cells #[.int .i64 x.k, .int .i64 x.n, .slice A_x x.l.length c_x] 24))) (HB_w.out.alloc HB_w.out.size (.cells #[.int .i64 x.k, .int .i64 x.n, .slice A_x x.l.length c_x] 24)).size).mono fun _ _ h => GivesS.any (GivesS.kept h HE.out))).mono ?_
  rintro e w2 ⟨A_m, c_m, A_y, c_y, rfl, hl, hx, hb⟩
  rw [termV]
  have hj := Lib.hid (((Below.refl w1.heap.size w1).alloc (by simp <;> omega) (.cells #[.int .i64 x.k, .int .i64 x.n, .slice A_x x.l.length c_x] 24)).trans (hb.mono (by simp <;> omega)))
  have X_x := Lib.hid (show TBox w2 w1.heap.size x.k x.n (.slice A_x x.l.length c_x) from TBox.of ((Bk.new w1 24 #[.int .i64 x.k, .int .i64 x.n, .slice A_x x.l.length c_x]).below hb (by simp <;> omega)))
  have X_t := Lib.hid (X_t.out.kept hj.out X_t.out.lt)
  have HB_w := Lib.hid (HB_w.out.trans (hj.out.mono HB_w.out.size))
  have HB_w1 := Lib.hid (HB_w1.out.trans (hj.out.mono HB_w1.out.size))
  have HB_w2 := Lib.hid (Below.refl w2.heap.size w2)
  have T_y := Lib.hid (fun V (hV : Below w2.heap.size w2 V) => hx.kept hV (Nat.le_refl _))
  clear hx
  clear hb hj t0 t1 t2 tl
  have T_m := Lib.hid (fun V (hV : Below w2.heap.size w2 V) => hl.kept hV (Nat.le_refl _))
  clear hl
  go_wp2_with fail
  refine (sameAll_refl l _ _ _ _ A_l A_m c_l c_m _ (T_l.out _ (HB_w1.out.alloc HB_w1.out.size (.cells #[.int .i64 x.k, .int .i64 x.n, .slice A_y x.l.length c_y] 24))) (T_m.out _ (HB_w2.out.alloc HB_w2.out.size (.cells #[.int .i64 x.k, .int .i64 x.n, .slice A_y x.l.length c_y] 24))) (HB_w1.out.alloc HB_w1.out.size (.cells #[.int .i64 x.k, .int .i64 x.n, .slice A_y x.l.length c_y] 24)).size (HB_w2.out.alloc HB_w2.out.size (.cells #[.int .i64 x.k, .int .i64 x.n, .slice A_y x.l.length c_y] 24)).size).mono ?_
  rintro e w3 ⟨rfl, hb⟩
  have hj := Lib.hid (((Below.refl w2.heap.size w2).alloc (by simp <;> omega) (.cells #[.int .i64 x.k, .int .i64 x.n, .slice A_y x.l.length c_y] 24)).trans (hb.mono (by simp <;> omega)))
  have X_y := Lib.hid (show TBox w3 w2.heap.size x.k x.n (.slice A_y x.l.length c_y) from TBox.of ((Bk.new w2 24 #[.int .i64 x.k, .int .i64 x.n, .slice A_y x.l.length c_y]).below hb (by simp <;> omega)))
  have X_t := Lib.hid (X_t.out.kept hj.out X_t.out.lt)
  have X_x := Lib.hid (X_x.out.kept hj.out X_x.out.lt)
  have HB_w := Lib.hid (HB_w.out.trans (hj.out.mono HB_w.out.size))
  have HB_w1 := Lib.hid (HB_w1.out.trans (hj.out.mono HB_w1.out.size))
  have HB_w2 := Lib.hid (HB_w2.out.trans (hj.out.mono HB_w2.out.size))
  have HB_w3 := Lib.hid (Below.refl w3.heap.size w3)
  clear hb hj
  obtain ⟨x0, x1, x2, xl⟩ := X_x.out
  obtain ⟨y0, y1, y2, yl⟩ := X_y.out
  go_wp2_with fail
  refine ((refEqual_any x x _ _ _ _ A_x A_y c_x c_y _ (T_x.out _ HB_w1.out) (T_y.out _ HB_w2.out) HB_w1.out.size HB_w2.out.size).mono fun _ _ h => (show _ ∧ _ from ⟨h.1.trans (by rw [alikeT_refl]), h.2⟩)).mono ?_
  rintro e w4 ⟨rfl, hb⟩
  have hj := Lib.hid hb
  have X_t := Lib.hid (X_t.out.kept hj.out X_t.out.lt)
  have X_x := Lib.hid (X_x.out.kept hj.out X_x.out.lt)
  have X_y := Lib.hid (X_y.out.kept hj.out X_y.out.lt)
  have HB_w := Lib.hid (HB_w.out.trans (hj.out.mono HB_w.out.size))
  have HB_w1 := Lib.hid (HB_w1.out.trans (hj.out.mono HB_w1.out.size))
  have HB_w2 := Lib.hid (HB_w2.out.trans (hj.out.mono HB_w2.out.size))
  have HB_w3 := Lib.hid (HB_w3.out.trans (hj.out.mono HB_w3.out.size))
  have HB_w4 := Lib.hid (Below.refl w4.heap.size w4)
  clear hb hj x0 x1 x2 xl y0 y1 y2 yl
  obtain ⟨t0, t1, t2, tl⟩ := X_t.out
  go_wp2_with fail
  refine (((whole_any t A_t c_t _ ((T_t.out _ HB_w.out).wide (Nat.le_refl _) HB_w.out.size) (HS.out _ HB_w.out)).mono fun _ _ h => GivesS.any (GivesS.kept h HE2.out))).mono ?_
  rintro e w5 ⟨A_u, c_u, A_z, c_z, rfl, hl, hx, hb⟩
  rw [termV]
  have hj := Lib.hid hb
  have X_t := Lib.hid (X_t.out.kept hj.out X_t.out.lt)
  have X_x := Lib.hid (X_x.out.kept hj.out X_x.out.lt)
  have X_y := Lib.hid (X_y.out.kept hj.out X_y.out.lt)
  have HB_w := Lib.hid (HB_w.out.trans (hj.out.mono HB_w.out.size))
  have HB_w1 := Lib.hid (HB_w1.out.trans (hj.out.mono HB_w1.out.size))
  have HB_w2 := Lib.hid (HB_w2.out.trans (hj.out.mono HB_w2.out.size))
  have HB_w3 := Lib.hid (HB_w3.out.trans (hj.out.mono HB_w3.out.size))
  have HB_w4 := Lib.hid (HB_w4.out.trans (hj.out.mono HB_w4.out.size))
  have HB_w5 := Lib.hid (Below.refl w5.heap.size w5)
  have T_z := Lib.hid (fun V (hV : Below w5.heap.size w5 V) => hx.kept hV (Nat.le_refl _))
  clear hx
  clear hb hj t0 t1 t2 tl
  obtain ⟨t0, t1, t2, tl⟩ := X_t.out
  have T_u := Lib.hid (fun V (hV : Below w5.heap.size w5 V) => hl.kept hV (Nat.le_refl _))
  clear hl
  go_wp2_with fail
  refine (CSH.out _ (HB_w.out.alloc HB_w.out.size (.cells #[.int .i64 z.k, .int .i64 z.n, .slice A_z z.l.length c_z] 24))).mono ?_
  rintro e w6 ⟨rfl, hb⟩
  have hj := Lib.hid (((Below.refl w5.heap.size w5).alloc (by simp <;> omega) (.cells #[.int .i64 z.k, .int .i64 z.n, .slice A_z z.l.length c_z] 24)).trans (hb.mono (by simp <;> omega)))
  have X_z := Lib.hid (show TBox w6 w5.heap.size z.k z.n (.slice A_z z.l.length c_z) from TBox.of ((Bk.new w5 24 #[.int .i64 z.k, .int .i64 z.n, .slice A_z z.l.length c_z]).below hb (by simp <;> omega)))
  have X_t := Lib.hid (X_t.out.kept hj.out X_t.out.lt)
  have X_x := Lib.hid (X_x.out.kept hj.out X_x.out.lt)
  have X_y := Lib.hid (X_y.out.kept hj.out X_y.out.lt)
  have HB_w := Lib.hid (HB_w.out.trans (hj.out.mono HB_w.out.size))
  have HB_w1 := Lib.hid (HB_w1.out.trans (hj.out.mono HB_w1.out.size))
  have HB_w2 := Lib.hid (HB_w2.out.trans (hj.out.mono HB_w2.out.size))
  have HB_w3 := Lib.hid (HB_w3.out.trans (hj.out.mono HB_w3.out.size))
  have HB_w4 := Lib.hid (HB_w4.out.trans (hj.out.mono HB_w4.out.size))
  have HB_w5 := Lib.hid (HB_w5.out.trans (hj.out.mono HB_w5.out.size))
  have HB_w6 := Lib.hid (Below.refl w6.heap.size w6)
  clear hb hj t0 t1 t2 tl
  obtain ⟨t0, t1, t2, tl⟩ := X_t.out
  cases bt with
  | false =>
    obtain ⟨rfl, rfl⟩ := HN0.out rfl
    go_wp2_with fail
    refine (awakeV_any _ (HS.out _ HB_w.out)).mono ?_
    rintro e w7 ⟨rfl, hb⟩
    have hj := Lib.hid hb
    have X_t := Lib.hid (X_t.out.kept hj.out X_t.out.lt)
    have X_x := Lib.hid (X_x.out.kept hj.out X_x.out.lt)
    have X_y := Lib.hid (X_y.out.kept hj.out X_y.out.lt)
    have X_z := Lib.hid (X_z.out.kept hj.out X_z.out.lt)
    have HB_w := Lib.hid (HB_w.out.trans (hj.out.mono HB_w.out.size))
    have HB_w1 := Lib.hid (HB_w1.out.trans (hj.out.mono HB_w1.out.size))
    have HB_w2 := Lib.hid (HB_w2.out.trans (hj.out.mono HB_w2.out.size))
    have HB_w3 := Lib.hid (HB_w3.out.trans (hj.out.mono HB_w3.out.size))
    have HB_w4 := Lib.hid (HB_w4.out.trans (hj.out.mono HB_w4.out.size))
    have HB_w5 := Lib.hid (HB_w5.out.trans (hj.out.mono HB_w5.out.size))
    have HB_w6 := Lib.hid (HB_w6.out.trans (hj.out.mono HB_w6.out.size))
    have HB_w7 := Lib.hid (Below.refl w7.heap.size w7)
    clear hb hj t0 t1 t2 tl
    go_wp2_with fail
    go_ret
    exact ⟨rfl, HB_w.out⟩
  | true =>
    have HES := Lib.hid (HN1.out rfl)
    have HKT := Lib.hid (fun (V : World) (hV : Below w6.heap.size w6 V) => (show V.cell? ⟨w.heap.size, 0, none⟩ = some (.int .i64 t.k) ∧ V.cell? ⟨w.heap.size, 1, none⟩ = some (.int .i64 t.n) ∧ V.cell? ⟨w.heap.size, 2, none⟩ = some (.slice A_t t.l.length c_t) from by
      obtain ⟨a0, a1, a2, _⟩ := X_t.out.kept hV X_t.out.lt
      exact ⟨a0, a1, a2⟩))
    have CR := Lib.hid (fun (V : World) (hV : Below w6.heap.size w6 V) => (rpis_any t A_t c_t V ((T_t.out V (HB_w.out.trans (hV.mono HB_w.out.size))).wide (Nat.le_refl _) (HB_w.out.trans (hV.mono HB_w.out.size)).size) HBT.out))
    have CS := Lib.hid (fun (V : World) (hV : Below w6.heap.size w6 V) => (rsplit_any t A_t c_t (pisN t) w.heap.size V (T_t.out V (HB_w.out.trans (hV.mono HB_w.out.size))) (HB_w.out.trans (hV.mono HB_w.out.size)).size).mono fun _ _ h => GivesS.kept h HES.out)
    have hbk0 := Lib.hid (Below.refl w6.heap.size w6).drew
    have hlt := X_t.out.lt
    have hws := HB_w.out.size
    unfold GivesS termV at CS
    unfold termV at CR
    go_wp2_with fail
    go_upto_region 8 with fail
    go_cut [14, 15, 16] from 65 to 72 (fun s14 s15 s16 wx => ∃ gv A_v c_v A_y2 c_y2, s14 = .slice A_v u.length c_v ∧ s15 = .pointer (some ⟨gv, 0, none⟩) ∧ s16 = .int .i64 e2 ∧ TBox wx gv z.k z.n (.slice A_y2 z.l.length c_y2) ∧ Below w6.heap.size w6 wx ∧ IsTerms wx 0 wx.heap.size u A_v c_v ∧ IsTerm wx 0 wx.heap.size z A_y2 c_y2)
    case first =>
      go_region_held3 (fun w' => w'.cell? ⟨w.heap.size, 0, none⟩ = some (.int .i64 t.k) ∧ w'.cell? ⟨w.heap.size, 1, none⟩ = some (.int .i64 t.n) ∧ w'.cell? ⟨w.heap.size, 2, none⟩ = some (.slice A_t t.l.length c_t))
        (first | exact HKT.out _ hbk0.out | exact HKT.out _ (hbk0.out.alloc hbk0.out.size _) | exact HKT.out _ hbk.out | exact HKT.out _ (hbk.out.alloc hbk.out.size _) | exact HKT.out _ hB5.out | exact HKT.out _ (hB5.out.alloc hB5.out.size _) | exact HKT.out _ (((hB5.out.setCell (by simp <;> omega) _).setCell (by simp <;> omega) _).setCell (by simp <;> omega) _) | exact HKT.out _ ((((hB5.out.alloc hB5.out.size _).setCell (by simp <;> omega) _).setCell (by simp <;> omega) _).setCell (by simp <;> omega) _))
        (first
        | (go_at_call 20
           refine (CR.out _ (by first | exact hbk0.out | exact hbk0.out.alloc hbk0.out.size _)).mono ?_
           rintro e wn ⟨rfl, hbn⟩
           have hbk : Hid (Below w6.heap.size w6 wn) := Lib.hid (by first | exact hbk0.out.trans (hbn.mono hbk0.out.size) | exact (hbk0.out.alloc hbk0.out.size _).trans (hbn.mono (hbk0.out.alloc hbk0.out.size _).size))
           first
           | (have hbz : Hid (Bk wn w6.heap.size 24 #[.int .i64 0, .int .i64 0, .slice none 0 0]) := Lib.hid (Bk.below (B := (w6.drew.alloc (.cells #[.int .i64 0, .int .i64 0, .slice none 0 0] 24)).heap.size) (Bk.last w6.drew 24 #[.int .i64 0, .int .i64 0, .slice none 0 0] rfl) hbn (by simp)))
           | skip
           clear hbn)
        | (go_at_call 15
           refine (CS.out _ (by first | exact hbk.out | exact hbk.out.alloc hbk.out.size _)).mono ?_
           rintro e w5 ⟨A_v, c_v, A_y2, c_y2, rfl, hv, hy, hb3⟩
           have hB5 : Hid (Below w6.heap.size w6 w5) := Lib.hid (by first | exact hbk.out.trans (hb3.mono hbk.out.size) | exact (hbk.out.alloc hbk.out.size _).trans (hb3.mono (hbk.out.alloc hbk.out.size _).size))
           have hcn := hbk.out.size
           first
           | (have hbkv : Bk w5 w6.heap.size 24 #[.int .i64 0, .int .i64 0, .slice none 0 0] := Bk.below hbz.out hb3 hbz.out.lt
              have hzl := hbz.out.lt
              have Hv := Lib.hid (show TermIn w5 (fun b => b ≠ w6.heap.size ∧ b < w5.heap.size) _ _ _ from hv.imp (fun _ _ _ => rfl) (fun b hb => ⟨by rcases hb.1 with h | h <;> omega, hb.2⟩))
              have Hy := Lib.hid (show TermIn w5 (fun b => b ≠ w6.heap.size ∧ b < w5.heap.size) _ _ _ from hy.imp (fun _ _ _ => rfl) (fun b hb => ⟨by rcases hb.1 with h | h <;> omega, hb.2⟩))
              have hfz : ∀ o, w5.frozen? ⟨w6.heap.size, o, none⟩ = false := fun o => hbkv.cold o
              have d0 := hbkv.cell 0
              have d1 := hbkv.cell 1
              have d2 := hbkv.cell 2
              simp at d0 d1 d2)
           | (have hbkv : Bk w5 wn.heap.size 24 #[.int .i64 0, .int .i64 0, .slice none 0 0] := Bk.below (B := (wn.alloc (.cells #[.int .i64 0, .int .i64 0, .slice none 0 0] 24)).heap.size) (Bk.last wn 24 #[.int .i64 0, .int .i64 0, .slice none 0 0] rfl) hb3 (by simp)
              have Hv := Lib.hid (show TermIn w5 (fun b => b ≠ wn.heap.size ∧ b < w5.heap.size) _ _ _ from hv.imp (fun _ _ _ => rfl) (fun b hb => ⟨by rcases hb.1 with h | h <;> first | omega | (simp at h; omega), hb.2⟩))
              have Hy := Lib.hid (show TermIn w5 (fun b => b ≠ wn.heap.size ∧ b < w5.heap.size) _ _ _ from hy.imp (fun _ _ _ => rfl) (fun b hb => ⟨by rcases hb.1 with h | h <;> first | omega | (simp at h; omega), hb.2⟩))
              have hfz : ∀ o, w5.frozen? ⟨wn.heap.size, o, none⟩ = false := fun o => hbkv.cold o
              have d0 := hbkv.cell 0
              have d1 := hbkv.cell 1
              have d2 := hbkv.cell 2
              simp at d0 d1 d2)
           | (skip
              have Hv := Lib.hid (show TermIn w5 (fun b => b ≠ w5.heap.size ∧ b < w5.heap.size) _ _ _ from hv.imp (fun _ _ _ => rfl) (fun b hb => ⟨by have := hb.2; omega, hb.2⟩))
              have Hy := Lib.hid (show TermIn w5 (fun b => b ≠ w5.heap.size ∧ b < w5.heap.size) _ _ _ from hy.imp (fun _ _ _ => rfl) (fun b hb => ⟨by have := hb.2; omega, hb.2⟩))
              skip)
           clear hb3 hv hy))
      all_goals
        go_wp2_with fail
        go_meet
        case rel =>
          first
          | exact ⟨_, A_v, c_v, A_y2, c_y2, rfl, rfl, rfl, TBox.of (Bk.new w5 _ _), hB5.out.alloc hB5.out.size _, (TermIn.imp (fun b o hb => ((Below.refl w5.heap.size w5).alloc (Nat.le_refl _) _).cell (p := ⟨b, o, none⟩) hb.2) (fun b hb => ⟨Nat.zero_le _, by have := hb.2; simp; omega⟩) Hv.out), (TermIn.imp (fun b o hb => ((Below.refl w5.heap.size w5).alloc (Nat.le_refl _) _).cell (p := ⟨b, o, none⟩) hb.2) (fun b hb => ⟨Nat.zero_le _, by have := hb.2; simp; omega⟩) Hy.out)⟩
          | exact ⟨_, A_v, c_v, A_y2, c_y2, rfl, rfl, rfl, TBox.of (((hbkv.at_ 0 (.int .i64 z.k)).at_ 1 (.int .i64 z.n)).at_ 2 (.slice A_y2 z.l.length c_y2)), ((hB5.out.setCell (by simp <;> omega) _).setCell (by simp <;> omega) _).setCell (by simp <;> omega) _, ((Hv.out.three (fun b hb e => hb.1 e) _ _ _).imp (fun _ _ _ => rfl) (fun b hb => ⟨Nat.zero_le _, by rw [size_three]; exact hb.2⟩)), ((Hy.out.three (fun b hb e => hb.1 e) _ _ _).imp (fun _ _ _ => rfl) (fun b hb => ⟨Nat.zero_le _, by rw [size_three]; exact hb.2⟩))⟩
    case rest =>
    obtain ⟨gv, A_v, c_v, A_y2, c_y2, rfl, rfl, rfl, htb, hb, hv, hy⟩ := hcut
    have X_t := Lib.hid (X_t.out.kept hb X_t.out.lt)
    have X_x := Lib.hid (X_x.out.kept hb X_x.out.lt)
    have X_y := Lib.hid (X_y.out.kept hb X_y.out.lt)
    have X_z := Lib.hid (X_z.out.kept hb X_z.out.lt)
    have HB_w := Lib.hid (HB_w.out.trans (hb.mono HB_w.out.size))
    have HB_w1 := Lib.hid (HB_w1.out.trans (hb.mono HB_w1.out.size))
    have HB_w2 := Lib.hid (HB_w2.out.trans (hb.mono HB_w2.out.size))
    have HB_w3 := Lib.hid (HB_w3.out.trans (hb.mono HB_w3.out.size))
    have HB_w4 := Lib.hid (HB_w4.out.trans (hb.mono HB_w4.out.size))
    have HB_w5 := Lib.hid (HB_w5.out.trans (hb.mono HB_w5.out.size))
    have HB_w6 := Lib.hid (HB_w6.out.trans (hb.mono HB_w6.out.size))
    have HB_wc := Lib.hid (Below.refl wc.heap.size wc)
    have X_v := Lib.hid htb
    have T_v := Lib.hid (fun V (hV : Below wc.heap.size wc V) => hv.kept hV (Nat.le_refl _))
    have T_v2 := Lib.hid (fun V (hV : Below wc.heap.size wc V) => hy.kept hV (Nat.le_refl _))
    clear hb htb hv hy HKT CR CS hbk0 hlt hws
    clear t0 t1 t2 tl
    go_wp2_with fail
    refine (sameAll_refl u _ _ _ _ A_u A_v c_u c_v _ (T_u.out _ HB_w5.out) (T_v.out _ HB_wc.out) HB_w5.out.size HB_wc.out.size).mono ?_
    rintro e w8 ⟨rfl, hb⟩
    have hj := Lib.hid hb
    have X_t := Lib.hid (X_t.out.kept hj.out X_t.out.lt)
    have X_x := Lib.hid (X_x.out.kept hj.out X_x.out.lt)
    have X_y := Lib.hid (X_y.out.kept hj.out X_y.out.lt)
    have X_z := Lib.hid (X_z.out.kept hj.out X_z.out.lt)
    have X_v := Lib.hid (X_v.out.kept hj.out X_v.out.lt)
    have HB_w := Lib.hid (HB_w.out.trans (hj.out.mono HB_w.out.size))
    have HB_w1 := Lib.hid (HB_w1.out.trans (hj.out.mono HB_w1.out.size))
    have HB_w2 := Lib.hid (HB_w2.out.trans (hj.out.mono HB_w2.out.size))
    have HB_w3 := Lib.hid (HB_w3.out.trans (hj.out.mono HB_w3.out.size))
    have HB_w4 := Lib.hid (HB_w4.out.trans (hj.out.mono HB_w4.out.size))
    have HB_w5 := Lib.hid (HB_w5.out.trans (hj.out.mono HB_w5.out.size))
    have HB_w6 := Lib.hid (HB_w6.out.trans (hj.out.mono HB_w6.out.size))
    have HB_wc := Lib.hid (HB_wc.out.trans (hj.out.mono HB_wc.out.size))
    have HB_w8 := Lib.hid (Below.refl w8.heap.size w8)
    clear hb hj
    obtain ⟨z0, z1, z2, zl⟩ := X_z.out
    obtain ⟨v0, v1, v2, vl⟩ := X_v.out
    go_wp2_with fail
    refine ((refEqual_any z z _ _ _ _ A_z A_y2 c_z c_y2 _ (T_z.out _ HB_w5.out) (T_v2.out _ HB_wc.out) HB_w5.out.size HB_wc.out.size).mono fun _ _ h => (show _ ∧ _ from ⟨h.1.trans (by rw [alikeT_refl]), h.2⟩)).mono ?_
    rintro e w9 ⟨rfl, hb⟩
    have hj := Lib.hid hb
    have X_t := Lib.hid (X_t.out.kept hj.out X_t.out.lt)
    have X_x := Lib.hid (X_x.out.kept hj.out X_x.out.lt)
    have X_y := Lib.hid (X_y.out.kept hj.out X_y.out.lt)
    have X_z := Lib.hid (X_z.out.kept hj.out X_z.out.lt)
    have X_v := Lib.hid (X_v.out.kept hj.out X_v.out.lt)
    have HB_w := Lib.hid (HB_w.out.trans (hj.out.mono HB_w.out.size))
    have HB_w1 := Lib.hid (HB_w1.out.trans (hj.out.mono HB_w1.out.size))
    have HB_w2 := Lib.hid (HB_w2.out.trans (hj.out.mono HB_w2.out.size))
    have HB_w3 := Lib.hid (HB_w3.out.trans (hj.out.mono HB_w3.out.size))
    have HB_w4 := Lib.hid (HB_w4.out.trans (hj.out.mono HB_w4.out.size))
    have HB_w5 := Lib.hid (HB_w5.out.trans (hj.out.mono HB_w5.out.size))
    have HB_w6 := Lib.hid (HB_w6.out.trans (hj.out.mono HB_w6.out.size))
    have HB_wc := Lib.hid (HB_wc.out.trans (hj.out.mono HB_wc.out.size))
    have HB_w8 := Lib.hid (HB_w8.out.trans (hj.out.mono HB_w8.out.size))
    have HB_w9 := Lib.hid (Below.refl w9.heap.size w9)
    clear hb hj z0 z1 z2 zl v0 v1 v2 vl
    go_wp2_with fail
    refine (awakeV_any _ (HS.out _ HB_w.out)).mono ?_
    rintro e w10 ⟨rfl, hb⟩
    have hj := Lib.hid hb
    have X_t := Lib.hid (X_t.out.kept hj.out X_t.out.lt)
    have X_x := Lib.hid (X_x.out.kept hj.out X_x.out.lt)
    have X_y := Lib.hid (X_y.out.kept hj.out X_y.out.lt)
    have X_z := Lib.hid (X_z.out.kept hj.out X_z.out.lt)
    have X_v := Lib.hid (X_v.out.kept hj.out X_v.out.lt)
    have HB_w := Lib.hid (HB_w.out.trans (hj.out.mono HB_w.out.size))
    have HB_w1 := Lib.hid (HB_w1.out.trans (hj.out.mono HB_w1.out.size))
    have HB_w2 := Lib.hid (HB_w2.out.trans (hj.out.mono HB_w2.out.size))
    have HB_w3 := Lib.hid (HB_w3.out.trans (hj.out.mono HB_w3.out.size))
    have HB_w4 := Lib.hid (HB_w4.out.trans (hj.out.mono HB_w4.out.size))
    have HB_w5 := Lib.hid (HB_w5.out.trans (hj.out.mono HB_w5.out.size))
    have HB_w6 := Lib.hid (HB_w6.out.trans (hj.out.mono HB_w6.out.size))
    have HB_wc := Lib.hid (HB_wc.out.trans (hj.out.mono HB_wc.out.size))
    have HB_w8 := Lib.hid (HB_w8.out.trans (hj.out.mono HB_w8.out.size))
    have HB_w9 := Lib.hid (HB_w9.out.trans (hj.out.mono HB_w9.out.size))
    have HB_w10 := Lib.hid (Below.refl w10.heap.size w10)
    clear hb hj
    go_wp2_with fail
    go_ret
    exact ⟨rfl, HB_w.out⟩

end Go.Proofs.YtofmoggjpgjdgaaDoor
