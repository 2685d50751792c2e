/- The walk of the law TermMakes. -/
import Derived.Test.YteemfjkenmaedaaDoorTBox
import Derived.Deep.RegionWith
import Derived.Deep.CutRange
import Derived.Deep.RegionHeld3
namespace Go.Proofs.YteemfjkenmaedaaDoor
open Go.RowKit
set_option linter.unusedVariables false
set_option maxRecDepth 100000

/-- A term of two lies in a world. -/
def TwoAt (W : World) (k : Int) (t u : TM) (A : Option Addr) : Prop := IsTerm W 0 W.heap.size (.node k 0 [t, u]) A 2
theorem TwoAt.over {W W' : World} {k : Int} {t u : TM} {A : Option Addr} (h : TwoAt W k t u A) (hb : Below W.heap.size W W') : TwoAt W' k t u A := (h.kept hb (Nat.le_refl _)).wide (Nat.le_refl _) hb.size
theorem TwoAt.v (k : Int) (t u : TM) (A : Option Addr) : termV (.node k 0 [t, u]) A 2 = .agg #[.int .i64 k, .int .i64 0, .slice A 2 2] := rfl

set_option maxHeartbeats 8000000 in
theorem tmakes_walk (t u : TM) (A B : Option Addr) (cap cap2 : Nat) (n : Int) (w : World) (hn : IsTerm w 0 w.heap.size t A cap) (hm : IsTerm w 0 w.heap.size u B cap2) (hS : ShapesM w) :
    Calls Tryd.prog 5 #[termV t A cap, termV u B cap2, .int .i64 n] w fun e w' => e = .returned (.bool true) ∧ Below w.heap.size w w' := by
  have HT := Lib.hid (fun (V : World) (hV : Below w.heap.size w V) => hn.kept hV (Nat.le_refl _))
  have HU := Lib.hid (fun (V : World) (hV : Below w.heap.size w V) => hm.kept hV (Nat.le_refl _))
  have e1 := fun V (hV : Below w.heap.size w V) => refShaped_any t 0 w.heap.size A cap V (HT.out V hV) hV.size
  have e2 := fun V (hV : Below w.heap.size w V) => refShaped_any u 0 w.heap.size B cap2 V (HU.out V hV) hV.size
  have aw := fun V (hV : Below w.heap.size w V) => awakeM_any V (hS.kept hV)
  obtain ⟨x, hx⟩ : ∃ x, shapedB t = x := ⟨_, rfl⟩
  obtain ⟨y, hy⟩ : ∃ x, shapedB u = x := ⟨_, rfl⟩
  rw [hx] at e1
  rw [hy] at e2
  have E1 := Lib.hid e1
  have E2 := Lib.hid e2
  have AW := Lib.hid aw
  have HW2 := Lib.hid (fun o1 o2 => ((Below.refl w.heap.size w).alloc (Nat.le_refl _) o1).alloc (by simp) o2)
  have CP := Lib.hid (fun k k' n n' A A' m m' cap cap' W => mk_pi k k' n n' A A' m m' cap cap' W)
  have CL := Lib.hid (fun k k' n n' A A' m m' cap cap' W => mk_lam k k' n n' A A' m m' cap cap' W)
  have CA := Lib.hid (fun k k' n n' A A' m m' cap cap' W => mk_app k k' n n' A A' m m' cap cap' W)
  have C2 := Lib.hid (fun kk k k' n n' A A' m m' cap cap' W => mk_two kk k k' n n' A A' m m' cap cap' W)
  clear hx hy e1 e2 aw hn hm hS
  unfold termV at E1 E2 ⊢
  cases x with
  | false =>
    go_enter Tryd.func5, Tryd.ntmps5
    go_wp2_with fail
    refine (E1.out _ (HW2.out _ _)).mono ?_
    rintro e w1 ⟨rfl, hb1⟩
    have hz1 := hb1.size
    simp at hz1
    have HB1 := Lib.hid ((HW2.out _ _).trans (hb1.mono (by simp; omega)))
    have Xx1 := Lib.hid (show TBox w1 (w.heap.size) t.k t.n (.slice A t.l.length cap) from TBox.of (((Bk.new w 24 #[.int .i64 t.k, .int .i64 t.n, .slice A t.l.length cap]).alloc _).below hb1 (by simp; omega)))
    obtain ⟨x0, x1, x2, xl⟩ := Xx1.out
    have Xy1 := Lib.hid (show TBox w1 (w.heap.size + 1) u.k u.n (.slice B u.l.length cap2) from TBox.of ((Bk.last (w.alloc (.cells #[.int .i64 t.k, .int .i64 t.n, .slice A t.l.length cap] 24)) 24 #[.int .i64 u.k, .int .i64 u.n, .slice B u.l.length cap2] (by simp)).below hb1 (by simp)))
    obtain ⟨y0, y1, y2, yl⟩ := Xy1.out
    clear hb1
    go_wp2_with fail
    refine (AW.out _ HB1.out).mono ?_
    rintro e w2 ⟨rfl, hb2⟩
    have hz2 := hb2.size
    have HB2 := Lib.hid (HB1.out.trans (hb2.mono HB1.out.size))
    have Xx2 := Lib.hid (Xx1.out.kept hb2 xl)
    clear x0 x1 x2 xl
    obtain ⟨x0, x1, x2, xl⟩ := Xx2.out
    have Xy2 := Lib.hid (Xy1.out.kept hb2 yl)
    clear y0 y1 y2 yl
    obtain ⟨y0, y1, y2, yl⟩ := Xy2.out
    clear hb2
    go_wp2_with fail
    go_ret
    exact ⟨rfl, HB2.out⟩
  | true =>
    go_enter Tryd.func5, Tryd.ntmps5
    go_wp2_with fail
    refine (E1.out _ (HW2.out _ _)).mono ?_
    rintro e w1 ⟨rfl, hb1⟩
    have hz1 := hb1.size
    simp at hz1
    have HB1 := Lib.hid ((HW2.out _ _).trans (hb1.mono (by simp; omega)))
    have Xx1 := Lib.hid (show TBox w1 (w.heap.size) t.k t.n (.slice A t.l.length cap) from TBox.of (((Bk.new w 24 #[.int .i64 t.k, .int .i64 t.n, .slice A t.l.length cap]).alloc _).below hb1 (by simp; omega)))
    obtain ⟨x0, x1, x2, xl⟩ := Xx1.out
    have Xy1 := Lib.hid (show TBox w1 (w.heap.size + 1) u.k u.n (.slice B u.l.length cap2) from TBox.of ((Bk.last (w.alloc (.cells #[.int .i64 t.k, .int .i64 t.n, .slice A t.l.length cap] 24)) 24 #[.int .i64 u.k, .int .i64 u.n, .slice B u.l.length cap2] (by simp)).below hb1 (by simp)))
    obtain ⟨y0, y1, y2, yl⟩ := Xy1.out
    clear hb1
    go_wp2_with fail
    cases y with
    | false =>
      refine (E2.out _ HB1.out).mono ?_
      rintro e w2 ⟨rfl, hb2⟩
      have hz2 := hb2.size
      have HB2 := Lib.hid (HB1.out.trans (hb2.mono HB1.out.size))
      have Xx2 := Lib.hid (Xx1.out.kept hb2 xl)
      clear x0 x1 x2 xl
      obtain ⟨x0, x1, x2, xl⟩ := Xx2.out
      have Xy2 := Lib.hid (Xy1.out.kept hb2 yl)
      clear y0 y1 y2 yl
      obtain ⟨y0, y1, y2, yl⟩ := Xy2.out
      clear hb2
      go_wp2_with fail
      refine (AW.out _ HB2.out).mono ?_
      rintro e w3 ⟨rfl, hb3⟩
      have hz3 := hb3.size
      have HB3 := Lib.hid (HB2.out.trans (hb3.mono HB2.out.size))
      have Xx3 := Lib.hid (Xx2.out.kept hb3 xl)
      clear x0 x1 x2 xl
      obtain ⟨x0, x1, x2, xl⟩ := Xx3.out
      have Xy3 := Lib.hid (Xy2.out.kept hb3 yl)
      clear y0 y1 y2 yl
      obtain ⟨y0, y1, y2, yl⟩ := Xy3.out
      clear hb3
      go_wp2_with fail
      go_ret
      exact ⟨rfl, HB3.out⟩
    | true =>
      refine (E2.out _ HB1.out).mono ?_
      rintro e w2 ⟨rfl, hb2⟩
      have hz2 := hb2.size
      have HB2 := Lib.hid (HB1.out.trans (hb2.mono HB1.out.size))
      have Xx2 := Lib.hid (Xx1.out.kept hb2 xl)
      clear x0 x1 x2 xl
      obtain ⟨x0, x1, x2, xl⟩ := Xx2.out
      have Xy2 := Lib.hid (Xy1.out.kept hb2 yl)
      clear y0 y1 y2 yl
      obtain ⟨y0, y1, y2, yl⟩ := Xy2.out
      clear hb2
      skip
      have HK6 := Lib.hid (fun (V : World) (hV : Below w2.heap.size w2 V) => (show V.cell? ⟨w.heap.size, 0, none⟩ = some (.int .i64 t.k) ∧ V.cell? ⟨w.heap.size, 1, none⟩ = some (.int .i64 t.n) ∧ V.cell? ⟨w.heap.size, 2, none⟩ = some (.slice A t.l.length cap) ∧ V.cell? ⟨w.heap.size + 1, 0, none⟩ = some (.int .i64 u.k) ∧ V.cell? ⟨w.heap.size + 1, 1, none⟩ = some (.int .i64 u.n) ∧ V.cell? ⟨w.heap.size + 1, 2, none⟩ = some (.slice B u.l.length cap2) from ⟨(Xx2.out.kept hV xl).c0, (Xx2.out.kept hV xl).c1, (Xx2.out.kept hV xl).c2, (Xy2.out.kept hV yl).c0, (Xy2.out.kept hV yl).c1, (Xy2.out.kept hV yl).c2⟩))
      have HBW := Lib.hid (fun (V : World) (hV : Below w2.heap.size w2 V) => HB2.out.trans (hV.mono HB2.out.size))
      have HMK := Lib.hid (fun (V V' : World) (g : Nat) (k : Int) (hg : V.heap.size ≤ g) (hb : Bk V' g 24 #[.int .i64 t.k, .int .i64 t.n, .slice A t.l.length cap, .int .i64 u.k, .int .i64 u.n, .slice B u.l.length cap2]) (hb2 : Below V.heap.size V V') (hV : Below w2.heap.size w2 V) => (show TwoAt V' k t u (some ⟨g, 0, none⟩) from by
        have hw := (HBW.out V hV).trans (hb2.mono (HBW.out V hV).size)
        exact two_in ((HT.out V' hw).wide (Nat.le_refl _) hw.size) ((HU.out V' hw).wide (Nat.le_refl _) hw.size) hb ⟨Nat.zero_le _, hb.lt⟩ k 0))
      have hbk := Lib.hid ((Below.refl w2.heap.size w2).drew)
      go_upto_region 3 with fail
      go_cut [7] from 21 to 30 (fun s7 wx => ∃ gl A1 A2 A3, s7 = .slice (some ⟨gl, 0, none⟩) 3 3 ∧ Below w2.heap.size w2 wx ∧ Bk wx gl 24 #[.int .i64 3, .int .i64 0, .slice A1 2 2, .int .i64 4, .int .i64 0, .slice A2 2 2, .int .i64 5, .int .i64 0, .slice A3 2 2] ∧ TwoAt wx 3 t u A1 ∧ TwoAt wx 4 t u A2 ∧ TwoAt wx 5 t u A3)
      case first =>
        go_region_held3 (fun w' => w'.cell? ⟨w.heap.size, 0, none⟩ = some (.int .i64 t.k) ∧ w'.cell? ⟨w.heap.size, 1, none⟩ = some (.int .i64 t.n) ∧ w'.cell? ⟨w.heap.size, 2, none⟩ = some (.slice A t.l.length cap) ∧ w'.cell? ⟨w.heap.size + 1, 0, none⟩ = some (.int .i64 u.k) ∧ w'.cell? ⟨w.heap.size + 1, 1, none⟩ = some (.int .i64 u.n) ∧ w'.cell? ⟨w.heap.size + 1, 2, none⟩ = some (.slice B u.l.length cap2))
          (first | go_keep | exact HK6.out _ hbk.out)
          (first
           | (go_at_call 22
              refine (CP.out _ _ _ _ _ _ _ _ _ _ _).mono ?_
              rintro e whpi ⟨ghpi, rfl, hgn, bn, hbn⟩
              have hpi := Lib.hid (HMK.out _ _ _ 3 hgn bn hbn hbk.out)
              have hbk := Lib.hid (hbk.out.trans (hbn.mono hbk.out.size))
              (try have hla := Lib.hid (hla.out.over hbn)); (try have hap := Lib.hid (hap.out.over hbn))
              clear hgn bn hbn)
           | (go_at_call 23
              refine (CL.out _ _ _ _ _ _ _ _ _ _ _).mono ?_
              rintro e whla ⟨ghla, rfl, hgn, bn, hbn⟩
              have hla := Lib.hid (HMK.out _ _ _ 4 hgn bn hbn hbk.out)
              have hbk := Lib.hid (hbk.out.trans (hbn.mono hbk.out.size))
              (try have hpi := Lib.hid (hpi.out.over hbn)); (try have hap := Lib.hid (hap.out.over hbn))
              clear hgn bn hbn)
           | (go_at_call 24
              refine (CA.out _ _ _ _ _ _ _ _ _ _ _).mono ?_
              rintro e whap ⟨ghap, rfl, hgn, bn, hbn⟩
              have hap := Lib.hid (HMK.out _ _ _ 5 hgn bn hbn hbk.out)
              have hbk := Lib.hid (hbk.out.trans (hbn.mono hbk.out.size))
              (try have hpi := Lib.hid (hpi.out.over hbn)); (try have hla := Lib.hid (hla.out.over hbn))
              clear hgn bn hbn))
        all_goals
          go_wp2_with fail
          go_meet
          case rel =>
            have hal := fun (V : World) (o : Obj) => (Below.refl V.heap.size V).alloc (Nat.le_refl _) o
            exact ⟨_, _, _, _, rfl, hbk.out.alloc hbk.out.size _, Bk.new _ _ _, hpi.out.over (hal _ _), hla.out.over (hal _ _), hap.out.over (hal _ _)⟩
      case rest =>
      obtain ⟨gl, A1, A2, A3, rfl, hb3, bk3, tp1, tp2, tp3⟩ := hcut
      have HB3 := Lib.hid hb3
      have HBK3 := Lib.hid bk3
      have TP1 := Lib.hid tp1
      have TP2 := Lib.hid tp2
      have TP3 := Lib.hid tp3
      clear hb3 bk3 tp1 tp2 tp3 x0 x1 x2 xl y0 y1 y2 yl hbk
      have HEQ := Lib.hid (fun (V : World) (k : Int) (A A' : Option Addr) (h1 : TwoAt V k t u A) (h2 : TwoAt V k t u A') => (show Calls Tryd.prog 20 #[.agg #[.int .i64 k, .int .i64 0, .slice A 2 2], .agg #[.int .i64 k, .int .i64 0, .slice A' 2 2]] V fun e w' => e = .returned (.bool true) ∧ Below V.heap.size V w' from by
        have h := refEqual_any (.node k 0 [t, u]) (.node k 0 [t, u]) 0 V.heap.size 0 V.heap.size A A' 2 2 V h1 h2 (Nat.le_refl _) (Nat.le_refl _)
        rw [alikeT_refl] at h
        exact h))
      have CV := Lib.hid (fun n W => mk_var n W)
      have CS := Lib.hid (fun n W => mk_sort n W)
      have CC := Lib.hid (fun n W => mk_const n W)
      have CF := Lib.hid (fun n W => mk_free n W)
      have CE := Lib.hid (fun n m W => mk_elim n m W)
      have CLF := Lib.hid (fun k n W => mk_leaf k n W)
      have CN := Lib.hid (fun k n A m cap W => mk_node k n A m cap W)
      have HEL := Lib.hid (fun (V : World) (k : Int) => (show Calls Tryd.prog 20 #[.agg #[.int .i64 k, .int .i64 n, .slice none 0 0], .agg #[.int .i64 k, .int .i64 n, .slice none 0 0]] V fun e w' => e = .returned (.bool true) ∧ Below V.heap.size V w' from by
        have h := refEqual_any (.node k n []) (.node k n []) 0 V.heap.size 0 V.heap.size none none 0 0 V (leaf_in _ _ _ _) (leaf_in _ _ _ _) (Nat.le_refl _) (Nat.le_refl _)
        rw [alikeT_refl] at h
        exact h))
      go_wp2_with fail
      go_loopw [8] (fun iv wr => ∃ i : Nat, i ≤ 3 ∧ iv = .int .i64 i ∧ Below wc.heap.size wc wr) (fun iv _ => 3 - (intOf iv).toNat)
      case atStart => exact ⟨0, by omega, rfl, Below.refl _ _⟩
      case round =>
        obtain ⟨i, hi3, rfl, hBr⟩ := hrel
        have HBr := Lib.hid hBr
        have HB2r := Lib.hid (HB3.out.trans (hBr.mono HB3.out.size))
        have hKR := HK6.out _ HB2r.out
        have HKR := Lib.hid (fun (V : World) (hV : Below wr.heap.size wr V) => HK6.out _ (HB2r.out.trans (hV.mono HB2r.out.size)))
        have HBRV := Lib.hid (fun (V : World) (hV : Below wr.heap.size wr V) => HB2r.out.trans (hV.mono HB2r.out.size))
        have HBCV := Lib.hid (fun (V : World) (hV : Below wr.heap.size wr V) => HBr.out.trans (hV.mono HBr.out.size))
        have hgl := HBK3.out.lt
        have bkr := HBK3.out.below hBr hgl
        have hxl := Nat.lt_of_lt_of_le (Nat.lt_of_lt_of_le Xx2.out.lt HB3.out.size) hBr.size
        have hyl := Nat.lt_of_lt_of_le (Nat.lt_of_lt_of_le Xy2.out.lt HB3.out.size) hBr.size
        have hgl' := Nat.lt_of_lt_of_le hgl hBr.size
        obtain ⟨x0, x1, x2, y0, y1, y2⟩ := hKR
        clear hBr
        have hcase : i = 0 ∨ i = 1 ∨ i = 2 ∨ i = 3 := by omega
        rcases hcase with rfl | rfl | rfl | rfl
        · have l0 : wr.cell? ⟨gl, 0, none⟩ = some (.int .i64 3) := bkr.cell 0
          have l1 : wr.cell? ⟨gl, 1, none⟩ = some (.int .i64 0) := bkr.cell 1
          have l2 : wr.cell? ⟨gl, 2, none⟩ = some (.slice A1 2 2) := bkr.cell 2
          have HK9 := Lib.hid (fun (V : World) (hV : Below wr.heap.size wr V) => (show V.cell? ⟨w.heap.size, 0, none⟩ = some (.int .i64 t.k) ∧ V.cell? ⟨w.heap.size, 1, none⟩ = some (.int .i64 t.n) ∧ V.cell? ⟨w.heap.size, 2, none⟩ = some (.slice A t.l.length cap) ∧ V.cell? ⟨w.heap.size + 1, 0, none⟩ = some (.int .i64 u.k) ∧ V.cell? ⟨w.heap.size + 1, 1, none⟩ = some (.int .i64 u.n) ∧ V.cell? ⟨w.heap.size + 1, 2, none⟩ = some (.slice B u.l.length cap2) ∧ V.cell? ⟨gl, 0, none⟩ = some (.int .i64 3) ∧ V.cell? ⟨gl, 1, none⟩ = some (.int .i64 0) ∧ V.cell? ⟨gl, 2, none⟩ = some (.slice A1 2 2) from
            ⟨(HKR.out V hV).1, (HKR.out V hV).2.1, (HKR.out V hV).2.2.1, (HKR.out V hV).2.2.2.1, (HKR.out V hV).2.2.2.2.1, (HKR.out V hV).2.2.2.2.2, (bkr.below hV hgl').cell 0, (bkr.below hV hgl').cell 1, (bkr.below hV hgl').cell 2⟩))
          have hbr := Lib.hid ((Below.refl wr.heap.size wr).drew)
          clear bkr
          go_wp2_with fail
          go_region_held3 (fun w' => w'.cell? ⟨w.heap.size, 0, none⟩ = some (.int .i64 t.k) ∧ w'.cell? ⟨w.heap.size, 1, none⟩ = some (.int .i64 t.n) ∧ w'.cell? ⟨w.heap.size, 2, none⟩ = some (.slice A t.l.length cap) ∧ w'.cell? ⟨w.heap.size + 1, 0, none⟩ = some (.int .i64 u.k) ∧ w'.cell? ⟨w.heap.size + 1, 1, none⟩ = some (.int .i64 u.n) ∧ w'.cell? ⟨w.heap.size + 1, 2, none⟩ = some (.slice B u.l.length cap2) ∧ w'.cell? ⟨gl, 0, none⟩ = some (.int .i64 3) ∧ w'.cell? ⟨gl, 1, none⟩ = some (.int .i64 0) ∧ w'.cell? ⟨gl, 2, none⟩ = some (.slice A1 2 2))
            (first | go_keep | exact HK9.out _ hbr.out)
            (first
             | (go_at_call 25
                refine (C2.out _ _ _ _ _ _ _ _ _ _ _ _).mono ?_
                rintro e wn ⟨gn, rfl, hgn, bn, hbn⟩
                have hnew := Lib.hid (HMK.out _ _ _ 3 hgn bn hbn (HBRV.out _ hbr.out))
                have hbr := Lib.hid (hbr.out.trans (hbn.mono hbr.out.size))
                have htp := Lib.hid (TP1.out.over (HBCV.out _ hbr.out))
                clear hgn bn hbn)
             | (go_at_call 20
                refine (HEQ.out _ 3 _ _ htp.out hnew.out).mono ?_
                rintro e wn2 ⟨rfl, hbn⟩
                have hbr := Lib.hid (hbr.out.trans (hbn.mono hbr.out.size))
                clear hbn))
          all_goals
            go_wp2_with fail
            go_roundw
            case rel => exact ⟨1, by omega, rfl, HBCV.out _ hbr.out⟩
            case measure => simp [intOf]
        · have l0 : wr.cell? ⟨gl, 3, none⟩ = some (.int .i64 4) := bkr.cell 3
          have l1 : wr.cell? ⟨gl, 4, none⟩ = some (.int .i64 0) := bkr.cell 4
          have l2 : wr.cell? ⟨gl, 5, none⟩ = some (.slice A2 2 2) := bkr.cell 5
          have HK9 := Lib.hid (fun (V : World) (hV : Below wr.heap.size wr V) => (show V.cell? ⟨w.heap.size, 0, none⟩ = some (.int .i64 t.k) ∧ V.cell? ⟨w.heap.size, 1, none⟩ = some (.int .i64 t.n) ∧ V.cell? ⟨w.heap.size, 2, none⟩ = some (.slice A t.l.length cap) ∧ V.cell? ⟨w.heap.size + 1, 0, none⟩ = some (.int .i64 u.k) ∧ V.cell? ⟨w.heap.size + 1, 1, none⟩ = some (.int .i64 u.n) ∧ V.cell? ⟨w.heap.size + 1, 2, none⟩ = some (.slice B u.l.length cap2) ∧ V.cell? ⟨gl, 3, none⟩ = some (.int .i64 4) ∧ V.cell? ⟨gl, 4, none⟩ = some (.int .i64 0) ∧ V.cell? ⟨gl, 5, none⟩ = some (.slice A2 2 2) from
            ⟨(HKR.out V hV).1, (HKR.out V hV).2.1, (HKR.out V hV).2.2.1, (HKR.out V hV).2.2.2.1, (HKR.out V hV).2.2.2.2.1, (HKR.out V hV).2.2.2.2.2, (bkr.below hV hgl').cell 3, (bkr.below hV hgl').cell 4, (bkr.below hV hgl').cell 5⟩))
          have hbr := Lib.hid ((Below.refl wr.heap.size wr).drew)
          clear bkr
          go_wp2_with fail
          go_region_held3 (fun w' => w'.cell? ⟨w.heap.size, 0, none⟩ = some (.int .i64 t.k) ∧ w'.cell? ⟨w.heap.size, 1, none⟩ = some (.int .i64 t.n) ∧ w'.cell? ⟨w.heap.size, 2, none⟩ = some (.slice A t.l.length cap) ∧ w'.cell? ⟨w.heap.size + 1, 0, none⟩ = some (.int .i64 u.k) ∧ w'.cell? ⟨w.heap.size + 1, 1, none⟩ = some (.int .i64 u.n) ∧ w'.cell? ⟨w.heap.size + 1, 2, none⟩ = some (.slice B u.l.length cap2) ∧ w'.cell? ⟨gl, 3, none⟩ = some (.int .i64 4) ∧ w'.cell? ⟨gl, 4, none⟩ = some (.int .i64 0) ∧ w'.cell? ⟨gl, 5, none⟩ = some (.slice A2 2 2))
            (first | go_keep | exact HK9.out _ hbr.out)
            (first
             | (go_at_call 25
                refine (C2.out _ _ _ _ _ _ _ _ _ _ _ _).mono ?_
                rintro e wn ⟨gn, rfl, hgn, bn, hbn⟩
                have hnew := Lib.hid (HMK.out _ _ _ 4 hgn bn hbn (HBRV.out _ hbr.out))
                have hbr := Lib.hid (hbr.out.trans (hbn.mono hbr.out.size))
                have htp := Lib.hid (TP2.out.over (HBCV.out _ hbr.out))
                clear hgn bn hbn)
             | (go_at_call 20
                refine (HEQ.out _ 4 _ _ htp.out hnew.out).mono ?_
                rintro e wn2 ⟨rfl, hbn⟩
                have hbr := Lib.hid (hbr.out.trans (hbn.mono hbr.out.size))
                clear hbn))
          all_goals
            go_wp2_with fail
            go_roundw
            case rel => exact ⟨2, by omega, rfl, HBCV.out _ hbr.out⟩
            case measure => simp [intOf]
        · have l0 : wr.cell? ⟨gl, 6, none⟩ = some (.int .i64 5) := bkr.cell 6
          have l1 : wr.cell? ⟨gl, 7, none⟩ = some (.int .i64 0) := bkr.cell 7
          have l2 : wr.cell? ⟨gl, 8, none⟩ = some (.slice A3 2 2) := bkr.cell 8
          have HK9 := Lib.hid (fun (V : World) (hV : Below wr.heap.size wr V) => (show V.cell? ⟨w.heap.size, 0, none⟩ = some (.int .i64 t.k) ∧ V.cell? ⟨w.heap.size, 1, none⟩ = some (.int .i64 t.n) ∧ V.cell? ⟨w.heap.size, 2, none⟩ = some (.slice A t.l.length cap) ∧ V.cell? ⟨w.heap.size + 1, 0, none⟩ = some (.int .i64 u.k) ∧ V.cell? ⟨w.heap.size + 1, 1, none⟩ = some (.int .i64 u.n) ∧ V.cell? ⟨w.heap.size + 1, 2, none⟩ = some (.slice B u.l.length cap2) ∧ V.cell? ⟨gl, 6, none⟩ = some (.int .i64 5) ∧ V.cell? ⟨gl, 7, none⟩ = some (.int .i64 0) ∧ V.cell? ⟨gl, 8, none⟩ = some (.slice A3 2 2) from
            ⟨(HKR.out V hV).1, (HKR.out V hV).2.1, (HKR.out V hV).2.2.1, (HKR.out V hV).2.2.2.1, (HKR.out V hV).2.2.2.2.1, (HKR.out V hV).2.2.2.2.2, (bkr.below hV hgl').cell 6, (bkr.below hV hgl').cell 7, (bkr.below hV hgl').cell 8⟩))
          have hbr := Lib.hid ((Below.refl wr.heap.size wr).drew)
          clear bkr
          go_wp2_with fail
          go_region_held3 (fun w' => w'.cell? ⟨w.heap.size, 0, none⟩ = some (.int .i64 t.k) ∧ w'.cell? ⟨w.heap.size, 1, none⟩ = some (.int .i64 t.n) ∧ w'.cell? ⟨w.heap.size, 2, none⟩ = some (.slice A t.l.length cap) ∧ w'.cell? ⟨w.heap.size + 1, 0, none⟩ = some (.int .i64 u.k) ∧ w'.cell? ⟨w.heap.size + 1, 1, none⟩ = some (.int .i64 u.n) ∧ w'.cell? ⟨w.heap.size + 1, 2, none⟩ = some (.slice B u.l.length cap2) ∧ w'.cell? ⟨gl, 6, none⟩ = some (.int .i64 5) ∧ w'.cell? ⟨gl, 7, none⟩ = some (.int .i64 0) ∧ w'.cell? ⟨gl, 8, none⟩ = some (.slice A3 2 2))
            (first | go_keep | exact HK9.out _ hbr.out)
            (first
             | (go_at_call 25
                refine (C2.out _ _ _ _ _ _ _ _ _ _ _ _).mono ?_
                rintro e wn ⟨gn, rfl, hgn, bn, hbn⟩
                have hnew := Lib.hid (HMK.out _ _ _ 5 hgn bn hbn (HBRV.out _ hbr.out))
                have hbr := Lib.hid (hbr.out.trans (hbn.mono hbr.out.size))
                have htp := Lib.hid (TP3.out.over (HBCV.out _ hbr.out))
                clear hgn bn hbn)
             | (go_at_call 20
                refine (HEQ.out _ 5 _ _ htp.out hnew.out).mono ?_
                rintro e wn2 ⟨rfl, hbn⟩
                have hbr := Lib.hid (hbr.out.trans (hbn.mono hbr.out.size))
                clear hbn))
          all_goals
            go_wp2_with fail
            go_roundw
            case rel => exact ⟨3, by omega, rfl, HBCV.out _ hbr.out⟩
            case measure => simp [intOf]
        · clear x0 x1 x2 y0 y1 y2 bkr
          go_wp2_with fail
          refine (CV.out _ _).mono ?_
          rintro e w' ⟨rfl, rfl⟩
          go_wp2_with fail
          refine (CS.out _ _).mono ?_
          rintro e w' ⟨rfl, rfl⟩
          go_wp2_with fail
          refine (CC.out _ _).mono ?_
          rintro e w' ⟨rfl, rfl⟩
          go_wp2_with fail
          refine (CF.out _ _).mono ?_
          rintro e w' ⟨rfl, rfl⟩
          go_wp2_with fail
          go_loopw [11] (fun iv wz => ∃ i : Nat, i ≤ 4 ∧ iv = .int .i64 i ∧ Below wr.heap.size wr wz ∧ Bk wz (wr.heap.size + 1 + 1 + 1 + 1) 24 #[.int .i64 1, .int .i64 n, .slice none 0 0, .int .i64 2, .int .i64 n, .slice none 0 0, .int .i64 6, .int .i64 n, .slice none 0 0, .int .i64 8, .int .i64 n, .slice none 0 0] ∧ Bk wz (wr.heap.size + 1 + 1 + 1 + 1 + 1) 3 #[.int .i64 1, .int .i64 2, .int .i64 6, .int .i64 8]) (fun iv _ => 4 - (intOf iv).toNat)
          case atStart =>
            refine ⟨0, by omega, rfl, ?_, (Bk.last _ _ _ (by simp)).alloc _, Bk.last _ _ _ (by simp)⟩
            exact ((((((Below.refl _ _).alloc (Nat.le_refl _) _).alloc (by simp) _).alloc (by simp; omega) _).alloc (by simp; omega) _).alloc (by simp; omega) _).alloc (by simp; omega) _
          case round =>
          rename World => wz
          obtain ⟨i, hi4, rfl, hBz, bm, bk⟩ := hrel
          have HBZ := Lib.hid hBz
          have hgm := bm.lt
          have hgk := bk.lt
          have hcase : i = 0 ∨ i = 1 ∨ i = 2 ∨ i = 3 ∨ i = 4 := by omega
          rcases hcase with rfl | rfl | rfl | rfl | rfl
          · have l0 : wz.cell? ⟨wr.heap.size + 1 + 1 + 1 + 1, 0, none⟩ = some (.int .i64 1) := bm.cell 0
            have l1 : wz.cell? ⟨wr.heap.size + 1 + 1 + 1 + 1, 1, none⟩ = some (.int .i64 n) := bm.cell 1
            have l2 : wz.cell? ⟨wr.heap.size + 1 + 1 + 1 + 1, 2, none⟩ = some (.slice none 0 0) := bm.cell 2
            have l3 : wz.cell? ⟨wr.heap.size + 1 + 1 + 1 + 1 + 1, 0, none⟩ = some (.int .i64 1) := bk.cell 0
            have HK9 := Lib.hid (fun (V : World) (hV : Below wz.heap.size wz V) => (show V.cell? ⟨wr.heap.size + 1 + 1 + 1 + 1, 0, none⟩ = some (.int .i64 1) ∧ V.cell? ⟨wr.heap.size + 1 + 1 + 1 + 1, 1, none⟩ = some (.int .i64 n) ∧ V.cell? ⟨wr.heap.size + 1 + 1 + 1 + 1, 2, none⟩ = some (.slice none 0 0) ∧ V.cell? ⟨wr.heap.size + 1 + 1 + 1 + 1 + 1, 0, none⟩ = some (.int .i64 1) from
              ⟨(bm.below hV hgm).cell 0, (bm.below hV hgm).cell 1, (bm.below hV hgm).cell 2, (bk.below hV hgk).cell 0⟩))
            have hbr := Lib.hid ((Below.refl wz.heap.size wz).drew)
            have HBM := Lib.hid bm
            have HBKK := Lib.hid bk
            clear bm bk
            go_wp2_with fail
            go_region_held3 (fun w' => w'.cell? ⟨wr.heap.size + 1 + 1 + 1 + 1, 0, none⟩ = some (.int .i64 1) ∧ w'.cell? ⟨wr.heap.size + 1 + 1 + 1 + 1, 1, none⟩ = some (.int .i64 n) ∧ w'.cell? ⟨wr.heap.size + 1 + 1 + 1 + 1, 2, none⟩ = some (.slice none 0 0) ∧ w'.cell? ⟨wr.heap.size + 1 + 1 + 1 + 1 + 1, 0, none⟩ = some (.int .i64 1))
              (first | go_keep | exact HK9.out _ hbr.out)
              (first
               | (go_at_call 30
                  refine (CLF.out _ _ _).mono ?_
                  rintro e wn ⟨rfl, rfl⟩
                  have hbr := Lib.hid (hbr.out.alloc hbr.out.size (.cells #[.int .i64 1, .int .i64 n, .slice none 0 0] 24)))
               | (go_at_call 20
                  refine (HEL.out _ 1).mono ?_
                  rintro e wn2 ⟨rfl, hbn⟩
                  have hbr := Lib.hid (hbr.out.trans (hbn.mono hbr.out.size))
                  clear hbn))
            all_goals
              go_wp2_with fail
              go_roundw
              case rel => exact ⟨1, by omega, rfl, HBZ.out.trans (hbr.out.mono HBZ.out.size), HBM.out.below hbr.out hgm, HBKK.out.below hbr.out hgk⟩
              case measure => simp [intOf]
          · have l0 : wz.cell? ⟨wr.heap.size + 1 + 1 + 1 + 1, 3, none⟩ = some (.int .i64 2) := bm.cell 3
            have l1 : wz.cell? ⟨wr.heap.size + 1 + 1 + 1 + 1, 4, none⟩ = some (.int .i64 n) := bm.cell 4
            have l2 : wz.cell? ⟨wr.heap.size + 1 + 1 + 1 + 1, 5, none⟩ = some (.slice none 0 0) := bm.cell 5
            have l3 : wz.cell? ⟨wr.heap.size + 1 + 1 + 1 + 1 + 1, 1, none⟩ = some (.int .i64 2) := bk.cell 1
            have HK9 := Lib.hid (fun (V : World) (hV : Below wz.heap.size wz V) => (show V.cell? ⟨wr.heap.size + 1 + 1 + 1 + 1, 3, none⟩ = some (.int .i64 2) ∧ V.cell? ⟨wr.heap.size + 1 + 1 + 1 + 1, 4, none⟩ = some (.int .i64 n) ∧ V.cell? ⟨wr.heap.size + 1 + 1 + 1 + 1, 5, none⟩ = some (.slice none 0 0) ∧ V.cell? ⟨wr.heap.size + 1 + 1 + 1 + 1 + 1, 1, none⟩ = some (.int .i64 2) from
              ⟨(bm.below hV hgm).cell 3, (bm.below hV hgm).cell 4, (bm.below hV hgm).cell 5, (bk.below hV hgk).cell 1⟩))
            have hbr := Lib.hid ((Below.refl wz.heap.size wz).drew)
            have HBM := Lib.hid bm
            have HBKK := Lib.hid bk
            clear bm bk
            go_wp2_with fail
            go_region_held3 (fun w' => w'.cell? ⟨wr.heap.size + 1 + 1 + 1 + 1, 3, none⟩ = some (.int .i64 2) ∧ w'.cell? ⟨wr.heap.size + 1 + 1 + 1 + 1, 4, none⟩ = some (.int .i64 n) ∧ w'.cell? ⟨wr.heap.size + 1 + 1 + 1 + 1, 5, none⟩ = some (.slice none 0 0) ∧ w'.cell? ⟨wr.heap.size + 1 + 1 + 1 + 1 + 1, 1, none⟩ = some (.int .i64 2))
              (first | go_keep | exact HK9.out _ hbr.out)
              (first
               | (go_at_call 30
                  refine (CLF.out _ _ _).mono ?_
                  rintro e wn ⟨rfl, rfl⟩
                  have hbr := Lib.hid (hbr.out.alloc hbr.out.size (.cells #[.int .i64 2, .int .i64 n, .slice none 0 0] 24)))
               | (go_at_call 20
                  refine (HEL.out _ 2).mono ?_
                  rintro e wn2 ⟨rfl, hbn⟩
                  have hbr := Lib.hid (hbr.out.trans (hbn.mono hbr.out.size))
                  clear hbn))
            all_goals
              go_wp2_with fail
              go_roundw
              case rel => exact ⟨2, by omega, rfl, HBZ.out.trans (hbr.out.mono HBZ.out.size), HBM.out.below hbr.out hgm, HBKK.out.below hbr.out hgk⟩
              case measure => simp [intOf]
          · have l0 : wz.cell? ⟨wr.heap.size + 1 + 1 + 1 + 1, 6, none⟩ = some (.int .i64 6) := bm.cell 6
            have l1 : wz.cell? ⟨wr.heap.size + 1 + 1 + 1 + 1, 7, none⟩ = some (.int .i64 n) := bm.cell 7
            have l2 : wz.cell? ⟨wr.heap.size + 1 + 1 + 1 + 1, 8, none⟩ = some (.slice none 0 0) := bm.cell 8
            have l3 : wz.cell? ⟨wr.heap.size + 1 + 1 + 1 + 1 + 1, 2, none⟩ = some (.int .i64 6) := bk.cell 2
            have HK9 := Lib.hid (fun (V : World) (hV : Below wz.heap.size wz V) => (show V.cell? ⟨wr.heap.size + 1 + 1 + 1 + 1, 6, none⟩ = some (.int .i64 6) ∧ V.cell? ⟨wr.heap.size + 1 + 1 + 1 + 1, 7, none⟩ = some (.int .i64 n) ∧ V.cell? ⟨wr.heap.size + 1 + 1 + 1 + 1, 8, none⟩ = some (.slice none 0 0) ∧ V.cell? ⟨wr.heap.size + 1 + 1 + 1 + 1 + 1, 2, none⟩ = some (.int .i64 6) from
              ⟨(bm.below hV hgm).cell 6, (bm.below hV hgm).cell 7, (bm.below hV hgm).cell 8, (bk.below hV hgk).cell 2⟩))
            have hbr := Lib.hid ((Below.refl wz.heap.size wz).drew)
            have HBM := Lib.hid bm
            have HBKK := Lib.hid bk
            clear bm bk
            go_wp2_with fail
            go_region_held3 (fun w' => w'.cell? ⟨wr.heap.size + 1 + 1 + 1 + 1, 6, none⟩ = some (.int .i64 6) ∧ w'.cell? ⟨wr.heap.size + 1 + 1 + 1 + 1, 7, none⟩ = some (.int .i64 n) ∧ w'.cell? ⟨wr.heap.size + 1 + 1 + 1 + 1, 8, none⟩ = some (.slice none 0 0) ∧ w'.cell? ⟨wr.heap.size + 1 + 1 + 1 + 1 + 1, 2, none⟩ = some (.int .i64 6))
              (first | go_keep | exact HK9.out _ hbr.out)
              (first
               | (go_at_call 30
                  refine (CLF.out _ _ _).mono ?_
                  rintro e wn ⟨rfl, rfl⟩
                  have hbr := Lib.hid (hbr.out.alloc hbr.out.size (.cells #[.int .i64 6, .int .i64 n, .slice none 0 0] 24)))
               | (go_at_call 20
                  refine (HEL.out _ 6).mono ?_
                  rintro e wn2 ⟨rfl, hbn⟩
                  have hbr := Lib.hid (hbr.out.trans (hbn.mono hbr.out.size))
                  clear hbn))
            all_goals
              go_wp2_with fail
              go_roundw
              case rel => exact ⟨3, by omega, rfl, HBZ.out.trans (hbr.out.mono HBZ.out.size), HBM.out.below hbr.out hgm, HBKK.out.below hbr.out hgk⟩
              case measure => simp [intOf]
          · have l0 : wz.cell? ⟨wr.heap.size + 1 + 1 + 1 + 1, 9, none⟩ = some (.int .i64 8) := bm.cell 9
            have l1 : wz.cell? ⟨wr.heap.size + 1 + 1 + 1 + 1, 10, none⟩ = some (.int .i64 n) := bm.cell 10
            have l2 : wz.cell? ⟨wr.heap.size + 1 + 1 + 1 + 1, 11, none⟩ = some (.slice none 0 0) := bm.cell 11
            have l3 : wz.cell? ⟨wr.heap.size + 1 + 1 + 1 + 1 + 1, 3, none⟩ = some (.int .i64 8) := bk.cell 3
            have HK9 := Lib.hid (fun (V : World) (hV : Below wz.heap.size wz V) => (show V.cell? ⟨wr.heap.size + 1 + 1 + 1 + 1, 9, none⟩ = some (.int .i64 8) ∧ V.cell? ⟨wr.heap.size + 1 + 1 + 1 + 1, 10, none⟩ = some (.int .i64 n) ∧ V.cell? ⟨wr.heap.size + 1 + 1 + 1 + 1, 11, none⟩ = some (.slice none 0 0) ∧ V.cell? ⟨wr.heap.size + 1 + 1 + 1 + 1 + 1, 3, none⟩ = some (.int .i64 8) from
              ⟨(bm.below hV hgm).cell 9, (bm.below hV hgm).cell 10, (bm.below hV hgm).cell 11, (bk.below hV hgk).cell 3⟩))
            have hbr := Lib.hid ((Below.refl wz.heap.size wz).drew)
            have HBM := Lib.hid bm
            have HBKK := Lib.hid bk
            clear bm bk
            go_wp2_with fail
            go_region_held3 (fun w' => w'.cell? ⟨wr.heap.size + 1 + 1 + 1 + 1, 9, none⟩ = some (.int .i64 8) ∧ w'.cell? ⟨wr.heap.size + 1 + 1 + 1 + 1, 10, none⟩ = some (.int .i64 n) ∧ w'.cell? ⟨wr.heap.size + 1 + 1 + 1 + 1, 11, none⟩ = some (.slice none 0 0) ∧ w'.cell? ⟨wr.heap.size + 1 + 1 + 1 + 1 + 1, 3, none⟩ = some (.int .i64 8))
              (first | go_keep | exact HK9.out _ hbr.out)
              (first
               | (go_at_call 30
                  refine (CLF.out _ _ _).mono ?_
                  rintro e wn ⟨rfl, rfl⟩
                  have hbr := Lib.hid (hbr.out.alloc hbr.out.size (.cells #[.int .i64 8, .int .i64 n, .slice none 0 0] 24)))
               | (go_at_call 20
                  refine (HEL.out _ 8).mono ?_
                  rintro e wn2 ⟨rfl, hbn⟩
                  have hbr := Lib.hid (hbr.out.trans (hbn.mono hbr.out.size))
                  clear hbn))
            all_goals
              go_wp2_with fail
              go_roundw
              case rel => exact ⟨4, by omega, rfl, HBZ.out.trans (hbr.out.mono HBZ.out.size), HBM.out.below hbr.out hgm, HBKK.out.below hbr.out hgk⟩
              case measure => simp [intOf]
          · clear bm bk
            have HWz := Lib.hid (HBCV.out _ HBZ.out)
            have HW0 := Lib.hid (HBW.out _ (HB3.out.trans (HWz.out.mono HB3.out.size)))
            go_wp2_with fail
            refine (CE.out _ _ _).mono ?_
            rintro e we ⟨g, rfl, hg, be, hbe⟩
            have HBE := Lib.hid be
            have HBEL := Lib.hid hbe
            have hgl2 := be.lt
            clear be hbe hg
            go_wp2_with fail
            refine (CLF.out _ _ _).mono ?_
            rintro e w' ⟨rfl, rfl⟩
            go_wp2_with fail
            refine (CN.out _ _ _ _ _ _).mono ?_
            rintro e w' ⟨rfl, rfl⟩
            have hfin : ∀ o1 o3, Calls Tryd.prog 20 #[.agg #[.int .i64 7, .int .i64 n, .slice (some ⟨g, 0, none⟩) 1 1], .agg #[.int .i64 7, .int .i64 n, .slice (some ⟨we.heap.size + 1, 0, none⟩) 1 1]] (((we.alloc o1).alloc (.cells #[.int .i64 2, .int .i64 3, .slice none 0 0] 24)).alloc o3) fun e w' => e = .returned (.bool true) ∧ Below we.heap.size we w' := by
              intro o1 o3
              have hb1 := ((((Below.refl we.heap.size we).alloc (Nat.le_refl _) o1).alloc (by simp) (.cells #[.int .i64 2, .int .i64 3, .slice none 0 0] 24)).alloc (by simp; omega) o3)
              have n1 : TermIn (((we.alloc o1).alloc (.cells #[.int .i64 2, .int .i64 3, .slice none 0 0] 24)).alloc o3) (fun b => 0 ≤ b ∧ b < (((we.alloc o1).alloc (.cells #[.int .i64 2, .int .i64 3, .slice none 0 0] 24)).alloc o3).heap.size) (.node 7 n [.node 2 3 []]) (some ⟨g, 0, none⟩) 1 :=
                one_in (leaf_in _ _ 2 3) (HBE.out.below hb1 hgl2) ⟨Nat.zero_le _, by simp; omega⟩ 7 n
              have n2 : TermIn (((we.alloc o1).alloc (.cells #[.int .i64 2, .int .i64 3, .slice none 0 0] 24)).alloc o3) (fun b => 0 ≤ b ∧ b < (((we.alloc o1).alloc (.cells #[.int .i64 2, .int .i64 3, .slice none 0 0] 24)).alloc o3).heap.size) (.node 7 n [.node 2 3 []]) (some ⟨we.heap.size + 1, 0, none⟩) 1 :=
                one_in (leaf_in _ _ 2 3) ((Bk.last (we.alloc o1) 24 #[.int .i64 2, .int .i64 3, .slice none 0 0] (by simp)).alloc o3) ⟨Nat.zero_le _, by simp⟩ 7 n
              have h := refEqual_any (.node 7 n [.node 2 3 []]) (.node 7 n [.node 2 3 []]) 0 _ 0 _ (some ⟨g, 0, none⟩) (some ⟨we.heap.size + 1, 0, none⟩) 1 1 _ n1 n2 (Nat.le_refl _) (Nat.le_refl _)
              rw [alikeT_refl] at h
              exact h.mono fun e w' hh => ⟨hh.1, hb1.trans (hh.2.mono hb1.size)⟩
            have HFIN := Lib.hid hfin
            clear hfin
            go_wp2_with fail
            refine (HFIN.out _ _).mono ?_
            rintro e wf ⟨rfl, hbf⟩
            have HBF := Lib.hid (HBEL.out.trans (hbf.mono HBEL.out.size))
            clear hbf
            go_wp2_with fail
            have HWf := Lib.hid (HW0.out.trans (HBF.out.mono HW0.out.size))
            refine (AW.out _ HWf.out).mono ?_
            rintro e wl ⟨rfl, hbl⟩
            go_wp2_with fail
            go_ret
            exact ⟨rfl, HWf.out.trans (hbl.mono HWf.out.size)⟩

end Go.Proofs.YteemfjkenmaedaaDoor
