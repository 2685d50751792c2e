/- The walk of the law SubstAlls. -/
import Derived.Test.YtcobionbgiaomaaDoorULaw0
import Derived.Test.YtcobionbgiaomaaDoorUAll
import Derived.Test.YtcobionbgiaomaaDoorURCalls
import Derived.Deep.RegionHeld3
import Derived.Deep.QuietTactic
import Derived.BigQuiet
namespace Go.Proofs.YtcobionbgiaomaaDoor
open Go.RowKit
set_option linter.unusedVariables false
set_option maxRecDepth 100000

theorem below_drewN {B : Nat} {a w : World} (h : Below B a w) (n : Nat) : Below B a (w.drewN n) := ⟨h.os, h.tape, h.output, h.size, h.block⟩
theorem okU_all (ls : List TM) : ∀ l : List TM, errU ls l = 0 → okU ls l = true
  | [], _ => rfl
  | t :: r, h => by
    by_cases h0 : (manyX t ls).2 = 0
    · rw [errU, if_pos h0] at h
      have := okU_all ls r h
      unfold okU at this ⊢
      rw [List.all_cons, decide_eq_true h0, this]; rfl
    · rw [errU, if_neg h0] at h; exact absurd h h0
def AllsRel (w w1 : World) (ls ts : List TM) (iv : Value) (wr : World) : Prop := ∃ i : Nat, i ≤ ts.length ∧ iv = .int .i64 i ∧ Below w.heap.size w wr ∧ Below w1.heap.size w1 wr ∧ okU ls (ts.take i) = true
set_option maxHeartbeats 8000000 in
theorem ualls_walk (t : List TM) (A_t : Option Addr) (c_t : Nat) (l : List TM) (A_l : Option Addr) (c_l : Nat) (w : World) (ht : IsTerms w 0 w.heap.size t A_t c_t) (zt : t.all sizedT = true) (hl : IsTerms w 0 w.heap.size l A_l c_l) (zl : l.all sizedT = true) (hS : ShapesM w) :
    Calls Tryd.prog 6 #[.slice A_t t.length c_t, .slice A_l l.length c_l] w fun e w' => e = .returned (.bool true) ∧ Below w.heap.size w w' := by
  have T_t := Lib.hid (fun (V : World) (hV : Below w.heap.size w V) => ht.kept hV (Nat.le_refl _))
  have T_l := Lib.hid (fun (V : World) (hV : Below w.heap.size w V) => hl.kept hV (Nat.le_refl _))
  have HS := Lib.hid (fun (V : World) (hV : Below w.heap.size w V) => hS.kept hV)
  have HN := Lib.hid ht.sub
  have hSS := hS
  have HTT := Lib.hid ht
  have HLL := Lib.hid hl
  clear ht hl hS zl zt
  by_cases h20 : 20 < t.length
  · have t0 : decide ((20 : Int) < (t.length : Int)) = true := decide_eq_true (by omega)
    clear h20 hSS HTT HLL
    have HB_w := Lib.hid (Below.refl w.heap.size w)
    go_enter Tryd.func6, Tryd.ntmps6
    go_wp2_with fail
    refine (awakeU_any _ (HS.out _ HB_w.out)).mono ?_
    rintro e w1 ⟨rfl, hb⟩
    have hj := Lib.hid hb
    have HB_w := Lib.hid (HB_w.out.trans (hj.out.mono HB_w.out.size))
    have HB_w1 := Lib.hid (Below.refl w1.heap.size w1)
    clear hb hj
    go_wp2_with fail
    go_ret
    exact ⟨rfl, HB_w.out⟩
  have t0 : decide ((20 : Int) < (t.length : Int)) = false := decide_eq_false (by omega)
  by_cases h21 : 20 < l.length
  · have t1 : decide ((20 : Int) < (l.length : Int)) = true := decide_eq_true (by omega)
    clear h20 h21 hSS HTT HLL
    have HB_w := Lib.hid (Below.refl w.heap.size w)
    go_enter Tryd.func6, Tryd.ntmps6
    go_wp2_with fail
    refine (awakeU_any _ (HS.out _ HB_w.out)).mono ?_
    rintro e w1 ⟨rfl, hb⟩
    have hj := Lib.hid hb
    have HB_w := Lib.hid (HB_w.out.trans (hj.out.mono HB_w.out.size))
    have HB_w1 := Lib.hid (Below.refl w1.heap.size w1)
    clear hb hj
    go_wp2_with fail
    go_ret
    exact ⟨rfl, HB_w.out⟩
  have t1 : decide ((20 : Int) < (l.length : Int)) = false := decide_eq_false (by omega)
  have HT4 := Lib.hid (show t.length ≤ 20 by omega)
  have HL4 := Lib.hid (show l.length ≤ 4000000000 by omega)
  have CAL := Lib.hid (uall_any t 0 w.heap.size A_t c_t l 0 w.heap.size A_l c_l w HTT.out (Nat.le_refl _) HLL.out (Nat.le_refl _) HL4.out hSS (by omega))
  clear h20 h21 hSS HTT HLL
  have HB_w := Lib.hid (Below.refl w.heap.size w)
  go_enter Tryd.func6, Tryd.ntmps6
  go_wp2_with fail
  refine CAL.out.mono ?_
  rintro e w1 ⟨hcase, hb⟩
  have HB_w := Lib.hid (HB_w.out.trans (hb.mono HB_w.out.size))
  have HB_w1 := Lib.hid (Below.refl w1.heap.size w1)
  have hbw1 := hb.size
  clear hb
  rcases hcase with ⟨hz, A_o, c_o, rfl, hout⟩ | ⟨hz, rfl⟩
  · have HOKA := Lib.hid (okU_all l t hz)
    have T_o := Lib.hid (fun (V : World) (hV : Below w1.heap.size w1 V) => (show IsTerm V w.heap.size w1.heap.size (.node 0 0 (mapU l t)) A_o c_o from hout.kept hV (Nat.le_refl _)))
    clear hout hz
    go_wp2_with fail
    go_loopw [7] (AllsRel w w1 l t) (fun iv _ => t.length - (intOf iv).toNat)
    case atStart => exact ⟨0, Nat.zero_le _, rfl, HB_w.out, HB_w1.out, rfl⟩
    case round =>
      obtain ⟨i, hi1, rfl, hB, hB1, hok⟩ := hrel
      have HB_w := Lib.hid hB
      have HB_w1 := Lib.hid hB1
      have HB_wr := Lib.hid (Below.refl wr.heap.size wr)
      have HOK := Lib.hid hok
      have hwz := hB.size
      clear hok
      by_cases hil : i < t.length
      · obtain ⟨gb, go, F, C, hAt, hb1', hb2', ⟨z0, z1, z2⟩, hnode⟩ := (HN.out i hil).kept hB (Nat.le_refl _)
        subst hAt
        have hi1' : (i : Int) < (t.length : Int) := by omega
        have hi0' : (0 : Int) ≤ (i : Int) := by omega
        have hi9 : (i : Int) < 100 := by have := HT4.out; omega
        have hst := okU_take l hil HOK.out
        have hfz0 : (manyX t[i] l).2 = 0 := by
          have := HOKA.out
          unfold okU at this
          rw [List.all_eq_true] at this
          simpa using this _ (List.getElem_mem hil)
        have hml : (mapU l t).length = t.length := by unfold mapU; rw [List.length_map]
        have hmi : (mapU l t)[i]'(by rw [hml]; exact hil) = (manyX t[i] l).1 := by unfold mapU; rw [List.getElem_map]
        obtain ⟨go2, oo2, F2, C2, hAo, hb3', hb4', ⟨y0, y1, y2⟩, hnode2⟩ := (T_o.out wr hB1).sub i (by rw [hml]; exact hil)
        subst hAo
        rw [hmi] at y0 y1 y2 hnode2
        have hil2 : i < (mapU l t).length := by rw [hml]; exact hil
        obtain ⟨x, f, hxf⟩ : ∃ x f, manyX t[i] l = (x, f) := ⟨_, _, rfl⟩
        rw [hxf] at hst hfz0 y0 y1 y2 hnode2
        obtain ⟨u, hu⟩ : ∃ u, t[i] = u := ⟨_, rfl⟩
        rw [hu] at z0 z1 z2 hnode hxf
        have HE := Lib.hid hxf
        have HST := Lib.hid hst
        have CM := Lib.hid ((rMany_any u 0 w.heap.size F C l 0 w.heap.size A_l c_l wr hnode hwz (T_l.out wr hB) hwz HL4.out).mono fun _ _ h => GivesT.kept h HE.out)
        unfold GivesT at CM
        simp only at hfz0 y0 y1 y2 hnode2
        subst hfz0
        have HSTT := Lib.hid (hst rfl)
        have q6 : decide ((i : Int) ≥ (t.length : Int)) = false := decide_eq_false (by omega)
        have q7 : decide (t.length ≤ i) = false := decide_eq_false (by omega)
        have HN2 := Lib.hid (fun (V : World) (hV : Below wr.heap.size wr V) => (show IsTerm V w.heap.size w1.heap.size x F2 C2 from hnode2.kept hV (by have := hB1.size; omega)))
        have hlt2 : go2 < wr.heap.size := by have := hB1.size; omega
        have HY := Lib.hid (fun (V : World) (hV : Below wr.heap.size wr V) => (show V.cell? ⟨go2, oo2 + i * 3, none⟩ = some (.int .i64 x.k) ∧ V.cell? ⟨go2, oo2 + i * 3 + 1, none⟩ = some (.int .i64 x.n) ∧ V.cell? ⟨go2, oo2 + i * 3 + 2, none⟩ = some (.slice F2 x.l.length C2) from ⟨(hV.cell (p := ⟨go2, _, none⟩) hlt2).trans y0, (hV.cell (p := ⟨go2, _, none⟩) hlt2).trans y1, (hV.cell (p := ⟨go2, _, none⟩) hlt2).trans y2⟩))
        have hlo : (i : Int) < (t.length : Int) := hi1'
        clear hst hxf hu hnode hnode2 hB hmi hml y0 y1 y2 hb3' hb4'
        go_wp2_with fail
        refine (CM.out).mono ?_
        rintro e w2 ⟨A_x, c_x, rfl, hx, hb⟩
        rw [termV]
        have hj := Lib.hid hb
        have HB_w := Lib.hid (HB_w.out.trans (hj.out.mono HB_w.out.size))
        have HB_w1 := Lib.hid (HB_w1.out.trans (hj.out.mono HB_w1.out.size))
        have HB_wr := Lib.hid (HB_wr.out.trans (hj.out.mono HB_wr.out.size))
        have HB_w2 := Lib.hid (Below.refl w2.heap.size w2)
        have T_x := Lib.hid (fun V (hV : Below w2.heap.size w2 V) => hx.kept hV (Nat.le_refl _))
        clear hx
        clear hb hj z0 z1 z2
        have hbx := (HB_wr.out.alloc HB_wr.out.size (.cells #[.int .i64 x.k, .int .i64 x.n, .slice A_x x.l.length c_x] 24))
        have HBX2 := Lib.hid (Bk.new w2 24 #[.int .i64 x.k, .int .i64 x.n, .slice A_x x.l.length c_x])
        obtain ⟨y0, y1, y2⟩ := HY.out _ hbx
        have HKK := Lib.hid (fun (V : World) (hV : Below (w2.alloc (.cells #[.int .i64 x.k, .int .i64 x.n, .slice A_x x.l.length c_x] 24)).heap.size (w2.alloc (.cells #[.int .i64 x.k, .int .i64 x.n, .slice A_x x.l.length c_x] 24)) V) => (show V.cell? ⟨go2, oo2 + i * 3, none⟩ = some (.int .i64 x.k) ∧ V.cell? ⟨go2, oo2 + i * 3 + 1, none⟩ = some (.int .i64 x.n) ∧ V.cell? ⟨go2, oo2 + i * 3 + 2, none⟩ = some (.slice F2 x.l.length C2) ∧ V.cell? ⟨w2.heap.size, 0, none⟩ = some (.int .i64 x.k) ∧ V.cell? ⟨w2.heap.size, 1, none⟩ = some (.int .i64 x.n) ∧ V.cell? ⟨w2.heap.size, 2, none⟩ = some (.slice A_x x.l.length c_x) from by
          obtain ⟨a0, a1, a2⟩ := HY.out V (hbx.trans (hV.mono hbx.size))
          have hk := HBX2.out.below hV (by simp)
          exact ⟨a0, a1, a2, hk.cell 0, hk.cell 1, hk.cell 2⟩))
        have CEQ := Lib.hid (fun (V : World) (hV : Below (w2.alloc (.cells #[.int .i64 x.k, .int .i64 x.n, .slice A_x x.l.length c_x] 24)).heap.size (w2.alloc (.cells #[.int .i64 x.k, .int .i64 x.n, .slice A_x x.l.length c_x] 24)) V) => (show Calls Tryd.prog 24 #[.agg #[.int .i64 x.k, .int .i64 x.n, .slice F2 x.l.length C2], .agg #[.int .i64 x.k, .int .i64 x.n, .slice A_x x.l.length c_x]] V fun e w' => e = .returned (.bool true) ∧ Below V.heap.size V w' from by
          have hV2 := hbx.trans (hV.mono hbx.size)
          have hVz := hV2.size
          have hV3 : Below w2.heap.size w2 V := ((Below.refl w2.heap.size w2).alloc (Nat.le_refl _) (.cells #[.int .i64 x.k, .int .i64 x.n, .slice A_x x.l.length c_x] 24)).trans (hV.mono (by simp))
          exact (refEqual_any x x _ _ _ _ F2 A_x C2 c_x V (HN2.out V hV2) (T_x.out V hV3) (by have := HB_w1.out.size; have := hV3.size; omega) hV3.size).mono fun _ _ h => ⟨h.1.trans (by rw [alikeT_refl]), h.2⟩))
        have HBXB := Lib.hid (HB_w.out.alloc HB_w.out.size (.cells #[.int .i64 x.k, .int .i64 x.n, .slice A_x x.l.length c_x] 24))
        have HBXB1 := Lib.hid (HB_w1.out.alloc HB_w1.out.size (.cells #[.int .i64 x.k, .int .i64 x.n, .slice A_x x.l.length c_x] 24))
        have hbk := Lib.hid (Below.refl (w2.alloc (.cells #[.int .i64 x.k, .int .i64 x.n, .slice A_x x.l.length c_x] 24)).heap.size (w2.alloc (.cells #[.int .i64 x.k, .int .i64 x.n, .slice A_x x.l.length c_x] 24))).drew
        clear hbx
        go_upto_region 10 with fail
        go_region_held3 (fun w' => w'.cell? ⟨go2, oo2 + i * 3, none⟩ = some (.int .i64 x.k) ∧ w'.cell? ⟨go2, oo2 + i * 3 + 1, none⟩ = some (.int .i64 x.n) ∧ w'.cell? ⟨go2, oo2 + i * 3 + 2, none⟩ = some (.slice F2 x.l.length C2) ∧ w'.cell? ⟨w2.heap.size, 0, none⟩ = some (.int .i64 x.k) ∧ w'.cell? ⟨w2.heap.size, 1, none⟩ = some (.int .i64 x.n) ∧ w'.cell? ⟨w2.heap.size, 2, none⟩ = some (.slice A_x x.l.length c_x))
          (exact HKK.out _ hbk.out)
          (first
          | (go_at_call 24; refine (CEQ.out _ hbk.out).mono ?_; rintro e w5 ⟨rfl, hbn⟩; have hbk := Lib.hid (hbk.out.trans (hbn.mono hbk.out.size)); clear hbn))
        all_goals
          have HF1 := Lib.hid (HBXB.out.trans (hbk.out.mono HBXB.out.size))
          have HF2 := Lib.hid (HBXB1.out.trans (hbk.out.mono HBXB1.out.size))
          go_wp2_with fail
          go_roundw
          case rel => exact ⟨i + 1, by omega, by go_num, HF1.out, HF2.out, HSTT.out⟩
          case measure => simp [intOf]; omega
      · obtain rfl : i = t.length := by omega
        go_wp2_with fail
        refine (awakeU_any _ (HS.out _ HB_w.out)).mono ?_
        rintro e w2 ⟨rfl, hb⟩
        have hj := Lib.hid hb
        have HB_w := Lib.hid (HB_w.out.trans (hj.out.mono HB_w.out.size))
        have HB_w1 := Lib.hid (HB_w1.out.trans (hj.out.mono HB_w1.out.size))
        have HB_wr := Lib.hid (HB_wr.out.trans (hj.out.mono HB_wr.out.size))
        have HB_w2 := Lib.hid (Below.refl w2.heap.size w2)
        clear hb hj
        go_wp2_with fail
        go_ret
        exact ⟨rfl, HB_w.out⟩
  · obtain ⟨ee, hee⟩ : ∃ ee, errU l t = ee := ⟨_, rfl⟩
    rw [hee] at hz ⊢
    have HEE := Lib.hid hee
    have HZE := Lib.hid hz
    have te : (ee == 0) = false := by simpa using hz
    clear hee hz
    go_wp2_with fail
    go_loopw [7] (AllsRel w w1 l t) (fun iv _ => t.length - (intOf iv).toNat)
    case atStart => exact ⟨0, Nat.zero_le _, rfl, HB_w.out, HB_w1.out, rfl⟩
    case round =>
      obtain ⟨i, hi1, rfl, hB, hB1, hok⟩ := hrel
      have HB_w := Lib.hid hB
      have HB_w1 := Lib.hid hB1
      have HB_wr := Lib.hid (Below.refl wr.heap.size wr)
      have HOK := Lib.hid hok
      have hwz := hB.size
      clear hok
      by_cases hil : i < t.length
      · obtain ⟨gb, go, F, C, hAt, hb1', hb2', ⟨z0, z1, z2⟩, hnode⟩ := (HN.out i hil).kept hB (Nat.le_refl _)
        subst hAt
        have hi1' : (i : Int) < (t.length : Int) := by omega
        have hi0' : (0 : Int) ≤ (i : Int) := by omega
        have hi9 : (i : Int) < 100 := by have := HT4.out; omega
        have hst := okU_take l hil HOK.out
        have her := errU_at l t i hil HOK.out
        obtain ⟨x, f, hxf⟩ : ∃ x f, manyX t[i] l = (x, f) := ⟨_, _, rfl⟩
        rw [hxf] at hst her
        obtain ⟨u, hu⟩ : ∃ u, t[i] = u := ⟨_, rfl⟩
        rw [hu] at z0 z1 z2 hnode hxf
        have HE := Lib.hid hxf
        have HST := Lib.hid hst
        have CM := Lib.hid ((rMany_any u 0 w.heap.size F C l 0 w.heap.size A_l c_l wr hnode hwz (T_l.out wr hB) hwz HL4.out).mono fun _ _ h => GivesT.kept h HE.out)
        unfold GivesT at CM
        simp only at her
        have HER := Lib.hid her
        clear hst hxf hu hnode hB her
        go_wp2_with fail
        refine (CM.out).mono ?_
        rintro e w2 ⟨A_x, c_x, rfl, hx, hb⟩
        rw [termV]
        have hj := Lib.hid hb
        have HB_w := Lib.hid (HB_w.out.trans (hj.out.mono HB_w.out.size))
        have HB_w1 := Lib.hid (HB_w1.out.trans (hj.out.mono HB_w1.out.size))
        have HB_wr := Lib.hid (HB_wr.out.trans (hj.out.mono HB_wr.out.size))
        have HB_w2 := Lib.hid (Below.refl w2.heap.size w2)
        have T_x := Lib.hid (fun V (hV : Below w2.heap.size w2 V) => hx.kept hV (Nat.le_refl _))
        clear hx
        clear hb hj z0 z1 z2
        by_cases hf0 : f = 0
        rotate_left
        · have q1 : (f != 0) = true := by simpa using hf0
          have heq : ee = f := HEE.out.symm.trans (HER.out hf0)
          subst heq
          have q2 : (ee == ee) = true := by simp
          clear hf0
          go_wp2_with fail
          refine (awakeU_any _ (HS.out _ (HB_w.out.alloc HB_w.out.size (.cells #[.int .i64 x.k, .int .i64 x.n, .slice A_x x.l.length c_x] 24)))).mono ?_
          rintro e w3 ⟨rfl, hb⟩
          have hj := Lib.hid (((Below.refl w2.heap.size w2).alloc (by simp <;> omega) (.cells #[.int .i64 x.k, .int .i64 x.n, .slice A_x x.l.length c_x] 24)).trans (hb.mono (by simp <;> omega)))
          have X_x := Lib.hid (show TBox w3 w2.heap.size x.k x.n (.slice A_x x.l.length c_x) from TBox.of ((Bk.new w2 24 #[.int .i64 x.k, .int .i64 x.n, .slice A_x x.l.length c_x]).below hb (by simp <;> omega)))
          have HB_w := Lib.hid (HB_w.out.trans (hj.out.mono HB_w.out.size))
          have HB_w1 := Lib.hid (HB_w1.out.trans (hj.out.mono HB_w1.out.size))
          have HB_wr := Lib.hid (HB_wr.out.trans (hj.out.mono HB_wr.out.size))
          have HB_w2 := Lib.hid (HB_w2.out.trans (hj.out.mono HB_w2.out.size))
          have HB_w3 := Lib.hid (Below.refl w3.heap.size w3)
          clear hb hj
          go_wp2_with fail
          go_ret
          exact ⟨rfl, HB_w.out⟩
        have q1 : (f != 0) = false := by rw [hf0]; rfl
        have HSTT := Lib.hid (HST.out hf0)
        have HBXB := Lib.hid (HB_w.out.alloc HB_w.out.size (.cells #[.int .i64 x.k, .int .i64 x.n, .slice A_x x.l.length c_x] 24))
        have HBXB1 := Lib.hid (HB_w1.out.alloc HB_w1.out.size (.cells #[.int .i64 x.k, .int .i64 x.n, .slice A_x x.l.length c_x] 24))
        clear hf0
        go_upto_region 10 with fail
        go_quiet (fail)
        all_goals
          go_wp2_with fail
          go_roundw
          case rel => exact ⟨i + 1, by omega, by go_num, below_drewN HBXB.out _, below_drewN HBXB1.out _, HSTT.out⟩
          case measure => simp [intOf]; omega
      · obtain rfl : i = t.length := by omega
        exfalso
        have h1 := HOK.out
        rw [List.take_length] at h1
        exact HZE.out (HEE.out.symm.trans (errU_ok l t h1))

end Go.Proofs.YtcobionbgiaomaaDoor
