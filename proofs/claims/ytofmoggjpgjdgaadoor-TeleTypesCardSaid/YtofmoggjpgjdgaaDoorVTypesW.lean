/- The walk of the law TeleTypes. -/
import Derived.Test.YtofmoggjpgjdgaaDoorVLaw0
import Derived.Test.YtofmoggjpgjdgaaDoorVTypes
import Derived.Test.YtofmoggjpgjdgaaDoorLSameAll
import Derived.Deep.RegionHeld3
import Derived.Deep.CutRange
import Derived.Deep.QuietTactic
import Derived.BigQuiet
namespace Go.Proofs.YtofmoggjpgjdgaaDoor
open Go.RowKit
set_option linter.unusedVariables false
set_option maxRecDepth 100000

theorem below_drewV {B : Nat} {a w : World} (h : Below B a w) (n : Nat) : Below B a (w.drewN n) := ⟨h.os, h.tape, h.output, h.size, h.block⟩
def VTypesRel (w w1 : World) (l gs : List TM) (iv : Value) (wr : World) : Prop := ∃ i : Nat, i ≤ l.length ∧ iv = .int .i64 i ∧ Below w.heap.size w wr ∧ Below w1.heap.size w1 wr ∧ okT l gs i
set_option maxHeartbeats 8000000 in
theorem vtypes_walk (l : List TM) (A_l : Option Addr) (c_l : Nat) (g : List TM) (A_g : Option Addr) (c_g : Nat) (t : TM) (A_t : Option Addr) (c_t : Nat) (w : World) (hl : IsTerms w 0 w.heap.size l A_l c_l) (hg : IsTerms w 0 w.heap.size g A_g c_g) (ht : IsTerm w 0 w.heap.size t A_t c_t) (hS : ShapesM w) :
    Calls Tryd.prog 5 #[.slice A_l l.length c_l, .slice A_g g.length c_g, termV t A_t c_t] w fun e w' => e = .returned (.bool true) ∧ Below w.heap.size w w' := by
  have T_l := Lib.hid (fun (V : World) (hV : Below w.heap.size w V) => hl.kept hV (Nat.le_refl _))
  have T_g := Lib.hid (fun (V : World) (hV : Below w.heap.size w V) => hg.kept hV (Nat.le_refl _))
  have T_t := Lib.hid (fun (V : World) (hV : Below w.heap.size w V) => ht.kept hV (Nat.le_refl _))
  have HS := Lib.hid (fun (V : World) (hV : Below w.heap.size w V) => hS.kept hV)
  obtain ⟨hlb, hlm⟩ := hl.bounds
  obtain ⟨hgb, hgm⟩ := hg.bounds
  unfold maxLen at hlm hgm
  have HN := Lib.hid hl.sub
  have HG := Lib.hid hg
  obtain ⟨a, e1, hE⟩ : ∃ a e, manyX t g.reverse = (a, e) := ⟨_, _, rfl⟩
  have HE := Lib.hid hE
  clear hl hg ht hS hE
  unfold termV
  by_cases h20 : 20 < l.length
  · have t0 : decide ((20 : Int) < (l.length : Int)) = true := decide_eq_true (by omega)
    clear h20
    have HB_w := Lib.hid (Below.refl w.heap.size w)
    go_enter Tryd.func5, Tryd.ntmps5
    go_wp2_with fail
    refine (awakeV_any _ (HS.out _ (HB_w.out.alloc HB_w.out.size (.cells #[.int .i64 t.k, .int .i64 t.n, .slice A_t t.l.length c_t] 24)))).mono ?_
    rintro e w1 ⟨rfl, hb⟩
    have hj := Lib.hid (((Below.refl w.heap.size w).alloc (by simp <;> omega) (.cells #[.int .i64 t.k, .int .i64 t.n, .slice A_t t.l.length c_t] 24)).trans (hb.mono (by simp <;> omega)))
    have X_t := Lib.hid (show TBox w1 w.heap.size t.k t.n (.slice A_t t.l.length c_t) from TBox.of ((Bk.new w 24 #[.int .i64 t.k, .int .i64 t.n, .slice A_t t.l.length c_t]).below hb (by simp <;> omega)))
    have HB_w := Lib.hid (HB_w.out.trans (hj.out.mono HB_w.out.size))
    have HB_w1 := Lib.hid (Below.refl w1.heap.size w1)
    clear hb hj
    go_wp2_with fail
    go_ret
    exact ⟨rfl, HB_w.out⟩
  have t0 : decide ((20 : Int) < (l.length : Int)) = false := decide_eq_false (by omega)
  by_cases h21 : 20 < g.length
  · have t1 : decide ((20 : Int) < (g.length : Int)) = true := decide_eq_true (by omega)
    clear h20 h21
    have HB_w := Lib.hid (Below.refl w.heap.size w)
    go_enter Tryd.func5, Tryd.ntmps5
    go_wp2_with fail
    refine (awakeV_any _ (HS.out _ (HB_w.out.alloc HB_w.out.size (.cells #[.int .i64 t.k, .int .i64 t.n, .slice A_t t.l.length c_t] 24)))).mono ?_
    rintro e w1 ⟨rfl, hb⟩
    have hj := Lib.hid (((Below.refl w.heap.size w).alloc (by simp <;> omega) (.cells #[.int .i64 t.k, .int .i64 t.n, .slice A_t t.l.length c_t] 24)).trans (hb.mono (by simp <;> omega)))
    have X_t := Lib.hid (show TBox w1 w.heap.size t.k t.n (.slice A_t t.l.length c_t) from TBox.of ((Bk.new w 24 #[.int .i64 t.k, .int .i64 t.n, .slice A_t t.l.length c_t]).below hb (by simp <;> omega)))
    have HB_w := Lib.hid (HB_w.out.trans (hj.out.mono HB_w.out.size))
    have HB_w1 := Lib.hid (Below.refl w1.heap.size w1)
    clear hb hj
    go_wp2_with fail
    go_ret
    exact ⟨rfl, HB_w.out⟩
  have t1 : decide ((20 : Int) < (g.length : Int)) = false := decide_eq_false (by omega)
  have HL20 := Lib.hid (show l.length ≤ 20 by omega)
  have HG20 := Lib.hid (show g.length ≤ 20 by omega)
  clear h20 h21
  have HB_w := Lib.hid (Below.refl w.heap.size w)
  go_enter Tryd.func5, Tryd.ntmps5
  go_wp2_with fail
  refine (((fill_any t _ _ A_t c_t g A_g c_g _ (T_t.out _ (HB_w.out.alloc HB_w.out.size (.cells #[.int .i64 t.k, .int .i64 t.n, .slice A_t t.l.length c_t] 24))) (HB_w.out.alloc HB_w.out.size (.cells #[.int .i64 t.k, .int .i64 t.n, .slice A_t t.l.length c_t] 24)).size ((T_g.out _ (HB_w.out.alloc HB_w.out.size (.cells #[.int .i64 t.k, .int .i64 t.n, .slice A_t t.l.length c_t] 24))).wide (Nat.le_refl _) (HB_w.out.alloc HB_w.out.size (.cells #[.int .i64 t.k, .int .i64 t.n, .slice A_t t.l.length c_t] 24)).size) (by have := HG20.out; omega) (HS.out _ (HB_w.out.alloc HB_w.out.size (.cells #[.int .i64 t.k, .int .i64 t.n, .slice A_t t.l.length c_t] 24)))).mono fun _ _ h => GivesL.kept (GivesT.any h) HE.out)).mono ?_
  rintro e w1 ⟨A_a, c_a, rfl, hx, hb⟩
  rw [termV]
  have hj := Lib.hid (((Below.refl w.heap.size w).alloc (by simp <;> omega) (.cells #[.int .i64 t.k, .int .i64 t.n, .slice A_t t.l.length c_t] 24)).trans (hb.mono (by simp <;> omega)))
  have X_t := Lib.hid (show TBox w1 w.heap.size t.k t.n (.slice A_t t.l.length c_t) from TBox.of ((Bk.new w 24 #[.int .i64 t.k, .int .i64 t.n, .slice A_t t.l.length c_t]).below hb (by simp <;> omega)))
  have HB_w := Lib.hid (HB_w.out.trans (hj.out.mono HB_w.out.size))
  have HB_w1 := Lib.hid (Below.refl w1.heap.size w1)
  have T_a := Lib.hid (fun V (hV : Below w1.heap.size w1 V) => hx.kept hV (Nat.le_refl _))
  clear hx
  clear hb hj
  obtain ⟨t0, t1, t2, tl⟩ := X_t.out
  go_wp2_with fail
  refine (((rfill_any t _ _ A_t c_t g A_g c_g _ (T_t.out _ (HB_w.out.alloc HB_w.out.size (.cells #[.int .i64 a.k, .int .i64 a.n, .slice A_a a.l.length c_a] 24))) (HB_w.out.alloc HB_w.out.size (.cells #[.int .i64 a.k, .int .i64 a.n, .slice A_a a.l.length c_a] 24)).size ((T_g.out _ (HB_w.out.alloc HB_w.out.size (.cells #[.int .i64 a.k, .int .i64 a.n, .slice A_a a.l.length c_a] 24))).wide (Nat.le_refl _) (HB_w.out.alloc HB_w.out.size (.cells #[.int .i64 a.k, .int .i64 a.n, .slice A_a a.l.length c_a] 24)).size) (by have := HG20.out; omega)).mono fun _ _ h => GivesL.kept (GivesT.any h) HE.out)).mono ?_
  rintro e w2 ⟨A_b, c_b, rfl, hx, hb⟩
  rw [termV]
  have hj := Lib.hid (((Below.refl w1.heap.size w1).alloc (by simp <;> omega) (.cells #[.int .i64 a.k, .int .i64 a.n, .slice A_a a.l.length c_a] 24)).trans (hb.mono (by simp <;> omega)))
  have X_a := Lib.hid (show TBox w2 w1.heap.size a.k a.n (.slice A_a a.l.length c_a) from TBox.of ((Bk.new w1 24 #[.int .i64 a.k, .int .i64 a.n, .slice A_a a.l.length c_a]).below hb (by simp <;> omega)))
  have X_t := Lib.hid (X_t.out.kept hj.out X_t.out.lt)
  have HB_w := Lib.hid (HB_w.out.trans (hj.out.mono HB_w.out.size))
  have HB_w1 := Lib.hid (HB_w1.out.trans (hj.out.mono HB_w1.out.size))
  have HB_w2 := Lib.hid (Below.refl w2.heap.size w2)
  have T_b := Lib.hid (fun V (hV : Below w2.heap.size w2 V) => hx.kept hV (Nat.le_refl _))
  clear hx
  clear hb hj t0 t1 t2 tl
  obtain ⟨a0, a1, a2, al⟩ := X_a.out
  go_wp2_with fail
  refine (vsame_refl a e1 _ _ _ _ A_a A_b c_a c_b _ (T_a.out _ (HB_w1.out.alloc HB_w1.out.size (.cells #[.int .i64 a.k, .int .i64 a.n, .slice A_b a.l.length c_b] 24))) (T_b.out _ (HB_w2.out.alloc HB_w2.out.size (.cells #[.int .i64 a.k, .int .i64 a.n, .slice A_b a.l.length c_b] 24))) (HB_w1.out.alloc HB_w1.out.size (.cells #[.int .i64 a.k, .int .i64 a.n, .slice A_b a.l.length c_b] 24)).size (HB_w2.out.alloc HB_w2.out.size (.cells #[.int .i64 a.k, .int .i64 a.n, .slice A_b a.l.length c_b] 24)).size).mono ?_
  rintro e w3 ⟨rfl, hb⟩
  have hj := Lib.hid (((Below.refl w2.heap.size w2).alloc (by simp <;> omega) (.cells #[.int .i64 a.k, .int .i64 a.n, .slice A_b a.l.length c_b] 24)).trans (hb.mono (by simp <;> omega)))
  have X_b := Lib.hid (show TBox w3 w2.heap.size a.k a.n (.slice A_b a.l.length c_b) from TBox.of ((Bk.new w2 24 #[.int .i64 a.k, .int .i64 a.n, .slice A_b a.l.length c_b]).below hb (by simp <;> omega)))
  have X_t := Lib.hid (X_t.out.kept hj.out X_t.out.lt)
  have X_a := Lib.hid (X_a.out.kept hj.out X_a.out.lt)
  have HB_w := Lib.hid (HB_w.out.trans (hj.out.mono HB_w.out.size))
  have HB_w1 := Lib.hid (HB_w1.out.trans (hj.out.mono HB_w1.out.size))
  have HB_w2 := Lib.hid (HB_w2.out.trans (hj.out.mono HB_w2.out.size))
  have HB_w3 := Lib.hid (Below.refl w3.heap.size w3)
  clear hb hj a0 a1 a2 al
  by_cases hne : g.length = l.length
  rotate_left
  · have t2 : ((l.length : Int) != (g.length : Int)) = true := by
      have : ¬ (l.length : Int) = (g.length : Int) := by omega
      simpa using this
    have HNE := Lib.hid hne
    clear hne
    go_wp2_with fail
    refine (types_not l A_l l.length c_l A_g g.length c_g _ HNE.out).mono ?_
    rintro e w4 ⟨rfl, hb⟩
    have hj := Lib.hid hb
    have X_t := Lib.hid (X_t.out.kept hj.out X_t.out.lt)
    have X_a := Lib.hid (X_a.out.kept hj.out X_a.out.lt)
    have X_b := Lib.hid (X_b.out.kept hj.out X_b.out.lt)
    have HB_w := Lib.hid (HB_w.out.trans (hj.out.mono HB_w.out.size))
    have HB_w1 := Lib.hid (HB_w1.out.trans (hj.out.mono HB_w1.out.size))
    have HB_w2 := Lib.hid (HB_w2.out.trans (hj.out.mono HB_w2.out.size))
    have HB_w3 := Lib.hid (HB_w3.out.trans (hj.out.mono HB_w3.out.size))
    have HB_w4 := Lib.hid (Below.refl w4.heap.size w4)
    clear hb hj
    go_wp2_with fail
    refine (awakeV_any _ (HS.out _ HB_w.out)).mono ?_
    rintro e w5 ⟨rfl, hb⟩
    have hj := Lib.hid hb
    have X_t := Lib.hid (X_t.out.kept hj.out X_t.out.lt)
    have X_a := Lib.hid (X_a.out.kept hj.out X_a.out.lt)
    have X_b := Lib.hid (X_b.out.kept hj.out X_b.out.lt)
    have HB_w := Lib.hid (HB_w.out.trans (hj.out.mono HB_w.out.size))
    have HB_w1 := Lib.hid (HB_w1.out.trans (hj.out.mono HB_w1.out.size))
    have HB_w2 := Lib.hid (HB_w2.out.trans (hj.out.mono HB_w2.out.size))
    have HB_w3 := Lib.hid (HB_w3.out.trans (hj.out.mono HB_w3.out.size))
    have HB_w4 := Lib.hid (HB_w4.out.trans (hj.out.mono HB_w4.out.size))
    have HB_w5 := Lib.hid (Below.refl w5.heap.size w5)
    clear hb hj
    go_wp2_with fail
    go_ret
    exact ⟨rfl, HB_w.out⟩
  have t2 : ((l.length : Int) != (g.length : Int)) = false := by rw [hne]; simp
  have HLG := Lib.hid hne
  have CTY := Lib.hid (types_any l A_l c_l g A_g c_g w3 ((T_l.out _ HB_w.out).wide (Nat.le_refl _) HB_w.out.size) ((T_g.out _ HB_w.out).wide (Nat.le_refl _) HB_w.out.size) hne (by have := HL20.out; omega) (HS.out _ HB_w.out))
  clear hne
  go_wp2_with fail
  refine CTY.out.mono ?_
  rintro e w1 ⟨hcase, hb⟩
  have HB_w := Lib.hid (HB_w.out.trans (hb.mono HB_w.out.size))
  have HB_w1 := Lib.hid (Below.refl w1.heap.size w1)
  have hbw1 := HB_w.out.size
  clear hb CTY
  rcases hcase with ⟨hz, A_o, c_o, rfl, hout⟩ | ⟨i0, hi0, hok0, hne0, rfl⟩
  · have HOKA := Lib.hid hz
    have T_o := Lib.hid (fun (V : World) (hV : Below w1.heap.size w1 V) => (show IsTerms V 0 w1.heap.size (typesL l g l.length) A_o c_o from hout.kept hV (Nat.le_refl _)))
    clear hout hz
    go_wp2_with fail
    go_loopw [13] (VTypesRel w w1 l g) (fun iv _ => l.length - (intOf iv).toNat)
    case atStart => exact ⟨0, Nat.zero_le _, rfl, HB_w.out, HB_w1.out, fun j hj => absurd hj (Nat.not_lt_zero _)⟩
    case round =>
      obtain ⟨i, hi1, rfl, hB, hB1, hok⟩ := hrel
      have HB_w := Lib.hid hB
      have HB_w1 := Lib.hid hB1
      have HB_wr := Lib.hid (Below.refl wr.heap.size wr)
      have HOK := Lib.hid hok
      have hwz := hB.size
      clear hok
      by_cases hil : i < l.length
      · obtain ⟨bk, o, F, C, hAt, hb1', hb2', ⟨z0, z1, z2⟩, hnode⟩ := (HN.out i hil).kept hB (Nat.le_refl _)
        subst hAt
        obtain ⟨bG, oG, F0, C0, hAg, -⟩ := HG.out.sub 0 (by have := HLG.out; omega)
        subst hAg
        have hi1' : (i : Int) < (l.length : Int) := by omega
        have hi0' : (0 : Int) ≤ (i : Int) := by omega
        have hi9 : (i : Int) < 100 := by have := HL20.out; omega
        have hp1 : (i : Int) ≤ (c_g : Int) := by have := HLG.out; omega
        have hp2 : i ≤ c_g := by have := HLG.out; omega
        have hbw : bk < wr.heap.size := by omega
        have hty := typeX_at (args := g) hil
        have hst := okT_succ HOK.out
        have HIL := Lib.hid hil
        obtain ⟨u, hu⟩ : ∃ u : TM, l[i]'hil = u := ⟨_, rfl⟩
        rw [hu] at z0 z1 z2 hnode hty
        obtain ⟨x, f, hxf⟩ : ∃ x f, typeX l g i = (x, f) := ⟨_, _, rfl⟩
        have CM := Lib.hid (fun (V : World) (hV : Below wr.heap.size wr V) => (show Calls Tryd.prog 22 #[.agg #[.int .i64 u.k, .int .i64 u.n, .slice F u.l.length C], .slice (some ⟨bG, oG, none⟩) i c_g] V (GivesT (x, f) V) from by
          have hVw := HB_w.out.trans (hV.mono HB_w.out.size)
          have q := rfill_any u 0 w.heap.size F C (g.take i) (some ⟨bG, oG, none⟩) c_g V (hnode.kept hV (by omega)) hVw.size (take_in ((T_g.out V hVw).wide (Nat.le_refl _) hVw.size) i) (by rw [List.length_take]; have := HG20.out; omega)
          rw [List.length_take, Nat.min_eq_left (by have := HLG.out; have := HIL.out; omega), ← hty, hxf] at q
          exact q))
        rw [hxf] at hst
        have HXF := Lib.hid hxf
        have HST := Lib.hid hst
        have HKT := Lib.hid (fun (V : World) (hV : Below wr.heap.size wr V) => (show V.cell? ⟨bk, o + i * 3, none⟩ = some (.int .i64 u.k) ∧ V.cell? ⟨bk, o + i * 3 + 1, none⟩ = some (.int .i64 u.n) ∧ V.cell? ⟨bk, o + i * 3 + 2, none⟩ = some (.slice F u.l.length C) from ⟨(hV.cell (p := ⟨bk, _, none⟩) hbw).trans z0, (hV.cell (p := ⟨bk, _, none⟩) hbw).trans z1, (hV.cell (p := ⟨bk, _, none⟩) hbw).trans z2⟩))
        have hbk0 := Lib.hid (show Below wr.heap.size wr wr.drew from (Below.refl _ _).drew)
        have HFZ := Lib.hid (show f = 0 from by have := HOKA.out i HIL.out; rw [hxf] at this; exact this)
        have hml : (typesL l g l.length).length = l.length := typesL_len _ _ _
        obtain ⟨go2, oo2, F2, C2, hAo, hb3', hb4', ⟨y0, y1, y2⟩, hnode2⟩ := (T_o.out wr hB1).sub i (by rw [hml]; exact hil)
        subst hAo
        rw [typesL_at, hxf] at y0 y1 y2 hnode2
        have hil2 : i < (typesL l g l.length).length := by rw [hml]; exact hil
        unfold GivesT termV at CM
        clear hty hst hxf hu hnode hil hB hml
        go_upto_region 13 with fail
        go_cut [14, 15] from 70 to 80 (fun s14 s15 wx => ∃ gv A_x c_x, s14 = .pointer (some ⟨gv, 0, none⟩) ∧ s15 = .int .i64 f ∧ TBox wx gv x.k x.n (.slice A_x x.l.length c_x) ∧ Below wr.heap.size wr wx ∧ IsTerm wx 0 wx.heap.size x A_x c_x)
        case first =>
          go_region_held3 (fun w' => w'.cell? ⟨bk, o + i * 3, none⟩ = some (.int .i64 u.k) ∧ w'.cell? ⟨bk, o + i * 3 + 1, none⟩ = some (.int .i64 u.n) ∧ w'.cell? ⟨bk, o + i * 3 + 2, none⟩ = some (.slice F u.l.length C))
            (first | exact HKT.out _ hbk0.out | exact HKT.out _ (hbk0.out.alloc hbk0.out.size _) | exact HKT.out _ hB5.out | exact HKT.out _ (hB5.out.alloc hB5.out.size _) | exact HKT.out _ (((hB5.out.setCell (by simp <;> omega) _).setCell (by simp <;> omega) _).setCell (by simp <;> omega) _) | exact HKT.out _ ((((hB5.out.alloc hB5.out.size _).setCell (by simp <;> omega) _).setCell (by simp <;> omega) _).setCell (by simp <;> omega) _))
            (first
            | (go_at_call 22
               refine (CM.out _ (by first | exact hbk0.out | exact hbk0.out.alloc hbk0.out.size _)).mono ?_
               rintro e w5 ⟨A_x, c_x, rfl, hx, hb3⟩
               have hB5 : Hid (Below wr.heap.size wr w5) := Lib.hid (by first | exact hbk0.out.trans (hb3.mono hbk0.out.size) | exact (hbk0.out.alloc hbk0.out.size _).trans (hb3.mono (hbk0.out.alloc hbk0.out.size _).size))
               first
               | (have hbkv : Bk w5 wr.heap.size 24 #[.int .i64 0, .int .i64 0, .slice none 0 0] := Bk.below (B := (wr.drew.alloc (.cells #[.int .i64 0, .int .i64 0, .slice none 0 0] 24)).heap.size) (Bk.last wr.drew 24 #[.int .i64 0, .int .i64 0, .slice none 0 0] rfl) hb3 (by simp)
                  have Hx := Lib.hid (show TermIn w5 (fun b => b ≠ wr.heap.size ∧ b < w5.heap.size) _ _ _ from TermIn.imp (fun _ _ _ => rfl) (fun b hb => ⟨by have h := hb.1; simp at h; omega, hb.2⟩) hx)
                  have hfz : ∀ o, w5.frozen? ⟨wr.heap.size, o, none⟩ = false := fun o => hbkv.cold o
                  have d0 := hbkv.cell 0
                  have d1 := hbkv.cell 1
                  have d2 := hbkv.cell 2
                  simp at d0 d1 d2)
               | (skip
                  have Hx := Lib.hid (show TermIn w5 (fun b => b ≠ w5.heap.size ∧ b < w5.heap.size) _ _ _ from TermIn.imp (fun _ _ _ => rfl) (fun b hb => ⟨by have := hb.2; omega, hb.2⟩) hx)
                  skip)
               clear hb3 hx))
          all_goals
            go_wp2_with fail
            go_meet
            case rel =>
              first
              | exact ⟨_, A_x, c_x, rfl, rfl, TBox.of (Bk.new w5 _ _), hB5.out.alloc hB5.out.size _, (TermIn.imp (fun b o hb => ((Below.refl w5.heap.size w5).alloc (Nat.le_refl _) _).cell (p := ⟨b, o, none⟩) hb.2) (fun b hb => ⟨Nat.zero_le _, by have := hb.2; simp; omega⟩) Hx.out)⟩
              | exact ⟨_, A_x, c_x, rfl, rfl, TBox.of (((hbkv.at_ 0 (.int .i64 x.k)).at_ 1 (.int .i64 x.n)).at_ 2 (.slice A_x x.l.length c_x)), ((hB5.out.setCell (by simp <;> omega) _).setCell (by simp <;> omega) _).setCell (by simp <;> omega) _, ((Hx.out.three (fun b hb e => hb.1 e) _ _ _).imp (fun _ _ _ => rfl) (fun b hb => ⟨Nat.zero_le _, by rw [size_three]; exact hb.2⟩))⟩
        case rest =>
        obtain ⟨gv, A_x, c_x, rfl, rfl, htb, hbx, hnx⟩ := hcut
        have HNX := Lib.hid hnx
        have HBF := Lib.hid (HB_w.out.trans (hbx.mono HB_w.out.size))
        have HBF1 := Lib.hid (HB_w1.out.trans (hbx.mono HB_w1.out.size))
        simp only at y0 y1 y2 hnode2
        obtain rfl := HFZ.out
        have HSTT := Lib.hid (HST.out rfl)
        have HXB := Lib.hid htb
        have hlt2 : go2 < w1.heap.size := by omega
        have hcz := hbx.size
        have HN2 := Lib.hid (fun (V : World) (hV : Below wr.heap.size wr V) => (show IsTerm V 0 w1.heap.size x F2 C2 from hnode2.kept hV (by have := hB1.size; omega)))
        have HY := Lib.hid (fun (V : World) (hV : Below wr.heap.size wr V) => (show V.cell? ⟨go2, oo2 + i * 3, none⟩ = some (.int .i64 x.k) ∧ V.cell? ⟨go2, oo2 + i * 3 + 1, none⟩ = some (.int .i64 x.n) ∧ V.cell? ⟨go2, oo2 + i * 3 + 2, none⟩ = some (.slice F2 x.l.length C2) from ⟨(hV.cell (p := ⟨go2, _, none⟩) (by have := hB1.size; show go2 < _; omega)).trans y0, (hV.cell (p := ⟨go2, _, none⟩) (by have := hB1.size; show go2 < _; omega)).trans y1, (hV.cell (p := ⟨go2, _, none⟩) (by have := hB1.size; show go2 < _; omega)).trans y2⟩))
        have HBX := Lib.hid hbx
        have HKK := Lib.hid (fun (V : World) (hV : Below wc.heap.size wc V) => (show V.cell? ⟨go2, oo2 + i * 3, none⟩ = some (.int .i64 x.k) ∧ V.cell? ⟨go2, oo2 + i * 3 + 1, none⟩ = some (.int .i64 x.n) ∧ V.cell? ⟨go2, oo2 + i * 3 + 2, none⟩ = some (.slice F2 x.l.length C2) ∧ V.cell? ⟨gv, 0, none⟩ = some (.int .i64 x.k) ∧ V.cell? ⟨gv, 1, none⟩ = some (.int .i64 x.n) ∧ V.cell? ⟨gv, 2, none⟩ = some (.slice A_x x.l.length c_x) from by
          obtain ⟨a0, a1, a2⟩ := HY.out V (HBX.out.trans (hV.mono HBX.out.size))
          obtain ⟨k0, k1, k2, _⟩ := HXB.out.kept hV HXB.out.lt
          exact ⟨a0, a1, a2, k0, k1, k2⟩))
        have CEQ := Lib.hid (fun (V : World) (hV : Below wc.heap.size wc V) => (show Calls Tryd.prog 17 #[.agg #[.int .i64 x.k, .int .i64 x.n, .slice F2 x.l.length C2], .agg #[.int .i64 x.k, .int .i64 x.n, .slice A_x x.l.length c_x]] V fun e w' => e = .returned (.bool true) ∧ Below V.heap.size V w' from by
          have hV2 := HBX.out.trans (hV.mono HBX.out.size)
          exact (refEqual_any x x _ _ _ _ F2 A_x C2 c_x V (HN2.out V hV2) (HNX.out.kept hV (Nat.le_refl _)) (by have := HB_w1.out.size; have := hV2.size; omega) hV.size).mono fun _ _ h => ⟨h.1.trans (by rw [alikeT_refl]), h.2⟩))
        have hbk := Lib.hid (show Below wc.heap.size wc wc.drew from (Below.refl _ _).drew)
        obtain ⟨y0, y1, y2, v0, v1, v2⟩ := HKK.out wc (Below.refl _ _)
        have q6 : decide ((i : Int) ≥ (l.length : Int)) = false := decide_eq_false (by omega)
        have q7 : decide (l.length ≤ i) = false := decide_eq_false (by have := HIL.out; omega)
        have hltw : go2 < wc.heap.size := by have := hB1.size; omega
        clear htb hbx hnx hnode2 hb3' hb4' CM HKT hbk0 hB1
        go_wp2_with fail
        go_upto_region 16 with fail
        go_region_held3 (fun w' => w'.cell? ⟨go2, oo2 + i * 3, none⟩ = some (.int .i64 x.k) ∧ w'.cell? ⟨go2, oo2 + i * 3 + 1, none⟩ = some (.int .i64 x.n) ∧ w'.cell? ⟨go2, oo2 + i * 3 + 2, none⟩ = some (.slice F2 x.l.length C2) ∧ w'.cell? ⟨gv, 0, none⟩ = some (.int .i64 x.k) ∧ w'.cell? ⟨gv, 1, none⟩ = some (.int .i64 x.n) ∧ w'.cell? ⟨gv, 2, none⟩ = some (.slice A_x x.l.length c_x))
          (exact HKK.out _ hbk.out)
          (first
          | (go_at_call 17; refine (CEQ.out _ hbk.out).mono ?_; rintro e w5 ⟨rfl, hbn⟩; have hbk := Lib.hid (hbk.out.trans (hbn.mono hbk.out.size)); clear hbn))
        all_goals
          have HF1 := Lib.hid (HBF.out.trans (hbk.out.mono HBF.out.size))
          have HF2 := Lib.hid (HBF1.out.trans (hbk.out.mono HBF1.out.size))
          go_wp2_with fail
          go_roundw
          case rel => exact ⟨i + 1, by have := HIL.out; omega, by go_num, HF1.out, HF2.out, HSTT.out⟩
          case measure => have := HIL.out; simp [intOf]; omega
      · have HIN := Lib.hid (show i = l.length by omega)
        have hge : ¬ (i : Int) < (l.length : Int) := by omega
        have hll : ((typesL l g l.length).length : Int) = (l.length : Int) := by rw [typesL_len]
        go_wp2_with fail
        refine (awakeV_any _ (HS.out _ HB_w.out)).mono ?_
        rintro e w1 ⟨rfl, hb⟩
        have hj := Lib.hid hb
        have HB_w := Lib.hid (HB_w.out.trans (hj.out.mono HB_w.out.size))
        have HB_w1 := Lib.hid (HB_w1.out.trans (hj.out.mono HB_w1.out.size))
        have HB_wr := Lib.hid (HB_wr.out.trans (hj.out.mono HB_wr.out.size))
        have HB_w1 := Lib.hid (Below.refl w1.heap.size w1)
        clear hb hj
        go_wp2_with fail
        go_ret
        exact ⟨rfl, HB_w.out⟩
  · obtain ⟨ee, hee⟩ : ∃ ee, (typeX l g i0).2 = ee := ⟨_, rfl⟩
    rw [hee] at hne0 ⊢
    have HEE := Lib.hid hee
    have HZE := Lib.hid hne0
    have HI0 := Lib.hid hi0
    have HOK0 := Lib.hid hok0
    have te : (ee == 0) = false := by simpa using hne0
    clear hee hne0 hi0 hok0
    go_wp2_with fail
    go_loopw [13] (VTypesRel w w1 l g) (fun iv _ => l.length - (intOf iv).toNat)
    case atStart => exact ⟨0, Nat.zero_le _, rfl, HB_w.out, HB_w1.out, fun j hj => absurd hj (Nat.not_lt_zero _)⟩
    case round =>
      obtain ⟨i, hi1, rfl, hB, hB1, hok⟩ := hrel
      have HB_w := Lib.hid hB
      have HB_w1 := Lib.hid hB1
      have HB_wr := Lib.hid (Below.refl wr.heap.size wr)
      have HOK := Lib.hid hok
      have hwz := hB.size
      clear hok
      by_cases hil : i < l.length
      · obtain ⟨bk, o, F, C, hAt, hb1', hb2', ⟨z0, z1, z2⟩, hnode⟩ := (HN.out i hil).kept hB (Nat.le_refl _)
        subst hAt
        obtain ⟨bG, oG, F0, C0, hAg, -⟩ := HG.out.sub 0 (by have := HLG.out; omega)
        subst hAg
        have hi1' : (i : Int) < (l.length : Int) := by omega
        have hi0' : (0 : Int) ≤ (i : Int) := by omega
        have hi9 : (i : Int) < 100 := by have := HL20.out; omega
        have hp1 : (i : Int) ≤ (c_g : Int) := by have := HLG.out; omega
        have hp2 : i ≤ c_g := by have := HLG.out; omega
        have hbw : bk < wr.heap.size := by omega
        have hty := typeX_at (args := g) hil
        have hst := okT_succ HOK.out
        have HIL := Lib.hid hil
        obtain ⟨u, hu⟩ : ∃ u : TM, l[i]'hil = u := ⟨_, rfl⟩
        rw [hu] at z0 z1 z2 hnode hty
        obtain ⟨x, f, hxf⟩ : ∃ x f, typeX l g i = (x, f) := ⟨_, _, rfl⟩
        have CM := Lib.hid (fun (V : World) (hV : Below wr.heap.size wr V) => (show Calls Tryd.prog 22 #[.agg #[.int .i64 u.k, .int .i64 u.n, .slice F u.l.length C], .slice (some ⟨bG, oG, none⟩) i c_g] V (GivesT (x, f) V) from by
          have hVw := HB_w.out.trans (hV.mono HB_w.out.size)
          have q := rfill_any u 0 w.heap.size F C (g.take i) (some ⟨bG, oG, none⟩) c_g V (hnode.kept hV (by omega)) hVw.size (take_in ((T_g.out V hVw).wide (Nat.le_refl _) hVw.size) i) (by rw [List.length_take]; have := HG20.out; omega)
          rw [List.length_take, Nat.min_eq_left (by have := HLG.out; have := HIL.out; omega), ← hty, hxf] at q
          exact q))
        rw [hxf] at hst
        have HXF := Lib.hid hxf
        have HST := Lib.hid hst
        have HKT := Lib.hid (fun (V : World) (hV : Below wr.heap.size wr V) => (show V.cell? ⟨bk, o + i * 3, none⟩ = some (.int .i64 u.k) ∧ V.cell? ⟨bk, o + i * 3 + 1, none⟩ = some (.int .i64 u.n) ∧ V.cell? ⟨bk, o + i * 3 + 2, none⟩ = some (.slice F u.l.length C) from ⟨(hV.cell (p := ⟨bk, _, none⟩) hbw).trans z0, (hV.cell (p := ⟨bk, _, none⟩) hbw).trans z1, (hV.cell (p := ⟨bk, _, none⟩) hbw).trans z2⟩))
        have hbk0 := Lib.hid (show Below wr.heap.size wr wr.drew from (Below.refl _ _).drew)
        unfold GivesT termV at CM
        clear hty hst hxf hu hnode hil hB
        go_upto_region 13 with fail
        go_cut [14, 15] from 70 to 80 (fun s14 s15 wx => ∃ gv A_x c_x, s14 = .pointer (some ⟨gv, 0, none⟩) ∧ s15 = .int .i64 f ∧ TBox wx gv x.k x.n (.slice A_x x.l.length c_x) ∧ Below wr.heap.size wr wx ∧ IsTerm wx 0 wx.heap.size x A_x c_x)
        case first =>
          go_region_held3 (fun w' => w'.cell? ⟨bk, o + i * 3, none⟩ = some (.int .i64 u.k) ∧ w'.cell? ⟨bk, o + i * 3 + 1, none⟩ = some (.int .i64 u.n) ∧ w'.cell? ⟨bk, o + i * 3 + 2, none⟩ = some (.slice F u.l.length C))
            (first | exact HKT.out _ hbk0.out | exact HKT.out _ (hbk0.out.alloc hbk0.out.size _) | exact HKT.out _ hB5.out | exact HKT.out _ (hB5.out.alloc hB5.out.size _) | exact HKT.out _ (((hB5.out.setCell (by simp <;> omega) _).setCell (by simp <;> omega) _).setCell (by simp <;> omega) _) | exact HKT.out _ ((((hB5.out.alloc hB5.out.size _).setCell (by simp <;> omega) _).setCell (by simp <;> omega) _).setCell (by simp <;> omega) _))
            (first
            | (go_at_call 22
               refine (CM.out _ (by first | exact hbk0.out | exact hbk0.out.alloc hbk0.out.size _)).mono ?_
               rintro e w5 ⟨A_x, c_x, rfl, hx, hb3⟩
               have hB5 : Hid (Below wr.heap.size wr w5) := Lib.hid (by first | exact hbk0.out.trans (hb3.mono hbk0.out.size) | exact (hbk0.out.alloc hbk0.out.size _).trans (hb3.mono (hbk0.out.alloc hbk0.out.size _).size))
               first
               | (have hbkv : Bk w5 wr.heap.size 24 #[.int .i64 0, .int .i64 0, .slice none 0 0] := Bk.below (B := (wr.drew.alloc (.cells #[.int .i64 0, .int .i64 0, .slice none 0 0] 24)).heap.size) (Bk.last wr.drew 24 #[.int .i64 0, .int .i64 0, .slice none 0 0] rfl) hb3 (by simp)
                  have Hx := Lib.hid (show TermIn w5 (fun b => b ≠ wr.heap.size ∧ b < w5.heap.size) _ _ _ from TermIn.imp (fun _ _ _ => rfl) (fun b hb => ⟨by have h := hb.1; simp at h; omega, hb.2⟩) hx)
                  have hfz : ∀ o, w5.frozen? ⟨wr.heap.size, o, none⟩ = false := fun o => hbkv.cold o
                  have d0 := hbkv.cell 0
                  have d1 := hbkv.cell 1
                  have d2 := hbkv.cell 2
                  simp at d0 d1 d2)
               | (skip
                  have Hx := Lib.hid (show TermIn w5 (fun b => b ≠ w5.heap.size ∧ b < w5.heap.size) _ _ _ from TermIn.imp (fun _ _ _ => rfl) (fun b hb => ⟨by have := hb.2; omega, hb.2⟩) hx)
                  skip)
               clear hb3 hx))
          all_goals
            go_wp2_with fail
            go_meet
            case rel =>
              first
              | exact ⟨_, A_x, c_x, rfl, rfl, TBox.of (Bk.new w5 _ _), hB5.out.alloc hB5.out.size _, (TermIn.imp (fun b o hb => ((Below.refl w5.heap.size w5).alloc (Nat.le_refl _) _).cell (p := ⟨b, o, none⟩) hb.2) (fun b hb => ⟨Nat.zero_le _, by have := hb.2; simp; omega⟩) Hx.out)⟩
              | exact ⟨_, A_x, c_x, rfl, rfl, TBox.of (((hbkv.at_ 0 (.int .i64 x.k)).at_ 1 (.int .i64 x.n)).at_ 2 (.slice A_x x.l.length c_x)), ((hB5.out.setCell (by simp <;> omega) _).setCell (by simp <;> omega) _).setCell (by simp <;> omega) _, ((Hx.out.three (fun b hb e => hb.1 e) _ _ _).imp (fun _ _ _ => rfl) (fun b hb => ⟨Nat.zero_le _, by rw [size_three]; exact hb.2⟩))⟩
        case rest =>
        obtain ⟨gv, A_x, c_x, rfl, rfl, htb, hbx, hnx⟩ := hcut
        have HNX := Lib.hid hnx
        have HBF := Lib.hid (HB_w.out.trans (hbx.mono HB_w.out.size))
        have HBF1 := Lib.hid (HB_w1.out.trans (hbx.mono HB_w1.out.size))
        clear htb hbx hnx CM HKT hbk0 hB1 z0 z1 z2
        by_cases hf0 : f = 0
        rotate_left
        · have q1 : (f != 0) = true := by simpa using hf0
          have heq : ee = f := by
            have hii : i = i0 := by
              have h1 : ¬ i < i0 := fun h => hf0 (by have := HOK0.out i h; rw [HXF.out] at this; exact this)
              have h2 : ¬ i0 < i := fun h => HZE.out (by have := HOK.out i0 h; rw [HEE.out] at this; exact this)
              omega
            have := HEE.out
            rw [← hii, HXF.out] at this
            exact this.symm
          subst heq
          have q2 : (ee == ee) = true := by simp
          have HB_w := HBF
          clear hf0
          go_wp2_with fail
          refine (awakeV_any _ (HS.out _ HB_w.out)).mono ?_
          rintro e w1 ⟨rfl, hb⟩
          have hj := Lib.hid hb
          have HB_w := Lib.hid (HB_w.out.trans (hj.out.mono HB_w.out.size))
          have HB_w1 := Lib.hid (Below.refl w1.heap.size w1)
          clear hb hj
          go_wp2_with fail
          go_ret
          exact ⟨rfl, HB_w.out⟩
        have q1 : (f != 0) = false := by rw [hf0]; rfl
        have HSTT := Lib.hid (HST.out hf0)
        clear hf0
        go_wp2_with fail
        go_upto_region 16 with fail
        go_quiet (fail)
        all_goals
          go_wp2_with fail
          go_roundw
          case rel => exact ⟨i + 1, by have := HIL.out; omega, by go_num, below_drewV HBF.out _, below_drewV HBF1.out _, HSTT.out⟩
          case measure => have := HIL.out; simp [intOf]; omega
      · exfalso
        have h1 := HOK.out i0 (by have := HI0.out; omega)
        exact HZE.out (HEE.out.symm.trans h1)

end Go.Proofs.YtofmoggjpgjdgaaDoor
