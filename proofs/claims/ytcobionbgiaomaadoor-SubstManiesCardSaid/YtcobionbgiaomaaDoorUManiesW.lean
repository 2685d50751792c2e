/- The walk of the law SubstManies. -/
import Derived.Test.YtcobionbgiaomaaDoorULaw0
import Derived.Test.YtcobionbgiaomaaDoorURCalls
import Derived.Test.YtcobionbgiaomaaDoorLTerms
import Derived.Deep.RegionHeld3
import Derived.Deep.CutRange
namespace Go.Proofs.YtcobionbgiaomaaDoor
open Go.RowKit
set_option linter.unusedVariables false
set_option maxRecDepth 100000

set_option maxHeartbeats 4000000 in
theorem umanies_walk (t : TM) (A_t : Option Addr) (c_t : Nat) (l : List TM) (A_l : Option Addr) (c_l : Nat) (w : World) (ht : IsTerm w 0 w.heap.size t A_t c_t) (hl : IsTerms w 0 w.heap.size l A_l c_l) (zl : l.all sizedT = true) (hS : ShapesM w) :
    Calls Tryd.prog 3 #[termV t A_t c_t, .slice A_l l.length c_l] w fun e w' => e = .returned (.bool true) ∧ Below w.heap.size w w' := by
  have T_t := Lib.hid (fun (V : World) (hV : Below w.heap.size w V) => ht.kept hV (Nat.le_refl _))
  have T_l := Lib.hid (fun (V : World) (hV : Below w.heap.size w V) => hl.kept hV (Nat.le_refl _))
  have HS := Lib.hid (fun (V : World) (hV : Below w.heap.size w V) => hS.kept hV)
  obtain ⟨a, e1, hE⟩ : ∃ pp qq, manyX t l = (pp, qq) := ⟨_, _, rfl⟩
  have HE := Lib.hid hE
  clear ht hS hE zl
  unfold termV
  by_cases h20 : 20 < l.length
  · have t0 : decide ((20 : Int) < (l.length : Int)) = true := decide_eq_true (by omega)
    clear hl h20
    have HB_w := Lib.hid (Below.refl w.heap.size w)
    go_enter Tryd.func3, Tryd.ntmps3
    go_wp2_with fail
    refine (awakeU_any _ (HS.out _ (HB_w.out.alloc HB_w.out.size (.cells #[.int .i64 t.k, .int .i64 t.n, .slice A_t t.l.length c_t] 24)))).mono ?_
    rintro e w1 ⟨rfl, hb⟩
    have hj := Lib.hid (((Below.refl w.heap.size w).alloc (by simp <;> omega) (.cells #[.int .i64 t.k, .int .i64 t.n, .slice A_t t.l.length c_t] 24)).trans (hb.mono (by simp <;> omega)))
    have X_t := Lib.hid (show TBox w1 w.heap.size t.k t.n (.slice A_t t.l.length c_t) from TBox.of ((Bk.new w 24 #[.int .i64 t.k, .int .i64 t.n, .slice A_t t.l.length c_t]).below hb (by simp <;> omega)))
    have HB_w := Lib.hid (HB_w.out.trans (hj.out.mono HB_w.out.size))
    have HB_w1 := Lib.hid (Below.refl w1.heap.size w1)
    clear hb hj
    go_wp2_with fail
    go_ret
    exact ⟨rfl, HB_w.out⟩
  · have t0 : decide ((20 : Int) < (l.length : Int)) = false := decide_eq_false (by omega)
    have HL4 := Lib.hid (show l.length ≤ 4000000000 by omega)
    by_cases h1 : l.length = 1
    rotate_left
    · have t1 : ((l.length : Int) != 1) = true := by simp; omega
      clear hl h20 h1
      have HB_w := Lib.hid (Below.refl w.heap.size w)
      go_enter Tryd.func3, Tryd.ntmps3
      go_wp2_with fail
      refine (((manyc_any t _ _ A_t c_t l _ _ A_l c_l _ (T_t.out _ (HB_w.out.alloc HB_w.out.size (.cells #[.int .i64 t.k, .int .i64 t.n, .slice A_t t.l.length c_t] 24))) (HB_w.out.alloc HB_w.out.size (.cells #[.int .i64 t.k, .int .i64 t.n, .slice A_t t.l.length c_t] 24)).size (T_l.out _ (HB_w.out.alloc HB_w.out.size (.cells #[.int .i64 t.k, .int .i64 t.n, .slice A_t t.l.length c_t] 24))) (HB_w.out.alloc HB_w.out.size (.cells #[.int .i64 t.k, .int .i64 t.n, .slice A_t t.l.length c_t] 24)).size HL4.out (HS.out _ (HB_w.out.alloc HB_w.out.size (.cells #[.int .i64 t.k, .int .i64 t.n, .slice A_t t.l.length c_t] 24)))).mono fun _ _ h => GivesT.kept h HE.out)).mono ?_
      rintro e w1 ⟨A_a, c_a, rfl, hx, hb⟩
      rw [termV]
      have hj := Lib.hid (((Below.refl w.heap.size w).alloc (by simp <;> omega) (.cells #[.int .i64 t.k, .int .i64 t.n, .slice A_t t.l.length c_t] 24)).trans (hb.mono (by simp <;> omega)))
      have X_t := Lib.hid (show TBox w1 w.heap.size t.k t.n (.slice A_t t.l.length c_t) from TBox.of ((Bk.new w 24 #[.int .i64 t.k, .int .i64 t.n, .slice A_t t.l.length c_t]).below hb (by simp <;> omega)))
      have HB_w := Lib.hid (HB_w.out.trans (hj.out.mono HB_w.out.size))
      have HB_w1 := Lib.hid (Below.refl w1.heap.size w1)
      have T_a := Lib.hid (fun V (hV : Below w1.heap.size w1 V) => hx.kept hV (Nat.le_refl _))
      clear hx
      clear hb hj
      obtain ⟨t0, t1, t2, tl⟩ := X_t.out
      go_wp2_with fail
      refine (((rMany_any t _ _ A_t c_t l _ _ A_l c_l _ (T_t.out _ (HB_w.out.alloc HB_w.out.size (.cells #[.int .i64 a.k, .int .i64 a.n, .slice A_a a.l.length c_a] 24))) (HB_w.out.alloc HB_w.out.size (.cells #[.int .i64 a.k, .int .i64 a.n, .slice A_a a.l.length c_a] 24)).size (T_l.out _ (HB_w.out.alloc HB_w.out.size (.cells #[.int .i64 a.k, .int .i64 a.n, .slice A_a a.l.length c_a] 24))) (HB_w.out.alloc HB_w.out.size (.cells #[.int .i64 a.k, .int .i64 a.n, .slice A_a a.l.length c_a] 24)).size HL4.out).mono fun _ _ h => GivesT.kept h HE.out)).mono ?_
      rintro e w2 ⟨A_b, c_b, rfl, hx, hb⟩
      rw [termV]
      have hj := Lib.hid (((Below.refl w1.heap.size w1).alloc (by simp <;> omega) (.cells #[.int .i64 a.k, .int .i64 a.n, .slice A_a a.l.length c_a] 24)).trans (hb.mono (by simp <;> omega)))
      have X_a := Lib.hid (show TBox w2 w1.heap.size a.k a.n (.slice A_a a.l.length c_a) from TBox.of ((Bk.new w1 24 #[.int .i64 a.k, .int .i64 a.n, .slice A_a a.l.length c_a]).below hb (by simp <;> omega)))
      have X_t := Lib.hid (X_t.out.kept hj.out X_t.out.lt)
      have HB_w := Lib.hid (HB_w.out.trans (hj.out.mono HB_w.out.size))
      have HB_w1 := Lib.hid (HB_w1.out.trans (hj.out.mono HB_w1.out.size))
      have HB_w2 := Lib.hid (Below.refl w2.heap.size w2)
      have T_b := Lib.hid (fun V (hV : Below w2.heap.size w2 V) => hx.kept hV (Nat.le_refl _))
      clear hx
      clear hb hj t0 t1 t2 tl
      obtain ⟨a0, a1, a2, al⟩ := X_a.out
      go_wp2_with fail
      refine (usame_refl a e1 _ _ _ _ A_a A_b c_a c_b _ (T_a.out _ (HB_w1.out.alloc HB_w1.out.size (.cells #[.int .i64 a.k, .int .i64 a.n, .slice A_b a.l.length c_b] 24))) (T_b.out _ (HB_w2.out.alloc HB_w2.out.size (.cells #[.int .i64 a.k, .int .i64 a.n, .slice A_b a.l.length c_b] 24))) (HB_w1.out.alloc HB_w1.out.size (.cells #[.int .i64 a.k, .int .i64 a.n, .slice A_b a.l.length c_b] 24)).size (HB_w2.out.alloc HB_w2.out.size (.cells #[.int .i64 a.k, .int .i64 a.n, .slice A_b a.l.length c_b] 24)).size).mono ?_
      rintro e w3 ⟨rfl, hb⟩
      have hj := Lib.hid (((Below.refl w2.heap.size w2).alloc (by simp <;> omega) (.cells #[.int .i64 a.k, .int .i64 a.n, .slice A_b a.l.length c_b] 24)).trans (hb.mono (by simp <;> omega)))
      have X_b := Lib.hid (show TBox w3 w2.heap.size a.k a.n (.slice A_b a.l.length c_b) from TBox.of ((Bk.new w2 24 #[.int .i64 a.k, .int .i64 a.n, .slice A_b a.l.length c_b]).below hb (by simp <;> omega)))
      have X_t := Lib.hid (X_t.out.kept hj.out X_t.out.lt)
      have X_a := Lib.hid (X_a.out.kept hj.out X_a.out.lt)
      have HB_w := Lib.hid (HB_w.out.trans (hj.out.mono HB_w.out.size))
      have HB_w1 := Lib.hid (HB_w1.out.trans (hj.out.mono HB_w1.out.size))
      have HB_w2 := Lib.hid (HB_w2.out.trans (hj.out.mono HB_w2.out.size))
      have HB_w3 := Lib.hid (Below.refl w3.heap.size w3)
      clear hb hj a0 a1 a2 al
      go_wp2_with fail
      refine (awakeU_any _ (HS.out _ HB_w.out)).mono ?_
      rintro e w4 ⟨rfl, hb⟩
      have hj := Lib.hid hb
      have X_t := Lib.hid (X_t.out.kept hj.out X_t.out.lt)
      have X_a := Lib.hid (X_a.out.kept hj.out X_a.out.lt)
      have X_b := Lib.hid (X_b.out.kept hj.out X_b.out.lt)
      have HB_w := Lib.hid (HB_w.out.trans (hj.out.mono HB_w.out.size))
      have HB_w1 := Lib.hid (HB_w1.out.trans (hj.out.mono HB_w1.out.size))
      have HB_w2 := Lib.hid (HB_w2.out.trans (hj.out.mono HB_w2.out.size))
      have HB_w3 := Lib.hid (HB_w3.out.trans (hj.out.mono HB_w3.out.size))
      have HB_w4 := Lib.hid (Below.refl w4.heap.size w4)
      clear hb hj
      go_wp2_with fail
      go_ret
      exact ⟨rfl, HB_w.out⟩
    · obtain ⟨x, rfl⟩ := List.length_eq_one_iff.1 h1
      obtain ⟨gb, go, F, C, hAl, hb1', hb2', ⟨z0, z1, z2⟩, hnode⟩ := hl.sub 0 (by simp)
      subst hAl
      have T_x := Lib.hid (fun (V : World) (hV : Below w.heap.size w V) => (show IsTerm V 0 w.heap.size x F C from hnode.kept hV (Nat.le_refl _)))
      have HZ := Lib.hid (fun (V : World) (hV : Below w.heap.size w V) => (show V.cell? ⟨gb, go, none⟩ = some (.int .i64 x.k) ∧ V.cell? ⟨gb, go + 1, none⟩ = some (.int .i64 x.n) ∧ V.cell? ⟨gb, go + 2, none⟩ = some (.slice F x.l.length C) from ⟨(hV.cell (p := ⟨gb, go, none⟩) hb2').trans (by simpa using z0), (hV.cell (p := ⟨gb, go + 1, none⟩) hb2').trans (by simpa using z1), (hV.cell (p := ⟨gb, go + 2, none⟩) hb2').trans (by simpa using z2)⟩))
      clear hl h20 h1 z0 z1 z2 hnode t0
      simp only [List.length_cons, List.length_nil, Nat.zero_add]
      have HB_w := Lib.hid (Below.refl w.heap.size w)
      go_enter Tryd.func3, Tryd.ntmps3
      go_wp2_with fail
      refine (((manyc_any t _ _ A_t c_t [x] _ _ (some ⟨gb, go, none⟩) c_l _ (T_t.out _ (HB_w.out.alloc HB_w.out.size (.cells #[.int .i64 t.k, .int .i64 t.n, .slice A_t t.l.length c_t] 24))) (HB_w.out.alloc HB_w.out.size (.cells #[.int .i64 t.k, .int .i64 t.n, .slice A_t t.l.length c_t] 24)).size (T_l.out _ (HB_w.out.alloc HB_w.out.size (.cells #[.int .i64 t.k, .int .i64 t.n, .slice A_t t.l.length c_t] 24))) (HB_w.out.alloc HB_w.out.size (.cells #[.int .i64 t.k, .int .i64 t.n, .slice A_t t.l.length c_t] 24)).size HL4.out (HS.out _ (HB_w.out.alloc HB_w.out.size (.cells #[.int .i64 t.k, .int .i64 t.n, .slice A_t t.l.length c_t] 24)))).mono fun _ _ h => GivesT.kept h HE.out)).mono ?_
      rintro e w1 ⟨A_a, c_a, rfl, hx, hb⟩
      rw [termV]
      have hj := Lib.hid (((Below.refl w.heap.size w).alloc (by simp <;> omega) (.cells #[.int .i64 t.k, .int .i64 t.n, .slice A_t t.l.length c_t] 24)).trans (hb.mono (by simp <;> omega)))
      have X_t := Lib.hid (show TBox w1 w.heap.size t.k t.n (.slice A_t t.l.length c_t) from TBox.of ((Bk.new w 24 #[.int .i64 t.k, .int .i64 t.n, .slice A_t t.l.length c_t]).below hb (by simp <;> omega)))
      have HB_w := Lib.hid (HB_w.out.trans (hj.out.mono HB_w.out.size))
      have HB_w1 := Lib.hid (Below.refl w1.heap.size w1)
      have T_a := Lib.hid (fun V (hV : Below w1.heap.size w1 V) => hx.kept hV (Nat.le_refl _))
      clear hx
      clear hb hj
      obtain ⟨t0, t1, t2, tl⟩ := X_t.out
      go_wp2_with fail
      refine (((rMany_any t _ _ A_t c_t [x] _ _ (some ⟨gb, go, none⟩) c_l _ (T_t.out _ (HB_w.out.alloc HB_w.out.size (.cells #[.int .i64 a.k, .int .i64 a.n, .slice A_a a.l.length c_a] 24))) (HB_w.out.alloc HB_w.out.size (.cells #[.int .i64 a.k, .int .i64 a.n, .slice A_a a.l.length c_a] 24)).size (T_l.out _ (HB_w.out.alloc HB_w.out.size (.cells #[.int .i64 a.k, .int .i64 a.n, .slice A_a a.l.length c_a] 24))) (HB_w.out.alloc HB_w.out.size (.cells #[.int .i64 a.k, .int .i64 a.n, .slice A_a a.l.length c_a] 24)).size HL4.out).mono fun _ _ h => GivesT.kept h HE.out)).mono ?_
      rintro e w2 ⟨A_b, c_b, rfl, hx, hb⟩
      rw [termV]
      have hj := Lib.hid (((Below.refl w1.heap.size w1).alloc (by simp <;> omega) (.cells #[.int .i64 a.k, .int .i64 a.n, .slice A_a a.l.length c_a] 24)).trans (hb.mono (by simp <;> omega)))
      have X_a := Lib.hid (show TBox w2 w1.heap.size a.k a.n (.slice A_a a.l.length c_a) from TBox.of ((Bk.new w1 24 #[.int .i64 a.k, .int .i64 a.n, .slice A_a a.l.length c_a]).below hb (by simp <;> omega)))
      have X_t := Lib.hid (X_t.out.kept hj.out X_t.out.lt)
      have HB_w := Lib.hid (HB_w.out.trans (hj.out.mono HB_w.out.size))
      have HB_w1 := Lib.hid (HB_w1.out.trans (hj.out.mono HB_w1.out.size))
      have HB_w2 := Lib.hid (Below.refl w2.heap.size w2)
      have T_b := Lib.hid (fun V (hV : Below w2.heap.size w2 V) => hx.kept hV (Nat.le_refl _))
      clear hx
      clear hb hj t0 t1 t2 tl
      obtain ⟨a0, a1, a2, al⟩ := X_a.out
      go_wp2_with fail
      refine (usame_refl a e1 _ _ _ _ A_a A_b c_a c_b _ (T_a.out _ (HB_w1.out.alloc HB_w1.out.size (.cells #[.int .i64 a.k, .int .i64 a.n, .slice A_b a.l.length c_b] 24))) (T_b.out _ (HB_w2.out.alloc HB_w2.out.size (.cells #[.int .i64 a.k, .int .i64 a.n, .slice A_b a.l.length c_b] 24))) (HB_w1.out.alloc HB_w1.out.size (.cells #[.int .i64 a.k, .int .i64 a.n, .slice A_b a.l.length c_b] 24)).size (HB_w2.out.alloc HB_w2.out.size (.cells #[.int .i64 a.k, .int .i64 a.n, .slice A_b a.l.length c_b] 24)).size).mono ?_
      rintro e w3 ⟨rfl, hb⟩
      have hj := Lib.hid (((Below.refl w2.heap.size w2).alloc (by simp <;> omega) (.cells #[.int .i64 a.k, .int .i64 a.n, .slice A_b a.l.length c_b] 24)).trans (hb.mono (by simp <;> omega)))
      have X_b := Lib.hid (show TBox w3 w2.heap.size a.k a.n (.slice A_b a.l.length c_b) from TBox.of ((Bk.new w2 24 #[.int .i64 a.k, .int .i64 a.n, .slice A_b a.l.length c_b]).below hb (by simp <;> omega)))
      have X_t := Lib.hid (X_t.out.kept hj.out X_t.out.lt)
      have X_a := Lib.hid (X_a.out.kept hj.out X_a.out.lt)
      have HB_w := Lib.hid (HB_w.out.trans (hj.out.mono HB_w.out.size))
      have HB_w1 := Lib.hid (HB_w1.out.trans (hj.out.mono HB_w1.out.size))
      have HB_w2 := Lib.hid (HB_w2.out.trans (hj.out.mono HB_w2.out.size))
      have HB_w3 := Lib.hid (Below.refl w3.heap.size w3)
      clear hb hj a0 a1 a2 al
      obtain ⟨t0, t1, t2, tl⟩ := X_t.out
      obtain ⟨z0, z1, z2⟩ := HZ.out _ HB_w.out
      have HK := Lib.hid (fun (V : World) (hV : Below w3.heap.size w3 V) => (show V.cell? ⟨w.heap.size, 0, none⟩ = some (.int .i64 t.k) ∧ V.cell? ⟨w.heap.size, 1, none⟩ = some (.int .i64 t.n) ∧ V.cell? ⟨w.heap.size, 2, none⟩ = some (.slice A_t t.l.length c_t) ∧ V.cell? ⟨gb, go, none⟩ = some (.int .i64 x.k) ∧ V.cell? ⟨gb, go + 1, none⟩ = some (.int .i64 x.n) ∧ V.cell? ⟨gb, go + 2, none⟩ = some (.slice F x.l.length C) from ⟨(X_t.out.kept hV X_t.out.lt).c0, (X_t.out.kept hV X_t.out.lt).c1, (X_t.out.kept hV X_t.out.lt).c2, HZ.out _ (HB_w.out.trans (hV.mono HB_w.out.size))⟩))
      have HD1 := Lib.hid ((Below.refl w3.heap.size w3).drew)
      have HD2 := Lib.hid (((Below.refl w3.heap.size w3).alloc (Nat.le_refl _) (.cells #[.int .i64 0, .int .i64 0, .slice none 0 0] 24)).drew)
      have HD3 := Lib.hid (((Below.refl w3.heap.size w3).drew).alloc (Nat.le_refl _) (.cells #[.int .i64 0, .int .i64 0, .slice none 0 0] 24))
      have HONE := Lib.hid (fun (V : World) (hV : Below w3.heap.size w3 V) => (show Calls Tryd.prog 15 #[.agg #[.int .i64 t.k, .int .i64 t.n, .slice A_t t.l.length c_t], .agg #[.int .i64 x.k, .int .i64 x.n, .slice F x.l.length C]] V (GivesT (a, e1) V) from by
        have hVw := HB_w.out.trans (hV.mono HB_w.out.size)
        exact ((onec_any t _ _ A_t c_t x _ _ F C V (T_t.out V hVw) (by have := hVw.size; omega) (T_x.out V hVw) (by have := hVw.size; omega) (HS.out V hVw)).mono fun _ _ h => GivesT.kept h HE.out)))
      have HV2 := Lib.hid (fun (w5 : World) (hb : Below ((w3.alloc (.cells #[.int .i64 0, .int .i64 0, .slice none 0 0] 24)).drew).heap.size ((w3.alloc (.cells #[.int .i64 0, .int .i64 0, .slice none 0 0] 24)).drew) w5) => (show Bk w5 w3.heap.size 24 #[.int .i64 0, .int .i64 0, .slice none 0 0] from (show Bk ((w3.alloc (.cells #[.int .i64 0, .int .i64 0, .slice none 0 0] 24)).drew) w3.heap.size 24 #[.int .i64 0, .int .i64 0, .slice none 0 0] from Bk.new w3 24 _).below hb (by simp)))
      have HV3 := Lib.hid (fun (w5 : World) (hb : Below ((w3.drew).alloc (.cells #[.int .i64 0, .int .i64 0, .slice none 0 0] 24)).heap.size ((w3.drew).alloc (.cells #[.int .i64 0, .int .i64 0, .slice none 0 0] 24)) w5) => (show Bk w5 w3.heap.size 24 #[.int .i64 0, .int .i64 0, .slice none 0 0] from (show Bk ((w3.drew).alloc (.cells #[.int .i64 0, .int .i64 0, .slice none 0 0] 24)) w3.heap.size 24 #[.int .i64 0, .int .i64 0, .slice none 0 0] from Bk.new w3.drew 24 _).below hb (by simp)))
      have HBB := Lib.hid (fun (V w5 : World) (hb : Below V.heap.size V w5) (hV : Below w3.heap.size w3 V) => hV.trans (hb.mono hV.size))
      unfold GivesT termV at HONE
      go_upto_region 9 with fail
      go_cut [9, 10] from 38 to 44 (fun s9 s10 wx => ∃ gv A' cap', s9 = .pointer (some ⟨gv, 0, none⟩) ∧ s10 = .int .i64 e1 ∧ TBox wx gv a.k a.n (.slice A' a.l.length cap') ∧ Below w3.heap.size w3 wx ∧ IsTerm wx w3.heap.size wx.heap.size a A' cap')
      case first =>
        go_region_held3 (fun w' => w'.cell? ⟨w.heap.size, 0, none⟩ = some (.int .i64 t.k) ∧ w'.cell? ⟨w.heap.size, 1, none⟩ = some (.int .i64 t.n) ∧ w'.cell? ⟨w.heap.size, 2, none⟩ = some (.slice A_t t.l.length c_t) ∧ w'.cell? ⟨gb, go, none⟩ = some (.int .i64 x.k) ∧ w'.cell? ⟨gb, go + 1, none⟩ = some (.int .i64 x.n) ∧ w'.cell? ⟨gb, go + 2, none⟩ = some (.slice F x.l.length C))
          (first | exact HK.out _ HD1.out | exact HK.out _ HD2.out | exact HK.out _ HD3.out | exact HK.out _ hB5 | exact HK.out _ (hB5.alloc hB5.size _) | exact HK.out _ (((hB5.setCell (by simp) _).setCell (by simp) _).setCell (by simp) _))
          (first
          | (go_at_call 15
             refine (HONE.out _ (by first | exact HD1.out | exact HD2.out | exact HD3.out)).mono ?_
             rintro e w5 ⟨A', cap', rfl, hn3, hb3⟩
             have hB5 := HBB.out _ _ hb3 (by first | exact HD1.out | exact HD2.out | exact HD3.out)
             first
             | (have hbkv := HV2.out _ hb3
                have hfz : ∀ o, w5.frozen? ⟨w3.heap.size, o, none⟩ = false := fun o => hbkv.cold o
                have d0 := hbkv.cell 0
                have d1 := hbkv.cell 1
                have d2 := hbkv.cell 2
                simp at d0 d1 d2)
             | (have hbkv := HV3.out _ hb3
                have hfz : ∀ o, w5.frozen? ⟨w3.heap.size, o, none⟩ = false := fun o => hbkv.cold o
                have d0 := hbkv.cell 0
                have d1 := hbkv.cell 1
                have d2 := hbkv.cell 2
                simp at d0 d1 d2)
             | skip))
        all_goals
          go_wp2_with fail
          go_meet
          case rel =>
            first
            | exact ⟨_, A', cap', rfl, rfl, TBox.of (Bk.new w5 _ _), hB5.alloc hB5.size _, (hn3.wide (by simp) (Nat.le_refl _)).late _⟩
            | exact ⟨_, A', cap', rfl, rfl, TBox.of (((hbkv.at_ 0 (.int .i64 a.k)).at_ 1 (.int .i64 a.n)).at_ 2 (.slice A' a.l.length cap')), ((hB5.setCell (by simp) _).setCell (by simp) _).setCell (by simp) _, (hn3.far3 (by simp) _ _ _).wide (by simp) (by simp [World.setCell])⟩
      case rest =>
      obtain ⟨gv, A_c, c_c, rfl, rfl, htb, hbx, hnx⟩ := hcut
      have hj := Lib.hid hbx
      have X_t := Lib.hid (X_t.out.kept hj.out X_t.out.lt)
      have X_a := Lib.hid (X_a.out.kept hj.out X_a.out.lt)
      have X_b := Lib.hid (X_b.out.kept hj.out X_b.out.lt)
      have HB_w := Lib.hid (HB_w.out.trans (hj.out.mono HB_w.out.size))
      have HB_w1 := Lib.hid (HB_w1.out.trans (hj.out.mono HB_w1.out.size))
      have HB_w2 := Lib.hid (HB_w2.out.trans (hj.out.mono HB_w2.out.size))
      have HB_w3 := Lib.hid (HB_w3.out.trans (hj.out.mono HB_w3.out.size))
      have HB_wc := Lib.hid (Below.refl wc.heap.size wc)
      have X_c := Lib.hid htb
      have T_c := Lib.hid (fun V (hV : Below wc.heap.size wc V) => hnx.kept hV (Nat.le_refl _))
      clear hbx hnx htb hj HD1 HD2 HD3 HV2 HV3 HBB HONE HK z0 z1 z2 t0 t1 t2 tl
      obtain ⟨b0, b1, b2, bl⟩ := X_b.out
      obtain ⟨c0, c1, c2, cl⟩ := X_c.out
      go_wp2_with fail
      refine (usame_refl a e1 _ _ _ _ A_c A_b c_c c_b _ (T_c.out _ HB_wc.out) (T_b.out _ HB_w2.out) HB_wc.out.size HB_w2.out.size).mono ?_
      rintro e w4 ⟨rfl, hb⟩
      have hj := Lib.hid hb
      have X_t := Lib.hid (X_t.out.kept hj.out X_t.out.lt)
      have X_a := Lib.hid (X_a.out.kept hj.out X_a.out.lt)
      have X_b := Lib.hid (X_b.out.kept hj.out X_b.out.lt)
      have X_c := Lib.hid (X_c.out.kept hj.out X_c.out.lt)
      have HB_w := Lib.hid (HB_w.out.trans (hj.out.mono HB_w.out.size))
      have HB_w1 := Lib.hid (HB_w1.out.trans (hj.out.mono HB_w1.out.size))
      have HB_w2 := Lib.hid (HB_w2.out.trans (hj.out.mono HB_w2.out.size))
      have HB_w3 := Lib.hid (HB_w3.out.trans (hj.out.mono HB_w3.out.size))
      have HB_wc := Lib.hid (HB_wc.out.trans (hj.out.mono HB_wc.out.size))
      have HB_w4 := Lib.hid (Below.refl w4.heap.size w4)
      clear hb hj b0 b1 b2 bl c0 c1 c2 cl
      go_wp2_with fail
      refine (awakeU_any _ (HS.out _ HB_w.out)).mono ?_
      rintro e w5 ⟨rfl, hb⟩
      have hj := Lib.hid hb
      have X_t := Lib.hid (X_t.out.kept hj.out X_t.out.lt)
      have X_a := Lib.hid (X_a.out.kept hj.out X_a.out.lt)
      have X_b := Lib.hid (X_b.out.kept hj.out X_b.out.lt)
      have X_c := Lib.hid (X_c.out.kept hj.out X_c.out.lt)
      have HB_w := Lib.hid (HB_w.out.trans (hj.out.mono HB_w.out.size))
      have HB_w1 := Lib.hid (HB_w1.out.trans (hj.out.mono HB_w1.out.size))
      have HB_w2 := Lib.hid (HB_w2.out.trans (hj.out.mono HB_w2.out.size))
      have HB_w3 := Lib.hid (HB_w3.out.trans (hj.out.mono HB_w3.out.size))
      have HB_wc := Lib.hid (HB_wc.out.trans (hj.out.mono HB_wc.out.size))
      have HB_w4 := Lib.hid (HB_w4.out.trans (hj.out.mono HB_w4.out.size))
      have HB_w5 := Lib.hid (Below.refl w5.heap.size w5)
      clear hb hj
      go_wp2_with fail
      go_ret
      exact ⟨rfl, HB_w.out⟩

end Go.Proofs.YtcobionbgiaomaaDoor
