/- The walk of the law SubstTwice. -/
import Derived.Test.YtcobionbgiaomaaDoorULaw0
import Derived.Test.YtcobionbgiaomaaDoorUOk
namespace Go.Proofs.YtcobionbgiaomaaDoor
open Go.RowKit
set_option linter.unusedVariables false
set_option maxRecDepth 100000

set_option maxHeartbeats 4000000 in
theorem utwice_walk (t : TM) (A_t : Option Addr) (c_t : Nat) (a : TM) (A_a : Option Addr) (c_a : Nat) (b : TM) (A_b : Option Addr) (c_b : Nat) (w : World) (ht : IsTerm w 0 w.heap.size t A_t c_t) (ha : IsTerm w 0 w.heap.size a A_a c_a) (hb : IsTerm w 0 w.heap.size b A_b c_b) (hS : ShapesM w) :
    Calls Tryd.prog 8 #[termV t A_t c_t, termV a A_a c_a, termV b A_b c_b] w fun e w' => e = .returned (.bool true) ∧ Below w.heap.size w w' := by
  have T_t := Lib.hid (fun (V : World) (hV : Below w.heap.size w V) => ht.kept hV (Nat.le_refl _))
  have T_a := Lib.hid (fun (V : World) (hV : Below w.heap.size w V) => ha.kept hV (Nat.le_refl _))
  have T_b := Lib.hid (fun (V : World) (hV : Below w.heap.size w V) => hb.kept hV (Nat.le_refl _))
  have HS := Lib.hid (fun (V : World) (hV : Below w.heap.size w V) => hS.kept hV)
  obtain ⟨x, e1, hE1⟩ : ∃ pp qq, manyX t [a] = (pp, qq) := ⟨_, _, rfl⟩
  obtain ⟨y, e2, hE2⟩ : ∃ pp qq, manyX x [b] = (pp, qq) := ⟨_, _, rfl⟩
  obtain ⟨u, e3, hE3⟩ : ∃ pp qq, atX t b 1 = (pp, qq) := ⟨_, _, rfl⟩
  obtain ⟨v, e4, hE4⟩ : ∃ pp qq, manyX a [b] = (pp, qq) := ⟨_, _, rfl⟩
  obtain ⟨z, e5, hE5⟩ : ∃ pp qq, manyX u [v] = (pp, qq) := ⟨_, _, rfl⟩
  have HE1 := Lib.hid hE1
  have HE2 := Lib.hid hE2
  have HE3 := Lib.hid hE3
  have HE4 := Lib.hid hE4
  have HE5 := Lib.hid hE5
  clear ht ha hb hS hE1 hE2 hE3 hE4 hE5
  unfold termV
  have HB_w := Lib.hid (Below.refl w.heap.size w)
  go_enter Tryd.func8, Tryd.ntmps8
  go_wp2_with fail
  refine (((onec_any t _ _ A_t c_t a _ _ A_a c_a _ (T_t.out _ (((HB_w.out.alloc HB_w.out.size (.cells #[.int .i64 t.k, .int .i64 t.n, .slice A_t t.l.length c_t] 24)).alloc (HB_w.out.alloc HB_w.out.size (.cells #[.int .i64 t.k, .int .i64 t.n, .slice A_t t.l.length c_t] 24)).size (.cells #[.int .i64 a.k, .int .i64 a.n, .slice A_a a.l.length c_a] 24)).alloc ((HB_w.out.alloc HB_w.out.size (.cells #[.int .i64 t.k, .int .i64 t.n, .slice A_t t.l.length c_t] 24)).alloc (HB_w.out.alloc HB_w.out.size (.cells #[.int .i64 t.k, .int .i64 t.n, .slice A_t t.l.length c_t] 24)).size (.cells #[.int .i64 a.k, .int .i64 a.n, .slice A_a a.l.length c_a] 24)).size (.cells #[.int .i64 b.k, .int .i64 b.n, .slice A_b b.l.length c_b] 24))) (((HB_w.out.alloc HB_w.out.size (.cells #[.int .i64 t.k, .int .i64 t.n, .slice A_t t.l.length c_t] 24)).alloc (HB_w.out.alloc HB_w.out.size (.cells #[.int .i64 t.k, .int .i64 t.n, .slice A_t t.l.length c_t] 24)).size (.cells #[.int .i64 a.k, .int .i64 a.n, .slice A_a a.l.length c_a] 24)).alloc ((HB_w.out.alloc HB_w.out.size (.cells #[.int .i64 t.k, .int .i64 t.n, .slice A_t t.l.length c_t] 24)).alloc (HB_w.out.alloc HB_w.out.size (.cells #[.int .i64 t.k, .int .i64 t.n, .slice A_t t.l.length c_t] 24)).size (.cells #[.int .i64 a.k, .int .i64 a.n, .slice A_a a.l.length c_a] 24)).size (.cells #[.int .i64 b.k, .int .i64 b.n, .slice A_b b.l.length c_b] 24)).size (T_a.out _ (((HB_w.out.alloc HB_w.out.size (.cells #[.int .i64 t.k, .int .i64 t.n, .slice A_t t.l.length c_t] 24)).alloc (HB_w.out.alloc HB_w.out.size (.cells #[.int .i64 t.k, .int .i64 t.n, .slice A_t t.l.length c_t] 24)).size (.cells #[.int .i64 a.k, .int .i64 a.n, .slice A_a a.l.length c_a] 24)).alloc ((HB_w.out.alloc HB_w.out.size (.cells #[.int .i64 t.k, .int .i64 t.n, .slice A_t t.l.length c_t] 24)).alloc (HB_w.out.alloc HB_w.out.size (.cells #[.int .i64 t.k, .int .i64 t.n, .slice A_t t.l.length c_t] 24)).size (.cells #[.int .i64 a.k, .int .i64 a.n, .slice A_a a.l.length c_a] 24)).size (.cells #[.int .i64 b.k, .int .i64 b.n, .slice A_b b.l.length c_b] 24))) (((HB_w.out.alloc HB_w.out.size (.cells #[.int .i64 t.k, .int .i64 t.n, .slice A_t t.l.length c_t] 24)).alloc (HB_w.out.alloc HB_w.out.size (.cells #[.int .i64 t.k, .int .i64 t.n, .slice A_t t.l.length c_t] 24)).size (.cells #[.int .i64 a.k, .int .i64 a.n, .slice A_a a.l.length c_a] 24)).alloc ((HB_w.out.alloc HB_w.out.size (.cells #[.int .i64 t.k, .int .i64 t.n, .slice A_t t.l.length c_t] 24)).alloc (HB_w.out.alloc HB_w.out.size (.cells #[.int .i64 t.k, .int .i64 t.n, .slice A_t t.l.length c_t] 24)).size (.cells #[.int .i64 a.k, .int .i64 a.n, .slice A_a a.l.length c_a] 24)).size (.cells #[.int .i64 b.k, .int .i64 b.n, .slice A_b b.l.length c_b] 24)).size (HS.out _ (((HB_w.out.alloc HB_w.out.size (.cells #[.int .i64 t.k, .int .i64 t.n, .slice A_t t.l.length c_t] 24)).alloc (HB_w.out.alloc HB_w.out.size (.cells #[.int .i64 t.k, .int .i64 t.n, .slice A_t t.l.length c_t] 24)).size (.cells #[.int .i64 a.k, .int .i64 a.n, .slice A_a a.l.length c_a] 24)).alloc ((HB_w.out.alloc HB_w.out.size (.cells #[.int .i64 t.k, .int .i64 t.n, .slice A_t t.l.length c_t] 24)).alloc (HB_w.out.alloc HB_w.out.size (.cells #[.int .i64 t.k, .int .i64 t.n, .slice A_t t.l.length c_t] 24)).size (.cells #[.int .i64 a.k, .int .i64 a.n, .slice A_a a.l.length c_a] 24)).size (.cells #[.int .i64 b.k, .int .i64 b.n, .slice A_b b.l.length c_b] 24)))).mono fun _ _ h => GivesT.kept h HE1.out)).mono ?_
  rintro e w1 ⟨A_x, c_x, rfl, hx, hb⟩
  rw [termV]
  have hj := Lib.hid (((((Below.refl w.heap.size w).alloc (by simp <;> omega) (.cells #[.int .i64 t.k, .int .i64 t.n, .slice A_t t.l.length c_t] 24)).alloc (by simp <;> omega) (.cells #[.int .i64 a.k, .int .i64 a.n, .slice A_a a.l.length c_a] 24)).alloc (by simp <;> omega) (.cells #[.int .i64 b.k, .int .i64 b.n, .slice A_b b.l.length c_b] 24)).trans (hb.mono (by simp <;> omega)))
  have X_t := Lib.hid (show TBox w1 w.heap.size t.k t.n (.slice A_t t.l.length c_t) from TBox.of ((((Bk.new w 24 #[.int .i64 t.k, .int .i64 t.n, .slice A_t t.l.length c_t]).alloc (.cells #[.int .i64 a.k, .int .i64 a.n, .slice A_a a.l.length c_a] 24)).alloc (.cells #[.int .i64 b.k, .int .i64 b.n, .slice A_b b.l.length c_b] 24)).below hb (by simp <;> omega)))
  have X_a := Lib.hid (show TBox w1 (w.heap.size + 1) a.k a.n (.slice A_a a.l.length c_a) from TBox.of (((Bk.last (w.alloc (.cells #[.int .i64 t.k, .int .i64 t.n, .slice A_t t.l.length c_t] 24)) 24 #[.int .i64 a.k, .int .i64 a.n, .slice A_a a.l.length c_a] (g := (w.heap.size + 1)) (by simp)).alloc (.cells #[.int .i64 b.k, .int .i64 b.n, .slice A_b b.l.length c_b] 24)).below hb (by simp <;> omega)))
  have X_b := Lib.hid (show TBox w1 (w.heap.size + 1 + 1) b.k b.n (.slice A_b b.l.length c_b) from TBox.of ((Bk.last ((w.alloc (.cells #[.int .i64 t.k, .int .i64 t.n, .slice A_t t.l.length c_t] 24)).alloc (.cells #[.int .i64 a.k, .int .i64 a.n, .slice A_a a.l.length c_a] 24)) 24 #[.int .i64 b.k, .int .i64 b.n, .slice A_b b.l.length c_b] (g := (w.heap.size + 1 + 1)) (by simp)).below hb (by simp <;> omega)))
  have HB_w := Lib.hid (HB_w.out.trans (hj.out.mono HB_w.out.size))
  have HB_w1 := Lib.hid (Below.refl w1.heap.size w1)
  have T_x := Lib.hid (fun V (hV : Below w1.heap.size w1 V) => hx.kept hV (Nat.le_refl _))
  clear hx
  clear hb hj
  obtain ⟨b0, b1, b2, bl⟩ := X_b.out
  go_wp2_with fail
  refine (((onec_any x _ _ A_x c_x b _ _ A_b c_b _ (T_x.out _ (HB_w1.out.alloc HB_w1.out.size (.cells #[.int .i64 x.k, .int .i64 x.n, .slice A_x x.l.length c_x] 24))) (HB_w1.out.alloc HB_w1.out.size (.cells #[.int .i64 x.k, .int .i64 x.n, .slice A_x x.l.length c_x] 24)).size (T_b.out _ (HB_w.out.alloc HB_w.out.size (.cells #[.int .i64 x.k, .int .i64 x.n, .slice A_x x.l.length c_x] 24))) (HB_w.out.alloc HB_w.out.size (.cells #[.int .i64 x.k, .int .i64 x.n, .slice A_x x.l.length c_x] 24)).size (HS.out _ (HB_w.out.alloc HB_w.out.size (.cells #[.int .i64 x.k, .int .i64 x.n, .slice A_x x.l.length c_x] 24)))).mono fun _ _ h => GivesT.kept h HE2.out)).mono ?_
  rintro e w2 ⟨A_y, c_y, rfl, hx, hb⟩
  rw [termV]
  have hj := Lib.hid (((Below.refl w1.heap.size w1).alloc (by simp <;> omega) (.cells #[.int .i64 x.k, .int .i64 x.n, .slice A_x x.l.length c_x] 24)).trans (hb.mono (by simp <;> omega)))
  have X_x := Lib.hid (show TBox w2 w1.heap.size x.k x.n (.slice A_x x.l.length c_x) from TBox.of ((Bk.new w1 24 #[.int .i64 x.k, .int .i64 x.n, .slice A_x x.l.length c_x]).below hb (by simp <;> omega)))
  have X_t := Lib.hid (X_t.out.kept hj.out X_t.out.lt)
  have X_a := Lib.hid (X_a.out.kept hj.out X_a.out.lt)
  have X_b := Lib.hid (X_b.out.kept hj.out X_b.out.lt)
  have HB_w := Lib.hid (HB_w.out.trans (hj.out.mono HB_w.out.size))
  have HB_w1 := Lib.hid (HB_w1.out.trans (hj.out.mono HB_w1.out.size))
  have HB_w2 := Lib.hid (Below.refl w2.heap.size w2)
  have T_y := Lib.hid (fun V (hV : Below w2.heap.size w2 V) => hx.kept hV (Nat.le_refl _))
  clear hx
  clear hb hj b0 b1 b2 bl
  obtain ⟨t0, t1, t2, tl⟩ := X_t.out
  obtain ⟨b0, b1, b2, bl⟩ := X_b.out
  go_wp2_with fail
  refine (((at_any t _ _ A_t c_t b _ _ A_b c_b 1 _ (T_t.out _ (HB_w.out.alloc HB_w.out.size (.cells #[.int .i64 y.k, .int .i64 y.n, .slice A_y y.l.length c_y] 24))) (HB_w.out.alloc HB_w.out.size (.cells #[.int .i64 y.k, .int .i64 y.n, .slice A_y y.l.length c_y] 24)).size (T_b.out _ (HB_w.out.alloc HB_w.out.size (.cells #[.int .i64 y.k, .int .i64 y.n, .slice A_y y.l.length c_y] 24))) (HB_w.out.alloc HB_w.out.size (.cells #[.int .i64 y.k, .int .i64 y.n, .slice A_y y.l.length c_y] 24)).size (HS.out _ (HB_w.out.alloc HB_w.out.size (.cells #[.int .i64 y.k, .int .i64 y.n, .slice A_y y.l.length c_y] 24)))).mono fun _ _ h => GivesT.kept h HE3.out)).mono ?_
  rintro e w3 ⟨A_u, c_u, rfl, hx, hb⟩
  rw [termV]
  have hj := Lib.hid (((Below.refl w2.heap.size w2).alloc (by simp <;> omega) (.cells #[.int .i64 y.k, .int .i64 y.n, .slice A_y y.l.length c_y] 24)).trans (hb.mono (by simp <;> omega)))
  have X_y := Lib.hid (show TBox w3 w2.heap.size y.k y.n (.slice A_y y.l.length c_y) from TBox.of ((Bk.new w2 24 #[.int .i64 y.k, .int .i64 y.n, .slice A_y y.l.length c_y]).below hb (by simp <;> omega)))
  have X_t := Lib.hid (X_t.out.kept hj.out X_t.out.lt)
  have X_a := Lib.hid (X_a.out.kept hj.out X_a.out.lt)
  have X_b := Lib.hid (X_b.out.kept hj.out X_b.out.lt)
  have X_x := Lib.hid (X_x.out.kept hj.out X_x.out.lt)
  have HB_w := Lib.hid (HB_w.out.trans (hj.out.mono HB_w.out.size))
  have HB_w1 := Lib.hid (HB_w1.out.trans (hj.out.mono HB_w1.out.size))
  have HB_w2 := Lib.hid (HB_w2.out.trans (hj.out.mono HB_w2.out.size))
  have HB_w3 := Lib.hid (Below.refl w3.heap.size w3)
  have T_u := Lib.hid (fun V (hV : Below w3.heap.size w3 V) => hx.kept hV (Nat.le_refl _))
  clear hx
  clear hb hj t0 t1 t2 tl b0 b1 b2 bl
  obtain ⟨a0, a1, a2, al⟩ := X_a.out
  obtain ⟨b0, b1, b2, bl⟩ := X_b.out
  go_wp2_with fail
  refine (((onec_any a _ _ A_a c_a b _ _ A_b c_b _ (T_a.out _ (HB_w.out.alloc HB_w.out.size (.cells #[.int .i64 u.k, .int .i64 u.n, .slice A_u u.l.length c_u] 24))) (HB_w.out.alloc HB_w.out.size (.cells #[.int .i64 u.k, .int .i64 u.n, .slice A_u u.l.length c_u] 24)).size (T_b.out _ (HB_w.out.alloc HB_w.out.size (.cells #[.int .i64 u.k, .int .i64 u.n, .slice A_u u.l.length c_u] 24))) (HB_w.out.alloc HB_w.out.size (.cells #[.int .i64 u.k, .int .i64 u.n, .slice A_u u.l.length c_u] 24)).size (HS.out _ (HB_w.out.alloc HB_w.out.size (.cells #[.int .i64 u.k, .int .i64 u.n, .slice A_u u.l.length c_u] 24)))).mono fun _ _ h => GivesT.kept h HE4.out)).mono ?_
  rintro e w4 ⟨A_v, c_v, rfl, hx, hb⟩
  rw [termV]
  have hj := Lib.hid (((Below.refl w3.heap.size w3).alloc (by simp <;> omega) (.cells #[.int .i64 u.k, .int .i64 u.n, .slice A_u u.l.length c_u] 24)).trans (hb.mono (by simp <;> omega)))
  have X_u := Lib.hid (show TBox w4 w3.heap.size u.k u.n (.slice A_u u.l.length c_u) from TBox.of ((Bk.new w3 24 #[.int .i64 u.k, .int .i64 u.n, .slice A_u u.l.length c_u]).below hb (by simp <;> omega)))
  have X_t := Lib.hid (X_t.out.kept hj.out X_t.out.lt)
  have X_a := Lib.hid (X_a.out.kept hj.out X_a.out.lt)
  have X_b := Lib.hid (X_b.out.kept hj.out X_b.out.lt)
  have X_x := Lib.hid (X_x.out.kept hj.out X_x.out.lt)
  have X_y := Lib.hid (X_y.out.kept hj.out X_y.out.lt)
  have HB_w := Lib.hid (HB_w.out.trans (hj.out.mono HB_w.out.size))
  have HB_w1 := Lib.hid (HB_w1.out.trans (hj.out.mono HB_w1.out.size))
  have HB_w2 := Lib.hid (HB_w2.out.trans (hj.out.mono HB_w2.out.size))
  have HB_w3 := Lib.hid (HB_w3.out.trans (hj.out.mono HB_w3.out.size))
  have HB_w4 := Lib.hid (Below.refl w4.heap.size w4)
  have T_v := Lib.hid (fun V (hV : Below w4.heap.size w4 V) => hx.kept hV (Nat.le_refl _))
  clear hx
  clear hb hj a0 a1 a2 al b0 b1 b2 bl
  obtain ⟨u0, u1, u2, ul⟩ := X_u.out
  go_wp2_with fail
  refine (((onec_any u _ _ A_u c_u v _ _ A_v c_v _ (T_u.out _ (HB_w3.out.alloc HB_w3.out.size (.cells #[.int .i64 v.k, .int .i64 v.n, .slice A_v v.l.length c_v] 24))) (HB_w3.out.alloc HB_w3.out.size (.cells #[.int .i64 v.k, .int .i64 v.n, .slice A_v v.l.length c_v] 24)).size (T_v.out _ (HB_w4.out.alloc HB_w4.out.size (.cells #[.int .i64 v.k, .int .i64 v.n, .slice A_v v.l.length c_v] 24))) (HB_w4.out.alloc HB_w4.out.size (.cells #[.int .i64 v.k, .int .i64 v.n, .slice A_v v.l.length c_v] 24)).size (HS.out _ (HB_w.out.alloc HB_w.out.size (.cells #[.int .i64 v.k, .int .i64 v.n, .slice A_v v.l.length c_v] 24)))).mono fun _ _ h => GivesT.kept h HE5.out)).mono ?_
  rintro e w5 ⟨A_z, c_z, rfl, hx, hb⟩
  rw [termV]
  have hj := Lib.hid (((Below.refl w4.heap.size w4).alloc (by simp <;> omega) (.cells #[.int .i64 v.k, .int .i64 v.n, .slice A_v v.l.length c_v] 24)).trans (hb.mono (by simp <;> omega)))
  have X_v := Lib.hid (show TBox w5 w4.heap.size v.k v.n (.slice A_v v.l.length c_v) from TBox.of ((Bk.new w4 24 #[.int .i64 v.k, .int .i64 v.n, .slice A_v v.l.length c_v]).below hb (by simp <;> omega)))
  have X_t := Lib.hid (X_t.out.kept hj.out X_t.out.lt)
  have X_a := Lib.hid (X_a.out.kept hj.out X_a.out.lt)
  have X_b := Lib.hid (X_b.out.kept hj.out X_b.out.lt)
  have X_x := Lib.hid (X_x.out.kept hj.out X_x.out.lt)
  have X_y := Lib.hid (X_y.out.kept hj.out X_y.out.lt)
  have X_u := Lib.hid (X_u.out.kept hj.out X_u.out.lt)
  have HB_w := Lib.hid (HB_w.out.trans (hj.out.mono HB_w.out.size))
  have HB_w1 := Lib.hid (HB_w1.out.trans (hj.out.mono HB_w1.out.size))
  have HB_w2 := Lib.hid (HB_w2.out.trans (hj.out.mono HB_w2.out.size))
  have HB_w3 := Lib.hid (HB_w3.out.trans (hj.out.mono HB_w3.out.size))
  have HB_w4 := Lib.hid (HB_w4.out.trans (hj.out.mono HB_w4.out.size))
  have HB_w5 := Lib.hid (Below.refl w5.heap.size w5)
  have T_z := Lib.hid (fun V (hV : Below w5.heap.size w5 V) => hx.kept hV (Nat.le_refl _))
  clear hx
  clear hb hj u0 u1 u2 ul
  obtain ⟨y0, y1, y2, yl⟩ := X_y.out
  by_cases h1 : e1 = 0
  rotate_left
  · have q1 : (e1 != 0) = true := by simpa using h1
    clear h1
    go_wp2_with fail
    refine (awakeU_any _ (HS.out _ (HB_w.out.alloc HB_w.out.size (.cells #[.int .i64 z.k, .int .i64 z.n, .slice A_z z.l.length c_z] 24)))).mono ?_
    rintro e w6 ⟨rfl, hb⟩
    have hj := Lib.hid (((Below.refl w5.heap.size w5).alloc (by simp <;> omega) (.cells #[.int .i64 z.k, .int .i64 z.n, .slice A_z z.l.length c_z] 24)).trans (hb.mono (by simp <;> omega)))
    have X_z := Lib.hid (show TBox w6 w5.heap.size z.k z.n (.slice A_z z.l.length c_z) from TBox.of ((Bk.new w5 24 #[.int .i64 z.k, .int .i64 z.n, .slice A_z z.l.length c_z]).below hb (by simp <;> omega)))
    have X_t := Lib.hid (X_t.out.kept hj.out X_t.out.lt)
    have X_a := Lib.hid (X_a.out.kept hj.out X_a.out.lt)
    have X_b := Lib.hid (X_b.out.kept hj.out X_b.out.lt)
    have X_x := Lib.hid (X_x.out.kept hj.out X_x.out.lt)
    have X_y := Lib.hid (X_y.out.kept hj.out X_y.out.lt)
    have X_u := Lib.hid (X_u.out.kept hj.out X_u.out.lt)
    have X_v := Lib.hid (X_v.out.kept hj.out X_v.out.lt)
    have HB_w := Lib.hid (HB_w.out.trans (hj.out.mono HB_w.out.size))
    have HB_w1 := Lib.hid (HB_w1.out.trans (hj.out.mono HB_w1.out.size))
    have HB_w2 := Lib.hid (HB_w2.out.trans (hj.out.mono HB_w2.out.size))
    have HB_w3 := Lib.hid (HB_w3.out.trans (hj.out.mono HB_w3.out.size))
    have HB_w4 := Lib.hid (HB_w4.out.trans (hj.out.mono HB_w4.out.size))
    have HB_w5 := Lib.hid (HB_w5.out.trans (hj.out.mono HB_w5.out.size))
    have HB_w6 := Lib.hid (Below.refl w6.heap.size w6)
    clear hb hj y0 y1 y2 yl
    go_wp2_with fail
    go_ret
    exact ⟨rfl, HB_w.out⟩
  have q1 : (e1 != 0) = false := by rw [h1]; rfl
  subst h1
  by_cases h2 : e2 = 0
  rotate_left
  · have q2 : (e2 != 0) = true := by simpa using h2
    clear h2
    go_wp2_with fail
    refine (awakeU_any _ (HS.out _ (HB_w.out.alloc HB_w.out.size (.cells #[.int .i64 z.k, .int .i64 z.n, .slice A_z z.l.length c_z] 24)))).mono ?_
    rintro e w6 ⟨rfl, hb⟩
    have hj := Lib.hid (((Below.refl w5.heap.size w5).alloc (by simp <;> omega) (.cells #[.int .i64 z.k, .int .i64 z.n, .slice A_z z.l.length c_z] 24)).trans (hb.mono (by simp <;> omega)))
    have X_z := Lib.hid (show TBox w6 w5.heap.size z.k z.n (.slice A_z z.l.length c_z) from TBox.of ((Bk.new w5 24 #[.int .i64 z.k, .int .i64 z.n, .slice A_z z.l.length c_z]).below hb (by simp <;> omega)))
    have X_t := Lib.hid (X_t.out.kept hj.out X_t.out.lt)
    have X_a := Lib.hid (X_a.out.kept hj.out X_a.out.lt)
    have X_b := Lib.hid (X_b.out.kept hj.out X_b.out.lt)
    have X_x := Lib.hid (X_x.out.kept hj.out X_x.out.lt)
    have X_y := Lib.hid (X_y.out.kept hj.out X_y.out.lt)
    have X_u := Lib.hid (X_u.out.kept hj.out X_u.out.lt)
    have X_v := Lib.hid (X_v.out.kept hj.out X_v.out.lt)
    have HB_w := Lib.hid (HB_w.out.trans (hj.out.mono HB_w.out.size))
    have HB_w1 := Lib.hid (HB_w1.out.trans (hj.out.mono HB_w1.out.size))
    have HB_w2 := Lib.hid (HB_w2.out.trans (hj.out.mono HB_w2.out.size))
    have HB_w3 := Lib.hid (HB_w3.out.trans (hj.out.mono HB_w3.out.size))
    have HB_w4 := Lib.hid (HB_w4.out.trans (hj.out.mono HB_w4.out.size))
    have HB_w5 := Lib.hid (HB_w5.out.trans (hj.out.mono HB_w5.out.size))
    have HB_w6 := Lib.hid (Below.refl w6.heap.size w6)
    clear hb hj y0 y1 y2 yl
    go_wp2_with fail
    go_ret
    exact ⟨rfl, HB_w.out⟩
  have q2 : (e2 != 0) = false := by rw [h2]; rfl
  subst h2
  by_cases h3 : e3 = 0
  rotate_left
  · have q3 : (e3 != 0) = true := by simpa using h3
    clear h3
    go_wp2_with fail
    refine (awakeU_any _ (HS.out _ (HB_w.out.alloc HB_w.out.size (.cells #[.int .i64 z.k, .int .i64 z.n, .slice A_z z.l.length c_z] 24)))).mono ?_
    rintro e w6 ⟨rfl, hb⟩
    have hj := Lib.hid (((Below.refl w5.heap.size w5).alloc (by simp <;> omega) (.cells #[.int .i64 z.k, .int .i64 z.n, .slice A_z z.l.length c_z] 24)).trans (hb.mono (by simp <;> omega)))
    have X_z := Lib.hid (show TBox w6 w5.heap.size z.k z.n (.slice A_z z.l.length c_z) from TBox.of ((Bk.new w5 24 #[.int .i64 z.k, .int .i64 z.n, .slice A_z z.l.length c_z]).below hb (by simp <;> omega)))
    have X_t := Lib.hid (X_t.out.kept hj.out X_t.out.lt)
    have X_a := Lib.hid (X_a.out.kept hj.out X_a.out.lt)
    have X_b := Lib.hid (X_b.out.kept hj.out X_b.out.lt)
    have X_x := Lib.hid (X_x.out.kept hj.out X_x.out.lt)
    have X_y := Lib.hid (X_y.out.kept hj.out X_y.out.lt)
    have X_u := Lib.hid (X_u.out.kept hj.out X_u.out.lt)
    have X_v := Lib.hid (X_v.out.kept hj.out X_v.out.lt)
    have HB_w := Lib.hid (HB_w.out.trans (hj.out.mono HB_w.out.size))
    have HB_w1 := Lib.hid (HB_w1.out.trans (hj.out.mono HB_w1.out.size))
    have HB_w2 := Lib.hid (HB_w2.out.trans (hj.out.mono HB_w2.out.size))
    have HB_w3 := Lib.hid (HB_w3.out.trans (hj.out.mono HB_w3.out.size))
    have HB_w4 := Lib.hid (HB_w4.out.trans (hj.out.mono HB_w4.out.size))
    have HB_w5 := Lib.hid (HB_w5.out.trans (hj.out.mono HB_w5.out.size))
    have HB_w6 := Lib.hid (Below.refl w6.heap.size w6)
    clear hb hj y0 y1 y2 yl
    go_wp2_with fail
    go_ret
    exact ⟨rfl, HB_w.out⟩
  have q3 : (e3 != 0) = false := by rw [h3]; rfl
  subst h3
  by_cases h4 : e4 = 0
  rotate_left
  · have q4 : (e4 != 0) = true := by simpa using h4
    clear h4
    go_wp2_with fail
    refine (awakeU_any _ (HS.out _ (HB_w.out.alloc HB_w.out.size (.cells #[.int .i64 z.k, .int .i64 z.n, .slice A_z z.l.length c_z] 24)))).mono ?_
    rintro e w6 ⟨rfl, hb⟩
    have hj := Lib.hid (((Below.refl w5.heap.size w5).alloc (by simp <;> omega) (.cells #[.int .i64 z.k, .int .i64 z.n, .slice A_z z.l.length c_z] 24)).trans (hb.mono (by simp <;> omega)))
    have X_z := Lib.hid (show TBox w6 w5.heap.size z.k z.n (.slice A_z z.l.length c_z) from TBox.of ((Bk.new w5 24 #[.int .i64 z.k, .int .i64 z.n, .slice A_z z.l.length c_z]).below hb (by simp <;> omega)))
    have X_t := Lib.hid (X_t.out.kept hj.out X_t.out.lt)
    have X_a := Lib.hid (X_a.out.kept hj.out X_a.out.lt)
    have X_b := Lib.hid (X_b.out.kept hj.out X_b.out.lt)
    have X_x := Lib.hid (X_x.out.kept hj.out X_x.out.lt)
    have X_y := Lib.hid (X_y.out.kept hj.out X_y.out.lt)
    have X_u := Lib.hid (X_u.out.kept hj.out X_u.out.lt)
    have X_v := Lib.hid (X_v.out.kept hj.out X_v.out.lt)
    have HB_w := Lib.hid (HB_w.out.trans (hj.out.mono HB_w.out.size))
    have HB_w1 := Lib.hid (HB_w1.out.trans (hj.out.mono HB_w1.out.size))
    have HB_w2 := Lib.hid (HB_w2.out.trans (hj.out.mono HB_w2.out.size))
    have HB_w3 := Lib.hid (HB_w3.out.trans (hj.out.mono HB_w3.out.size))
    have HB_w4 := Lib.hid (HB_w4.out.trans (hj.out.mono HB_w4.out.size))
    have HB_w5 := Lib.hid (HB_w5.out.trans (hj.out.mono HB_w5.out.size))
    have HB_w6 := Lib.hid (Below.refl w6.heap.size w6)
    clear hb hj y0 y1 y2 yl
    go_wp2_with fail
    go_ret
    exact ⟨rfl, HB_w.out⟩
  have q4 : (e4 != 0) = false := by rw [h4]; rfl
  subst h4
  by_cases h5 : e5 = 0
  rotate_left
  · have q5 : (e5 != 0) = true := by simpa using h5
    clear h5
    go_wp2_with fail
    refine (awakeU_any _ (HS.out _ (HB_w.out.alloc HB_w.out.size (.cells #[.int .i64 z.k, .int .i64 z.n, .slice A_z z.l.length c_z] 24)))).mono ?_
    rintro e w6 ⟨rfl, hb⟩
    have hj := Lib.hid (((Below.refl w5.heap.size w5).alloc (by simp <;> omega) (.cells #[.int .i64 z.k, .int .i64 z.n, .slice A_z z.l.length c_z] 24)).trans (hb.mono (by simp <;> omega)))
    have X_z := Lib.hid (show TBox w6 w5.heap.size z.k z.n (.slice A_z z.l.length c_z) from TBox.of ((Bk.new w5 24 #[.int .i64 z.k, .int .i64 z.n, .slice A_z z.l.length c_z]).below hb (by simp <;> omega)))
    have X_t := Lib.hid (X_t.out.kept hj.out X_t.out.lt)
    have X_a := Lib.hid (X_a.out.kept hj.out X_a.out.lt)
    have X_b := Lib.hid (X_b.out.kept hj.out X_b.out.lt)
    have X_x := Lib.hid (X_x.out.kept hj.out X_x.out.lt)
    have X_y := Lib.hid (X_y.out.kept hj.out X_y.out.lt)
    have X_u := Lib.hid (X_u.out.kept hj.out X_u.out.lt)
    have X_v := Lib.hid (X_v.out.kept hj.out X_v.out.lt)
    have HB_w := Lib.hid (HB_w.out.trans (hj.out.mono HB_w.out.size))
    have HB_w1 := Lib.hid (HB_w1.out.trans (hj.out.mono HB_w1.out.size))
    have HB_w2 := Lib.hid (HB_w2.out.trans (hj.out.mono HB_w2.out.size))
    have HB_w3 := Lib.hid (HB_w3.out.trans (hj.out.mono HB_w3.out.size))
    have HB_w4 := Lib.hid (HB_w4.out.trans (hj.out.mono HB_w4.out.size))
    have HB_w5 := Lib.hid (HB_w5.out.trans (hj.out.mono HB_w5.out.size))
    have HB_w6 := Lib.hid (Below.refl w6.heap.size w6)
    clear hb hj y0 y1 y2 yl
    go_wp2_with fail
    go_ret
    exact ⟨rfl, HB_w.out⟩
  have q5 : (e5 != 0) = false := by rw [h5]; rfl
  subst h5
  have HYZ := Lib.hid (show alikeT y z = true from by rw [twice_same HE1.out HE2.out HE3.out HE4.out HE5.out]; exact alikeT_refl z)
  go_wp2_with fail
  refine ((refEqual_any y z _ _ _ _ A_y A_z c_y c_z _ (T_y.out _ (HB_w2.out.alloc HB_w2.out.size (.cells #[.int .i64 z.k, .int .i64 z.n, .slice A_z z.l.length c_z] 24))) (T_z.out _ (HB_w5.out.alloc HB_w5.out.size (.cells #[.int .i64 z.k, .int .i64 z.n, .slice A_z z.l.length c_z] 24))) (HB_w2.out.alloc HB_w2.out.size (.cells #[.int .i64 z.k, .int .i64 z.n, .slice A_z z.l.length c_z] 24)).size (HB_w5.out.alloc HB_w5.out.size (.cells #[.int .i64 z.k, .int .i64 z.n, .slice A_z z.l.length c_z] 24)).size).mono fun _ _ h => (show _ ∧ _ from ⟨h.1.trans (by rw [HYZ.out]), h.2⟩)).mono ?_
  rintro e w6 ⟨rfl, hb⟩
  have hj := Lib.hid (((Below.refl w5.heap.size w5).alloc (by simp <;> omega) (.cells #[.int .i64 z.k, .int .i64 z.n, .slice A_z z.l.length c_z] 24)).trans (hb.mono (by simp <;> omega)))
  have X_z := Lib.hid (show TBox w6 w5.heap.size z.k z.n (.slice A_z z.l.length c_z) from TBox.of ((Bk.new w5 24 #[.int .i64 z.k, .int .i64 z.n, .slice A_z z.l.length c_z]).below hb (by simp <;> omega)))
  have X_t := Lib.hid (X_t.out.kept hj.out X_t.out.lt)
  have X_a := Lib.hid (X_a.out.kept hj.out X_a.out.lt)
  have X_b := Lib.hid (X_b.out.kept hj.out X_b.out.lt)
  have X_x := Lib.hid (X_x.out.kept hj.out X_x.out.lt)
  have X_y := Lib.hid (X_y.out.kept hj.out X_y.out.lt)
  have X_u := Lib.hid (X_u.out.kept hj.out X_u.out.lt)
  have X_v := Lib.hid (X_v.out.kept hj.out X_v.out.lt)
  have HB_w := Lib.hid (HB_w.out.trans (hj.out.mono HB_w.out.size))
  have HB_w1 := Lib.hid (HB_w1.out.trans (hj.out.mono HB_w1.out.size))
  have HB_w2 := Lib.hid (HB_w2.out.trans (hj.out.mono HB_w2.out.size))
  have HB_w3 := Lib.hid (HB_w3.out.trans (hj.out.mono HB_w3.out.size))
  have HB_w4 := Lib.hid (HB_w4.out.trans (hj.out.mono HB_w4.out.size))
  have HB_w5 := Lib.hid (HB_w5.out.trans (hj.out.mono HB_w5.out.size))
  have HB_w6 := Lib.hid (Below.refl w6.heap.size w6)
  clear hb hj y0 y1 y2 yl
  go_wp2_with fail
  refine (awakeU_any _ (HS.out _ HB_w.out)).mono ?_
  rintro e w7 ⟨rfl, hb⟩
  have hj := Lib.hid hb
  have X_t := Lib.hid (X_t.out.kept hj.out X_t.out.lt)
  have X_a := Lib.hid (X_a.out.kept hj.out X_a.out.lt)
  have X_b := Lib.hid (X_b.out.kept hj.out X_b.out.lt)
  have X_x := Lib.hid (X_x.out.kept hj.out X_x.out.lt)
  have X_y := Lib.hid (X_y.out.kept hj.out X_y.out.lt)
  have X_u := Lib.hid (X_u.out.kept hj.out X_u.out.lt)
  have X_v := Lib.hid (X_v.out.kept hj.out X_v.out.lt)
  have X_z := Lib.hid (X_z.out.kept hj.out X_z.out.lt)
  have HB_w := Lib.hid (HB_w.out.trans (hj.out.mono HB_w.out.size))
  have HB_w1 := Lib.hid (HB_w1.out.trans (hj.out.mono HB_w1.out.size))
  have HB_w2 := Lib.hid (HB_w2.out.trans (hj.out.mono HB_w2.out.size))
  have HB_w3 := Lib.hid (HB_w3.out.trans (hj.out.mono HB_w3.out.size))
  have HB_w4 := Lib.hid (HB_w4.out.trans (hj.out.mono HB_w4.out.size))
  have HB_w5 := Lib.hid (HB_w5.out.trans (hj.out.mono HB_w5.out.size))
  have HB_w6 := Lib.hid (HB_w6.out.trans (hj.out.mono HB_w6.out.size))
  have HB_w7 := Lib.hid (Below.refl w7.heap.size w7)
  clear hb hj
  go_wp2_with fail
  go_ret
  exact ⟨rfl, HB_w.out⟩

end Go.Proofs.YtcobionbgiaomaaDoor
