/- The walk of the law SubstNames. -/
import Derived.Test.YtcobionbgiaomaaDoorULaw0
import Derived.Test.YtcobionbgiaomaaDoorURCalls
import Derived.Test.YtcobionbgiaomaaDoorURCallB
namespace Go.Proofs.YtcobionbgiaomaaDoor
open Go.RowKit
set_option linter.unusedVariables false
set_option maxRecDepth 100000

set_option maxHeartbeats 4000000 in
theorem unames_walk (t : TM) (A_t : Option Addr) (c_t : Nat) (u : TM) (A_u : Option Addr) (c_u : Nat) (n : Int) (w : World) (ht : IsTerm w 0 w.heap.size t A_t c_t) (hu : IsTerm w 0 w.heap.size u A_u c_u) (hS : ShapesM w) :
    Calls Tryd.prog 5 #[termV t A_t c_t, termV u A_u c_u, .int .i64 n] w fun e w' => e = .returned (.bool true) ∧ Below w.heap.size w w' := by
  have T_t := Lib.hid (fun (V : World) (hV : Below w.heap.size w V) => ht.kept hV (Nat.le_refl _))
  have T_u := Lib.hid (fun (V : World) (hV : Below w.heap.size w V) => hu.kept hV (Nat.le_refl _))
  have HS := Lib.hid (fun (V : World) (hV : Below w.heap.size w V) => hS.kept hV)
  obtain ⟨a, e1, hE⟩ : ∃ a e, namedX t u n = (a, e) := ⟨_, _, rfl⟩
  obtain ⟨c, e2, hE2⟩ : ∃ a e, bindX t n = (a, e) := ⟨_, _, rfl⟩
  obtain ⟨o, e3, hE3⟩ : ∃ a e, manyX t [.node 8 n []] = (a, e) := ⟨_, _, rfl⟩
  have HE := Lib.hid hE
  have HE2 := Lib.hid hE2
  have HE3 := Lib.hid hE3
  clear ht hu hS hE hE2 hE3
  unfold termV
  have HB_w := Lib.hid (Below.refl w.heap.size w)
  go_enter Tryd.func5, Tryd.ntmps5
  go_wp2_with fail
  refine (((namedc_any t _ _ A_t c_t u _ _ A_u c_u n _ (T_t.out _ ((HB_w.out.alloc HB_w.out.size (.cells #[.int .i64 t.k, .int .i64 t.n, .slice A_t t.l.length c_t] 24)).alloc (HB_w.out.alloc HB_w.out.size (.cells #[.int .i64 t.k, .int .i64 t.n, .slice A_t t.l.length c_t] 24)).size (.cells #[.int .i64 u.k, .int .i64 u.n, .slice A_u u.l.length c_u] 24))) ((HB_w.out.alloc HB_w.out.size (.cells #[.int .i64 t.k, .int .i64 t.n, .slice A_t t.l.length c_t] 24)).alloc (HB_w.out.alloc HB_w.out.size (.cells #[.int .i64 t.k, .int .i64 t.n, .slice A_t t.l.length c_t] 24)).size (.cells #[.int .i64 u.k, .int .i64 u.n, .slice A_u u.l.length c_u] 24)).size (T_u.out _ ((HB_w.out.alloc HB_w.out.size (.cells #[.int .i64 t.k, .int .i64 t.n, .slice A_t t.l.length c_t] 24)).alloc (HB_w.out.alloc HB_w.out.size (.cells #[.int .i64 t.k, .int .i64 t.n, .slice A_t t.l.length c_t] 24)).size (.cells #[.int .i64 u.k, .int .i64 u.n, .slice A_u u.l.length c_u] 24))) ((HB_w.out.alloc HB_w.out.size (.cells #[.int .i64 t.k, .int .i64 t.n, .slice A_t t.l.length c_t] 24)).alloc (HB_w.out.alloc HB_w.out.size (.cells #[.int .i64 t.k, .int .i64 t.n, .slice A_t t.l.length c_t] 24)).size (.cells #[.int .i64 u.k, .int .i64 u.n, .slice A_u u.l.length c_u] 24)).size (HS.out _ ((HB_w.out.alloc HB_w.out.size (.cells #[.int .i64 t.k, .int .i64 t.n, .slice A_t t.l.length c_t] 24)).alloc (HB_w.out.alloc HB_w.out.size (.cells #[.int .i64 t.k, .int .i64 t.n, .slice A_t t.l.length c_t] 24)).size (.cells #[.int .i64 u.k, .int .i64 u.n, .slice A_u u.l.length c_u] 24)))).mono fun _ _ h => GivesT.kept h HE.out)).mono ?_
  rintro e w1 ⟨A_a, c_a, rfl, hx, hb⟩
  rw [termV]
  have hj := Lib.hid ((((Below.refl w.heap.size w).alloc (by simp <;> omega) (.cells #[.int .i64 t.k, .int .i64 t.n, .slice A_t t.l.length c_t] 24)).alloc (by simp <;> omega) (.cells #[.int .i64 u.k, .int .i64 u.n, .slice A_u u.l.length c_u] 24)).trans (hb.mono (by simp <;> omega)))
  have X_t := Lib.hid (show TBox w1 w.heap.size t.k t.n (.slice A_t t.l.length c_t) from TBox.of (((Bk.new w 24 #[.int .i64 t.k, .int .i64 t.n, .slice A_t t.l.length c_t]).alloc (.cells #[.int .i64 u.k, .int .i64 u.n, .slice A_u u.l.length c_u] 24)).below hb (by simp <;> omega)))
  have X_u := Lib.hid (show TBox w1 (w.heap.size + 1) u.k u.n (.slice A_u u.l.length c_u) from TBox.of ((Bk.last (w.alloc (.cells #[.int .i64 t.k, .int .i64 t.n, .slice A_t t.l.length c_t] 24)) 24 #[.int .i64 u.k, .int .i64 u.n, .slice A_u u.l.length c_u] (g := (w.heap.size + 1)) (by simp)).below hb (by simp <;> omega)))
  have HB_w := Lib.hid (HB_w.out.trans (hj.out.mono HB_w.out.size))
  have HB_w1 := Lib.hid (Below.refl w1.heap.size w1)
  have T_a := Lib.hid (fun V (hV : Below w1.heap.size w1 V) => hx.kept hV (Nat.le_refl _))
  clear hx
  clear hb hj
  obtain ⟨t0, t1, t2, tl⟩ := X_t.out
  obtain ⟨u0, u1, u2, ul⟩ := X_u.out
  go_wp2_with fail
  refine (((rNamed_any t _ _ A_t c_t u _ _ A_u c_u n _ (T_t.out _ (HB_w.out.alloc HB_w.out.size (.cells #[.int .i64 a.k, .int .i64 a.n, .slice A_a a.l.length c_a] 24))) (HB_w.out.alloc HB_w.out.size (.cells #[.int .i64 a.k, .int .i64 a.n, .slice A_a a.l.length c_a] 24)).size (T_u.out _ (HB_w.out.alloc HB_w.out.size (.cells #[.int .i64 a.k, .int .i64 a.n, .slice A_a a.l.length c_a] 24))) (HB_w.out.alloc HB_w.out.size (.cells #[.int .i64 a.k, .int .i64 a.n, .slice A_a a.l.length c_a] 24)).size).mono fun _ _ h => GivesT.kept h HE.out)).mono ?_
  rintro e w2 ⟨A_b, c_b, rfl, hx, hb⟩
  rw [termV]
  have hj := Lib.hid (((Below.refl w1.heap.size w1).alloc (by simp <;> omega) (.cells #[.int .i64 a.k, .int .i64 a.n, .slice A_a a.l.length c_a] 24)).trans (hb.mono (by simp <;> omega)))
  have X_a := Lib.hid (show TBox w2 w1.heap.size a.k a.n (.slice A_a a.l.length c_a) from TBox.of ((Bk.new w1 24 #[.int .i64 a.k, .int .i64 a.n, .slice A_a a.l.length c_a]).below hb (by simp <;> omega)))
  have X_t := Lib.hid (X_t.out.kept hj.out X_t.out.lt)
  have X_u := Lib.hid (X_u.out.kept hj.out X_u.out.lt)
  have HB_w := Lib.hid (HB_w.out.trans (hj.out.mono HB_w.out.size))
  have HB_w1 := Lib.hid (HB_w1.out.trans (hj.out.mono HB_w1.out.size))
  have HB_w2 := Lib.hid (Below.refl w2.heap.size w2)
  have T_b := Lib.hid (fun V (hV : Below w2.heap.size w2 V) => hx.kept hV (Nat.le_refl _))
  clear hx
  clear hb hj t0 t1 t2 tl u0 u1 u2 ul
  obtain ⟨t0, t1, t2, tl⟩ := X_t.out
  go_wp2_with fail
  refine (((bindc_any t _ _ A_t c_t n _ (T_t.out _ (HB_w.out.alloc HB_w.out.size (.cells #[.int .i64 a.k, .int .i64 a.n, .slice A_b a.l.length c_b] 24))) (HB_w.out.alloc HB_w.out.size (.cells #[.int .i64 a.k, .int .i64 a.n, .slice A_b a.l.length c_b] 24)).size (HS.out _ (HB_w.out.alloc HB_w.out.size (.cells #[.int .i64 a.k, .int .i64 a.n, .slice A_b a.l.length c_b] 24)))).mono fun _ _ h => GivesT.kept h HE2.out)).mono ?_
  rintro e w3 ⟨A_c, c_c, rfl, hx, hb⟩
  rw [termV]
  have hj := Lib.hid (((Below.refl w2.heap.size w2).alloc (by simp <;> omega) (.cells #[.int .i64 a.k, .int .i64 a.n, .slice A_b a.l.length c_b] 24)).trans (hb.mono (by simp <;> omega)))
  have X_b := Lib.hid (show TBox w3 w2.heap.size a.k a.n (.slice A_b a.l.length c_b) from TBox.of ((Bk.new w2 24 #[.int .i64 a.k, .int .i64 a.n, .slice A_b a.l.length c_b]).below hb (by simp <;> omega)))
  have X_t := Lib.hid (X_t.out.kept hj.out X_t.out.lt)
  have X_u := Lib.hid (X_u.out.kept hj.out X_u.out.lt)
  have X_a := Lib.hid (X_a.out.kept hj.out X_a.out.lt)
  have HB_w := Lib.hid (HB_w.out.trans (hj.out.mono HB_w.out.size))
  have HB_w1 := Lib.hid (HB_w1.out.trans (hj.out.mono HB_w1.out.size))
  have HB_w2 := Lib.hid (HB_w2.out.trans (hj.out.mono HB_w2.out.size))
  have HB_w3 := Lib.hid (Below.refl w3.heap.size w3)
  have T_c := Lib.hid (fun V (hV : Below w3.heap.size w3 V) => hx.kept hV (Nat.le_refl _))
  clear hx
  clear hb hj t0 t1 t2 tl
  obtain ⟨t0, t1, t2, tl⟩ := X_t.out
  go_wp2_with fail
  refine (((rBind_any t _ _ A_t c_t n _ (T_t.out _ (HB_w.out.alloc HB_w.out.size (.cells #[.int .i64 c.k, .int .i64 c.n, .slice A_c c.l.length c_c] 24))) (HB_w.out.alloc HB_w.out.size (.cells #[.int .i64 c.k, .int .i64 c.n, .slice A_c c.l.length c_c] 24)).size).mono fun _ _ h => GivesT.kept h HE2.out)).mono ?_
  rintro e w4 ⟨A_d, c_d, rfl, hx, hb⟩
  rw [termV]
  have hj := Lib.hid (((Below.refl w3.heap.size w3).alloc (by simp <;> omega) (.cells #[.int .i64 c.k, .int .i64 c.n, .slice A_c c.l.length c_c] 24)).trans (hb.mono (by simp <;> omega)))
  have X_c := Lib.hid (show TBox w4 w3.heap.size c.k c.n (.slice A_c c.l.length c_c) from TBox.of ((Bk.new w3 24 #[.int .i64 c.k, .int .i64 c.n, .slice A_c c.l.length c_c]).below hb (by simp <;> omega)))
  have X_t := Lib.hid (X_t.out.kept hj.out X_t.out.lt)
  have X_u := Lib.hid (X_u.out.kept hj.out X_u.out.lt)
  have X_a := Lib.hid (X_a.out.kept hj.out X_a.out.lt)
  have X_b := Lib.hid (X_b.out.kept hj.out X_b.out.lt)
  have HB_w := Lib.hid (HB_w.out.trans (hj.out.mono HB_w.out.size))
  have HB_w1 := Lib.hid (HB_w1.out.trans (hj.out.mono HB_w1.out.size))
  have HB_w2 := Lib.hid (HB_w2.out.trans (hj.out.mono HB_w2.out.size))
  have HB_w3 := Lib.hid (HB_w3.out.trans (hj.out.mono HB_w3.out.size))
  have HB_w4 := Lib.hid (Below.refl w4.heap.size w4)
  have T_d := Lib.hid (fun V (hV : Below w4.heap.size w4 V) => hx.kept hV (Nat.le_refl _))
  clear hx
  clear hb hj t0 t1 t2 tl
  obtain ⟨t0, t1, t2, tl⟩ := X_t.out
  go_wp2_with fail
  refine (((openc_any t _ _ A_t c_t n _ (T_t.out _ (HB_w.out.alloc HB_w.out.size (.cells #[.int .i64 c.k, .int .i64 c.n, .slice A_d c.l.length c_d] 24))) (HB_w.out.alloc HB_w.out.size (.cells #[.int .i64 c.k, .int .i64 c.n, .slice A_d c.l.length c_d] 24)).size (HS.out _ (HB_w.out.alloc HB_w.out.size (.cells #[.int .i64 c.k, .int .i64 c.n, .slice A_d c.l.length c_d] 24)))).mono fun _ _ h => GivesT.kept h HE3.out)).mono ?_
  rintro e w5 ⟨A_o, c_o, rfl, hx, hb⟩
  rw [termV]
  have hj := Lib.hid (((Below.refl w4.heap.size w4).alloc (by simp <;> omega) (.cells #[.int .i64 c.k, .int .i64 c.n, .slice A_d c.l.length c_d] 24)).trans (hb.mono (by simp <;> omega)))
  have X_d := Lib.hid (show TBox w5 w4.heap.size c.k c.n (.slice A_d c.l.length c_d) from TBox.of ((Bk.new w4 24 #[.int .i64 c.k, .int .i64 c.n, .slice A_d c.l.length c_d]).below hb (by simp <;> omega)))
  have X_t := Lib.hid (X_t.out.kept hj.out X_t.out.lt)
  have X_u := Lib.hid (X_u.out.kept hj.out X_u.out.lt)
  have X_a := Lib.hid (X_a.out.kept hj.out X_a.out.lt)
  have X_b := Lib.hid (X_b.out.kept hj.out X_b.out.lt)
  have X_c := Lib.hid (X_c.out.kept hj.out X_c.out.lt)
  have HB_w := Lib.hid (HB_w.out.trans (hj.out.mono HB_w.out.size))
  have HB_w1 := Lib.hid (HB_w1.out.trans (hj.out.mono HB_w1.out.size))
  have HB_w2 := Lib.hid (HB_w2.out.trans (hj.out.mono HB_w2.out.size))
  have HB_w3 := Lib.hid (HB_w3.out.trans (hj.out.mono HB_w3.out.size))
  have HB_w4 := Lib.hid (HB_w4.out.trans (hj.out.mono HB_w4.out.size))
  have HB_w5 := Lib.hid (Below.refl w5.heap.size w5)
  have T_o := Lib.hid (fun V (hV : Below w5.heap.size w5 V) => hx.kept hV (Nat.le_refl _))
  clear hx
  clear hb hj t0 t1 t2 tl
  obtain ⟨t0, t1, t2, tl⟩ := X_t.out
  go_wp2_with fail
  refine (((rMany_any t _ _ A_t c_t [.node 8 n []] 0 (((w5.alloc (.cells #[.int .i64 o.k, .int .i64 o.n, .slice A_o o.l.length c_o] 24)).alloc (.cells #[.int .i64 8, .int .i64 n, .slice none 0 0] 24)).heap.size) (some ⟨w5.heap.size + 1, 0, none⟩) 1 _ (T_t.out _ ((HB_w.out.alloc HB_w.out.size (.cells #[.int .i64 o.k, .int .i64 o.n, .slice A_o o.l.length c_o] 24)).alloc (HB_w.out.alloc HB_w.out.size (.cells #[.int .i64 o.k, .int .i64 o.n, .slice A_o o.l.length c_o] 24)).size (.cells #[.int .i64 8, .int .i64 n, .slice none 0 0] 24))) ((HB_w.out.alloc HB_w.out.size (.cells #[.int .i64 o.k, .int .i64 o.n, .slice A_o o.l.length c_o] 24)).alloc (HB_w.out.alloc HB_w.out.size (.cells #[.int .i64 o.k, .int .i64 o.n, .slice A_o o.l.length c_o] 24)).size (.cells #[.int .i64 8, .int .i64 n, .slice none 0 0] 24)).size (one_in (leaf_in _ _ 8 n) (Bk.last (w5.alloc (.cells #[.int .i64 o.k, .int .i64 o.n, .slice A_o o.l.length c_o] 24)) 24 #[.int .i64 8, .int .i64 n, .slice none 0 0] (g := w5.heap.size + 1) (by simp)) ⟨Nat.zero_le _, by simp⟩ 0 0) (Nat.le_refl _) (by simp)).mono fun _ _ h => GivesT.kept h HE3.out)).mono ?_
  rintro e w6 ⟨A_p, c_p, rfl, hx, hb⟩
  rw [termV]
  have hj := Lib.hid ((((Below.refl w5.heap.size w5).alloc (by simp <;> omega) (.cells #[.int .i64 o.k, .int .i64 o.n, .slice A_o o.l.length c_o] 24)).alloc (by simp <;> omega) (.cells #[.int .i64 8, .int .i64 n, .slice none 0 0] 24)).trans (hb.mono (by simp <;> omega)))
  have X_o := Lib.hid (show TBox w6 w5.heap.size o.k o.n (.slice A_o o.l.length c_o) from TBox.of (((Bk.new w5 24 #[.int .i64 o.k, .int .i64 o.n, .slice A_o o.l.length c_o]).alloc (.cells #[.int .i64 8, .int .i64 n, .slice none 0 0] 24)).below hb (by simp <;> omega)))
  have X_f := Lib.hid (show TBox w6 (w5.heap.size + 1) (8) (n) (.slice none 0 0) from TBox.of ((Bk.last (w5.alloc (.cells #[.int .i64 o.k, .int .i64 o.n, .slice A_o o.l.length c_o] 24)) 24 #[.int .i64 8, .int .i64 n, .slice none 0 0] (g := (w5.heap.size + 1)) (by simp)).below hb (by simp <;> omega)))
  have X_t := Lib.hid (X_t.out.kept hj.out X_t.out.lt)
  have X_u := Lib.hid (X_u.out.kept hj.out X_u.out.lt)
  have X_a := Lib.hid (X_a.out.kept hj.out X_a.out.lt)
  have X_b := Lib.hid (X_b.out.kept hj.out X_b.out.lt)
  have X_c := Lib.hid (X_c.out.kept hj.out X_c.out.lt)
  have X_d := Lib.hid (X_d.out.kept hj.out X_d.out.lt)
  have HB_w := Lib.hid (HB_w.out.trans (hj.out.mono HB_w.out.size))
  have HB_w1 := Lib.hid (HB_w1.out.trans (hj.out.mono HB_w1.out.size))
  have HB_w2 := Lib.hid (HB_w2.out.trans (hj.out.mono HB_w2.out.size))
  have HB_w3 := Lib.hid (HB_w3.out.trans (hj.out.mono HB_w3.out.size))
  have HB_w4 := Lib.hid (HB_w4.out.trans (hj.out.mono HB_w4.out.size))
  have HB_w5 := Lib.hid (HB_w5.out.trans (hj.out.mono HB_w5.out.size))
  have HB_w6 := Lib.hid (Below.refl w6.heap.size w6)
  have T_p := Lib.hid (fun V (hV : Below w6.heap.size w6 V) => hx.kept hV (Nat.le_refl _))
  clear hx
  clear hb hj t0 t1 t2 tl
  obtain ⟨a0, a1, a2, al⟩ := X_a.out
  obtain ⟨b0, b1, b2, bl⟩ := X_b.out
  go_wp2_with fail
  refine (usame_refl a e1 _ _ _ _ A_a A_b c_a c_b _ (T_a.out _ (HB_w1.out.alloc HB_w1.out.size (.cells #[.int .i64 o.k, .int .i64 o.n, .slice A_p o.l.length c_p] 24))) (T_b.out _ (HB_w2.out.alloc HB_w2.out.size (.cells #[.int .i64 o.k, .int .i64 o.n, .slice A_p o.l.length c_p] 24))) (HB_w1.out.alloc HB_w1.out.size (.cells #[.int .i64 o.k, .int .i64 o.n, .slice A_p o.l.length c_p] 24)).size (HB_w2.out.alloc HB_w2.out.size (.cells #[.int .i64 o.k, .int .i64 o.n, .slice A_p o.l.length c_p] 24)).size).mono ?_
  rintro e w7 ⟨rfl, hb⟩
  have hj := Lib.hid (((Below.refl w6.heap.size w6).alloc (by simp <;> omega) (.cells #[.int .i64 o.k, .int .i64 o.n, .slice A_p o.l.length c_p] 24)).trans (hb.mono (by simp <;> omega)))
  have X_p := Lib.hid (show TBox w7 w6.heap.size o.k o.n (.slice A_p o.l.length c_p) from TBox.of ((Bk.new w6 24 #[.int .i64 o.k, .int .i64 o.n, .slice A_p o.l.length c_p]).below hb (by simp <;> omega)))
  have X_t := Lib.hid (X_t.out.kept hj.out X_t.out.lt)
  have X_u := Lib.hid (X_u.out.kept hj.out X_u.out.lt)
  have X_a := Lib.hid (X_a.out.kept hj.out X_a.out.lt)
  have X_b := Lib.hid (X_b.out.kept hj.out X_b.out.lt)
  have X_c := Lib.hid (X_c.out.kept hj.out X_c.out.lt)
  have X_d := Lib.hid (X_d.out.kept hj.out X_d.out.lt)
  have X_o := Lib.hid (X_o.out.kept hj.out X_o.out.lt)
  have X_f := Lib.hid (X_f.out.kept hj.out X_f.out.lt)
  have HB_w := Lib.hid (HB_w.out.trans (hj.out.mono HB_w.out.size))
  have HB_w1 := Lib.hid (HB_w1.out.trans (hj.out.mono HB_w1.out.size))
  have HB_w2 := Lib.hid (HB_w2.out.trans (hj.out.mono HB_w2.out.size))
  have HB_w3 := Lib.hid (HB_w3.out.trans (hj.out.mono HB_w3.out.size))
  have HB_w4 := Lib.hid (HB_w4.out.trans (hj.out.mono HB_w4.out.size))
  have HB_w5 := Lib.hid (HB_w5.out.trans (hj.out.mono HB_w5.out.size))
  have HB_w6 := Lib.hid (HB_w6.out.trans (hj.out.mono HB_w6.out.size))
  have HB_w7 := Lib.hid (Below.refl w7.heap.size w7)
  clear hb hj a0 a1 a2 al b0 b1 b2 bl
  obtain ⟨c0, c1, c2, cl⟩ := X_c.out
  obtain ⟨d0, d1, d2, dl⟩ := X_d.out
  go_wp2_with fail
  refine (usame_refl c e2 _ _ _ _ A_c A_d c_c c_d _ (T_c.out _ HB_w3.out) (T_d.out _ HB_w4.out) HB_w3.out.size HB_w4.out.size).mono ?_
  rintro e w8 ⟨rfl, hb⟩
  have hj := Lib.hid hb
  have X_t := Lib.hid (X_t.out.kept hj.out X_t.out.lt)
  have X_u := Lib.hid (X_u.out.kept hj.out X_u.out.lt)
  have X_a := Lib.hid (X_a.out.kept hj.out X_a.out.lt)
  have X_b := Lib.hid (X_b.out.kept hj.out X_b.out.lt)
  have X_c := Lib.hid (X_c.out.kept hj.out X_c.out.lt)
  have X_d := Lib.hid (X_d.out.kept hj.out X_d.out.lt)
  have X_o := Lib.hid (X_o.out.kept hj.out X_o.out.lt)
  have X_f := Lib.hid (X_f.out.kept hj.out X_f.out.lt)
  have X_p := Lib.hid (X_p.out.kept hj.out X_p.out.lt)
  have HB_w := Lib.hid (HB_w.out.trans (hj.out.mono HB_w.out.size))
  have HB_w1 := Lib.hid (HB_w1.out.trans (hj.out.mono HB_w1.out.size))
  have HB_w2 := Lib.hid (HB_w2.out.trans (hj.out.mono HB_w2.out.size))
  have HB_w3 := Lib.hid (HB_w3.out.trans (hj.out.mono HB_w3.out.size))
  have HB_w4 := Lib.hid (HB_w4.out.trans (hj.out.mono HB_w4.out.size))
  have HB_w5 := Lib.hid (HB_w5.out.trans (hj.out.mono HB_w5.out.size))
  have HB_w6 := Lib.hid (HB_w6.out.trans (hj.out.mono HB_w6.out.size))
  have HB_w7 := Lib.hid (HB_w7.out.trans (hj.out.mono HB_w7.out.size))
  have HB_w8 := Lib.hid (Below.refl w8.heap.size w8)
  clear hb hj c0 c1 c2 cl d0 d1 d2 dl
  obtain ⟨o0, o1, o2, ol⟩ := X_o.out
  obtain ⟨p0, p1, p2, pl⟩ := X_p.out
  go_wp2_with fail
  refine (usame_refl o e3 _ _ _ _ A_o A_p c_o c_p _ (T_o.out _ HB_w5.out) (T_p.out _ HB_w6.out) HB_w5.out.size HB_w6.out.size).mono ?_
  rintro e w9 ⟨rfl, hb⟩
  have hj := Lib.hid hb
  have X_t := Lib.hid (X_t.out.kept hj.out X_t.out.lt)
  have X_u := Lib.hid (X_u.out.kept hj.out X_u.out.lt)
  have X_a := Lib.hid (X_a.out.kept hj.out X_a.out.lt)
  have X_b := Lib.hid (X_b.out.kept hj.out X_b.out.lt)
  have X_c := Lib.hid (X_c.out.kept hj.out X_c.out.lt)
  have X_d := Lib.hid (X_d.out.kept hj.out X_d.out.lt)
  have X_o := Lib.hid (X_o.out.kept hj.out X_o.out.lt)
  have X_f := Lib.hid (X_f.out.kept hj.out X_f.out.lt)
  have X_p := Lib.hid (X_p.out.kept hj.out X_p.out.lt)
  have HB_w := Lib.hid (HB_w.out.trans (hj.out.mono HB_w.out.size))
  have HB_w1 := Lib.hid (HB_w1.out.trans (hj.out.mono HB_w1.out.size))
  have HB_w2 := Lib.hid (HB_w2.out.trans (hj.out.mono HB_w2.out.size))
  have HB_w3 := Lib.hid (HB_w3.out.trans (hj.out.mono HB_w3.out.size))
  have HB_w4 := Lib.hid (HB_w4.out.trans (hj.out.mono HB_w4.out.size))
  have HB_w5 := Lib.hid (HB_w5.out.trans (hj.out.mono HB_w5.out.size))
  have HB_w6 := Lib.hid (HB_w6.out.trans (hj.out.mono HB_w6.out.size))
  have HB_w7 := Lib.hid (HB_w7.out.trans (hj.out.mono HB_w7.out.size))
  have HB_w8 := Lib.hid (HB_w8.out.trans (hj.out.mono HB_w8.out.size))
  have HB_w9 := Lib.hid (Below.refl w9.heap.size w9)
  clear hb hj o0 o1 o2 ol p0 p1 p2 pl
  go_wp2_with fail
  refine (awakeU_any _ (HS.out _ HB_w.out)).mono ?_
  rintro e w10 ⟨rfl, hb⟩
  have hj := Lib.hid hb
  have X_t := Lib.hid (X_t.out.kept hj.out X_t.out.lt)
  have X_u := Lib.hid (X_u.out.kept hj.out X_u.out.lt)
  have X_a := Lib.hid (X_a.out.kept hj.out X_a.out.lt)
  have X_b := Lib.hid (X_b.out.kept hj.out X_b.out.lt)
  have X_c := Lib.hid (X_c.out.kept hj.out X_c.out.lt)
  have X_d := Lib.hid (X_d.out.kept hj.out X_d.out.lt)
  have X_o := Lib.hid (X_o.out.kept hj.out X_o.out.lt)
  have X_f := Lib.hid (X_f.out.kept hj.out X_f.out.lt)
  have X_p := Lib.hid (X_p.out.kept hj.out X_p.out.lt)
  have HB_w := Lib.hid (HB_w.out.trans (hj.out.mono HB_w.out.size))
  have HB_w1 := Lib.hid (HB_w1.out.trans (hj.out.mono HB_w1.out.size))
  have HB_w2 := Lib.hid (HB_w2.out.trans (hj.out.mono HB_w2.out.size))
  have HB_w3 := Lib.hid (HB_w3.out.trans (hj.out.mono HB_w3.out.size))
  have HB_w4 := Lib.hid (HB_w4.out.trans (hj.out.mono HB_w4.out.size))
  have HB_w5 := Lib.hid (HB_w5.out.trans (hj.out.mono HB_w5.out.size))
  have HB_w6 := Lib.hid (HB_w6.out.trans (hj.out.mono HB_w6.out.size))
  have HB_w7 := Lib.hid (HB_w7.out.trans (hj.out.mono HB_w7.out.size))
  have HB_w8 := Lib.hid (HB_w8.out.trans (hj.out.mono HB_w8.out.size))
  have HB_w9 := Lib.hid (HB_w9.out.trans (hj.out.mono HB_w9.out.size))
  have HB_w10 := Lib.hid (Below.refl w10.heap.size w10)
  clear hb hj
  go_wp2_with fail
  go_ret
  exact ⟨rfl, HB_w.out⟩

end Go.Proofs.YtcobionbgiaomaaDoor
