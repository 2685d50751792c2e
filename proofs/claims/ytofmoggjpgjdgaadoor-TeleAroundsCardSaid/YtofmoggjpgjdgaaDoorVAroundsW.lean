/- The walk of the law TeleArounds. -/
import Derived.Test.YtofmoggjpgjdgaaDoorVLaw0
import Derived.Test.YtofmoggjpgjdgaaDoorVRAround
namespace Go.Proofs.YtofmoggjpgjdgaaDoor
open Go.RowKit
set_option linter.unusedVariables false
set_option maxRecDepth 100000

set_option maxHeartbeats 4000000 in
theorem varounds_walk (l : List TM) (A_l : Option Addr) (c_l : Nat) (t : TM) (A_t : Option Addr) (c_t : Nat) (w : World) (hl : IsTerms w 0 w.heap.size l A_l c_l) (ht : IsTerm w 0 w.heap.size t A_t c_t) (hS : ShapesM w) :
    Calls Tryd.prog 3 #[.slice A_l l.length c_l, termV t A_t c_t] w fun e w' => e = .returned (.bool true) ∧ Below w.heap.size w w' := by
  have T_l := Lib.hid (fun (V : World) (hV : Below w.heap.size w V) => hl.kept hV (Nat.le_refl _))
  have T_t := Lib.hid (fun (V : World) (hV : Below w.heap.size w V) => ht.kept hV (Nat.le_refl _))
  have HS := Lib.hid (fun (V : World) (hV : Below w.heap.size w V) => hS.kept hV)
  obtain ⟨hlb, hlm⟩ := hl.bounds
  unfold maxLen at hlm
  obtain ⟨a, e1, hE⟩ : ∃ a e, aroundX 3 l t = (a, e) := ⟨_, _, rfl⟩
  obtain ⟨c, e2, hE2⟩ : ∃ a e, aroundX 4 l t = (a, e) := ⟨_, _, rfl⟩
  have HE := Lib.hid hE
  have HE2 := Lib.hid hE2
  clear hl ht hS hE hE2
  unfold termV
  by_cases h60 : 60 < l.length
  · have t0 : decide ((60 : Int) < (l.length : Int)) = true := decide_eq_true (by omega)
    clear h60
    have HB_w := Lib.hid (Below.refl w.heap.size w)
    go_enter Tryd.func3, Tryd.ntmps3
    go_wp2_with fail
    refine (awakeV_any _ (HS.out _ (HB_w.out.alloc HB_w.out.size (.cells #[.int .i64 t.k, .int .i64 t.n, .slice A_t t.l.length c_t] 24)))).mono ?_
    rintro e w1 ⟨rfl, hb⟩
    have hj := Lib.hid (((Below.refl w.heap.size w).alloc (by simp <;> omega) (.cells #[.int .i64 t.k, .int .i64 t.n, .slice A_t t.l.length c_t] 24)).trans (hb.mono (by simp <;> omega)))
    have X_t := Lib.hid (show TBox w1 w.heap.size t.k t.n (.slice A_t t.l.length c_t) from TBox.of ((Bk.new w 24 #[.int .i64 t.k, .int .i64 t.n, .slice A_t t.l.length c_t]).below hb (by simp <;> omega)))
    have HB_w := Lib.hid (HB_w.out.trans (hj.out.mono HB_w.out.size))
    have HB_w1 := Lib.hid (Below.refl w1.heap.size w1)
    clear hb hj
    go_wp2_with fail
    go_ret
    exact ⟨rfl, HB_w.out⟩
  have t0 : decide ((60 : Int) < (l.length : Int)) = false := decide_eq_false (by omega)
  clear h60
  have HB_w := Lib.hid (Below.refl w.heap.size w)
  go_enter Tryd.func3, Tryd.ntmps3
  go_wp2_with fail
  refine (((pis_any l A_l c_l t A_t c_t _ ((T_l.out _ (HB_w.out.alloc HB_w.out.size (.cells #[.int .i64 t.k, .int .i64 t.n, .slice A_t t.l.length c_t] 24))).wide (Nat.le_refl _) (HB_w.out.alloc HB_w.out.size (.cells #[.int .i64 t.k, .int .i64 t.n, .slice A_t t.l.length c_t] 24)).size) ((T_t.out _ (HB_w.out.alloc HB_w.out.size (.cells #[.int .i64 t.k, .int .i64 t.n, .slice A_t t.l.length c_t] 24))).wide (Nat.le_refl _) (HB_w.out.alloc HB_w.out.size (.cells #[.int .i64 t.k, .int .i64 t.n, .slice A_t t.l.length c_t] 24)).size) (HS.out _ (HB_w.out.alloc HB_w.out.size (.cells #[.int .i64 t.k, .int .i64 t.n, .slice A_t t.l.length c_t] 24)))).mono fun _ _ h => GivesL.kept (GivesT.any h) HE.out)).mono ?_
  rintro e w1 ⟨A_a, c_a, rfl, hx, hb⟩
  rw [termV]
  have hj := Lib.hid (((Below.refl w.heap.size w).alloc (by simp <;> omega) (.cells #[.int .i64 t.k, .int .i64 t.n, .slice A_t t.l.length c_t] 24)).trans (hb.mono (by simp <;> omega)))
  have X_t := Lib.hid (show TBox w1 w.heap.size t.k t.n (.slice A_t t.l.length c_t) from TBox.of ((Bk.new w 24 #[.int .i64 t.k, .int .i64 t.n, .slice A_t t.l.length c_t]).below hb (by simp <;> omega)))
  have HB_w := Lib.hid (HB_w.out.trans (hj.out.mono HB_w.out.size))
  have HB_w1 := Lib.hid (Below.refl w1.heap.size w1)
  have T_a := Lib.hid (fun V (hV : Below w1.heap.size w1 V) => hx.kept hV (Nat.le_refl _))
  clear hx
  clear hb hj
  obtain ⟨t0, t1, t2, tl⟩ := X_t.out
  go_wp2_with fail
  refine (((raround_any 3 l A_l c_l t A_t c_t _ ((T_l.out _ (HB_w.out.alloc HB_w.out.size (.cells #[.int .i64 a.k, .int .i64 a.n, .slice A_a a.l.length c_a] 24))).wide (Nat.le_refl _) (HB_w.out.alloc HB_w.out.size (.cells #[.int .i64 a.k, .int .i64 a.n, .slice A_a a.l.length c_a] 24)).size) ((T_t.out _ (HB_w.out.alloc HB_w.out.size (.cells #[.int .i64 a.k, .int .i64 a.n, .slice A_a a.l.length c_a] 24))).wide (Nat.le_refl _) (HB_w.out.alloc HB_w.out.size (.cells #[.int .i64 a.k, .int .i64 a.n, .slice A_a a.l.length c_a] 24)).size)).mono fun _ _ h => GivesL.kept h HE.out)).mono ?_
  rintro e w2 ⟨A_b, c_b, rfl, hx, hb⟩
  rw [termV]
  have hj := Lib.hid (((Below.refl w1.heap.size w1).alloc (by simp <;> omega) (.cells #[.int .i64 a.k, .int .i64 a.n, .slice A_a a.l.length c_a] 24)).trans (hb.mono (by simp <;> omega)))
  have X_a := Lib.hid (show TBox w2 w1.heap.size a.k a.n (.slice A_a a.l.length c_a) from TBox.of ((Bk.new w1 24 #[.int .i64 a.k, .int .i64 a.n, .slice A_a a.l.length c_a]).below hb (by simp <;> omega)))
  have X_t := Lib.hid (X_t.out.kept hj.out X_t.out.lt)
  have HB_w := Lib.hid (HB_w.out.trans (hj.out.mono HB_w.out.size))
  have HB_w1 := Lib.hid (HB_w1.out.trans (hj.out.mono HB_w1.out.size))
  have HB_w2 := Lib.hid (Below.refl w2.heap.size w2)
  have T_b := Lib.hid (fun V (hV : Below w2.heap.size w2 V) => hx.kept hV (Nat.le_refl _))
  clear hx
  clear hb hj t0 t1 t2 tl
  obtain ⟨t0, t1, t2, tl⟩ := X_t.out
  go_wp2_with fail
  refine (((lams_any l A_l c_l t A_t c_t _ ((T_l.out _ (HB_w.out.alloc HB_w.out.size (.cells #[.int .i64 a.k, .int .i64 a.n, .slice A_b a.l.length c_b] 24))).wide (Nat.le_refl _) (HB_w.out.alloc HB_w.out.size (.cells #[.int .i64 a.k, .int .i64 a.n, .slice A_b a.l.length c_b] 24)).size) ((T_t.out _ (HB_w.out.alloc HB_w.out.size (.cells #[.int .i64 a.k, .int .i64 a.n, .slice A_b a.l.length c_b] 24))).wide (Nat.le_refl _) (HB_w.out.alloc HB_w.out.size (.cells #[.int .i64 a.k, .int .i64 a.n, .slice A_b a.l.length c_b] 24)).size) (HS.out _ (HB_w.out.alloc HB_w.out.size (.cells #[.int .i64 a.k, .int .i64 a.n, .slice A_b a.l.length c_b] 24)))).mono fun _ _ h => GivesL.kept (GivesT.any h) HE2.out)).mono ?_
  rintro e w3 ⟨A_c, c_c, rfl, hx, hb⟩
  rw [termV]
  have hj := Lib.hid (((Below.refl w2.heap.size w2).alloc (by simp <;> omega) (.cells #[.int .i64 a.k, .int .i64 a.n, .slice A_b a.l.length c_b] 24)).trans (hb.mono (by simp <;> omega)))
  have X_b := Lib.hid (show TBox w3 w2.heap.size a.k a.n (.slice A_b a.l.length c_b) from TBox.of ((Bk.new w2 24 #[.int .i64 a.k, .int .i64 a.n, .slice A_b a.l.length c_b]).below hb (by simp <;> omega)))
  have X_t := Lib.hid (X_t.out.kept hj.out X_t.out.lt)
  have X_a := Lib.hid (X_a.out.kept hj.out X_a.out.lt)
  have HB_w := Lib.hid (HB_w.out.trans (hj.out.mono HB_w.out.size))
  have HB_w1 := Lib.hid (HB_w1.out.trans (hj.out.mono HB_w1.out.size))
  have HB_w2 := Lib.hid (HB_w2.out.trans (hj.out.mono HB_w2.out.size))
  have HB_w3 := Lib.hid (Below.refl w3.heap.size w3)
  have T_c := Lib.hid (fun V (hV : Below w3.heap.size w3 V) => hx.kept hV (Nat.le_refl _))
  clear hx
  clear hb hj t0 t1 t2 tl
  obtain ⟨t0, t1, t2, tl⟩ := X_t.out
  go_wp2_with fail
  refine (((raround_any 4 l A_l c_l t A_t c_t _ ((T_l.out _ (HB_w.out.alloc HB_w.out.size (.cells #[.int .i64 c.k, .int .i64 c.n, .slice A_c c.l.length c_c] 24))).wide (Nat.le_refl _) (HB_w.out.alloc HB_w.out.size (.cells #[.int .i64 c.k, .int .i64 c.n, .slice A_c c.l.length c_c] 24)).size) ((T_t.out _ (HB_w.out.alloc HB_w.out.size (.cells #[.int .i64 c.k, .int .i64 c.n, .slice A_c c.l.length c_c] 24))).wide (Nat.le_refl _) (HB_w.out.alloc HB_w.out.size (.cells #[.int .i64 c.k, .int .i64 c.n, .slice A_c c.l.length c_c] 24)).size)).mono fun _ _ h => GivesL.kept h HE2.out)).mono ?_
  rintro e w4 ⟨A_d, c_d, rfl, hx, hb⟩
  rw [termV]
  have hj := Lib.hid (((Below.refl w3.heap.size w3).alloc (by simp <;> omega) (.cells #[.int .i64 c.k, .int .i64 c.n, .slice A_c c.l.length c_c] 24)).trans (hb.mono (by simp <;> omega)))
  have X_c := Lib.hid (show TBox w4 w3.heap.size c.k c.n (.slice A_c c.l.length c_c) from TBox.of ((Bk.new w3 24 #[.int .i64 c.k, .int .i64 c.n, .slice A_c c.l.length c_c]).below hb (by simp <;> omega)))
  have X_t := Lib.hid (X_t.out.kept hj.out X_t.out.lt)
  have X_a := Lib.hid (X_a.out.kept hj.out X_a.out.lt)
  have X_b := Lib.hid (X_b.out.kept hj.out X_b.out.lt)
  have HB_w := Lib.hid (HB_w.out.trans (hj.out.mono HB_w.out.size))
  have HB_w1 := Lib.hid (HB_w1.out.trans (hj.out.mono HB_w1.out.size))
  have HB_w2 := Lib.hid (HB_w2.out.trans (hj.out.mono HB_w2.out.size))
  have HB_w3 := Lib.hid (HB_w3.out.trans (hj.out.mono HB_w3.out.size))
  have HB_w4 := Lib.hid (Below.refl w4.heap.size w4)
  have T_d := Lib.hid (fun V (hV : Below w4.heap.size w4 V) => hx.kept hV (Nat.le_refl _))
  clear hx
  clear hb hj t0 t1 t2 tl
  obtain ⟨a0, a1, a2, al⟩ := X_a.out
  obtain ⟨b0, b1, b2, bl⟩ := X_b.out
  go_wp2_with fail
  refine (vsame_refl a e1 _ _ _ _ A_a A_b c_a c_b _ (T_a.out _ (HB_w1.out.alloc HB_w1.out.size (.cells #[.int .i64 c.k, .int .i64 c.n, .slice A_d c.l.length c_d] 24))) (T_b.out _ (HB_w2.out.alloc HB_w2.out.size (.cells #[.int .i64 c.k, .int .i64 c.n, .slice A_d c.l.length c_d] 24))) (HB_w1.out.alloc HB_w1.out.size (.cells #[.int .i64 c.k, .int .i64 c.n, .slice A_d c.l.length c_d] 24)).size (HB_w2.out.alloc HB_w2.out.size (.cells #[.int .i64 c.k, .int .i64 c.n, .slice A_d c.l.length c_d] 24)).size).mono ?_
  rintro e w5 ⟨rfl, hb⟩
  have hj := Lib.hid (((Below.refl w4.heap.size w4).alloc (by simp <;> omega) (.cells #[.int .i64 c.k, .int .i64 c.n, .slice A_d c.l.length c_d] 24)).trans (hb.mono (by simp <;> omega)))
  have X_d := Lib.hid (show TBox w5 w4.heap.size c.k c.n (.slice A_d c.l.length c_d) from TBox.of ((Bk.new w4 24 #[.int .i64 c.k, .int .i64 c.n, .slice A_d c.l.length c_d]).below hb (by simp <;> omega)))
  have X_t := Lib.hid (X_t.out.kept hj.out X_t.out.lt)
  have X_a := Lib.hid (X_a.out.kept hj.out X_a.out.lt)
  have X_b := Lib.hid (X_b.out.kept hj.out X_b.out.lt)
  have X_c := Lib.hid (X_c.out.kept hj.out X_c.out.lt)
  have HB_w := Lib.hid (HB_w.out.trans (hj.out.mono HB_w.out.size))
  have HB_w1 := Lib.hid (HB_w1.out.trans (hj.out.mono HB_w1.out.size))
  have HB_w2 := Lib.hid (HB_w2.out.trans (hj.out.mono HB_w2.out.size))
  have HB_w3 := Lib.hid (HB_w3.out.trans (hj.out.mono HB_w3.out.size))
  have HB_w4 := Lib.hid (HB_w4.out.trans (hj.out.mono HB_w4.out.size))
  have HB_w5 := Lib.hid (Below.refl w5.heap.size w5)
  clear hb hj a0 a1 a2 al b0 b1 b2 bl
  obtain ⟨c0, c1, c2, cl⟩ := X_c.out
  obtain ⟨d0, d1, d2, dl⟩ := X_d.out
  go_wp2_with fail
  refine (vsame_refl c e2 _ _ _ _ A_c A_d c_c c_d _ (T_c.out _ HB_w3.out) (T_d.out _ HB_w4.out) HB_w3.out.size HB_w4.out.size).mono ?_
  rintro e w6 ⟨rfl, hb⟩
  have hj := Lib.hid hb
  have X_t := Lib.hid (X_t.out.kept hj.out X_t.out.lt)
  have X_a := Lib.hid (X_a.out.kept hj.out X_a.out.lt)
  have X_b := Lib.hid (X_b.out.kept hj.out X_b.out.lt)
  have X_c := Lib.hid (X_c.out.kept hj.out X_c.out.lt)
  have X_d := Lib.hid (X_d.out.kept hj.out X_d.out.lt)
  have HB_w := Lib.hid (HB_w.out.trans (hj.out.mono HB_w.out.size))
  have HB_w1 := Lib.hid (HB_w1.out.trans (hj.out.mono HB_w1.out.size))
  have HB_w2 := Lib.hid (HB_w2.out.trans (hj.out.mono HB_w2.out.size))
  have HB_w3 := Lib.hid (HB_w3.out.trans (hj.out.mono HB_w3.out.size))
  have HB_w4 := Lib.hid (HB_w4.out.trans (hj.out.mono HB_w4.out.size))
  have HB_w5 := Lib.hid (HB_w5.out.trans (hj.out.mono HB_w5.out.size))
  have HB_w6 := Lib.hid (Below.refl w6.heap.size w6)
  clear hb hj c0 c1 c2 cl d0 d1 d2 dl
  go_wp2_with fail
  refine (awakeV_any _ (HS.out _ HB_w.out)).mono ?_
  rintro e w7 ⟨rfl, hb⟩
  have hj := Lib.hid hb
  have X_t := Lib.hid (X_t.out.kept hj.out X_t.out.lt)
  have X_a := Lib.hid (X_a.out.kept hj.out X_a.out.lt)
  have X_b := Lib.hid (X_b.out.kept hj.out X_b.out.lt)
  have X_c := Lib.hid (X_c.out.kept hj.out X_c.out.lt)
  have X_d := Lib.hid (X_d.out.kept hj.out X_d.out.lt)
  have HB_w := Lib.hid (HB_w.out.trans (hj.out.mono HB_w.out.size))
  have HB_w1 := Lib.hid (HB_w1.out.trans (hj.out.mono HB_w1.out.size))
  have HB_w2 := Lib.hid (HB_w2.out.trans (hj.out.mono HB_w2.out.size))
  have HB_w3 := Lib.hid (HB_w3.out.trans (hj.out.mono HB_w3.out.size))
  have HB_w4 := Lib.hid (HB_w4.out.trans (hj.out.mono HB_w4.out.size))
  have HB_w5 := Lib.hid (HB_w5.out.trans (hj.out.mono HB_w5.out.size))
  have HB_w6 := Lib.hid (HB_w6.out.trans (hj.out.mono HB_w6.out.size))
  have HB_w7 := Lib.hid (Below.refl w7.heap.size w7)
  clear hb hj
  go_wp2_with fail
  go_ret
  exact ⟨rfl, HB_w.out⟩

end Go.Proofs.YtofmoggjpgjdgaaDoor
