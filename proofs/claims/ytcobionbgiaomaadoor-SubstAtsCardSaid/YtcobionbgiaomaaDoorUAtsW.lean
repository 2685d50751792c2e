/- The walk of the law SubstAts. -/
import Derived.Test.YtcobionbgiaomaaDoorULaw0
import Derived.Test.YtcobionbgiaomaaDoorURCalls
namespace Go.Proofs.YtcobionbgiaomaaDoor
open Go.RowKit
set_option linter.unusedVariables false
set_option maxRecDepth 100000

set_option maxHeartbeats 4000000 in
theorem uats_walk (t : TM) (A_t : Option Addr) (c_t : Nat) (u : TM) (A_u : Option Addr) (c_u : Nat) (n : Int) (w : World) (ht : IsTerm w 0 w.heap.size t A_t c_t) (hu : IsTerm w 0 w.heap.size u A_u c_u) (hS : ShapesM w) :
    Calls Tryd.prog 4 #[termV t A_t c_t, termV u A_u c_u, .int .i64 n] w fun e w' => e = .returned (.bool true) ∧ Below w.heap.size w w' := by
  have T_t := Lib.hid (fun (V : World) (hV : Below w.heap.size w V) => ht.kept hV (Nat.le_refl _))
  have T_u := Lib.hid (fun (V : World) (hV : Below w.heap.size w V) => hu.kept hV (Nat.le_refl _))
  have HS := Lib.hid (fun (V : World) (hV : Below w.heap.size w V) => hS.kept hV)
  obtain ⟨a, e1, hE⟩ : ∃ a e, atX t u n = (a, e) := ⟨_, _, rfl⟩
  have HE := Lib.hid hE
  clear ht hu hS hE
  unfold termV
  have HB_w := Lib.hid (Below.refl w.heap.size w)
  go_enter Tryd.func4, Tryd.ntmps4
  go_wp2_with fail
  refine (((at_any t _ _ A_t c_t u _ _ A_u c_u n _ (T_t.out _ ((HB_w.out.alloc HB_w.out.size (.cells #[.int .i64 t.k, .int .i64 t.n, .slice A_t t.l.length c_t] 24)).alloc (HB_w.out.alloc HB_w.out.size (.cells #[.int .i64 t.k, .int .i64 t.n, .slice A_t t.l.length c_t] 24)).size (.cells #[.int .i64 u.k, .int .i64 u.n, .slice A_u u.l.length c_u] 24))) ((HB_w.out.alloc HB_w.out.size (.cells #[.int .i64 t.k, .int .i64 t.n, .slice A_t t.l.length c_t] 24)).alloc (HB_w.out.alloc HB_w.out.size (.cells #[.int .i64 t.k, .int .i64 t.n, .slice A_t t.l.length c_t] 24)).size (.cells #[.int .i64 u.k, .int .i64 u.n, .slice A_u u.l.length c_u] 24)).size (T_u.out _ ((HB_w.out.alloc HB_w.out.size (.cells #[.int .i64 t.k, .int .i64 t.n, .slice A_t t.l.length c_t] 24)).alloc (HB_w.out.alloc HB_w.out.size (.cells #[.int .i64 t.k, .int .i64 t.n, .slice A_t t.l.length c_t] 24)).size (.cells #[.int .i64 u.k, .int .i64 u.n, .slice A_u u.l.length c_u] 24))) ((HB_w.out.alloc HB_w.out.size (.cells #[.int .i64 t.k, .int .i64 t.n, .slice A_t t.l.length c_t] 24)).alloc (HB_w.out.alloc HB_w.out.size (.cells #[.int .i64 t.k, .int .i64 t.n, .slice A_t t.l.length c_t] 24)).size (.cells #[.int .i64 u.k, .int .i64 u.n, .slice A_u u.l.length c_u] 24)).size (HS.out _ ((HB_w.out.alloc HB_w.out.size (.cells #[.int .i64 t.k, .int .i64 t.n, .slice A_t t.l.length c_t] 24)).alloc (HB_w.out.alloc HB_w.out.size (.cells #[.int .i64 t.k, .int .i64 t.n, .slice A_t t.l.length c_t] 24)).size (.cells #[.int .i64 u.k, .int .i64 u.n, .slice A_u u.l.length c_u] 24)))).mono fun _ _ h => GivesT.kept h HE.out)).mono ?_
  rintro e w1 ⟨A_a, c_a, rfl, hx, hb⟩
  rw [termV]
  have hj := Lib.hid ((((Below.refl w.heap.size w).alloc (by simp <;> omega) (.cells #[.int .i64 t.k, .int .i64 t.n, .slice A_t t.l.length c_t] 24)).alloc (by simp <;> omega) (.cells #[.int .i64 u.k, .int .i64 u.n, .slice A_u u.l.length c_u] 24)).trans (hb.mono (by simp <;> omega)))
  have X_t := Lib.hid (show TBox w1 w.heap.size t.k t.n (.slice A_t t.l.length c_t) from TBox.of (((Bk.new w 24 #[.int .i64 t.k, .int .i64 t.n, .slice A_t t.l.length c_t]).alloc (.cells #[.int .i64 u.k, .int .i64 u.n, .slice A_u u.l.length c_u] 24)).below hb (by simp <;> omega)))
  have X_u := Lib.hid (show TBox w1 (w.heap.size + 1) u.k u.n (.slice A_u u.l.length c_u) from TBox.of ((Bk.last (w.alloc (.cells #[.int .i64 t.k, .int .i64 t.n, .slice A_t t.l.length c_t] 24)) 24 #[.int .i64 u.k, .int .i64 u.n, .slice A_u u.l.length c_u] (g := (w.heap.size + 1)) (by simp)).below hb (by simp <;> omega)))
  have HB_w := Lib.hid (HB_w.out.trans (hj.out.mono HB_w.out.size))
  have HB_w1 := Lib.hid (Below.refl w1.heap.size w1)
  have T_a := Lib.hid (fun V (hV : Below w1.heap.size w1 V) => hx.kept hV (Nat.le_refl _))
  clear hx
  clear hb hj
  obtain ⟨t0, t1, t2, tl⟩ := X_t.out
  obtain ⟨u0, u1, u2, ul⟩ := X_u.out
  go_wp2_with fail
  refine (((rAt_any t _ _ A_t c_t u _ _ A_u c_u n _ (T_t.out _ (HB_w.out.alloc HB_w.out.size (.cells #[.int .i64 a.k, .int .i64 a.n, .slice A_a a.l.length c_a] 24))) (HB_w.out.alloc HB_w.out.size (.cells #[.int .i64 a.k, .int .i64 a.n, .slice A_a a.l.length c_a] 24)).size (T_u.out _ (HB_w.out.alloc HB_w.out.size (.cells #[.int .i64 a.k, .int .i64 a.n, .slice A_a a.l.length c_a] 24))) (HB_w.out.alloc HB_w.out.size (.cells #[.int .i64 a.k, .int .i64 a.n, .slice A_a a.l.length c_a] 24)).size).mono fun _ _ h => GivesT.kept h HE.out)).mono ?_
  rintro e w2 ⟨A_b, c_b, rfl, hx, hb⟩
  rw [termV]
  have hj := Lib.hid (((Below.refl w1.heap.size w1).alloc (by simp <;> omega) (.cells #[.int .i64 a.k, .int .i64 a.n, .slice A_a a.l.length c_a] 24)).trans (hb.mono (by simp <;> omega)))
  have X_a := Lib.hid (show TBox w2 w1.heap.size a.k a.n (.slice A_a a.l.length c_a) from TBox.of ((Bk.new w1 24 #[.int .i64 a.k, .int .i64 a.n, .slice A_a a.l.length c_a]).below hb (by simp <;> omega)))
  have X_t := Lib.hid (X_t.out.kept hj.out X_t.out.lt)
  have X_u := Lib.hid (X_u.out.kept hj.out X_u.out.lt)
  have HB_w := Lib.hid (HB_w.out.trans (hj.out.mono HB_w.out.size))
  have HB_w1 := Lib.hid (HB_w1.out.trans (hj.out.mono HB_w1.out.size))
  have HB_w2 := Lib.hid (Below.refl w2.heap.size w2)
  have T_b := Lib.hid (fun V (hV : Below w2.heap.size w2 V) => hx.kept hV (Nat.le_refl _))
  clear hx
  clear hb hj t0 t1 t2 tl u0 u1 u2 ul
  obtain ⟨a0, a1, a2, al⟩ := X_a.out
  go_wp2_with fail
  refine (usame_refl a e1 _ _ _ _ A_a A_b c_a c_b _ (T_a.out _ (HB_w1.out.alloc HB_w1.out.size (.cells #[.int .i64 a.k, .int .i64 a.n, .slice A_b a.l.length c_b] 24))) (T_b.out _ (HB_w2.out.alloc HB_w2.out.size (.cells #[.int .i64 a.k, .int .i64 a.n, .slice A_b a.l.length c_b] 24))) (HB_w1.out.alloc HB_w1.out.size (.cells #[.int .i64 a.k, .int .i64 a.n, .slice A_b a.l.length c_b] 24)).size (HB_w2.out.alloc HB_w2.out.size (.cells #[.int .i64 a.k, .int .i64 a.n, .slice A_b a.l.length c_b] 24)).size).mono ?_
  rintro e w3 ⟨rfl, hb⟩
  have hj := Lib.hid (((Below.refl w2.heap.size w2).alloc (by simp <;> omega) (.cells #[.int .i64 a.k, .int .i64 a.n, .slice A_b a.l.length c_b] 24)).trans (hb.mono (by simp <;> omega)))
  have X_b := Lib.hid (show TBox w3 w2.heap.size a.k a.n (.slice A_b a.l.length c_b) from TBox.of ((Bk.new w2 24 #[.int .i64 a.k, .int .i64 a.n, .slice A_b a.l.length c_b]).below hb (by simp <;> omega)))
  have X_t := Lib.hid (X_t.out.kept hj.out X_t.out.lt)
  have X_u := Lib.hid (X_u.out.kept hj.out X_u.out.lt)
  have X_a := Lib.hid (X_a.out.kept hj.out X_a.out.lt)
  have HB_w := Lib.hid (HB_w.out.trans (hj.out.mono HB_w.out.size))
  have HB_w1 := Lib.hid (HB_w1.out.trans (hj.out.mono HB_w1.out.size))
  have HB_w2 := Lib.hid (HB_w2.out.trans (hj.out.mono HB_w2.out.size))
  have HB_w3 := Lib.hid (Below.refl w3.heap.size w3)
  clear hb hj a0 a1 a2 al
  go_wp2_with fail
  refine (awakeU_any _ (HS.out _ HB_w.out)).mono ?_
  rintro e w4 ⟨rfl, hb⟩
  have hj := Lib.hid hb
  have X_t := Lib.hid (X_t.out.kept hj.out X_t.out.lt)
  have X_u := Lib.hid (X_u.out.kept hj.out X_u.out.lt)
  have X_a := Lib.hid (X_a.out.kept hj.out X_a.out.lt)
  have X_b := Lib.hid (X_b.out.kept hj.out X_b.out.lt)
  have HB_w := Lib.hid (HB_w.out.trans (hj.out.mono HB_w.out.size))
  have HB_w1 := Lib.hid (HB_w1.out.trans (hj.out.mono HB_w1.out.size))
  have HB_w2 := Lib.hid (HB_w2.out.trans (hj.out.mono HB_w2.out.size))
  have HB_w3 := Lib.hid (HB_w3.out.trans (hj.out.mono HB_w3.out.size))
  have HB_w4 := Lib.hid (Below.refl w4.heap.size w4)
  clear hb hj
  go_wp2_with fail
  go_ret
  exact ⟨rfl, HB_w.out⟩

end Go.Proofs.YtcobionbgiaomaaDoor
