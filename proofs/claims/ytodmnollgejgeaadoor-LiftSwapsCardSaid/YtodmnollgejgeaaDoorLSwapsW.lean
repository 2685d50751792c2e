/- The walk of the law LiftSwaps. -/
import Derived.Test.YtodmnollgejgeaaDoorLSame
import Derived.Test.YtodmnollgejgeaaDoorLRefSwap
namespace Go.Proofs.YtodmnollgejgeaaDoor
open Go.RowKit
set_option linter.unusedVariables false
set_option maxRecDepth 100000

set_option maxHeartbeats 4000000 in
theorem lswaps_walk (t : TM) (A : Option Addr) (cap : Nat) (n : Int) (w : World) (h : IsTerm w 0 w.heap.size t A cap) (hn : (Lit.int .i64 n).wf = true) (hS : ShapesM w) :
    Calls Tryd.prog 7 #[termV t A cap, .int .i64 n] w fun e w' => e = .returned (.bool true) ∧ Below w.heap.size w w' := by
  have T_t := Lib.hid (fun (V : World) (hV : Below w.heap.size w V) => h.kept hV (Nat.le_refl _))
  have HS := Lib.hid (fun (V : World) (hV : Below w.heap.size w V) => hS.kept hV)
  obtain ⟨a, e1, hE⟩ : ∃ a e, swapX t n = (a, e) := ⟨_, _, rfl⟩
  have HE := Lib.hid hE
  clear h hS hn hE
  unfold termV
  by_cases h1 : e1 = 0
  · subst h1
    have FB := Lib.hid (swap_back HE.out)
    have HB_w := Lib.hid (Below.refl w.heap.size w)
    go_enter Tryd.func7, Tryd.ntmps7
    go_wp2_with fail
    refine (((swap_any t n _ _ A cap _ (T_t.out _ (HB_w.out.alloc HB_w.out.size (.cells #[.int .i64 t.k, .int .i64 t.n, .slice A t.l.length cap] 24))) (HB_w.out.alloc HB_w.out.size (.cells #[.int .i64 t.k, .int .i64 t.n, .slice A t.l.length cap] 24)).size (HS.out _ (HB_w.out.alloc HB_w.out.size (.cells #[.int .i64 t.k, .int .i64 t.n, .slice A t.l.length cap] 24)))).mono fun _ _ h => GivesT.kept h HE.out)).mono ?_
    rintro e w1 ⟨A_a, c_a, rfl, hx, hb⟩
    rw [termV]
    have hj := Lib.hid (((Below.refl w.heap.size w).alloc (Nat.le_refl _) (.cells #[.int .i64 t.k, .int .i64 t.n, .slice A t.l.length cap] 24)).trans (hb.mono (by simp)))
    have X_t := Lib.hid (show TBox w1 w.heap.size t.k t.n (.slice A t.l.length cap) from TBox.of ((Bk.new w 24 _).below hb (by simp)))
    have HB_w := Lib.hid (HB_w.out.trans (hj.out.mono HB_w.out.size))
    have HB_w1 := Lib.hid (Below.refl w1.heap.size w1)
    have T_a := Lib.hid (fun V (hV : Below w1.heap.size w1 V) => hx.kept hV (Nat.le_refl _))
    clear hx
    clear hb hj
    obtain ⟨t0, t1, t2, tl⟩ := X_t.out
    go_wp2_with fail
    refine (((rswap_any t n _ _ A cap _ (T_t.out _ (HB_w.out.alloc HB_w.out.size (.cells #[.int .i64 a.k, .int .i64 a.n, .slice A_a a.l.length c_a] 24))) (HB_w.out.alloc HB_w.out.size (.cells #[.int .i64 a.k, .int .i64 a.n, .slice A_a a.l.length c_a] 24)).size).mono fun _ _ h => GivesT.kept h HE.out)).mono ?_
    rintro e w2 ⟨A_b, c_b, rfl, hx, hb⟩
    rw [termV]
    have hj := Lib.hid (((Below.refl w1.heap.size w1).alloc (Nat.le_refl _) (.cells #[.int .i64 a.k, .int .i64 a.n, .slice A_a a.l.length c_a] 24)).trans (hb.mono (by simp)))
    have X_a := Lib.hid (show TBox w2 w1.heap.size a.k a.n (.slice A_a a.l.length c_a) from TBox.of ((Bk.new w1 24 _).below hb (by simp)))
    have X_t := Lib.hid (X_t.out.kept hj.out X_t.out.lt)
    have HB_w := Lib.hid (HB_w.out.trans (hj.out.mono HB_w.out.size))
    have HB_w1 := Lib.hid (HB_w1.out.trans (hj.out.mono HB_w1.out.size))
    have HB_w2 := Lib.hid (Below.refl w2.heap.size w2)
    have T_b := Lib.hid (fun V (hV : Below w2.heap.size w2 V) => hx.kept hV (Nat.le_refl _))
    clear hx
    clear hb hj t0 t1 t2 tl
    obtain ⟨t0, t1, t2, tl⟩ := X_t.out
    obtain ⟨a0, a1, a2, al⟩ := X_a.out
    go_wp2_with fail
    refine (same_refl a 0 _ _ _ _ A_a A_b c_a c_b _ (T_a.out _ (HB_w1.out.alloc HB_w1.out.size (.cells #[.int .i64 a.k, .int .i64 a.n, .slice A_b a.l.length c_b] 24))) (T_b.out _ (HB_w2.out.alloc HB_w2.out.size (.cells #[.int .i64 a.k, .int .i64 a.n, .slice A_b a.l.length c_b] 24))) (HB_w1.out.alloc HB_w1.out.size (.cells #[.int .i64 a.k, .int .i64 a.n, .slice A_b a.l.length c_b] 24)).size (HB_w2.out.alloc HB_w2.out.size (.cells #[.int .i64 a.k, .int .i64 a.n, .slice A_b a.l.length c_b] 24)).size).mono ?_
    rintro e w3 ⟨rfl, hb⟩
    have hj := Lib.hid (((Below.refl w2.heap.size w2).alloc (Nat.le_refl _) (.cells #[.int .i64 a.k, .int .i64 a.n, .slice A_b a.l.length c_b] 24)).trans (hb.mono (by simp)))
    have X_b := Lib.hid (show TBox w3 w2.heap.size a.k a.n (.slice A_b a.l.length c_b) from TBox.of ((Bk.new w2 24 _).below hb (by simp)))
    have X_t := Lib.hid (X_t.out.kept hj.out X_t.out.lt)
    have X_a := Lib.hid (X_a.out.kept hj.out X_a.out.lt)
    have HB_w := Lib.hid (HB_w.out.trans (hj.out.mono HB_w.out.size))
    have HB_w1 := Lib.hid (HB_w1.out.trans (hj.out.mono HB_w1.out.size))
    have HB_w2 := Lib.hid (HB_w2.out.trans (hj.out.mono HB_w2.out.size))
    have HB_w3 := Lib.hid (Below.refl w3.heap.size w3)
    clear hb hj t0 t1 t2 tl a0 a1 a2 al
    obtain ⟨t0, t1, t2, tl⟩ := X_t.out
    obtain ⟨a0, a1, a2, al⟩ := X_a.out
    go_wp2_with fail
    refine (((swap_any a n _ _ A_a c_a _ (T_a.out _ HB_w1.out) HB_w1.out.size (HS.out _ HB_w.out)).mono fun _ _ h => GivesT.kept h FB.out)).mono ?_
    rintro e w4 ⟨A_c, c_c, rfl, hx, hb⟩
    rw [termV]
    have hj := Lib.hid hb
    have X_t := Lib.hid (X_t.out.kept hj.out X_t.out.lt)
    have X_a := Lib.hid (X_a.out.kept hj.out X_a.out.lt)
    have X_b := Lib.hid (X_b.out.kept hj.out X_b.out.lt)
    have HB_w := Lib.hid (HB_w.out.trans (hj.out.mono HB_w.out.size))
    have HB_w1 := Lib.hid (HB_w1.out.trans (hj.out.mono HB_w1.out.size))
    have HB_w2 := Lib.hid (HB_w2.out.trans (hj.out.mono HB_w2.out.size))
    have HB_w3 := Lib.hid (HB_w3.out.trans (hj.out.mono HB_w3.out.size))
    have HB_w4 := Lib.hid (Below.refl w4.heap.size w4)
    have T_c := Lib.hid (fun V (hV : Below w4.heap.size w4 V) => hx.kept hV (Nat.le_refl _))
    clear hx
    clear hb hj t0 t1 t2 tl a0 a1 a2 al
    obtain ⟨t0, t1, t2, tl⟩ := X_t.out
    go_wp2_with fail
    refine (same_refl t 0 _ _ _ _ A_c A c_c cap _ (T_c.out _ (HB_w4.out.alloc HB_w4.out.size (.cells #[.int .i64 t.k, .int .i64 t.n, .slice A_c t.l.length c_c] 24))) (T_t.out _ (HB_w.out.alloc HB_w.out.size (.cells #[.int .i64 t.k, .int .i64 t.n, .slice A_c t.l.length c_c] 24))) (HB_w4.out.alloc HB_w4.out.size (.cells #[.int .i64 t.k, .int .i64 t.n, .slice A_c t.l.length c_c] 24)).size (HB_w.out.alloc HB_w.out.size (.cells #[.int .i64 t.k, .int .i64 t.n, .slice A_c t.l.length c_c] 24)).size).mono ?_
    rintro e w5 ⟨rfl, hb⟩
    have hj := Lib.hid (((Below.refl w4.heap.size w4).alloc (Nat.le_refl _) (.cells #[.int .i64 t.k, .int .i64 t.n, .slice A_c t.l.length c_c] 24)).trans (hb.mono (by simp)))
    have X_c := Lib.hid (show TBox w5 w4.heap.size t.k t.n (.slice A_c t.l.length c_c) from TBox.of ((Bk.new w4 24 _).below hb (by simp)))
    have X_t := Lib.hid (X_t.out.kept hj.out X_t.out.lt)
    have X_a := Lib.hid (X_a.out.kept hj.out X_a.out.lt)
    have X_b := Lib.hid (X_b.out.kept hj.out X_b.out.lt)
    have HB_w := Lib.hid (HB_w.out.trans (hj.out.mono HB_w.out.size))
    have HB_w1 := Lib.hid (HB_w1.out.trans (hj.out.mono HB_w1.out.size))
    have HB_w2 := Lib.hid (HB_w2.out.trans (hj.out.mono HB_w2.out.size))
    have HB_w3 := Lib.hid (HB_w3.out.trans (hj.out.mono HB_w3.out.size))
    have HB_w4 := Lib.hid (HB_w4.out.trans (hj.out.mono HB_w4.out.size))
    have HB_w5 := Lib.hid (Below.refl w5.heap.size w5)
    clear hb hj t0 t1 t2 tl
    go_wp2_with fail
    refine (awakeL_any _ (HS.out _ HB_w.out)).mono ?_
    rintro e w6 ⟨rfl, hb⟩
    have hj := Lib.hid hb
    have X_t := Lib.hid (X_t.out.kept hj.out X_t.out.lt)
    have X_a := Lib.hid (X_a.out.kept hj.out X_a.out.lt)
    have X_b := Lib.hid (X_b.out.kept hj.out X_b.out.lt)
    have X_c := Lib.hid (X_c.out.kept hj.out X_c.out.lt)
    have HB_w := Lib.hid (HB_w.out.trans (hj.out.mono HB_w.out.size))
    have HB_w1 := Lib.hid (HB_w1.out.trans (hj.out.mono HB_w1.out.size))
    have HB_w2 := Lib.hid (HB_w2.out.trans (hj.out.mono HB_w2.out.size))
    have HB_w3 := Lib.hid (HB_w3.out.trans (hj.out.mono HB_w3.out.size))
    have HB_w4 := Lib.hid (HB_w4.out.trans (hj.out.mono HB_w4.out.size))
    have HB_w5 := Lib.hid (HB_w5.out.trans (hj.out.mono HB_w5.out.size))
    have HB_w6 := Lib.hid (Below.refl w6.heap.size w6)
    clear hb hj
    go_wp2_with fail
    go_ret
    exact ⟨rfl, HB_w.out⟩
  · have t1 : (e1 != 0) = true := by simpa using h1
    clear h1
    have HB_w := Lib.hid (Below.refl w.heap.size w)
    go_enter Tryd.func7, Tryd.ntmps7
    go_wp2_with fail
    refine (((swap_any t n _ _ A cap _ (T_t.out _ (HB_w.out.alloc HB_w.out.size (.cells #[.int .i64 t.k, .int .i64 t.n, .slice A t.l.length cap] 24))) (HB_w.out.alloc HB_w.out.size (.cells #[.int .i64 t.k, .int .i64 t.n, .slice A t.l.length cap] 24)).size (HS.out _ (HB_w.out.alloc HB_w.out.size (.cells #[.int .i64 t.k, .int .i64 t.n, .slice A t.l.length cap] 24)))).mono fun _ _ h => GivesT.kept h HE.out)).mono ?_
    rintro e w1 ⟨A_a, c_a, rfl, hx, hb⟩
    rw [termV]
    have hj := Lib.hid (((Below.refl w.heap.size w).alloc (Nat.le_refl _) (.cells #[.int .i64 t.k, .int .i64 t.n, .slice A t.l.length cap] 24)).trans (hb.mono (by simp)))
    have X_t := Lib.hid (show TBox w1 w.heap.size t.k t.n (.slice A t.l.length cap) from TBox.of ((Bk.new w 24 _).below hb (by simp)))
    have HB_w := Lib.hid (HB_w.out.trans (hj.out.mono HB_w.out.size))
    have HB_w1 := Lib.hid (Below.refl w1.heap.size w1)
    have T_a := Lib.hid (fun V (hV : Below w1.heap.size w1 V) => hx.kept hV (Nat.le_refl _))
    clear hx
    clear hb hj
    obtain ⟨t0, t1, t2, tl⟩ := X_t.out
    go_wp2_with fail
    refine (((rswap_any t n _ _ A cap _ (T_t.out _ (HB_w.out.alloc HB_w.out.size (.cells #[.int .i64 a.k, .int .i64 a.n, .slice A_a a.l.length c_a] 24))) (HB_w.out.alloc HB_w.out.size (.cells #[.int .i64 a.k, .int .i64 a.n, .slice A_a a.l.length c_a] 24)).size).mono fun _ _ h => GivesT.kept h HE.out)).mono ?_
    rintro e w2 ⟨A_b, c_b, rfl, hx, hb⟩
    rw [termV]
    have hj := Lib.hid (((Below.refl w1.heap.size w1).alloc (Nat.le_refl _) (.cells #[.int .i64 a.k, .int .i64 a.n, .slice A_a a.l.length c_a] 24)).trans (hb.mono (by simp)))
    have X_a := Lib.hid (show TBox w2 w1.heap.size a.k a.n (.slice A_a a.l.length c_a) from TBox.of ((Bk.new w1 24 _).below hb (by simp)))
    have X_t := Lib.hid (X_t.out.kept hj.out X_t.out.lt)
    have HB_w := Lib.hid (HB_w.out.trans (hj.out.mono HB_w.out.size))
    have HB_w1 := Lib.hid (HB_w1.out.trans (hj.out.mono HB_w1.out.size))
    have HB_w2 := Lib.hid (Below.refl w2.heap.size w2)
    have T_b := Lib.hid (fun V (hV : Below w2.heap.size w2 V) => hx.kept hV (Nat.le_refl _))
    clear hx
    clear hb hj t0 t1 t2 tl
    obtain ⟨t0, t1, t2, tl⟩ := X_t.out
    obtain ⟨a0, a1, a2, al⟩ := X_a.out
    go_wp2_with fail
    refine (same_refl a e1 _ _ _ _ A_a A_b c_a c_b _ (T_a.out _ (HB_w1.out.alloc HB_w1.out.size (.cells #[.int .i64 a.k, .int .i64 a.n, .slice A_b a.l.length c_b] 24))) (T_b.out _ (HB_w2.out.alloc HB_w2.out.size (.cells #[.int .i64 a.k, .int .i64 a.n, .slice A_b a.l.length c_b] 24))) (HB_w1.out.alloc HB_w1.out.size (.cells #[.int .i64 a.k, .int .i64 a.n, .slice A_b a.l.length c_b] 24)).size (HB_w2.out.alloc HB_w2.out.size (.cells #[.int .i64 a.k, .int .i64 a.n, .slice A_b a.l.length c_b] 24)).size).mono ?_
    rintro e w3 ⟨rfl, hb⟩
    have hj := Lib.hid (((Below.refl w2.heap.size w2).alloc (Nat.le_refl _) (.cells #[.int .i64 a.k, .int .i64 a.n, .slice A_b a.l.length c_b] 24)).trans (hb.mono (by simp)))
    have X_b := Lib.hid (show TBox w3 w2.heap.size a.k a.n (.slice A_b a.l.length c_b) from TBox.of ((Bk.new w2 24 _).below hb (by simp)))
    have X_t := Lib.hid (X_t.out.kept hj.out X_t.out.lt)
    have X_a := Lib.hid (X_a.out.kept hj.out X_a.out.lt)
    have HB_w := Lib.hid (HB_w.out.trans (hj.out.mono HB_w.out.size))
    have HB_w1 := Lib.hid (HB_w1.out.trans (hj.out.mono HB_w1.out.size))
    have HB_w2 := Lib.hid (HB_w2.out.trans (hj.out.mono HB_w2.out.size))
    have HB_w3 := Lib.hid (Below.refl w3.heap.size w3)
    clear hb hj t0 t1 t2 tl a0 a1 a2 al
    go_wp2_with fail
    refine (awakeL_any _ (HS.out _ HB_w.out)).mono ?_
    rintro e w4 ⟨rfl, hb⟩
    have hj := Lib.hid hb
    have X_t := Lib.hid (X_t.out.kept hj.out X_t.out.lt)
    have X_a := Lib.hid (X_a.out.kept hj.out X_a.out.lt)
    have X_b := Lib.hid (X_b.out.kept hj.out X_b.out.lt)
    have HB_w := Lib.hid (HB_w.out.trans (hj.out.mono HB_w.out.size))
    have HB_w1 := Lib.hid (HB_w1.out.trans (hj.out.mono HB_w1.out.size))
    have HB_w2 := Lib.hid (HB_w2.out.trans (hj.out.mono HB_w2.out.size))
    have HB_w3 := Lib.hid (HB_w3.out.trans (hj.out.mono HB_w3.out.size))
    have HB_w4 := Lib.hid (Below.refl w4.heap.size w4)
    clear hb hj
    go_wp2_with fail
    go_ret
    exact ⟨rfl, HB_w.out⟩

end Go.Proofs.YtodmnollgejgeaaDoor
