/- The walk of the law TeleResults. -/
import Derived.Test.YtofmoggjpgjdgaaDoorVLaw0
import Derived.Test.YtofmoggjpgjdgaaDoorVRResult
namespace Go.Proofs.YtofmoggjpgjdgaaDoor
open Go.RowKit
set_option linter.unusedVariables false
set_option maxRecDepth 100000

set_option maxHeartbeats 4000000 in
theorem vresults_walk (t : TM) (A_t : Option Addr) (c_t : Nat) (g : List TM) (A_g : Option Addr) (c_g : Nat) (w : World) (ht : IsTerm w 0 w.heap.size t A_t c_t) (hg : IsTerms w 0 w.heap.size g A_g c_g) (hS : ShapesM w) :
    Calls Tryd.prog 6 #[termV t A_t c_t, .slice A_g g.length c_g] w fun e w' => e = .returned (.bool true) ∧ Below w.heap.size w w' := by
  have T_t := Lib.hid (fun (V : World) (hV : Below w.heap.size w V) => ht.kept hV (Nat.le_refl _))
  have T_g := Lib.hid (fun (V : World) (hV : Below w.heap.size w V) => hg.kept hV (Nat.le_refl _))
  have HS := Lib.hid (fun (V : World) (hV : Below w.heap.size w V) => hS.kept hV)
  obtain ⟨hlb, hlm⟩ := hg.bounds
  unfold maxLen at hlm
  obtain ⟨a, e1, hE⟩ : ∃ a e, resultX t g = (a, e) := ⟨_, _, rfl⟩
  have HE := Lib.hid hE
  clear hg ht hS hE
  unfold termV
  by_cases h20 : 20 < g.length
  · have t0 : decide ((20 : Int) < (g.length : Int)) = true := decide_eq_true (by omega)
    clear h20
    have HB_w := Lib.hid (Below.refl w.heap.size w)
    go_enter Tryd.func6, Tryd.ntmps6
    go_wp2_with fail
    refine (awakeV_any _ (HS.out _ (HB_w.out.alloc HB_w.out.size (.cells #[.int .i64 t.k, .int .i64 t.n, .slice A_t t.l.length c_t] 24)))).mono ?_
    rintro e w1 ⟨rfl, hb⟩
    have hj := Lib.hid (((Below.refl w.heap.size w).alloc (by simp <;> omega) (.cells #[.int .i64 t.k, .int .i64 t.n, .slice A_t t.l.length c_t] 24)).trans (hb.mono (by simp <;> omega)))
    have X_t := Lib.hid (show TBox w1 w.heap.size t.k t.n (.slice A_t t.l.length c_t) from TBox.of ((Bk.new w 24 #[.int .i64 t.k, .int .i64 t.n, .slice A_t t.l.length c_t]).below hb (by simp <;> omega)))
    have HB_w := Lib.hid (HB_w.out.trans (hj.out.mono HB_w.out.size))
    have HB_w1 := Lib.hid (Below.refl w1.heap.size w1)
    clear hb hj
    go_wp2_with fail
    go_ret
    exact ⟨rfl, HB_w.out⟩
  have t0 : decide ((20 : Int) < (g.length : Int)) = false := decide_eq_false (by omega)
  have HL20 := Lib.hid (show g.length ≤ 8000 by omega)
  clear h20
  have HB_w := Lib.hid (Below.refl w.heap.size w)
  go_enter Tryd.func6, Tryd.ntmps6
  go_wp2_with fail
  refine (((result_any t A_t c_t g A_g c_g _ ((T_t.out _ (HB_w.out.alloc HB_w.out.size (.cells #[.int .i64 t.k, .int .i64 t.n, .slice A_t t.l.length c_t] 24))).wide (Nat.le_refl _) (HB_w.out.alloc HB_w.out.size (.cells #[.int .i64 t.k, .int .i64 t.n, .slice A_t t.l.length c_t] 24)).size) ((T_g.out _ (HB_w.out.alloc HB_w.out.size (.cells #[.int .i64 t.k, .int .i64 t.n, .slice A_t t.l.length c_t] 24))).wide (Nat.le_refl _) (HB_w.out.alloc HB_w.out.size (.cells #[.int .i64 t.k, .int .i64 t.n, .slice A_t t.l.length c_t] 24)).size) HL20.out (HS.out _ (HB_w.out.alloc HB_w.out.size (.cells #[.int .i64 t.k, .int .i64 t.n, .slice A_t t.l.length c_t] 24)))).mono fun _ _ h => GivesL.kept h HE.out)).mono ?_
  rintro e w1 ⟨A_a, c_a, rfl, hx, hb⟩
  rw [termV]
  have hj := Lib.hid (((Below.refl w.heap.size w).alloc (by simp <;> omega) (.cells #[.int .i64 t.k, .int .i64 t.n, .slice A_t t.l.length c_t] 24)).trans (hb.mono (by simp <;> omega)))
  have X_t := Lib.hid (show TBox w1 w.heap.size t.k t.n (.slice A_t t.l.length c_t) from TBox.of ((Bk.new w 24 #[.int .i64 t.k, .int .i64 t.n, .slice A_t t.l.length c_t]).below hb (by simp <;> omega)))
  have HB_w := Lib.hid (HB_w.out.trans (hj.out.mono HB_w.out.size))
  have HB_w1 := Lib.hid (Below.refl w1.heap.size w1)
  have T_a := Lib.hid (fun V (hV : Below w1.heap.size w1 V) => hx.kept hV (Nat.le_refl _))
  clear hx
  clear hb hj
  obtain ⟨t0, t1, t2, tl⟩ := X_t.out
  go_wp2_with fail
  refine (((rresult_any t A_t c_t g A_g c_g _ ((T_t.out _ (HB_w.out.alloc HB_w.out.size (.cells #[.int .i64 a.k, .int .i64 a.n, .slice A_a a.l.length c_a] 24))).wide (Nat.le_refl _) (HB_w.out.alloc HB_w.out.size (.cells #[.int .i64 a.k, .int .i64 a.n, .slice A_a a.l.length c_a] 24)).size) ((T_g.out _ (HB_w.out.alloc HB_w.out.size (.cells #[.int .i64 a.k, .int .i64 a.n, .slice A_a a.l.length c_a] 24))).wide (Nat.le_refl _) (HB_w.out.alloc HB_w.out.size (.cells #[.int .i64 a.k, .int .i64 a.n, .slice A_a a.l.length c_a] 24)).size) HL20.out).mono fun _ _ h => GivesL.kept h HE.out)).mono ?_
  rintro e w2 ⟨A_b, c_b, rfl, hx, hb⟩
  rw [termV]
  have hj := Lib.hid (((Below.refl w1.heap.size w1).alloc (by simp <;> omega) (.cells #[.int .i64 a.k, .int .i64 a.n, .slice A_a a.l.length c_a] 24)).trans (hb.mono (by simp <;> omega)))
  have X_a := Lib.hid (show TBox w2 w1.heap.size a.k a.n (.slice A_a a.l.length c_a) from TBox.of ((Bk.new w1 24 #[.int .i64 a.k, .int .i64 a.n, .slice A_a a.l.length c_a]).below hb (by simp <;> omega)))
  have X_t := Lib.hid (X_t.out.kept hj.out X_t.out.lt)
  have HB_w := Lib.hid (HB_w.out.trans (hj.out.mono HB_w.out.size))
  have HB_w1 := Lib.hid (HB_w1.out.trans (hj.out.mono HB_w1.out.size))
  have HB_w2 := Lib.hid (Below.refl w2.heap.size w2)
  have T_b := Lib.hid (fun V (hV : Below w2.heap.size w2 V) => hx.kept hV (Nat.le_refl _))
  clear hx
  clear hb hj t0 t1 t2 tl
  obtain ⟨a0, a1, a2, al⟩ := X_a.out
  go_wp2_with fail
  refine (vsame_refl a e1 _ _ _ _ A_a A_b c_a c_b _ (T_a.out _ (HB_w1.out.alloc HB_w1.out.size (.cells #[.int .i64 a.k, .int .i64 a.n, .slice A_b a.l.length c_b] 24))) (T_b.out _ (HB_w2.out.alloc HB_w2.out.size (.cells #[.int .i64 a.k, .int .i64 a.n, .slice A_b a.l.length c_b] 24))) (HB_w1.out.alloc HB_w1.out.size (.cells #[.int .i64 a.k, .int .i64 a.n, .slice A_b a.l.length c_b] 24)).size (HB_w2.out.alloc HB_w2.out.size (.cells #[.int .i64 a.k, .int .i64 a.n, .slice A_b a.l.length c_b] 24)).size).mono ?_
  rintro e w3 ⟨rfl, hb⟩
  have hj := Lib.hid (((Below.refl w2.heap.size w2).alloc (by simp <;> omega) (.cells #[.int .i64 a.k, .int .i64 a.n, .slice A_b a.l.length c_b] 24)).trans (hb.mono (by simp <;> omega)))
  have X_b := Lib.hid (show TBox w3 w2.heap.size a.k a.n (.slice A_b a.l.length c_b) from TBox.of ((Bk.new w2 24 #[.int .i64 a.k, .int .i64 a.n, .slice A_b a.l.length c_b]).below hb (by simp <;> omega)))
  have X_t := Lib.hid (X_t.out.kept hj.out X_t.out.lt)
  have X_a := Lib.hid (X_a.out.kept hj.out X_a.out.lt)
  have HB_w := Lib.hid (HB_w.out.trans (hj.out.mono HB_w.out.size))
  have HB_w1 := Lib.hid (HB_w1.out.trans (hj.out.mono HB_w1.out.size))
  have HB_w2 := Lib.hid (HB_w2.out.trans (hj.out.mono HB_w2.out.size))
  have HB_w3 := Lib.hid (Below.refl w3.heap.size w3)
  clear hb hj a0 a1 a2 al
  go_wp2_with fail
  refine (awakeV_any _ (HS.out _ HB_w.out)).mono ?_
  rintro e w4 ⟨rfl, hb⟩
  have hj := Lib.hid hb
  have X_t := Lib.hid (X_t.out.kept hj.out X_t.out.lt)
  have X_a := Lib.hid (X_a.out.kept hj.out X_a.out.lt)
  have X_b := Lib.hid (X_b.out.kept hj.out X_b.out.lt)
  have HB_w := Lib.hid (HB_w.out.trans (hj.out.mono HB_w.out.size))
  have HB_w1 := Lib.hid (HB_w1.out.trans (hj.out.mono HB_w1.out.size))
  have HB_w2 := Lib.hid (HB_w2.out.trans (hj.out.mono HB_w2.out.size))
  have HB_w3 := Lib.hid (HB_w3.out.trans (hj.out.mono HB_w3.out.size))
  have HB_w4 := Lib.hid (Below.refl w4.heap.size w4)
  clear hb hj
  go_wp2_with fail
  go_ret
  exact ⟨rfl, HB_w.out⟩

end Go.Proofs.YtofmoggjpgjdgaaDoor
