/- The walk of the law LiftAdds. -/
import Derived.Test.YtodmnollgejgeaaDoorLSame
import Derived.Test.YtodmnollgejgeaaDoorTRSize
import Derived.Test.YtodmnollgejgeaaDoorTRDepth
import Derived.Deep.RegionWith
import Derived.Deep.RegionHeld3
namespace Go.Proofs.YtodmnollgejgeaaDoor
open Go.RowKit
set_option linter.unusedVariables false
set_option maxRecDepth 100000

theorem adds_zero {t : TM} (h : shapedB t = true) : liftX t 0 1 = (t, 0) := by
  have h3 := (shapedB_true.1 h).2.2
  rw [liftX_eq, h, if_pos (show (fitsB 0 && (fitsB 1 && true)) = true by decide), move_zero t 1 h3, h3]; rfl
theorem adds_fit {k : Int} (h : 0 ≤ k ∧ k ≤ 510) : (fitsB k && (fitsB 1 && true)) = true := by
  rw [fitsB_true.2 ⟨h.1, by omega⟩]; decide
theorem adds_both {t a b : TM} {k m : Int} (h : shapedB t = true) (hk : 0 ≤ k ∧ k ≤ 255) (hm : 0 ≤ m ∧ m ≤ 255) (h1 : liftX t k 1 = (a, 0)) (h2 : liftX a m 1 = (b, 0)) :
    liftX t (k + m) 1 = (b, 0) ∧ b.size = t.size ∧ b.depth = t.depth := by
  have h3 := (shapedB_true.1 h).2.2
  rw [liftX_eq, h, if_pos (adds_fit ⟨hk.1, by omega⟩)] at h1
  split at h1
  · rename_i hg
    injection h1 with h1 _
    subst h1
    have hs : shapedB (moveT k t 1) = true := (moveT_shaped h).trans hg
    rw [liftX_eq, hs, if_pos (adds_fit ⟨hm.1, by omega⟩), move_move k m hk.1] at h2
    split at h2
    · rename_i hg2
      injection h2 with h2 _
      subst h2
      rw [liftX_eq, h, if_pos (adds_fit ⟨by omega, by omega⟩), if_pos hg2]
      exact ⟨rfl, moveT_size _ t 1 h3⟩
    · injection h2 with _ h2; omega
  · injection h1 with _ h1; omega
theorem adds_not {t a b : TM} {k m e g : Int} (h : shapedB t = true) (hk : 0 ≤ k ∧ k ≤ 255) (hm : 0 ≤ m ∧ m ≤ 255) (h1 : liftX t k 1 = (a, e)) (h2 : liftX a m 1 = (b, g)) (hne : e ≠ 0 ∨ g ≠ 0) : liftX t (k + m) 1 = (.node 0 0 [], 2) := by
  have h3 := (shapedB_true.1 h).2.2
  rw [liftX_eq, h, if_pos (adds_fit ⟨by omega, by omega⟩)]
  cases hg : tgoodB (moveT (k + m) t 1) with
  | false => rfl
  | true =>
    have hl := move_less k m hk.1 hm.1 t 1 h3 hg
    rw [liftX_eq, h, if_pos (adds_fit ⟨hk.1, by omega⟩), if_pos hl] at h1
    injection h1 with h1 h4
    subst h1
    have hs : shapedB (moveT k t 1) = true := (moveT_shaped h).trans hl
    rw [liftX_eq, hs, if_pos (adds_fit ⟨hm.1, by omega⟩), move_move k m hk.1, if_pos hg] at h2
    injection h2 with h2 h5
    omega
/-- What a call's term is known by. -/
structure Fit1 (P : Int → Int → Option Addr → Nat → Nat → Prop) (k n : Int) (A : Option Addr) (m c : Nat) : Prop where
  is : P k n A m c

set_option maxHeartbeats 8000000 in
theorem ladds_walk (t : TM) (A : Option Addr) (cap : Nat) (k m : Int) (w : World) (h : IsTerm w 0 w.heap.size t A cap) (hk : (Lit.int .u8 k).wf = true) (hm : (Lit.int .u8 m).wf = true) (hS : ShapesM w) :
    Calls Tryd.prog 9 #[termV t A cap, .int .u8 k, .int .u8 m] w fun e w' => e = .returned (.bool true) ∧ Below w.heap.size w w' := by
  have hk0 : 0 ≤ k ∧ k ≤ 255 := by simpa [Lit.wf, IntKind.min, IntKind.max, IntKind.signed, IntKind.bits] using hk
  have hn0 : 0 ≤ m ∧ m ≤ 255 := by simpa [Lit.wf, IntKind.min, IntKind.max, IntKind.signed, IntKind.bits] using hm
  have hwk : IntKind.i64.wrap k = k := IntWalk.i64_in _ (by omega)
  have hwn : IntKind.i64.wrap m = m := IntWalk.i64_in _ (by omega)
  have hwkm : IntKind.i64.wrap (k + m) = k + m := IntWalk.i64_in _ (by omega)
  have T_t := Lib.hid (fun (V : World) (hV : Below w.heap.size w V) => h.kept hV (Nat.le_refl _))
  have HS := Lib.hid (fun (V : World) (hV : Below w.heap.size w V) => hS.kept hV)
  obtain ⟨a, e1, hE⟩ : ∃ a e, liftX t k 1 = (a, e) := ⟨_, _, rfl⟩
  obtain ⟨b, e2, hG⟩ : ∃ c g, liftX a m 1 = (c, g) := ⟨_, _, rfl⟩
  have HE := Lib.hid hE
  have HG := Lib.hid hG
  have HKM := Lib.hid (And.intro hk0 hn0)
  clear h hS hk hm hE hG hk0 hn0
  cases hx : shapedB t with
  | false =>
    have SH := Lib.hid (fun (V : World) (hV : Below w.heap.size w V) => (show Calls Tryd.prog 11 #[termV t A cap] V fun e w' => e = .returned (.bool false) ∧ Below V.heap.size V w' from by have := refShaped_any t 0 w.heap.size A cap V (T_t.out V hV) hV.size; rw [hx] at this; exact this))
    clear hx
    unfold termV at SH ⊢
    have HB_w := Lib.hid (Below.refl w.heap.size w)
    go_enter Tryd.func9, Tryd.ntmps9
    go_wp2_with fail
    refine (SH.out _ (HB_w.out.alloc HB_w.out.size (.cells #[.int .i64 t.k, .int .i64 t.n, .slice A t.l.length cap] 24))).mono ?_
    rintro e w1 ⟨rfl, hb⟩
    have hj := Lib.hid (((Below.refl w.heap.size w).alloc (Nat.le_refl _) (.cells #[.int .i64 t.k, .int .i64 t.n, .slice A t.l.length cap] 24)).trans (hb.mono (by simp)))
    have X_t := Lib.hid (show TBox w1 w.heap.size t.k t.n (.slice A t.l.length cap) from TBox.of ((Bk.new w 24 _).below hb (by simp)))
    have HB_w := Lib.hid (HB_w.out.trans (hj.out.mono HB_w.out.size))
    have HB_w1 := Lib.hid (Below.refl w1.heap.size w1)
    clear hb hj
    obtain ⟨t0, t1, t2, tl⟩ := X_t.out
    go_wp2_with fail
    refine (awakeL_any _ (HS.out _ HB_w.out)).mono ?_
    rintro e w2 ⟨rfl, hb⟩
    have hj := Lib.hid hb
    have X_t := Lib.hid (X_t.out.kept hj.out X_t.out.lt)
    have HB_w := Lib.hid (HB_w.out.trans (hj.out.mono HB_w.out.size))
    have HB_w1 := Lib.hid (HB_w1.out.trans (hj.out.mono HB_w1.out.size))
    have HB_w2 := Lib.hid (Below.refl w2.heap.size w2)
    clear hb hj t0 t1 t2 tl
    go_wp2_with fail
    go_ret
    exact ⟨rfl, HB_w.out⟩
  | true =>
    have SH := Lib.hid (fun (V : World) (hV : Below w.heap.size w V) => (show Calls Tryd.prog 11 #[termV t A cap] V fun e w' => e = .returned (.bool true) ∧ Below V.heap.size V w' from by have := refShaped_any t 0 w.heap.size A cap V (T_t.out V hV) hV.size; rw [hx] at this; exact this))
    have HX := Lib.hid hx
    have HZ := Lib.hid (adds_zero hx)
    clear hx
    unfold termV at SH ⊢
    by_cases h1 : e1 = 0
    · subst h1
      by_cases h2 : e2 = 0
      · subst h2
        have HC := Lib.hid (adds_both HX.out HKM.out.1 HKM.out.2 HE.out HG.out).1
        have HSZ := Lib.hid (adds_both HX.out HKM.out.1 HKM.out.2 HE.out HG.out).2
        have HB_w := Lib.hid (Below.refl w.heap.size w)
        go_enter Tryd.func9, Tryd.ntmps9
        go_wp2_with fail
        refine (SH.out _ (HB_w.out.alloc HB_w.out.size (.cells #[.int .i64 t.k, .int .i64 t.n, .slice A t.l.length cap] 24))).mono ?_
        rintro e w1 ⟨rfl, hb⟩
        have hj := Lib.hid (((Below.refl w.heap.size w).alloc (Nat.le_refl _) (.cells #[.int .i64 t.k, .int .i64 t.n, .slice A t.l.length cap] 24)).trans (hb.mono (by simp)))
        have X_t := Lib.hid (show TBox w1 w.heap.size t.k t.n (.slice A t.l.length cap) from TBox.of ((Bk.new w 24 _).below hb (by simp)))
        have HB_w := Lib.hid (HB_w.out.trans (hj.out.mono HB_w.out.size))
        have HB_w1 := Lib.hid (Below.refl w1.heap.size w1)
        clear hb hj
        obtain ⟨t0, t1, t2, tl⟩ := X_t.out
        go_wp2_with fail
        refine (((lift_any t 0 1 _ _ A cap _ (T_t.out _ HB_w.out) HB_w.out.size (HS.out _ HB_w.out)).mono fun _ _ h => GivesT.kept h HZ.out)).mono ?_
        rintro e w2 ⟨A_z, c_z, rfl, hx, hb⟩
        rw [termV]
        have hj := Lib.hid hb
        have X_t := Lib.hid (X_t.out.kept hj.out X_t.out.lt)
        have HB_w := Lib.hid (HB_w.out.trans (hj.out.mono HB_w.out.size))
        have HB_w1 := Lib.hid (HB_w1.out.trans (hj.out.mono HB_w1.out.size))
        have HB_w2 := Lib.hid (Below.refl w2.heap.size w2)
        have T_z := Lib.hid (fun V (hV : Below w2.heap.size w2 V) => hx.kept hV (Nat.le_refl _))
        clear hx
        clear hb hj t0 t1 t2 tl
        obtain ⟨t0, t1, t2, tl⟩ := X_t.out
        go_wp2_with fail
        refine (((lift_any t k 1 _ _ A cap _ (T_t.out _ (HB_w.out.alloc HB_w.out.size (.cells #[.int .i64 t.k, .int .i64 t.n, .slice A_z t.l.length c_z] 24))) (HB_w.out.alloc HB_w.out.size (.cells #[.int .i64 t.k, .int .i64 t.n, .slice A_z t.l.length c_z] 24)).size (HS.out _ (HB_w.out.alloc HB_w.out.size (.cells #[.int .i64 t.k, .int .i64 t.n, .slice A_z t.l.length c_z] 24)))).mono fun _ _ h => GivesT.kept h HE.out)).mono ?_
        rintro e w3 ⟨A_a, c_a, rfl, hx, hb⟩
        rw [termV]
        have hj := Lib.hid (((Below.refl w2.heap.size w2).alloc (Nat.le_refl _) (.cells #[.int .i64 t.k, .int .i64 t.n, .slice A_z t.l.length c_z] 24)).trans (hb.mono (by simp)))
        have X_z := Lib.hid (show TBox w3 w2.heap.size t.k t.n (.slice A_z t.l.length c_z) from TBox.of ((Bk.new w2 24 _).below hb (by simp)))
        have X_t := Lib.hid (X_t.out.kept hj.out X_t.out.lt)
        have HB_w := Lib.hid (HB_w.out.trans (hj.out.mono HB_w.out.size))
        have HB_w1 := Lib.hid (HB_w1.out.trans (hj.out.mono HB_w1.out.size))
        have HB_w2 := Lib.hid (HB_w2.out.trans (hj.out.mono HB_w2.out.size))
        have HB_w3 := Lib.hid (Below.refl w3.heap.size w3)
        have T_a := Lib.hid (fun V (hV : Below w3.heap.size w3 V) => hx.kept hV (Nat.le_refl _))
        clear hx
        clear hb hj t0 t1 t2 tl
        obtain ⟨t0, t1, t2, tl⟩ := X_t.out
        obtain ⟨z0, z1, z2, zl⟩ := X_z.out
        go_wp2_with fail
        refine (((lift_any a m 1 _ _ A_a c_a _ (T_a.out _ (HB_w3.out.alloc HB_w3.out.size (.cells #[.int .i64 a.k, .int .i64 a.n, .slice A_a a.l.length c_a] 24))) (HB_w3.out.alloc HB_w3.out.size (.cells #[.int .i64 a.k, .int .i64 a.n, .slice A_a a.l.length c_a] 24)).size (HS.out _ (HB_w.out.alloc HB_w.out.size (.cells #[.int .i64 a.k, .int .i64 a.n, .slice A_a a.l.length c_a] 24)))).mono fun _ _ h => GivesT.kept h HG.out)).mono ?_
        rintro e w4 ⟨A_b, c_b, rfl, hx, hb⟩
        rw [termV]
        have hj := Lib.hid (((Below.refl w3.heap.size w3).alloc (Nat.le_refl _) (.cells #[.int .i64 a.k, .int .i64 a.n, .slice A_a a.l.length c_a] 24)).trans (hb.mono (by simp)))
        have X_a := Lib.hid (show TBox w4 w3.heap.size a.k a.n (.slice A_a a.l.length c_a) from TBox.of ((Bk.new w3 24 _).below hb (by simp)))
        have X_t := Lib.hid (X_t.out.kept hj.out X_t.out.lt)
        have X_z := Lib.hid (X_z.out.kept hj.out X_z.out.lt)
        have HB_w := Lib.hid (HB_w.out.trans (hj.out.mono HB_w.out.size))
        have HB_w1 := Lib.hid (HB_w1.out.trans (hj.out.mono HB_w1.out.size))
        have HB_w2 := Lib.hid (HB_w2.out.trans (hj.out.mono HB_w2.out.size))
        have HB_w3 := Lib.hid (HB_w3.out.trans (hj.out.mono HB_w3.out.size))
        have HB_w4 := Lib.hid (Below.refl w4.heap.size w4)
        have T_b := Lib.hid (fun V (hV : Below w4.heap.size w4 V) => hx.kept hV (Nat.le_refl _))
        clear hx
        clear hb hj t0 t1 t2 tl z0 z1 z2 zl
        obtain ⟨t0, t1, t2, tl⟩ := X_t.out
        obtain ⟨z0, z1, z2, zl⟩ := X_z.out
        go_wp2_with fail
        refine (((lift_any t (k + m) 1 _ _ A cap _ (T_t.out _ (HB_w.out.alloc HB_w.out.size (.cells #[.int .i64 b.k, .int .i64 b.n, .slice A_b b.l.length c_b] 24))) (HB_w.out.alloc HB_w.out.size (.cells #[.int .i64 b.k, .int .i64 b.n, .slice A_b b.l.length c_b] 24)).size (HS.out _ (HB_w.out.alloc HB_w.out.size (.cells #[.int .i64 b.k, .int .i64 b.n, .slice A_b b.l.length c_b] 24)))).mono fun _ _ h => GivesT.kept h HC.out)).mono ?_
        rintro e w5 ⟨A_c, c_c, rfl, hx, hb⟩
        rw [termV]
        have hj := Lib.hid (((Below.refl w4.heap.size w4).alloc (Nat.le_refl _) (.cells #[.int .i64 b.k, .int .i64 b.n, .slice A_b b.l.length c_b] 24)).trans (hb.mono (by simp)))
        have X_b := Lib.hid (show TBox w5 w4.heap.size b.k b.n (.slice A_b b.l.length c_b) from TBox.of ((Bk.new w4 24 _).below hb (by simp)))
        have X_t := Lib.hid (X_t.out.kept hj.out X_t.out.lt)
        have X_z := Lib.hid (X_z.out.kept hj.out X_z.out.lt)
        have X_a := Lib.hid (X_a.out.kept hj.out X_a.out.lt)
        have HB_w := Lib.hid (HB_w.out.trans (hj.out.mono HB_w.out.size))
        have HB_w1 := Lib.hid (HB_w1.out.trans (hj.out.mono HB_w1.out.size))
        have HB_w2 := Lib.hid (HB_w2.out.trans (hj.out.mono HB_w2.out.size))
        have HB_w3 := Lib.hid (HB_w3.out.trans (hj.out.mono HB_w3.out.size))
        have HB_w4 := Lib.hid (HB_w4.out.trans (hj.out.mono HB_w4.out.size))
        have HB_w5 := Lib.hid (Below.refl w5.heap.size w5)
        have T_c := Lib.hid (fun V (hV : Below w5.heap.size w5 V) => hx.kept hV (Nat.le_refl _))
        clear hx
        clear hb hj t0 t1 t2 tl z0 z1 z2 zl
        obtain ⟨t0, t1, t2, tl⟩ := X_t.out
        obtain ⟨z0, z1, z2, zl⟩ := X_z.out
        go_wp2_with fail
        refine (same_refl t 0 _ _ _ _ A_z A c_z cap _ (T_z.out _ (HB_w2.out.alloc HB_w2.out.size (.cells #[.int .i64 b.k, .int .i64 b.n, .slice A_c b.l.length c_c] 24))) (T_t.out _ (HB_w.out.alloc HB_w.out.size (.cells #[.int .i64 b.k, .int .i64 b.n, .slice A_c b.l.length c_c] 24))) (HB_w2.out.alloc HB_w2.out.size (.cells #[.int .i64 b.k, .int .i64 b.n, .slice A_c b.l.length c_c] 24)).size (HB_w.out.alloc HB_w.out.size (.cells #[.int .i64 b.k, .int .i64 b.n, .slice A_c b.l.length c_c] 24)).size).mono ?_
        rintro e w6 ⟨rfl, hb⟩
        have hj := Lib.hid (((Below.refl w5.heap.size w5).alloc (Nat.le_refl _) (.cells #[.int .i64 b.k, .int .i64 b.n, .slice A_c b.l.length c_c] 24)).trans (hb.mono (by simp)))
        have X_c := Lib.hid (show TBox w6 w5.heap.size b.k b.n (.slice A_c b.l.length c_c) from TBox.of ((Bk.new w5 24 _).below hb (by simp)))
        have X_t := Lib.hid (X_t.out.kept hj.out X_t.out.lt)
        have X_z := Lib.hid (X_z.out.kept hj.out X_z.out.lt)
        have X_a := Lib.hid (X_a.out.kept hj.out X_a.out.lt)
        have X_b := Lib.hid (X_b.out.kept hj.out X_b.out.lt)
        have HB_w := Lib.hid (HB_w.out.trans (hj.out.mono HB_w.out.size))
        have HB_w1 := Lib.hid (HB_w1.out.trans (hj.out.mono HB_w1.out.size))
        have HB_w2 := Lib.hid (HB_w2.out.trans (hj.out.mono HB_w2.out.size))
        have HB_w3 := Lib.hid (HB_w3.out.trans (hj.out.mono HB_w3.out.size))
        have HB_w4 := Lib.hid (HB_w4.out.trans (hj.out.mono HB_w4.out.size))
        have HB_w5 := Lib.hid (HB_w5.out.trans (hj.out.mono HB_w5.out.size))
        have HB_w6 := Lib.hid (Below.refl w6.heap.size w6)
        clear hb hj t0 t1 t2 tl z0 z1 z2 zl
        obtain ⟨t0, t1, t2, tl⟩ := X_t.out
        obtain ⟨b0, b1, b2, bl⟩ := X_b.out
        obtain ⟨c0, c1, c2, cl⟩ := X_c.out
        have HKR := Lib.hid (fun (V : World) (hV : Below w6.heap.size w6 V) => (show V.cell? ⟨w4.heap.size, 0, none⟩ = some (.int .i64 b.k) ∧ V.cell? ⟨w4.heap.size, 1, none⟩ = some (.int .i64 b.n) ∧ V.cell? ⟨w4.heap.size, 2, none⟩ = some (.slice A_b b.l.length c_b) ∧ V.cell? ⟨w5.heap.size, 0, none⟩ = some (.int .i64 b.k) ∧ V.cell? ⟨w5.heap.size, 1, none⟩ = some (.int .i64 b.n) ∧ V.cell? ⟨w5.heap.size, 2, none⟩ = some (.slice A_c b.l.length c_c) ∧ V.cell? ⟨w.heap.size, 0, none⟩ = some (.int .i64 t.k) ∧ V.cell? ⟨w.heap.size, 1, none⟩ = some (.int .i64 t.n) ∧ V.cell? ⟨w.heap.size, 2, none⟩ = some (.slice A t.l.length cap) from ⟨(X_b.out.kept hV X_b.out.lt).c0, (X_b.out.kept hV X_b.out.lt).c1, (X_b.out.kept hV X_b.out.lt).c2, (X_c.out.kept hV X_c.out.lt).c0, (X_c.out.kept hV X_c.out.lt).c1, (X_c.out.kept hV X_c.out.lt).c2, (X_t.out.kept hV X_t.out.lt).c0, (X_t.out.kept hV X_t.out.lt).c1, (X_t.out.kept hV X_t.out.lt).c2⟩))
        have CS := Lib.hid (fun (V : World) (hV : Below w6.heap.size w6 V) => same_refl b 0 _ _ _ _ A_b A_c c_b c_c V (T_b.out _ (HB_w4.out.trans (hV.mono HB_w4.out.size))) (T_c.out _ (HB_w5.out.trans (hV.mono HB_w5.out.size))) (HB_w4.out.trans (hV.mono HB_w4.out.size)).size (HB_w5.out.trans (hV.mono HB_w5.out.size)).size)
        have AW := Lib.hid (fun (V : World) (hV : Below w6.heap.size w6 V) => awakeL_any V (HS.out V (HB_w.out.trans (hV.mono HB_w.out.size))))
        obtain ⟨NZ, hNZ⟩ : ∃ N : Nat, topN t.size = N := ⟨_, rfl⟩
        have hMZ : topN b.size = NZ := by rw [← hNZ]; rw [HSZ.out.1]
        have CZ := Lib.hid (fun (V : World) (hV : Below w6.heap.size w6 V) (k n : Int) (A : Option Addr) (m c : Nat) (hf : Fit1 (fun k n A m c => Calls Tryd.prog 40 #[.agg #[.int .i64 k, .int .i64 n, .slice A m c]] V fun e w' => e = .returned (.int .i64 (NZ : Int)) ∧ Below V.heap.size V w') k n A m c) => hf.is)
        have FZC := Lib.hid (fun (V : World) (hV : Below w6.heap.size w6 V) => Fit1.mk (P := fun k n A m c => Calls Tryd.prog 40 #[.agg #[.int .i64 k, .int .i64 n, .slice A m c]] V fun e w' => e = .returned (.int .i64 (NZ : Int)) ∧ Below V.heap.size V w') (k := b.k) (n := b.n) (A := A_c) (m := b.l.length) (c := c_c) (by have := refTSize_any b _ _ A_c c_c V (T_c.out _ (HB_w5.out.trans (hV.mono HB_w5.out.size))) (HB_w5.out.trans (hV.mono HB_w5.out.size)).size; rw [hMZ] at this; exact this))
        have FZT := Lib.hid (fun (V : World) (hV : Below w6.heap.size w6 V) => Fit1.mk (P := fun k n A m c => Calls Tryd.prog 40 #[.agg #[.int .i64 k, .int .i64 n, .slice A m c]] V fun e w' => e = .returned (.int .i64 (NZ : Int)) ∧ Below V.heap.size V w') (k := t.k) (n := t.n) (A := A) (m := t.l.length) (c := cap) (by have := refTSize_any t _ _ A cap V (T_t.out _ (HB_w.out.trans (hV.mono HB_w.out.size))) (HB_w.out.trans (hV.mono HB_w.out.size)).size; rw [hNZ] at this; exact this))
        clear hNZ hMZ
        obtain ⟨ND, hND⟩ : ∃ N : Nat, tdeepN t = N := ⟨_, rfl⟩
        have hMD : tdeepN b = ND := by rw [← hND]; unfold tdeepN; rw [HSZ.out.1, HSZ.out.2]
        have CD := Lib.hid (fun (V : World) (hV : Below w6.heap.size w6 V) (k n : Int) (A : Option Addr) (m c : Nat) (hf : Fit1 (fun k n A m c => Calls Tryd.prog 41 #[.agg #[.int .i64 k, .int .i64 n, .slice A m c]] V fun e w' => e = .returned (.int .i64 (ND : Int)) ∧ Below V.heap.size V w') k n A m c) => hf.is)
        have FDC := Lib.hid (fun (V : World) (hV : Below w6.heap.size w6 V) => Fit1.mk (P := fun k n A m c => Calls Tryd.prog 41 #[.agg #[.int .i64 k, .int .i64 n, .slice A m c]] V fun e w' => e = .returned (.int .i64 (ND : Int)) ∧ Below V.heap.size V w') (k := b.k) (n := b.n) (A := A_c) (m := b.l.length) (c := c_c) (by have := refTDepth_any b _ _ A_c c_c V (T_c.out _ (HB_w5.out.trans (hV.mono HB_w5.out.size))) (HB_w5.out.trans (hV.mono HB_w5.out.size)).size; rw [hMD] at this; exact this))
        have FDT := Lib.hid (fun (V : World) (hV : Below w6.heap.size w6 V) => Fit1.mk (P := fun k n A m c => Calls Tryd.prog 41 #[.agg #[.int .i64 k, .int .i64 n, .slice A m c]] V fun e w' => e = .returned (.int .i64 (ND : Int)) ∧ Below V.heap.size V w') (k := t.k) (n := t.n) (A := A) (m := t.l.length) (c := cap) (by have := refTDepth_any t _ _ A cap V (T_t.out _ (HB_w.out.trans (hV.mono HB_w.out.size))) (HB_w.out.trans (hV.mono HB_w.out.size)).size; rw [hND] at this; exact this))
        clear hND hMD
        have HBV := Lib.hid (fun (V : World) (hV : Below w6.heap.size w6 V) => HB_w.out.trans (hV.mono HB_w.out.size))
        unfold termV at CS
        have hbk := Lib.hid ((Below.refl w6.heap.size w6).drew)
        clear t0 t1 t2 tl b0 b1 b2 bl c0 c1 c2 cl
        go_upto_region 11 with fail
        go_region_held3 (fun w' => w'.cell? ⟨w4.heap.size, 0, none⟩ = some (.int .i64 b.k) ∧ w'.cell? ⟨w4.heap.size, 1, none⟩ = some (.int .i64 b.n) ∧ w'.cell? ⟨w4.heap.size, 2, none⟩ = some (.slice A_b b.l.length c_b) ∧ w'.cell? ⟨w5.heap.size, 0, none⟩ = some (.int .i64 b.k) ∧ w'.cell? ⟨w5.heap.size, 1, none⟩ = some (.int .i64 b.n) ∧ w'.cell? ⟨w5.heap.size, 2, none⟩ = some (.slice A_c b.l.length c_c) ∧ w'.cell? ⟨w.heap.size, 0, none⟩ = some (.int .i64 t.k) ∧ w'.cell? ⟨w.heap.size, 1, none⟩ = some (.int .i64 t.n) ∧ w'.cell? ⟨w.heap.size, 2, none⟩ = some (.slice A t.l.length cap))
          (exact HKR.out _ hbk.out)
          (first
           | (go_at_call 31; refine (CS.out _ hbk.out).mono ?_; rintro e wn ⟨rfl, hbn⟩; have hbk := Lib.hid (hbk.out.trans (hbn.mono hbk.out.size)); clear hbn)
           | (go_at_call 40; refine (CZ.out _ hbk.out _ _ _ _ _ (by first | exact FZC.out _ hbk.out | exact FZT.out _ hbk.out)).mono ?_; rintro e wn ⟨rfl, hbn⟩; have hbk := Lib.hid (hbk.out.trans (hbn.mono hbk.out.size)); clear hbn)
           | (go_at_call 41; refine (CD.out _ hbk.out _ _ _ _ _ (by first | exact FDC.out _ hbk.out | exact FDT.out _ hbk.out)).mono ?_; rintro e wn ⟨rfl, hbn⟩; have hbk := Lib.hid (hbk.out.trans (hbn.mono hbk.out.size)); clear hbn)
           | (go_at_call 32; refine (AW.out _ hbk.out).mono ?_; rintro e wn ⟨rfl, hbn⟩; have hbk := Lib.hid (hbk.out.trans (hbn.mono hbk.out.size)); clear hbn))
        all_goals
          go_wp2_with fail
          go_ret
          exact ⟨rfl, HBV.out _ hbk.out⟩
      · have t2 : (e2 != 0) = true := by simpa using h2
        have HC := Lib.hid (adds_not HX.out HKM.out.1 HKM.out.2 HE.out HG.out (.inr h2))
        clear h2
        have HB_w := Lib.hid (Below.refl w.heap.size w)
        go_enter Tryd.func9, Tryd.ntmps9
        go_wp2_with fail
        refine (SH.out _ (HB_w.out.alloc HB_w.out.size (.cells #[.int .i64 t.k, .int .i64 t.n, .slice A t.l.length cap] 24))).mono ?_
        rintro e w1 ⟨rfl, hb⟩
        have hj := Lib.hid (((Below.refl w.heap.size w).alloc (Nat.le_refl _) (.cells #[.int .i64 t.k, .int .i64 t.n, .slice A t.l.length cap] 24)).trans (hb.mono (by simp)))
        have X_t := Lib.hid (show TBox w1 w.heap.size t.k t.n (.slice A t.l.length cap) from TBox.of ((Bk.new w 24 _).below hb (by simp)))
        have HB_w := Lib.hid (HB_w.out.trans (hj.out.mono HB_w.out.size))
        have HB_w1 := Lib.hid (Below.refl w1.heap.size w1)
        clear hb hj
        obtain ⟨t0, t1, t2, tl⟩ := X_t.out
        go_wp2_with fail
        refine (((lift_any t 0 1 _ _ A cap _ (T_t.out _ HB_w.out) HB_w.out.size (HS.out _ HB_w.out)).mono fun _ _ h => GivesT.kept h HZ.out)).mono ?_
        rintro e w2 ⟨A_z, c_z, rfl, hx, hb⟩
        rw [termV]
        have hj := Lib.hid hb
        have X_t := Lib.hid (X_t.out.kept hj.out X_t.out.lt)
        have HB_w := Lib.hid (HB_w.out.trans (hj.out.mono HB_w.out.size))
        have HB_w1 := Lib.hid (HB_w1.out.trans (hj.out.mono HB_w1.out.size))
        have HB_w2 := Lib.hid (Below.refl w2.heap.size w2)
        have T_z := Lib.hid (fun V (hV : Below w2.heap.size w2 V) => hx.kept hV (Nat.le_refl _))
        clear hx
        clear hb hj t0 t1 t2 tl
        obtain ⟨t0, t1, t2, tl⟩ := X_t.out
        go_wp2_with fail
        refine (((lift_any t k 1 _ _ A cap _ (T_t.out _ (HB_w.out.alloc HB_w.out.size (.cells #[.int .i64 t.k, .int .i64 t.n, .slice A_z t.l.length c_z] 24))) (HB_w.out.alloc HB_w.out.size (.cells #[.int .i64 t.k, .int .i64 t.n, .slice A_z t.l.length c_z] 24)).size (HS.out _ (HB_w.out.alloc HB_w.out.size (.cells #[.int .i64 t.k, .int .i64 t.n, .slice A_z t.l.length c_z] 24)))).mono fun _ _ h => GivesT.kept h HE.out)).mono ?_
        rintro e w3 ⟨A_a, c_a, rfl, hx, hb⟩
        rw [termV]
        have hj := Lib.hid (((Below.refl w2.heap.size w2).alloc (Nat.le_refl _) (.cells #[.int .i64 t.k, .int .i64 t.n, .slice A_z t.l.length c_z] 24)).trans (hb.mono (by simp)))
        have X_z := Lib.hid (show TBox w3 w2.heap.size t.k t.n (.slice A_z t.l.length c_z) from TBox.of ((Bk.new w2 24 _).below hb (by simp)))
        have X_t := Lib.hid (X_t.out.kept hj.out X_t.out.lt)
        have HB_w := Lib.hid (HB_w.out.trans (hj.out.mono HB_w.out.size))
        have HB_w1 := Lib.hid (HB_w1.out.trans (hj.out.mono HB_w1.out.size))
        have HB_w2 := Lib.hid (HB_w2.out.trans (hj.out.mono HB_w2.out.size))
        have HB_w3 := Lib.hid (Below.refl w3.heap.size w3)
        have T_a := Lib.hid (fun V (hV : Below w3.heap.size w3 V) => hx.kept hV (Nat.le_refl _))
        clear hx
        clear hb hj t0 t1 t2 tl
        obtain ⟨t0, t1, t2, tl⟩ := X_t.out
        obtain ⟨z0, z1, z2, zl⟩ := X_z.out
        go_wp2_with fail
        refine (((lift_any a m 1 _ _ A_a c_a _ (T_a.out _ (HB_w3.out.alloc HB_w3.out.size (.cells #[.int .i64 a.k, .int .i64 a.n, .slice A_a a.l.length c_a] 24))) (HB_w3.out.alloc HB_w3.out.size (.cells #[.int .i64 a.k, .int .i64 a.n, .slice A_a a.l.length c_a] 24)).size (HS.out _ (HB_w.out.alloc HB_w.out.size (.cells #[.int .i64 a.k, .int .i64 a.n, .slice A_a a.l.length c_a] 24)))).mono fun _ _ h => GivesT.kept h HG.out)).mono ?_
        rintro e w4 ⟨A_b, c_b, rfl, hx, hb⟩
        rw [termV]
        have hj := Lib.hid (((Below.refl w3.heap.size w3).alloc (Nat.le_refl _) (.cells #[.int .i64 a.k, .int .i64 a.n, .slice A_a a.l.length c_a] 24)).trans (hb.mono (by simp)))
        have X_a := Lib.hid (show TBox w4 w3.heap.size a.k a.n (.slice A_a a.l.length c_a) from TBox.of ((Bk.new w3 24 _).below hb (by simp)))
        have X_t := Lib.hid (X_t.out.kept hj.out X_t.out.lt)
        have X_z := Lib.hid (X_z.out.kept hj.out X_z.out.lt)
        have HB_w := Lib.hid (HB_w.out.trans (hj.out.mono HB_w.out.size))
        have HB_w1 := Lib.hid (HB_w1.out.trans (hj.out.mono HB_w1.out.size))
        have HB_w2 := Lib.hid (HB_w2.out.trans (hj.out.mono HB_w2.out.size))
        have HB_w3 := Lib.hid (HB_w3.out.trans (hj.out.mono HB_w3.out.size))
        have HB_w4 := Lib.hid (Below.refl w4.heap.size w4)
        have T_b := Lib.hid (fun V (hV : Below w4.heap.size w4 V) => hx.kept hV (Nat.le_refl _))
        clear hx
        clear hb hj t0 t1 t2 tl z0 z1 z2 zl
        obtain ⟨t0, t1, t2, tl⟩ := X_t.out
        obtain ⟨z0, z1, z2, zl⟩ := X_z.out
        go_wp2_with fail
        refine (((lift_any t (k + m) 1 _ _ A cap _ (T_t.out _ (HB_w.out.alloc HB_w.out.size (.cells #[.int .i64 b.k, .int .i64 b.n, .slice A_b b.l.length c_b] 24))) (HB_w.out.alloc HB_w.out.size (.cells #[.int .i64 b.k, .int .i64 b.n, .slice A_b b.l.length c_b] 24)).size (HS.out _ (HB_w.out.alloc HB_w.out.size (.cells #[.int .i64 b.k, .int .i64 b.n, .slice A_b b.l.length c_b] 24)))).mono fun _ _ h => GivesT.kept h HC.out)).mono ?_
        rintro e w5 ⟨A_c, c_c, rfl, hx, hb⟩
        rw [termV]
        have hj := Lib.hid (((Below.refl w4.heap.size w4).alloc (Nat.le_refl _) (.cells #[.int .i64 b.k, .int .i64 b.n, .slice A_b b.l.length c_b] 24)).trans (hb.mono (by simp)))
        have X_b := Lib.hid (show TBox w5 w4.heap.size b.k b.n (.slice A_b b.l.length c_b) from TBox.of ((Bk.new w4 24 _).below hb (by simp)))
        have X_t := Lib.hid (X_t.out.kept hj.out X_t.out.lt)
        have X_z := Lib.hid (X_z.out.kept hj.out X_z.out.lt)
        have X_a := Lib.hid (X_a.out.kept hj.out X_a.out.lt)
        have HB_w := Lib.hid (HB_w.out.trans (hj.out.mono HB_w.out.size))
        have HB_w1 := Lib.hid (HB_w1.out.trans (hj.out.mono HB_w1.out.size))
        have HB_w2 := Lib.hid (HB_w2.out.trans (hj.out.mono HB_w2.out.size))
        have HB_w3 := Lib.hid (HB_w3.out.trans (hj.out.mono HB_w3.out.size))
        have HB_w4 := Lib.hid (HB_w4.out.trans (hj.out.mono HB_w4.out.size))
        have HB_w5 := Lib.hid (Below.refl w5.heap.size w5)
        have T_c := Lib.hid (fun V (hV : Below w5.heap.size w5 V) => hx.kept hV (Nat.le_refl _))
        clear hx
        clear hb hj t0 t1 t2 tl z0 z1 z2 zl
        obtain ⟨t0, t1, t2, tl⟩ := X_t.out
        obtain ⟨z0, z1, z2, zl⟩ := X_z.out
        go_wp2_with fail
        refine (same_refl t 0 _ _ _ _ A_z A c_z cap _ (T_z.out _ (HB_w2.out.alloc HB_w2.out.size (.cells #[.int .i64 (TM.node 0 0 []).k, .int .i64 (TM.node 0 0 []).n, .slice A_c (TM.node 0 0 []).l.length c_c] 24))) (T_t.out _ (HB_w.out.alloc HB_w.out.size (.cells #[.int .i64 (TM.node 0 0 []).k, .int .i64 (TM.node 0 0 []).n, .slice A_c (TM.node 0 0 []).l.length c_c] 24))) (HB_w2.out.alloc HB_w2.out.size (.cells #[.int .i64 (TM.node 0 0 []).k, .int .i64 (TM.node 0 0 []).n, .slice A_c (TM.node 0 0 []).l.length c_c] 24)).size (HB_w.out.alloc HB_w.out.size (.cells #[.int .i64 (TM.node 0 0 []).k, .int .i64 (TM.node 0 0 []).n, .slice A_c (TM.node 0 0 []).l.length c_c] 24)).size).mono ?_
        rintro e w6 ⟨rfl, hb⟩
        have hj := Lib.hid (((Below.refl w5.heap.size w5).alloc (Nat.le_refl _) (.cells #[.int .i64 (TM.node 0 0 []).k, .int .i64 (TM.node 0 0 []).n, .slice A_c (TM.node 0 0 []).l.length c_c] 24)).trans (hb.mono (by simp)))
        have X_c := Lib.hid (show TBox w6 w5.heap.size (TM.node 0 0 []).k (TM.node 0 0 []).n (.slice A_c (TM.node 0 0 []).l.length c_c) from TBox.of ((Bk.new w5 24 _).below hb (by simp)))
        have X_t := Lib.hid (X_t.out.kept hj.out X_t.out.lt)
        have X_z := Lib.hid (X_z.out.kept hj.out X_z.out.lt)
        have X_a := Lib.hid (X_a.out.kept hj.out X_a.out.lt)
        have X_b := Lib.hid (X_b.out.kept hj.out X_b.out.lt)
        have HB_w := Lib.hid (HB_w.out.trans (hj.out.mono HB_w.out.size))
        have HB_w1 := Lib.hid (HB_w1.out.trans (hj.out.mono HB_w1.out.size))
        have HB_w2 := Lib.hid (HB_w2.out.trans (hj.out.mono HB_w2.out.size))
        have HB_w3 := Lib.hid (HB_w3.out.trans (hj.out.mono HB_w3.out.size))
        have HB_w4 := Lib.hid (HB_w4.out.trans (hj.out.mono HB_w4.out.size))
        have HB_w5 := Lib.hid (HB_w5.out.trans (hj.out.mono HB_w5.out.size))
        have HB_w6 := Lib.hid (Below.refl w6.heap.size w6)
        clear hb hj t0 t1 t2 tl z0 z1 z2 zl
        go_wp2_with fail
        refine (awakeL_any _ (HS.out _ HB_w.out)).mono ?_
        rintro e w7 ⟨rfl, hb⟩
        have hj := Lib.hid hb
        have X_t := Lib.hid (X_t.out.kept hj.out X_t.out.lt)
        have X_z := Lib.hid (X_z.out.kept hj.out X_z.out.lt)
        have X_a := Lib.hid (X_a.out.kept hj.out X_a.out.lt)
        have X_b := Lib.hid (X_b.out.kept hj.out X_b.out.lt)
        have X_c := Lib.hid (X_c.out.kept hj.out X_c.out.lt)
        have HB_w := Lib.hid (HB_w.out.trans (hj.out.mono HB_w.out.size))
        have HB_w1 := Lib.hid (HB_w1.out.trans (hj.out.mono HB_w1.out.size))
        have HB_w2 := Lib.hid (HB_w2.out.trans (hj.out.mono HB_w2.out.size))
        have HB_w3 := Lib.hid (HB_w3.out.trans (hj.out.mono HB_w3.out.size))
        have HB_w4 := Lib.hid (HB_w4.out.trans (hj.out.mono HB_w4.out.size))
        have HB_w5 := Lib.hid (HB_w5.out.trans (hj.out.mono HB_w5.out.size))
        have HB_w6 := Lib.hid (HB_w6.out.trans (hj.out.mono HB_w6.out.size))
        have HB_w7 := Lib.hid (Below.refl w7.heap.size w7)
        clear hb hj
        go_wp2_with fail
        go_ret
        exact ⟨rfl, HB_w.out⟩
    · have t1 : (e1 != 0) = true := by simpa using h1
      have HC := Lib.hid (adds_not HX.out HKM.out.1 HKM.out.2 HE.out HG.out (.inl h1))
      clear h1
      have HB_w := Lib.hid (Below.refl w.heap.size w)
      go_enter Tryd.func9, Tryd.ntmps9
      go_wp2_with fail
      refine (SH.out _ (HB_w.out.alloc HB_w.out.size (.cells #[.int .i64 t.k, .int .i64 t.n, .slice A t.l.length cap] 24))).mono ?_
      rintro e w1 ⟨rfl, hb⟩
      have hj := Lib.hid (((Below.refl w.heap.size w).alloc (Nat.le_refl _) (.cells #[.int .i64 t.k, .int .i64 t.n, .slice A t.l.length cap] 24)).trans (hb.mono (by simp)))
      have X_t := Lib.hid (show TBox w1 w.heap.size t.k t.n (.slice A t.l.length cap) from TBox.of ((Bk.new w 24 _).below hb (by simp)))
      have HB_w := Lib.hid (HB_w.out.trans (hj.out.mono HB_w.out.size))
      have HB_w1 := Lib.hid (Below.refl w1.heap.size w1)
      clear hb hj
      obtain ⟨t0, t1, t2, tl⟩ := X_t.out
      go_wp2_with fail
      refine (((lift_any t 0 1 _ _ A cap _ (T_t.out _ HB_w.out) HB_w.out.size (HS.out _ HB_w.out)).mono fun _ _ h => GivesT.kept h HZ.out)).mono ?_
      rintro e w2 ⟨A_z, c_z, rfl, hx, hb⟩
      rw [termV]
      have hj := Lib.hid hb
      have X_t := Lib.hid (X_t.out.kept hj.out X_t.out.lt)
      have HB_w := Lib.hid (HB_w.out.trans (hj.out.mono HB_w.out.size))
      have HB_w1 := Lib.hid (HB_w1.out.trans (hj.out.mono HB_w1.out.size))
      have HB_w2 := Lib.hid (Below.refl w2.heap.size w2)
      have T_z := Lib.hid (fun V (hV : Below w2.heap.size w2 V) => hx.kept hV (Nat.le_refl _))
      clear hx
      clear hb hj t0 t1 t2 tl
      obtain ⟨t0, t1, t2, tl⟩ := X_t.out
      go_wp2_with fail
      refine (((lift_any t k 1 _ _ A cap _ (T_t.out _ (HB_w.out.alloc HB_w.out.size (.cells #[.int .i64 t.k, .int .i64 t.n, .slice A_z t.l.length c_z] 24))) (HB_w.out.alloc HB_w.out.size (.cells #[.int .i64 t.k, .int .i64 t.n, .slice A_z t.l.length c_z] 24)).size (HS.out _ (HB_w.out.alloc HB_w.out.size (.cells #[.int .i64 t.k, .int .i64 t.n, .slice A_z t.l.length c_z] 24)))).mono fun _ _ h => GivesT.kept h HE.out)).mono ?_
      rintro e w3 ⟨A_a, c_a, rfl, hx, hb⟩
      rw [termV]
      have hj := Lib.hid (((Below.refl w2.heap.size w2).alloc (Nat.le_refl _) (.cells #[.int .i64 t.k, .int .i64 t.n, .slice A_z t.l.length c_z] 24)).trans (hb.mono (by simp)))
      have X_z := Lib.hid (show TBox w3 w2.heap.size t.k t.n (.slice A_z t.l.length c_z) from TBox.of ((Bk.new w2 24 _).below hb (by simp)))
      have X_t := Lib.hid (X_t.out.kept hj.out X_t.out.lt)
      have HB_w := Lib.hid (HB_w.out.trans (hj.out.mono HB_w.out.size))
      have HB_w1 := Lib.hid (HB_w1.out.trans (hj.out.mono HB_w1.out.size))
      have HB_w2 := Lib.hid (HB_w2.out.trans (hj.out.mono HB_w2.out.size))
      have HB_w3 := Lib.hid (Below.refl w3.heap.size w3)
      have T_a := Lib.hid (fun V (hV : Below w3.heap.size w3 V) => hx.kept hV (Nat.le_refl _))
      clear hx
      clear hb hj t0 t1 t2 tl
      obtain ⟨t0, t1, t2, tl⟩ := X_t.out
      obtain ⟨z0, z1, z2, zl⟩ := X_z.out
      go_wp2_with fail
      refine (((lift_any a m 1 _ _ A_a c_a _ (T_a.out _ (HB_w3.out.alloc HB_w3.out.size (.cells #[.int .i64 a.k, .int .i64 a.n, .slice A_a a.l.length c_a] 24))) (HB_w3.out.alloc HB_w3.out.size (.cells #[.int .i64 a.k, .int .i64 a.n, .slice A_a a.l.length c_a] 24)).size (HS.out _ (HB_w.out.alloc HB_w.out.size (.cells #[.int .i64 a.k, .int .i64 a.n, .slice A_a a.l.length c_a] 24)))).mono fun _ _ h => GivesT.kept h HG.out)).mono ?_
      rintro e w4 ⟨A_b, c_b, rfl, hx, hb⟩
      rw [termV]
      have hj := Lib.hid (((Below.refl w3.heap.size w3).alloc (Nat.le_refl _) (.cells #[.int .i64 a.k, .int .i64 a.n, .slice A_a a.l.length c_a] 24)).trans (hb.mono (by simp)))
      have X_a := Lib.hid (show TBox w4 w3.heap.size a.k a.n (.slice A_a a.l.length c_a) from TBox.of ((Bk.new w3 24 _).below hb (by simp)))
      have X_t := Lib.hid (X_t.out.kept hj.out X_t.out.lt)
      have X_z := Lib.hid (X_z.out.kept hj.out X_z.out.lt)
      have HB_w := Lib.hid (HB_w.out.trans (hj.out.mono HB_w.out.size))
      have HB_w1 := Lib.hid (HB_w1.out.trans (hj.out.mono HB_w1.out.size))
      have HB_w2 := Lib.hid (HB_w2.out.trans (hj.out.mono HB_w2.out.size))
      have HB_w3 := Lib.hid (HB_w3.out.trans (hj.out.mono HB_w3.out.size))
      have HB_w4 := Lib.hid (Below.refl w4.heap.size w4)
      have T_b := Lib.hid (fun V (hV : Below w4.heap.size w4 V) => hx.kept hV (Nat.le_refl _))
      clear hx
      clear hb hj t0 t1 t2 tl z0 z1 z2 zl
      obtain ⟨t0, t1, t2, tl⟩ := X_t.out
      obtain ⟨z0, z1, z2, zl⟩ := X_z.out
      go_wp2_with fail
      refine (((lift_any t (k + m) 1 _ _ A cap _ (T_t.out _ (HB_w.out.alloc HB_w.out.size (.cells #[.int .i64 b.k, .int .i64 b.n, .slice A_b b.l.length c_b] 24))) (HB_w.out.alloc HB_w.out.size (.cells #[.int .i64 b.k, .int .i64 b.n, .slice A_b b.l.length c_b] 24)).size (HS.out _ (HB_w.out.alloc HB_w.out.size (.cells #[.int .i64 b.k, .int .i64 b.n, .slice A_b b.l.length c_b] 24)))).mono fun _ _ h => GivesT.kept h HC.out)).mono ?_
      rintro e w5 ⟨A_c, c_c, rfl, hx, hb⟩
      rw [termV]
      have hj := Lib.hid (((Below.refl w4.heap.size w4).alloc (Nat.le_refl _) (.cells #[.int .i64 b.k, .int .i64 b.n, .slice A_b b.l.length c_b] 24)).trans (hb.mono (by simp)))
      have X_b := Lib.hid (show TBox w5 w4.heap.size b.k b.n (.slice A_b b.l.length c_b) from TBox.of ((Bk.new w4 24 _).below hb (by simp)))
      have X_t := Lib.hid (X_t.out.kept hj.out X_t.out.lt)
      have X_z := Lib.hid (X_z.out.kept hj.out X_z.out.lt)
      have X_a := Lib.hid (X_a.out.kept hj.out X_a.out.lt)
      have HB_w := Lib.hid (HB_w.out.trans (hj.out.mono HB_w.out.size))
      have HB_w1 := Lib.hid (HB_w1.out.trans (hj.out.mono HB_w1.out.size))
      have HB_w2 := Lib.hid (HB_w2.out.trans (hj.out.mono HB_w2.out.size))
      have HB_w3 := Lib.hid (HB_w3.out.trans (hj.out.mono HB_w3.out.size))
      have HB_w4 := Lib.hid (HB_w4.out.trans (hj.out.mono HB_w4.out.size))
      have HB_w5 := Lib.hid (Below.refl w5.heap.size w5)
      have T_c := Lib.hid (fun V (hV : Below w5.heap.size w5 V) => hx.kept hV (Nat.le_refl _))
      clear hx
      clear hb hj t0 t1 t2 tl z0 z1 z2 zl
      obtain ⟨t0, t1, t2, tl⟩ := X_t.out
      obtain ⟨z0, z1, z2, zl⟩ := X_z.out
      go_wp2_with fail
      refine (same_refl t 0 _ _ _ _ A_z A c_z cap _ (T_z.out _ (HB_w2.out.alloc HB_w2.out.size (.cells #[.int .i64 (TM.node 0 0 []).k, .int .i64 (TM.node 0 0 []).n, .slice A_c (TM.node 0 0 []).l.length c_c] 24))) (T_t.out _ (HB_w.out.alloc HB_w.out.size (.cells #[.int .i64 (TM.node 0 0 []).k, .int .i64 (TM.node 0 0 []).n, .slice A_c (TM.node 0 0 []).l.length c_c] 24))) (HB_w2.out.alloc HB_w2.out.size (.cells #[.int .i64 (TM.node 0 0 []).k, .int .i64 (TM.node 0 0 []).n, .slice A_c (TM.node 0 0 []).l.length c_c] 24)).size (HB_w.out.alloc HB_w.out.size (.cells #[.int .i64 (TM.node 0 0 []).k, .int .i64 (TM.node 0 0 []).n, .slice A_c (TM.node 0 0 []).l.length c_c] 24)).size).mono ?_
      rintro e w6 ⟨rfl, hb⟩
      have hj := Lib.hid (((Below.refl w5.heap.size w5).alloc (Nat.le_refl _) (.cells #[.int .i64 (TM.node 0 0 []).k, .int .i64 (TM.node 0 0 []).n, .slice A_c (TM.node 0 0 []).l.length c_c] 24)).trans (hb.mono (by simp)))
      have X_c := Lib.hid (show TBox w6 w5.heap.size (TM.node 0 0 []).k (TM.node 0 0 []).n (.slice A_c (TM.node 0 0 []).l.length c_c) from TBox.of ((Bk.new w5 24 _).below hb (by simp)))
      have X_t := Lib.hid (X_t.out.kept hj.out X_t.out.lt)
      have X_z := Lib.hid (X_z.out.kept hj.out X_z.out.lt)
      have X_a := Lib.hid (X_a.out.kept hj.out X_a.out.lt)
      have X_b := Lib.hid (X_b.out.kept hj.out X_b.out.lt)
      have HB_w := Lib.hid (HB_w.out.trans (hj.out.mono HB_w.out.size))
      have HB_w1 := Lib.hid (HB_w1.out.trans (hj.out.mono HB_w1.out.size))
      have HB_w2 := Lib.hid (HB_w2.out.trans (hj.out.mono HB_w2.out.size))
      have HB_w3 := Lib.hid (HB_w3.out.trans (hj.out.mono HB_w3.out.size))
      have HB_w4 := Lib.hid (HB_w4.out.trans (hj.out.mono HB_w4.out.size))
      have HB_w5 := Lib.hid (HB_w5.out.trans (hj.out.mono HB_w5.out.size))
      have HB_w6 := Lib.hid (Below.refl w6.heap.size w6)
      clear hb hj t0 t1 t2 tl z0 z1 z2 zl
      go_wp2_with fail
      refine (awakeL_any _ (HS.out _ HB_w.out)).mono ?_
      rintro e w7 ⟨rfl, hb⟩
      have hj := Lib.hid hb
      have X_t := Lib.hid (X_t.out.kept hj.out X_t.out.lt)
      have X_z := Lib.hid (X_z.out.kept hj.out X_z.out.lt)
      have X_a := Lib.hid (X_a.out.kept hj.out X_a.out.lt)
      have X_b := Lib.hid (X_b.out.kept hj.out X_b.out.lt)
      have X_c := Lib.hid (X_c.out.kept hj.out X_c.out.lt)
      have HB_w := Lib.hid (HB_w.out.trans (hj.out.mono HB_w.out.size))
      have HB_w1 := Lib.hid (HB_w1.out.trans (hj.out.mono HB_w1.out.size))
      have HB_w2 := Lib.hid (HB_w2.out.trans (hj.out.mono HB_w2.out.size))
      have HB_w3 := Lib.hid (HB_w3.out.trans (hj.out.mono HB_w3.out.size))
      have HB_w4 := Lib.hid (HB_w4.out.trans (hj.out.mono HB_w4.out.size))
      have HB_w5 := Lib.hid (HB_w5.out.trans (hj.out.mono HB_w5.out.size))
      have HB_w6 := Lib.hid (HB_w6.out.trans (hj.out.mono HB_w6.out.size))
      have HB_w7 := Lib.hid (Below.refl w7.heap.size w7)
      clear hb hj
      go_wp2_with fail
      go_ret
      exact ⟨rfl, HB_w.out⟩

end Go.Proofs.YtodmnollgejgeaaDoor
