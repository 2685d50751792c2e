/- The walk of the law PrintExprs. -/
import Derived.Test.YtmaomnpanfdjeaaDoorAw6
import Derived.Test.YtmaomnpanfdjeaaDoorOf6
import Derived.Test.YtmaomnpanfdjeaaDoorRefXP
import Derived.Test.YtmaomnpanfdjeaaDoorRDepth
namespace Go.Proofs.YtmaomnpanfdjeaaDoor
open Go.RowKit
set_option linter.unusedVariables false
set_option maxRecDepth 100000

theorem not_both {t : RT} (h : goodB t false = true) (h2 : goodB t true = true) : False := by
  cases t with
  | node k a s n l =>
    rcases good_cases h with ⟨rfl, _⟩ | ⟨rfl, _⟩ | ⟨hk, _⟩ | ⟨rfl, _⟩ <;> rcases good_pats h2 with ⟨h, _⟩ | ⟨h, _⟩ | ⟨h, _⟩ | ⟨h, _⟩ | ⟨h, _⟩ <;> omega

set_option maxHeartbeats 8000000 in
theorem exprs_big (t : RT) (A : Option Addr) (cap : Nat) (w : World) (hn : IsNode w 0 w.heap.size t A cap) (hS : Shapes w) (hbr : Bare w) (hT : Tab w) (hok : ofB t = false) :
    Calls Tryd.prog 3 #[nodeV t A cap] w fun e w' => e = .returned (.bool true) ∧ Below w.heap.size w w' := by
  have HO := Lib.hid (of_any t 0 w.heap.size A cap)
  unfold OfIs at HO
  have HN := Lib.hid hn
  have HS := Lib.hid hS
  have HBR := Lib.hid hbr
  have HT := Lib.hid hT
  obtain ⟨u, hu⟩ : ∃ u, ofT t = u := ⟨_, rfl⟩
  rw [hok, hu] at HO
  clear hok hu hn hS hbr hT
  unfold nodeV at HO ⊢
  go_enter Tryd.func3, Tryd.ntmps3
  go_wp2_with fail
  refine (HO.out _ (HN.out.alloc (Nat.le_refl _) _) (by simp)).mono ?_
  rintro e w1 ⟨A', cap', rfl, -, hb1⟩
  have hz1 := hb1.size
  simp at hz1
  have HB1 := Lib.hid (((Below.refl _ _).alloc (Nat.le_refl _) (.cells #[.int .i64 t.k, .int .i64 t.a, .string t.s, .int .i64 t.n, .slice A t.l.length cap] 24)).trans (hb1.mono (by simp)))
  clear hb1
  go_wp2_with fail
  have HB2 := Lib.hid (HB1.out.alloc (by omega) (.cells #[.int .i64 u.k, .int .i64 u.a, .string u.s, .int .i64 u.n, .slice A' u.l.length cap'] 27))
  refine (awake6 _ (HS.out.below HB2.out) (HBR.out.kept HB2.out HBR.out.lt) (HT.out.below HB2.out)).mono ?_
  rintro e w7 ⟨rfl, hb7⟩
  go_wp2_with fail
  go_ret
  exact ⟨rfl, HB2.out.trans (hb7.mono (by simp; omega))⟩

set_option maxHeartbeats 8000000 in
theorem exprs_expr (t : RT) (A : Option Addr) (cap : Nat) (w : World) (hn : IsNode w 0 w.heap.size t A cap) (hS : Shapes w) (hbr : Bare w) (hT : Tab w) (hok : ofB t = true) (hxe : (fitB t && goodB t false) = true) (hxp : (fitB t && goodB t true) = false) :
    Calls Tryd.prog 3 #[nodeV t A cap] w fun e w' => e = .returned (.bool true) ∧ Below w.heap.size w w' := by
  have HO := Lib.hid (of_any t 0 w.heap.size A cap)
  unfold OfIs at HO
  have HN := Lib.hid hn
  have HS := Lib.hid hS
  have HBR := Lib.hid hbr
  have HT := Lib.hid hT
  obtain ⟨hu, hsz⟩ := of_yes hok
  rw [hok, hu] at HO
  have HBox := Lib.hid (fun (V : World) (hV : Below w.heap.size w V) => hn.kept hV (Nat.le_refl _))
  have e1 := fun V (hV : Below w.heap.size w V) => printExpr_any t 0 w.heap.size A cap V (HBox.out V hV) hV.size (hS.below hV) (hbr.kept hV hbr.lt)
  have e2 := fun V (hV : Below w.heap.size w V) => printPattern_any t 0 w.heap.size A cap V (HBox.out V hV) hV.size (hS.below hV) (hbr.kept hV hbr.lt)
  have e5 := fun V (hV : Below w.heap.size w V) => awake6 V (hS.below hV) (hbr.kept hV hbr.lt) (hT.below hV)
  rw [hxe] at e1
  rw [hxp] at e2
  unfold TextIs at e1 e2
  have hse : textS true (exprX t 0) = baX (exprX t 0) := by 
    have h := exprX_len t (by simp only [Bool.and_eq_true] at hxe; exact hxe.2) 0
    unfold textS; rw [if_pos ⟨rfl, by omega⟩]; rfl
  have hee : textE true (exprX t 0) = 0 := by 
    have h := exprX_len t (by simp only [Bool.and_eq_true] at hxe; exact hxe.2) 0
    unfold textE; rw [if_pos rfl, if_pos (by omega)]
  have hsp : textS false (patX t) = ⟨#[]⟩ := by rfl
  have hep : textE false (patX t) = 5 := by rfl
  rw [hse, hee] at e1
  rw [hsp, hep] at e2
  obtain ⟨R1, hR1⟩ : ∃ R, baX (exprX t 0) = R := ⟨_, rfl⟩
  obtain ⟨R2, hR2⟩ : ∃ R, baX (patX t) = R := ⟨_, rfl⟩
  rw [hR1] at e1
  skip
  have f3 := fun lo hi (F : Option Addr) (C : Nat) V (h : IsNode V lo hi t F C) (hh : hi ≤ V.heap.size) => refExpr_any t lo hi F C V h hh
  have f4 := fun lo hi (F : Option Addr) (C : Nat) V (h : IsNode V lo hi t F C) (hh : hi ≤ V.heap.size) => refPattern_any t lo hi F C V h hh
  rw [hxe] at f3
  rw [hxp] at f4
  have f1 : ∀ lo hi (F : Option Addr) (C : Nat) V, IsNode V lo hi t F C → hi ≤ V.heap.size → Calls Tryd.prog 11 #[nodeV t F C, .int .i64 0] V (StrIs R1 V) := fun lo hi F C V h hh => by
    have := refX_any t 0 lo hi F C V (by decide) h hh (by simp only [Bool.and_eq_true] at hxe; exact hxe.2) (by omega)
    rw [hR1] at this
    exact this
  unfold StrIs nodeV at f1
  have F1 := Lib.hid f1
  unfold nodeV at e1 e2 f3 f4
  have E1 := Lib.hid e1
  have E2 := Lib.hid e2
  have F3 := Lib.hid f3
  have F4 := Lib.hid f4
  have E5 := Lib.hid e5
  clear hok hu hsz e1 e2 e5 f3 f4 f1 hS hbr hT hn hse hee hsp hep hR1 hR2 hxe hxp
  unfold nodeV at HO ⊢
  go_enter Tryd.func3, Tryd.ntmps3
  go_wp2_with fail
  refine (HO.out _ (HN.out.alloc (Nat.le_refl _) _) (by simp)).mono ?_
  rintro e w1 ⟨A', cap', rfl, hn1, hb1⟩
  have hz1 := hb1.size
  simp at hz1
  have HB1 := Lib.hid (((Below.refl _ _).alloc (Nat.le_refl _) (.cells #[.int .i64 t.k, .int .i64 t.a, .string t.s, .int .i64 t.n, .slice A t.l.length cap] 24)).trans (hb1.mono (by simp)))
  have BK1 : Bk w1 w.heap.size 24 #[.int .i64 t.k, .int .i64 t.a, .string t.s, .int .i64 t.n, .slice A t.l.length cap] := (Bk.new w 24 _).below hb1 (by simp)
  obtain ⟨W, hW⟩ : ∃ W, w1.alloc (.cells #[.int .i64 t.k, .int .i64 t.a, .string t.s, .int .i64 t.n, .slice A' t.l.length cap'] 27) = W := ⟨_, rfl⟩
  have hBW : Below w.heap.size w W := by rw [← hW]; exact HB1.out.alloc (by omega) _
  have hWz : W.heap.size = w1.heap.size + 1 := by rw [← hW]; simp
  have BW1 : Bk W w.heap.size 24 #[.int .i64 t.k, .int .i64 t.a, .string t.s, .int .i64 t.n, .slice A t.l.length cap] := by rw [← hW]; exact BK1.alloc _
  have BW2 : Bk W w1.heap.size 27 #[.int .i64 t.k, .int .i64 t.a, .string t.s, .int .i64 t.n, .slice A' t.l.length cap'] := by rw [← hW]; exact Bk.new _ _ _
  have HNW : Hid (IsNode W (w.alloc (.cells #[.int .i64 t.k, .int .i64 t.a, .string t.s, .int .i64 t.n, .slice A t.l.length cap] 24)).heap.size w1.heap.size t A' cap') := Lib.hid (by rw [← hW]; exact hn1.alloc (Nat.le_refl _) _)
  have KEEP := Lib.hid (fun V (hV : Below W.heap.size W V) => And.intro (BW1.below hV (by omega)).c5 (BW2.below hV (by omega)).c5)
  have HBW := Lib.hid hBW
  have HWZ := Lib.hid hWz
  obtain ⟨⟨k0, k1, k2, k3, k4⟩, m0, m1, m2, m3, m4⟩ := KEEP.out W (Below.refl _ _)
  have hbk0 := Lib.hid (Below.refl W.heap.size W)
  have HW := Lib.hid hW
  obtain ⟨y0, y1, y2, y3, y4⟩ := BK1.c5
  have hyl := BK1.lt
  clear hb1 hn1 BK1 BW1 BW2 hBW hW
  go_wp2_with fail
  rw [HW.out]
  refine (E1.out _ (HBW.out.trans (hbk0.out.mono HBW.out.size))).mono ?_
  rintro e x1 ⟨rfl, hb⟩
  have hbk1 := Lib.hid (hbk0.out.trans (hb.mono hbk0.out.size))
  have hzx1 := hbk1.out.size
  obtain ⟨⟨k0_1, k1_1, k2_1, k3_1, k4_1⟩, m0_1, m1_1, m2_1, m3_1, m4_1⟩ := KEEP.out x1 hbk1.out
  clear hb
  go_wp2_with fail
  refine (E2.out _ (HBW.out.trans (hbk1.out.mono HBW.out.size))).mono ?_
  rintro e x2 ⟨rfl, hb⟩
  have hbk2 := Lib.hid (hbk1.out.trans (hb.mono hbk1.out.size))
  have hzx2 := hbk2.out.size
  obtain ⟨⟨k0_2, k1_2, k2_2, k3_2, k4_2⟩, m0_2, m1_2, m2_2, m3_2, m4_2⟩ := KEEP.out x2 hbk2.out
  clear hb
  go_wp2_with fail
  refine (F3.out _ _ _ _ _ (HNW.out.kept hbk2.out (by have := HWZ.out; omega)) (by have := HWZ.out; have := hbk2.out.size; omega)).mono ?_
  rintro e x3 ⟨rfl, hb⟩
  have hbk3 := Lib.hid (hbk2.out.trans (hb.mono hbk2.out.size))
  have hzx3 := hbk3.out.size
  obtain ⟨⟨k0_3, k1_3, k2_3, k3_3, k4_3⟩, m0_3, m1_3, m2_3, m3_3, m4_3⟩ := KEEP.out x3 hbk3.out
  clear hb
  go_wp2_with fail
  refine (F4.out _ _ _ _ _ (HNW.out.kept hbk3.out (by have := HWZ.out; omega)) (by have := HWZ.out; have := hbk3.out.size; omega)).mono ?_
  rintro e x4 ⟨rfl, hb⟩
  have hbk4 := Lib.hid (hbk3.out.trans (hb.mono hbk3.out.size))
  have hzx4 := hbk4.out.size
  obtain ⟨⟨k0_4, k1_4, k2_4, k3_4, k4_4⟩, m0_4, m1_4, m2_4, m3_4, m4_4⟩ := KEEP.out x4 hbk4.out
  clear hb
  go_wp2_with fail
  refine (F3.out _ _ _ _ _ (HNW.out.kept hbk4.out (by have := HWZ.out; omega)) (by have := HWZ.out; have := hbk4.out.size; omega)).mono ?_
  rintro e x5 ⟨rfl, hb⟩
  have hbk5 := Lib.hid (hbk4.out.trans (hb.mono hbk4.out.size))
  have hzx5 := hbk5.out.size
  obtain ⟨⟨k0_5, k1_5, k2_5, k3_5, k4_5⟩, m0_5, m1_5, m2_5, m3_5, m4_5⟩ := KEEP.out x5 hbk5.out
  clear hb
  go_wp2_with fail
  refine (F1.out _ _ _ _ _ (HNW.out.kept hbk5.out (by have := HWZ.out; omega)) (by have := HWZ.out; have := hbk5.out.size; omega)).mono ?_
  rintro e x6 ⟨rfl, hb⟩
  have hbk6 := Lib.hid (hbk5.out.trans (hb.mono hbk5.out.size))
  have hzx6 := hbk6.out.size
  obtain ⟨⟨k0_6, k1_6, k2_6, k3_6, k4_6⟩, m0_6, m1_6, m2_6, m3_6, m4_6⟩ := KEEP.out x6 hbk6.out
  clear hb
  go_wp2_with fail
  refine (F4.out _ _ _ _ _ (HNW.out.kept hbk6.out (by have := HWZ.out; omega)) (by have := HWZ.out; have := hbk6.out.size; omega)).mono ?_
  rintro e x7 ⟨rfl, hb⟩
  have hbk7 := Lib.hid (hbk6.out.trans (hb.mono hbk6.out.size))
  have hzx7 := hbk7.out.size
  obtain ⟨⟨k0_7, k1_7, k2_7, k3_7, k4_7⟩, m0_7, m1_7, m2_7, m3_7, m4_7⟩ := KEEP.out x7 hbk7.out
  clear hb
  go_wp2_with fail
  refine (E5.out _ (HBW.out.trans (hbk7.out.mono HBW.out.size))).mono ?_
  rintro e x8 ⟨rfl, hb⟩
  have hbk8 := Lib.hid (hbk7.out.trans (hb.mono hbk7.out.size))
  have hzx8 := hbk8.out.size
  obtain ⟨⟨k0_8, k1_8, k2_8, k3_8, k4_8⟩, m0_8, m1_8, m2_8, m3_8, m4_8⟩ := KEEP.out x8 hbk8.out
  clear hb
  go_wp2_with fail
  go_ret
  exact ⟨rfl, HBW.out.trans (hbk8.out.mono HBW.out.size)⟩

set_option maxHeartbeats 8000000 in
theorem exprs_pat (t : RT) (A : Option Addr) (cap : Nat) (w : World) (hn : IsNode w 0 w.heap.size t A cap) (hS : Shapes w) (hbr : Bare w) (hT : Tab w) (hok : ofB t = true) (hxe : (fitB t && goodB t false) = false) (hxp : (fitB t && goodB t true) = true) :
    Calls Tryd.prog 3 #[nodeV t A cap] w fun e w' => e = .returned (.bool true) ∧ Below w.heap.size w w' := by
  have HO := Lib.hid (of_any t 0 w.heap.size A cap)
  unfold OfIs at HO
  have HN := Lib.hid hn
  have HS := Lib.hid hS
  have HBR := Lib.hid hbr
  have HT := Lib.hid hT
  obtain ⟨hu, hsz⟩ := of_yes hok
  rw [hok, hu] at HO
  have HBox := Lib.hid (fun (V : World) (hV : Below w.heap.size w V) => hn.kept hV (Nat.le_refl _))
  have e1 := fun V (hV : Below w.heap.size w V) => printExpr_any t 0 w.heap.size A cap V (HBox.out V hV) hV.size (hS.below hV) (hbr.kept hV hbr.lt)
  have e2 := fun V (hV : Below w.heap.size w V) => printPattern_any t 0 w.heap.size A cap V (HBox.out V hV) hV.size (hS.below hV) (hbr.kept hV hbr.lt)
  have e5 := fun V (hV : Below w.heap.size w V) => awake6 V (hS.below hV) (hbr.kept hV hbr.lt) (hT.below hV)
  rw [hxe] at e1
  rw [hxp] at e2
  unfold TextIs at e1 e2
  have hse : textS false (exprX t 0) = ⟨#[]⟩ := by rfl
  have hee : textE false (exprX t 0) = 5 := by rfl
  have hsp : textS true (patX t) = baX (patX t) := by 
    have h := patX_len t (by simp only [Bool.and_eq_true] at hxp; exact hxp.2)
    unfold textS; rw [if_pos ⟨rfl, by omega⟩]; rfl
  have hep : textE true (patX t) = 0 := by 
    have h := patX_len t (by simp only [Bool.and_eq_true] at hxp; exact hxp.2)
    unfold textE; rw [if_pos rfl, if_pos (by omega)]
  rw [hse, hee] at e1
  rw [hsp, hep] at e2
  obtain ⟨R1, hR1⟩ : ∃ R, baX (exprX t 0) = R := ⟨_, rfl⟩
  obtain ⟨R2, hR2⟩ : ∃ R, baX (patX t) = R := ⟨_, rfl⟩
  skip
  rw [hR2] at e2
  have f3 := fun lo hi (F : Option Addr) (C : Nat) V (h : IsNode V lo hi t F C) (hh : hi ≤ V.heap.size) => refExpr_any t lo hi F C V h hh
  have f4 := fun lo hi (F : Option Addr) (C : Nat) V (h : IsNode V lo hi t F C) (hh : hi ≤ V.heap.size) => refPattern_any t lo hi F C V h hh
  rw [hxe] at f3
  rw [hxp] at f4
  have f2 := fun lo hi (F : Option Addr) (C : Nat) V (h : IsNode V lo hi t F C) (hh : hi ≤ V.heap.size) => refPat_any t lo hi F C V h hh (by simp only [Bool.and_eq_true] at hxp; exact hxp.2) (by omega)
  rw [hR2] at f2
  unfold StrIs nodeV at f2
  have F2 := Lib.hid f2
  unfold nodeV at e1 e2 f3 f4
  have E1 := Lib.hid e1
  have E2 := Lib.hid e2
  have F3 := Lib.hid f3
  have F4 := Lib.hid f4
  have E5 := Lib.hid e5
  clear hok hu hsz e1 e2 e5 f3 f4 f2 hS hbr hT hn hse hee hsp hep hR1 hR2 hxe hxp
  unfold nodeV at HO ⊢
  go_enter Tryd.func3, Tryd.ntmps3
  go_wp2_with fail
  refine (HO.out _ (HN.out.alloc (Nat.le_refl _) _) (by simp)).mono ?_
  rintro e w1 ⟨A', cap', rfl, hn1, hb1⟩
  have hz1 := hb1.size
  simp at hz1
  have HB1 := Lib.hid (((Below.refl _ _).alloc (Nat.le_refl _) (.cells #[.int .i64 t.k, .int .i64 t.a, .string t.s, .int .i64 t.n, .slice A t.l.length cap] 24)).trans (hb1.mono (by simp)))
  have BK1 : Bk w1 w.heap.size 24 #[.int .i64 t.k, .int .i64 t.a, .string t.s, .int .i64 t.n, .slice A t.l.length cap] := (Bk.new w 24 _).below hb1 (by simp)
  obtain ⟨W, hW⟩ : ∃ W, w1.alloc (.cells #[.int .i64 t.k, .int .i64 t.a, .string t.s, .int .i64 t.n, .slice A' t.l.length cap'] 27) = W := ⟨_, rfl⟩
  have hBW : Below w.heap.size w W := by rw [← hW]; exact HB1.out.alloc (by omega) _
  have hWz : W.heap.size = w1.heap.size + 1 := by rw [← hW]; simp
  have BW1 : Bk W w.heap.size 24 #[.int .i64 t.k, .int .i64 t.a, .string t.s, .int .i64 t.n, .slice A t.l.length cap] := by rw [← hW]; exact BK1.alloc _
  have BW2 : Bk W w1.heap.size 27 #[.int .i64 t.k, .int .i64 t.a, .string t.s, .int .i64 t.n, .slice A' t.l.length cap'] := by rw [← hW]; exact Bk.new _ _ _
  have HNW : Hid (IsNode W (w.alloc (.cells #[.int .i64 t.k, .int .i64 t.a, .string t.s, .int .i64 t.n, .slice A t.l.length cap] 24)).heap.size w1.heap.size t A' cap') := Lib.hid (by rw [← hW]; exact hn1.alloc (Nat.le_refl _) _)
  have KEEP := Lib.hid (fun V (hV : Below W.heap.size W V) => And.intro (BW1.below hV (by omega)).c5 (BW2.below hV (by omega)).c5)
  have HBW := Lib.hid hBW
  have HWZ := Lib.hid hWz
  obtain ⟨⟨k0, k1, k2, k3, k4⟩, m0, m1, m2, m3, m4⟩ := KEEP.out W (Below.refl _ _)
  have hbk0 := Lib.hid (Below.refl W.heap.size W)
  have HW := Lib.hid hW
  obtain ⟨y0, y1, y2, y3, y4⟩ := BK1.c5
  have hyl := BK1.lt
  clear hb1 hn1 BK1 BW1 BW2 hBW hW
  go_wp2_with fail
  rw [HW.out]
  refine (E1.out _ (HBW.out.trans (hbk0.out.mono HBW.out.size))).mono ?_
  rintro e x1 ⟨rfl, hb⟩
  have hbk1 := Lib.hid (hbk0.out.trans (hb.mono hbk0.out.size))
  have hzx1 := hbk1.out.size
  obtain ⟨⟨k0_1, k1_1, k2_1, k3_1, k4_1⟩, m0_1, m1_1, m2_1, m3_1, m4_1⟩ := KEEP.out x1 hbk1.out
  clear hb
  go_wp2_with fail
  refine (E2.out _ (HBW.out.trans (hbk1.out.mono HBW.out.size))).mono ?_
  rintro e x2 ⟨rfl, hb⟩
  have hbk2 := Lib.hid (hbk1.out.trans (hb.mono hbk1.out.size))
  have hzx2 := hbk2.out.size
  obtain ⟨⟨k0_2, k1_2, k2_2, k3_2, k4_2⟩, m0_2, m1_2, m2_2, m3_2, m4_2⟩ := KEEP.out x2 hbk2.out
  clear hb
  go_wp2_with fail
  refine (F3.out _ _ _ _ _ (HNW.out.kept hbk2.out (by have := HWZ.out; omega)) (by have := HWZ.out; have := hbk2.out.size; omega)).mono ?_
  rintro e x3 ⟨rfl, hb⟩
  have hbk3 := Lib.hid (hbk2.out.trans (hb.mono hbk2.out.size))
  have hzx3 := hbk3.out.size
  obtain ⟨⟨k0_3, k1_3, k2_3, k3_3, k4_3⟩, m0_3, m1_3, m2_3, m3_3, m4_3⟩ := KEEP.out x3 hbk3.out
  clear hb
  go_wp2_with fail
  refine (F4.out _ _ _ _ _ (HNW.out.kept hbk3.out (by have := HWZ.out; omega)) (by have := HWZ.out; have := hbk3.out.size; omega)).mono ?_
  rintro e x4 ⟨rfl, hb⟩
  have hbk4 := Lib.hid (hbk3.out.trans (hb.mono hbk3.out.size))
  have hzx4 := hbk4.out.size
  obtain ⟨⟨k0_4, k1_4, k2_4, k3_4, k4_4⟩, m0_4, m1_4, m2_4, m3_4, m4_4⟩ := KEEP.out x4 hbk4.out
  clear hb
  go_wp2_with fail
  refine (F3.out _ _ _ _ _ (HNW.out.kept hbk4.out (by have := HWZ.out; omega)) (by have := HWZ.out; have := hbk4.out.size; omega)).mono ?_
  rintro e x5 ⟨rfl, hb⟩
  have hbk5 := Lib.hid (hbk4.out.trans (hb.mono hbk4.out.size))
  have hzx5 := hbk5.out.size
  obtain ⟨⟨k0_5, k1_5, k2_5, k3_5, k4_5⟩, m0_5, m1_5, m2_5, m3_5, m4_5⟩ := KEEP.out x5 hbk5.out
  clear hb
  go_wp2_with fail
  refine (F4.out _ _ _ _ _ (HNW.out.kept hbk5.out (by have := HWZ.out; omega)) (by have := HWZ.out; have := hbk5.out.size; omega)).mono ?_
  rintro e x6 ⟨rfl, hb⟩
  have hbk6 := Lib.hid (hbk5.out.trans (hb.mono hbk5.out.size))
  have hzx6 := hbk6.out.size
  obtain ⟨⟨k0_6, k1_6, k2_6, k3_6, k4_6⟩, m0_6, m1_6, m2_6, m3_6, m4_6⟩ := KEEP.out x6 hbk6.out
  clear hb
  go_wp2_with fail
  refine (F2.out _ _ _ _ _ (HNW.out.kept hbk6.out (by have := HWZ.out; omega)) (by have := HWZ.out; have := hbk6.out.size; omega)).mono ?_
  rintro e x7 ⟨rfl, hb⟩
  have hbk7 := Lib.hid (hbk6.out.trans (hb.mono hbk6.out.size))
  have hzx7 := hbk7.out.size
  obtain ⟨⟨k0_7, k1_7, k2_7, k3_7, k4_7⟩, m0_7, m1_7, m2_7, m3_7, m4_7⟩ := KEEP.out x7 hbk7.out
  clear hb
  go_wp2_with fail
  refine (E5.out _ (HBW.out.trans (hbk7.out.mono HBW.out.size))).mono ?_
  rintro e x8 ⟨rfl, hb⟩
  have hbk8 := Lib.hid (hbk7.out.trans (hb.mono hbk7.out.size))
  have hzx8 := hbk8.out.size
  obtain ⟨⟨k0_8, k1_8, k2_8, k3_8, k4_8⟩, m0_8, m1_8, m2_8, m3_8, m4_8⟩ := KEEP.out x8 hbk8.out
  clear hb
  go_wp2_with fail
  go_ret
  exact ⟨rfl, HBW.out.trans (hbk8.out.mono HBW.out.size)⟩

set_option maxHeartbeats 8000000 in
theorem exprs_none (t : RT) (A : Option Addr) (cap : Nat) (w : World) (hn : IsNode w 0 w.heap.size t A cap) (hS : Shapes w) (hbr : Bare w) (hT : Tab w) (hok : ofB t = true) (hxe : (fitB t && goodB t false) = false) (hxp : (fitB t && goodB t true) = false) :
    Calls Tryd.prog 3 #[nodeV t A cap] w fun e w' => e = .returned (.bool true) ∧ Below w.heap.size w w' := by
  have HO := Lib.hid (of_any t 0 w.heap.size A cap)
  unfold OfIs at HO
  have HN := Lib.hid hn
  have HS := Lib.hid hS
  have HBR := Lib.hid hbr
  have HT := Lib.hid hT
  obtain ⟨hu, hsz⟩ := of_yes hok
  rw [hok, hu] at HO
  have HBox := Lib.hid (fun (V : World) (hV : Below w.heap.size w V) => hn.kept hV (Nat.le_refl _))
  have e1 := fun V (hV : Below w.heap.size w V) => printExpr_any t 0 w.heap.size A cap V (HBox.out V hV) hV.size (hS.below hV) (hbr.kept hV hbr.lt)
  have e2 := fun V (hV : Below w.heap.size w V) => printPattern_any t 0 w.heap.size A cap V (HBox.out V hV) hV.size (hS.below hV) (hbr.kept hV hbr.lt)
  have e5 := fun V (hV : Below w.heap.size w V) => awake6 V (hS.below hV) (hbr.kept hV hbr.lt) (hT.below hV)
  rw [hxe] at e1
  rw [hxp] at e2
  unfold TextIs at e1 e2
  have hse : textS false (exprX t 0) = ⟨#[]⟩ := by rfl
  have hee : textE false (exprX t 0) = 5 := by rfl
  have hsp : textS false (patX t) = ⟨#[]⟩ := by rfl
  have hep : textE false (patX t) = 5 := by rfl
  rw [hse, hee] at e1
  rw [hsp, hep] at e2
  obtain ⟨R1, hR1⟩ : ∃ R, baX (exprX t 0) = R := ⟨_, rfl⟩
  obtain ⟨R2, hR2⟩ : ∃ R, baX (patX t) = R := ⟨_, rfl⟩
  skip
  skip
  have f3 := fun lo hi (F : Option Addr) (C : Nat) V (h : IsNode V lo hi t F C) (hh : hi ≤ V.heap.size) => refExpr_any t lo hi F C V h hh
  have f4 := fun lo hi (F : Option Addr) (C : Nat) V (h : IsNode V lo hi t F C) (hh : hi ≤ V.heap.size) => refPattern_any t lo hi F C V h hh
  rw [hxe] at f3
  rw [hxp] at f4
  unfold nodeV at e1 e2 f3 f4
  have E1 := Lib.hid e1
  have E2 := Lib.hid e2
  have F3 := Lib.hid f3
  have F4 := Lib.hid f4
  have E5 := Lib.hid e5
  clear hok hu hsz e1 e2 e5 f3 f4 hS hbr hT hn hse hee hsp hep hR1 hR2 hxe hxp
  unfold nodeV at HO ⊢
  go_enter Tryd.func3, Tryd.ntmps3
  go_wp2_with fail
  refine (HO.out _ (HN.out.alloc (Nat.le_refl _) _) (by simp)).mono ?_
  rintro e w1 ⟨A', cap', rfl, hn1, hb1⟩
  have hz1 := hb1.size
  simp at hz1
  have HB1 := Lib.hid (((Below.refl _ _).alloc (Nat.le_refl _) (.cells #[.int .i64 t.k, .int .i64 t.a, .string t.s, .int .i64 t.n, .slice A t.l.length cap] 24)).trans (hb1.mono (by simp)))
  have BK1 : Bk w1 w.heap.size 24 #[.int .i64 t.k, .int .i64 t.a, .string t.s, .int .i64 t.n, .slice A t.l.length cap] := (Bk.new w 24 _).below hb1 (by simp)
  obtain ⟨W, hW⟩ : ∃ W, w1.alloc (.cells #[.int .i64 t.k, .int .i64 t.a, .string t.s, .int .i64 t.n, .slice A' t.l.length cap'] 27) = W := ⟨_, rfl⟩
  have hBW : Below w.heap.size w W := by rw [← hW]; exact HB1.out.alloc (by omega) _
  have hWz : W.heap.size = w1.heap.size + 1 := by rw [← hW]; simp
  have BW1 : Bk W w.heap.size 24 #[.int .i64 t.k, .int .i64 t.a, .string t.s, .int .i64 t.n, .slice A t.l.length cap] := by rw [← hW]; exact BK1.alloc _
  have BW2 : Bk W w1.heap.size 27 #[.int .i64 t.k, .int .i64 t.a, .string t.s, .int .i64 t.n, .slice A' t.l.length cap'] := by rw [← hW]; exact Bk.new _ _ _
  have HNW : Hid (IsNode W (w.alloc (.cells #[.int .i64 t.k, .int .i64 t.a, .string t.s, .int .i64 t.n, .slice A t.l.length cap] 24)).heap.size w1.heap.size t A' cap') := Lib.hid (by rw [← hW]; exact hn1.alloc (Nat.le_refl _) _)
  have KEEP := Lib.hid (fun V (hV : Below W.heap.size W V) => And.intro (BW1.below hV (by omega)).c5 (BW2.below hV (by omega)).c5)
  have HBW := Lib.hid hBW
  have HWZ := Lib.hid hWz
  obtain ⟨⟨k0, k1, k2, k3, k4⟩, m0, m1, m2, m3, m4⟩ := KEEP.out W (Below.refl _ _)
  have hbk0 := Lib.hid (Below.refl W.heap.size W)
  have HW := Lib.hid hW
  obtain ⟨y0, y1, y2, y3, y4⟩ := BK1.c5
  have hyl := BK1.lt
  clear hb1 hn1 BK1 BW1 BW2 hBW hW
  go_wp2_with fail
  rw [HW.out]
  refine (E1.out _ (HBW.out.trans (hbk0.out.mono HBW.out.size))).mono ?_
  rintro e x1 ⟨rfl, hb⟩
  have hbk1 := Lib.hid (hbk0.out.trans (hb.mono hbk0.out.size))
  have hzx1 := hbk1.out.size
  obtain ⟨⟨k0_1, k1_1, k2_1, k3_1, k4_1⟩, m0_1, m1_1, m2_1, m3_1, m4_1⟩ := KEEP.out x1 hbk1.out
  clear hb
  go_wp2_with fail
  refine (E2.out _ (HBW.out.trans (hbk1.out.mono HBW.out.size))).mono ?_
  rintro e x2 ⟨rfl, hb⟩
  have hbk2 := Lib.hid (hbk1.out.trans (hb.mono hbk1.out.size))
  have hzx2 := hbk2.out.size
  obtain ⟨⟨k0_2, k1_2, k2_2, k3_2, k4_2⟩, m0_2, m1_2, m2_2, m3_2, m4_2⟩ := KEEP.out x2 hbk2.out
  clear hb
  go_wp2_with fail
  refine (F3.out _ _ _ _ _ (HNW.out.kept hbk2.out (by have := HWZ.out; omega)) (by have := HWZ.out; have := hbk2.out.size; omega)).mono ?_
  rintro e x3 ⟨rfl, hb⟩
  have hbk3 := Lib.hid (hbk2.out.trans (hb.mono hbk2.out.size))
  have hzx3 := hbk3.out.size
  obtain ⟨⟨k0_3, k1_3, k2_3, k3_3, k4_3⟩, m0_3, m1_3, m2_3, m3_3, m4_3⟩ := KEEP.out x3 hbk3.out
  clear hb
  go_wp2_with fail
  refine (F4.out _ _ _ _ _ (HNW.out.kept hbk3.out (by have := HWZ.out; omega)) (by have := HWZ.out; have := hbk3.out.size; omega)).mono ?_
  rintro e x4 ⟨rfl, hb⟩
  have hbk4 := Lib.hid (hbk3.out.trans (hb.mono hbk3.out.size))
  have hzx4 := hbk4.out.size
  obtain ⟨⟨k0_4, k1_4, k2_4, k3_4, k4_4⟩, m0_4, m1_4, m2_4, m3_4, m4_4⟩ := KEEP.out x4 hbk4.out
  clear hb
  go_wp2_with fail
  refine (F3.out _ _ _ _ _ (HNW.out.kept hbk4.out (by have := HWZ.out; omega)) (by have := HWZ.out; have := hbk4.out.size; omega)).mono ?_
  rintro e x5 ⟨rfl, hb⟩
  have hbk5 := Lib.hid (hbk4.out.trans (hb.mono hbk4.out.size))
  have hzx5 := hbk5.out.size
  obtain ⟨⟨k0_5, k1_5, k2_5, k3_5, k4_5⟩, m0_5, m1_5, m2_5, m3_5, m4_5⟩ := KEEP.out x5 hbk5.out
  clear hb
  go_wp2_with fail
  refine (F4.out _ _ _ _ _ (HNW.out.kept hbk5.out (by have := HWZ.out; omega)) (by have := HWZ.out; have := hbk5.out.size; omega)).mono ?_
  rintro e x6 ⟨rfl, hb⟩
  have hbk6 := Lib.hid (hbk5.out.trans (hb.mono hbk5.out.size))
  have hzx6 := hbk6.out.size
  obtain ⟨⟨k0_6, k1_6, k2_6, k3_6, k4_6⟩, m0_6, m1_6, m2_6, m3_6, m4_6⟩ := KEEP.out x6 hbk6.out
  clear hb
  go_wp2_with fail
  refine (E5.out _ (HBW.out.trans (hbk6.out.mono HBW.out.size))).mono ?_
  rintro e x7 ⟨rfl, hb⟩
  have hbk7 := Lib.hid (hbk6.out.trans (hb.mono hbk6.out.size))
  have hzx7 := hbk7.out.size
  obtain ⟨⟨k0_7, k1_7, k2_7, k3_7, k4_7⟩, m0_7, m1_7, m2_7, m3_7, m4_7⟩ := KEEP.out x7 hbk7.out
  clear hb
  go_wp2_with fail
  go_ret
  exact ⟨rfl, HBW.out.trans (hbk7.out.mono HBW.out.size)⟩

theorem exprs_walk (t : RT) (A : Option Addr) (cap : Nat) (w : World) (hn : IsNode w 0 w.heap.size t A cap) (h3 : Shapes w ∧ Bare w ∧ Tab w) :
    Calls Tryd.prog 3 #[nodeV t A cap] w fun e w' => e = .returned (.bool true) ∧ Below w.heap.size w w' := by
  obtain ⟨hS, hbr, hT⟩ := h3
  cases hok : ofB t with
  | false => exact exprs_big t A cap w hn hS hbr hT hok
  | true =>
    cases hxe : (fitB t && goodB t false) with
    | true =>
      cases hxp : (fitB t && goodB t true) with
      | true =>
        simp only [Bool.and_eq_true] at hxe hxp
        exact (not_both hxe.2 hxp.2).elim
      | false => exact exprs_expr t A cap w hn hS hbr hT hok hxe hxp
    | false =>
      cases hxp : (fitB t && goodB t true) with
      | true => exact exprs_pat t A cap w hn hS hbr hT hok hxe hxp
      | false => exact exprs_none t A cap w hn hS hbr hT hok hxe hxp

end Go.Proofs.YtmaomnpanfdjeaaDoor
