/- The walk of the law SubstLimits. -/
import Derived.Test.YtcobionbgiaomaaDoorULaw0
import Derived.Test.YtcobionbgiaomaaDoorUOk
import Derived.Test.YtcobionbgiaomaaDoorTLimitsW
namespace Go.Proofs.YtcobionbgiaomaaDoor
open Go.RowKit
set_option linter.unusedVariables false
set_option maxRecDepth 100000

/-- Applications to the same variable, so many; and with a term in the variable's place. -/
def rowM (b : TM) : Nat → TM
  | 0 => b
  | j + 1 => .node 5 0 [rowM b j, b]
theorem row_size (b : TM) : ∀ j, (rowM b j).size = (j + 1) * b.size + j
  | 0 => by rw [rowM]; omega
  | j + 1 => by rw [rowM, tsize_node, sizeM_cons, sizeM_cons, sizeM_nil, row_size b j, Nat.add_mul (j + 1) 1]; omega
theorem row_depth (b : TM) : ∀ j, (rowM b j).depth = b.depth + j
  | 0 => by rw [rowM]; omega
  | j + 1 => by rw [rowM, tdepth_node, depthM_cons, depthM_cons, depthM_nil, row_depth b j]; omega
theorem row_good (b : TM) (h : tgoodB b = true) : ∀ j, tgoodB (rowM b j) = true
  | 0 => by rw [rowM]; exact h
  | j + 1 => by rw [rowM]; exact app_good (row_good b h j) h
def var0 : TM := .node 1 0 []
theorem row_put (b : TM) (hb : tgoodB b = true) : ∀ j, putT (firstP [b]) (rowM var0 j) 0 = rowM b j
  | 0 => by
    rw [rowM, rowM]
    unfold var0
    rw [putT_node, if_pos (.inr ⟨rfl, Int.le_refl _⟩)]
    unfold firstP
    rw [if_neg (by omega), if_pos (by simp)]
    show moveT 0 b 0 = b
    exact move_zero b 0 hb
  | j + 1 => by
    have e1 := row_put b hb 0
    rw [rowM, rowM] at e1
    rw [rowM, rowM, putT_node, if_neg (fun h => by rcases h with h | h <;> omega), putM_cons, putM_cons, putM_nil]
    have b0 : bnd 5 0 = 0 := by unfold bnd; rw [if_neg (by omega)]
    have b1 : bnd 5 (0 + 1) = 0 := by unfold bnd; rw [if_neg (by omega)]
    rw [b0, b1, Int.add_zero, row_put b hb j, e1]
theorem wide9_size : (wideM 9).size = 1023 := by have := wide_sizeM 9; have e : 2 ^ (9 + 1) = 1024 := by decide
                                                 omega
theorem limits_many (K : Nat) (hK : K ≤ 12) : manyX (rowM var0 K) [wideM 9] = if (K + 1) * 1023 + K ≤ 8192 then (rowM (wideM 9) K, 0) else (.node 0 0 [], 2) := by
  have hw := wide_goodM 9
  have hv : tgoodB var0 = true := by unfold var0; rw [leaf_good]; decide
  have hvs : var0.size = 1 := by unfold var0; rw [tsize_node, sizeM_nil]
  have hvd : var0.depth = 1 := by unfold var0; rw [tdepth_node, depthM_nil]
  have s1 : shapedB (rowM var0 K) = true := shapedB_true.2 ⟨by rw [row_size, hvs]; omega, by rw [row_depth, hvd]; omega, row_good _ hv K⟩
  have s2 : shapedB (wideM 9) = true := shapedB_true.2 ⟨by rw [wide9_size]; omega, by rw [wide_depthM]; omega, hw⟩
  unfold manyX
  rw [s1, List.all_cons, s2, List.all_nil, if_pos (show (true && (true && true)) = true from rfl), row_put _ hw K]
  unfold gotX
  by_cases h : (K + 1) * 1023 + K ≤ 8192
  · rw [if_pos h, shapedB_true.2 ⟨by rw [row_size, wide9_size]; exact h, by rw [row_depth, wide_depthM]; omega, row_good _ hw K⟩, if_pos rfl]
  · rw [if_neg h]
    have : shapedB (rowM (wideM 9) K) = false := by
      cases e : shapedB (rowM (wideM 9) K) with
      | false => rfl
      | true => have := (shapedB_true.1 e).1; rw [row_size, wide9_size] at this; exact absurd this h
    rw [this]; rfl
def RowRel (K : Nat) (W1 : World) (iv : Value) (wr : World) : Prop :=
  ∃ (j : Nat) (A : Option Addr) (cap : Nat), iv = .int .i64 ((j : Int) + 1) ∧ j ≤ K ∧ BoxT W1 W1.heap.size (rowM var0 j) A cap wr
def WideR (w : World) (g : Nat) (iv : Value) (wr : World) : Prop :=
  ∃ (j : Nat) (A : Option Addr) (cap : Nat), iv = .int .i64 (j : Int) ∧ j ≤ 9 ∧ BoxT w g (wideM j) A cap wr

set_option maxHeartbeats 4000000 in
theorem ulimits_walk (m : Int) (w : World) (hm : (Lit.int .u8 m).wf = true) (hS : ShapesM w) :
    Calls Tryd.prog 10 #[.int .u8 m] w fun e w' => e = .returned (.bool true) ∧ Below w.heap.size w w' := by
  have hm0 : 0 ≤ m ∧ m ≤ 255 := by simpa [Lit.wf, IntKind.min, IntKind.max, IntKind.signed, IntKind.bits] using hm
  obtain ⟨h0, h255⟩ := hm0
  obtain ⟨R, hR⟩ : ∃ R : Nat, m % 9 = (R : Int) := ⟨(m % 9).toNat, by omega⟩
  have hR8 : (R : Int) ≤ 8 := by omega
  have HR8 := Lib.hid (show R ≤ 8 by omega)
  have hRj : (0 : Int) ≤ (R : Int) := by omega
  have hw1 : IntKind.i64.wrap (5 + (R : Int)) = 5 + (R : Int) := IntWalk.i64_in _ (by omega)
  have AW := Lib.hid (fun V (hV : Below w.heap.size w V) => awakeU_any V (hS.kept hV))
  have C3 := Lib.hid (fun k k' n n' A A' m m' cap cap' W => mk_two 5 k k' n n' A A' m m' cap cap' W)
  have HS := Lib.hid hS
  clear hm hS
  go_enter Tryd.func10, Tryd.ntmps10
  go_wp2_with fail
  rw [hR]
  clear hR
  go_loopw [5] (WideR w w.heap.size) (fun iv _ => 20 - (intOf iv).toNat)
  case atStart =>
    exact ⟨0, none, 0, rfl, by omega, (Below.refl _ _).alloc (Nat.le_refl _) _, Nat.le_refl _, Bk.new w _ _, leaf_in _ _ 2 0⟩
  case round =>
    obtain ⟨j, A, cap, rfl, hj, hbox⟩ := hrel
    have hbk := hbox.2.2.1
    have hlt := hbk.lt
    have k0 := hbk.cell 0
    have k1 := hbk.cell 1
    have k2 := hbk.cell 2
    simp at k0 k1 k2
    have HX := Lib.hid hbox
    have HBK := Lib.hid hbk
    clear hbox hbk
    by_cases hlp : j < 9
    · obtain ⟨u, hu⟩ : ∃ u, wideM j = u := ⟨_, rfl⟩
      have HU := Lib.hid (show wideM (j + 1) = .node 5 0 [u, u] by rw [wideM, hu])
      rw [hu] at HBK HX k0 k1 k2
      have hji : (j : Int) < 9 := by omega
      have HJ := Lib.hid hlp
      clear hu hlp
      go_wp2_with fail
      refine (C3.out _ _ _ _ _ _ _ _ _ _ _).mono ?_
      rintro e w2 ⟨g1, rfl, hg1, b1, hb1⟩
      have hbk2 := HBK.out.below hb1 hlt
      have hfz : ∀ o, w2.frozen? ⟨w.heap.size, o, none⟩ = false := fun o => hbk2.cold o
      have d0 := hbk2.cell 0
      have d1 := hbk2.cell 1
      have d2 := hbk2.cell 2
      simp at d0 d1 d2
      have HAPP := Lib.hid (HX.out.app (Below.refl wr.heap.size wr) HX.out.2.2.2 hg1 b1 hb1)
      clear b1 hb1 hbk2
      go_wp2_with fail
      go_roundw
      case rel => exact ⟨j + 1, _, 2, by congr 1, by have := HJ.out; omega, by rw [HU.out]; exact HAPP.out⟩
      case measure => simp [intOf]; omega
    · obtain rfl : j = 9 := by omega
      have HB9 := Lib.hid HX.out
      have HWR := Lib.hid HX.out.1
      obtain ⟨A9, hA9⟩ : ∃ A9, A = A9 := ⟨_, rfl⟩
      obtain ⟨cap9, hc9⟩ : ∃ cap9, cap = cap9 := ⟨_, rfl⟩
      rw [hA9, hc9] at HB9 k2
      rename World => wq
      clear hlp HBK HX hA9 hc9 k0 k1 k2
      rw [show ((9 : Nat) : Int) = 9 from rfl]
      go_wp2_with fail
      go_loopw [7] (RowRel (4 + R) wq) (fun iv _ => 200 - (intOf iv).toNat)
      case atStart => exact ⟨0, none, 0, rfl, by omega, (Below.refl _ _).alloc (Nat.le_refl _) _, Nat.le_refl _, Bk.new wq _ _, leaf_in _ _ 1 0⟩
      case round =>
        obtain ⟨j, A, cap, rfl, hj, hbox⟩ := hrel
        have hbk := hbox.2.2.1
        have hlt2 := hbk.lt
        have k0 := hbk.cell 0
        have k1 := hbk.cell 1
        have k2 := hbk.cell 2
        simp at k0 k1 k2
        have HX := Lib.hid hbox
        have HBK := Lib.hid hbk
        clear hbox hbk
        by_cases hlp : j < 4 + R
        · obtain ⟨u, hu⟩ : ∃ u, rowM var0 j = u := ⟨_, rfl⟩
          have HU := Lib.hid (show rowM var0 (j + 1) = .node 5 0 [u, var0] by rw [rowM, hu])
          rw [hu] at HBK HX k0 k1 k2
          have hji : (j : Int) + 1 < 5 + (R : Int) := by omega
          have hj9 : (j : Int) ≤ 128 := by omega
          have HJ := Lib.hid hlp
          clear hu hlp
          go_wp2_with fail
          refine (C3.out _ _ _ _ _ _ _ _ _ _ _).mono ?_
          rintro e w2 ⟨g1, rfl, hg1, b1, hb1⟩
          have hbk2 := HBK.out.below hb1 hlt2
          have hfz : ∀ o, w2.frozen? ⟨wq.heap.size, o, none⟩ = false := fun o => hbk2.cold o
          have d0 := hbk2.cell 0
          have d1 := hbk2.cell 1
          have d2 := hbk2.cell 2
          simp at d0 d1 d2
          have HAPP := Lib.hid (HX.out.app (u := var0) (A' := none) (cap' := 0) (Below.refl wr.heap.size wr) (leaf_in _ _ 1 0) hg1 b1 hb1)
          clear b1 hb1 hbk2
          go_wp2_with fail
          go_roundw
          case rel => exact ⟨j + 1, _, 2, by congr 1, by have := HJ.out; omega, by rw [HU.out]; exact HAPP.out⟩
          case measure => simp [intOf]; omega
        · obtain rfl : j = 4 + R := by omega
          have hji : ¬ ((4 + R : Nat) : Int) + 1 < 5 + (R : Int) := by omega
          obtain ⟨v, hv⟩ : ∃ v, wideM 9 = v := ⟨_, rfl⟩
          have H9 := HB9.out.over HX.out.1
          rw [hv] at H9
          have HTW := HX.out.wide
          have hwq : Below w.heap.size w wr := HWR.out.trans (HX.out.1.mono HWR.out.size)
          have ho := onec_any (rowM var0 (4 + R)) wq.heap.size wr.heap.size A cap v w.heap.size wr.heap.size A9 cap9 wr HTW (Nat.le_refl _) H9.wide (Nat.le_refl _) (HS.out.kept hwq)
          have hbk9 := H9.2.2.1
          have n0 := hbk9.cell 0
          have n1 := hbk9.cell 1
          have n2 := hbk9.cell 2
          simp at n0 n1 n2
          have hres := limits_many (4 + R) (by have := HR8.out; omega)
          have HBW := Lib.hid hwq
          obtain ⟨S, hSdef⟩ : ∃ S : Int, (5 + (R : Int)) * 1023 + (5 + (R : Int)) - 1 = S := ⟨_, rfl⟩
          have hwa : IntKind.i64.wrap ((5 + (R : Int)) * 1023) = (5 + (R : Int)) * 1023 := IntWalk.i64_in _ (by omega)
          have hwb : IntKind.i64.wrap ((5 + (R : Int)) * 1023 + (5 + (R : Int))) = (5 + (R : Int)) * 1023 + (5 + (R : Int)) := IntWalk.i64_in _ (by omega)
          have hwc : IntKind.i64.wrap ((5 + (R : Int)) * 1023 + (5 + (R : Int)) - 1) = S := by rw [← hSdef]; exact IntWalk.i64_in _ (by omega)
          obtain ⟨u, hu⟩ : ∃ u, rowM var0 (4 + R) = u := ⟨_, rfl⟩
          rw [hu] at ho hres k0 k1 k2
          rw [hv] at hres
          by_cases hbig : 8192 < S
          · have hr2 : manyX u [v] = (.node 0 0 [], 2) := by rw [hres, if_neg (by omega)]
            rw [hr2] at ho
            unfold GivesT termV at ho
            have HO := Lib.hid ho
            have t9 : decide (8192 < S) = true := decide_eq_true hbig
            clear hlp ho hres hr2 hu hv HBK HX HB9 HWR hbig H9 HTW hwq hbk9 hSdef
            go_wp2_with fail
            refine HO.out.mono ?_
            rintro e w5 ⟨A5, c5, rfl, hx5, hb5⟩
            have HB5 := Lib.hid ((HBW.out.trans (hb5.mono HBW.out.size)).alloc (by have := hb5.size; have := HBW.out.size; omega) (.cells #[.int .i64 0, .int .i64 0, .slice A5 0 c5] 24))
            have CA := Lib.hid (AW.out _ HB5.out)
            clear hx5 hb5
            go_wp2_with fail
            refine CA.out.mono ?_
            rintro e w6 ⟨rfl, hb6⟩
            have HB6 := Lib.hid (HB5.out.trans (hb6.mono HB5.out.size))
            clear hb6
            go_wp2_with fail
            go_ret
            exact ⟨rfl, HB6.out⟩
          · obtain ⟨x, hx⟩ : ∃ x, rowM (wideM 9) (4 + R) = x := ⟨_, rfl⟩
            have hr2 : manyX u [v] = (x, 0) := by rw [hres, if_pos (by omega), ← hv, hx]
            have hxs : (topN x.size : Int) = S := by rw [← hx, row_size, wide9_size, topN_lo (by omega)]; omega
            rw [hr2] at ho
            unfold GivesT termV at ho
            have HO := Lib.hid ho
            have HXS := Lib.hid hxs
            have t9 : decide (8192 < S) = false := decide_eq_false hbig
            have q9 : (S == S) = true := by simp
            clear hlp ho hres hr2 hu hv HBK HX HB9 HWR hbig H9 HTW hwq hbk9 hSdef hx hxs
            go_wp2_with fail
            refine HO.out.mono ?_
            rintro e w5 ⟨A5, c5, rfl, hx5, hb5⟩
            have HB5 := Lib.hid ((HBW.out.trans (hb5.mono HBW.out.size)).alloc (by have := hb5.size; have := HBW.out.size; omega) (.cells #[.int .i64 x.k, .int .i64 x.n, .slice A5 x.l.length c5] 24))
            have CZ := refTSize_any x wr.heap.size w5.heap.size A5 c5 (w5.alloc (.cells #[.int .i64 x.k, .int .i64 x.n, .slice A5 x.l.length c5] 24)) (hx5.alloc (Nat.le_refl _) _) (by simp)
            rw [HXS.out] at CZ
            unfold termV at CZ
            have HCZ := Lib.hid CZ
            clear hx5 hb5 CZ
            go_wp2_with fail
            refine HCZ.out.mono ?_
            rintro e w6 ⟨rfl, hb6⟩
            have HB6 := Lib.hid (HB5.out.trans (hb6.mono HB5.out.size))
            have CA := Lib.hid (AW.out _ HB6.out)
            clear hb6
            go_wp2_with fail
            refine CA.out.mono ?_
            rintro e w7 ⟨rfl, hb7⟩
            have HB7 := Lib.hid (HB6.out.trans (hb7.mono HB6.out.size))
            clear hb7
            go_wp2_with fail
            go_ret
            exact ⟨rfl, HB7.out⟩

end Go.Proofs.YtcobionbgiaomaaDoor
