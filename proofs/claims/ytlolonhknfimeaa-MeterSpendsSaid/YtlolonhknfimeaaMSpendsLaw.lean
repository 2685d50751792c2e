/- The law MeterSpends answers true, for every int and every slice of ints. No condition beyond the row's own. -/
import Derived.Test.YtlolonhknfimeaaMetD
import Derived.OpenShut
import Derived.ShutString
import Derived.ChangeOld
import Derived.Below
namespace Go.Proofs.Ytlolonhknfimeaa.meterSpends
open Go.ChangeShapes Go.WideShapes Go.ChangeAt Go.RowKit
open Go.ChangeMaps (open_string shut_string)
set_option linter.unusedVariables false

theorem own : ownKnob Try.prog.godebug = none := by kernel_rfl
theorem laidOut : laidOutB Try.prog = true := by kernel_rfl
/-- A slice of integers that came in. -/
def IsRow (k : IntKind) (w : World) (a : Option Addr) (len cap : Nat) (zs : List Int) : Prop :=
  (a = none ∧ len = 0 ∧ cap = 0 ∧ zs = []) ∨
  ∃ x, a = some x ∧ len ≤ cap ∧ cap ≤ maxLen ∧ zs.length = cap ∧ (∀ i, i < zs.length → w.cell? (x.add i) = some (.int k (zs.getD i 0))) ∧ ∀ n ∈ zs, (Lit.int k n).wf = true
theorem row_open {w : World} {a : Option Addr} {len cap : Nat} {z : List Int} (h : IsRow .i64 w a len cap z) (h0 : len ≠ 0) :
    ∃ (b off : Nat) (xs : List Int), a = some ⟨b, off, none⟩ ∧ xs.length = len ∧ len ≤ maxLen ∧ (∀ i, i < len → w.cell? ⟨b, off + i, none⟩ = some (.int .i64 (xs.getD i 0))) ∧ ∀ i, i < len → (Lit.int .i64 (xs.getD i 0)).wf = true := by
  rcases h with ⟨_, h1, _⟩ | ⟨x, rfl, hl, hm, hz, hcell, hwf⟩
  · exact absurd h1 h0
  · obtain ⟨b, off, spot⟩ := x
    have hc := hcell 0 (by omega)
    have hspot : spot = none := by simpa [Addr.add] using World.cell?_spot hc
    subst hspot
    refine ⟨b, off, z.take len, rfl, by rw [List.length_take]; omega, by omega, fun i hi => ?_, fun i hi => ?_⟩
    · have := hcell i (by omega)
      rw [Addr.add_lit] at this
      rw [this]
      simp [List.getD, hi]
    · have e : (z.take len).getD i 0 = z[i]'(by omega) := by simp [List.getD, hi, show i < z.length by omega]
      rw [e]
      exact hwf _ (List.getElem_mem _)

theorem walk_no (n : Int) (A : Option Addr) (len cap : Nat) (w : World) (hn : n < 0 ∨ 1048576 < n) :
    Calls Try.prog 4 #[.int .i64 n, .slice A len cap] w fun e w' => e = .returned (.bool true) ∧ Below w.heap.size w w' := by
  have HN := Lib.hid hn
  by_cases h0 : n < 0
  · clear hn
    go_enter Try.func4, Try.ntmps4
    go_wp2_with fail
    refine (new_no n HN.out _).mono ?_; rintro e w1 ⟨rfl, rfl⟩
    go_wp2_with fail
    refine (awakeF_any _).mono ?_; rintro e w2 ⟨rfl, hb⟩
    go_wp2_with fail
    go_ret
    exact ⟨rfl, hb⟩
  · have h1 : 1048576 < n := by omega
    clear hn
    go_enter Try.func4, Try.ntmps4
    go_wp2_with fail
    refine (new_no n HN.out _).mono ?_; rintro e w1 ⟨rfl, rfl⟩
    go_wp2_with fail
    refine (awakeF_any _).mono ?_; rintro e w2 ⟨rfl, hb⟩
    go_wp2_with fail
    go_ret
    exact ⟨rfl, hb⟩

theorem walk_empty (n : Int) (A : Option Addr) (cap : Nat) (w : World) (h0 : ¬ n < 0) (h1 : ¬ 1048576 < n) :
    Calls Try.prog 4 #[.int .i64 n, .slice A 0 cap] w fun e w' => e = .returned (.bool true) ∧ Below w.heap.size w w' := by
  have N1 := Lib.hid (new_ok n h0 h1 w)
  have HN : Hid (0 ≤ n ∧ n ≤ 1048576) := Lib.hid ⟨by omega, by omega⟩
  go_enter Try.func4, Try.ntmps4
  go_wp2_with fail
  refine N1.out.mono ?_; rintro e w1 ⟨rfl, hm1, hb1⟩
  obtain ⟨B1, hB1⟩ : ∃ B1, w.heap.size = B1 := ⟨_, rfl⟩
  rw [hB1] at hm1 hb1 ⊢
  have hm1 := Lib.hid hm1; have hb1 := Lib.hid hb1; have HB1 := Lib.hid hB1
  clear hB1
  go_wp2_with fail
  refine wp_loop_rounds 1 ?_
  rw [rounds_succ]
  go_wp2_with fail
  refine (awakeF_any _).mono ?_; rintro e wz ⟨rfl, hbz⟩
  have hbz := Lib.hid (((hb1.out.alloc (Nat.le_of_lt hm1.out.lt) _)).trans (hbz.mono (by have := hm1.out.lt; simp; omega)))
  go_wp2_with fail
  go_ret
  exact ⟨rfl, by rw [HB1.out]; exact hbz.out⟩

theorem fuel_of (l z : Int) : fuelE l z = if enough l z then 0 else 8 := rfl
theorem leftX_in {l n : Int} (z : Int) (h : 0 ≤ l ∧ l ≤ n) : 0 ≤ leftX l z ∧ leftX l z ≤ n := by
  unfold leftX enough
  split
  · rename_i h'; simp at h'; omega
  · exact h
theorem usedX (l n z : Int) : (if enough l z then n - l + z else n - l) = n - leftX l z := by
  unfold leftX; split <;> omega

set_option maxRecDepth 100000 in
set_option maxHeartbeats 8000000 in
theorem walk_row (n : Int) (b off len cap : Nat) (xs : List Int) (w : World) (h0 : ¬ n < 0) (h1 : ¬ 1048576 < n) (hl : len ≤ 9223372036854775807)
    (hc : ∀ i, i < len → w.cell? ⟨b, off + i, none⟩ = some (.int .i64 (xs.getD i 0))) (hwf : ∀ i, i < len → (Lit.int .i64 (xs.getD i 0)).wf = true) :
    Calls Try.prog 4 #[.int .i64 n, .slice (some ⟨b, off, none⟩) len cap] w fun e w' => e = .returned (.bool true) ∧ Below w.heap.size w w' := by
  have HC := Lib.hid hc; have HWF := Lib.hid hwf
  have HBL : Hid (∀ i, i < len → b < w.heap.size) := Lib.hid (fun i hi => World.block_lt_of_cell? w _ (hc i hi))
  clear hc hwf
  have N1 := Lib.hid (new_ok n h0 h1 w)
  have HN : Hid (0 ≤ n ∧ n ≤ 1048576) := Lib.hid ⟨by omega, by omega⟩
  go_enter Try.func4, Try.ntmps4
  go_wp2_with fail
  refine N1.out.mono ?_; rintro e w1 ⟨rfl, hm1, hb1⟩
  obtain ⟨B1, hB1⟩ : ∃ B1, w.heap.size = B1 := ⟨_, rfl⟩
  rw [hB1] at hm1 hb1 ⊢
  have hm1 := Lib.hid hm1; have hb1 := Lib.hid hb1; have HB1 := Lib.hid hB1
  clear hB1
  go_wp2_with fail
  obtain ⟨W, hW⟩ : ∃ W, (w1.alloc (.cells #[.int .i64 n, .int .i64 0] 34)) = W := ⟨_, rfl⟩
  have hX0 : Bx 34 W w1.heap.size n 0 := by rw [← hW]; exact heap_alloc_new w1 _
  have hM0 : Mt W B1 n n := by rw [← hW]; exact hm1.out.alloc _
  have hB0 : Below B1 w W := by rw [← hW]; exact hb1.out.alloc (Nat.le_of_lt hm1.out.lt) _
  rw [hW]
  obtain ⟨bw, hbw⟩ : ∃ bw, w1.heap.size = bw := ⟨_, rfl⟩
  have hne : B1 < bw := by rw [← hbw]; exact hm1.out.lt
  rw [hbw] at hX0 ⊢
  have HNE := Lib.hid hne
  have HX0 := Lib.hid hX0; have HM0 := Lib.hid hM0; have HB0 := Lib.hid hB0
  clear hW hX0 hM0 hB0 hbw hne hb1 hm1
  clear hb1 hm1 h0 h1
  go_loopw [8] (fun i wr => ∃ (k : Nat) (l : Int), k ≤ len ∧ i = .int .i64 k ∧ Hid (0 ≤ l ∧ l ≤ n) ∧ Hid (Mt wr B1 n l) ∧ Hid (Bx 34 wr bw l (n - l)) ∧ Hid (Below B1 w wr)) (fun i _ => len - (intOf i).toNat)
  case atStart => exact ⟨0, n, Nat.zero_le _, rfl, Lib.hid (by have := HN.out; omega), HM0, by rw [show n - n = 0 by omega]; exact HX0, HB0⟩
  case round =>
    obtain ⟨k, l, hk, rfl, HL, HM, HX, HB⟩ := hrel
    by_cases hkl : k < len
    · by_cases hk100 : k < 100
      · have hi100 : (k : Int) < 100 := by omega
        have hil : (k : Int) < (len : Int) := by omega
        have hi0 : (0 : Int) ≤ (k : Int) := by omega
        obtain ⟨z, hz⟩ : ∃ z, xs.getD k 0 = z := ⟨_, rfl⟩
        have hcz := HC.out k hkl
        have hwz := HWF.out k hkl
        rw [hz] at hcz hwz
        have HZ := Lib.hid hwz
        have HCZ := Lib.hid hcz
        have HBb : Hid (b < B1) := Lib.hid (by rw [← HB1.out]; exact HBL.out k hkl)
        have HKZ : Hid (∀ V, Below B1 w V → V.cell? ⟨b, off + k, none⟩ = some (.int .i64 z)) := Lib.hid (fun V hV => (hV.cell (p := ⟨b, off + k, none⟩) HBb.out).trans HCZ.out)
        have HRS : Hid (∀ V, Calls Try.prog 12 #[.agg #[.int .i64 l, .int .i64 (n - l)], .int .i64 z] V fun e w' =>
            e = .returned (.tuple #[.agg #[.int .i64 (leftX l z), .int .i64 (n - leftX l z)], .bool (enough l z)]) ∧ Below V.heap.size V w') := Lib.hid (fun V => by
          have h := refSpend_any l (n - l) z (by have := HL.out; have := HN.out; omega) (by have := HL.out; have := HN.out; omega) V
          rw [usedX] at h
          exact h)
        have HKT : Hid (∀ V, Below wr.heap.size wr V → V.cell? ⟨bw, 0, none⟩ = some (.int .i64 l) ∧ V.cell? ⟨bw, 1, none⟩ = some (.int .i64 (n - l)) ∧ V.cell? ⟨b, off + k, none⟩ = some (.int .i64 z)) :=
          Lib.hid (fun V hV => ⟨(HX.out.over hV).c0, (HX.out.over hV).c1, HKZ.out _ (HB.out.trans (hV.mono (by have := HM.out.lt; omega)))⟩)
        have hi : (0 : Int) ≤ (k : Int) ∧ (k : Int) < (len : Int) := ⟨hi0, hil⟩
        have x0 := HX.out.c0
        have x1 := HX.out.c1
        have hcw := HKZ.out _ HB.out
        have hblt : b < wr.heap.size := by have := HBb.out; have := HM.out.lt; omega
        have hwlt : bw < wr.heap.size := HX.out.lt
        have hbk0 := Lib.hid ((Below.refl wr.heap.size wr).drew)
        clear hz hcz hwz hkl hk100 hi0
        go_upto_region 10 with fail
        go_cut [9, 10] from 46 to 54 (fun s9 s10 wx => ∃ bx, s9 = .pointer (some ⟨bx, 0, none⟩) ∧ s10 = .bool (enough l z) ∧ Bx 34 wx bx (leftX l z) (n - leftX l z) ∧ Below wr.heap.size wr wx ∧ wr.heap.size ≤ bx)
        case first =>
          go_region_held3 (fun w' => w'.cell? ⟨bw, 0, none⟩ = some (.int .i64 l) ∧ w'.cell? ⟨bw, 1, none⟩ = some (.int .i64 (n - l)) ∧ w'.cell? ⟨b, off + k, none⟩ = some (.int .i64 z))
            (first | exact HKT.out _ hbk0.out | exact HKT.out _ (hbk0.out.alloc hbk0.out.size _) | exact HKT.out _ hB5.out | exact HKT.out _ (hB5.out.alloc hB5.out.size _) | exact HKT.out _ ((hB5.out.setCell (by simp <;> omega) _).setCell (by simp <;> omega) _) | exact HKT.out _ (((hB5.out.alloc hB5.out.size _).setCell (by simp <;> omega) _).setCell (by simp <;> omega) _))
            (first
            | (go_at_call 12
               refine (HRS.out _).mono ?_
               rintro e w5 ⟨rfl, hb3⟩
               have hB5 : Hid (Below wr.heap.size wr w5) := Lib.hid (by first | exact hbk0.out.trans (hb3.mono hbk0.out.size) | exact (hbk0.out.alloc hbk0.out.size _).trans (hb3.mono (hbk0.out.alloc hbk0.out.size _).size))
               first
               | (have hbkv : Bx 34 w5 wr.heap.size 0 0 := Bx.over (w := wr.drew.alloc (.cells #[.int .i64 0, .int .i64 0] 34)) (heap_alloc_new wr.drew _) hb3
                  have hfz : ∀ o, w5.frozen? ⟨wr.heap.size, o, none⟩ = false := fun o => hbkv.fz o
                  have d0 := hbkv.c0
                  have d1 := hbkv.c1)
               | skip
               clear hb3))
          all_goals
            go_wp2_with fail
            go_meet
            case rel =>
              first
              | exact ⟨_, rfl, rfl, heap_alloc_new w5 _, hB5.out.alloc hB5.out.size _, hB5.out.size⟩
              | exact ⟨_, rfl, rfl, hbkv.set _ _, (hB5.out.setCell (by simp <;> omega) _).setCell (by simp <;> omega) _, Nat.le_refl _⟩
        case rest =>
          rename World => wc
          obtain ⟨bx, rfl, rfl, hx, hbx, hle⟩ := hcut
          have hcw2 := HKZ.out _ (HB.out.trans (hbx.mono (by have := HM.out.lt; omega)))
          have hblt2 : b < wc.heap.size := by have := hbx.size; omega
          have HM2 := Lib.hid (HM.out.over hbx)
          have HX2 := Lib.hid (HX.out.over hbx)
          have HB2 := Lib.hid (HB.out.trans (hbx.mono (by have := HM.out.lt; omega)))
          have HW2 := Lib.hid hx
          have HNX : Hid (bx ≠ B1 ∧ bx ≠ bw ∧ B1 ≤ bx) := Lib.hid ⟨by have := HM.out.lt; omega, by omega, by have := HM.out.lt; omega⟩
          clear hx hbx hle x0 x1 hcw hblt hwlt hbk0
          cases hE : enough l z with
          | true =>
            have HFE : Hid (fuelE l z = 0) := Lib.hid (by simp [fuelE, hE])
            go_wp2_with fail
            refine (spend_up HM2.out z HZ.out (by have := HL.out; have := HN.out; omega)).mono ?_; rintro e w6 ⟨rfl, hm6, hu6⟩
            rw [HFE.out]
            have HMz := Lib.hid hm6
            have HXz := Lib.hid (HX2.out.up hu6 (by have := HNE.out; omega))
            have HWz := Lib.hid (HW2.out.up hu6 HNX.out.1)
            have HBz := Lib.hid (HB2.out.trans (hu6.below (Nat.le_refl _) (by have := HM2.out.lt; omega)))
            have HLz := Lib.hid (leftX_in z HL.out)
            have hcw3 := HKZ.out _ HBz.out
            clear hm6 hu6
            by_cases hz1 : z = 1
            · have hzt : (z == 1) = true := by simpa using hz1
              rcases (show (k : Int).tmod 2 = 0 ∨ (k : Int).tmod 2 = 1 by rw [Int.tmod_eq_emod_of_nonneg (a := (k : Int)) (Int.natCast_nonneg k)]; omega) with hm | hm
              · subst hz1
                have hx0 := HWz.out.c0
                have hx1 := HWz.out.c1
                have hxf := fun o => HWz.out.fz o
                have hxl := HWz.out.lt
                obtain ⟨l1, hl1⟩ : ∃ l1, leftX l 1 = l1 := ⟨_, rfl⟩
                rw [hl1] at hx0 hx1
                have HMz := Lib.hid (show Mt w6 B1 n l1 from hl1 ▸ HMz.out)
                have HWz := Lib.hid (show Bx 34 w6 bx l1 (n - l1) from hl1 ▸ HWz.out)
                have HLz := Lib.hid (show 0 ≤ l1 ∧ l1 ≤ n from hl1 ▸ HLz.out)
                have HR1 : Hid (∀ V, Calls Try.prog 12 #[.agg #[.int .i64 l1, .int .i64 (n - l1)], .int .i64 1] V fun e w' =>
                    e = .returned (.tuple #[.agg #[.int .i64 (leftX l1 1), .int .i64 (n - leftX l1 1)], .bool (enough l1 1)]) ∧ Below V.heap.size V w') := Lib.hid (fun V => by
                  have h := refSpend_any l1 (n - l1) 1 (by have := HLz.out; have := HN.out; omega) (by have := HLz.out; have := HN.out; omega) V
                  rw [usedX] at h
                  exact h)
                clear hl1
                cases hE2 : enough l1 1 with
                | true =>
                  have HFE2 : Hid (fuelE l1 1 = 0) := Lib.hid (by simp [fuelE, hE2])
                  have HR1 := Lib.hid (show ∀ V, Calls Try.prog 12 #[.agg #[.int .i64 l1, .int .i64 (n - l1)], .int .i64 1] V fun e w' =>
                        e = .returned (.tuple #[.agg #[.int .i64 (leftX l1 1), .int .i64 (n - leftX l1 1)], .bool true]) ∧ Below V.heap.size V w' from hE2 ▸ HR1.out)
                  clear hE2
                  go_wp2_with fail
                  refine (HR1.out _).mono ?_; rintro e w7 ⟨rfl, hb7⟩
                  have HM7 := Lib.hid (HMz.out.over hb7)
                  have HX7 := Lib.hid (HXz.out.over hb7)
                  have HW7 := Lib.hid (HWz.out.over hb7)
                  have HB7 := Lib.hid (HBz.out.trans (hb7.mono (by have := HMz.out.lt; omega)))
                  have hy0 := HW7.out.c0
                  have hy1 := HW7.out.c1
                  have hyf := fun o => HW7.out.fz o
                  have hyl := HW7.out.lt
                  clear hb7
                  obtain ⟨W8, hW8⟩ : ∃ W8, ((w7.setCell ⟨bx, 0, none⟩ (.int .i64 (leftX l1 1))).setCell ⟨bx, 1, none⟩ (.int .i64 (n - leftX l1 1))) = W8 := ⟨_, rfl⟩
                  have HM8 : Hid (Mt W8 B1 n l1) := Lib.hid (by rw [← hW8]; exact (HM7.out.far (by show B1 ≠ bx; have := HNX.out; omega) _).far (by show B1 ≠ bx; have := HNX.out; omega) _)
                  have HX8 : Hid (Bx 34 W8 bw l (n - l)) := Lib.hid (by rw [← hW8]; exact (HX7.out.far (by show bw ≠ bx; have := HNX.out; omega) _).far (by show bw ≠ bx; have := HNX.out; omega) _)
                  have HW8x : Hid (Bx 34 W8 bx (leftX l1 1) (n - leftX l1 1)) := Lib.hid (by rw [← hW8]; exact HW7.out.set _ _)
                  have HB8 : Hid (Below B1 w W8) := Lib.hid (by rw [← hW8]; exact (HB7.out.setCell (by show B1 ≤ bx; have := HNX.out; omega) _).setCell (by show B1 ≤ bx; have := HNX.out; omega) _)
                  have HW8 := Lib.hid hW8
                  clear hW8
                  go_upto_region 14 with fail
                  rw [HW8.out]
                  go_wp2_with fail
                  refine (step_up HM8.out (by have := HLz.out; have := HN.out; omega)).mono ?_; rintro e w9 ⟨rfl, hm9, hu9⟩
                  rw [HFE2.out]
                  have HMz := Lib.hid hm9
                  have HXz := Lib.hid (HX8.out.up hu9 (by have := HNE.out; omega))
                  have HWz := Lib.hid (HW8x.out.up hu9 HNX.out.1)
                  have HBz := Lib.hid (HB8.out.trans (hu9.below (Nat.le_refl _) (by have := HM8.out.lt; omega)))
                  have HLz := Lib.hid (leftX_in 1 HLz.out)
                  have hcw3 := HKZ.out _ HBz.out
                  clear hm9 hu9 hx0 hx1 hxf hxl hy0 hy1 hyf hyl
                  have hx0 := HWz.out.c0
                  have hx1 := HWz.out.c1
                  have hxf := fun o => HXz.out.fz o
                  have hwc0 := HXz.out.c0
                  have hwc1 := HXz.out.c1
                  have hxl := HXz.out.lt
                  obtain ⟨V, hV⟩ : ∃ V, ((w9.setCell ⟨bw, 0, none⟩ (.int .i64 (leftX l1 1))).setCell ⟨bw, 1, none⟩ (.int .i64 (n - leftX l1 1))) = V := ⟨_, rfl⟩
                  have HMV : Hid (Mt V B1 n (leftX l1 1)) := Lib.hid (by rw [← hV]; exact (HMz.out.far (by show B1 ≠ bw; have := HNE.out; omega) _).far (by show B1 ≠ bw; have := HNE.out; omega) _)
                  have HXV : Hid (Bx 34 V bw (leftX l1 1) (n - leftX l1 1)) := Lib.hid (by rw [← hV]; exact HXz.out.set _ _)
                  have HBV : Hid (Below B1 w V) := Lib.hid (by rw [← hV]; exact (HBz.out.setCell (by show B1 ≤ bw; have := HNE.out; omega) _).setCell (by show B1 ≤ bw; have := HNE.out; omega) _)
                  have HV := Lib.hid hV
                  clear hV
                  have v0 := HXV.out.c0
                  have v1 := HXV.out.c1
                  have hsum : leftX l1 1 + (n - (leftX l1 1)) = n := by omega
                  have hwn : IntKind.i64.wrap n = n := IntWalk.i64_in _ (by have := HN.out; omega)
                  have hwn2 : wrap64 n = n := IntWalk.wrap64_in _ (by have := HN.out; omega)
                  have hnn : n - (leftX l1 1) = n - (leftX l1 1) := rfl
                  obtain ⟨U, hU⟩ : ∃ U, n - (leftX l1 1) = U := ⟨_, rfl⟩
                  obtain ⟨X, hX⟩ : ∃ X, leftX l1 1 = X := ⟨_, rfl⟩
                  rw [hU] at hsum
                  rw [hX] at hsum
                  have HLX : Hid (0 ≤ X ∧ X ≤ n) := Lib.hid (by rw [← hX]; exact HLz.out)
                  have HLQ : Hid (∀ m, Calls Try.prog 15 #[.pointer (some ⟨B1, 0, none⟩)] (V.drewN m) fun e w' => e = .returned (.int .i64 X) ∧ ∃ m, w' = V.drewN m) := Lib.hid (fun m => by
                    have h := left_quiet HMV.out (by have := HLz.out; have := HN.out; omega) m
                    rw [hX] at h; exact h)
                  have HUQ : Hid (∀ m, Calls Try.prog 16 #[.pointer (some ⟨B1, 0, none⟩)] (V.drewN m) fun e w' => e = .returned (.int .i64 U) ∧ ∃ m, w' = V.drewN m) := Lib.hid (fun m => by
                    have h := used_quiet HMV.out (by have := HLz.out; have := HN.out; omega) m
                    rw [hU] at h; exact h)
                  have HU := Lib.hid hU
                  have HXX := Lib.hid hX
                  rw [hU] at v1
                  rw [hX] at v0
                  clear hnn hU hX
                  go_upto_region 16 with fail
                  rw [HV.out]
                  go_quiet (first
                    | (go_at_call 15; exact HLQ.out _)
                    | (go_at_call 16; exact HUQ.out _))
                  go_wp2_with fail
                  go_roundw
                  case rel => exact ⟨k + 1, leftX l1 1, by omega, by go_num, HLz, Lib.hid (HMV.out.drewN _), Lib.hid (HXV.out.drewN _), Lib.hid (below_drewM HBV.out _)⟩
                  case measure => simp [intOf]; omega

                | false =>
                  have HFE2 : Hid (fuelE l1 1 = 8) := Lib.hid (by simp [fuelE, hE2])
                  have HR1 := Lib.hid (show ∀ V, Calls Try.prog 12 #[.agg #[.int .i64 l1, .int .i64 (n - l1)], .int .i64 1] V fun e w' =>
                        e = .returned (.tuple #[.agg #[.int .i64 (leftX l1 1), .int .i64 (n - leftX l1 1)], .bool false]) ∧ Below V.heap.size V w' from hE2 ▸ HR1.out)
                  clear hE2
                  go_wp2_with fail
                  refine (HR1.out _).mono ?_; rintro e w7 ⟨rfl, hb7⟩
                  have HM7 := Lib.hid (HMz.out.over hb7)
                  have HX7 := Lib.hid (HXz.out.over hb7)
                  have HW7 := Lib.hid (HWz.out.over hb7)
                  have HB7 := Lib.hid (HBz.out.trans (hb7.mono (by have := HMz.out.lt; omega)))
                  have hy0 := HW7.out.c0
                  have hy1 := HW7.out.c1
                  have hyf := fun o => HW7.out.fz o
                  have hyl := HW7.out.lt
                  clear hb7
                  obtain ⟨W8, hW8⟩ : ∃ W8, ((w7.setCell ⟨bx, 0, none⟩ (.int .i64 (leftX l1 1))).setCell ⟨bx, 1, none⟩ (.int .i64 (n - leftX l1 1))) = W8 := ⟨_, rfl⟩
                  have HM8 : Hid (Mt W8 B1 n l1) := Lib.hid (by rw [← hW8]; exact (HM7.out.far (by show B1 ≠ bx; have := HNX.out; omega) _).far (by show B1 ≠ bx; have := HNX.out; omega) _)
                  have HX8 : Hid (Bx 34 W8 bw l (n - l)) := Lib.hid (by rw [← hW8]; exact (HX7.out.far (by show bw ≠ bx; have := HNX.out; omega) _).far (by show bw ≠ bx; have := HNX.out; omega) _)
                  have HW8x : Hid (Bx 34 W8 bx (leftX l1 1) (n - leftX l1 1)) := Lib.hid (by rw [← hW8]; exact HW7.out.set _ _)
                  have HB8 : Hid (Below B1 w W8) := Lib.hid (by rw [← hW8]; exact (HB7.out.setCell (by show B1 ≤ bx; have := HNX.out; omega) _).setCell (by show B1 ≤ bx; have := HNX.out; omega) _)
                  have HW8 := Lib.hid hW8
                  clear hW8
                  go_upto_region 14 with fail
                  rw [HW8.out]
                  go_wp2_with fail
                  refine (step_up HM8.out (by have := HLz.out; have := HN.out; omega)).mono ?_; rintro e w9 ⟨rfl, hm9, hu9⟩
                  rw [HFE2.out]
                  have HMz := Lib.hid hm9
                  have HXz := Lib.hid (HX8.out.up hu9 (by have := HNE.out; omega))
                  have HWz := Lib.hid (HW8x.out.up hu9 HNX.out.1)
                  have HBz := Lib.hid (HB8.out.trans (hu9.below (Nat.le_refl _) (by have := HM8.out.lt; omega)))
                  have HLz := Lib.hid (leftX_in 1 HLz.out)
                  have hcw3 := HKZ.out _ HBz.out
                  clear hm9 hu9 hx0 hx1 hxf hxl hy0 hy1 hyf hyl
                  have hx0 := HWz.out.c0
                  have hx1 := HWz.out.c1
                  have hxf := fun o => HXz.out.fz o
                  have hwc0 := HXz.out.c0
                  have hwc1 := HXz.out.c1
                  have hxl := HXz.out.lt
                  obtain ⟨V, hV⟩ : ∃ V, ((w9.setCell ⟨bw, 0, none⟩ (.int .i64 (leftX l1 1))).setCell ⟨bw, 1, none⟩ (.int .i64 (n - leftX l1 1))) = V := ⟨_, rfl⟩
                  have HMV : Hid (Mt V B1 n (leftX l1 1)) := Lib.hid (by rw [← hV]; exact (HMz.out.far (by show B1 ≠ bw; have := HNE.out; omega) _).far (by show B1 ≠ bw; have := HNE.out; omega) _)
                  have HXV : Hid (Bx 34 V bw (leftX l1 1) (n - leftX l1 1)) := Lib.hid (by rw [← hV]; exact HXz.out.set _ _)
                  have HBV : Hid (Below B1 w V) := Lib.hid (by rw [← hV]; exact (HBz.out.setCell (by show B1 ≤ bw; have := HNE.out; omega) _).setCell (by show B1 ≤ bw; have := HNE.out; omega) _)
                  have HV := Lib.hid hV
                  clear hV
                  have v0 := HXV.out.c0
                  have v1 := HXV.out.c1
                  have hsum : leftX l1 1 + (n - (leftX l1 1)) = n := by omega
                  have hwn : IntKind.i64.wrap n = n := IntWalk.i64_in _ (by have := HN.out; omega)
                  have hwn2 : wrap64 n = n := IntWalk.wrap64_in _ (by have := HN.out; omega)
                  have hnn : n - (leftX l1 1) = n - (leftX l1 1) := rfl
                  obtain ⟨U, hU⟩ : ∃ U, n - (leftX l1 1) = U := ⟨_, rfl⟩
                  obtain ⟨X, hX⟩ : ∃ X, leftX l1 1 = X := ⟨_, rfl⟩
                  rw [hU] at hsum
                  rw [hX] at hsum
                  have HLX : Hid (0 ≤ X ∧ X ≤ n) := Lib.hid (by rw [← hX]; exact HLz.out)
                  have HLQ : Hid (∀ m, Calls Try.prog 15 #[.pointer (some ⟨B1, 0, none⟩)] (V.drewN m) fun e w' => e = .returned (.int .i64 X) ∧ ∃ m, w' = V.drewN m) := Lib.hid (fun m => by
                    have h := left_quiet HMV.out (by have := HLz.out; have := HN.out; omega) m
                    rw [hX] at h; exact h)
                  have HUQ : Hid (∀ m, Calls Try.prog 16 #[.pointer (some ⟨B1, 0, none⟩)] (V.drewN m) fun e w' => e = .returned (.int .i64 U) ∧ ∃ m, w' = V.drewN m) := Lib.hid (fun m => by
                    have h := used_quiet HMV.out (by have := HLz.out; have := HN.out; omega) m
                    rw [hU] at h; exact h)
                  have HU := Lib.hid hU
                  have HXX := Lib.hid hX
                  rw [hU] at v1
                  rw [hX] at v0
                  clear hnn hU hX
                  go_upto_region 16 with fail
                  rw [HV.out]
                  go_quiet (first
                    | (go_at_call 15; exact HLQ.out _)
                    | (go_at_call 16; exact HUQ.out _))
                  go_wp2_with fail
                  go_roundw
                  case rel => exact ⟨k + 1, leftX l1 1, by omega, by go_num, HLz, Lib.hid (HMV.out.drewN _), Lib.hid (HXV.out.drewN _), Lib.hid (below_drewM HBV.out _)⟩
                  case measure => simp [intOf]; omega

              · clear hz1
                have hx0 := HWz.out.c0
                have hx1 := HWz.out.c1
                have hxf := fun o => HXz.out.fz o
                have hwc0 := HXz.out.c0
                have hwc1 := HXz.out.c1
                have hxl := HXz.out.lt
                obtain ⟨V, hV⟩ : ∃ V, ((w6.setCell ⟨bw, 0, none⟩ (.int .i64 (leftX l z))).setCell ⟨bw, 1, none⟩ (.int .i64 (n - leftX l z))) = V := ⟨_, rfl⟩
                have HMV : Hid (Mt V B1 n (leftX l z)) := Lib.hid (by rw [← hV]; exact (HMz.out.far (by show B1 ≠ bw; have := HNE.out; omega) _).far (by show B1 ≠ bw; have := HNE.out; omega) _)
                have HXV : Hid (Bx 34 V bw (leftX l z) (n - leftX l z)) := Lib.hid (by rw [← hV]; exact HXz.out.set _ _)
                have HBV : Hid (Below B1 w V) := Lib.hid (by rw [← hV]; exact (HBz.out.setCell (by show B1 ≤ bw; have := HNE.out; omega) _).setCell (by show B1 ≤ bw; have := HNE.out; omega) _)
                have HV := Lib.hid hV
                clear hV
                have v0 := HXV.out.c0
                have v1 := HXV.out.c1
                have hsum : leftX l z + (n - (leftX l z)) = n := by omega
                have hwn : IntKind.i64.wrap n = n := IntWalk.i64_in _ (by have := HN.out; omega)
                have hwn2 : wrap64 n = n := IntWalk.wrap64_in _ (by have := HN.out; omega)
                have hnn : n - (leftX l z) = n - (leftX l z) := rfl
                obtain ⟨U, hU⟩ : ∃ U, n - (leftX l z) = U := ⟨_, rfl⟩
                obtain ⟨X, hX⟩ : ∃ X, leftX l z = X := ⟨_, rfl⟩
                rw [hU] at hsum
                rw [hX] at hsum
                have HLX : Hid (0 ≤ X ∧ X ≤ n) := Lib.hid (by rw [← hX]; exact HLz.out)
                have HLQ : Hid (∀ m, Calls Try.prog 15 #[.pointer (some ⟨B1, 0, none⟩)] (V.drewN m) fun e w' => e = .returned (.int .i64 X) ∧ ∃ m, w' = V.drewN m) := Lib.hid (fun m => by
                  have h := left_quiet HMV.out (by have := HLz.out; have := HN.out; omega) m
                  rw [hX] at h; exact h)
                have HUQ : Hid (∀ m, Calls Try.prog 16 #[.pointer (some ⟨B1, 0, none⟩)] (V.drewN m) fun e w' => e = .returned (.int .i64 U) ∧ ∃ m, w' = V.drewN m) := Lib.hid (fun m => by
                  have h := used_quiet HMV.out (by have := HLz.out; have := HN.out; omega) m
                  rw [hU] at h; exact h)
                have HU := Lib.hid hU
                have HXX := Lib.hid hX
                rw [hU] at v1
                rw [hX] at v0
                clear hnn hU hX
                go_upto_region 16 with fail
                rw [HV.out]
                go_quiet (first
                  | (go_at_call 15; exact HLQ.out _)
                  | (go_at_call 16; exact HUQ.out _))
                go_wp2_with fail
                go_roundw
                case rel => exact ⟨k + 1, leftX l z, by omega, by go_num, HLz, Lib.hid (HMV.out.drewN _), Lib.hid (HXV.out.drewN _), Lib.hid (below_drewM HBV.out _)⟩
                case measure => simp [intOf]; omega

            · have hzt : (z == 1) = false := by simpa using hz1
              clear hz1
              have hx0 := HWz.out.c0
              have hx1 := HWz.out.c1
              have hxf := fun o => HXz.out.fz o
              have hwc0 := HXz.out.c0
              have hwc1 := HXz.out.c1
              have hxl := HXz.out.lt
              obtain ⟨V, hV⟩ : ∃ V, ((w6.setCell ⟨bw, 0, none⟩ (.int .i64 (leftX l z))).setCell ⟨bw, 1, none⟩ (.int .i64 (n - leftX l z))) = V := ⟨_, rfl⟩
              have HMV : Hid (Mt V B1 n (leftX l z)) := Lib.hid (by rw [← hV]; exact (HMz.out.far (by show B1 ≠ bw; have := HNE.out; omega) _).far (by show B1 ≠ bw; have := HNE.out; omega) _)
              have HXV : Hid (Bx 34 V bw (leftX l z) (n - leftX l z)) := Lib.hid (by rw [← hV]; exact HXz.out.set _ _)
              have HBV : Hid (Below B1 w V) := Lib.hid (by rw [← hV]; exact (HBz.out.setCell (by show B1 ≤ bw; have := HNE.out; omega) _).setCell (by show B1 ≤ bw; have := HNE.out; omega) _)
              have HV := Lib.hid hV
              clear hV
              have v0 := HXV.out.c0
              have v1 := HXV.out.c1
              have hsum : leftX l z + (n - (leftX l z)) = n := by omega
              have hwn : IntKind.i64.wrap n = n := IntWalk.i64_in _ (by have := HN.out; omega)
              have hwn2 : wrap64 n = n := IntWalk.wrap64_in _ (by have := HN.out; omega)
              have hnn : n - (leftX l z) = n - (leftX l z) := rfl
              obtain ⟨U, hU⟩ : ∃ U, n - (leftX l z) = U := ⟨_, rfl⟩
              obtain ⟨X, hX⟩ : ∃ X, leftX l z = X := ⟨_, rfl⟩
              rw [hU] at hsum
              rw [hX] at hsum
              have HLX : Hid (0 ≤ X ∧ X ≤ n) := Lib.hid (by rw [← hX]; exact HLz.out)
              have HLQ : Hid (∀ m, Calls Try.prog 15 #[.pointer (some ⟨B1, 0, none⟩)] (V.drewN m) fun e w' => e = .returned (.int .i64 X) ∧ ∃ m, w' = V.drewN m) := Lib.hid (fun m => by
                have h := left_quiet HMV.out (by have := HLz.out; have := HN.out; omega) m
                rw [hX] at h; exact h)
              have HUQ : Hid (∀ m, Calls Try.prog 16 #[.pointer (some ⟨B1, 0, none⟩)] (V.drewN m) fun e w' => e = .returned (.int .i64 U) ∧ ∃ m, w' = V.drewN m) := Lib.hid (fun m => by
                have h := used_quiet HMV.out (by have := HLz.out; have := HN.out; omega) m
                rw [hU] at h; exact h)
              have HU := Lib.hid hU
              have HXX := Lib.hid hX
              rw [hU] at v1
              rw [hX] at v0
              clear hnn hU hX
              go_upto_region 16 with fail
              rw [HV.out]
              go_quiet (first
                | (go_at_call 15; exact HLQ.out _)
                | (go_at_call 16; exact HUQ.out _))
              go_wp2_with fail
              go_roundw
              case rel => exact ⟨k + 1, leftX l z, by omega, by go_num, HLz, Lib.hid (HMV.out.drewN _), Lib.hid (HXV.out.drewN _), Lib.hid (below_drewM HBV.out _)⟩
              case measure => simp [intOf]; omega


          | false =>
            have HFE : Hid (fuelE l z = 8) := Lib.hid (by simp [fuelE, hE])
            go_wp2_with fail
            refine (spend_up HM2.out z HZ.out (by have := HL.out; have := HN.out; omega)).mono ?_; rintro e w6 ⟨rfl, hm6, hu6⟩
            rw [HFE.out]
            have HMz := Lib.hid hm6
            have HXz := Lib.hid (HX2.out.up hu6 (by have := HNE.out; omega))
            have HWz := Lib.hid (HW2.out.up hu6 HNX.out.1)
            have HBz := Lib.hid (HB2.out.trans (hu6.below (Nat.le_refl _) (by have := HM2.out.lt; omega)))
            have HLz := Lib.hid (leftX_in z HL.out)
            have hcw3 := HKZ.out _ HBz.out
            clear hm6 hu6
            by_cases hz1 : z = 1
            · have hzt : (z == 1) = true := by simpa using hz1
              rcases (show (k : Int).tmod 2 = 0 ∨ (k : Int).tmod 2 = 1 by rw [Int.tmod_eq_emod_of_nonneg (a := (k : Int)) (Int.natCast_nonneg k)]; omega) with hm | hm
              · subst hz1
                have hx0 := HWz.out.c0
                have hx1 := HWz.out.c1
                have hxf := fun o => HWz.out.fz o
                have hxl := HWz.out.lt
                obtain ⟨l1, hl1⟩ : ∃ l1, leftX l 1 = l1 := ⟨_, rfl⟩
                rw [hl1] at hx0 hx1
                have HMz := Lib.hid (show Mt w6 B1 n l1 from hl1 ▸ HMz.out)
                have HWz := Lib.hid (show Bx 34 w6 bx l1 (n - l1) from hl1 ▸ HWz.out)
                have HLz := Lib.hid (show 0 ≤ l1 ∧ l1 ≤ n from hl1 ▸ HLz.out)
                have HR1 : Hid (∀ V, Calls Try.prog 12 #[.agg #[.int .i64 l1, .int .i64 (n - l1)], .int .i64 1] V fun e w' =>
                    e = .returned (.tuple #[.agg #[.int .i64 (leftX l1 1), .int .i64 (n - leftX l1 1)], .bool (enough l1 1)]) ∧ Below V.heap.size V w') := Lib.hid (fun V => by
                  have h := refSpend_any l1 (n - l1) 1 (by have := HLz.out; have := HN.out; omega) (by have := HLz.out; have := HN.out; omega) V
                  rw [usedX] at h
                  exact h)
                clear hl1
                cases hE2 : enough l1 1 with
                | true =>
                  have HFE2 : Hid (fuelE l1 1 = 0) := Lib.hid (by simp [fuelE, hE2])
                  have HR1 := Lib.hid (show ∀ V, Calls Try.prog 12 #[.agg #[.int .i64 l1, .int .i64 (n - l1)], .int .i64 1] V fun e w' =>
                        e = .returned (.tuple #[.agg #[.int .i64 (leftX l1 1), .int .i64 (n - leftX l1 1)], .bool true]) ∧ Below V.heap.size V w' from hE2 ▸ HR1.out)
                  clear hE2
                  go_wp2_with fail
                  refine (HR1.out _).mono ?_; rintro e w7 ⟨rfl, hb7⟩
                  have HM7 := Lib.hid (HMz.out.over hb7)
                  have HX7 := Lib.hid (HXz.out.over hb7)
                  have HW7 := Lib.hid (HWz.out.over hb7)
                  have HB7 := Lib.hid (HBz.out.trans (hb7.mono (by have := HMz.out.lt; omega)))
                  have hy0 := HW7.out.c0
                  have hy1 := HW7.out.c1
                  have hyf := fun o => HW7.out.fz o
                  have hyl := HW7.out.lt
                  clear hb7
                  obtain ⟨W8, hW8⟩ : ∃ W8, ((w7.setCell ⟨bx, 0, none⟩ (.int .i64 (leftX l1 1))).setCell ⟨bx, 1, none⟩ (.int .i64 (n - leftX l1 1))) = W8 := ⟨_, rfl⟩
                  have HM8 : Hid (Mt W8 B1 n l1) := Lib.hid (by rw [← hW8]; exact (HM7.out.far (by show B1 ≠ bx; have := HNX.out; omega) _).far (by show B1 ≠ bx; have := HNX.out; omega) _)
                  have HX8 : Hid (Bx 34 W8 bw l (n - l)) := Lib.hid (by rw [← hW8]; exact (HX7.out.far (by show bw ≠ bx; have := HNX.out; omega) _).far (by show bw ≠ bx; have := HNX.out; omega) _)
                  have HW8x : Hid (Bx 34 W8 bx (leftX l1 1) (n - leftX l1 1)) := Lib.hid (by rw [← hW8]; exact HW7.out.set _ _)
                  have HB8 : Hid (Below B1 w W8) := Lib.hid (by rw [← hW8]; exact (HB7.out.setCell (by show B1 ≤ bx; have := HNX.out; omega) _).setCell (by show B1 ≤ bx; have := HNX.out; omega) _)
                  have HW8 := Lib.hid hW8
                  clear hW8
                  go_upto_region 14 with fail
                  rw [HW8.out]
                  go_wp2_with fail
                  refine (step_up HM8.out (by have := HLz.out; have := HN.out; omega)).mono ?_; rintro e w9 ⟨rfl, hm9, hu9⟩
                  rw [HFE2.out]
                  have HMz := Lib.hid hm9
                  have HXz := Lib.hid (HX8.out.up hu9 (by have := HNE.out; omega))
                  have HWz := Lib.hid (HW8x.out.up hu9 HNX.out.1)
                  have HBz := Lib.hid (HB8.out.trans (hu9.below (Nat.le_refl _) (by have := HM8.out.lt; omega)))
                  have HLz := Lib.hid (leftX_in 1 HLz.out)
                  have hcw3 := HKZ.out _ HBz.out
                  clear hm9 hu9 hx0 hx1 hxf hxl hy0 hy1 hyf hyl
                  have hx0 := HWz.out.c0
                  have hx1 := HWz.out.c1
                  have hxf := fun o => HXz.out.fz o
                  have hwc0 := HXz.out.c0
                  have hwc1 := HXz.out.c1
                  have hxl := HXz.out.lt
                  obtain ⟨V, hV⟩ : ∃ V, ((w9.setCell ⟨bw, 0, none⟩ (.int .i64 (leftX l1 1))).setCell ⟨bw, 1, none⟩ (.int .i64 (n - leftX l1 1))) = V := ⟨_, rfl⟩
                  have HMV : Hid (Mt V B1 n (leftX l1 1)) := Lib.hid (by rw [← hV]; exact (HMz.out.far (by show B1 ≠ bw; have := HNE.out; omega) _).far (by show B1 ≠ bw; have := HNE.out; omega) _)
                  have HXV : Hid (Bx 34 V bw (leftX l1 1) (n - leftX l1 1)) := Lib.hid (by rw [← hV]; exact HXz.out.set _ _)
                  have HBV : Hid (Below B1 w V) := Lib.hid (by rw [← hV]; exact (HBz.out.setCell (by show B1 ≤ bw; have := HNE.out; omega) _).setCell (by show B1 ≤ bw; have := HNE.out; omega) _)
                  have HV := Lib.hid hV
                  clear hV
                  have v0 := HXV.out.c0
                  have v1 := HXV.out.c1
                  have hsum : leftX l1 1 + (n - (leftX l1 1)) = n := by omega
                  have hwn : IntKind.i64.wrap n = n := IntWalk.i64_in _ (by have := HN.out; omega)
                  have hwn2 : wrap64 n = n := IntWalk.wrap64_in _ (by have := HN.out; omega)
                  have hnn : n - (leftX l1 1) = n - (leftX l1 1) := rfl
                  obtain ⟨U, hU⟩ : ∃ U, n - (leftX l1 1) = U := ⟨_, rfl⟩
                  obtain ⟨X, hX⟩ : ∃ X, leftX l1 1 = X := ⟨_, rfl⟩
                  rw [hU] at hsum
                  rw [hX] at hsum
                  have HLX : Hid (0 ≤ X ∧ X ≤ n) := Lib.hid (by rw [← hX]; exact HLz.out)
                  have HLQ : Hid (∀ m, Calls Try.prog 15 #[.pointer (some ⟨B1, 0, none⟩)] (V.drewN m) fun e w' => e = .returned (.int .i64 X) ∧ ∃ m, w' = V.drewN m) := Lib.hid (fun m => by
                    have h := left_quiet HMV.out (by have := HLz.out; have := HN.out; omega) m
                    rw [hX] at h; exact h)
                  have HUQ : Hid (∀ m, Calls Try.prog 16 #[.pointer (some ⟨B1, 0, none⟩)] (V.drewN m) fun e w' => e = .returned (.int .i64 U) ∧ ∃ m, w' = V.drewN m) := Lib.hid (fun m => by
                    have h := used_quiet HMV.out (by have := HLz.out; have := HN.out; omega) m
                    rw [hU] at h; exact h)
                  have HU := Lib.hid hU
                  have HXX := Lib.hid hX
                  rw [hU] at v1
                  rw [hX] at v0
                  clear hnn hU hX
                  go_upto_region 16 with fail
                  rw [HV.out]
                  go_quiet (first
                    | (go_at_call 15; exact HLQ.out _)
                    | (go_at_call 16; exact HUQ.out _))
                  go_wp2_with fail
                  go_roundw
                  case rel => exact ⟨k + 1, leftX l1 1, by omega, by go_num, HLz, Lib.hid (HMV.out.drewN _), Lib.hid (HXV.out.drewN _), Lib.hid (below_drewM HBV.out _)⟩
                  case measure => simp [intOf]; omega

                | false =>
                  have HFE2 : Hid (fuelE l1 1 = 8) := Lib.hid (by simp [fuelE, hE2])
                  have HR1 := Lib.hid (show ∀ V, Calls Try.prog 12 #[.agg #[.int .i64 l1, .int .i64 (n - l1)], .int .i64 1] V fun e w' =>
                        e = .returned (.tuple #[.agg #[.int .i64 (leftX l1 1), .int .i64 (n - leftX l1 1)], .bool false]) ∧ Below V.heap.size V w' from hE2 ▸ HR1.out)
                  clear hE2
                  go_wp2_with fail
                  refine (HR1.out _).mono ?_; rintro e w7 ⟨rfl, hb7⟩
                  have HM7 := Lib.hid (HMz.out.over hb7)
                  have HX7 := Lib.hid (HXz.out.over hb7)
                  have HW7 := Lib.hid (HWz.out.over hb7)
                  have HB7 := Lib.hid (HBz.out.trans (hb7.mono (by have := HMz.out.lt; omega)))
                  have hy0 := HW7.out.c0
                  have hy1 := HW7.out.c1
                  have hyf := fun o => HW7.out.fz o
                  have hyl := HW7.out.lt
                  clear hb7
                  obtain ⟨W8, hW8⟩ : ∃ W8, ((w7.setCell ⟨bx, 0, none⟩ (.int .i64 (leftX l1 1))).setCell ⟨bx, 1, none⟩ (.int .i64 (n - leftX l1 1))) = W8 := ⟨_, rfl⟩
                  have HM8 : Hid (Mt W8 B1 n l1) := Lib.hid (by rw [← hW8]; exact (HM7.out.far (by show B1 ≠ bx; have := HNX.out; omega) _).far (by show B1 ≠ bx; have := HNX.out; omega) _)
                  have HX8 : Hid (Bx 34 W8 bw l (n - l)) := Lib.hid (by rw [← hW8]; exact (HX7.out.far (by show bw ≠ bx; have := HNX.out; omega) _).far (by show bw ≠ bx; have := HNX.out; omega) _)
                  have HW8x : Hid (Bx 34 W8 bx (leftX l1 1) (n - leftX l1 1)) := Lib.hid (by rw [← hW8]; exact HW7.out.set _ _)
                  have HB8 : Hid (Below B1 w W8) := Lib.hid (by rw [← hW8]; exact (HB7.out.setCell (by show B1 ≤ bx; have := HNX.out; omega) _).setCell (by show B1 ≤ bx; have := HNX.out; omega) _)
                  have HW8 := Lib.hid hW8
                  clear hW8
                  go_upto_region 14 with fail
                  rw [HW8.out]
                  go_wp2_with fail
                  refine (step_up HM8.out (by have := HLz.out; have := HN.out; omega)).mono ?_; rintro e w9 ⟨rfl, hm9, hu9⟩
                  rw [HFE2.out]
                  have HMz := Lib.hid hm9
                  have HXz := Lib.hid (HX8.out.up hu9 (by have := HNE.out; omega))
                  have HWz := Lib.hid (HW8x.out.up hu9 HNX.out.1)
                  have HBz := Lib.hid (HB8.out.trans (hu9.below (Nat.le_refl _) (by have := HM8.out.lt; omega)))
                  have HLz := Lib.hid (leftX_in 1 HLz.out)
                  have hcw3 := HKZ.out _ HBz.out
                  clear hm9 hu9 hx0 hx1 hxf hxl hy0 hy1 hyf hyl
                  have hx0 := HWz.out.c0
                  have hx1 := HWz.out.c1
                  have hxf := fun o => HXz.out.fz o
                  have hwc0 := HXz.out.c0
                  have hwc1 := HXz.out.c1
                  have hxl := HXz.out.lt
                  obtain ⟨V, hV⟩ : ∃ V, ((w9.setCell ⟨bw, 0, none⟩ (.int .i64 (leftX l1 1))).setCell ⟨bw, 1, none⟩ (.int .i64 (n - leftX l1 1))) = V := ⟨_, rfl⟩
                  have HMV : Hid (Mt V B1 n (leftX l1 1)) := Lib.hid (by rw [← hV]; exact (HMz.out.far (by show B1 ≠ bw; have := HNE.out; omega) _).far (by show B1 ≠ bw; have := HNE.out; omega) _)
                  have HXV : Hid (Bx 34 V bw (leftX l1 1) (n - leftX l1 1)) := Lib.hid (by rw [← hV]; exact HXz.out.set _ _)
                  have HBV : Hid (Below B1 w V) := Lib.hid (by rw [← hV]; exact (HBz.out.setCell (by show B1 ≤ bw; have := HNE.out; omega) _).setCell (by show B1 ≤ bw; have := HNE.out; omega) _)
                  have HV := Lib.hid hV
                  clear hV
                  have v0 := HXV.out.c0
                  have v1 := HXV.out.c1
                  have hsum : leftX l1 1 + (n - (leftX l1 1)) = n := by omega
                  have hwn : IntKind.i64.wrap n = n := IntWalk.i64_in _ (by have := HN.out; omega)
                  have hwn2 : wrap64 n = n := IntWalk.wrap64_in _ (by have := HN.out; omega)
                  have hnn : n - (leftX l1 1) = n - (leftX l1 1) := rfl
                  obtain ⟨U, hU⟩ : ∃ U, n - (leftX l1 1) = U := ⟨_, rfl⟩
                  obtain ⟨X, hX⟩ : ∃ X, leftX l1 1 = X := ⟨_, rfl⟩
                  rw [hU] at hsum
                  rw [hX] at hsum
                  have HLX : Hid (0 ≤ X ∧ X ≤ n) := Lib.hid (by rw [← hX]; exact HLz.out)
                  have HLQ : Hid (∀ m, Calls Try.prog 15 #[.pointer (some ⟨B1, 0, none⟩)] (V.drewN m) fun e w' => e = .returned (.int .i64 X) ∧ ∃ m, w' = V.drewN m) := Lib.hid (fun m => by
                    have h := left_quiet HMV.out (by have := HLz.out; have := HN.out; omega) m
                    rw [hX] at h; exact h)
                  have HUQ : Hid (∀ m, Calls Try.prog 16 #[.pointer (some ⟨B1, 0, none⟩)] (V.drewN m) fun e w' => e = .returned (.int .i64 U) ∧ ∃ m, w' = V.drewN m) := Lib.hid (fun m => by
                    have h := used_quiet HMV.out (by have := HLz.out; have := HN.out; omega) m
                    rw [hU] at h; exact h)
                  have HU := Lib.hid hU
                  have HXX := Lib.hid hX
                  rw [hU] at v1
                  rw [hX] at v0
                  clear hnn hU hX
                  go_upto_region 16 with fail
                  rw [HV.out]
                  go_quiet (first
                    | (go_at_call 15; exact HLQ.out _)
                    | (go_at_call 16; exact HUQ.out _))
                  go_wp2_with fail
                  go_roundw
                  case rel => exact ⟨k + 1, leftX l1 1, by omega, by go_num, HLz, Lib.hid (HMV.out.drewN _), Lib.hid (HXV.out.drewN _), Lib.hid (below_drewM HBV.out _)⟩
                  case measure => simp [intOf]; omega

              · clear hz1
                have hx0 := HWz.out.c0
                have hx1 := HWz.out.c1
                have hxf := fun o => HXz.out.fz o
                have hwc0 := HXz.out.c0
                have hwc1 := HXz.out.c1
                have hxl := HXz.out.lt
                obtain ⟨V, hV⟩ : ∃ V, ((w6.setCell ⟨bw, 0, none⟩ (.int .i64 (leftX l z))).setCell ⟨bw, 1, none⟩ (.int .i64 (n - leftX l z))) = V := ⟨_, rfl⟩
                have HMV : Hid (Mt V B1 n (leftX l z)) := Lib.hid (by rw [← hV]; exact (HMz.out.far (by show B1 ≠ bw; have := HNE.out; omega) _).far (by show B1 ≠ bw; have := HNE.out; omega) _)
                have HXV : Hid (Bx 34 V bw (leftX l z) (n - leftX l z)) := Lib.hid (by rw [← hV]; exact HXz.out.set _ _)
                have HBV : Hid (Below B1 w V) := Lib.hid (by rw [← hV]; exact (HBz.out.setCell (by show B1 ≤ bw; have := HNE.out; omega) _).setCell (by show B1 ≤ bw; have := HNE.out; omega) _)
                have HV := Lib.hid hV
                clear hV
                have v0 := HXV.out.c0
                have v1 := HXV.out.c1
                have hsum : leftX l z + (n - (leftX l z)) = n := by omega
                have hwn : IntKind.i64.wrap n = n := IntWalk.i64_in _ (by have := HN.out; omega)
                have hwn2 : wrap64 n = n := IntWalk.wrap64_in _ (by have := HN.out; omega)
                have hnn : n - (leftX l z) = n - (leftX l z) := rfl
                obtain ⟨U, hU⟩ : ∃ U, n - (leftX l z) = U := ⟨_, rfl⟩
                obtain ⟨X, hX⟩ : ∃ X, leftX l z = X := ⟨_, rfl⟩
                rw [hU] at hsum
                rw [hX] at hsum
                have HLX : Hid (0 ≤ X ∧ X ≤ n) := Lib.hid (by rw [← hX]; exact HLz.out)
                have HLQ : Hid (∀ m, Calls Try.prog 15 #[.pointer (some ⟨B1, 0, none⟩)] (V.drewN m) fun e w' => e = .returned (.int .i64 X) ∧ ∃ m, w' = V.drewN m) := Lib.hid (fun m => by
                  have h := left_quiet HMV.out (by have := HLz.out; have := HN.out; omega) m
                  rw [hX] at h; exact h)
                have HUQ : Hid (∀ m, Calls Try.prog 16 #[.pointer (some ⟨B1, 0, none⟩)] (V.drewN m) fun e w' => e = .returned (.int .i64 U) ∧ ∃ m, w' = V.drewN m) := Lib.hid (fun m => by
                  have h := used_quiet HMV.out (by have := HLz.out; have := HN.out; omega) m
                  rw [hU] at h; exact h)
                have HU := Lib.hid hU
                have HXX := Lib.hid hX
                rw [hU] at v1
                rw [hX] at v0
                clear hnn hU hX
                go_upto_region 16 with fail
                rw [HV.out]
                go_quiet (first
                  | (go_at_call 15; exact HLQ.out _)
                  | (go_at_call 16; exact HUQ.out _))
                go_wp2_with fail
                go_roundw
                case rel => exact ⟨k + 1, leftX l z, by omega, by go_num, HLz, Lib.hid (HMV.out.drewN _), Lib.hid (HXV.out.drewN _), Lib.hid (below_drewM HBV.out _)⟩
                case measure => simp [intOf]; omega

            · have hzt : (z == 1) = false := by simpa using hz1
              clear hz1
              have hx0 := HWz.out.c0
              have hx1 := HWz.out.c1
              have hxf := fun o => HXz.out.fz o
              have hwc0 := HXz.out.c0
              have hwc1 := HXz.out.c1
              have hxl := HXz.out.lt
              obtain ⟨V, hV⟩ : ∃ V, ((w6.setCell ⟨bw, 0, none⟩ (.int .i64 (leftX l z))).setCell ⟨bw, 1, none⟩ (.int .i64 (n - leftX l z))) = V := ⟨_, rfl⟩
              have HMV : Hid (Mt V B1 n (leftX l z)) := Lib.hid (by rw [← hV]; exact (HMz.out.far (by show B1 ≠ bw; have := HNE.out; omega) _).far (by show B1 ≠ bw; have := HNE.out; omega) _)
              have HXV : Hid (Bx 34 V bw (leftX l z) (n - leftX l z)) := Lib.hid (by rw [← hV]; exact HXz.out.set _ _)
              have HBV : Hid (Below B1 w V) := Lib.hid (by rw [← hV]; exact (HBz.out.setCell (by show B1 ≤ bw; have := HNE.out; omega) _).setCell (by show B1 ≤ bw; have := HNE.out; omega) _)
              have HV := Lib.hid hV
              clear hV
              have v0 := HXV.out.c0
              have v1 := HXV.out.c1
              have hsum : leftX l z + (n - (leftX l z)) = n := by omega
              have hwn : IntKind.i64.wrap n = n := IntWalk.i64_in _ (by have := HN.out; omega)
              have hwn2 : wrap64 n = n := IntWalk.wrap64_in _ (by have := HN.out; omega)
              have hnn : n - (leftX l z) = n - (leftX l z) := rfl
              obtain ⟨U, hU⟩ : ∃ U, n - (leftX l z) = U := ⟨_, rfl⟩
              obtain ⟨X, hX⟩ : ∃ X, leftX l z = X := ⟨_, rfl⟩
              rw [hU] at hsum
              rw [hX] at hsum
              have HLX : Hid (0 ≤ X ∧ X ≤ n) := Lib.hid (by rw [← hX]; exact HLz.out)
              have HLQ : Hid (∀ m, Calls Try.prog 15 #[.pointer (some ⟨B1, 0, none⟩)] (V.drewN m) fun e w' => e = .returned (.int .i64 X) ∧ ∃ m, w' = V.drewN m) := Lib.hid (fun m => by
                have h := left_quiet HMV.out (by have := HLz.out; have := HN.out; omega) m
                rw [hX] at h; exact h)
              have HUQ : Hid (∀ m, Calls Try.prog 16 #[.pointer (some ⟨B1, 0, none⟩)] (V.drewN m) fun e w' => e = .returned (.int .i64 U) ∧ ∃ m, w' = V.drewN m) := Lib.hid (fun m => by
                have h := used_quiet HMV.out (by have := HLz.out; have := HN.out; omega) m
                rw [hU] at h; exact h)
              have HU := Lib.hid hU
              have HXX := Lib.hid hX
              rw [hU] at v1
              rw [hX] at v0
              clear hnn hU hX
              go_upto_region 16 with fail
              rw [HV.out]
              go_quiet (first
                | (go_at_call 15; exact HLQ.out _)
                | (go_at_call 16; exact HUQ.out _))
              go_wp2_with fail
              go_roundw
              case rel => exact ⟨k + 1, leftX l z, by omega, by go_num, HLz, Lib.hid (HMV.out.drewN _), Lib.hid (HXV.out.drewN _), Lib.hid (below_drewM HBV.out _)⟩
              case measure => simp [intOf]; omega


      · have hi100 : ¬ (k : Int) < 100 := by omega
        have hil : (k : Int) < (len : Int) := by omega
        have hdd : decide ((k : Int) < 100) = false := decide_eq_false hi100
        clear hkl hk100
        go_wp2_with fail
        refine (awakeF_any _).mono ?_; rintro e wz ⟨rfl, hbz⟩
        have hbz := Lib.hid (HB.out.trans (hbz.mono (by have := HM.out.lt; omega)))
        go_wp2_with fail
        go_ret
        exact ⟨rfl, by rw [HB1.out]; exact hbz.out⟩
    · have hil : ¬ (k : Int) < (len : Int) := by omega
      have hdd : decide ((k : Int) < (len : Int)) = false := decide_eq_false hil
      clear hkl
      go_wp2_with fail
      refine (awakeF_any _).mono ?_; rintro e wz ⟨rfl, hbz⟩
      have hbz := Lib.hid (HB.out.trans (hbz.mono (by have := HM.out.lt; omega)))
      go_wp2_with fail
      go_ret
      exact ⟨rfl, by rw [HB1.out]; exact hbz.out⟩

theorem walk (n : Int) (A : Option Addr) (len cap : Nat) (z : List Int) (w : World) (hn : (Lit.int .i64 n).wf = true) (hz : IsRow .i64 w A len cap z) :
    Calls Try.prog 4 #[.int .i64 n, .slice A len cap] w fun e w' => e = .returned (.bool true) ∧ Below w.heap.size w w' := by
  by_cases h : n < 0 ∨ 1048576 < n
  · exact walk_no n A len cap w h
  · by_cases h0 : len = 0
    · subst h0
      exact walk_empty n A cap w (by omega) (by omega)
    · obtain ⟨b, off, xs, rfl, hx, hl, hc, hwf⟩ := row_open hz h0
      exact walk_row n b off len cap xs w (by omega) (by omega) (by unfold maxLen at hl; omega) hc hwf

set_option maxRecDepth 100000 in
theorem lifted (os : Os) (started : os.Started) (H : Type) (enc : TypeId × Value → H) :
    ReturnsInHanded {} Try.checked os 4 .any (Rows.meterSpendsSpec.pre6 enc Try.prog Try.f4 Rows.meterSpendsRow.domain false) (Rows.meterSpendsSpec.post enc Try.prog Try.f4 false true false false) := by
  refine returnsInHanded_of_change (C := Try.checked) own started (by kernel_rfl) Try.func4
    (ChangeSpec.witness6 (enc := enc) (C := Try.checked) false ⟨#[], #[.int .i64 0, .slice none 0 0], []⟩ 8 (by kernel_rfl) (by kernel_rfl) (by kernel_rfl) (by kernel_rfl)) ?_
  intro W base args ds gs before hval0 hW hcnd _
  have hval : ∀ (j : Nat) t v, Try.f4.params[j]? = some t → args[j]? = some v → Value.okWide Try.prog W .any base t v := hval0
  have hW' := hW
  obtain ⟨p, q, hA0, hV, rfl, hfz, hnd⟩ := hW
  have hA : DataW.TrodAll enc Try.prog W 0 (fun _ => true) true Try.f4.params.toList args.toList ds p := hA0
  rw [Try.params4] at hA hval
  obtain ⟨v0, vs0, d0, ds0, p0, q0, hargs, rfl, rfl, h0, r0⟩ := trodAll_cons hA
  obtain ⟨v1, vs1, d1, ds1, p1, q1, rfl, rfl, rfl, h1, r1⟩ := trodAll_cons r0
  obtain ⟨rfl, rfl, rfl⟩ := trodAll_nil r1
  obtain rfl : args = #[v0, v1] := by cases args; simp_all
  obtain ⟨rfl, rfl⟩ := trodVars_none hV
  obtain ⟨a0, rfl, rfl, rfl, w0⟩ := open_int Try.underlying3 (hval 0 3 v0 rfl rfl) h0
  obtain ⟨a1, len1, cap1, rfl⟩ := okWide_slice Try.underlying29 (hval 1 29 v1 rfl rfl)
  have k1 := h1
  have lt1 : ∀ x ∈ p1, x.block < W.heap.size := by obtain ⟨m, hm⟩ := k1; exact DataW.trod_lt m _ _ _ hm
  obtain ⟨z1, w1⟩ : ∃ zs, IsRow .i64 W a1 len1 cap1 zs := by
    obtain ⟨fuel, hf⟩ := h1
    rcases open_ints Try.underlying29 Try.underlying3 (by kernel_rfl) hf with ⟨hcs, _⟩ | ⟨x, l, c, zs, hcs, _, hl, hm, hz, _, hcell, hwz⟩
    · simp [Value.cells] at hcs
      obtain ⟨rfl, rfl, rfl⟩ := hcs
      exact ⟨[], .inl ⟨rfl, rfl, rfl, rfl⟩⟩
    · simp [Value.cells] at hcs
      obtain ⟨rfl, rfl, rfl⟩ := hcs
      exact ⟨zs, .inr ⟨_, rfl, hl, hm, by simpa using hz, hcell, hwz⟩⟩
  clear hA0 hval0
  refine (walk a0 a1 len1 cap1 z1 W w0 w1).mono fun e W' ⟨he, bel⟩ => ?_
  subst he
  exact ⟨_, rfl, _, _, _, [], _, [], hW', trodAll_mk1 (shut_bool Try.underlying4 _), (trodAll_cons_mk (shut_int Try.underlying3 w0) (trodAll_cons_mk (Below.trod laidOut (by kernel_rfl) (of_decide_eq_true (by kernel_rfl)) k1 bel lt1) trodAll_mk0)), rfl, bel.frame _, fun h => by cases h⟩

theorem over : Rows.meterSpendsRow.holds Try.pinned (OpenSpec.ofChange Rows.meterSpendsSpec) :=
  OpenClaim.holds_of_wide 4 Try.f4 rfl rfl rfl rfl rfl rfl rfl ⟨rfl, rfl, rfl, rfl, rfl⟩ rfl rfl rfl rfl rfl (by kernel_rfl) Try.func4 (by kernel_rfl)
    (of_decide_eq_true (by kernel_rfl)) (by unfold Func.isWrapper; first | (rw [if_pos (by decide +kernel)]; kernel_rfl) | (rw [if_neg (by decide +kernel)]; exact ⟨rfl, rfl⟩))
    (fun os started H enc _ => lifted os started H enc)

/-- The statement. -/
theorem card_holds : Rows.MeterSpendsSaid := over
#print axioms card_holds
end Go.Proofs.Ytlolonhknfimeaa.meterSpends
