/- The law MeterForks answers true, for every number of 16 bits and every two ints. No condition beyond the row's own. -/
import Derived.Test.YtlolonhknfimeaaMetC
import Derived.OpenShut
import Derived.ShutString
import Derived.ChangeOld
import Derived.Below
namespace Go.Proofs.Ytlolonhknfimeaa.meterForks
open Go.ChangeShapes Go.WideShapes Go.ChangeAt Go.RowKit
open Go.ChangeMaps (open_string shut_string)
set_option linter.unusedVariables false

theorem own : ownKnob Try.prog.godebug = none := by kernel_rfl
theorem laidOut : laidOutB Try.prog = true := by kernel_rfl

theorem walk_no (a n k : Int) (w : World) (ha : 0 ≤ a ∧ a ≤ 65535) (hn : n < 0 ∨ a < n) :
    Calls Try.prog 5 #[.int .u16 a, .int .i64 n, .int .i64 k] w fun e w' => e = .returned (.bool true) ∧ Below w.heap.size w w' := by
  have hwa : IntKind.i64.wrap a = a := IntWalk.i64_in _ (by omega)
  have HA := Lib.hid ha; have HN := Lib.hid hn
  have N1 := Lib.hid (new_ok a (by omega) (by omega) w)
  by_cases h0 : n < 0
  · clear ha hn
    go_enter Try.func5, Try.ntmps5
    go_wp2_with fail
    refine N1.out.mono ?_; rintro e w1 ⟨rfl, hm1, hb1⟩
    obtain ⟨B1, hB1⟩ : ∃ B1, w.heap.size = B1 := ⟨_, rfl⟩
    rw [hB1] at hm1 hb1 ⊢
    have hm1 := Lib.hid hm1; have hb1 := Lib.hid hb1; have HB1 := Lib.hid hB1
    clear hB1
    go_wp2_with fail
    refine (fork_no hm1.out (by have := HA.out; omega) n HN.out).mono ?_; rintro e w2 ⟨rfl, rfl⟩
    go_wp2_with fail
    refine (take_none _ (.inr ⟨_, rfl⟩)).mono ?_; rintro e w3 ⟨rfl, rfl⟩
    go_wp2_with fail
    refine (left_any hm1.out (by have := HA.out; omega)).mono ?_; rintro e w4 ⟨rfl, rfl⟩
    go_wp2_with fail
    refine (awakeF_any _).mono ?_; rintro e wz ⟨rfl, hbz⟩
    have hbz := Lib.hid (hb1.out.trans (hbz.mono (by have := hm1.out.lt; omega)))
    go_wp2_with fail
    go_ret
    exact ⟨rfl, by rw [HB1.out]; exact hbz.out⟩
  · have h1 : a < n := by omega
    clear ha hn
    go_enter Try.func5, Try.ntmps5
    go_wp2_with fail
    refine N1.out.mono ?_; rintro e w1 ⟨rfl, hm1, hb1⟩
    obtain ⟨B1, hB1⟩ : ∃ B1, w.heap.size = B1 := ⟨_, rfl⟩
    rw [hB1] at hm1 hb1 ⊢
    have hm1 := Lib.hid hm1; have hb1 := Lib.hid hb1; have HB1 := Lib.hid hB1
    clear hB1
    go_wp2_with fail
    refine (fork_no hm1.out (by have := HA.out; omega) n HN.out).mono ?_; rintro e w2 ⟨rfl, rfl⟩
    go_wp2_with fail
    refine (take_none _ (.inr ⟨_, rfl⟩)).mono ?_; rintro e w3 ⟨rfl, rfl⟩
    go_wp2_with fail
    refine (left_any hm1.out (by have := HA.out; omega)).mono ?_; rintro e w4 ⟨rfl, rfl⟩
    go_wp2_with fail
    refine (awakeF_any _).mono ?_; rintro e wz ⟨rfl, hbz⟩
    have hbz := Lib.hid (hb1.out.trans (hbz.mono (by have := hm1.out.lt; omega)))
    go_wp2_with fail
    go_ret
    exact ⟨rfl, by rw [HB1.out]; exact hbz.out⟩

set_option maxHeartbeats 1600000 in
theorem walk_ok (a n k : Int) (w : World) (ha : 0 ≤ a ∧ a ≤ 65535) (h0 : ¬ n < 0) (h1 : ¬ a < n) (hk : (Lit.int .i64 k).wf = true) :
    Calls Try.prog 5 #[.int .u16 a, .int .i64 n, .int .i64 k] w fun e w' => e = .returned (.bool true) ∧ Below w.heap.size w w' := by
  have hwa : IntKind.i64.wrap a = a := IntWalk.i64_in _ (by omega)
  have HA := Lib.hid ha; have HN : Hid (0 ≤ n ∧ n ≤ a) := Lib.hid ⟨by omega, by omega⟩; have HK := Lib.hid hk
  have N1 := Lib.hid (new_ok a (by omega) (by omega) w)
  have HF : Hid (∀ {w : World} {b : Nat} {l : Int}, Mt w b a a → Calls Try.prog 17 #[.pointer (some ⟨b, 0, none⟩), .int .i64 n] w fun e w' =>
    e = .returned (.tuple #[.pointer (some ⟨w.heap.size, 0, none⟩), .int .i64 0]) ∧ Mt w' w.heap.size n n ∧ Below w.heap.size w w') := Lib.hid (fun h => fork_ok h (by omega) n h0 h1)
  have hwx : ∀ x : Int, 0 ≤ x ∧ x ≤ a → wrap64 (a - x) = a - x := fun x hx => IntWalk.wrap64_in _ (by omega)
  cases hE : enough n k with
  | false =>
    have HE : Hid (fuelE n k = 8) := Lib.hid (by simp [fuelE, hE])
    have HL : Hid (leftX n k = n) := Lib.hid (by simp [leftX, hE])
    have HT : Hid (fuelE a (n - n) = 0 ∧ leftX a (n - n) = a) := Lib.hid (by
      have : n - n = 0 := by omega
      rw [this]
      simp [fuelE, leftX, enough_yes (Int.le_refl 0) ha.1])
    have hw0 : wrap64 (a - 0) = a - 0 := hwx 0 (by omega)
    have hw1 : wrap64 (a - 0) = a := by rw [hw0]; omega
    have hw2 : wrap64 a = a := IntWalk.wrap64_in _ (by omega)
    clear hw0 hwx hE
    clear ha hk
    go_enter Try.func5, Try.ntmps5
    go_wp2_with fail
    refine N1.out.mono ?_; rintro e w1 ⟨rfl, hm1, hb1⟩
    obtain ⟨B1, hB1⟩ : ∃ B1, w.heap.size = B1 := ⟨_, rfl⟩
    rw [hB1] at hm1 hb1 ⊢
    have hm1 := Lib.hid hm1; have hb1 := Lib.hid hb1; have HB1 := Lib.hid hB1
    clear hB1
    go_wp2_with fail
    refine (HF.out (l := 0) hm1.out).mono ?_; rintro e w2 ⟨rfl, hm2, hb2⟩
    obtain ⟨B2, hB2⟩ : ∃ B2, w1.heap.size = B2 := ⟨_, rfl⟩
    have hlt1 : B1 < B2 := by rw [← hB2]; exact hm1.out.lt
    have hm1 := Lib.hid (hm1.out.over hb2)
    rw [hB2] at hm2 hb2 ⊢
    have hm2 := Lib.hid hm2; have hb2 := Lib.hid (hb1.out.trans (hb2.mono (by omega)))
    have HLT := Lib.hid hlt1
    clear hB2 hlt1 hb1
    go_wp2_with fail
    refine (left_any hm2.out (by have := HA.out; have := HN.out; omega)).mono ?_; rintro e w3 ⟨rfl, rfl⟩
    go_wp2_with fail
    refine (used_any hm2.out (by have := HA.out; have := HN.out; omega)).mono ?_; rintro e w4 ⟨rfl, hb4⟩
    rw [show n - n = 0 by omega]
    have hm1 := Lib.hid (hm1.out.over hb4)
    have hb2 := Lib.hid (hb2.out.trans (hb4.mono (by have := HLT.out; have := hm2.out.lt; omega)))
    have hm2 := Lib.hid (hm2.out.over hb4)
    clear hb4
    go_wp2_with fail
    refine (left_any hm1.out (by have := HA.out; omega)).mono ?_; rintro e w5 ⟨rfl, rfl⟩
    go_wp2_with fail
    refine (spend_up hm2.out k HK.out (by have := HA.out; have := HN.out; omega)).mono ?_; rintro e w6 ⟨rfl, hm3, hu3⟩
    rw [HE.out]
    rw [HL.out] at hm3
    have hm1 := Lib.hid (hm1.out.up hu3 (by have := HLT.out; omega))
    have hb3 := Lib.hid (hb2.out.trans (hu3.below (B := B1) (by have := HLT.out; omega) (by have := HLT.out; have := hm2.out.lt; omega)))
    have hm3 := Lib.hid hm3
    clear hu3 hb2
    go_wp2_with fail
    refine (take_up hm1.out (by have := HA.out; omega) hm3.out (by have := HA.out; have := HN.out; omega)).mono ?_; rintro e w7 ⟨rfl, hm4, hu4⟩
    rw [HT.out.1]
    rw [HT.out.2] at hm4
    have hb4 := Lib.hid (hb3.out.trans (hu4.below (B := B1) (by omega) (by have := hm1.out.lt; omega)))
    have hm4 := Lib.hid hm4
    clear hu4 hb3
    go_wp2_with fail
    refine (used_any hm4.out (by have := HA.out; omega)).mono ?_; rintro e w8 ⟨rfl, hb8⟩
    rw [show a - a = 0 by omega]
    have hb4 := Lib.hid (hb4.out.trans (hb8.mono (by have := hm4.out.lt; omega)))
    have hm4 := Lib.hid (hm4.out.over hb8)
    clear hb8
    go_wp2_with fail
    refine (left_any hm4.out (by have := HA.out; omega)).mono ?_; rintro e w9 ⟨rfl, rfl⟩
    go_wp2_with fail
    refine (awakeF_any _).mono ?_; rintro e wz ⟨rfl, hbz⟩
    have hbz := Lib.hid (hb4.out.trans (hbz.mono (by have := hm4.out.lt; omega)))
    go_wp2_with fail
    go_ret
    exact ⟨rfl, by rw [HB1.out]; exact hbz.out⟩
  | true =>
    have hkn : 0 ≤ k ∧ k ≤ n := by simpa [enough] using hE
    have HE : Hid (fuelE n k = 0) := Lib.hid (by simp [fuelE, hE])
    have HL : Hid (leftX n k = n - k) := Lib.hid (by simp [leftX, hE])
    have HT : Hid (fuelE a (n - (n - k)) = 0 ∧ leftX a (n - (n - k)) = a - k) := Lib.hid (by
      have : n - (n - k) = k := by omega
      rw [this]
      simp [fuelE, leftX, enough_yes hkn.1 (show k ≤ a by omega)])
    have hw0 : wrap64 (a - k) = a - k := hwx k (by omega)
    have HKN := Lib.hid hkn
    clear hwx hE hkn
    clear ha hk
    go_enter Try.func5, Try.ntmps5
    go_wp2_with fail
    refine N1.out.mono ?_; rintro e w1 ⟨rfl, hm1, hb1⟩
    obtain ⟨B1, hB1⟩ : ∃ B1, w.heap.size = B1 := ⟨_, rfl⟩
    rw [hB1] at hm1 hb1 ⊢
    have hm1 := Lib.hid hm1; have hb1 := Lib.hid hb1; have HB1 := Lib.hid hB1
    clear hB1
    go_wp2_with fail
    refine (HF.out (l := 0) hm1.out).mono ?_; rintro e w2 ⟨rfl, hm2, hb2⟩
    obtain ⟨B2, hB2⟩ : ∃ B2, w1.heap.size = B2 := ⟨_, rfl⟩
    have hlt1 : B1 < B2 := by rw [← hB2]; exact hm1.out.lt
    have hm1 := Lib.hid (hm1.out.over hb2)
    rw [hB2] at hm2 hb2 ⊢
    have hm2 := Lib.hid hm2; have hb2 := Lib.hid (hb1.out.trans (hb2.mono (by omega)))
    have HLT := Lib.hid hlt1
    clear hB2 hlt1 hb1
    go_wp2_with fail
    refine (left_any hm2.out (by have := HA.out; have := HN.out; omega)).mono ?_; rintro e w3 ⟨rfl, rfl⟩
    go_wp2_with fail
    refine (used_any hm2.out (by have := HA.out; have := HN.out; omega)).mono ?_; rintro e w4 ⟨rfl, hb4⟩
    rw [show n - n = 0 by omega]
    have hm1 := Lib.hid (hm1.out.over hb4)
    have hb2 := Lib.hid (hb2.out.trans (hb4.mono (by have := HLT.out; have := hm2.out.lt; omega)))
    have hm2 := Lib.hid (hm2.out.over hb4)
    clear hb4
    go_wp2_with fail
    refine (left_any hm1.out (by have := HA.out; omega)).mono ?_; rintro e w5 ⟨rfl, rfl⟩
    go_wp2_with fail
    refine (spend_up hm2.out k HK.out (by have := HA.out; have := HN.out; omega)).mono ?_; rintro e w6 ⟨rfl, hm3, hu3⟩
    rw [HE.out]
    rw [HL.out] at hm3
    have hm1 := Lib.hid (hm1.out.up hu3 (by have := HLT.out; omega))
    have hb3 := Lib.hid (hb2.out.trans (hu3.below (B := B1) (by have := HLT.out; omega) (by have := HLT.out; have := hm2.out.lt; omega)))
    have hm3 := Lib.hid hm3
    clear hu3 hb2
    go_wp2_with fail
    refine (take_up hm1.out (by have := HA.out; omega) hm3.out (by have := HA.out; have := HN.out; have := HKN.out; omega)).mono ?_; rintro e w7 ⟨rfl, hm4, hu4⟩
    rw [HT.out.1]
    rw [HT.out.2] at hm4
    have hb4 := Lib.hid (hb3.out.trans (hu4.below (B := B1) (by omega) (by have := hm1.out.lt; omega)))
    have hm4 := Lib.hid hm4
    clear hu4 hb3
    go_wp2_with fail
    refine (used_any hm4.out (by have := HA.out; have := HN.out; have := HKN.out; omega)).mono ?_; rintro e w8 ⟨rfl, hb8⟩
    rw [show a - (a - k) = k by omega]
    have hb4 := Lib.hid (hb4.out.trans (hb8.mono (by have := hm4.out.lt; omega)))
    have hm4 := Lib.hid (hm4.out.over hb8)
    clear hb8
    go_wp2_with fail
    refine (left_any hm4.out (by have := HA.out; have := HN.out; have := HKN.out; omega)).mono ?_; rintro e w9 ⟨rfl, rfl⟩
    go_wp2_with fail
    refine (awakeF_any _).mono ?_; rintro e wz ⟨rfl, hbz⟩
    have hbz := Lib.hid (hb4.out.trans (hbz.mono (by have := hm4.out.lt; omega)))
    go_wp2_with fail
    go_ret
    exact ⟨rfl, by rw [HB1.out]; exact hbz.out⟩

theorem walk (a n k : Int) (w : World) (ha : (Lit.int .u16 a).wf = true) (hn : (Lit.int .i64 n).wf = true) (hk : (Lit.int .i64 k).wf = true) :
    Calls Try.prog 5 #[.int .u16 a, .int .i64 n, .int .i64 k] w fun e w' => e = .returned (.bool true) ∧ Below w.heap.size w w' := by
  have h1 : 0 ≤ a ∧ a ≤ 65535 := by simpa [Lit.wf, IntKind.min, IntKind.max, IntKind.signed, IntKind.bits] using ha
  by_cases h : n < 0 ∨ a < n
  · exact walk_no a n k w h1 h
  · exact walk_ok a n k w h1 (by omega) (by omega) hk

set_option maxRecDepth 100000 in
theorem lifted (os : Os) (started : os.Started) (H : Type) (enc : TypeId × Value → H) :
    ReturnsInHanded {} Try.checked os 5 .any (Rows.meterForksSpec.pre6 enc Try.prog Try.f5 Rows.meterForksRow.domain false) (Rows.meterForksSpec.post enc Try.prog Try.f5 false true false false) := by
  refine returnsInHanded_of_change (C := Try.checked) own started (by kernel_rfl) Try.func5
    (ChangeSpec.witness6 (enc := enc) (C := Try.checked) false ⟨#[], #[.int .u16 0, .int .i64 0, .int .i64 0], []⟩ 8 (by kernel_rfl) (by kernel_rfl) (by kernel_rfl) (by kernel_rfl)) ?_
  intro W base args ds gs before hval0 hW hcnd _
  have hval : ∀ (j : Nat) t v, Try.f5.params[j]? = some t → args[j]? = some v → Value.okWide Try.prog W .any base t v := hval0
  have hW' := hW
  obtain ⟨p, q, hA0, hV, rfl, hfz, hnd⟩ := hW
  have hA : DataW.TrodAll enc Try.prog W 0 (fun _ => true) true Try.f5.params.toList args.toList ds p := hA0
  rw [Try.params5] at hA hval
  obtain ⟨v0, vs0, d0, ds0, p0, q0, hargs, rfl, rfl, h0, r0⟩ := trodAll_cons hA
  obtain ⟨v1, vs1, d1, ds1, p1, q1, rfl, rfl, rfl, h1, r1⟩ := trodAll_cons r0
  obtain ⟨v2, vs2, d2, ds2, p2, q2, rfl, rfl, rfl, h2, r2⟩ := trodAll_cons r1
  obtain ⟨rfl, rfl, rfl⟩ := trodAll_nil r2
  obtain rfl : args = #[v0, v1, v2] := by cases args; simp_all
  obtain ⟨rfl, rfl⟩ := trodVars_none hV
  obtain ⟨a0, rfl, rfl, rfl, w0⟩ := open_int Try.underlying41 (hval 0 41 v0 rfl rfl) h0
  obtain ⟨a1, rfl, rfl, rfl, w1⟩ := open_int Try.underlying3 (hval 1 3 v1 rfl rfl) h1
  obtain ⟨a2, rfl, rfl, rfl, w2⟩ := open_int Try.underlying3 (hval 2 3 v2 rfl rfl) h2
  clear hA0 hval0
  refine (walk a0 a1 a2 W w0 w1 w2).mono fun e W' ⟨he, bel⟩ => ?_
  subst he
  exact ⟨_, rfl, _, _, _, [], _, [], hW', trodAll_mk1 (shut_bool Try.underlying4 _), (trodAll_cons_mk (shut_int Try.underlying41 w0) (trodAll_cons_mk (shut_int Try.underlying3 w1) (trodAll_cons_mk (shut_int Try.underlying3 w2) trodAll_mk0))), rfl, bel.frame _, fun h => by cases h⟩

theorem over : Rows.meterForksRow.holds Try.pinned (OpenSpec.ofChange Rows.meterForksSpec) :=
  OpenClaim.holds_of_wide 5 Try.f5 rfl rfl rfl rfl rfl rfl rfl ⟨rfl, rfl, rfl, rfl, rfl⟩ rfl rfl rfl rfl rfl (by kernel_rfl) Try.func5 (by kernel_rfl)
    (of_decide_eq_true (by kernel_rfl)) (by unfold Func.isWrapper; first | (rw [if_pos (by decide +kernel)]; kernel_rfl) | (rw [if_neg (by decide +kernel)]; exact ⟨rfl, rfl⟩))
    (fun os started H enc _ => lifted os started H enc)

/-- The statement. -/
theorem card_holds : Rows.MeterForksSaid := over
#print axioms card_holds
end Go.Proofs.Ytlolonhknfimeaa.meterForks
