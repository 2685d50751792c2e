/- The law MeterTakes answers true, for every two numbers of 16 bits. No condition beyond the row's own. -/
import Derived.Test.YtlolonhknfimeaaMetC
import Derived.OpenShut
import Derived.ShutString
import Derived.ChangeOld
import Derived.Below
namespace Go.Proofs.Ytlolonhknfimeaa.meterTakes
open Go.ChangeShapes Go.WideShapes Go.ChangeAt Go.RowKit
open Go.ChangeMaps (open_string shut_string)
set_option linter.unusedVariables false

theorem own : ownKnob Try.prog.godebug = none := by kernel_rfl
theorem laidOut : laidOutB Try.prog = true := by kernel_rfl
theorem walk_few (a b : Int) (w : World) (ha : 0 ≤ a ∧ a ≤ 65535) (hb : 0 ≤ b ∧ b ≤ 65535) (hab : a < b) :
    Calls Try.prog 6 #[.int .u16 a, .int .u16 b] w fun e w' => e = .returned (.bool true) ∧ Below w.heap.size w w' := by
  have hwa : IntKind.i64.wrap a = a := IntWalk.i64_in _ (by omega)
  have hwb : IntKind.i64.wrap b = b := IntWalk.i64_in _ (by omega)
  have hws : IntKind.i64.wrap (a - b) = a - b := IntWalk.i64_in _ (by omega)
  have hws2 : wrap64 (a - b) = a - b := IntWalk.wrap64_in _ (by omega)
  have HA := Lib.hid ha; have HB := Lib.hid hb; have HAB := Lib.hid hab
  have N1 := Lib.hid (new_ok a (by omega) (by omega) w)
  have N2 := Lib.hid (fun V => new_ok b (by omega) (by omega) V)
  have HE : Hid (fuelE b b = 0) := Lib.hid (by simp [fuelE, enough_yes hb.1 (Int.le_refl b)])
  have HL : Hid (leftX b b = 0) := Lib.hid (by simp [leftX, enough_yes hb.1 (Int.le_refl b)])
  have HWF : Hid ((Lit.int .i64 b).wf = true) := Lib.hid (WalkArith.wf_i64 (by omega))
  have HT : Hid (fuelE a (b - 0) = 8 ∧ leftX a (b - 0) = a) := Lib.hid (by
    have h0 : b - 0 = b := by omega
    rw [h0]
    simp [fuelE, leftX, enough_few hab])
  clear ha hb
  go_enter Try.func6, Try.ntmps6
  go_wp2_with fail
  refine N1.out.mono ?_; rintro e w1 ⟨rfl, hm1, hb1⟩
  obtain ⟨B1, hB1⟩ : ∃ B1, w.heap.size = B1 := ⟨_, rfl⟩
  rw [hB1] at hm1 hb1 ⊢
  have hm1 := Lib.hid hm1; have hb1 := Lib.hid hb1; have HB1 := Lib.hid hB1
  clear hB1
  go_wp2_with fail
  refine (N2.out _).mono ?_; rintro e w2 ⟨rfl, hm2, hb2⟩
  obtain ⟨B2, hB2⟩ : ∃ B2, w1.heap.size = B2 := ⟨_, rfl⟩
  have hlt1 : B1 < B2 := by rw [← hB2]; exact hm1.out.lt
  have hm1 := Lib.hid (hm1.out.over hb2)
  rw [hB2] at hm2 hb2 ⊢
  have hm2 := Lib.hid hm2; have hb2 := Lib.hid (hb1.out.trans (hb2.mono (by omega)))
  have HLT := Lib.hid hlt1
  clear hB2 hlt1 hb1
  go_wp2_with fail
  refine (spend_up hm2.out b HWF.out (by have := HB.out; omega)).mono ?_; rintro e w3 ⟨rfl, hm3, hu3⟩
  rw [HE.out]
  rw [HL.out] at hm3
  have hm1 := Lib.hid (hm1.out.up hu3 (by have := HLT.out; omega))
  have hb3 := Lib.hid (hb2.out.trans (hu3.below (B := B1) (by have := HLT.out; omega) (by have := HLT.out; have := hm2.out.lt; omega)))
  have hm3 := Lib.hid hm3
  clear hu3 hb2
  go_wp2_with fail
  refine (take_up hm1.out (by have := HA.out; omega) hm3.out (by have := HB.out; omega)).mono ?_; rintro e w4 ⟨rfl, hm4, hu4⟩
  rw [HT.out.1]
  rw [HT.out.2] at hm4
  have hb4 := Lib.hid (hb3.out.trans (hu4.below (B := B1) (by omega) (by have := hm1.out.lt; omega)))
  have hm4 := Lib.hid hm4
  clear hu4 hb3
  go_wp2_with fail
  refine (left_any hm4.out (by have := HA.out; have := HB.out; have := HAB.out; omega)).mono ?_; rintro e w5 ⟨rfl, rfl⟩
  go_wp2_with fail
  refine (used_any hm4.out (by have := HA.out; omega)).mono ?_; rintro e w6 ⟨rfl, hb6⟩
  rw [show a - a = 0 by omega]
  have hb4 := Lib.hid (hb4.out.trans (hb6.mono (by have := hm1.out.lt; have := hb4.out.size; have := hm4.out.lt; omega)))
  have hm4 := Lib.hid (hm4.out.over hb6)
  clear hb6
  go_wp2_with fail
  refine (awakeF_any _).mono ?_; rintro e wz ⟨rfl, hbz⟩
  have hbz := Lib.hid (hb4.out.trans (hbz.mono (by have := hm4.out.lt; have := hb4.out.size; omega)))
  go_wp2_with fail
  go_ret
  exact ⟨rfl, by rw [HB1.out]; exact hbz.out⟩

theorem walk_yes (a b : Int) (w : World) (ha : 0 ≤ a ∧ a ≤ 65535) (hb : 0 ≤ b ∧ b ≤ 65535) (hab : ¬ a < b) :
    Calls Try.prog 6 #[.int .u16 a, .int .u16 b] w fun e w' => e = .returned (.bool true) ∧ Below w.heap.size w w' := by
  have hwa : IntKind.i64.wrap a = a := IntWalk.i64_in _ (by omega)
  have hwb : IntKind.i64.wrap b = b := IntWalk.i64_in _ (by omega)
  have hws : IntKind.i64.wrap (a - b) = a - b := IntWalk.i64_in _ (by omega)
  have hws2 : wrap64 (a - b) = a - b := IntWalk.wrap64_in _ (by omega)
  have HA := Lib.hid ha; have HB := Lib.hid hb; have HAB := Lib.hid hab
  have N1 := Lib.hid (new_ok a (by omega) (by omega) w)
  have N2 := Lib.hid (fun V => new_ok b (by omega) (by omega) V)
  have HE : Hid (fuelE b b = 0) := Lib.hid (by simp [fuelE, enough_yes hb.1 (Int.le_refl b)])
  have HL : Hid (leftX b b = 0) := Lib.hid (by simp [leftX, enough_yes hb.1 (Int.le_refl b)])
  have HWF : Hid ((Lit.int .i64 b).wf = true) := Lib.hid (WalkArith.wf_i64 (by omega))
  have HT : Hid (fuelE a (b - 0) = 0 ∧ leftX a (b - 0) = a - b) := Lib.hid (by
    have h0 : b - 0 = b := by omega
    rw [h0]
    simp [fuelE, leftX, enough_yes hb.1 (show b ≤ a by omega)])
  clear ha hb
  go_enter Try.func6, Try.ntmps6
  go_wp2_with fail
  refine N1.out.mono ?_; rintro e w1 ⟨rfl, hm1, hb1⟩
  obtain ⟨B1, hB1⟩ : ∃ B1, w.heap.size = B1 := ⟨_, rfl⟩
  rw [hB1] at hm1 hb1 ⊢
  have hm1 := Lib.hid hm1; have hb1 := Lib.hid hb1; have HB1 := Lib.hid hB1
  clear hB1
  go_wp2_with fail
  refine (N2.out _).mono ?_; rintro e w2 ⟨rfl, hm2, hb2⟩
  obtain ⟨B2, hB2⟩ : ∃ B2, w1.heap.size = B2 := ⟨_, rfl⟩
  have hlt1 : B1 < B2 := by rw [← hB2]; exact hm1.out.lt
  have hm1 := Lib.hid (hm1.out.over hb2)
  rw [hB2] at hm2 hb2 ⊢
  have hm2 := Lib.hid hm2; have hb2 := Lib.hid (hb1.out.trans (hb2.mono (by omega)))
  have HLT := Lib.hid hlt1
  clear hB2 hlt1 hb1
  go_wp2_with fail
  refine (spend_up hm2.out b HWF.out (by have := HB.out; omega)).mono ?_; rintro e w3 ⟨rfl, hm3, hu3⟩
  rw [HE.out]
  rw [HL.out] at hm3
  have hm1 := Lib.hid (hm1.out.up hu3 (by have := HLT.out; omega))
  have hb3 := Lib.hid (hb2.out.trans (hu3.below (B := B1) (by have := HLT.out; omega) (by have := HLT.out; have := hm2.out.lt; omega)))
  have hm3 := Lib.hid hm3
  clear hu3 hb2
  go_wp2_with fail
  refine (take_up hm1.out (by have := HA.out; omega) hm3.out (by have := HB.out; omega)).mono ?_; rintro e w4 ⟨rfl, hm4, hu4⟩
  rw [HT.out.1]
  rw [HT.out.2] at hm4
  have hb4 := Lib.hid (hb3.out.trans (hu4.below (B := B1) (by omega) (by have := hm1.out.lt; omega)))
  have hm4 := Lib.hid hm4
  clear hu4 hb3
  go_wp2_with fail
  refine (left_any hm4.out (by have := HA.out; have := HB.out; have := HAB.out; omega)).mono ?_; rintro e w5 ⟨rfl, rfl⟩
  go_wp2_with fail
  refine (awakeF_any _).mono ?_; rintro e wz ⟨rfl, hbz⟩
  have hbz := Lib.hid (hb4.out.trans (hbz.mono (by have := hm4.out.lt; have := hb4.out.size; omega)))
  go_wp2_with fail
  go_ret
  exact ⟨rfl, by rw [HB1.out]; exact hbz.out⟩

theorem walk (a b : Int) (w : World) (ha : (Lit.int .u16 a).wf = true) (hb : (Lit.int .u16 b).wf = true) :
    Calls Try.prog 6 #[.int .u16 a, .int .u16 b] w fun e w' => e = .returned (.bool true) ∧ Below w.heap.size w w' := by
  have h1 : 0 ≤ a ∧ a ≤ 65535 := by simpa [Lit.wf, IntKind.min, IntKind.max, IntKind.signed, IntKind.bits] using ha
  have h2 : 0 ≤ b ∧ b ≤ 65535 := by simpa [Lit.wf, IntKind.min, IntKind.max, IntKind.signed, IntKind.bits] using hb
  by_cases h : a < b
  · exact walk_few a b w h1 h2 h
  · exact walk_yes a b w h1 h2 h

set_option maxRecDepth 100000 in
theorem lifted (os : Os) (started : os.Started) (H : Type) (enc : TypeId × Value → H) :
    ReturnsInHanded {} Try.checked os 6 .any (Rows.meterTakesSpec.pre6 enc Try.prog Try.f6 Rows.meterTakesRow.domain false) (Rows.meterTakesSpec.post enc Try.prog Try.f6 false true false false) := by
  refine returnsInHanded_of_change (C := Try.checked) own started (by kernel_rfl) Try.func6
    (ChangeSpec.witness6 (enc := enc) (C := Try.checked) false ⟨#[], #[.int .u16 0, .int .u16 0], []⟩ 8 (by kernel_rfl) (by kernel_rfl) (by kernel_rfl) (by kernel_rfl)) ?_
  intro W base args ds gs before hval0 hW hcnd _
  have hval : ∀ (j : Nat) t v, Try.f6.params[j]? = some t → args[j]? = some v → Value.okWide Try.prog W .any base t v := hval0
  have hW' := hW
  obtain ⟨p, q, hA0, hV, rfl, hfz, hnd⟩ := hW
  have hA : DataW.TrodAll enc Try.prog W 0 (fun _ => true) true Try.f6.params.toList args.toList ds p := hA0
  rw [Try.params6] at hA hval
  obtain ⟨v0, vs0, d0, ds0, p0, q0, hargs, rfl, rfl, h0, r0⟩ := trodAll_cons hA
  obtain ⟨v1, vs1, d1, ds1, p1, q1, rfl, rfl, rfl, h1, r1⟩ := trodAll_cons r0
  obtain ⟨rfl, rfl, rfl⟩ := trodAll_nil r1
  obtain rfl : args = #[v0, v1] := by cases args; simp_all
  obtain ⟨rfl, rfl⟩ := trodVars_none hV
  obtain ⟨a0, rfl, rfl, rfl, w0⟩ := open_int Try.underlying41 (hval 0 41 v0 rfl rfl) h0
  obtain ⟨a1, rfl, rfl, rfl, w1⟩ := open_int Try.underlying41 (hval 1 41 v1 rfl rfl) h1
  clear hA0 hval0
  refine (walk a0 a1 W w0 w1).mono fun e W' ⟨he, bel⟩ => ?_
  subst he
  exact ⟨_, rfl, _, _, _, [], _, [], hW', trodAll_mk1 (shut_bool Try.underlying4 _), (trodAll_cons_mk (shut_int Try.underlying41 w0) (trodAll_cons_mk (shut_int Try.underlying41 w1) trodAll_mk0)), rfl, bel.frame _, fun h => by cases h⟩

theorem over : Rows.meterTakesRow.holds Try.pinned (OpenSpec.ofChange Rows.meterTakesSpec) :=
  OpenClaim.holds_of_wide 6 Try.f6 rfl rfl rfl rfl rfl rfl rfl ⟨rfl, rfl, rfl, rfl, rfl⟩ rfl rfl rfl rfl rfl (by kernel_rfl) Try.func6 (by kernel_rfl)
    (of_decide_eq_true (by kernel_rfl)) (by unfold Func.isWrapper; first | (rw [if_pos (by decide +kernel)]; kernel_rfl) | (rw [if_neg (by decide +kernel)]; exact ⟨rfl, rfl⟩))
    (fun os started H enc _ => lifted os started H enc)

/-- The statement. -/
theorem card_holds : Rows.MeterTakesSaid := over
#print axioms card_holds
end Go.Proofs.Ytlolonhknfimeaa.meterTakes
