/- The law UtfOrders answers true, for every two numbers: any two signs are ordered as their bytes. No condition beyond the row's own (two ints). -/
import Derived.Test.YtcmmkdihknjfnaaAwake
import Derived.Test.YtcmmkdihknjfnaaOrd
import Derived.OpenShut
import Derived.ChangeOld
namespace Go.Proofs.Ytcmmkdihknjfnaa.utfOrders
open Go.ChangeShapes Go.WideShapes Go.ChangeAt Go.RowKit
set_option linter.unusedVariables false

theorem own : ownKnob Try.prog.godebug = none := by kernel_rfl

theorem walk (a0 a1 : Int) (w : World) :
    Calls Try.prog 8 #[.int .i64 a0, .int .i64 a1] w fun e w' => e = .returned (.bool true) ∧ Below w.heap.size w w' := by
  cases ha : rightB a0 with
  | false =>
    cases hb : rightB a1 with
    | false =>
      go_enter Try.func8, Try.ntmps8
      go_wp2_with fail
      refine (put_no _ _ ha).mono ?_; rintro e w1 ⟨rfl, hb1⟩
      go_wp2_with fail
      refine (put_no _ _ hb).mono ?_; rintro e w2 ⟨rfl, hb2⟩
      go_wp2_with fail
      refine (awake_any _).mono ?_; rintro e w3 ⟨rfl, hb3⟩
      go_wp2_with fail
      go_ret
      have h12 := hb1.trans (hb2.mono hb1.size)
      exact ⟨rfl, h12.trans (hb3.mono h12.size)⟩
    | true =>
      go_enter Try.func8, Try.ntmps8
      go_wp2_with fail
      refine (put_no _ _ ha).mono ?_; rintro e w1 ⟨rfl, hb1⟩
      go_wp2_with fail
      refine (put_yes _ _ hb).mono ?_; rintro e w2 ⟨rfl, hb2⟩
      go_wp2_with fail
      refine (awake_any _).mono ?_; rintro e w3 ⟨rfl, hb3⟩
      go_wp2_with fail
      go_ret
      have h12 := hb1.trans (hb2.mono hb1.size)
      exact ⟨rfl, h12.trans (hb3.mono h12.size)⟩
  | true =>
    cases hb : rightB a1 with
    | false =>
      go_enter Try.func8, Try.ntmps8
      go_wp2_with fail
      refine (put_yes _ _ ha).mono ?_; rintro e w1 ⟨rfl, hb1⟩
      go_wp2_with fail
      refine (put_no _ _ hb).mono ?_; rintro e w2 ⟨rfl, hb2⟩
      go_wp2_with fail
      refine (awake_any _).mono ?_; rintro e w3 ⟨rfl, hb3⟩
      go_wp2_with fail
      go_ret
      have h12 := hb1.trans (hb2.mono hb1.size)
      exact ⟨rfl, h12.trans (hb3.mono h12.size)⟩
    | true =>
      by_cases hlt : a0 < a1
      · have f1 := enc_less ha hb hlt
        have f2 := enc_ne ha hb (by omega)
        have f3 : (a0 == a1) = false := by simp; omega
        go_enter Try.func8, Try.ntmps8
        go_wp2_with fail
        refine (put_yes _ _ ha).mono ?_; rintro e w1 ⟨rfl, hb1⟩
        go_wp2_with fail
        refine (put_yes _ _ hb).mono ?_; rintro e w2 ⟨rfl, hb2⟩
        go_wp2_with fail
        refine (awake_any _).mono ?_; rintro e w3 ⟨rfl, hb3⟩
        go_wp2_with fail
        go_ret
        have h12 := hb1.trans (hb2.mono hb1.size)
        exact ⟨rfl, h12.trans (hb3.mono h12.size)⟩
      · by_cases he : a0 = a1
        · subst he
          have f1 := enc_not_less ha hb (Int.le_refl _)
          go_enter Try.func8, Try.ntmps8
          go_wp2_with fail
          refine (put_yes _ _ ha).mono ?_; rintro e w1 ⟨rfl, hb1⟩
          go_wp2_with fail
          refine (put_yes _ _ ha).mono ?_; rintro e w2 ⟨rfl, hb2⟩
          go_wp2_with fail
          refine (awake_any _).mono ?_; rintro e w3 ⟨rfl, hb3⟩
          go_wp2_with fail
          go_ret
          have h12 := hb1.trans (hb2.mono hb1.size)
          exact ⟨rfl, h12.trans (hb3.mono h12.size)⟩
        · have f1 := enc_not_less ha hb (by omega)
          have f2 := enc_ne ha hb he
          have f4 : decide (a0 < a1) = false := decide_eq_false hlt
          have f3 : (a0 == a1) = false := by simp; omega
          go_enter Try.func8, Try.ntmps8
          go_wp2_with fail
          refine (put_yes _ _ ha).mono ?_; rintro e w1 ⟨rfl, hb1⟩
          go_wp2_with fail
          refine (put_yes _ _ hb).mono ?_; rintro e w2 ⟨rfl, hb2⟩
          go_wp2_with fail
          refine (awake_any _).mono ?_; rintro e w3 ⟨rfl, hb3⟩
          go_wp2_with fail
          go_ret
          have h12 := hb1.trans (hb2.mono hb1.size)
          exact ⟨rfl, h12.trans (hb3.mono h12.size)⟩

set_option maxRecDepth 100000 in
theorem lifted (os : Os) (started : os.Started) (H : Type) (enc : TypeId × Value → H) :
    ReturnsInHanded {} Try.checked os 8 .any (Rows.utfOrdersSpec.pre6 enc Try.prog Try.f8 Rows.utfOrdersRow.domain false) (Rows.utfOrdersSpec.post enc Try.prog Try.f8 false true false false) := by
  refine returnsInHanded_of_change (C := Try.checked) own started (by kernel_rfl) Try.func8
    (ChangeSpec.witness6 (enc := enc) (C := Try.checked) false ⟨#[], #[.int .i64 0, .int .i64 0], []⟩ 8 (by kernel_rfl) (by kernel_rfl) (by kernel_rfl) (by kernel_rfl)) ?_
  intro W base args ds gs before hval0 hW hcnd _
  have hval : ∀ (j : Nat) t v, Try.f8.params[j]? = some t → args[j]? = some v → Value.okWide Try.prog W .any base t v := hval0
  have hW' := hW
  obtain ⟨p, q, hA0, hV, rfl, hfz, hnd⟩ := hW
  have hA : DataW.TrodAll enc Try.prog W 0 (fun _ => true) true Try.f8.params.toList args.toList ds p := hA0
  rw [Try.params8] at hA hval
  obtain ⟨v0, vs0, d0, ds0, p0, q0, hargs, rfl, rfl, h0, r0⟩ := trodAll_cons hA
  obtain ⟨v1, vs1, d1, ds1, p1, q1, rfl, rfl, rfl, h1, r1⟩ := trodAll_cons r0
  obtain ⟨rfl, rfl, rfl⟩ := trodAll_nil r1
  obtain rfl : args = #[v0, v1] := by cases args; simp_all
  obtain ⟨rfl, rfl⟩ := trodVars_none hV
  obtain ⟨a0, rfl, rfl, rfl, w0⟩ := open_int Try.underlying3 (hval 0 3 v0 rfl rfl) h0
  obtain ⟨a1, rfl, rfl, rfl, w1⟩ := open_int Try.underlying3 (hval 1 3 v1 rfl rfl) h1
  clear hA0 hval0
  refine (walk a0 a1 W).mono fun e W' ⟨he, bel⟩ => ?_
  subst he
  exact ⟨_, rfl, _, _, _, [], _, [], hW', trodAll_mk1 (shut_bool Try.underlying4 _), (trodAll_cons_mk (shut_int Try.underlying3 w0) (trodAll_cons_mk (shut_int Try.underlying3 w1) trodAll_mk0)), rfl, bel.frame _, fun h => by cases h⟩

theorem over : Rows.utfOrdersRow.holds Try.pinned (OpenSpec.ofChange Rows.utfOrdersSpec) :=
  OpenClaim.holds_of_wide 8 Try.f8 rfl rfl rfl rfl rfl rfl rfl ⟨rfl, rfl, rfl, rfl, rfl⟩ rfl rfl rfl rfl rfl (by kernel_rfl) Try.func8 (by kernel_rfl)
    (of_decide_eq_true (by kernel_rfl)) (by unfold Func.isWrapper; first | (rw [if_pos (by decide +kernel)]; kernel_rfl) | (rw [if_neg (by decide +kernel)]; exact ⟨rfl, rfl⟩))
    (fun os started H enc _ => lifted os started H enc)

/-- The statement. -/
theorem orders_holds : Rows.UtfOrdersSaid :=
  over
#print axioms orders_holds
end Go.Proofs.Ytcmmkdihknjfnaa.utfOrders
