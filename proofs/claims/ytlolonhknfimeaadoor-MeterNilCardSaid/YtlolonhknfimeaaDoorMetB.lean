/- A meter in memory: what Used, Spend, Step, New, Fork and Take do with it, in a run of one goroutine. -/
import Derived.Test.YtlolonhknfimeaaDoorMet
namespace Go.Proofs.YtlolonhknfimeaaDoor
open Go.RowKit
set_option linter.unusedVariables false
set_option maxRecDepth 100000

theorem used_nil (w : World) : Calls Tryd.prog 10 #[.pointer none] w fun e w' => e = .returned (.int .i64 0) ∧ w' = w := by
  go_enter Tryd.func10, Tryd.ntmps10
  go_wp2
  go_ret
  exact ⟨rfl, rfl⟩
theorem used_any {w : World} {b : Nat} {f l : Int} (h : Mt w b f l) (hl : 0 ≤ l ∧ l ≤ f ∧ f ≤ 1048576) : Calls Tryd.prog 10 #[.pointer (some ⟨b, 0, none⟩)] w fun e w' => e = .returned (.int .i64 (f - l)) ∧ Below w.heap.size w w' := by
  have hw : IntKind.i64.wrap (f - l) = f - l := IntWalk.i64_in _ (by omega)
  have hw' : wrap64 (f - l) = f - l := IntWalk.wrap64_in _ (by omega)
  have c0 := h.c0; have c1 := h.c1; have hlt := h.lt
  have HK : Hid (∀ V, Below w.heap.size w V → V.cell? ⟨b, 0, none⟩ = some (.int .i64 f) ∧ V.cell? ⟨b, 1, none⟩ = some (.int .i64 l)) := Lib.hid (fun V hV => ⟨(h.over hV).c0, (h.over hV).c1⟩)
  have HM : Hid (∀ V, Below w.heap.size w V → Mt V b f l) := Lib.hid (fun V hV => h.over hV)
  have hbk := Lib.hid ((Below.refl w.heap.size w).drew)
  clear h hl
  go_enter Tryd.func10, Tryd.ntmps10
  go_wp2_with fail
  go_region_held3 (fun w' => Below w.heap.size w w' ∧ w'.cell? ⟨b, 0, none⟩ = some (.int .i64 f))
    (first | exact ⟨hbk.out, (HK.out _ hbk.out).1⟩)
    (first
      | (go_at_call 20; (with_reducible refine (load_any (HM.out _ hbk.out)).mono ?_); rintro e w3 ⟨rfl, rfl⟩))
  all_goals
    go_wp2_with fail
    go_ret
    exact ⟨rfl, hbk.out⟩

theorem spend_nil (n : Int) (w : World) : Calls Tryd.prog 8 #[.pointer none, .int .i64 n] w fun e w' => e = .returned (.int .i64 8) ∧ w' = w := by
  go_enter Tryd.func8, Tryd.ntmps8
  go_wp2
  go_ret
  exact ⟨rfl, rfl⟩
theorem spend_neg {w : World} {b : Nat} (n : Int) (hn : n < 0) : Calls Tryd.prog 8 #[.pointer (some ⟨b, 0, none⟩), .int .i64 n] w fun e w' => e = .returned (.int .i64 8) ∧ w' = w := by
  go_enter Tryd.func8, Tryd.ntmps8
  go_wp2
  go_ret
  exact ⟨rfl, rfl⟩
/-- Is there enough? -/
def enough (l n : Int) : Bool := decide (0 ≤ n) && decide (n ≤ l)
/-- What is left behind it, and the error. -/
def leftX (l n : Int) : Int := if enough l n then l - n else l
def fuelE (l n : Int) : Int := if enough l n then 0 else 8
theorem enough_yes {l n : Int} (h0 : 0 ≤ n) (h1 : n ≤ l) : enough l n = true := by simp [enough, h0, h1]
theorem enough_neg {l n : Int} (h0 : n < 0) : enough l n = false := by simp [enough]; omega
theorem enough_few {l n : Int} (h0 : l < n) : enough l n = false := by simp [enough]; omega
theorem spend_any {w : World} {b : Nat} {f l : Int} (h : Mt w b f l) (n : Int) (hn : (Lit.int .i64 n).wf = true) (hl : 0 ≤ l ∧ l ≤ 1048576) : Calls Tryd.prog 8 #[.pointer (some ⟨b, 0, none⟩), .int .i64 n] w fun e w' =>
    e = .returned (.int .i64 (fuelE l n)) ∧ (w' = w ∧ enough l n = false ∨ w' = w.setCell ⟨b, 1, none⟩ (.int .i64 (leftX l n)) ∧ enough l n = true) := by
  have hn2 : n ≤ 9223372036854775807 := by
    have h := hn; simp only [Lit.wf, Bool.and_eq_true, decide_eq_true_eq] at h; exact h.2
  by_cases h0 : n < 0
  · refine (spend_neg n h0).mono ?_
    rintro e w' ⟨rfl, rfl⟩
    simp [fuelE, enough_neg h0]
  · have c0 := h.c0; have c1 := h.c1
    have H := Lib.hid h
    by_cases h1 : l < n
    · have HE : Hid (enough l n = false) := Lib.hid (enough_few h1)
      have hwn : IntKind.i64.wrap n = n := IntWalk.i64_in _ (by omega)
      clear h hl hn hn2
      go_enter Tryd.func8, Tryd.ntmps8
      go_wp2_with fail
      refine wp_loop_rounds 2 ?_
      rw [rounds_succ]
      go_wp2_with fail
      refine (load_any H.out).mono ?_; rintro e w1 ⟨rfl, rfl⟩
      go_wp2_with fail
      go_ret
      simp [fuelE, HE.out]
    · have HE : Hid (enough l n = true) := Lib.hid (enough_yes (by omega) (by omega))
      have hwn : IntKind.i64.wrap n = n := IntWalk.i64_in _ (by omega)
      have hw2 : IntKind.i64.wrap (l - n) = l - n := IntWalk.i64_in _ (by omega)
      have hw3 : wrap64 (l - n) = l - n := IntWalk.wrap64_in _ (by omega)
      clear h hl hn hn2
      go_enter Tryd.func8, Tryd.ntmps8
      go_wp2_with fail
      refine wp_loop_rounds 2 ?_
      rw [rounds_succ]
      go_wp2_with fail
      refine (load_any H.out).mono ?_; rintro e w1 ⟨rfl, rfl⟩
      go_wp2_with fail
      refine (cas_any H.out _).mono ?_; rintro e w1 ⟨rfl, rfl⟩
      go_wp2_with fail
      go_ret
      simp [fuelE, leftX, HE.out]
end Go.Proofs.YtlolonhknfimeaaDoor
