/- A nil memo, and a nil function: what Get and Has tell. -/
import Derived.Test.YtlolonhknfimeaaDoorMetC
namespace Go.Proofs.YtlolonhknfimeaaDoor
open Go.RowKit
set_option linter.unusedVariables false
set_option maxRecDepth 100000

theorem get_nil (fn : Fn) (fx fy : Array Value) (w : World) : Calls Tryd.prog 5 #[.pointer none, .func fn fx fy] w fun e w' => e = .returned (.tuple #[.agg #[.int .i64 0, .int .i64 0, .slice none 0 0], .int .i64 16]) ∧ Below w.heap.size w w' := by
  go_enter Tryd.func5, Tryd.ntmps5
  go_wp2_with fail
  refine bodyPost_ret (v := .tuple #[.agg #[.int .i64 0, .int .i64 0, .slice none 0 0], .int .i64 16]) (by simp [results, Tryd.results5, go_sem]) rfl ⟨rfl, ?_⟩
  exact (((Below.refl _ w).alloc (Nat.le_refl _) _).alloc (by simp) _).alloc (by simp; omega) _
theorem nil_equal (d : Nat) (V : World) : (Op.equalIn (d + 1) 32 .nilFunc .nilFunc).run Tryd.prog V = .ok true V := by
  simp [Op.equalIn, run_underlying Tryd.underlying32]
theorem nil_func (V : World) : (binOp .eql 32 .nilFunc .nilFunc).run Tryd.prog V = .ok (.bool true) V := by
  have h : (Op.equal 32 .nilFunc .nilFunc).run Tryd.prog V = .ok true V := nil_equal 9999 V
  simp only [binOp]
  simp [h]
theorem get_none (b : Nat) (w : World) : Calls Tryd.prog 5 #[.pointer (some ⟨b, 0, none⟩), .nilFunc] w fun e w' => e = .returned (.tuple #[.agg #[.int .i64 0, .int .i64 0, .slice none 0 0], .int .i64 16]) ∧ Below w.heap.size w w' := by
  have hnf := nil_func
  go_enter Tryd.func5, Tryd.ntmps5
  go_wp2_with fail
  refine bodyPost_ret (v := .tuple #[.agg #[.int .i64 0, .int .i64 0, .slice none 0 0], .int .i64 16]) (by simp [results, Tryd.results5, go_sem]) rfl ⟨rfl, ?_⟩
  exact (((Below.refl _ w).alloc (Nat.le_refl _) _).alloc (by simp) _).alloc (by simp; omega) _
theorem has_nil (w : World) : Calls Tryd.prog 12 #[.pointer none] w fun e w' => e = .returned (.bool false) ∧ w' = w := by
  go_enter Tryd.func12, Tryd.ntmps12
  go_wp2_with fail
  go_ret
  exact ⟨rfl, rfl⟩
theorem loadb_any {w : World} {a : Addr} (h : w.cell? a = some (.int .u32 0)) : Calls Tryd.prog 22 #[.pointer (some a)] w fun e w' => e = .returned (.bool false) ∧ w' = w := by
  obtain ⟨b, o, sp⟩ := a
  have hs : sp = none := by simpa using World.cell?_spot h
  subst hs
  have hld := run_call_load (P := Tryd.prog) Tryd.func32 (by kernel_rfl) (by kernel_rfl) (by kernel_rfl) .u32 (by kernel_rfl) h
  have c1 := h
  clear h
  go_enter Tryd.func22, Tryd.ntmps22
  go_wp2
  go_ret
  exact ⟨rfl, rfl⟩
theorem has_not {w : World} {b : Nat} (h : w.cell? ⟨b, 3, none⟩ = some (.int .u32 0)) : Calls Tryd.prog 12 #[.pointer (some ⟨b, 0, none⟩)] w fun e w' => e = .returned (.bool false) ∧ w' = w := by
  have H := Lib.hid h
  go_enter Tryd.func12, Tryd.ntmps12
  go_wp2_with fail
  refine (loadb_any H.out).mono ?_; rintro e w1 ⟨rfl, rfl⟩
  go_wp2_with fail
  go_ret
  exact ⟨rfl, rfl⟩
end Go.Proofs.YtlolonhknfimeaaDoor
