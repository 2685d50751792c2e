/- scholiumref07.Beneath, Has, Loose. -/
import Derived.Test.YtcobionbgiaomaaDoorM3
import Derived.Deep.RegionHeld3
import Derived.Deep.QuietTactic
import Derived.BigQuiet
namespace Go.Proofs.YtcobionbgiaomaaDoor
open Go.RowKit
set_option linter.unusedVariables false
set_option maxRecDepth 100000

theorem beneath_any (k n : Int) (A : Option Addr) (m cap i : Nat) (w : World) : Calls Tryd.prog 58 #[.agg #[.int .i64 k, .int .i64 n, .slice A m cap], .int .i64 (i : Int)] w fun e w' => e = .returned (.int .i64 (bndR k i)) ∧ Below w.heap.size w w' := by
  obtain ⟨r, hr⟩ : ∃ r, bndR k i = r := ⟨_, rfl⟩
  rw [hr]
  unfold bndR at hr
  have HR := Lib.hid hr
  clear hr
  by_cases h1 : i = 1
  · have e1 : ((i : Int) == 1) = true := by rw [beq_iff_eq]; omega
    by_cases h5 : k = 5
    · have e2 : (k != 5) = false := by rw [h5]; rfl
      have HR2 : Hid (r = 0) := Lib.hid (by rw [← HR.out]; exact if_neg (fun h => h.2 h5))
      clear h1 h5
      go_enter Tryd.func58, Tryd.ntmps58
      go_wp2_with fail
      go_ret
      exact ⟨by rw [HR2.out]; rfl, (Below.refl _ _).alloc (Nat.le_refl _) _⟩
    · have e2 : (k != 5) = true := by rw [bne_iff_ne]; exact h5
      have HR2 : Hid (r = 1) := Lib.hid (by rw [← HR.out]; exact if_pos ⟨h1, h5⟩)
      clear h1 h5
      go_enter Tryd.func58, Tryd.ntmps58
      go_wp2_with fail
      go_ret
      exact ⟨by rw [HR2.out]; rfl, (Below.refl _ _).alloc (Nat.le_refl _) _⟩
  · have e1 : ((i : Int) == 1) = false := by rw [beq_eq_false_iff_ne]; omega
    have HR2 : Hid (r = 0) := Lib.hid (by rw [← HR.out]; exact if_neg (fun h => h1 h.1))
    clear h1
    go_enter Tryd.func58, Tryd.ntmps58
    go_wp2_with fail
    go_ret
    exact ⟨by rw [HR2.out]; rfl, (Below.refl _ _).alloc (Nat.le_refl _) _⟩

theorem hasL_take (k m : Int) {l : List TM} {i : Nat} (h : i < l.length) : hasL k 0 (l.take (i + 1)) m = (hasL k 0 (l.take i) m || hasT l[i] (m + bndR k i)) := by
  rw [take_snocM h, hasL_snoc]
  have e : 0 + (l.take i).length = i := by simp; omega
  rw [e]
theorem hasL_app (k m : Int) : ∀ (r s : List TM) (i : Nat), hasL k i (r ++ s) m = (hasL k i r m || hasL k (i + r.length) s m)
  | [], s, i => by rw [List.nil_append, hasL_nil]; simp
  | u :: r, s, i => by
    rw [List.cons_append, hasL_cons, hasL_app k m r s, hasL_cons, Bool.or_assoc]
    have e : i + 1 + r.length = i + (u :: r).length := by simp; omega
    rw [e]
theorem hasL_yes (k m : Int) {l : List TM} {i : Nat} (h : i < l.length) (hy : hasT l[i] (m + bndR k i) = true) : hasL k 0 l m = true := by
  have h1 := hasL_app k m (l.take (i + 1)) (l.drop (i + 1)) 0
  rw [List.take_append_drop, hasL_take k m h, hy] at h1
  rw [h1]; simp

theorem looseL_take (k m : Int) {l : List TM} {i : Nat} (h : i < l.length) : looseL k 0 (l.take (i + 1)) m = max (looseL k 0 (l.take i) m) (max (looseT l[i] (m + bndR k i)) 0) := by
  rw [take_snocM h, looseL_snoc]
  have e : 0 + (l.take i).length = i := by simp; omega
  rw [e]

end Go.Proofs.YtcobionbgiaomaaDoor
