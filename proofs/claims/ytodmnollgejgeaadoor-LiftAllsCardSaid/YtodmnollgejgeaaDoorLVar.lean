/- Package lift: what becomes of one variable: the three closures, movedVar with each of them; bindersAbove. -/
import Derived.Test.YtodmnollgejgeaaDoorLPlain
import Derived.Test.YtodmnollgejgeaaDoorTMake
namespace Go.Proofs.YtodmnollgejgeaaDoor
open Go.RowKit
set_option linter.unusedVariables false
set_option maxRecDepth 100000

/-- A call that gives a term of its own and an error. -/
def GivesT (p : TM × Int) (w : World) (e : Ending) (w' : World) : Prop :=
  ∃ A cap, e = .returned (.tuple #[termV p.1 A cap, .int .i64 p.2]) ∧ IsTerm w' w.heap.size w'.heap.size p.1 A cap ∧ Below w.heap.size w w'

theorem cl_lift (a1 a2 : Addr) (m k n : Int) (w : World) (h1 : w.cell? a1 = some (.int .i64 n)) (h2 : w.cell? a2 = some (.int .i64 k)) (hm : 0 ≤ m ∧ m ≤ 1048576) (hn : 0 ≤ n ∧ n ≤ 1048576) (hk : 0 ≤ k ∧ k ≤ 1048576) :
    Calls Tryd.prog 60 #[.int .i64 m, .pointer (some a1), .pointer (some a2)] w fun e w' => e = .returned (.tuple #[.int .i64 (liftG k n m).1, .int .i64 (liftG k n m).2]) ∧ Below w.heap.size w w' := by
  by_cases hc : n ≤ m
  · have e : liftG k n m = (m + k, 0) := by unfold liftG; rw [if_pos hc]
    have hw : IntKind.i64.wrap (m + k) = m + k := IntWalk.i64_in _ (by omega)
    rw [e]
    clear e
    go_enter Tryd.func60, Tryd.ntmps60
    go_wp2_with fail
    go_ret2
    exact ⟨rfl, Below.refl _ _⟩
  · have e : liftG k n m = (m, 0) := by unfold liftG; rw [if_neg hc]
    rw [e]
    clear e
    go_enter Tryd.func60, Tryd.ntmps60
    go_wp2_with fail
    go_ret2
    exact ⟨rfl, Below.refl _ _⟩

theorem cl_lower (a1 a2 : Addr) (m k n : Int) (w : World) (h1 : w.cell? a1 = some (.int .i64 n)) (h2 : w.cell? a2 = some (.int .i64 k)) (hm : 0 ≤ m ∧ m ≤ 1048576) (hn : 0 ≤ n ∧ n ≤ 1048576) (hk : 0 ≤ k ∧ k ≤ 1048576) :
    Calls Tryd.prog 63 #[.int .i64 m, .pointer (some a1), .pointer (some a2)] w fun e w' => e = .returned (.tuple #[.int .i64 (lowerG k n m).1, .int .i64 (lowerG k n m).2]) ∧ Below w.heap.size w w' := by
  have hw1 : IntKind.i64.wrap (n + k) = n + k := IntWalk.i64_in _ (by omega)
  have hw2 : IntKind.i64.wrap (m - k) = m - k := IntWalk.i64_in _ (by omega)
  by_cases hc : m < n
  · have e : lowerG k n m = (m, 0) := by unfold lowerG; rw [if_pos hc]
    rw [e]
    clear e
    go_enter Tryd.func63, Tryd.ntmps63
    go_wp2_with fail
    go_ret2
    exact ⟨rfl, Below.refl _ _⟩
  · by_cases hd : m < n + k
    · have e : lowerG k n m = (0, 3) := by unfold lowerG; rw [if_neg hc, if_pos hd]
      rw [e]
      clear e
      go_enter Tryd.func63, Tryd.ntmps63
      go_wp2_with fail
      go_ret2
      exact ⟨rfl, Below.refl _ _⟩
    · have e : lowerG k n m = (m - k, 0) := by unfold lowerG; rw [if_neg hc, if_neg hd]
      rw [e]
      clear e
      go_enter Tryd.func63, Tryd.ntmps63
      go_wp2_with fail
      go_ret2
      exact ⟨rfl, Below.refl _ _⟩

theorem cl_swap (a1 : Addr) (m n : Int) (w : World) (h1 : w.cell? a1 = some (.int .i64 n)) (hm : 0 ≤ m ∧ m ≤ 1048576) (hn : 0 ≤ n ∧ n ≤ 1048576) :
    Calls Tryd.prog 65 #[.int .i64 m, .pointer (some a1)] w fun e w' => e = .returned (.tuple #[.int .i64 (swapG n m).1, .int .i64 (swapG n m).2]) ∧ Below w.heap.size w w' := by
  have hw1 : IntKind.i64.wrap (n + 1) = n + 1 := IntWalk.i64_in _ (by omega)
  by_cases hc : m = n
  · have e : swapG n m = (n + 1, 0) := by unfold swapG; rw [if_pos hc]
    rw [e]
    have t1 : (m == n) = true := by simpa using hc
    clear e hc
    go_enter Tryd.func65, Tryd.ntmps65
    go_wp2_with fail
    go_ret2
    exact ⟨rfl, Below.refl _ _⟩
  · have t1 : (m == n) = false := by simpa using hc
    by_cases hd : m = n + 1
    · have e : swapG n m = (n, 0) := by unfold swapG; rw [if_neg hc, if_pos hd]
      have t2 : (m == n + 1) = true := by simpa using hd
      rw [e]
      clear e hc hd
      go_enter Tryd.func65, Tryd.ntmps65
      go_wp2_with fail
      go_ret2
      exact ⟨rfl, Below.refl _ _⟩
    · have e : swapG n m = (m, 0) := by unfold swapG; rw [if_neg hc, if_neg hd]
      have t2 : (m == n + 1) = false := by simpa using hd
      rw [e]
      clear e hc hd
      go_enter Tryd.func65, Tryd.ntmps65
      go_wp2_with fail
      go_ret2
      exact ⟨rfl, Below.refl _ _⟩

theorem binders_any (k : Int) (i : Nat) (w : World) : Calls Tryd.prog 76 #[.int .i64 k, .int .i64 (i : Int)] w fun e w' => e = .returned (.int .i64 (bnd k i)) ∧ w' = w := by
  by_cases hi : i = 1
  · have t1 : ((i : Int) == 1) = true := by rw [hi]; rfl
    by_cases h3 : k = 3
    · have t2 : (k == 3) = true := by simpa using h3
      have e : bnd k i = 1 := by unfold bnd; rw [if_pos ⟨hi, .inl h3⟩]
      rw [e]
      clear hi h3 e
      go_enter Tryd.func76, Tryd.ntmps76
      go_wp2_with fail
      go_ret
      exact ⟨rfl, rfl⟩
    · have t2 : (k == 3) = false := by simpa using h3
      by_cases h4 : k = 4
      · have t3 : (k == 4) = true := by simpa using h4
        have e : bnd k i = 1 := by unfold bnd; rw [if_pos ⟨hi, .inr h4⟩]
        rw [e]
        clear hi h3 h4 e
        go_enter Tryd.func76, Tryd.ntmps76
        go_wp2_with fail
        go_ret
        exact ⟨rfl, rfl⟩
      · have t3 : (k == 4) = false := by simpa using h4
        have e : bnd k i = 0 := by unfold bnd; rw [if_neg (fun h => h.2.elim h3 h4)]
        rw [e]
        clear hi h3 h4 e
        go_enter Tryd.func76, Tryd.ntmps76
        go_wp2_with fail
        go_ret
        exact ⟨rfl, rfl⟩
  · have t1 : ((i : Int) == 1) = false := by simp; omega
    have e : bnd k i = 0 := by unfold bnd; rw [if_neg (fun h => hi h.1)]
    rw [e]
    clear hi e
    go_enter Tryd.func76, Tryd.ntmps76
    go_wp2_with fail
    go_ret
    exact ⟨rfl, rfl⟩

end Go.Proofs.YtodmnollgejgeaaDoor
