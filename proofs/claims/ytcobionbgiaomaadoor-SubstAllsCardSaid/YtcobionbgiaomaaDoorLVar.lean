/- Package lift: what becomes of one variable: the three closures, movedVar with each of them; bindersAbove. -/
import Derived.Test.YtcobionbgiaomaaDoorLPlain
import Derived.Test.YtcobionbgiaomaaDoorTMake
namespace Go.Proofs.YtcobionbgiaomaaDoor
open Go.RowKit
set_option linter.unusedVariables false
set_option maxRecDepth 100000

/-- A call that gives a term of its own and an error. -/
def GivesT (p : TM × Int) (w : World) (e : Ending) (w' : World) : Prop :=
  ∃ A cap, e = .returned (.tuple #[termV p.1 A cap, .int .i64 p.2]) ∧ IsTerm w' w.heap.size w'.heap.size p.1 A cap ∧ Below w.heap.size w w'

theorem cl_lift (a1 a2 : Addr) (m k n : Int) (w : World) (h1 : w.cell? a1 = some (.int .i64 n)) (h2 : w.cell? a2 = some (.int .i64 k)) (hm : 0 ≤ m ∧ m ≤ 1048576) (hn : 0 ≤ n ∧ n ≤ 1048576) (hk : 0 ≤ k ∧ k ≤ 1048576) :
    Calls Tryd.prog 62 #[.int .i64 m, .pointer (some a1), .pointer (some a2)] w fun e w' => e = .returned (.tuple #[.int .i64 (liftG k n m).1, .int .i64 (liftG k n m).2]) ∧ Below w.heap.size w w' := by
  by_cases hc : n ≤ m
  · have e : liftG k n m = (m + k, 0) := by unfold liftG; rw [if_pos hc]
    have hw : IntKind.i64.wrap (m + k) = m + k := IntWalk.i64_in _ (by omega)
    rw [e]
    clear e
    go_enter Tryd.func62, Tryd.ntmps62
    go_wp2_with fail
    go_ret2
    exact ⟨rfl, Below.refl _ _⟩
  · have e : liftG k n m = (m, 0) := by unfold liftG; rw [if_neg hc]
    rw [e]
    clear e
    go_enter Tryd.func62, Tryd.ntmps62
    go_wp2_with fail
    go_ret2
    exact ⟨rfl, Below.refl _ _⟩

theorem binders_any (k : Int) (i : Nat) (w : World) : Calls Tryd.prog 68 #[.int .i64 k, .int .i64 (i : Int)] w fun e w' => e = .returned (.int .i64 (bnd k i)) ∧ w' = w := by
  by_cases hi : i = 1
  · have t1 : ((i : Int) == 1) = true := by rw [hi]; rfl
    by_cases h3 : k = 3
    · have t2 : (k == 3) = true := by simpa using h3
      have e : bnd k i = 1 := by unfold bnd; rw [if_pos ⟨hi, .inl h3⟩]
      rw [e]
      clear hi h3 e
      go_enter Tryd.func68, Tryd.ntmps68
      go_wp2_with fail
      go_ret
      exact ⟨rfl, rfl⟩
    · have t2 : (k == 3) = false := by simpa using h3
      by_cases h4 : k = 4
      · have t3 : (k == 4) = true := by simpa using h4
        have e : bnd k i = 1 := by unfold bnd; rw [if_pos ⟨hi, .inr h4⟩]
        rw [e]
        clear hi h3 h4 e
        go_enter Tryd.func68, Tryd.ntmps68
        go_wp2_with fail
        go_ret
        exact ⟨rfl, rfl⟩
      · have t3 : (k == 4) = false := by simpa using h4
        have e : bnd k i = 0 := by unfold bnd; rw [if_neg (fun h => h.2.elim h3 h4)]
        rw [e]
        clear hi h3 h4 e
        go_enter Tryd.func68, Tryd.ntmps68
        go_wp2_with fail
        go_ret
        exact ⟨rfl, rfl⟩
  · have t1 : ((i : Int) == 1) = false := by simp; omega
    have e : bnd k i = 0 := by unfold bnd; rw [if_neg (fun h => hi h.1)]
    rw [e]
    clear hi e
    go_enter Tryd.func68, Tryd.ntmps68
    go_wp2_with fail
    go_ret
    exact ⟨rfl, rfl⟩

end Go.Proofs.YtcobionbgiaomaaDoor
