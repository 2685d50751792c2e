/- slices.IndexFunc, slices.ContainsFunc, tree.all over nodes. -/
import Derived.Test.YtodmnollgejgeaaDoorRose
import Derived.LoopTactic
import Derived.LoopN
import Derived.RegionTactic
namespace Go.Proofs.YtodmnollgejgeaaDoor
open Go.RowKit
set_option linter.unusedVariables false

/-- What an index told says: the test holds nowhere, or somewhere. -/
def IdxR (Q : Nat → Bool) (n : Nat) (r : Int) : Prop := (r = -1 ∧ ∀ i, i < n → Q i = false) ∨ (0 ≤ r ∧ ∃ i, i < n ∧ Q i = true)
def allB (Q : Nat → Bool) : Nat → Bool
  | 0 => true
  | n + 1 => allB Q n && Q n
theorem allB_true {Q : Nat → Bool} : ∀ {n : Nat}, allB Q n = true ↔ ∀ i, i < n → Q i = true
  | 0 => by simp [allB]
  | n + 1 => by
    rw [allB, Bool.and_eq_true, allB_true]
    constructor
    · rintro ⟨h1, h2⟩ i hi
      by_cases h : i < n
      · exact h1 i h
      · obtain rfl : i = n := by omega
        exact h2
    · exact fun h => ⟨fun i hi => h i (by omega), h n (by omega)⟩
theorem idx_all {Q : Nat → Bool} {n : Nat} {r : Int} (h : IdxR (fun i => !Q i) n r) : decide (0 ≤ r) = !allB Q n := by
  rcases h with ⟨rfl, h⟩ | ⟨h0, i, hi, h⟩
  · have : allB Q n = true := allB_true.2 fun i hi => by have := h i hi; simpa using this
    rw [this]; rfl
  · have : allB Q n = false := by
      cases e : allB Q n with
      | false => rfl
      | true => have := allB_true.1 e i hi; simp [this] at h
    rw [this]; simpa using h0

/-- The test of each element comes to Q, whenever it is asked. -/
def TestN (w : World) (g : FuncId) (ps : List Value) (l : List RT) (Q : Nat → Bool) : Prop :=
  ∀ i (h : i < l.length) (lo hi : Nat) (F : Option Addr) (C : Nat) (w' : World), Below w.heap.size w w' → IsNode w' lo hi l[i] F C → hi ≤ w'.heap.size →
    Calls Tryd.prog g (⟨nodeV l[i] F C :: ps⟩ : Array Value) w' fun e w'' => e = .returned (.bool (Q i)) ∧ Below w'.heap.size w' w''
/-- A slice of nodes. -/
def NodesAt (w : World) (lo hi : Nat) (A : Option Addr) (l : List RT) : Prop := ∀ i (h : i < l.length), SubAt w lo hi A l i h
theorem NodesAt.kept {w w' : World} {lo hi B : Nat} {A : Option Addr} {l : List RT} (h : NodesAt w lo hi A l) (hb : Below B w w') (hB : hi ≤ B) : NodesAt w' lo hi A l := fun i hi' => (h i hi').kept hb hB
theorem TestN.kept {w w' : World} {g : FuncId} {ps : List Value} {l : List RT} {Q : Nat → Bool} (h : TestN w g ps l Q) (hb : Below w.heap.size w w') : TestN w' g ps l Q :=
  fun i hi lo hi' F C W hW => h i hi lo hi' F C W (hb.trans (hW.mono hb.size))

def SomeIdx (Q : Nat → Bool) (n : Nat) (w : World) (e : Ending) (w' : World) : Prop := ∃ r : Int, e = .returned (.int .i64 r) ∧ IdxR Q n r ∧ Below w.heap.size w w'

end Go.Proofs.YtodmnollgejgeaaDoor
