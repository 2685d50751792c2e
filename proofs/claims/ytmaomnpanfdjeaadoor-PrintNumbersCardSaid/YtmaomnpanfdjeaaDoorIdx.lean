/- slices.IndexFunc, slices.ContainsFunc, tree.all over nodes. -/
import Derived.Test.YtmaomnpanfdjeaaDoorRose
import Derived.LoopTactic
import Derived.LoopN
import Derived.RegionTactic
namespace Go.Proofs.YtmaomnpanfdjeaaDoor
open Go.RowKit
set_option linter.unusedVariables false

/-- What an index told says: the test holds nowhere, or somewhere. -/
def IdxR (Q : Nat → Bool) (n : Nat) (r : Int) : Prop := (r = -1 ∧ ∀ i, i < n → Q i = false) ∨ (0 ≤ r ∧ ∃ i, i < n ∧ Q i = true)
def allB (Q : Nat → Bool) : Nat → Bool
  | 0 => true
  | n + 1 => allB Q n && Q n
theorem allB_true {Q : Nat → Bool} : ∀ {n : Nat}, allB Q n = true ↔ ∀ i, i < n → Q i = true
  | 0 => by simp [allB]
  | n + 1 => by
    rw [allB, Bool.and_eq_true, allB_true]
    constructor
    · rintro ⟨h1, h2⟩ i hi
      by_cases h : i < n
      · exact h1 i h
      · obtain rfl : i = n := by omega
        exact h2
    · exact fun h => ⟨fun i hi => h i (by omega), h n (by omega)⟩
theorem idx_all {Q : Nat → Bool} {n : Nat} {r : Int} (h : IdxR (fun i => !Q i) n r) : decide (0 ≤ r) = !allB Q n := by
  rcases h with ⟨rfl, h⟩ | ⟨h0, i, hi, h⟩
  · have : allB Q n = true := allB_true.2 fun i hi => by have := h i hi; simpa using this
    rw [this]; rfl
  · have : allB Q n = false := by
      cases e : allB Q n with
      | false => rfl
      | true => have := allB_true.1 e i hi; simp [this] at h
    rw [this]; simpa using h0

/-- The test of each element comes to Q, whenever it is asked. -/
def TestN (w : World) (g : FuncId) (ps : List Value) (l : List RT) (Q : Nat → Bool) : Prop :=
  ∀ i (h : i < l.length) (lo hi : Nat) (F : Option Addr) (C : Nat) (w' : World), Below w.heap.size w w' → IsNode w' lo hi l[i] F C → hi ≤ w'.heap.size →
    Calls Tryd.prog g (⟨nodeV l[i] F C :: ps⟩ : Array Value) w' fun e w'' => e = .returned (.bool (Q i)) ∧ Below w'.heap.size w' w''
/-- A slice of nodes. -/
def NodesAt (w : World) (lo hi : Nat) (A : Option Addr) (l : List RT) : Prop := ∀ i (h : i < l.length), SubAt w lo hi A l i h
theorem NodesAt.kept {w w' : World} {lo hi B : Nat} {A : Option Addr} {l : List RT} (h : NodesAt w lo hi A l) (hb : Below B w w') (hB : hi ≤ B) : NodesAt w' lo hi A l := fun i hi' => (h i hi').kept hb hB
theorem TestN.kept {w w' : World} {g : FuncId} {ps : List Value} {l : List RT} {Q : Nat → Bool} (h : TestN w g ps l Q) (hb : Below w.heap.size w w') : TestN w' g ps l Q :=
  fun i hi lo hi' F C W hW => h i hi lo hi' F C W (hb.trans (hW.mono hb.size))

def SomeIdx (Q : Nat → Bool) (n : Nat) (w : World) (e : Ending) (w' : World) : Prop := ∃ r : Int, e = .returned (.int .i64 r) ∧ IdxR Q n r ∧ Below w.heap.size w w'

theorem index_any (l : List RT) (A : Option Addr) (cap lo hi : Nat) (p : Addr) (Q : Nat → Bool) (w : World) (hl : l.length ≤ maxLen) (hn : NodesAt w lo hi A l) (hhi : hi ≤ w.heap.size) (ht : TestN w 54 [.pointer (some p)] l Q) :
    Calls Tryd.prog 69 #[.slice A l.length cap, .func (.func 54) #[] #[.pointer (some p)]] w (SomeIdx Q l.length w) := by
  have HN := Lib.hid hn
  have HT := Lib.hid ht
  unfold maxLen at hl
  clear hn ht
  go_enter Tryd.func69, Tryd.ntmps69
  go_wp2_with fail
  go_loopw [8] (fun iv wr => ∃ i : Nat, i ≤ l.length ∧ iv = .int .i64 i ∧ Below w.heap.size w wr ∧ Hid (∀ j, j < i → Q j = false)) (fun iv _ => l.length - (intOf iv).toNat)
  case atStart => exact ⟨0, Nat.zero_le _, rfl, Below.refl _ _, Lib.hid (fun j hj => by omega)⟩
  case round =>
    obtain ⟨i, hi1, rfl, hB, HQ⟩ := hrel
    have hz := hB.size
    by_cases hil : i < l.length
    · obtain ⟨b, o, F, C, rfl, hb1, hb2, hx, hnode⟩ := (HN.out i hil).kept hB hhi
      obtain ⟨x0, x1, x2, x3, x4⟩ := hx
      have HR := Lib.hid (HT.out i hil lo hi F C wr hB hnode (by omega))
      clear HT HN
      cases hq : Q i with
      | true =>
        rw [hq] at HR
        have HQ2 := Lib.hid hq
        clear hq
        go_wp2_with fail
        refine HR.out.mono ?_
        rintro e w1 ⟨rfl, hb1⟩
        go_wp2_with fail
        go_ret
        exact ⟨_, rfl, .inr ⟨by omega, i, hil, HQ2.out⟩, hB.trans (hb1.mono hz)⟩
      | false =>
        rw [hq] at HR
        have HQ2 := Lib.hid hq
        clear hq
        go_wp2_with fail
        refine HR.out.mono ?_
        rintro e w1 ⟨rfl, hb1⟩
        go_wp2_with fail
        go_roundw
        case rel =>
          refine ⟨i + 1, by omega, rfl, hB.trans (hb1.mono hz), Lib.hid (fun j hj => ?_)⟩
          by_cases e : j < i
          · exact HQ.out j e
          · obtain rfl : j = i := by omega
            exact HQ2.out
        case measure => simp [intOf]; omega
    · obtain rfl : i = l.length := by omega
      clear HT HN
      go_wp2_with fail
      go_ret
      exact ⟨_, rfl, .inl ⟨rfl, HQ.out⟩, hB⟩

end Go.Proofs.YtmaomnpanfdjeaaDoor
