/- Where a text stands among others: name.Place and the document's plain Place; whether no two are the same: the document's plain Distinct. For every slice of strings of at most 2^47 elements, nil too; nothing that was there is written. -/
import Derived.Test.YtmaomnpanfdjeaaDoorWord
import Derived.LoopTactic
import Derived.LoopN
import Derived.Lib.Hide
import Derived.RegionTactic
namespace Go.Proofs.YtmaomnpanfdjeaaDoor
open Go.RowKit
set_option linter.unusedVariables false

/-- The last place below n at which p holds; -1 if there is none. -/
def lastF (p : Nat → Bool) : Nat → Int
  | 0 => -1
  | n + 1 => if p n then (n : Int) else lastF p n
theorem lastF_yes {p : Nat → Bool} {n : Nat} (h : p n = true) : lastF p (n + 1) = n := by rw [lastF, h]; rfl
theorem lastF_no {p : Nat → Bool} {n : Nat} (h : p n = false) : lastF p (n + 1) = lastF p n := by rw [lastF, h]; rfl
theorem lastF_lo (p : Nat → Bool) : ∀ n, -1 ≤ lastF p n
  | 0 => by show (-1 : Int) ≤ -1; omega
  | n + 1 => by
    have := lastF_lo p n
    rw [lastF]; split <;> omega
theorem lastF_hi (p : Nat → Bool) : ∀ n, lastF p n < n
  | 0 => by show (-1 : Int) < 0; omega
  | n + 1 => by have := lastF_hi p n; rw [lastF]; split <;> omega
theorem lastF_none {p : Nat → Bool} : ∀ {n : Nat}, lastF p n = -1 ↔ ∀ j, j < n → p j = false
  | 0 => by simp [lastF]
  | n + 1 => by
    cases h : p n with
    | true =>
      rw [lastF_yes h]
      constructor
      · intro e; omega
      · intro e; rw [e n (by omega)] at h; cases h
    | false =>
      rw [lastF_no h, lastF_none]
      constructor
      · intro e j hj
        by_cases hjn : j < n
        · exact e j hjn
        · obtain rfl : j = n := by omega
          exact h
      · exact fun e j hj => e j (by omega)
theorem lastF_some {p : Nat → Bool} {k : Nat} : ∀ {n : Nat}, k < n → p k = true → (∀ j, k < j → j < n → p j = false) → lastF p n = k
  | n + 1, hk, h, hn => by
    by_cases hkn : k = n
    · subst hkn; exact lastF_yes h
    · rw [lastF_no (hn n (by omega) (by omega))]
      exact lastF_some (by omega) h (fun j hj hjn => hn j hj (by omega))

/-- Which of the texts are s? -/
def isAt (ss : List ByteArray) (s : ByteArray) (j : Nat) : Bool := (ss.getD j ByteArray.empty).toList == s.toList
theorem isAt_true {ss : List ByteArray} {s : ByteArray} {j : Nat} : isAt ss s j = true ↔ ss.getD j ByteArray.empty = s := by
  unfold isAt
  constructor
  · intro h
    by_cases e : ss.getD j ByteArray.empty = s
    · exact e
    · rw [ne_list e] at h; cases h
  · exact eq_list
/-- The last place of a text. -/
def placeI (ss : List ByteArray) (s : ByteArray) : Int := lastF (isAt ss s) ss.length

/-- A slice of strings lies at an address. -/
structure StrRow (w : World) (a : Option Addr) (len : Nat) (ss : List ByteArray) : Prop where
  length : ss.length = len
  max : len ≤ 140737488355328
  size : ∀ s ∈ ss, s.size ≤ maxLen
  cells : len = 0 ∨ ∃ b off, a = some ⟨b, off, none⟩ ∧ b < w.heap.size ∧ ∀ j, j < len → w.cell? ⟨b, off + j, none⟩ = some (.string (ss.getD j ByteArray.empty))

theorem StrRow.below {w w' : World} {a : Option Addr} {len : Nat} {ss : List ByteArray} (h : StrRow w a len ss) (hb : Below w.heap.size w w') : StrRow w' a len ss := by
  refine ⟨h.length, h.max, h.size, ?_⟩
  rcases h.cells with h0 | ⟨b, off, ha, hlt, hc⟩
  · exact .inl h0
  · have hs := hb.size
    exact .inr ⟨b, off, ha, by omega, fun j hj => (hb.cell (p := ⟨b, off + j, none⟩) hlt).trans (hc j hj)⟩

theorem getD_size {ss : List ByteArray} (h : ∀ s ∈ ss, s.size ≤ maxLen) (j : Nat) : (ss.getD j ByteArray.empty).size ≤ maxLen := by
  by_cases hk : j < ss.length
  · rw [List.getD, List.getElem?_eq_getElem hk]
    exact h _ (List.getElem_mem hk)
  · rw [List.getD, List.getElem?_eq_none (by omega)]
    exact Nat.zero_le _

/-- No two texts are the same: each one's last place is its own. -/
def distB (ss : List ByteArray) : Bool := decide (∀ j, j < ss.length → placeI ss (ss.getD j ByteArray.empty) = j)

end Go.Proofs.YtmaomnpanfdjeaaDoor
