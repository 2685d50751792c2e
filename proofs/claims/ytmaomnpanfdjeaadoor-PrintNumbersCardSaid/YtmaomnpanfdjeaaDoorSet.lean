/- Sets of texts: name.set makes one, name.holds asks it, name.Distinct counts it. For every slice of strings of at most 2^43 elements, nil too; nothing that was there is written. -/
import Derived.Test.YtmaomnpanfdjeaaDoorPlace
import Derived.Maps.OwnSet
import Derived.ProofKit
namespace Go.Proofs.YtmaomnpanfdjeaaDoor
open Go.RowKit Go.Maps Go.WideMaps
set_option linter.unusedVariables false

def keyAt (ss : List ByteArray) (k : Nat) : Lit := .string (ss.getD k ByteArray.empty).data.toList
def keys (ss : List ByteArray) (k : Nat) : List Lit := (ss.take k).map fun s => .string s.data.toList
/-- The set of the first k texts. -/
def Sn (ss : List ByteArray) (k : Nat) : DataW Unit := setOf (.agg []) (keys ss k)
theorem keys_succ (ss : List ByteArray) (k : Nat) (hk : k < ss.length) : keys ss (k + 1) = keys ss k ++ [keyAt ss k] := by
  unfold keys keyAt
  rw [List.take_add_one, List.map_append]
  simp [List.getD, List.getElem?_eq_getElem hk]
theorem Sn_succ (ss : List ByteArray) (k : Nat) (hk : k < ss.length) : Sn ss (k + 1) = (Sn ss k).put (keyAt ss k) (.agg []) := by
  unfold Sn
  rw [keys_succ ss k hk, setOf_snoc]
theorem Sn_zero (ss : List ByteArray) : Sn ss 0 = .map [] := by simp [Sn, keys, setOf]

theorem law9 : Keyed Tryd.prog 9 := string_keyed Tryd.underlying9
theorem key_ok {s : ByteArray} (h : s.size ≤ maxLen) : keyOf Tryd.prog 9 (.string s) = some (.string s.data.toList) := keyOf_string_mk Tryd.underlying9 h
/-- A set of just these texts lies in block B. -/
def IsSet (w : World) (B n : Nat) (ss : List ByteArray) : Prop := w.ownsMap Tryd.prog 9 (unitElem (H := Unit)) B n (Sn ss ss.length)

theorem grown_below' {w w' : World} (hb : Below w.heap.size w w') : w.grownBy w' none := ⟨hb.os, hb.tape, hb.output, hb.size, fun k hk _ => hb.block k hk⟩
theorem ownsMap_below {w w' : World} {P : Program} {k : TypeId} {R : Value → Option (DataW Unit × List MemPlace)} {B n : Nat} {D : DataW Unit} (h : w.ownsMap P k R B n D) (hb : Below w.heap.size w w') : w'.ownsMap P k R B n D := by
  obtain ⟨es, clock, he, r⟩ := h
  have hlt : B < w.heap.size := by
    rcases Nat.lt_or_ge B w.heap.size with h | h
    · exact h
    · rw [Array.getElem?_eq_none h] at he; cases he
  exact ⟨es, clock, (hb.block B hlt).trans he, r⟩
theorem IsSet.below {w w' : World} {B n : Nat} {ss : List ByteArray} (h : IsSet w B n ss) (hb : Below w.heap.size w w') : IsSet w' B n ss := ownsMap_below h hb

theorem key_lit (ss : List ByteArray) (k : Nat) : ∀ x ∈ keys ss k, WideAt.IsKeyLit x := by
  intro x hx
  obtain ⟨_, _, rfl⟩ := List.mem_map.1 hx
  trivial

theorem same_string (s t : ByteArray) : (Lit.string s.data.toList).sameKey (.string t.data.toList) = (s.toList == t.toList) := by
  rw [ByteArray.toList_eq, ByteArray.toList_eq]
  rfl

theorem tidy_Sn (ss : List ByteArray) (k : Nat) : Tidy (Sn ss k) := tidy_setOf _ _ (key_lit ss k)
/-- A text is in the set just if it is among the first k. -/
theorem has_Sn (ss : List ByteArray) (k : Nat) (s : ByteArray) : Maps.has (Sn ss k) (.string s.data.toList) = (ss.take k).any fun x => x.toList == s.toList := by
  unfold Sn
  rw [has_setOf _ _ _ (key_lit ss k)]
  unfold keys
  rw [List.any_map]
  congr 1
  funext x
  exact same_string x s

/-- Is a text among others? -/
def inB (ss : List ByteArray) (s : ByteArray) : Bool := ss.any fun x => x.toList == s.toList
theorem has_all (ss : List ByteArray) (s : ByteArray) : Maps.has (Sn ss ss.length) (.string s.data.toList) = inB ss s := by
  rw [has_Sn, List.take_length]; rfl

theorem size_Sn_le (ss : List ByteArray) : ∀ k, k ≤ ss.length → Maps.size (Sn ss k) ≤ k
  | 0, _ => by rw [Sn_zero]; exact Nat.le_refl _
  | k + 1, h => by
    have ih := size_Sn_le ss k (by omega)
    rw [Sn_succ ss k (by omega), size_put (tidy_Sn ss k)]
    show (if Maps.has (Sn ss k) (keyAt ss k) = true then Maps.size (Sn ss k) else Maps.size (Sn ss k) + 1) ≤ k + 1
    split <;> omega

/-- The set of the first k has k elements just if no two of them are the same. -/
theorem size_Sn (ss : List ByteArray) : ∀ k, k ≤ ss.length → (Maps.size (Sn ss k) = k ↔ ∀ j, j < k → ∀ i, i < j → ss.getD i ByteArray.empty ≠ ss.getD j ByteArray.empty)
  | 0, _ => by rw [Sn_zero]; exact ⟨fun _ j hj => absurd hj (Nat.not_lt_zero j), fun _ => rfl⟩
  | k + 1, h => by
    have ih := size_Sn ss k (by omega)
    have hle := size_Sn_le ss k (by omega)
    have hs : Maps.size (Sn ss (k + 1)) = if Maps.has (Sn ss k) (keyAt ss k) = true then Maps.size (Sn ss k) else Maps.size (Sn ss k) + 1 := by
      rw [Sn_succ ss k (by omega), size_put (tidy_Sn ss k)]
    have hh : Maps.has (Sn ss k) (keyAt ss k) = true ↔ ∃ i, i < k ∧ ss.getD i ByteArray.empty = ss.getD k ByteArray.empty := by
      unfold keyAt
      rw [has_Sn, List.any_eq_true]
      constructor
      · rintro ⟨x, hx, he⟩
        obtain ⟨i, hi, rfl⟩ := List.getElem_of_mem hx
        have hik : i < k := by rw [List.length_take] at hi; omega
        refine ⟨i, hik, ?_⟩
        by_cases e : ss.getD i ByteArray.empty = ss.getD k ByteArray.empty
        · exact e
        · have := ne_list e
          rw [List.getElem_take] at he
          rw [List.getD, List.getElem?_eq_getElem (by omega : i < ss.length)] at this
          rw [Option.getD_some] at this
          rw [this] at he; cases he
      · rintro ⟨i, hi, he⟩
        refine ⟨ss.getD i ByteArray.empty, ?_, eq_list he⟩
        rw [List.getD, List.getElem?_eq_getElem (by omega : i < ss.length)]
        exact List.mem_take_iff_getElem.2 ⟨i, by omega, rfl⟩
    rw [hs]
    by_cases hc : Maps.has (Sn ss k) (keyAt ss k) = true
    · rw [if_pos hc]
      constructor
      · intro e; omega
      · intro hall
        obtain ⟨i, hi, he⟩ := hh.1 hc
        exact absurd he (hall k (by omega) i hi)
    · rw [if_neg hc]
      constructor
      · intro e j hj i hi
        by_cases hjk : j < k
        · exact (ih.1 (by omega)) j hjk i hi
        · obtain rfl : j = k := by omega
          exact fun he => hc (hh.2 ⟨i, hi, he⟩)
      · intro hall
        have := ih.2 (fun j hj => hall j (by omega))
        omega

theorem dist_iff (ss : List ByteArray) : distB ss = true ↔ ∀ j, j < ss.length → ∀ i, i < j → ss.getD i ByteArray.empty ≠ ss.getD j ByteArray.empty := by
  unfold distB
  rw [decide_eq_true_eq]
  constructor
  · intro h j hj i hi e
    have h1 := h i (by omega)
    rw [e, h j hj] at h1
    omega
  · intro h j hj
    refine lastF_some hj (isAt_true.2 rfl) (fun k hk hkl => ?_)
    cases hc : isAt ss (ss.getD j ByteArray.empty) k with
    | false => rfl
    | true => exact absurd (isAt_true.1 hc).symm (h k hkl j hk)

theorem in_place (ss : List ByteArray) (s : ByteArray) : inB ss s = false ↔ placeI ss s = -1 := by
  unfold placeI
  rw [lastF_none]
  unfold inB
  rw [← Bool.not_eq_true, List.any_eq_true]
  constructor
  · intro h j hj
    cases hc : isAt ss s j with
    | false => rfl
    | true =>
      refine absurd ⟨ss.getD j ByteArray.empty, ?_, ?_⟩ h
      · rw [List.getD, List.getElem?_eq_getElem hj]; exact List.getElem_mem hj
      · exact hc
  · rintro h ⟨x, hx, he⟩
    obtain ⟨i, hi, rfl⟩ := List.getElem_of_mem hx
    have := h i hi
    unfold isAt at this
    rw [List.getD, List.getElem?_eq_getElem hi, Option.getD_some, he] at this
    cases this

end Go.Proofs.YtmaomnpanfdjeaaDoor
