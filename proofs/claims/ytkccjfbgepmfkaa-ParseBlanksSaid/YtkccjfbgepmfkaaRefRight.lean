/- Which texts are names, by the document's plain Right: the same as by name.Right. For every string shorter than 2^63 bytes; nothing that was there is written. -/
import Derived.Test.YtkccjfbgepmfkaaA3
namespace Go.Proofs.Ytkccjfbgepmfkaa
open Go.RowKit
set_option maxRecDepth 100000
set_option linter.unusedVariables false

/-- What scholiumref02.Right asks of the sign at a place. -/
def okAt (x : Int) (j : Nat) : Prop := letterB x = true ∨ x = 95 ∨ (j ≠ 0 ∧ (digitB x = true ∨ x = 39))
theorem okAt_within {x : Int} {j : Nat} (h : okAt x j) : withinB x = true := by
  unfold withinB
  rcases h with h | h | ⟨_, h | h⟩ <;> simp [h]
theorem okAt_of {x : Int} {j : Nat} (h : withinB x = true) (hj : j ≠ 0) : okAt x j := by
  unfold withinB at h
  simp only [Bool.or_eq_true, decide_eq_true_eq] at h
  rcases h with h | h | h | h
  · exact .inr (.inl h)
  · exact .inr (.inr ⟨hj, .inr h⟩)
  · exact .inr (.inr ⟨hj, .inl h⟩)
  · exact .inl h

theorem toList_bytes {s : ByteArray} (h : s.toList = [95]) : bytesL s = [95] := by
  rw [ByteArray.toList_eq] at h
  unfold bytesL
  rw [h]; rfl
theorem bytes_toList {s : ByteArray} (h : bytesL s = [95]) : s.toList = [95] := by
  have e : s = ⟨#[95]⟩ := bytesL_inj h
  rw [e, ByteArray.toList_eq]
theorem low_alone {s : ByteArray} {ns : List Int} (hp : Parse (bytesL s) ns []) : s.toList = [95] ↔ ns = [95] := by
  constructor
  · intro h
    have hb := toList_bytes h
    rw [hb] at hp
    exact (parse_unique hp (parse_enc (ns := [95]) (by intro n hn; simp at hn; subst hn; decide))).1
  · rintro rfl
    exact bytes_toList (by have := hp.eq; rw [List.append_nil] at this; exact this)

theorem name_ok {s : ByteArray} {ns : List Int} (h : IsName s ns) : (s.toList == [95]) = false ∧ 0 < ns.length ∧ ∀ j, j < ns.length → okAt (ns.getD j 0) j := by
  obtain ⟨hp, h40, hk, hb, hall⟩ := h
  have hpos : 0 < ns.length := by
    match ns, hb with
    | n :: r, _ => simp
  refine ⟨?_, hpos, fun j hj => ?_⟩
  · rw [beq_eq_false_iff_ne]
    intro e
    rw [(low_alone hp).1 e] at hb
    exact absurd hb (by decide)
  · by_cases hj0 : j = 0
    · subst hj0
      have := (begB_eq hpos).trans hb
      simp only [Bool.or_eq_true, Bool.and_eq_true, decide_eq_true_eq] at this
      rcases this with h | ⟨h, _⟩
      · exact .inl h
      · exact .inr (.inl h)
    · exact okAt_of (all_at.1 hall j hj) hj0
theorem ok_name {s : ByteArray} {ns : List Int} (hp : Parse (bytesL s) ns []) (h40 : s.size ≤ 40) (hk : keyB s = false) (h95 : (s.toList == [95]) = false) (hpos : 0 < ns.length) (hall : ∀ j, j < ns.length → okAt (ns.getD j 0) j) : IsName s ns := by
  refine ⟨hp, h40, hk, ?_, all_at.2 fun j hj => okAt_within (hall j hj)⟩
  rw [← begB_eq hpos]
  rcases hall 0 hpos with h | h | ⟨h, _⟩
  · rw [h]; rfl
  · have h1 : 1 < ns.length := by
      rcases Nat.lt_or_ge 1 ns.length with h1 | h1
      · exact h1
      · exfalso
        rw [beq_eq_false_iff_ne] at h95
        apply h95
        rw [low_alone hp]
        match ns, hpos, h1, h with
        | [n], _, _, h =>
          have : n = 95 := h
          rw [this]
    rw [decide_eq_true h, decide_eq_true h1]; simp
  · exact absurd rfl h


end Go.Proofs.Ytkccjfbgepmfkaa
