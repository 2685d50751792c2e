/- scholiumref07.put: a number among rising ones. -/
import Derived.Test.YtodmnollgejgeaaDoorTNums
namespace Go.Proofs.YtodmnollgejgeaaDoor
open Go.RowKit
set_option linter.unusedVariables false
set_option maxRecDepth 100000

def putStep (n : Int) (s : List Int × Bool) (a : Int) : List Int × Bool := if s.2 = false ∧ n ≤ a then ((if n < a then s.1 ++ [n] else s.1) ++ [a], true) else (s.1 ++ [a], s.2)
def putF (l : List Int) (n : Int) : List Int × Bool := l.foldl (putStep n) ([], false)
def putL (l : List Int) (n : Int) : List Int := if (putF l n).2 then (putF l n).1 else (putF l n).1 ++ [n]
theorem putF_snoc (l : List Int) (a n : Int) : putF (l ++ [a]) n = putStep n (putF l n) a := by unfold putF; rw [List.foldl_append]; rfl
theorem putF_take {l : List Int} {n : Int} {i : Nat} (h : i < l.length) : putF (l.take (i + 1)) n = putStep n (putF (l.take i) n) l[i] := by
  rw [List.take_succ_eq_append_getElem h, putF_snoc]
theorem putF_len : ∀ (m : Nat) (l : List Int) (n : Int), l.length = m → (putF l n).1.length ≤ m + 1 ∧ ((putF l n).2 = false → (putF l n).1.length = m)
  | 0, l, n, h => by
    obtain rfl := List.eq_nil_of_length_eq_zero h
    simp [putF]
  | m + 1, l, n, h => by
    rcases List.eq_nil_or_concat l with rfl | ⟨q, a, rfl⟩
    · simp at h
    · rw [List.concat_eq_append] at h ⊢
      have hq : q.length = m := by simpa using h
      obtain ⟨h1, h2⟩ := putF_len m q n hq
      rw [putF_snoc]
      unfold putStep
      split
      · rename_i hc
        have := h2 hc.1
        refine ⟨?_, fun e => by cases e⟩
        split <;> simp <;> omega
      · refine ⟨by simp; omega, fun e => by simp; exact h2 e⟩
theorem putF_spec : ∀ (m : Nat) (l : List Int) (n : Int), l.length = m → l.Pairwise (· < ·) →
    ((putF l n).2 = false → (putF l n).1 = l ∧ ∀ x ∈ l, x < n) ∧
    ((putF l n).2 = true → (putF l n).1.Pairwise (· < ·) ∧ (∀ x, x ∈ (putF l n).1 ↔ x = n ∨ x ∈ l) ∧ ∀ x ∈ (putF l n).1, ∃ z ∈ l, x ≤ z)
  | 0, l, n, h, _ => by
    obtain rfl := List.eq_nil_of_length_eq_zero h
    exact ⟨(fun _ => ⟨rfl, (fun x hx => by cases hx)⟩), (fun e => by cases e)⟩
  | m + 1, l, n, h, hp => by
    rcases List.eq_nil_or_concat l with rfl | ⟨q, a, rfl⟩
    · simp at h
    · rw [List.concat_eq_append] at h hp ⊢
      have hq : q.length = m := by simpa using h
      rw [List.pairwise_append] at hp
      obtain ⟨hp1, _, hp3⟩ := hp
      have hlast : ∀ z ∈ q, z < a := fun z hz => hp3 z hz a (by simp)
      obtain ⟨h1, h2⟩ := putF_spec m q n hq hp1
      rw [putF_snoc]
      unfold putStep
      split
      · rename_i hc
        obtain ⟨e1, e2⟩ := h1 hc.1
        refine ⟨(fun e => by cases e), fun _ => ?_⟩
        rw [e1]
        by_cases hna : n < a
        · rw [if_pos hna]
          refine ⟨?_, fun x => ?_, fun x hx => ⟨a, by simp, ?_⟩⟩
          · rw [List.append_assoc]
            refine List.pairwise_append.2 ⟨hp1, by simp; exact hna, fun x hx y hy => ?_⟩
            have h3 : y = n ∨ y = a := by simpa using hy
            rcases h3 with rfl | rfl
            · exact e2 x hx
            · exact hlast x hx
          · simp only [List.mem_append, List.mem_singleton]
            constructor
            · rintro ((h | h) | h)
              · exact .inr (.inl h)
              · exact .inl h
              · exact .inr (.inr h)
            · rintro (h | h | h)
              · exact .inl (.inr h)
              · exact .inl (.inl h)
              · exact .inr h
          · have h3 : x ∈ q ∨ x = n ∨ x = a := by simpa using hx
            rcases h3 with h | h | h
            · have := hlast x h; omega
            · omega
            · omega
        · rw [if_neg hna]
          have hea : a = n := by omega
          refine ⟨List.pairwise_append.2 ⟨hp1, List.pairwise_singleton _ _, fun x hx y hy => ?_⟩, fun x => ?_, fun x hx => ⟨x, by simpa using hx, Int.le_refl _⟩⟩
          · obtain rfl : y = a := by simpa using hy
            exact hlast x hx
          · simp only [List.mem_append, List.mem_singleton]
            constructor
            · exact fun h => .inr h
            · rintro (h | h)
              · exact .inr (by omega)
              · exact h
      · rename_i hc
        refine ⟨fun e => ?_, fun e => ?_⟩
        · obtain ⟨e1, e2⟩ := h1 e
          have hlt : a < n := by
            by_cases hx : n ≤ a
            · exact (hc ⟨e, hx⟩).elim
            · omega
          refine ⟨by show (putF q n).1 ++ [a] = _; rw [e1], fun x hx => ?_⟩
          have h3 : x ∈ q ∨ x = a := by simpa using hx
          rcases h3 with h | rfl
          · exact e2 x h
          · exact hlt
        · obtain ⟨e1, e2, e3⟩ := h2 e
          show ((putF q n).1 ++ [a]).Pairwise _ ∧ (∀ x, x ∈ (putF q n).1 ++ [a] ↔ _) ∧ ∀ x ∈ (putF q n).1 ++ [a], _
          refine ⟨List.pairwise_append.2 ⟨e1, List.pairwise_singleton _ _, fun x hx y hy => ?_⟩, fun x => ?_, fun x hx => ?_⟩
          · obtain rfl : y = a := by simpa using hy
            obtain ⟨z, hz, hxz⟩ := e3 x hx
            have := hlast z hz
            omega
          · simp only [List.mem_append, List.mem_singleton, e2]
            constructor
            · rintro ((h | h) | h)
              · exact .inl h
              · exact .inr (.inl h)
              · exact .inr (.inr h)
            · rintro (h | h | h)
              · exact .inl (.inl h)
              · exact .inl (.inr h)
              · exact .inr h
          · have h3 : x ∈ (putF q n).1 ∨ x = a := by simpa using hx
            rcases h3 with h | rfl
            · obtain ⟨z, hz, hxz⟩ := e3 x h
              exact ⟨z, by simp [hz], hxz⟩
            · exact ⟨x, by simp, Int.le_refl _⟩
/-- One more number among those of a list. -/
theorem putL_set (c : List Int) (n : Int) : putL (setL c) n = setL (c ++ [n]) := by
  have hr := setL_rising c
  obtain ⟨h1, h2⟩ := putF_spec (setL c).length (setL c) n rfl hr
  refine rising_one _ _ ?_ (setL_rising _) fun x => ?_
  · unfold putL
    cases e : (putF (setL c) n).2 with
    | true => rw [if_pos rfl]; exact (h2 e).1
    | false =>
      rw [if_neg (by simp)]
      obtain ⟨e1, e2⟩ := h1 e
      rw [e1]
      exact List.pairwise_append.2 ⟨hr, List.pairwise_singleton _ _, fun x hx y hy => by
        obtain rfl : y = n := by simpa using hy
        exact e2 x hx⟩
  · rw [setL_mem, List.mem_append, List.mem_singleton]
    unfold putL
    cases e : (putF (setL c) n).2 with
    | true =>
      rw [if_pos rfl, (h2 e).2.1, setL_mem]
      exact or_comm
    | false =>
      rw [if_neg (by simp), (h1 e).1, List.mem_append, List.mem_singleton, setL_mem]

end Go.Proofs.YtodmnollgejgeaaDoor
