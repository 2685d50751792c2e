/- The beginning of a formed signature. No program. -/
import Derived.Test.YtcbbaognomddkaaGreatDoorS3
import Derived.Test.YtcbbaognomddkaaGreatDoorSgRAdd
namespace Go.Proofs.YtcbbaognomddkaaGreatDoor
open Go.RowKit
set_option linter.unusedVariables false
set_option maxRecDepth 100000

/-- All names are distinct. -/
theorem dist_names {l : List ET} : distB (namesE l) = true ↔ ∀ j (hj : j < l.length) i (hi : i < j), l[i].s ≠ l[j].s := by
  rw [dist_iff, names_len]
  constructor
  · intro h j hj i hi
    have := h j hj i hi
    rwa [names_at hj, names_at (show i < l.length by omega)] at this
  · intro h j hj i hi
    rw [names_at hj, names_at (show i < l.length by omega)]
    exact h j hj i hi
theorem dist_take {l : List ET} (h : distB (namesE l) = true) (k : Nat) : distB (namesE (l.take k)) = true := by
  rw [dist_names] at h ⊢
  intro j hj i hi
  rw [List.length_take] at hj
  rw [List.getElem_take, List.getElem_take]
  exact h j (by omega) i hi
theorem isB_take_of {l : List ET} {k : Nat} {n c : Int} (h : isB l n c = true) (hn : n < (k : Int)) : isB (l.take k) n c = true := isB_to_take h hn
/-- Places that lie behind what is no constructor and no field lie ahead of it. -/
theorem beh_take {l : List ET} {i : Nat} {first : Int} {places : List Int} {c : Int} {k : Nat} (hk : k < l.length) (h : behB l i first places c = true) (hf : first ≤ (k : Int)) (hc : l[k].k ≠ c) :
    behB (l.take k) i first places c = true := by
  have hall : ∀ q (hq : q < places.length), places[q] < (k : Int) := by
    intro q hq
    rcases Int.lt_or_le (places[q]) (k : Int) with hlt | hge
    · exact hlt
    · exfalso
      obtain ⟨p1, m, p2, hm, p3, p4, p5⟩ := beh_place h hq
      obtain ⟨d, hd⟩ : ∃ d : Nat, (k : Int) = first + (d : Int) := ⟨((k : Int) - first).toNat, by omega⟩
      have hdq : d < places.length := by omega
      obtain ⟨r1, m', r2, hm', r3, r4, r5⟩ := beh_place h hdq
      have : m' = k := by omega
      subst this
      exact hc r3
  unfold behB at h ⊢
  rw [allB_true] at h ⊢
  intro q hq
  have h1 := h q hq
  unfold behQ at h1 ⊢
  rw [List.getElem?_eq_getElem hq] at h1 ⊢
  simp only [placeOk, Bool.and_eq_true, decide_eq_true_eq] at h1 ⊢
  obtain ⟨h2, h3, h4⟩ := h1
  have hlt := hall q hq
  refine ⟨h2, isB_take_of h3 hlt, ?_⟩
  have hn : places[q].toNat < k := by
    have : 0 ≤ places[q] := by
      unfold isB at h3
      simp only [Bool.and_eq_true, decide_eq_true_eq] at h3
      exact h3.1
    omega
  rw [List.getElem?_take, if_pos hn]
  exact h4
theorem ent_take {l : List ET} {k i : Nat} (hk : k < l.length) (h2 : l[k].k ≠ 2) (h4 : l[k].k ≠ 4) (hi : i < k) {x : ET} (h : entP l i x = true) : entP (l.take k) i x = true := by
  unfold entP at h ⊢
  simp only [Bool.and_eq_true] at h ⊢
  obtain ⟨a1, a2, a3, a4⟩ := h
  refine ⟨a1, a2, a3, ?_⟩
  have hti : (l.take k).take i = l.take i := by rw [List.take_take, Nat.min_eq_left (by omega)]
  by_cases k1 : x.k = 1
  · rw [if_pos k1] at a4 ⊢
    unfold famB at a4 ⊢
    simp only [Bool.and_eq_true, Bool.or_eq_true, decide_eq_true_eq] at a4 ⊢
    obtain ⟨b1, b2, b3, b4, b5, b6, b7⟩ := a4
    refine ⟨b1, b2, b3, b4, b5, beh_take hk b6 (by omega) h2, ?_⟩
    rcases b7 with b7 | b7
    · exact .inl b7
    · right
      unfold recB at b7 ⊢
      simp only [Bool.and_eq_true, decide_eq_true_eq] at b7 ⊢
      obtain ⟨c1, c2, ⟨c3, c4⟩, c5⟩ := b7
      have hne : i + 1 ≠ k := by
        intro e
        subst e
        obtain ⟨p1, m, p2, hm, p3, _⟩ := beh_place b6 (q := 0) (by omega)
        have : m = i + 1 := by omega
        subst this
        exact h2 p3
      have hlt : i + 1 < k := by omega
      have e1 : (l.take k)[i + 1]? = l[i + 1]? := by rw [List.getElem?_take, if_pos hlt]
      refine ⟨c1, c2, ⟨?_, ?_⟩, beh_take hk c5 (by omega) h4⟩
      · unfold cntB at c3 ⊢; rw [e1]; exact c3
      · unfold fewB at c4 ⊢; rw [e1]; exact c4
  rw [if_neg k1] at a4 ⊢
  have hfam : isB (l.take i) x.f 1 = true → famAt (l.take k) x = famAt l x := by
    intro hb
    unfold famAt
    by_cases h0 : 0 ≤ x.f
    · rw [if_pos h0, if_pos h0, List.getElem?_take, if_pos]
      unfold isB at hb
      simp only [Bool.and_eq_true, decide_eq_true_eq] at hb
      have := hb.2
      by_cases hl : x.f.toNat < i
      · omega
      · exfalso
        have hn : (l.take i)[x.f.toNat]? = none := List.getElem?_eq_none (by rw [List.length_take]; omega)
        rw [hn] at this
        simp at this
    · rw [if_neg h0, if_neg h0]
  by_cases k2 : x.k = 2
  · rw [if_pos k2] at a4 ⊢
    unfold conB at a4 ⊢
    rw [Bool.and_eq_true] at a4
    rw [hti, a4.1, hfam a4.1]
    exact a4.2
  rw [if_neg k2] at a4 ⊢
  by_cases k4 : x.k = 4
  · rw [if_pos k4] at a4 ⊢
    unfold fldB at a4 ⊢
    rw [Bool.and_eq_true] at a4
    rw [hti, a4.1, hfam a4.1]
    exact a4.2
  rw [if_neg k4] at a4 ⊢
  exact a4
theorem formed_take {l : List ET} {k : Nat} (hk : k < l.length) (h2 : l[k].k ≠ 2) (h4 : l[k].k ≠ 4) (h : formedB l = true) : formedB (l.take k) = true := by
  unfold formedB at h ⊢
  simp only [Bool.and_eq_true, decide_eq_true_eq] at h ⊢
  obtain ⟨a1, a2, a3⟩ := h
  refine ⟨by rw [List.length_take]; omega, dist_take a2 k, ?_⟩
  rw [allB_true] at a3 ⊢
  intro i hi
  rw [List.length_take] at hi
  have hi' : i < l.length := by omega
  have h1 := a3 i hi'
  rw [entQ_at hi'] at h1
  rw [entQ_at (by rw [List.length_take]; omega), List.getElem_take]
  exact ent_take hk h2 h4 (by omega) h1
theorem begins {l : List ET} {k : Nat} (hk : k < l.length) (h2 : l[k].k ≠ 2) (h4 : l[k].k ≠ 4) (h : formedB l = true) : errA (l.take k) (l.drop k) = 0 := by
  have hf := h
  unfold formedB at h
  simp only [Bool.and_eq_true, decide_eq_true_eq] at h
  unfold errA
  rw [if_pos (formed_take hk h2 h4 hf), if_pos (by rw [List.length_take, List.length_drop]; omega), if_neg, List.take_append_drop, if_pos hf]
  rw [Bool.not_eq_true]
  refine twice_no fun j hj => ?_
  rw [List.length_drop] at hj
  cases e : inB (namesE (l.take k)) (l.drop k)[j].s with
  | false => rfl
  | true =>
    exfalso
    unfold inB namesE at e
    rw [List.any_map, List.any_eq_true] at e
    obtain ⟨x, hx, he⟩ := e
    obtain ⟨i, hi, rfl⟩ := List.getElem_of_mem hx
    simp only [Function.comp] at he
    rw [List.length_take] at hi
    rw [List.getElem_take, List.getElem_drop] at he
    have := ne_list (dist_names.1 h.2.1 (k + j) (by omega) i (by omega))
    rw [this] at he
    cases he
theorem find_at {l : List ET} (h : distB (namesE l) = true) {i : Nat} (hi : i < l.length) {r : Int} (hr : FindIs (l.map copyE) l[i].s r) : r = (i : Int) := by
  rw [dist_names] at h
  rcases hr with ⟨_, h2⟩ | ⟨n, rfl, hn, h3, h4⟩
  · have := h2 i (by rw [List.length_map]; exact hi)
    rw [List.getElem_map] at this
    exact absurd rfl this
  · have hn' : n < l.length := by rw [List.length_map] at hn; exact hn
    rw [List.getElem_map] at h3
    have h3' : l[n].s = l[i].s := h3
    rcases Nat.lt_trichotomy n i with h5 | h5 | h5
    · exact absurd h3' (h i hi n h5)
    · rw [h5]
    · exact absurd h3'.symm (h n hn' i h5)

end Go.Proofs.YtcbbaognomddkaaGreatDoor
