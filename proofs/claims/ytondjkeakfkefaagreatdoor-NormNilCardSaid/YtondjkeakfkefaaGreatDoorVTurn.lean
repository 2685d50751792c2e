/- A list from its last to its first: slices.Clone at terms, tele.backwards, the document's Turned. -/
import Derived.Test.YtondjkeakfkefaaGreatDoorM9
import Derived.Test.YtondjkeakfkefaaGreatDoorR4
namespace Go.Proofs.YtondjkeakfkefaaGreatDoor
open Go.RowKit
set_option linter.unusedVariables false
set_option maxRecDepth 100000

/-- A list of terms in memory as a row of cells. -/
theorem terms_row {w : World} {P : Nat → Prop} {k n : Int} {ts : List TM} {A : Option Addr} {cap : Nat} (h : TermIn w P (.node k n ts) A cap) : ∃ ps : List (TM × Option Addr × Nat), ps.map (·.1) = ts ∧ ps.length = ts.length ∧ (∀ p ∈ ps, TermIn w P p.1 p.2.1 p.2.2) ∧
    (0 < ts.length → ∃ b o, A = some ⟨b, o, none⟩ ∧ P b ∧ ∀ j u, (flatM ps)[j]? = some u → w.cell? ⟨b, o + j, none⟩ = some u) := by
  cases h with
  | mk k n l A cap F C hl hm hc hn =>
    have hlen : (List.ofFn fun i : Fin ts.length => (ts[i.val], F i.val, C i.val)).length = ts.length := by simp
    have hget : ∀ i (h : i < ts.length), (List.ofFn fun i : Fin ts.length => (ts[i.val], F i.val, C i.val))[i]'(by rw [hlen]; exact h) = (ts[i], F i, C i) := fun i h => by simp
    refine ⟨List.ofFn fun i : Fin ts.length => (ts[i.val], F i.val, C i.val), ?_, hlen, ?_, fun h0 => ?_⟩
    · apply List.ext_getElem
      · rw [List.length_map, hlen]
      · intro i h1 h2
        rw [List.getElem_map, hget i h2]
    · intro p hp
      rw [List.mem_ofFn] at hp
      obtain ⟨i, rfl⟩ := hp
      exact hn i.val i.isLt
    · obtain ⟨b, o, hA, hb, hx⟩ := hc h0
      refine ⟨b, o, hA, hb, fun j u hj => ?_⟩
      have hjl : j < ts.length * 3 := by
        have h1 := (List.getElem?_eq_some_iff.1 hj).1
        have h2 : (flatM (List.ofFn fun i : Fin ts.length => (ts[i.val], F i.val, C i.val))).length = ts.length * 3 := by
          have : ∀ ps : List (TM × Option Addr × Nat), (flatM ps).length = ps.length * 3 := fun ps => by
            unfold flatM
            rw [List.length_flatMap]
            induction ps with
            | nil => rfl
            | cons p ps ih => simp only [List.map_cons, List.sum_cons, ih, List.length_cons]; show 3 + _ = _; omega
          rw [this, hlen]
        omega
      have hq : j / 3 < ts.length := by omega
      have e : j = j / 3 * 3 + j % 3 := by omega
      have hf := flatM_at (List.ofFn fun i : Fin ts.length => (ts[i.val], F i.val, C i.val)) (j / 3) (j % 3) (by rw [hlen]; exact hq) (by omega)
      rw [← e, hget _ hq] at hf
      rw [hf] at hj
      obtain ⟨x0, x1, x2⟩ := hx (j / 3) hq
      have h3 : j % 3 = 0 ∨ j % 3 = 1 ∨ j % 3 = 2 := by omega
      rcases h3 with h3 | h3 | h3
      · rw [h3] at hj; rw [show o + j = o + j / 3 * 3 by omega, x0]; exact hj
      · rw [h3] at hj; rw [show o + j = o + j / 3 * 3 + 1 by omega, x1]; exact hj
      · rw [h3] at hj; rw [show o + j = o + j / 3 * 3 + 2 by omega, x2]; exact hj
theorem flatM_len (ps : List (TM × Option Addr × Nat)) : (flatM ps).length = ps.length * 3 := by
  unfold flatM
  rw [List.length_flatMap]
  induction ps with
  | nil => rfl
  | cons p ps ih => simp only [List.map_cons, List.sum_cons, ih, List.length_cons]; show 3 + _ = _; omega
end Go.Proofs.YtondjkeakfkefaaGreatDoor
