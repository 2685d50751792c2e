import Derived.Test.YtchllgkgjompgaaGreatDoorM4
import Derived.Deep.RegionHeld3
import Derived.IntWalk
import Derived.Test.YtchllgkgjompgaaGreatDoorM2
namespace Go.Proofs.YtchllgkgjompgaaGreatDoor
open Go.RowKit
set_option linter.unusedVariables false
set_option maxRecDepth 100000

/-- The first Subs of a node, as a source. -/
theorem TermIn.first {w : World} {P : Nat → Prop} {t : TM} {A : Option Addr} {cap : Nat} (h : TermIn w P t A cap) (m : Nat) (hm : m ≤ t.l.length) :
    ∃ ps : List (TM × Option Addr × Nat), ps.map (·.1) = t.l.take m ∧ ps.length = m ∧ (∀ W : World, (∀ b o, P b → W.cell? ⟨b, o, none⟩ = w.cell? ⟨b, o, none⟩) → Src W 3 A m (flatM ps)) ∧ ∀ p ∈ ps, TermIn w P p.1 p.2.1 p.2.2 := by
  cases h with
  | mk k n l A cap F C hl hmx hc hn =>
    have hm' : m ≤ l.length := hm
    have hlt : ∀ i : Fin m, i.val < l.length := fun i => by have := i.isLt; omega
    refine ⟨List.ofFn fun i : Fin m => (l[i.val]'(hlt i), F i.val, C i.val), ?_, by simp, ?_, ?_⟩
    · apply List.ext_getElem
      · simp [TM.l]; omega
      · intro i h1 h2
        simp [TM.l]
    · have hlen : ∀ ps : List (TM × Option Addr × Nat), (flatM ps).length = ps.length * 3 := by
        intro ps
        induction ps with
        | nil => rfl
        | cons p ps ih =>
          show (cellsM p ++ flatM ps).length = _
          rw [List.length_append, ih]; simp [cellsM]; omega
      refine fun W hW => ⟨by rw [hlen]; simp, fun h0 => ?_⟩
      obtain ⟨b, o, hA, hPb, hx⟩ := hc (by omega)
      refine ⟨_, hA, fun j u hu => ?_⟩
      have hj : j < m * 3 := by
        have := (List.getElem?_eq_some_iff.1 hu).1
        rw [hlen] at this
        simpa using this
      have hjm : j / 3 < m := by omega
      have e : j = j / 3 * 3 + j % 3 := by omega
      have hat := flatM_at (List.ofFn fun i : Fin m => (l[i.val]'(hlt i), F i.val, C i.val)) (j / 3) (j % 3) (by simpa using hjm) (by omega)
      rw [← e, hu] at hat
      have hcell := hx (j / 3) (by omega)
      rw [Addr.add_lit]
      have e2 : o + j = o + j / 3 * 3 + j % 3 := by omega
      rw [e2, hW b _ hPb]
      obtain ⟨y0, y1, y2⟩ := hcell
      have h5 : j % 3 = 0 ∨ j % 3 = 1 ∨ j % 3 = 2 := by omega
      simp only [List.getElem_ofFn] at hat
      rcases h5 with h5 | h5 | h5 <;> rw [h5] at hat ⊢
      · rw [Nat.add_zero, y0, hat]; rfl
      · rw [y1, hat]; rfl
      · rw [y2, hat]; rfl
    · intro p hp
      obtain ⟨i, rfl⟩ := (List.mem_ofFn).1 hp
      exact hn _ _

theorem flatM_append (ps qs : List (TM × Option Addr × Nat)) : flatM (ps ++ qs) = flatM ps ++ flatM qs := by unfold flatM; rw [List.flatMap_append]
/-- Rows that a call made: many more at once. -/
theorem TermRow.more {w w' : World} {base : Nat} {e : TypeId} {v v' : Value} {ps qs : List (TM × Option Addr × Nat)} {P : Nat → Prop} (h : TermRow w base e v ps P)
    (hn : ∀ p ∈ qs, TermIn w P p.1 p.2.1 p.2.2) (ha : AppTo w base e 3 v (ps.length + qs.length) (flatM ps ++ flatM qs) v' w') : TermRow w' base e v' (ps ++ qs) P := by
  obtain ⟨hr, hg, ho⟩ := ha
  have hcell : ∀ b o, P b → w'.cell? ⟨b, o, none⟩ = w.cell? ⟨b, o, none⟩ := fun b o hb' => World.cell?_of_block (a := ⟨b, o, none⟩) (hg.block b (h.far b hb').1 (fun e => (h.far b hb').2 e.symm))
  refine ⟨by rw [flatM_append, List.length_append]; exact hr, fun b hb' => ⟨Nat.lt_of_lt_of_le (h.far b hb').1 hg.size, fun e => ?_⟩, fun q hq => ?_⟩
  · rcases ho with ho | ho
    · exact (h.far b hb').2 (ho.symm.trans e)
    · have := (h.far b hb').1
      rw [ho] at e
      injection e with e
      omega
  · rcases List.mem_append.1 hq with hq | hq
    · exact (h.node q hq).imp hcell (fun _ h => h)
    · exact (hn q hq).imp hcell (fun _ h => h)
theorem TermRow.app {w w' : World} {base : Nat} {e : TypeId} {v v' : Value} {ps qs : List (TM × Option Addr × Nat)} {P : Nat → Prop} {n m : Nat} (h : TermRow w base e v ps P) (hn : ps.length = n) (hm : qs.length = m)
    (hq : ∀ p ∈ qs, TermIn w P p.1 p.2.1 p.2.2) (ha : AppTo w base e 3 v (n + m) (flatM ps ++ flatM qs) v' w') : TermRow w' base e v' (ps ++ qs) P := by
  subst hn; subst hm; exact h.more hq ha



theorem TermRow.base {w : World} {base base' : Nat} {e : TypeId} {v : Value} {ps : List (TM × Option Addr × Nat)} {P : Nat → Prop} (h : TermRow w base e v ps P) (hb : base' ≤ base) : TermRow w base' e v ps P := by
  refine ⟨⟨h.row.1, ?_⟩, h.far, h.node⟩
  rcases h.row.2 with h1 | ⟨g, cap, cur, h1, h2, h3⟩
  · exact .inl h1
  · exact .inr ⟨g, cap, cur, h1, by omega, h3⟩
/-- A row stays over an append to another one. -/
theorem TermRow.over {w w' : World} {base : Nat} {e : TypeId} {v : Value} {ps : List (TM × Option Addr × Nat)} {P : Nat → Prop} {row : Option Nat} (h : TermRow w base e v ps P) (hg : w.grownBy w' row) (h1 : v.ownBlock = none ∨ v.ownBlock ≠ row) (h2 : ∀ b, P b → some b ≠ row) : TermRow w' base e v ps P :=
  h.kept hg.size (h.row.kept hg h1) (fun b hb => hg.block b (h.far b hb).1 (h2 b hb))

end Go.Proofs.YtchllgkgjompgaaGreatDoor
