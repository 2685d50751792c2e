/- A term in a box of its own, which stays over calls; the same terms are one. -/
import Derived.Test.YtofmoggjpgjdgaaDoorTAwake
import Derived.Test.YtofmoggjpgjdgaaDoorTREqual
import Derived.Test.YtofmoggjpgjdgaaDoorTRGood
namespace Go.Proofs.YtofmoggjpgjdgaaDoor
open Go.RowKit
set_option linter.unusedVariables false
set_option maxRecDepth 100000

/-- The three cells of a term's box. -/
structure TBox (W : World) (g : Nat) (k n : Int) (v : Value) : Prop where
  c0 : W.cell? ⟨g, 0, none⟩ = some (.int .i64 k)
  c1 : W.cell? ⟨g, 1, none⟩ = some (.int .i64 n)
  c2 : W.cell? ⟨g, 2, none⟩ = some v
  lt : g < W.heap.size
theorem TBox.of {W : World} {g : Nat} {e : TypeId} {k n : Int} {v : Value} (h : Bk W g e #[.int .i64 k, .int .i64 n, v]) : TBox W g k n v := ⟨h.cell 0, h.cell 1, h.cell 2, h.lt⟩
theorem TBox.kept {W W' : World} {g B : Nat} {k n : Int} {v : Value} (h : TBox W g k n v) (hb : Below B W W') (hg : g < B) : TBox W' g k n v :=
  ⟨(hb.cell (p := ⟨g, 0, none⟩) hg).trans h.c0, (hb.cell (p := ⟨g, 1, none⟩) hg).trans h.c1, (hb.cell (p := ⟨g, 2, none⟩) hg).trans h.c2, Nat.lt_of_lt_of_le h.lt hb.size⟩

theorem alikeT_eq : ∀ t u : TM, alikeT t u = true ↔ t = u := by
  intro t
  induction t using TM.ind with
  | h k n l ih =>
    rintro ⟨k', n', l'⟩
    rw [alikeT_node]
    constructor
    · intro h
      simp only [Bool.and_eq_true, decide_eq_true_eq] at h
      obtain ⟨rfl, rfl, h⟩ := h
      have hl : l.length = l'.length := by
        by_cases hl : l.length = l'.length
        · exact hl
        · rw [pairsM_len hl] at h; cases h
      rw [pairsM_eq hl] at h
      have e : l = l' := by
        refine List.ext_getElem hl fun i h1 h2 => ?_
        have := allB_true.1 h i h1
        rw [pairTm_of alikeT h1 h2] at this
        exact (ih _ (List.getElem_mem h1) _).1 this
      rw [e]
    · intro h
      have h3 : k = k' ∧ n = n' ∧ l = l' := by injection h with h1 h2 h3; exact ⟨h1, h2, h3⟩
      obtain ⟨rfl, rfl, rfl⟩ := h3
      simp only [Bool.and_eq_true, decide_eq_true_eq]
      refine ⟨trivial, trivial, ?_⟩
      rw [pairsM_eq rfl]
      refine allB_true.2 fun i hi => ?_
      rw [pairTm_of alikeT hi hi]
      exact (ih _ (List.getElem_mem hi) _).2 rfl
theorem alikeT_refl (t : TM) : alikeT t t = true := (alikeT_eq t t).2 rfl
theorem alikeT_symm (t u : TM) : alikeT t u = alikeT u t := by
  have h1 := alikeT_eq t u
  have h2 := alikeT_eq u t
  cases e1 : alikeT t u <;> cases e2 : alikeT u t <;> simp_all
/-- Shaped, both, and the same. -/
def bothB (t u : TM) : Bool := shapedB t && (shapedB u && alikeT t u)
theorem same_both (t u : TM) : tsameB t u = bothB t u := by
  unfold tsameB bothB
  cases e : alikeT t u with
  | false => simp
  | true =>
    have := (alikeT_eq t u).1 e
    subst this
    cases shapedB t <;> simp
theorem same_both2 (t u : TM) : tsameB u t = bothB t u := by
  rw [same_both]
  unfold bothB
  rw [alikeT_symm u t]
  cases shapedB t <;> cases shapedB u <;> rfl

end Go.Proofs.YtofmoggjpgjdgaaDoor
