/- Tokens of the same kinds and texts are read alike: the same trees but for offsets. No program. -/
import Derived.Test.YteaojmcfppbgiaaGreatDoorB7
import Derived.Test.YteaojmcfppbgiaaGreatDoorA6
namespace Go.Proofs.YteaojmcfppbgiaaGreatDoor
open Go.RowKit
set_option linter.unusedVariables false
set_option maxRecDepth 100000

/-- The same but for offsets. -/
structure SameTk (L M : List Tk) : Prop where
  len : L.length = M.length
  kind : ∀ k, (tk L k).1 = (tk M k).1
  text : ∀ k, (tk L k).2.1 = (tk M k).2.1
inductive Eqv : RT → RT → Prop
  | node {k a a' : Int} {s : ByteArray} {n : Int} {l l' : List RT} : l.length = l'.length → (∀ i (h : i < l.length) (h' : i < l'.length), Eqv l[i] l'[i]) → Eqv (.node k a s n l) (.node k a' s n l')
def EqvL (l l' : List RT) : Prop := l.length = l'.length ∧ ∀ i (h : i < l.length) (h' : i < l'.length), Eqv l[i] l'[i]
theorem EqvL.nil : EqvL [] [] := ⟨rfl, fun i h => by simp at h⟩
theorem EqvL.cons {t u : RT} {l l' : List RT} (h : Eqv t u) (hl : EqvL l l') : EqvL (t :: l) (u :: l') := by
  refine ⟨by simp [hl.1], fun i h1 h2 => ?_⟩
  match i, h1, h2 with
  | 0, _, _ => exact h
  | i + 1, h1, h2 => exact hl.2 i (by simpa using h1) (by simpa using h2)
theorem EqvL.head {t : RT} {l : List RT} {m : List RT} (h : EqvL (t :: l) m) : ∃ u l', m = u :: l' ∧ Eqv t u ∧ EqvL l l' := by
  obtain ⟨hl, he⟩ := h
  match m, hl, he with
  | u :: l', hl, he =>
    exact ⟨u, l', rfl, he 0 (by simp) (by simp), by simpa using hl, fun i h1 h2 => he (i + 1) (by simpa using h1) (by simpa using h2)⟩
theorem EqvL.one {t : RT} {m : List RT} (h : EqvL [t] m) : ∃ u, m = [u] ∧ Eqv t u := by
  obtain ⟨u, l', rfl, he, hn⟩ := h.head
  have : l' = [] := List.eq_nil_of_length_eq_zero (by have := hn.1; simpa using this.symm)
  subst this
  exact ⟨u, rfl, he⟩
theorem Eqv.list {k a a' : Int} {s : ByteArray} {n : Int} {l l' : List RT} (h : EqvL l l') : Eqv (.node k a s n l) (.node k a' s n l') := .node h.1 h.2
theorem Eqv.two {k a a' : Int} {s : ByteArray} {n : Int} {t u t' u' : RT} (h : Eqv t t') (g : Eqv u u') : Eqv (.node k a s n [t, u]) (.node k a' s n [t', u']) := .list (.cons h (.cons g .nil))
end Go.Proofs.YteaojmcfppbgiaaGreatDoor

/- Trees that are the same but for offsets are as great and as deep; wholes over tokens of the same kinds and texts. No program. -/
namespace Go.Proofs.YteaojmcfppbgiaaGreatDoor
open Go.RowKit
set_option linter.unusedVariables false
set_option maxRecDepth 100000

end Go.Proofs.YteaojmcfppbgiaaGreatDoor

/- The text made of tokens' texts and gaps: it is UTF-8, it isn't long, and its tokens are read alike. No walk. -/
namespace Go.Proofs.YteaojmcfppbgiaaGreatDoor
open Go.RowKit
set_option linter.unusedVariables false
set_option maxRecDepth 100000

/-- A list of bytes that is the bytes of some signs. -/
def Fine (l : List Int) : Prop := ∃ ns, l = encAll ns ∧ ∀ n ∈ ns, rightB n = true
theorem Fine.app {l m : List Int} (h : Fine l) (k : Fine m) : Fine (l ++ m) := by
  obtain ⟨ns, rfl, h⟩ := h
  obtain ⟨ms, rfl, k⟩ := k
  exact ⟨ns ++ ms, (encAll_append _ _).symm, fun n hn => (List.mem_append.1 hn).elim (h n) (k n)⟩
theorem Fine.parse {l : List Int} (h : Fine l) : ∃ ns, Parse l ns [] := by
  obtain ⟨ns, e, h⟩ := h
  exact ⟨ns, by rw [e, List.append_nil], h, rfl⟩
end Go.Proofs.YteaojmcfppbgiaaGreatDoor

/- A plain text given as its tokens, with blanks behind each: it is cut into just these. No program. -/
namespace Go.Proofs.YteaojmcfppbgiaaGreatDoor
open Go.RowKit
set_option linter.unusedVariables false
set_option maxRecDepth 100000

/-- A token's kind, its text, how many blanks stand behind it. -/
abbrev Pc := Int × ByteArray × Nat
end Go.Proofs.YteaojmcfppbgiaaGreatDoor
