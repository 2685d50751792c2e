/- parse.list over bindings, constructors, rows. The reader alone is written. -/
import Derived.Test.YteaojmcfppbgiaaGreatDoorC1
import Derived.ProofKit
namespace Go.Proofs.YteaojmcfppbgiaaGreatDoor
open Go.RowKit
set_option linter.unusedVariables false
set_option maxRecDepth 100000

end Go.Proofs.YteaojmcfppbgiaaGreatDoor

/- parse: which declaration begins; a declaration. -/
namespace Go.Proofs.YteaojmcfppbgiaaGreatDoor
open Go.RowKit
set_option linter.unusedVariables false
set_option maxRecDepth 100000

theorem Bk.c11 {w : World} {g : Nat} {e : TypeId} {c0 c1 c2 c3 c4 c5 c6 c7 c8 c9 c10 : Value} (h : Bk w g e #[c0, c1, c2, c3, c4, c5, c6, c7, c8, c9, c10]) :
    w.cell? ⟨g, 0, none⟩ = some c0 ∧ w.cell? ⟨g, 1, none⟩ = some c1 ∧ w.cell? ⟨g, 2, none⟩ = some c2 ∧ w.cell? ⟨g, 3, none⟩ = some c3 ∧ w.cell? ⟨g, 4, none⟩ = some c4 ∧ w.cell? ⟨g, 5, none⟩ = some c5 ∧ w.cell? ⟨g, 6, none⟩ = some c6 ∧ w.cell? ⟨g, 7, none⟩ = some c7 ∧ w.cell? ⟨g, 8, none⟩ = some c8 ∧ w.cell? ⟨g, 9, none⟩ = some c9 ∧ w.cell? ⟨g, 10, none⟩ = some c10 :=
  ⟨h.cell 0, h.cell 1, h.cell 2, h.cell 3, h.cell 4, h.cell 5, h.cell 6, h.cell 7, h.cell 8, h.cell 9, h.cell 10⟩
end Go.Proofs.YteaojmcfppbgiaaGreatDoor

/- parse.list over declarations; decls. The reader alone is written. -/
namespace Go.Proofs.YteaojmcfppbgiaaGreatDoor
open Go.RowKit
set_option linter.unusedVariables false
set_option maxRecDepth 100000

/-- Declarations as they lie one behind the other. -/
def DeclAt (w : World) (lo hi : Nat) (A : Option Addr) (l : List DT) (i : Nat) (h : i < l.length) : Prop :=
  ∃ b o p, A = some ⟨b, o, none⟩ ∧ lo ≤ b ∧ b < hi ∧ (∀ r, r < 11 → w.cell? ⟨b, o + i * 11 + r, none⟩ = (kdD.cells (l[i], p))[r]?) ∧ IsDecl w lo hi l[i] p
def DeclsAt (w : World) (lo hi : Nat) (A : Option Addr) (l : List DT) : Prop := ∀ i (h : i < l.length), DeclAt w lo hi A l i h
theorem decls_of {w : World} {base : Nat} {e : TypeId} {A : Option Addr} {c : Nat} {ps : List (DT × DP)} {P : Nat → Prop} (h : RowX kdD w base e (.slice A ps.length c) ps P) (hP : ∀ b, P b → base ≤ b) : DeclsAt w base w.heap.size A (ps.map (·.1)) := by
  intro i hi
  have hi' : i < ps.length := by simpa using hi
  obtain ⟨b, hA, h1, h2, hc, lo, hi2, h3, h4⟩ := h.at_ i hi'
  have hx : (ps.map (·.1))[i] = ps[i].1 := List.getElem_map _
  refine ⟨b, 0, ps[i].2, hA, h1, h2, fun r hr => ?_, by rw [hx]; exact h4.to (fun _ _ _ _ => rfl) (inp_wide hP (fun b hb => (h.far b hb).1) h3)⟩
  rw [hx, Nat.zero_add]
  exact hc r hr
end Go.Proofs.YteaojmcfppbgiaaGreatDoor
