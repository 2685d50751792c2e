/- Blocks of which none is frozen. No program. -/
import Derived.Test.YtofmoggjpgjdgaaDoorM1
namespace Go.Proofs.YtofmoggjpgjdgaaDoor
open Go.RowKit
set_option linter.unusedVariables false

/-- Blocks of which none is frozen. -/
def Cold (w : World) (P : Nat → Prop) : Prop := ∀ b, P b → ∀ q, w.frozen? ⟨b, q, none⟩ = false
theorem Cold.kept {w w' : World} {P : Nat → Prop} (h : Cold w P) (hb : ∀ b, P b → w'.heap[b]? = w.heap[b]?) : Cold w' P := fun b hp q => (World.frozen?_of_block (a := ⟨b, q, none⟩) (hb b hp)).trans (h b hp q)
theorem own_cold {w : World} {base : Nat} {e : TypeId} {size : Nat} {v : Value} {n : Nat} {xs : List Value} (h : w.ownsRow base e size v n xs) : Cold w fun b => v.ownBlock = some b := by
  intro b hb q
  rcases h.2 with ⟨rfl, _⟩ | ⟨g, cap, cur, rfl, _, hg, _⟩
  · simp [Value.ownBlock] at hb
  · have e : g = b := by simpa [Value.ownBlock] using hb
    subst e
    simp [World.frozen?, hg]

end Go.Proofs.YtofmoggjpgjdgaaDoor
