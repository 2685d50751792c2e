/- A slice of ints that came in: its elements as a list, its cells. No program. -/
import Derived.Test.YtcmmkdihknjfnaaAll
namespace Go.Proofs.Ytcmmkdihknjfnaa
open Go.RowKit
set_option linter.unusedVariables false

/-- A slice of integers that came in. -/
def IsRow (k : IntKind) (w : World) (a : Option Addr) (len cap : Nat) (zs : List Int) : Prop :=
  (a = none ∧ len = 0 ∧ cap = 0 ∧ zs = []) ∨
  ∃ x, a = some x ∧ len ≤ cap ∧ cap ≤ maxLen ∧ zs.length = cap ∧ (∀ i, i < zs.length → w.cell? (x.add i) = some (.int k (zs.getD i 0))) ∧ ∀ n ∈ zs, (Lit.int k n).wf = true

theorem cells_below {b off n : Nat} {xs : List Int} {w w1 : World} (hc : ∀ i, i < n → w.cell? ⟨b, off + i, none⟩ = some (.int .i64 (xs.getD i 0))) (hb : Below w.heap.size w w1) :
    ∀ i, i < n → w1.cell? ⟨b, off + i, none⟩ = some (.int .i64 (xs.getD i 0)) :=
  fun i hi => (hb.cell (World.block_lt_of_cell? w _ (hc i hi))).trans (hc i hi)

/-- A row that came in and is not empty: its elements as a list. -/
theorem row_open {w : World} {a : Option Addr} {len cap : Nat} {z : List Int} (h : IsRow .i64 w a len cap z) (h0 : len ≠ 0) :
    ∃ (b off : Nat) (xs : List Int), a = some ⟨b, off, none⟩ ∧ xs.length = len ∧ ∀ i, i < len → w.cell? ⟨b, off + i, none⟩ = some (.int .i64 (xs.getD i 0)) := by
  rcases h with ⟨_, h1, _⟩ | ⟨x, rfl, hl, hm, hz, hcell, _⟩
  · exact absurd h1 h0
  · obtain ⟨b, off, spot⟩ := x
    have hc := hcell 0 (by omega)
    have hspot : spot = none := by simpa [Addr.add] using World.cell?_spot hc
    subst hspot
    refine ⟨b, off, z.take len, rfl, by rw [List.length_take]; omega, fun i hi => ?_⟩
    have := hcell i (by omega)
    rw [Addr.add_lit] at this
    rw [this]
    simp [List.getD, hi]

theorem bad_or_all (xs : List Int) (n : Nat) : (∃ p, p < n ∧ rightB (xs.getD p 0) = false) ∨ ∀ i, i < n → rightB (xs.getD i 0) = true := by
  by_cases h : ∃ p, p < n ∧ rightB (xs.getD p 0) = false
  · exact .inl h
  · refine .inr fun i hi => ?_
    cases hr : rightB (xs.getD i 0) with
    | true => rfl
    | false => exact absurd ⟨i, hi, hr⟩ h

end Go.Proofs.Ytcmmkdihknjfnaa
