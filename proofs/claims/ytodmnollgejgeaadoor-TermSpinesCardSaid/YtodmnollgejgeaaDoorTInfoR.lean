/- Terms: their zero, their size; a row's slice; three stores into a block of three cells. -/
import Derived.Test.YtodmnollgejgeaaDoorTRose
import Derived.Test.YtodmnollgejgeaaDoorApp
namespace Go.Proofs.YtodmnollgejgeaaDoor
open Go.RowKit
set_option linter.unusedVariables false
set_option maxRecDepth 100000

theorem infoM : (Tryd.prog.info? 24).map (fun i => (i.zero, i.size, i.bytes)) = some (some (.agg #[.int .i64 0, .int .i64 0, .slice none 0 0]), 3, 40) := by kernel_rfl
theorem own_sliceM {w : World} {base : Nat} {e : TypeId} {size : Nat} {v : Value} {n : Nat} {xs : List Value} (h : w.ownsRow base e size v n xs) : ∃ a cap, v = .slice a n cap := by
  rcases h.2 with ⟨rfl, rfl⟩ | ⟨g, cap, cur, rfl, _⟩
  · exact ⟨_, _, rfl⟩
  · exact ⟨_, _, rfl⟩
theorem row_snocM {α : Type} {l : List α} (h : 0 < l.length) : ∃ q x, l = q ++ [x] ∧ l.length = q.length + 1 := by
  obtain ⟨q, x, rfl⟩ : ∃ q x, l = q ++ [x] := by
    rcases List.eq_nil_or_concat l with rfl | ⟨q, x, rfl⟩
    · simp at h
    · exact ⟨q, x, by simp⟩
  exact ⟨q, x, rfl, by simp⟩

end Go.Proofs.YtodmnollgejgeaaDoor
