/- scholiumref01.Put gives, for every sign, the same bytes as utf.Put; nothing that was there is written. -/
import Derived.Test.YtcdblhhieihjlaaTail
namespace Go.Proofs.Ytcdblhhieihjlaa
open Go.RowKit

/-- Owned bytes turned into a string. -/
theorem conv_own (w : World) (g n cap : Nat) (xs : List Int) (hn : xs.length = n) (h : ∀ j u, (xs.map (Value.int .u8))[j]? = some u → w.cell? ((⟨g, 0, none⟩ : Addr).add j) = some u) :
    (convert 38 9 (.slice (some ⟨g, 0, none⟩) n cap)).run Try.prog w = .ok (.string (strOfNums xs)) w :=
  run_convert_bytes_arg (P := Try.prog) w 38 5 Try.underlying38 Try.underlying5 g 0 n cap xs hn
    (fun i hi => by
      have hi' : i < xs.length := by omega
      have := h i (.int .u8 (xs.getD i 0)) (by simp [List.getD, hi'])
      rwa [Addr.add_lit] at this) 9 Try.underlying9

theorem own_lit {w w1 : World} {x : Value} (hb : Below (w.heap.size + 1) (w.alloc (.cells #[x] 5)) w1) : w1.ownsRow w.heap.size 5 1 (.slice (some ⟨w.heap.size, 0, none⟩) 1 1) 1 [x] := by
  refine ⟨rfl, .inr ⟨w.heap.size, 1, #[x], rfl, Nat.le_refl _, ?_, Nat.le_refl _, by decide, rfl, rfl⟩⟩
  rw [hb.block w.heap.size (by omega)]
  exact heap_alloc_new w _

end Go.Proofs.Ytcdblhhieihjlaa
