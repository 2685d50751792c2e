/- What the laws' frames share: the tables that lie as the row lists them, a slice of strings that came in. -/
import Derived.Test.YtiikodihbgaaaaaDoorAwake2
import Derived.Test.YtiikodihbgaaaaaDoorRefFresh
import Derived.Test.YtiikodihbgaaaaaDoorTie
import Derived.Test.YtiikodihbgaaaaaDoorCards
import Derived.OpenShut
import Derived.ChangeOld
import Derived.SliceStrings
import Derived.LaidMore
import Derived.Lay
import Derived.Stop.LaidErr
import Derived.Stop.Joined
import Derived.SevenTiedAt
namespace Go.Proofs.YtiikodihbgaaaaaDoor
open Go.ChangeShapes Go.WideShapes Go.ChangeAt Go.RowKit
set_option linter.unusedVariables false

theorem laidOut : laidOutB Tryd.prog = true := by kernel_rfl
theorem own : ownKnob Tryd.prog.godebug = none := by kernel_rfl
theorem pow_eq : (Rows.laid_internal_strconv_uint64pow10 : DataW Unit) = Lib.tabData .u64 Lib.pow10Tab := by rfl
theorem tab_of {W : World} (h : laidMetH Tryd.prog Rows.nameKindsRow.laid W) : Tab W := by
  rw [MakeChecks.laidMetH_plain _ _ _ (by kernel_rfl)] at h
  have h3 : laidMet Tryd.prog (("internal/strconv.uint64pow10", Rows.laid_internal_strconv_uint64pow10) :: [("unicode/utf8.acceptRanges", Rows.laid_unicode_utf8_acceptRanges), ("unicode/utf8.first", Rows.laid_unicode_utf8_first)]) W := laidMet.tail (laidMet.tail h)
  rw [pow_eq] at h3
  exact Lib.tabIs_of_head gPow (by kernel_rfl) (show Tryd.prog.underlying 86 = some (.array 20 76) by kernel_rfl) (show Tryd.prog.underlying 76 = some (.int .u64) by kernel_rfl) (by kernel_rfl) (by kernel_rfl) h3

/-- A slice of strings that came in. -/
structure StrIn (w : World) (a : Option Addr) (len : Nat) (ss : List ByteArray) : Prop where
  length : ss.length = len
  size : ∀ s ∈ ss, s.size ≤ maxLen
  cells : len = 0 ∨ ∃ b off, a = some ⟨b, off, none⟩ ∧ b < w.heap.size ∧ ∀ j, j < len → w.cell? ⟨b, off + j, none⟩ = some (.string (ss.getD j ByteArray.empty))
theorem StrIn.row {w : World} {a : Option Addr} {len : Nat} {ss : List ByteArray} (h : StrIn w a len ss) (hm : len ≤ 140737488355328) : StrRow w a len ss := ⟨h.length, hm, h.size, h.cells⟩
theorem strIn_nil (w : World) : StrIn w none 0 [] := ⟨rfl, by simp, .inl rfl⟩
theorem strIn_some {w : World} {x : Addr} {len cap : Nat} {ss : List ByteArray} (hl : len ≤ cap) (hz : ss.length = cap) (hcell : ∀ i, i < ss.length → w.cell? (x.add i) = some (.string (ss.getD i ByteArray.empty))) (hws : ∀ s ∈ ss, s.size ≤ maxLen) :
    StrIn w (some x) len (ss.take len) := by
  refine ⟨by rw [List.length_take]; omega, fun s hs => hws s (List.mem_of_mem_take hs), ?_⟩
  by_cases h0 : len = 0
  · exact .inl h0
  · right
    obtain ⟨b, off, spot⟩ := x
    have hc := hcell 0 (by omega)
    have hspot : spot = none := by simpa [Addr.add] using World.cell?_spot hc
    subst hspot
    refine ⟨b, off, rfl, ?_, fun i hi => ?_⟩
    · rw [Addr.add_lit] at hc
      exact World.block_lt_of_cell? w _ hc
    · have := hcell i (by omega)
      rw [Addr.add_lit] at this
      rw [this]
      simp [List.getD, hi]

end Go.Proofs.YtiikodihbgaaaaaDoor
