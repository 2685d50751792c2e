/- The contract of utf8.RuneStart at this program, out of the library's theorem over any program. -/
import Derived.Test.YtcdblhhieihjlaaLib
import Derived.Lib.Bits
import Derived.ProofKit
namespace Go.Proofs.Ytcdblhhieihjlaa
open Go.RowKit Go.Shelf

theorem runeStart_any (b : Int) (w : World) (h0 : 0 ≤ b) (h1 : b ≤ 255) :
    Calls Try.prog 14 #[.int .u8 b] w fun e w' => e = .returned (.bool (Lib.runeStart b)) ∧ w = w' := by
  refine (Any.utf8_RuneStart Try.lays120 b w h0 (by omega)).mono ?_
  rintro e w' ⟨rfl, rfl⟩
  exact ⟨rfl, rfl⟩

end Go.Proofs.Ytcdblhhieihjlaa
