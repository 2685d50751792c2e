/- The contracts of strings.LastIndexByte, strings.Count at a text of one byte, and strings.HasPrefix at this program, out of the library's theorems over any program. -/
import Derived.Test.YtcdblhhieihjlaaLib
import Derived.Test.YtcdblhhieihjlaaLibR
import Derived.Test.YtcdblhhieihjlaaDec
import Derived.ProofKit
namespace Go.Proofs.Ytcdblhhieihjlaa
open Go.RowKit Go.Shelf

theorem lastByte_any (s : ByteArray) (c : Int) (w : World) (hs : s.size < 4611686018427387904) :
    Calls Try.prog 13 #[.string s, .int .u8 c] w fun e w' => e = .returned (.int .i64 (Lib.lastIndexByte s c)) ∧ w = w' := by
  refine (Any.strings_LastIndexByte Try.lays149 s c hs w).mono ?_
  rintro e w' ⟨rfl, rfl⟩
  exact ⟨rfl, rfl⟩

theorem count_any (s : ByteArray) (w : World) :
    Calls Try.prog 15 #[.string s, .string ⟨#[10]⟩] w fun e w' => e = .returned (.int .i64 (Lib.countByte s.data.toList 10)) ∧ w = w' := by
  refine (Any.strings_Count_one Try.lays138 s 10 w).mono ?_
  rintro e w' ⟨rfl, rfl⟩
  exact ⟨rfl, rfl⟩

theorem prefix_any (s p : ByteArray) (w : World) :
    Calls Try.prog 27 #[.string s, .string p] w fun e w' => e = .returned (.bool (Lib.hasPrefix s.data.toList p.data.toList)) ∧ w = w' := by
  refine (Any.strings_HasPrefix Try.lays99 s p w).mono ?_
  rintro e w' ⟨rfl, rfl⟩
  exact ⟨rfl, rfl⟩

end Go.Proofs.Ytcdblhhieihjlaa
