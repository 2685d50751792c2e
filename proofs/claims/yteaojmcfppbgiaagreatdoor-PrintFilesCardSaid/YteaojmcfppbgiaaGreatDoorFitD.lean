/- An error stays; so, where none is told, each whole is small enough; declarations that are the same but for offsets are the same. No program. -/
import Derived.Test.YteaojmcfppbgiaaGreatDoorC3
import Derived.Test.YteaojmcfppbgiaaGreatDoorDSame
namespace Go.Proofs.YteaojmcfppbgiaaGreatDoor
open Go.RowKit
set_option linter.unusedVariables false
set_option maxRecDepth 100000

/-- An error stays. -/
def Keep (s s' : St) : Prop := s.e ≠ 0 → s'.e ≠ 0
theorem Keep.refl (s : St) : Keep s s := fun h => h
theorem Keep.trans {a b c : St} (h : Keep a b) (k : Keep b c) : Keep a c := fun x => k (h x)
theorem Keep.zero {s s' : St} (h : Keep s s') (h0 : s'.e = 0) : s.e = 0 := Classical.byContradiction fun x => h x h0
/-! ### the same -/
end Go.Proofs.YteaojmcfppbgiaaGreatDoor
