/- The tables that stage 6's rows list: levels, shapes, powers of ten. -/
import Derived.Test.YteaojmcfppbgiaaGreatDoorOpenN
import Derived.Test.YteaojmcfppbgiaaGreatDoorPrA
import Derived.Test.YteaojmcfppbgiaaGreatDoorA4
namespace Go.Proofs.YteaojmcfppbgiaaGreatDoor
open Go.RowKit
set_option linter.unusedVariables false
set_option maxRecDepth 100000

theorem gBare : Tryz.prog.globalNamed "scholium/print.bare" = some 2 := by kernel_rfl
theorem bare_of {W : World} {rest : List (String × DataW Unit)} (h : laidMet Tryz.prog (("scholium/print.bare", Rows.laid_scholium_print_bare) :: rest) W) : Bare W := by
  have e : (Rows.laid_scholium_print_bare : DataW Unit) = Lib.tabData .i64 bareT := by rfl
  rw [e] at h
  have ht := Lib.tabIs_of_head gBare (by kernel_rfl) (show Tryz.prog.underlying 130 = some (.array 6 3) by kernel_rfl) (show Tryz.prog.underlying 3 = some (.int .i64) by kernel_rfl) (by kernel_rfl) (by kernel_rfl) h
  intro i hi
  have hx := World.var?_cell gBare ht i
  rw [hx]
  rcases (show i = 0 ∨ i = 1 ∨ i = 2 ∨ i = 3 ∨ i = 4 ∨ i = 5 by omega) with rfl | rfl | rfl | rfl | rfl | rfl <;> rfl
theorem pow_eq : (Rows.laid_internal_strconv_uint64pow10 : DataW Unit) = Lib.tabData .u64 Lib.pow10Tab := by rfl
theorem pow_of {W : World} {rest : List (String × DataW Unit)} (h : laidMet Tryz.prog (("internal/strconv.uint64pow10", Rows.laid_internal_strconv_uint64pow10) :: rest) W) : Tab W := by
  rw [pow_eq] at h
  exact Lib.tabIs_of_head gPow (by kernel_rfl) (show Tryz.prog.underlying 206 = some (.array 20 195) by kernel_rfl) (show Tryz.prog.underlying 195 = some (.int .u64) by kernel_rfl) (by kernel_rfl) (by kernel_rfl) h

end Go.Proofs.YteaojmcfppbgiaaGreatDoor
