/- What came in as a node is a tree that lies in memory; the table of shapes as the row lists it. -/
import Derived.Test.YteaojmcfppbgiaaGreatDoorC8
import Derived.Test.YteaojmcfppbgiaaGreatDoorTie
import Derived.Test.YteaojmcfppbgiaaGreatDoorCards
import Derived.OpenShut
import Derived.ChangeOld
import Derived.ChangeArms
import Derived.SliceStrings
import Derived.LaidMore
import Derived.Lay
import Derived.Stop.LaidErr
import Derived.Stop.Joined
import Derived.SevenTiedAt
import Derived.Deep.Slices
import Derived.Lib.LaidTab
import Derived.Lib.SmallJoins
namespace Go.Proofs.YteaojmcfppbgiaaGreatDoor
open Go.ChangeShapes Go.WideShapes Go.ChangeAt Go.RowKit Go.Deep
set_option linter.unusedVariables false
set_option maxRecDepth 100000

theorem own : ownKnob Tryz.prog.godebug = none := by kernel_rfl
theorem cells1 : Tryz.prog.cellsOf 3 = 1 := by kernel_rfl
instance : Inhabited RT := ⟨.node 0 0 ⟨#[]⟩ 0 []⟩

section
variable {H : Type} {enc : TypeId × Value → H} {W : World} {base : Nat} {sp : Nat → Bool} {hd : Bool}

end

/-- A struct of integers, an array of such: cell by cell. -/
theorem cells_of_struct {H : Type} {enc : TypeId × Value → H} {P : Program} {w : World} {base : Nat} {sp : Nat → Bool} {held : Bool} {fuel : Nat} {t : TypeId} {fs : Array Field} {k : IntKind} {cs : List Value} {zs : List Int} {p : List MemPlace}
    (ht : P.underlying t = some (.struct fs)) (hf : ∀ (j : Nat) (f : Field), fs[j]? = some f → P.underlying f.type = some (.int k) ∧ f.offset = j ∧ P.cellsOf f.type = 1)
    (h : DataW.trod enc P w base sp held fuel t cs = some (.agg (zs.map fun z => .lit (.int k z)), p)) : ∀ j, j < fs.size → cs[j]? = some (.int k (zs.getD j 0)) := by
  intro j hj
  obtain ⟨xs, n, rfl, hx, _, hl, hg⟩ := DataW.trod_struct ht h
  obtain ⟨f, hfj⟩ : ∃ f, fs[j]? = some f := ⟨fs[j], Array.getElem?_eq_getElem hj⟩
  obtain ⟨h1, h2, h3⟩ := hf j f hfj
  have hy := hg j f hfj
  rw [h2, h3, List.getElem?_eq_getElem (by omega)] at hy
  obtain ⟨z, hc, hz, _⟩ := DataW.trod_int h1 hy
  have e1 : cs[j]? = some (.int k z) := by
    have := congrArg (·[0]?) hc
    simpa [List.getElem?_take, List.getElem?_drop] using this
  have hd := congrArg Prod.fst hx
  simp only [DataW.agg.injEq] at hd
  have e2 := congrArg (·[j]?) hd
  simp only [List.getElem?_map, List.getElem?_eq_getElem (show j < xs.length by omega), Option.map_some, hz] at e2
  rw [e1]
  cases hzj : zs[j]? with
  | none => rw [hzj] at e2; simp at e2
  | some z' =>
    rw [hzj] at e2
    simp only [Option.map_some, Option.some.injEq, DataW.lit.injEq, Lit.int.injEq, true_and] at e2
    rw [List.getD, hzj, ← e2]; rfl
theorem cells_of_table {H : Type} {enc : TypeId × Value → H} {P : Program} {w : World} {base : Nat} {sp : Nat → Bool} {held : Bool} {fuel : Nat} {t e : TypeId} {n m : Nat} {fs : Array Field} {k : IntKind} {cs : List Value} {rows : List (List Int)} {p : List MemPlace}
    (ht : P.underlying t = some (.array n e)) (he : P.underlying e = some (.struct fs)) (hm : P.cellsOf e = m) (hfs : fs.size = m) (hf : ∀ (j : Nat) (f : Field), fs[j]? = some f → P.underlying f.type = some (.int k) ∧ f.offset = j ∧ P.cellsOf f.type = 1)
    (h : DataW.trod enc P w base sp held fuel t cs = some (.agg (rows.map fun zs => .agg (zs.map fun z => .lit (.int k z))), p)) : ∀ i j, i < n → j < m → cs[i * m + j]? = some (.int k ((rows.getD i []).getD j 0)) := by
  intro i j hi hj
  cases fuel with
  | zero => simp [DataW.trod] at h
  | succ fuel =>
    simp only [DataW.trod, ht, hm] at h
    split at h
    · obtain ⟨xs, hx, hd⟩ := Option.map_eq_some_iff.1 h
      obtain ⟨b, hb, hy⟩ := Lib.mapM_at hx i i (by simp [hi])
      have hd1 := congrArg Prod.fst hd
      simp only [DataW.agg.injEq] at hd1
      have e2 := congrArg (·[i]?) hd1
      simp only [List.getElem?_map, hb, Option.map_some] at e2
      cases hr : rows[i]? with
      | none => rw [hr] at e2; simp at e2
      | some zs =>
        rw [hr] at e2
        simp only [Option.map_some, Option.some.injEq] at e2
        obtain ⟨b1, b2⟩ := b
        simp only at e2
        subst e2
        have := cells_of_struct he hf hy j (by omega)
        rw [List.getElem?_take, List.getElem?_drop] at this
        have hgd : rows.getD i [] = zs := by rw [List.getD, hr]; rfl
        rw [hgd]
        simpa [hj] using this
    · cases h

theorem gShapes : Tryz.prog.globalNamed "scholium/tree.shapes" = some 3 := by kernel_rfl
theorem shapes_data : (Rows.laid_scholium_tree_shapes : DataW Unit) = .agg (shpT.map fun zs => .agg (zs.map fun z => .lit (.int .i64 z))) := by rfl
theorem shapes_of {W : World} {rest : List (String × DataW Unit)} (h : laidMet Tryz.prog (("scholium/tree.shapes", Rows.laid_scholium_tree_shapes) :: rest) W) : Shapes W := by
  obtain ⟨ps, ⟨g', t', cs, fuel, p, q, hg', ht', hvar, hd, _, _⟩, _⟩ := h
  obtain rfl := Option.some.inj (gShapes.symm.trans hg')
  obtain rfl := Option.some.inj ((show (Tryz.prog.globals[3]?).map (·.type) = some 161 by kernel_rfl).symm.trans ht')
  rw [shapes_data] at hd
  have hx := cells_of_table (e := 160) (n := 11) (m := 6) (k := .i64) Tryz.underlying161 (show Tryz.prog.underlying 160 = _ from Tryz.underlying160) (by kernel_rfl) rfl (fun j f hj => by
    match j, hj with
    | 0, hj => cases hj; exact ⟨Tryz.underlying3, rfl, cells1⟩
    | 1, hj => cases hj; exact ⟨Tryz.underlying3, rfl, cells1⟩
    | 2, hj => cases hj; exact ⟨Tryz.underlying3, rfl, cells1⟩
    | 3, hj => cases hj; exact ⟨Tryz.underlying3, rfl, cells1⟩
    | 4, hj => cases hj; exact ⟨Tryz.underlying3, rfl, cells1⟩
    | 5, hj => cases hj; exact ⟨Tryz.underlying3, rfl, cells1⟩
    | j + 6, hj => simp at hj) hd
  intro i j hi hj
  have h1 := hx i j hi hj
  exact World.var?_cell gShapes hvar (i * 6 + j) |>.trans (by rw [← Array.getElem?_toList]; exact h1)

end Go.Proofs.YteaojmcfppbgiaaGreatDoor
