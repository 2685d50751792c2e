/- The tables of rooms and of words as stage 6's rows list them; all five tables that the three laws over files list. -/
import Derived.Test.YteaojmcfppbgiaaGreatDoorOpenP
import Derived.Test.YteaojmcfppbgiaaGreatDoorPrD
import Derived.Test.YteaojmcfppbgiaaGreatDoorA4
namespace Go.Proofs.YteaojmcfppbgiaaGreatDoor
open Go.ChangeShapes Go.WideShapes Go.ChangeAt Go.RowKit Go.Deep
set_option linter.unusedVariables false
set_option maxRecDepth 100000

theorem gRooms : Tryz.prog.globalNamed "scholium/tree.rooms" = some 0 := by kernel_rfl
theorem rooms_data : (Rows.laid_scholium_tree_rooms : DataW Unit) = .agg (roomT.map fun zs => .agg (zs.map fun z => .lit (.int .i64 z))) := by rfl
theorem rooms_of {W : World} {rest : List (String × DataW Unit)} (h : laidMet Tryz.prog (("scholium/tree.rooms", Rows.laid_scholium_tree_rooms) :: rest) W) : Rooms W := by
  obtain ⟨ps, ⟨g', t', cs, fuel, p, q, hg', ht', hvar, hd, _, _⟩, _⟩ := h
  obtain rfl := Option.some.inj (gRooms.symm.trans hg')
  obtain rfl := Option.some.inj ((show (Tryz.prog.globals[0]?).map (·.type) = some 107 by kernel_rfl).symm.trans ht')
  rw [rooms_data] at hd
  have hx := cells_of_table (e := 106) (n := 4) (m := 3) (k := .i64) Tryz.underlying107 (show Tryz.prog.underlying 106 = _ from Tryz.underlying106) (by kernel_rfl) rfl (fun j f hj => by
    match j, hj with
    | 0, hj => cases hj; exact ⟨Tryz.underlying3, rfl, cells1⟩
    | 1, hj => cases hj; exact ⟨Tryz.underlying3, rfl, cells1⟩
    | 2, hj => cases hj; exact ⟨Tryz.underlying3, rfl, cells1⟩
    | j + 3, hj => simp at hj) hd
  intro i j hi hj
  have h1 := hx i j hi hj
  exact World.var?_cell gRooms hvar (i * 3 + j) |>.trans (by rw [← Array.getElem?_toList]; exact h1)

/-- An array of strings that reads as the table holds the table's texts, cell for cell. -/
theorem cells_of_texts {H : Type} {enc : TypeId × Value → H} {P : Program} {w : World} {base : Nat} {sp : Nat → Bool} {held : Bool} {fuel : Nat} {t e : TypeId} {n : Nat} {cs : List Value} {zs : List ByteArray} {p : List MemPlace}
    (ht : P.underlying t = some (.array n e)) (he : P.underlying e = some .string) (hce : P.cellsOf e = 1) (hct : P.cellsOf t = n)
    (h : DataW.trod enc P w base sp held fuel t cs = some (.agg (zs.map fun z => .lit (.string z.data.toList)), p)) : ∀ i, i < n → i < zs.length → cs[i]? = zs[i]?.map Value.string := by
  intro i hi hzi
  cases fuel with
  | zero => simp [DataW.trod] at h
  | succ fuel =>
    simp only [DataW.trod, ht, hce, hct, Nat.mul_one] at h
    split at h
    · rename_i hl
      obtain ⟨xs, hm, hx⟩ := Option.map_eq_some_iff.1 h
      have hxs : xs.map (·.1) = zs.map fun z => (DataW.lit (.string z.data.toList) : DataW H) := by
        have := congrArg Prod.fst hx
        simpa using this
      obtain ⟨b, hb, hf⟩ := Lib.mapM_at hm i i (by simp [hi])
      obtain ⟨z, hc, rfl, _⟩ := DataW.trod_string he hf
      have h1 : cs[i]? = some (.string z) := by
        have := congrArg (·[0]?) hc
        simpa [List.getElem?_take, List.getElem?_drop] using this
      have h2 : (xs.map (·.1))[i]? = some (DataW.lit (.string z.data.toList) : DataW H) := by simp [hb]
      rw [hxs] at h2
      simp only [List.getElem?_map, Option.map_eq_some_iff, DataW.lit.injEq, Lit.string.injEq] at h2
      obtain ⟨z', hz', hzz⟩ := h2
      have : z' = z := by
        apply ByteArray.ext
        exact Array.toList_inj.1 hzz
      subst this
      rw [h1, hz']; rfl
    · cases h
def wordT : List ByteArray := [⟨#[]⟩, kwS 1, kwS 2, kwS 3]
theorem gWords : Tryz.prog.globalNamed "scholium/print.words" = some 1 := by kernel_rfl
theorem words_data : (Rows.laid_scholium_print_words : DataW Unit) = .agg (wordT.map fun z => .lit (.string z.data.toList)) := by rfl
theorem words_of {W : World} {rest : List (String × DataW Unit)} (h : laidMet Tryz.prog (("scholium/print.words", Rows.laid_scholium_print_words) :: rest) W) : Words W := by
  obtain ⟨ps, ⟨g', t', cs, fuel, p, q, hg', ht', hvar, hd, _, _⟩, _⟩ := h
  obtain rfl := Option.some.inj (gWords.symm.trans hg')
  obtain rfl := Option.some.inj ((show (Tryz.prog.globals[1]?).map (·.type) = some 120 by kernel_rfl).symm.trans ht')
  rw [words_data] at hd
  have hx := cells_of_texts (n := 4) (show Tryz.prog.underlying 120 = some (.array 4 9) by kernel_rfl) (show Tryz.prog.underlying 9 = some .string by kernel_rfl) (by kernel_rfl) (by kernel_rfl) hd
  intro k h1 h2
  have h3 := hx k (by omega) (by show k < 4; omega)
  refine World.var?_cell gWords hvar k |>.trans ?_
  rw [← Array.getElem?_toList]
  refine h3.trans ?_
  rcases (show k = 1 ∨ k = 2 ∨ k = 3 by omega) with rfl | rfl | rfl <;> rfl
theorem five_of {W : World} (h : laidMet Tryz.prog (("internal/strconv.uint64pow10", Rows.laid_internal_strconv_uint64pow10) :: ("scholium/tree.shapes", Rows.laid_scholium_tree_shapes) :: ("scholium/tree.rooms", Rows.laid_scholium_tree_rooms) :: ("scholium/print.bare", Rows.laid_scholium_print_bare) :: ("scholium/print.words", Rows.laid_scholium_print_words) :: []) W) :
    Shapes W ∧ Rooms W ∧ Bare W ∧ Words W ∧ Tab W := by
  have h2 := laidMet.tail h
  have h3 := laidMet.tail h2
  have h4 := laidMet.tail h3
  exact ⟨shapes_of h2, rooms_of h3, bare_of h4, words_of (laidMet.tail h4), pow_of h⟩
theorem five_files {W : World} (h : laidMetH Tryz.prog Rows.printFilesRow.laid W) : Shapes W ∧ Rooms W ∧ Bare W ∧ Words W ∧ Tab W := by
  rw [MakeChecks.laidMetH_plain _ _ _ (by kernel_rfl)] at h
  exact five_of (laidMet.tail (laidMet.tail h))

end Go.Proofs.YteaojmcfppbgiaaGreatDoor
