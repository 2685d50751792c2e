/- What came in as a node is a tree that lies in memory; the table of shapes as the row lists it. -/
import Derived.Test.YteaojmcfppbgiaaGreatDoorC8
import Derived.Test.YteaojmcfppbgiaaGreatDoorTie
import Derived.Test.YteaojmcfppbgiaaGreatDoorCards
import Derived.OpenShut
import Derived.ChangeOld
import Derived.ChangeArms
import Derived.SliceStrings
import Derived.LaidMore
import Derived.Lay
import Derived.Stop.LaidErr
import Derived.Stop.Joined
import Derived.SevenTiedAt
import Derived.Deep.Slices
import Derived.Lib.LaidTab
import Derived.Lib.SmallJoins
namespace Go.Proofs.YteaojmcfppbgiaaGreatDoor
open Go.ChangeShapes Go.WideShapes Go.ChangeAt Go.RowKit Go.Deep
set_option linter.unusedVariables false
set_option maxRecDepth 100000

theorem laidOut : laidOutB Tryz.prog = true := by kernel_rfl
theorem own : ownKnob Tryz.prog.godebug = none := by kernel_rfl
theorem cells1 : Tryz.prog.cellsOf 3 = 1 := by kernel_rfl
theorem cells9 : Tryz.prog.cellsOf 9 = 1 := by kernel_rfl
theorem cells34 : Tryz.prog.cellsOf 34 = 1 := by kernel_rfl
theorem cells36 : Tryz.prog.cellsOf 36 = 5 := by kernel_rfl

theorem list5 {α : Type} {l : List α} (h : l.length = 5) : ∃ a b c d e, l = [a, b, c, d, e] := by
  match l, h with
  | [a, b, c, d, e], _ => exact ⟨a, b, c, d, e, rfl⟩

instance inhRT : Inhabited RT := ⟨.node 0 0 ⟨#[]⟩ 0 []⟩

section
variable {H : Type} {enc : TypeId × Value → H} {W : World} {base : Nat} {sp : Nat → Bool} {hd : Bool}

theorem open_node : ∀ (fuel : Nat) (cs : List Value) (x : DataW H × List MemPlace), DataW.trod enc Tryz.prog W base sp hd fuel 36 cs = some x →
    ∃ (t : RT) (A : Option Addr) (cap : Nat), cs = cellsP (t, A, cap) ∧ NodeIn W (fun b => b < W.heap.size) t A cap := by
  intro fuel
  induction fuel using Nat.strongRecOn with
  | _ fuel ih =>
    intro cs x h
    obtain ⟨xs, n, rfl, _, hlen, hxl, hf⟩ := DataW.trod_struct Tryz.underlying36 h
    rw [cells36] at hlen
    obtain ⟨c0, c1, c2, c3, c4, rfl⟩ := list5 hlen
    obtain ⟨y0, y1, y2, y3, y4, rfl⟩ := list5 (show xs.length = 5 from hxl)
    have h0 : DataW.trod enc Tryz.prog W base sp hd n 3 (List.take (Tryz.prog.cellsOf 3) (List.drop 0 [c0, c1, c2, c3, c4])) = some y0 := hf 0 _ rfl
    have h1 : DataW.trod enc Tryz.prog W base sp hd n 3 (List.take (Tryz.prog.cellsOf 3) (List.drop 1 [c0, c1, c2, c3, c4])) = some y1 := hf 1 _ rfl
    have h2 : DataW.trod enc Tryz.prog W base sp hd n 9 (List.take (Tryz.prog.cellsOf 9) (List.drop 2 [c0, c1, c2, c3, c4])) = some y2 := hf 2 _ rfl
    have h3 : DataW.trod enc Tryz.prog W base sp hd n 3 (List.take (Tryz.prog.cellsOf 3) (List.drop 3 [c0, c1, c2, c3, c4])) = some y3 := hf 3 _ rfl
    have h4 : DataW.trod enc Tryz.prog W base sp hd n 34 (List.take (Tryz.prog.cellsOf 34) (List.drop 4 [c0, c1, c2, c3, c4])) = some y4 := hf 4 _ rfl
    rw [cells1] at h0 h1 h3
    rw [cells9] at h2
    rw [cells34] at h4
    obtain ⟨k, e0, _, _⟩ := DataW.trod_int Tryz.underlying3 h0
    obtain ⟨a, e1, _, _⟩ := DataW.trod_int Tryz.underlying3 h1
    obtain ⟨s, e2, _, hs⟩ := DataW.trod_string Tryz.underlying9 h2
    obtain ⟨nn, e3, _, _⟩ := DataW.trod_int Tryz.underlying3 h3
    obtain rfl : c0 = .int .i64 k := by simpa using e0
    obtain rfl : c1 = .int .i64 a := by simpa using e1
    obtain rfl : c2 = .string s := by simpa using e2
    obtain rfl : c3 = .int .i64 nn := by simpa using e3
    rcases DataW.trod_slice Tryz.underlying34 h4 with ⟨e4, _⟩ | ⟨ad, len, cap, elems, rest, m, rfl, e4, _, hb, hl, hm, hel, hall, _⟩
    · obtain rfl : c4 = .slice none 0 0 := by simpa using e4
      exact ⟨.node k a s nn [], none, 0, rfl, NodeIn.mk k a s nn [] none 0 (fun _ => none) (fun _ => 0) hs (Nat.le_refl _) (by decide) (fun h => by simp at h) (fun i h => by simp at h)⟩
    · obtain rfl : c4 = .slice (some ad) len cap := by simpa using e4
      have one : ∀ i, i < len → ∃ p : RT × Option Addr × Nat, (∀ r, r < 5 → W.cell? (ad.add (i * 5 + r)) = (cellsP p)[r]?) ∧ NodeIn W (fun b => b < W.heap.size) p.1 p.2.1 p.2.2 := by
        intro i hi
        have hx := hall i hi
        rw [cells36] at hx
        rw [List.getElem?_eq_getElem (by omega)] at hx
        obtain ⟨cs', hc, ht⟩ := Option.bind_eq_some_iff.1 hx
        obtain ⟨_, hcl, hat⟩ := World.cells?_some hc
        obtain ⟨t, A, c, rfl, hn⟩ := ih m (by omega) cs' _ ht
        refine ⟨(t, A, c), fun r hr => ?_, hn⟩
        have := hat r hr
        rwa [Go.Deep.add_add] at this
      obtain ⟨f, hf⟩ := choose_lt (α := RT × Option Addr × Nat) (p := fun i p => (∀ r, r < 5 → W.cell? (ad.add (i * 5 + r)) = (cellsP p)[r]?) ∧ NodeIn W (fun b => b < W.heap.size) p.1 p.2.1 p.2.2) one
      have hlen2 : (List.ofFn fun i : Fin len => (f i.val).1).length = len := by simp
      have hget : ∀ i (h : i < (List.ofFn fun i : Fin len => (f i.val).1).length), (List.ofFn fun i : Fin len => (f i.val).1)[i] = (f i).1 := fun i h => by simp
      refine ⟨.node k a s nn (List.ofFn fun i : Fin len => (f i.val).1), some ad, cap, by show _ = [_, _, _, _, Value.slice (some ad) (RT.l _).length cap]; simp [RT.l, RT.k, RT.a, RT.s, RT.n], ?_⟩
      refine NodeIn.mk k a s nn _ (some ad) cap (fun i => (f i).2.1) (fun i => (f i).2.2) hs (by omega) hm (fun h0 => ?_) (fun i h => by rw [hget i h]; exact (hf i (by omega)).2)
      obtain ⟨b, o, spot⟩ := ad
      have hc0 := (hf 0 (by omega)).1 0 (by omega)
      have hspot : spot = none := by simpa [Addr.add] using World.cell?_spot hc0
      subst hspot
      refine ⟨b, o, rfl, ?_, fun i h => ?_⟩
      · rw [Addr.add_lit] at hc0
        exact World.block_lt_of_cell? W _ hc0
      · rw [hget i h]
        have hx := fun r hr => (hf i (by omega)).1 r hr
        have x0 := hx 0 (by omega)
        have x1 := hx 1 (by omega)
        have x2 := hx 2 (by omega)
        have x3 := hx 3 (by omega)
        have x4 := hx 4 (by omega)
        rw [Addr.add_lit] at x0 x1 x2 x3 x4
        rw [Nat.add_zero] at x0
        exact ⟨x0, by rw [Nat.add_assoc, x1]; rfl, by rw [Nat.add_assoc, x2]; rfl, by rw [Nat.add_assoc, x3]; rfl, by rw [Nat.add_assoc, x4]; rfl⟩
end

/-- A struct of integers, an array of such: cell by cell. -/
theorem cells_of_struct {H : Type} {enc : TypeId × Value → H} {P : Program} {w : World} {base : Nat} {sp : Nat → Bool} {held : Bool} {fuel : Nat} {t : TypeId} {fs : Array Field} {k : IntKind} {cs : List Value} {zs : List Int} {p : List MemPlace}
    (ht : P.underlying t = some (.struct fs)) (hf : ∀ (j : Nat) (f : Field), fs[j]? = some f → P.underlying f.type = some (.int k) ∧ f.offset = j ∧ P.cellsOf f.type = 1)
    (h : DataW.trod enc P w base sp held fuel t cs = some (.agg (zs.map fun z => .lit (.int k z)), p)) : ∀ j, j < fs.size → cs[j]? = some (.int k (zs.getD j 0)) := by
  intro j hj
  obtain ⟨xs, n, rfl, hx, _, hl, hg⟩ := DataW.trod_struct ht h
  obtain ⟨f, hfj⟩ : ∃ f, fs[j]? = some f := ⟨fs[j], Array.getElem?_eq_getElem hj⟩
  obtain ⟨h1, h2, h3⟩ := hf j f hfj
  have hy := hg j f hfj
  rw [h2, h3, List.getElem?_eq_getElem (by omega)] at hy
  obtain ⟨z, hc, hz, _⟩ := DataW.trod_int h1 hy
  have e1 : cs[j]? = some (.int k z) := by
    have := congrArg (·[0]?) hc
    simpa [List.getElem?_take, List.getElem?_drop] using this
  have hd := congrArg Prod.fst hx
  simp only [DataW.agg.injEq] at hd
  have e2 := congrArg (·[j]?) hd
  simp only [List.getElem?_map, List.getElem?_eq_getElem (show j < xs.length by omega), Option.map_some, hz] at e2
  rw [e1]
  cases hzj : zs[j]? with
  | none => rw [hzj] at e2; simp at e2
  | some z' =>
    rw [hzj] at e2
    simp only [Option.map_some, Option.some.injEq, DataW.lit.injEq, Lit.int.injEq, true_and] at e2
    rw [List.getD, hzj, ← e2]; rfl
theorem cells_of_table {H : Type} {enc : TypeId × Value → H} {P : Program} {w : World} {base : Nat} {sp : Nat → Bool} {held : Bool} {fuel : Nat} {t e : TypeId} {n m : Nat} {fs : Array Field} {k : IntKind} {cs : List Value} {rows : List (List Int)} {p : List MemPlace}
    (ht : P.underlying t = some (.array n e)) (he : P.underlying e = some (.struct fs)) (hm : P.cellsOf e = m) (hfs : fs.size = m) (hf : ∀ (j : Nat) (f : Field), fs[j]? = some f → P.underlying f.type = some (.int k) ∧ f.offset = j ∧ P.cellsOf f.type = 1)
    (h : DataW.trod enc P w base sp held fuel t cs = some (.agg (rows.map fun zs => .agg (zs.map fun z => .lit (.int k z))), p)) : ∀ i j, i < n → j < m → cs[i * m + j]? = some (.int k ((rows.getD i []).getD j 0)) := by
  intro i j hi hj
  cases fuel with
  | zero => simp [DataW.trod] at h
  | succ fuel =>
    simp only [DataW.trod, ht, hm] at h
    split at h
    · obtain ⟨xs, hx, hd⟩ := Option.map_eq_some_iff.1 h
      obtain ⟨b, hb, hy⟩ := Lib.mapM_at hx i i (by simp [hi])
      have hd1 := congrArg Prod.fst hd
      simp only [DataW.agg.injEq] at hd1
      have e2 := congrArg (·[i]?) hd1
      simp only [List.getElem?_map, hb, Option.map_some] at e2
      cases hr : rows[i]? with
      | none => rw [hr] at e2; simp at e2
      | some zs =>
        rw [hr] at e2
        simp only [Option.map_some, Option.some.injEq] at e2
        obtain ⟨b1, b2⟩ := b
        simp only at e2
        subst e2
        have := cells_of_struct he hf hy j (by omega)
        rw [List.getElem?_take, List.getElem?_drop] at this
        have hgd : rows.getD i [] = zs := by rw [List.getD, hr]; rfl
        rw [hgd]
        simpa [hj] using this
    · cases h

theorem gShapes : Tryz.prog.globalNamed "scholium/tree.shapes" = some 3 := by kernel_rfl
theorem shapes_data : (Rows.laid_scholium_tree_shapes : DataW Unit) = .agg (shpT.map fun zs => .agg (zs.map fun z => .lit (.int .i64 z))) := by rfl
theorem shapes_of {W : World} {rest : List (String × DataW Unit)} (h : laidMet Tryz.prog (("scholium/tree.shapes", Rows.laid_scholium_tree_shapes) :: rest) W) : Shapes W := by
  obtain ⟨ps, ⟨g', t', cs, fuel, p, q, hg', ht', hvar, hd, _, _⟩, _⟩ := h
  obtain rfl := Option.some.inj (gShapes.symm.trans hg')
  obtain rfl := Option.some.inj ((show (Tryz.prog.globals[3]?).map (·.type) = some 161 by kernel_rfl).symm.trans ht')
  rw [shapes_data] at hd
  have hx := cells_of_table (e := 160) (n := 11) (m := 6) (k := .i64) Tryz.underlying161 (show Tryz.prog.underlying 160 = _ from Tryz.underlying160) (by kernel_rfl) rfl (fun j f hj => by
    match j, hj with
    | 0, hj => cases hj; exact ⟨Tryz.underlying3, rfl, cells1⟩
    | 1, hj => cases hj; exact ⟨Tryz.underlying3, rfl, cells1⟩
    | 2, hj => cases hj; exact ⟨Tryz.underlying3, rfl, cells1⟩
    | 3, hj => cases hj; exact ⟨Tryz.underlying3, rfl, cells1⟩
    | 4, hj => cases hj; exact ⟨Tryz.underlying3, rfl, cells1⟩
    | 5, hj => cases hj; exact ⟨Tryz.underlying3, rfl, cells1⟩
    | j + 6, hj => simp at hj) hd
  intro i j hi hj
  have h1 := hx i j hi hj
  exact World.var?_cell gShapes hvar (i * 6 + j) |>.trans (by rw [← Array.getElem?_toList]; exact h1)

end Go.Proofs.YteaojmcfppbgiaaGreatDoor
