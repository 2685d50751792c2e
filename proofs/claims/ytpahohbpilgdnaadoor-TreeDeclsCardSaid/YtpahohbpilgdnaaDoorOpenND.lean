/- What came in as a node is a tree that lies in memory; the table of shapes as the row lists it. -/
import Derived.Test.YtpahohbpilgdnaaDoorGood
import Derived.Test.YtpahohbpilgdnaaDoorTie
import Derived.Test.YtpahohbpilgdnaaDoorCards
import Derived.OpenShut
import Derived.ChangeOld
import Derived.ChangeArms
import Derived.SliceStrings
import Derived.LaidMore
import Derived.Lay
import Derived.Stop.LaidErr
import Derived.Stop.Joined
import Derived.SevenTiedAt
import Derived.Deep.Slices
import Derived.Lib.LaidTab
import Derived.Lib.SmallJoins
import Derived.Test.YtpahohbpilgdnaaDoorLawNB
namespace Go.Proofs.YtpahohbpilgdnaaDoor
open Go.ChangeShapes Go.WideShapes Go.ChangeAt Go.RowKit Go.Deep
set_option linter.unusedVariables false
set_option maxRecDepth 100000

theorem laidOut : laidOutB Tryd.prog = true := by kernel_rfl
theorem own : ownKnob Tryd.prog.godebug = none := by kernel_rfl
theorem cells1 : Tryd.prog.cellsOf 3 = 1 := by kernel_rfl
theorem cells9 : Tryd.prog.cellsOf 9 = 1 := by kernel_rfl
theorem cells22 : Tryd.prog.cellsOf 22 = 1 := by kernel_rfl
theorem cells24 : Tryd.prog.cellsOf 24 = 5 := by kernel_rfl

theorem list5 {α : Type} {l : List α} (h : l.length = 5) : ∃ a b c d e, l = [a, b, c, d, e] := by
  match l, h with
  | [a, b, c, d, e], _ => exact ⟨a, b, c, d, e, rfl⟩

instance : Inhabited RT := ⟨.node 0 0 ⟨#[]⟩ 0 []⟩

section
variable {H : Type} {enc : TypeId × Value → H} {W : World} {base : Nat} {sp : Nat → Bool} {hd : Bool}

theorem open_node : ∀ (fuel : Nat) (cs : List Value) (x : DataW H × List MemPlace), DataW.trod enc Tryd.prog W base sp hd fuel 24 cs = some x →
    ∃ (t : RT) (A : Option Addr) (cap : Nat), cs = cellsP (t, A, cap) ∧ NodeIn W (fun b => b < W.heap.size) t A cap := by
  intro fuel
  induction fuel using Nat.strongRecOn with
  | _ fuel ih =>
    intro cs x h
    obtain ⟨xs, n, rfl, _, hlen, hxl, hf⟩ := DataW.trod_struct Tryd.underlying24 h
    rw [cells24] at hlen
    obtain ⟨c0, c1, c2, c3, c4, rfl⟩ := list5 hlen
    obtain ⟨y0, y1, y2, y3, y4, rfl⟩ := list5 (show xs.length = 5 from hxl)
    have h0 : DataW.trod enc Tryd.prog W base sp hd n 3 (List.take (Tryd.prog.cellsOf 3) (List.drop 0 [c0, c1, c2, c3, c4])) = some y0 := hf 0 _ rfl
    have h1 : DataW.trod enc Tryd.prog W base sp hd n 3 (List.take (Tryd.prog.cellsOf 3) (List.drop 1 [c0, c1, c2, c3, c4])) = some y1 := hf 1 _ rfl
    have h2 : DataW.trod enc Tryd.prog W base sp hd n 9 (List.take (Tryd.prog.cellsOf 9) (List.drop 2 [c0, c1, c2, c3, c4])) = some y2 := hf 2 _ rfl
    have h3 : DataW.trod enc Tryd.prog W base sp hd n 3 (List.take (Tryd.prog.cellsOf 3) (List.drop 3 [c0, c1, c2, c3, c4])) = some y3 := hf 3 _ rfl
    have h4 : DataW.trod enc Tryd.prog W base sp hd n 22 (List.take (Tryd.prog.cellsOf 22) (List.drop 4 [c0, c1, c2, c3, c4])) = some y4 := hf 4 _ rfl
    rw [cells1] at h0 h1 h3
    rw [cells9] at h2
    rw [cells22] at h4
    obtain ⟨k, e0, _, _⟩ := DataW.trod_int Tryd.underlying3 h0
    obtain ⟨a, e1, _, _⟩ := DataW.trod_int Tryd.underlying3 h1
    obtain ⟨s, e2, _, hs⟩ := DataW.trod_string Tryd.underlying9 h2
    obtain ⟨nn, e3, _, _⟩ := DataW.trod_int Tryd.underlying3 h3
    obtain rfl : c0 = .int .i64 k := by simpa using e0
    obtain rfl : c1 = .int .i64 a := by simpa using e1
    obtain rfl : c2 = .string s := by simpa using e2
    obtain rfl : c3 = .int .i64 nn := by simpa using e3
    rcases DataW.trod_slice Tryd.underlying22 h4 with ⟨e4, _⟩ | ⟨ad, len, cap, elems, rest, m, rfl, e4, _, hb, hl, hm, hel, hall, _⟩
    · obtain rfl : c4 = .slice none 0 0 := by simpa using e4
      exact ⟨.node k a s nn [], none, 0, rfl, NodeIn.mk k a s nn [] none 0 (fun _ => none) (fun _ => 0) hs (Nat.le_refl _) (by decide) (fun h => by simp at h) (fun i h => by simp at h)⟩
    · obtain rfl : c4 = .slice (some ad) len cap := by simpa using e4
      have one : ∀ i, i < len → ∃ p : RT × Option Addr × Nat, (∀ r, r < 5 → W.cell? (ad.add (i * 5 + r)) = (cellsP p)[r]?) ∧ NodeIn W (fun b => b < W.heap.size) p.1 p.2.1 p.2.2 := by
        intro i hi
        have hx := hall i hi
        rw [cells24] at hx
        rw [List.getElem?_eq_getElem (by omega)] at hx
        obtain ⟨cs', hc, ht⟩ := Option.bind_eq_some_iff.1 hx
        obtain ⟨_, hcl, hat⟩ := World.cells?_some hc
        obtain ⟨t, A, c, rfl, hn⟩ := ih m (by omega) cs' _ ht
        refine ⟨(t, A, c), fun r hr => ?_, hn⟩
        have := hat r hr
        rwa [Go.Deep.add_add] at this
      obtain ⟨f, hf⟩ := choose_lt (α := RT × Option Addr × Nat) (p := fun i p => (∀ r, r < 5 → W.cell? (ad.add (i * 5 + r)) = (cellsP p)[r]?) ∧ NodeIn W (fun b => b < W.heap.size) p.1 p.2.1 p.2.2) one
      have hlen2 : (List.ofFn fun i : Fin len => (f i.val).1).length = len := by simp
      have hget : ∀ i (h : i < (List.ofFn fun i : Fin len => (f i.val).1).length), (List.ofFn fun i : Fin len => (f i.val).1)[i] = (f i).1 := fun i h => by simp
      refine ⟨.node k a s nn (List.ofFn fun i : Fin len => (f i.val).1), some ad, cap, by show _ = [_, _, _, _, Value.slice (some ad) (RT.l _).length cap]; simp [RT.l, RT.k, RT.a, RT.s, RT.n], ?_⟩
      refine NodeIn.mk k a s nn _ (some ad) cap (fun i => (f i).2.1) (fun i => (f i).2.2) hs (by omega) hm (fun h0 => ?_) (fun i h => by rw [hget i h]; exact (hf i (by omega)).2)
      obtain ⟨b, o, spot⟩ := ad
      have hc0 := (hf 0 (by omega)).1 0 (by omega)
      have hspot : spot = none := by simpa [Addr.add] using World.cell?_spot hc0
      subst hspot
      refine ⟨b, o, rfl, ?_, fun i h => ?_⟩
      · rw [Addr.add_lit] at hc0
        exact World.block_lt_of_cell? W _ hc0
      · rw [hget i h]
        have hx := fun r hr => (hf i (by omega)).1 r hr
        have x0 := hx 0 (by omega)
        have x1 := hx 1 (by omega)
        have x2 := hx 2 (by omega)
        have x3 := hx 3 (by omega)
        have x4 := hx 4 (by omega)
        rw [Addr.add_lit] at x0 x1 x2 x3 x4
        rw [Nat.add_zero] at x0
        exact ⟨x0, by rw [Nat.add_assoc, x1]; rfl, by rw [Nat.add_assoc, x2]; rfl, by rw [Nat.add_assoc, x3]; rfl, by rw [Nat.add_assoc, x4]; rfl⟩
end

/-- A struct of integers, an array of such: cell by cell. -/
theorem cells_of_struct {H : Type} {enc : TypeId × Value → H} {P : Program} {w : World} {base : Nat} {sp : Nat → Bool} {held : Bool} {fuel : Nat} {t : TypeId} {fs : Array Field} {k : IntKind} {cs : List Value} {zs : List Int} {p : List MemPlace}
    (ht : P.underlying t = some (.struct fs)) (hf : ∀ (j : Nat) (f : Field), fs[j]? = some f → P.underlying f.type = some (.int k) ∧ f.offset = j ∧ P.cellsOf f.type = 1)
    (h : DataW.trod enc P w base sp held fuel t cs = some (.agg (zs.map fun z => .lit (.int k z)), p)) : ∀ j, j < fs.size → cs[j]? = some (.int k (zs.getD j 0)) := by
  intro j hj
  obtain ⟨xs, n, rfl, hx, _, hl, hg⟩ := DataW.trod_struct ht h
  obtain ⟨f, hfj⟩ : ∃ f, fs[j]? = some f := ⟨fs[j], Array.getElem?_eq_getElem hj⟩
  obtain ⟨h1, h2, h3⟩ := hf j f hfj
  have hy := hg j f hfj
  rw [h2, h3, List.getElem?_eq_getElem (by omega)] at hy
  obtain ⟨z, hc, hz, _⟩ := DataW.trod_int h1 hy
  have e1 : cs[j]? = some (.int k z) := by
    have := congrArg (·[0]?) hc
    simpa [List.getElem?_take, List.getElem?_drop] using this
  have hd := congrArg Prod.fst hx
  simp only [DataW.agg.injEq] at hd
  have e2 := congrArg (·[j]?) hd
  simp only [List.getElem?_map, List.getElem?_eq_getElem (show j < xs.length by omega), Option.map_some, hz] at e2
  rw [e1]
  cases hzj : zs[j]? with
  | none => rw [hzj] at e2; simp at e2
  | some z' =>
    rw [hzj] at e2
    simp only [Option.map_some, Option.some.injEq, DataW.lit.injEq, Lit.int.injEq, true_and] at e2
    rw [List.getD, hzj, ← e2]; rfl
theorem cells_of_table {H : Type} {enc : TypeId × Value → H} {P : Program} {w : World} {base : Nat} {sp : Nat → Bool} {held : Bool} {fuel : Nat} {t e : TypeId} {n m : Nat} {fs : Array Field} {k : IntKind} {cs : List Value} {rows : List (List Int)} {p : List MemPlace}
    (ht : P.underlying t = some (.array n e)) (he : P.underlying e = some (.struct fs)) (hm : P.cellsOf e = m) (hfs : fs.size = m) (hf : ∀ (j : Nat) (f : Field), fs[j]? = some f → P.underlying f.type = some (.int k) ∧ f.offset = j ∧ P.cellsOf f.type = 1)
    (h : DataW.trod enc P w base sp held fuel t cs = some (.agg (rows.map fun zs => .agg (zs.map fun z => .lit (.int k z))), p)) : ∀ i j, i < n → j < m → cs[i * m + j]? = some (.int k ((rows.getD i []).getD j 0)) := by
  intro i j hi hj
  cases fuel with
  | zero => simp [DataW.trod] at h
  | succ fuel =>
    simp only [DataW.trod, ht, hm] at h
    split at h
    · obtain ⟨xs, hx, hd⟩ := Option.map_eq_some_iff.1 h
      obtain ⟨b, hb, hy⟩ := Lib.mapM_at hx i i (by simp [hi])
      have hd1 := congrArg Prod.fst hd
      simp only [DataW.agg.injEq] at hd1
      have e2 := congrArg (·[i]?) hd1
      simp only [List.getElem?_map, hb, Option.map_some] at e2
      cases hr : rows[i]? with
      | none => rw [hr] at e2; simp at e2
      | some zs =>
        rw [hr] at e2
        simp only [Option.map_some, Option.some.injEq] at e2
        obtain ⟨b1, b2⟩ := b
        simp only at e2
        subst e2
        have := cells_of_struct he hf hy j (by omega)
        rw [List.getElem?_take, List.getElem?_drop] at this
        have hgd : rows.getD i [] = zs := by rw [List.getD, hr]; rfl
        rw [hgd]
        simpa [hj] using this
    · cases h

theorem gShapes : Tryd.prog.globalNamed "scholium/tree.shapes" = some 1 := by kernel_rfl
theorem shapes_data : (Rows.laid_scholium_tree_shapes : DataW Unit) = .agg (shpT.map fun zs => .agg (zs.map fun z => .lit (.int .i64 z))) := by rfl
theorem shapes_of {W : World} {rest : List (String × DataW Unit)} (h : laidMet Tryd.prog (("scholium/tree.shapes", Rows.laid_scholium_tree_shapes) :: rest) W) : Shapes W := by
  obtain ⟨ps, ⟨g', t', cs, fuel, p, q, hg', ht', hvar, hd, _, _⟩, _⟩ := h
  obtain rfl := Option.some.inj (gShapes.symm.trans hg')
  obtain rfl := Option.some.inj ((show (Tryd.prog.globals[1]?).map (·.type) = some 93 by kernel_rfl).symm.trans ht')
  rw [shapes_data] at hd
  have hx := cells_of_table (e := 92) (n := 11) (m := 6) (k := .i64) Tryd.underlying93 (show Tryd.prog.underlying 92 = _ from Tryd.underlying92) (by kernel_rfl) rfl (fun j f hj => by
    match j, hj with
    | 0, hj => cases hj; exact ⟨Tryd.underlying3, rfl, cells1⟩
    | 1, hj => cases hj; exact ⟨Tryd.underlying3, rfl, cells1⟩
    | 2, hj => cases hj; exact ⟨Tryd.underlying3, rfl, cells1⟩
    | 3, hj => cases hj; exact ⟨Tryd.underlying3, rfl, cells1⟩
    | 4, hj => cases hj; exact ⟨Tryd.underlying3, rfl, cells1⟩
    | 5, hj => cases hj; exact ⟨Tryd.underlying3, rfl, cells1⟩
    | j + 6, hj => simp at hj) hd
  intro i j hi hj
  have h1 := hx i j hi hj
  exact World.var?_cell gShapes hvar (i * 6 + j) |>.trans (by rw [← Array.getElem?_toList]; exact h1)

theorem shapes_row {W : World} (h : laidMetH Tryd.prog Rows.treeNodesRow.laid W) : Shapes W := by
  rw [MakeChecks.laidMetH_plain _ _ _ (by kernel_rfl)] at h
  exact shapes_of h
theorem shapes_row2 {W : World} (h : laidMetH Tryd.prog Rows.treeDeclsRow.laid W) : Shapes W := by
  rw [MakeChecks.laidMetH_plain _ _ _ (by kernel_rfl)] at h
  exact shapes_of h
/-- A parameter that is a node. -/
theorem node_in {H : Type} {enc : TypeId × Value → H} {W : World} {base : Nat} {sp : Nat → Bool} {hd : Bool} {r : Reach} {b0 : Nat} {v : Value} {d : DataW H} {p : List MemPlace} (hv : Value.okWide Tryd.prog W r b0 24 v) (h : DataW.Trod enc Tryd.prog W base sp hd 24 v d p) :
    ∃ (t : RT) (A : Option Addr) (cap : Nat), v = nodeV t A cap ∧ IsNode W 0 W.heap.size t A cap := by
  obtain ⟨cs, rfl, hsz⟩ := okWide_struct Tryd.underlying24 hv
  obtain ⟨fuel, hf⟩ := h
  obtain ⟨t, A, cap, hcs, hn⟩ := open_node fuel _ _ hf
  refine ⟨t, A, cap, ?_, hn.imp (fun _ _ _ => rfl) (fun b hb => ⟨Nat.zero_le _, hb⟩)⟩
  have e : cs.toList = cellsP (t, A, cap) := hcs
  have : cs = (cellsP (t, A, cap)).toArray := by rw [← e]
  rw [this]
  rfl

end Go.Proofs.YtpahohbpilgdnaaDoor

/- What came in as a declaration lies in memory as one; the table of rooms as the row lists it. -/
namespace Go.Proofs.YtpahohbpilgdnaaDoor
open Go.ChangeShapes Go.WideShapes Go.ChangeAt Go.RowKit Go.Deep
set_option linter.unusedVariables false
set_option maxRecDepth 100000

theorem cellsOB : Tryd.prog.cellsOf 80 = 7 := by kernel_rfl
theorem cellsOR : Tryd.prog.cellsOf 69 = 8 := by kernel_rfl
theorem cellsOD : Tryd.prog.cellsOf 48 = 11 := by kernel_rfl
theorem cellsOBs : Tryd.prog.cellsOf 45 = 1 := by kernel_rfl
theorem cellsORs : Tryd.prog.cellsOf 46 = 1 := by kernel_rfl
theorem cellsOb : Tryd.prog.cellsOf 4 = 1 := by kernel_rfl

theorem list3 {α : Type} {l : List α} (h : l.length = 3) : ∃ a b c, l = [a, b, c] := by
  match l, h with
  | [a, b, c], _ => exact ⟨a, b, c, rfl⟩
theorem list4 {α : Type} {l : List α} (h : l.length = 4) : ∃ a b c d, l = [a, b, c, d] := by
  match l, h with
  | [a, b, c, d], _ => exact ⟨a, b, c, d, rfl⟩
theorem list7 {α : Type} {l : List α} (h : l.length = 7) : ∃ a b c d e f g, l = [a, b, c, d, e, f, g] := by
  match l, h with
  | [a, b, c, d, e, f, g], _ => exact ⟨a, b, c, d, e, f, g, rfl⟩
theorem list8 {α : Type} {l : List α} (h : l.length = 8) : ∃ a b c d e f g i, l = [a, b, c, d, e, f, g, i] := by
  match l, h with
  | [a, b, c, d, e, f, g, i], _ => exact ⟨a, b, c, d, e, f, g, i, rfl⟩
theorem list11 {α : Type} {l : List α} (h : l.length = 11) : ∃ a b c d e f g i j k m, l = [a, b, c, d, e, f, g, i, j, k, m] := by
  match l, h with
  | [a, b, c, d, e, f, g, i, j, k, m], _ => exact ⟨a, b, c, d, e, f, g, i, j, k, m, rfl⟩

section
variable {H : Type} {enc : TypeId × Value → H} {W : World} {base : Nat} {sp : Nat → Bool} {hd : Bool}

/-- A list of any kind of struct. -/
theorem open_list {α : Type} [Inhabited α] {T e : TypeId} {m : Nat} {cellsX : α → List Value} {inX : α → Prop} (hT : Tryd.prog.underlying T = some (.slice e)) (he : Tryd.prog.cellsOf e = m) (hm : 0 < m) (hlx : ∀ p, (cellsX p).length = m)
    (hone : ∀ fuel cs (x : DataW H × List MemPlace), DataW.trod enc Tryd.prog W base sp hd fuel e cs = some x → ∃ p, cs = cellsX p ∧ inX p) {fuel : Nat} {c : Value} {x : DataW H × List MemPlace} (h : DataW.trod enc Tryd.prog W base sp hd fuel T [c] = some x) :
    ∃ (ps : List α) (A : Option Addr) (cap : Nat), c = .slice A ps.length cap ∧ ps.length ≤ cap ∧ cap ≤ maxLen ∧
      ∀ i (hi : i < ps.length), ∃ b o, A = some ⟨b, o, none⟩ ∧ b < W.heap.size ∧ (∀ r, r < m → W.cell? ⟨b, o + i * m + r, none⟩ = (cellsX ps[i])[r]?) ∧ inX ps[i] := by
  rcases DataW.trod_slice hT h with ⟨e4, _⟩ | ⟨ad, len, cap, elems, rest, k, rfl, e4, _, hb, hl, hmx, hel, hall, _⟩
  · obtain rfl : c = .slice none 0 0 := by simpa using e4
    exact ⟨[], none, 0, rfl, Nat.le_refl _, by decide, fun i hi => by simp at hi⟩
  · obtain rfl : c = .slice (some ad) len cap := by simpa using e4
    have one : ∀ i, i < len → ∃ p : α, (∀ r, r < m → W.cell? (ad.add (i * m + r)) = (cellsX p)[r]?) ∧ inX p := by
      intro i hi
      have hx := hall i hi
      rw [he] at hx
      rw [List.getElem?_eq_getElem (by omega)] at hx
      obtain ⟨cs', hc, ht⟩ := Option.bind_eq_some_iff.1 hx
      obtain ⟨_, hcl, hat⟩ := World.cells?_some hc
      obtain ⟨p, rfl, hn⟩ := hone k cs' _ ht
      refine ⟨p, fun r hr => ?_, hn⟩
      have := hat r hr
      rwa [Go.Deep.add_add] at this
    obtain ⟨f, hf⟩ := choose_lt (α := α) (p := fun i p => (∀ r, r < m → W.cell? (ad.add (i * m + r)) = (cellsX p)[r]?) ∧ inX p) one
    have hget : ∀ i (h : i < (List.ofFn fun i : Fin len => f i.val).length), (List.ofFn fun i : Fin len => f i.val)[i] = f i := fun i h => by simp
    refine ⟨List.ofFn fun i : Fin len => f i.val, some ad, cap, by simp, by simp; omega, hmx, fun i hi => ?_⟩
    have hi' : i < len := by simpa using hi
    rw [hget i hi]
    obtain ⟨b, o, spot⟩ := ad
    have hc0 := (hf 0 (by omega)).1 0 hm
    have hlt : 0 < (cellsX (f 0)).length := by rw [hlx]; exact hm
    rw [List.getElem?_eq_getElem hlt, Nat.zero_mul] at hc0
    have hspot : spot = none := by simpa [Addr.add] using World.cell?_spot hc0
    subst hspot
    rw [Addr.add_lit] at hc0
    refine ⟨b, o, rfl, World.block_lt_of_cell? W _ hc0, fun r hr => ?_, (hf i hi').2⟩
    have := (hf i hi').1 r hr
    rw [Addr.add_lit] at this
    rw [Nat.add_assoc]
    exact this

def cellsC (p : CT × Option Addr × Nat × Option Addr × Nat) : List Value := [.int .i64 p.1.a, .slice p.2.1 p.1.ps.length p.2.2.1, .bool p.1.h, .int .i64 p.1.t.k, .int .i64 p.1.t.a, .string p.1.t.s, .int .i64 p.1.t.n, .slice p.2.2.2.1 p.1.t.l.length p.2.2.2.2]
instance : Inhabited BT := ⟨⟨⟨#[]⟩, 0, default⟩⟩
instance : Inhabited CT := ⟨⟨0, [], false, default⟩⟩

theorem wide_in {W : World} {t : RT} {A : Option Addr} {cap : Nat} (h : NodeIn W (fun b => b < W.heap.size) t A cap) : IsNode W 0 W.heap.size t A cap := h.imp (fun _ _ _ => rfl) (fun b hb => ⟨Nat.zero_le _, hb⟩)
theorem open_bind (fuel : Nat) (cs : List Value) (x : DataW H × List MemPlace) (h : DataW.trod enc Tryd.prog W base sp hd fuel 80 cs = some x) :
    ∃ p : BT × Option Addr × Nat, cs = kindB.cells p ∧ IsBind W 0 W.heap.size p.1 p.2.1 p.2.2 := by
  obtain ⟨xs, n, rfl, _, hlen, hxl, hf⟩ := DataW.trod_struct Tryd.underlying80 h
  rw [cellsOB] at hlen
  obtain ⟨c0, c1, c2, c3, c4, c5, c6, rfl⟩ := list7 hlen
  obtain ⟨y0, y1, y2, rfl⟩ := list3 (show xs.length = 3 from hxl)
  have h0 : DataW.trod enc Tryd.prog W base sp hd n 9 (List.take (Tryd.prog.cellsOf 9) (List.drop 0 [c0, c1, c2, c3, c4, c5, c6])) = some y0 := hf 0 _ rfl
  have h1 : DataW.trod enc Tryd.prog W base sp hd n 3 (List.take (Tryd.prog.cellsOf 3) (List.drop 1 [c0, c1, c2, c3, c4, c5, c6])) = some y1 := hf 1 _ rfl
  have h2 : DataW.trod enc Tryd.prog W base sp hd n 24 (List.take (Tryd.prog.cellsOf 24) (List.drop 2 [c0, c1, c2, c3, c4, c5, c6])) = some y2 := hf 2 _ rfl
  rw [cells9] at h0
  rw [cells1] at h1
  rw [cells24] at h2
  obtain ⟨s, e0, _, hs⟩ := DataW.trod_string Tryd.underlying9 h0
  obtain ⟨a, e1, _, _⟩ := DataW.trod_int Tryd.underlying3 h1
  obtain ⟨t, A, cap, e2, hn⟩ := open_node _ _ _ h2
  obtain rfl : c0 = .string s := by simpa using e0
  obtain rfl : c1 = .int .i64 a := by simpa using e1
  have e3 : [c2, c3, c4, c5, c6] = cellsP (t, A, cap) := e2
  refine ⟨(⟨s, a, t⟩, A, cap), ?_, ⟨hs, wide_in hn⟩⟩
  show Value.string s :: .int .i64 a :: [c2, c3, c4, c5, c6] = _
  rw [e3]; rfl

theorem open_nodes {fuel : Nat} {c : Value} {x : DataW H × List MemPlace} (h : DataW.trod enc Tryd.prog W base sp hd fuel 22 [c] = some x) :
    ∃ (l : List RT) (A : Option Addr) (cap : Nat), c = .slice A l.length cap ∧ l.length ≤ cap ∧ cap ≤ maxLen ∧ NodesAt W 0 W.heap.size A l := by
  obtain ⟨ps, A, cap, rfl, h1, h2, h3⟩ := open_list (α := RT × Option Addr × Nat) (cellsX := cellsP) (inX := fun p => IsNode W 0 W.heap.size p.1 p.2.1 p.2.2) (m := 5) Tryd.underlying22 cells24 (by decide) (fun _ => rfl)
    (fun fuel cs x h => by
      obtain ⟨t, A, cap, rfl, hn⟩ := open_node fuel cs x h
      exact ⟨(t, A, cap), rfl, wide_in hn⟩) h
  refine ⟨ps.map (·.1), A, cap, by rw [List.length_map], by rw [List.length_map]; exact h1, h2, fun i hi => ?_⟩
  have hi' : i < ps.length := by simpa using hi
  obtain ⟨b, o, hA, hb, hc, hn⟩ := h3 i hi'
  have e : (ps.map (·.1))[i] = ps[i].1 := List.getElem_map _
  refine ⟨b, o, ps[i].2.1, ps[i].2.2, hA, Nat.zero_le _, hb, ?_, by rw [e]; exact hn⟩
  rw [e]
  have c0 := hc 0 (by omega)
  rw [Nat.add_zero] at c0
  exact ⟨c0, hc 1 (by omega), hc 2 (by omega), hc 3 (by omega), hc 4 (by omega)⟩
theorem open_binds {fuel : Nat} {c : Value} {x : DataW H × List MemPlace} (h : DataW.trod enc Tryd.prog W base sp hd fuel 45 [c] = some x) :
    ∃ (l : List BT) (A : Option Addr) (cap : Nat), c = .slice A l.length cap ∧ l.length ≤ cap ∧ cap ≤ maxLen ∧ BindsAt W 0 W.heap.size A l := by
  obtain ⟨ps, A, cap, rfl, h1, h2, h3⟩ := open_list (α := BT × Option Addr × Nat) (cellsX := kindB.cells) (inX := fun p => IsBind W 0 W.heap.size p.1 p.2.1 p.2.2) (m := 7) Tryd.underlying45 cellsOB (by decide) (fun _ => rfl)
    (fun fuel cs x h => open_bind fuel cs x h) h
  refine ⟨ps.map (·.1), A, cap, by rw [List.length_map], by rw [List.length_map]; exact h1, h2, fun i hi => ?_⟩
  have hi' : i < ps.length := by simpa using hi
  obtain ⟨b, o, hA, hb, hc, hn⟩ := h3 i hi'
  have e : (ps.map (·.1))[i] = ps[i].1 := List.getElem_map _
  refine ⟨b, o, ps[i].2.1, ps[i].2.2, hA, Nat.zero_le _, hb, ?_, by rw [e]; exact hn⟩
  rw [e]
  have c0 := hc 0 (by omega)
  rw [Nat.add_zero] at c0
  exact ⟨c0, hc 1 (by omega), hc 2 (by omega), hc 3 (by omega), hc 4 (by omega), hc 5 (by omega), hc 6 (by omega)⟩

theorem open_rowc (fuel : Nat) (cs : List Value) (x : DataW H × List MemPlace) (h : DataW.trod enc Tryd.prog W base sp hd fuel 69 cs = some x) :
    ∃ p : CT × Option Addr × Nat × Option Addr × Nat, cs = cellsC p ∧ IsRow W 0 W.heap.size p.1 p.2.1 p.2.2.1 p.2.2.2.1 p.2.2.2.2 := by
  obtain ⟨xs, n, rfl, _, hlen, hxl, hf⟩ := DataW.trod_struct Tryd.underlying69 h
  rw [cellsOR] at hlen
  obtain ⟨c0, c1, c2, c3, c4, c5, c6, c7, rfl⟩ := list8 hlen
  obtain ⟨y0, y1, y2, y3, rfl⟩ := list4 (show xs.length = 4 from hxl)
  have h0 : DataW.trod enc Tryd.prog W base sp hd n 3 (List.take (Tryd.prog.cellsOf 3) (List.drop 0 [c0, c1, c2, c3, c4, c5, c6, c7])) = some y0 := hf 0 _ rfl
  have h1 : DataW.trod enc Tryd.prog W base sp hd n 22 (List.take (Tryd.prog.cellsOf 22) (List.drop 1 [c0, c1, c2, c3, c4, c5, c6, c7])) = some y1 := hf 1 _ rfl
  have h2 : DataW.trod enc Tryd.prog W base sp hd n 4 (List.take (Tryd.prog.cellsOf 4) (List.drop 2 [c0, c1, c2, c3, c4, c5, c6, c7])) = some y2 := hf 2 _ rfl
  have h3 : DataW.trod enc Tryd.prog W base sp hd n 24 (List.take (Tryd.prog.cellsOf 24) (List.drop 3 [c0, c1, c2, c3, c4, c5, c6, c7])) = some y3 := hf 3 _ rfl
  rw [cells1] at h0
  rw [cells22] at h1
  rw [cellsOb] at h2
  rw [cells24] at h3
  obtain ⟨a, e0, _, _⟩ := DataW.trod_int Tryd.underlying3 h0
  obtain ⟨l, A, cap, e1, hl1, hl2, hl3⟩ := open_nodes (show DataW.trod enc Tryd.prog W base sp hd n 22 [c1] = some y1 from h1)
  obtain ⟨b, e2, _⟩ := DataW.trod_bool Tryd.underlying4 h2
  obtain ⟨t, F, C, e3, hn⟩ := open_node _ _ _ h3
  obtain rfl : c0 = .int .i64 a := by simpa using e0
  obtain rfl : c2 = .bool b := by simpa using e2
  subst e1
  have e4 : [c3, c4, c5, c6, c7] = cellsP (t, F, C) := e3
  refine ⟨(⟨a, l, b, t⟩, A, cap, F, C), ?_, ⟨hl1, hl2, hl3, wide_in hn⟩⟩
  show Value.int .i64 a :: .slice A l.length cap :: .bool b :: [c3, c4, c5, c6, c7] = _
  rw [e4]; rfl
theorem open_rows {fuel : Nat} {c : Value} {x : DataW H × List MemPlace} (h : DataW.trod enc Tryd.prog W base sp hd fuel 46 [c] = some x) :
    ∃ (l : List CT) (A : Option Addr) (cap : Nat), c = .slice A l.length cap ∧ l.length ≤ cap ∧ cap ≤ maxLen ∧ RowsAt W 0 W.heap.size A l := by
  obtain ⟨ps, A, cap, rfl, h1, h2, h3⟩ := open_list (α := CT × Option Addr × Nat × Option Addr × Nat) (cellsX := cellsC) (inX := fun p => IsRow W 0 W.heap.size p.1 p.2.1 p.2.2.1 p.2.2.2.1 p.2.2.2.2) (m := 8) Tryd.underlying46 cellsOR (by decide) (fun _ => rfl)
    (fun fuel cs x h => open_rowc fuel cs x h) h
  refine ⟨ps.map (·.1), A, cap, by rw [List.length_map], by rw [List.length_map]; exact h1, h2, fun i hi => ?_⟩
  have hi' : i < ps.length := by simpa using hi
  obtain ⟨b, o, hA, hb, hc, hn⟩ := h3 i hi'
  have e : (ps.map (·.1))[i] = ps[i].1 := List.getElem_map _
  refine ⟨b, o, ps[i].2.1, ps[i].2.2.1, ps[i].2.2.2.1, ps[i].2.2.2.2, hA, Nat.zero_le _, hb, ?_, by rw [e]; exact hn⟩
  rw [e]
  have c0 := hc 0 (by omega)
  rw [Nat.add_zero] at c0
  exact ⟨c0, hc 1 (by omega), hc 2 (by omega), hc 3 (by omega), hc 4 (by omega), hc 5 (by omega), hc 6 (by omega), hc 7 (by omega)⟩

theorem open_decl (fuel : Nat) (cs : List Value) (x : DataW H × List MemPlace) (h : DataW.trod enc Tryd.prog W base sp hd fuel 48 cs = some x) :
    ∃ (y : DT) (p : DP), (.agg cs.toArray : Value) = declV y p ∧ IsDecl W 0 W.heap.size y p := by
  obtain ⟨xs, n, rfl, _, hlen, hxl, hf⟩ := DataW.trod_struct Tryd.underlying48 h
  rw [cellsOD] at hlen
  obtain ⟨c0, c1, c2, c3, c4, c5, c6, c7, c8, c9, c10, rfl⟩ := list11 hlen
  obtain ⟨y0, y1, y2, y3, y4, y5, y6, rfl⟩ := list7 (show xs.length = 7 from hxl)
  have h0 : DataW.trod enc Tryd.prog W base sp hd n 3 (List.take (Tryd.prog.cellsOf 3) (List.drop 0 [c0, c1, c2, c3, c4, c5, c6, c7, c8, c9, c10])) = some y0 := hf 0 _ rfl
  have h1 : DataW.trod enc Tryd.prog W base sp hd n 3 (List.take (Tryd.prog.cellsOf 3) (List.drop 1 [c0, c1, c2, c3, c4, c5, c6, c7, c8, c9, c10])) = some y1 := hf 1 _ rfl
  have h2 : DataW.trod enc Tryd.prog W base sp hd n 9 (List.take (Tryd.prog.cellsOf 9) (List.drop 2 [c0, c1, c2, c3, c4, c5, c6, c7, c8, c9, c10])) = some y2 := hf 2 _ rfl
  have h3 : DataW.trod enc Tryd.prog W base sp hd n 45 (List.take (Tryd.prog.cellsOf 45) (List.drop 3 [c0, c1, c2, c3, c4, c5, c6, c7, c8, c9, c10])) = some y3 := hf 3 _ rfl
  have h4 : DataW.trod enc Tryd.prog W base sp hd n 24 (List.take (Tryd.prog.cellsOf 24) (List.drop 4 [c0, c1, c2, c3, c4, c5, c6, c7, c8, c9, c10])) = some y4 := hf 4 _ rfl
  have h5 : DataW.trod enc Tryd.prog W base sp hd n 45 (List.take (Tryd.prog.cellsOf 45) (List.drop 9 [c0, c1, c2, c3, c4, c5, c6, c7, c8, c9, c10])) = some y5 := hf 5 _ rfl
  have h6 : DataW.trod enc Tryd.prog W base sp hd n 46 (List.take (Tryd.prog.cellsOf 46) (List.drop 10 [c0, c1, c2, c3, c4, c5, c6, c7, c8, c9, c10])) = some y6 := hf 6 _ rfl
  rw [cells1] at h0 h1
  rw [cells9] at h2
  rw [cellsOBs] at h3 h5
  rw [cells24] at h4
  rw [cellsORs] at h6
  obtain ⟨k, e0, _, _⟩ := DataW.trod_int Tryd.underlying3 h0
  obtain ⟨a, e1, _, _⟩ := DataW.trod_int Tryd.underlying3 h1
  obtain ⟨s, e2, _, hs⟩ := DataW.trod_string Tryd.underlying9 h2
  obtain ⟨te, A, ca, rfl, ha1, ha2, ha3⟩ := open_binds (show DataW.trod enc Tryd.prog W base sp hd n 45 [c3] = some y3 from h3)
  obtain ⟨t, F, C, e4, hn⟩ := open_node _ _ _ h4
  obtain ⟨co, B, cb, rfl, hb1, hb2, hb3⟩ := open_binds (show DataW.trod enc Tryd.prog W base sp hd n 45 [c9] = some y5 from h5)
  obtain ⟨ro, D, cd, rfl, hd1, hd2, hd3⟩ := open_rows (show DataW.trod enc Tryd.prog W base sp hd n 46 [c10] = some y6 from h6)
  obtain rfl : c0 = .int .i64 k := by simpa using e0
  obtain rfl : c1 = .int .i64 a := by simpa using e1
  obtain rfl : c2 = .string s := by simpa using e2
  have e5 : [c4, c5, c6, c7, c8] = cellsP (t, F, C) := e4
  refine ⟨⟨k, a, s, te, t, co, ro⟩, ⟨A, ca, F, C, B, cb, D, cd⟩, ?_, ⟨hs, ha1, ha2, hb1, hb2, hd1, hd2, ha3, wide_in hn, hb3, hd3⟩⟩
  unfold cellsP at e5
  simp at e5
  obtain ⟨rfl, rfl, rfl, rfl, rfl⟩ := e5
  rfl
end

/-- A parameter that is a declaration. -/
theorem decl_in {H : Type} {enc : TypeId × Value → H} {W : World} {base : Nat} {sp : Nat → Bool} {hd : Bool} {r : Reach} {b0 : Nat} {v : Value} {d : DataW H} {p : List MemPlace} (hv : Value.okWide Tryd.prog W r b0 48 v) (h : DataW.Trod enc Tryd.prog W base sp hd 48 v d p) :
    ∃ (x : DT) (q : DP), v = declV x q ∧ IsDecl W 0 W.heap.size x q := by
  obtain ⟨cs, rfl, hsz⟩ := okWide_struct Tryd.underlying48 hv
  obtain ⟨fuel, hf⟩ := h
  obtain ⟨y, q, e, hn⟩ := open_decl fuel _ _ hf
  exact ⟨y, q, by rw [← e]; simp [Value.cells], hn⟩

theorem gRooms : Tryd.prog.globalNamed "scholium/tree.rooms" = some 0 := by kernel_rfl
theorem rooms_data : (Rows.laid_scholium_tree_rooms : DataW Unit) = .agg (roomT.map fun zs => .agg (zs.map fun z => .lit (.int .i64 z))) := by rfl
theorem rooms_row {W : World} (h : laidMetH Tryd.prog Rows.treeDeclsRow.laid W) : Rooms W := by
  rw [MakeChecks.laidMetH_plain _ _ _ (by kernel_rfl)] at h
  obtain ⟨ps, ⟨_, _, _, _, _, _, _, _, _, _, ⟨g', t', cs, fuel, p, q, hg', ht', hvar, hd, _, _⟩, _⟩, _⟩ := h
  obtain rfl := Option.some.inj (gRooms.symm.trans hg')
  obtain rfl := Option.some.inj ((show (Tryd.prog.globals[0]?).map (·.type) = some 77 by kernel_rfl).symm.trans ht')
  rw [rooms_data] at hd
  have hx := cells_of_table (e := 76) (n := 4) (m := 3) (k := .i64) Tryd.underlying77 (show Tryd.prog.underlying 76 = _ from Tryd.underlying76) (by kernel_rfl) rfl (fun j f hj => by
    match j, hj with
    | 0, hj => cases hj; exact ⟨Tryd.underlying3, rfl, cells1⟩
    | 1, hj => cases hj; exact ⟨Tryd.underlying3, rfl, cells1⟩
    | 2, hj => cases hj; exact ⟨Tryd.underlying3, rfl, cells1⟩
    | j + 3, hj => simp at hj) hd
  intro i j hi hj
  have h1 := hx i j hi hj
  exact World.var?_cell gRooms hvar (i * 3 + j) |>.trans (by rw [← Array.getElem?_toList]; exact h1)
theorem both_row {W : World} (h : laidMetH Tryd.prog Rows.treeDeclsRow.laid W) : Shapes W ∧ Rooms W := ⟨shapes_row2 h, rooms_row h⟩

end Go.Proofs.YtpahohbpilgdnaaDoor
