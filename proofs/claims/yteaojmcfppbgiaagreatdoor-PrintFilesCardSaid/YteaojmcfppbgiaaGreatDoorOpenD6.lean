/- What came in as a declaration lies in memory as one; the table of rooms as the row lists it. -/
import Derived.Test.YteaojmcfppbgiaaGreatDoorOpenN
import Derived.Test.YteaojmcfppbgiaaGreatDoorC1
namespace Go.Proofs.YteaojmcfppbgiaaGreatDoor
open Go.ChangeShapes Go.WideShapes Go.ChangeAt Go.RowKit Go.Deep
set_option linter.unusedVariables false
set_option maxRecDepth 100000

theorem cellsOB : Tryz.prog.cellsOf 98 = 7 := by kernel_rfl
theorem cellsOR : Tryz.prog.cellsOf 64 = 8 := by kernel_rfl
theorem cellsOD : Tryz.prog.cellsOf 39 = 11 := by kernel_rfl
theorem cellsOBs : Tryz.prog.cellsOf 33 = 1 := by kernel_rfl
theorem cellsORs : Tryz.prog.cellsOf 37 = 1 := by kernel_rfl
theorem cellsOb : Tryz.prog.cellsOf 4 = 1 := by kernel_rfl

theorem list3 {α : Type} {l : List α} (h : l.length = 3) : ∃ a b c, l = [a, b, c] := by
  match l, h with
  | [a, b, c], _ => exact ⟨a, b, c, rfl⟩
theorem list4 {α : Type} {l : List α} (h : l.length = 4) : ∃ a b c d, l = [a, b, c, d] := by
  match l, h with
  | [a, b, c, d], _ => exact ⟨a, b, c, d, rfl⟩
theorem list7 {α : Type} {l : List α} (h : l.length = 7) : ∃ a b c d e f g, l = [a, b, c, d, e, f, g] := by
  match l, h with
  | [a, b, c, d, e, f, g], _ => exact ⟨a, b, c, d, e, f, g, rfl⟩
theorem list8 {α : Type} {l : List α} (h : l.length = 8) : ∃ a b c d e f g i, l = [a, b, c, d, e, f, g, i] := by
  match l, h with
  | [a, b, c, d, e, f, g, i], _ => exact ⟨a, b, c, d, e, f, g, i, rfl⟩
theorem list11 {α : Type} {l : List α} (h : l.length = 11) : ∃ a b c d e f g i j k m, l = [a, b, c, d, e, f, g, i, j, k, m] := by
  match l, h with
  | [a, b, c, d, e, f, g, i, j, k, m], _ => exact ⟨a, b, c, d, e, f, g, i, j, k, m, rfl⟩

section
variable {H : Type} {enc : TypeId × Value → H} {W : World} {base : Nat} {sp : Nat → Bool} {hd : Bool}

/-- A list of any kind of struct. -/
theorem open_list {α : Type} [Inhabited α] {T e : TypeId} {m : Nat} {cellsX : α → List Value} {inX : α → Prop} (hT : Tryz.prog.underlying T = some (.slice e)) (he : Tryz.prog.cellsOf e = m) (hm : 0 < m) (hlx : ∀ p, (cellsX p).length = m)
    (hone : ∀ fuel cs (x : DataW H × List MemPlace), DataW.trod enc Tryz.prog W base sp hd fuel e cs = some x → ∃ p, cs = cellsX p ∧ inX p) {fuel : Nat} {c : Value} {x : DataW H × List MemPlace} (h : DataW.trod enc Tryz.prog W base sp hd fuel T [c] = some x) :
    ∃ (ps : List α) (A : Option Addr) (cap : Nat), c = .slice A ps.length cap ∧ ps.length ≤ cap ∧ cap ≤ maxLen ∧
      ∀ i (hi : i < ps.length), ∃ b o, A = some ⟨b, o, none⟩ ∧ b < W.heap.size ∧ (∀ r, r < m → W.cell? ⟨b, o + i * m + r, none⟩ = (cellsX ps[i])[r]?) ∧ inX ps[i] := by
  rcases DataW.trod_slice hT h with ⟨e4, _⟩ | ⟨ad, len, cap, elems, rest, k, rfl, e4, _, hb, hl, hmx, hel, hall, _⟩
  · obtain rfl : c = .slice none 0 0 := by simpa using e4
    exact ⟨[], none, 0, rfl, Nat.le_refl _, by decide, fun i hi => by simp at hi⟩
  · obtain rfl : c = .slice (some ad) len cap := by simpa using e4
    have one : ∀ i, i < len → ∃ p : α, (∀ r, r < m → W.cell? (ad.add (i * m + r)) = (cellsX p)[r]?) ∧ inX p := by
      intro i hi
      have hx := hall i hi
      rw [he] at hx
      rw [List.getElem?_eq_getElem (by omega)] at hx
      obtain ⟨cs', hc, ht⟩ := Option.bind_eq_some_iff.1 hx
      obtain ⟨_, hcl, hat⟩ := World.cells?_some hc
      obtain ⟨p, rfl, hn⟩ := hone k cs' _ ht
      refine ⟨p, fun r hr => ?_, hn⟩
      have := hat r hr
      rwa [Go.Deep.add_add] at this
    obtain ⟨f, hf⟩ := choose_lt (α := α) (p := fun i p => (∀ r, r < m → W.cell? (ad.add (i * m + r)) = (cellsX p)[r]?) ∧ inX p) one
    have hget : ∀ i (h : i < (List.ofFn fun i : Fin len => f i.val).length), (List.ofFn fun i : Fin len => f i.val)[i] = f i := fun i h => by simp
    refine ⟨List.ofFn fun i : Fin len => f i.val, some ad, cap, by simp, by simp; omega, hmx, fun i hi => ?_⟩
    have hi' : i < len := by simpa using hi
    rw [hget i hi]
    obtain ⟨b, o, spot⟩ := ad
    have hc0 := (hf 0 (by omega)).1 0 hm
    have hlt : 0 < (cellsX (f 0)).length := by rw [hlx]; exact hm
    rw [List.getElem?_eq_getElem hlt, Nat.zero_mul] at hc0
    have hspot : spot = none := by simpa [Addr.add] using World.cell?_spot hc0
    subst hspot
    rw [Addr.add_lit] at hc0
    refine ⟨b, o, rfl, World.block_lt_of_cell? W _ hc0, fun r hr => ?_, (hf i hi').2⟩
    have := (hf i hi').1 r hr
    rw [Addr.add_lit] at this
    rw [Nat.add_assoc]
    exact this

def cellsC (p : CT × Option Addr × Nat × Option Addr × Nat) : List Value := [.int .i64 p.1.a, .slice p.2.1 p.1.ps.length p.2.2.1, .bool p.1.h, .int .i64 p.1.t.k, .int .i64 p.1.t.a, .string p.1.t.s, .int .i64 p.1.t.n, .slice p.2.2.2.1 p.1.t.l.length p.2.2.2.2]
instance inhBT : Inhabited BT := ⟨⟨⟨#[]⟩, 0, default⟩⟩
instance inhCT : Inhabited CT := ⟨⟨0, [], false, default⟩⟩

theorem wide_in {W : World} {t : RT} {A : Option Addr} {cap : Nat} (h : NodeIn W (fun b => b < W.heap.size) t A cap) : IsNode W 0 W.heap.size t A cap := h.imp (fun _ _ _ => rfl) (fun b hb => ⟨Nat.zero_le _, hb⟩)
theorem open_bind (fuel : Nat) (cs : List Value) (x : DataW H × List MemPlace) (h : DataW.trod enc Tryz.prog W base sp hd fuel 98 cs = some x) :
    ∃ p : BT × Option Addr × Nat, cs = kindB.cells p ∧ IsBind W 0 W.heap.size p.1 p.2.1 p.2.2 := by
  obtain ⟨xs, n, rfl, _, hlen, hxl, hf⟩ := DataW.trod_struct Tryz.underlying98 h
  rw [cellsOB] at hlen
  obtain ⟨c0, c1, c2, c3, c4, c5, c6, rfl⟩ := list7 hlen
  obtain ⟨y0, y1, y2, rfl⟩ := list3 (show xs.length = 3 from hxl)
  have h0 : DataW.trod enc Tryz.prog W base sp hd n 9 (List.take (Tryz.prog.cellsOf 9) (List.drop 0 [c0, c1, c2, c3, c4, c5, c6])) = some y0 := hf 0 _ rfl
  have h1 : DataW.trod enc Tryz.prog W base sp hd n 3 (List.take (Tryz.prog.cellsOf 3) (List.drop 1 [c0, c1, c2, c3, c4, c5, c6])) = some y1 := hf 1 _ rfl
  have h2 : DataW.trod enc Tryz.prog W base sp hd n 36 (List.take (Tryz.prog.cellsOf 36) (List.drop 2 [c0, c1, c2, c3, c4, c5, c6])) = some y2 := hf 2 _ rfl
  rw [cells9] at h0
  rw [cells1] at h1
  rw [cells36] at h2
  obtain ⟨s, e0, _, hs⟩ := DataW.trod_string Tryz.underlying9 h0
  obtain ⟨a, e1, _, _⟩ := DataW.trod_int Tryz.underlying3 h1
  obtain ⟨t, A, cap, e2, hn⟩ := open_node _ _ _ h2
  obtain rfl : c0 = .string s := by simpa using e0
  obtain rfl : c1 = .int .i64 a := by simpa using e1
  have e3 : [c2, c3, c4, c5, c6] = cellsP (t, A, cap) := e2
  refine ⟨(⟨s, a, t⟩, A, cap), ?_, ⟨hs, wide_in hn⟩⟩
  show Value.string s :: .int .i64 a :: [c2, c3, c4, c5, c6] = _
  rw [e3]; rfl

theorem open_nodes {fuel : Nat} {c : Value} {x : DataW H × List MemPlace} (h : DataW.trod enc Tryz.prog W base sp hd fuel 34 [c] = some x) :
    ∃ (l : List RT) (A : Option Addr) (cap : Nat), c = .slice A l.length cap ∧ l.length ≤ cap ∧ cap ≤ maxLen ∧ NodesAt W 0 W.heap.size A l := by
  obtain ⟨ps, A, cap, rfl, h1, h2, h3⟩ := open_list (α := RT × Option Addr × Nat) (cellsX := cellsP) (inX := fun p => IsNode W 0 W.heap.size p.1 p.2.1 p.2.2) (m := 5) Tryz.underlying34 cells36 (by decide) (fun _ => rfl)
    (fun fuel cs x h => by
      obtain ⟨t, A, cap, rfl, hn⟩ := open_node fuel cs x h
      exact ⟨(t, A, cap), rfl, wide_in hn⟩) h
  refine ⟨ps.map (·.1), A, cap, by rw [List.length_map], by rw [List.length_map]; exact h1, h2, fun i hi => ?_⟩
  have hi' : i < ps.length := by simpa using hi
  obtain ⟨b, o, hA, hb, hc, hn⟩ := h3 i hi'
  have e : (ps.map (·.1))[i] = ps[i].1 := List.getElem_map _
  refine ⟨b, o, ps[i].2.1, ps[i].2.2, hA, Nat.zero_le _, hb, ?_, by rw [e]; exact hn⟩
  rw [e]
  have c0 := hc 0 (by omega)
  rw [Nat.add_zero] at c0
  exact ⟨c0, hc 1 (by omega), hc 2 (by omega), hc 3 (by omega), hc 4 (by omega)⟩
theorem open_binds {fuel : Nat} {c : Value} {x : DataW H × List MemPlace} (h : DataW.trod enc Tryz.prog W base sp hd fuel 33 [c] = some x) :
    ∃ (l : List BT) (A : Option Addr) (cap : Nat), c = .slice A l.length cap ∧ l.length ≤ cap ∧ cap ≤ maxLen ∧ BindsAt W 0 W.heap.size A l := by
  obtain ⟨ps, A, cap, rfl, h1, h2, h3⟩ := open_list (α := BT × Option Addr × Nat) (cellsX := kindB.cells) (inX := fun p => IsBind W 0 W.heap.size p.1 p.2.1 p.2.2) (m := 7) Tryz.underlying33 cellsOB (by decide) (fun _ => rfl)
    (fun fuel cs x h => open_bind fuel cs x h) h
  refine ⟨ps.map (·.1), A, cap, by rw [List.length_map], by rw [List.length_map]; exact h1, h2, fun i hi => ?_⟩
  have hi' : i < ps.length := by simpa using hi
  obtain ⟨b, o, hA, hb, hc, hn⟩ := h3 i hi'
  have e : (ps.map (·.1))[i] = ps[i].1 := List.getElem_map _
  refine ⟨b, o, ps[i].2.1, ps[i].2.2, hA, Nat.zero_le _, hb, ?_, by rw [e]; exact hn⟩
  rw [e]
  have c0 := hc 0 (by omega)
  rw [Nat.add_zero] at c0
  exact ⟨c0, hc 1 (by omega), hc 2 (by omega), hc 3 (by omega), hc 4 (by omega), hc 5 (by omega), hc 6 (by omega)⟩

theorem open_rowc (fuel : Nat) (cs : List Value) (x : DataW H × List MemPlace) (h : DataW.trod enc Tryz.prog W base sp hd fuel 64 cs = some x) :
    ∃ p : CT × Option Addr × Nat × Option Addr × Nat, cs = cellsC p ∧ IsRow W 0 W.heap.size p.1 p.2.1 p.2.2.1 p.2.2.2.1 p.2.2.2.2 := by
  obtain ⟨xs, n, rfl, _, hlen, hxl, hf⟩ := DataW.trod_struct Tryz.underlying64 h
  rw [cellsOR] at hlen
  obtain ⟨c0, c1, c2, c3, c4, c5, c6, c7, rfl⟩ := list8 hlen
  obtain ⟨y0, y1, y2, y3, rfl⟩ := list4 (show xs.length = 4 from hxl)
  have h0 : DataW.trod enc Tryz.prog W base sp hd n 3 (List.take (Tryz.prog.cellsOf 3) (List.drop 0 [c0, c1, c2, c3, c4, c5, c6, c7])) = some y0 := hf 0 _ rfl
  have h1 : DataW.trod enc Tryz.prog W base sp hd n 34 (List.take (Tryz.prog.cellsOf 34) (List.drop 1 [c0, c1, c2, c3, c4, c5, c6, c7])) = some y1 := hf 1 _ rfl
  have h2 : DataW.trod enc Tryz.prog W base sp hd n 4 (List.take (Tryz.prog.cellsOf 4) (List.drop 2 [c0, c1, c2, c3, c4, c5, c6, c7])) = some y2 := hf 2 _ rfl
  have h3 : DataW.trod enc Tryz.prog W base sp hd n 36 (List.take (Tryz.prog.cellsOf 36) (List.drop 3 [c0, c1, c2, c3, c4, c5, c6, c7])) = some y3 := hf 3 _ rfl
  rw [cells1] at h0
  rw [cells34] at h1
  rw [cellsOb] at h2
  rw [cells36] at h3
  obtain ⟨a, e0, _, _⟩ := DataW.trod_int Tryz.underlying3 h0
  obtain ⟨l, A, cap, e1, hl1, hl2, hl3⟩ := open_nodes (show DataW.trod enc Tryz.prog W base sp hd n 34 [c1] = some y1 from h1)
  obtain ⟨b, e2, _⟩ := DataW.trod_bool Tryz.underlying4 h2
  obtain ⟨t, F, C, e3, hn⟩ := open_node _ _ _ h3
  obtain rfl : c0 = .int .i64 a := by simpa using e0
  obtain rfl : c2 = .bool b := by simpa using e2
  subst e1
  have e4 : [c3, c4, c5, c6, c7] = cellsP (t, F, C) := e3
  refine ⟨(⟨a, l, b, t⟩, A, cap, F, C), ?_, ⟨hl1, hl2, hl3, wide_in hn⟩⟩
  show Value.int .i64 a :: .slice A l.length cap :: .bool b :: [c3, c4, c5, c6, c7] = _
  rw [e4]; rfl
theorem open_rows {fuel : Nat} {c : Value} {x : DataW H × List MemPlace} (h : DataW.trod enc Tryz.prog W base sp hd fuel 37 [c] = some x) :
    ∃ (l : List CT) (A : Option Addr) (cap : Nat), c = .slice A l.length cap ∧ l.length ≤ cap ∧ cap ≤ maxLen ∧ RowsAt W 0 W.heap.size A l := by
  obtain ⟨ps, A, cap, rfl, h1, h2, h3⟩ := open_list (α := CT × Option Addr × Nat × Option Addr × Nat) (cellsX := cellsC) (inX := fun p => IsRow W 0 W.heap.size p.1 p.2.1 p.2.2.1 p.2.2.2.1 p.2.2.2.2) (m := 8) Tryz.underlying37 cellsOR (by decide) (fun _ => rfl)
    (fun fuel cs x h => open_rowc fuel cs x h) h
  refine ⟨ps.map (·.1), A, cap, by rw [List.length_map], by rw [List.length_map]; exact h1, h2, fun i hi => ?_⟩
  have hi' : i < ps.length := by simpa using hi
  obtain ⟨b, o, hA, hb, hc, hn⟩ := h3 i hi'
  have e : (ps.map (·.1))[i] = ps[i].1 := List.getElem_map _
  refine ⟨b, o, ps[i].2.1, ps[i].2.2.1, ps[i].2.2.2.1, ps[i].2.2.2.2, hA, Nat.zero_le _, hb, ?_, by rw [e]; exact hn⟩
  rw [e]
  have c0 := hc 0 (by omega)
  rw [Nat.add_zero] at c0
  exact ⟨c0, hc 1 (by omega), hc 2 (by omega), hc 3 (by omega), hc 4 (by omega), hc 5 (by omega), hc 6 (by omega), hc 7 (by omega)⟩

theorem open_decl (fuel : Nat) (cs : List Value) (x : DataW H × List MemPlace) (h : DataW.trod enc Tryz.prog W base sp hd fuel 39 cs = some x) :
    ∃ (y : DT) (p : DP), (.agg cs.toArray : Value) = declV y p ∧ IsDecl W 0 W.heap.size y p := by
  obtain ⟨xs, n, rfl, _, hlen, hxl, hf⟩ := DataW.trod_struct Tryz.underlying39 h
  rw [cellsOD] at hlen
  obtain ⟨c0, c1, c2, c3, c4, c5, c6, c7, c8, c9, c10, rfl⟩ := list11 hlen
  obtain ⟨y0, y1, y2, y3, y4, y5, y6, rfl⟩ := list7 (show xs.length = 7 from hxl)
  have h0 : DataW.trod enc Tryz.prog W base sp hd n 3 (List.take (Tryz.prog.cellsOf 3) (List.drop 0 [c0, c1, c2, c3, c4, c5, c6, c7, c8, c9, c10])) = some y0 := hf 0 _ rfl
  have h1 : DataW.trod enc Tryz.prog W base sp hd n 3 (List.take (Tryz.prog.cellsOf 3) (List.drop 1 [c0, c1, c2, c3, c4, c5, c6, c7, c8, c9, c10])) = some y1 := hf 1 _ rfl
  have h2 : DataW.trod enc Tryz.prog W base sp hd n 9 (List.take (Tryz.prog.cellsOf 9) (List.drop 2 [c0, c1, c2, c3, c4, c5, c6, c7, c8, c9, c10])) = some y2 := hf 2 _ rfl
  have h3 : DataW.trod enc Tryz.prog W base sp hd n 33 (List.take (Tryz.prog.cellsOf 33) (List.drop 3 [c0, c1, c2, c3, c4, c5, c6, c7, c8, c9, c10])) = some y3 := hf 3 _ rfl
  have h4 : DataW.trod enc Tryz.prog W base sp hd n 36 (List.take (Tryz.prog.cellsOf 36) (List.drop 4 [c0, c1, c2, c3, c4, c5, c6, c7, c8, c9, c10])) = some y4 := hf 4 _ rfl
  have h5 : DataW.trod enc Tryz.prog W base sp hd n 33 (List.take (Tryz.prog.cellsOf 33) (List.drop 9 [c0, c1, c2, c3, c4, c5, c6, c7, c8, c9, c10])) = some y5 := hf 5 _ rfl
  have h6 : DataW.trod enc Tryz.prog W base sp hd n 37 (List.take (Tryz.prog.cellsOf 37) (List.drop 10 [c0, c1, c2, c3, c4, c5, c6, c7, c8, c9, c10])) = some y6 := hf 6 _ rfl
  rw [cells1] at h0 h1
  rw [cells9] at h2
  rw [cellsOBs] at h3 h5
  rw [cells36] at h4
  rw [cellsORs] at h6
  obtain ⟨k, e0, _, _⟩ := DataW.trod_int Tryz.underlying3 h0
  obtain ⟨a, e1, _, _⟩ := DataW.trod_int Tryz.underlying3 h1
  obtain ⟨s, e2, _, hs⟩ := DataW.trod_string Tryz.underlying9 h2
  obtain ⟨te, A, ca, rfl, ha1, ha2, ha3⟩ := open_binds (show DataW.trod enc Tryz.prog W base sp hd n 33 [c3] = some y3 from h3)
  obtain ⟨t, F, C, e4, hn⟩ := open_node _ _ _ h4
  obtain ⟨co, B, cb, rfl, hb1, hb2, hb3⟩ := open_binds (show DataW.trod enc Tryz.prog W base sp hd n 33 [c9] = some y5 from h5)
  obtain ⟨ro, D, cd, rfl, hd1, hd2, hd3⟩ := open_rows (show DataW.trod enc Tryz.prog W base sp hd n 37 [c10] = some y6 from h6)
  obtain rfl : c0 = .int .i64 k := by simpa using e0
  obtain rfl : c1 = .int .i64 a := by simpa using e1
  obtain rfl : c2 = .string s := by simpa using e2
  have e5 : [c4, c5, c6, c7, c8] = cellsP (t, F, C) := e4
  refine ⟨⟨k, a, s, te, t, co, ro⟩, ⟨A, ca, F, C, B, cb, D, cd⟩, ?_, ⟨hs, ha1, ha2, hb1, hb2, hd1, hd2, ha3, wide_in hn, hb3, hd3⟩⟩
  unfold cellsP at e5
  simp at e5
  obtain ⟨rfl, rfl, rfl, rfl, rfl⟩ := e5
  rfl
end

end Go.Proofs.YteaojmcfppbgiaaGreatDoor
