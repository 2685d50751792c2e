/- append onto a row of the call's own, from a source of which is known what it holds, nil among them; where the new row lies. No program. -/
import Derived.Test.YtodmnollgejgeaaDoorRose
import Derived.Maps.AppendAt
import Derived.Deep.AppendLies
import Derived.RegionTactic
import Derived.OwnWalk
namespace Go.Proofs.YtodmnollgejgeaaDoor
open Go.RowKit
set_option linter.unusedVariables false

/-- The slice '.slice A m _' of elements of so many cells holds these cells in w. -/
def Src (w : World) (size : Nat) (A : Option Addr) (m : Nat) (news : List Value) : Prop :=
  news.length = m * size ∧ (0 < m → ∃ ad, A = some ad ∧ ∀ j u, news[j]? = some u → w.cell? (ad.add j) = some u)

/-- What the append leaves. -/
def AppTo (w : World) (base : Nat) (e : TypeId) (size : Nat) (v : Value) (n : Nat) (xs : List Value) (v' : Value) (w' : World) : Prop :=
  w'.ownsRow base e size v' n xs ∧ w.grownBy w' v.ownBlock ∧ (v'.ownBlock = v.ownBlock ∨ v'.ownBlock = some w.heap.size)

theorem run_app {Q : Program} (w : World) (base : Nat) (t ty e : TypeId) (i : TypeInfo) (z : Value) (size bytes : Nat) (ht : Q.underlying t = some (.slice e)) (hi : Q.info? e = some i) (hz : i.zero = some z)
    (hsize : i.size = size) (hby : i.bytes = bytes) (hzs : z.cells.size = size) (hsz : 0 < size) (v : Value) (n : Nat) (xs : List Value) (hown : w.ownsRow base e size v n xs)
    (A : Option Addr) (m c : Nat) (news : List Value) (hs : Src w size A m news) (h1 : ∀ u ∈ news, u.oneCell' = true) (h63 : n + m ≤ maxLen) (hbytes : (n + m) * bytes ≤ 140737488355328) (hbase : base ≤ w.heap.size) :
    ∃ v' w', (Builtin.append_ #[t, t] ty #[v, .slice A m c]).run Q w = .ok v' w' ∧ AppTo w base e size v (n + m) (xs ++ news) v' w' := by
  obtain ⟨hl, hc⟩ := hs
  cases A with
  | none =>
    have hm : m = 0 := by
      cases m with
      | zero => rfl
      | succ m => obtain ⟨ad, h, _⟩ := hc (by omega); cases h
    subst hm
    obtain rfl : news = [] := List.eq_nil_of_length_eq_zero (by rw [hl]; omega)
    refine ⟨v, w, ?_, by simpa using hown, World.grownBy.refl w _, .inl rfl⟩
    rcases hown.2 with ⟨rfl, rfl⟩ | ⟨g, cap, cur, rfl, _, _, hnc, _⟩
    · simp [Builtin.append_, run_underlying ht, Go.sizeOf, typeInfo, hi, Builtin.lenOf, Builtin.firstCells]
    · simp [Builtin.append_, run_underlying ht, Go.sizeOf, typeInfo, hi, Builtin.lenOf, Builtin.firstCells, hnc, storeCells]
  | some ad =>
    have hnews : ∀ j u, news[j]? = some u → w.cell? (ad.add j) = some u := by
      intro j u hu
      cases m with
      | zero =>
        obtain rfl : news = [] := List.eq_nil_of_length_eq_zero (by rw [hl]; omega)
        cases hu
      | succ m =>
        obtain ⟨ad', h, hx⟩ := hc (by omega)
        cases h
        exact hx j u hu
    obtain ⟨v', w', hr, h2, h3, _, h5⟩ := run_append_own_at (P := Q) w base t ty e i z size bytes ht hi hz hsize hby hzs hsz v n xs hown ad m c news hl hnews h1 h63 hbytes hbase
    exact ⟨v', w', hr, h2, h3, h5⟩

theorem wp_app {Q : Program} {w : World} {o : Oper} {a : Act} {K : Act → World → Prop} {R : Exit → Act → World → Prop} (s x : Operand) (t : TypeId)
    (ho : o.op = .call { callee := .builtin .append, args := #[s, x], argTypes := #[t, t] })
    (base : Nat) (e : TypeId) (i : TypeInfo) (z : Value) (size bytes : Nat) (ht : Q.underlying t = some (.slice e)) (hi : Q.info? e = some i) (hz : i.zero = some z)
    (hsize : i.size = size) (hby : i.bytes = bytes) (hzs : z.cells.size = size) (hsz : 0 < size) (v : Value) (n : Nat) (xs : List Value) (hv : a.eval s = v) (hown : w.ownsRow base e size v n xs)
    (A : Option Addr) (m c : Nat) (news : List Value) (hx : a.eval x = .slice A m c) (hs : Src w size A m news) (h1 : ∀ u ∈ news, u.oneCell' = true) (h63 : n + m ≤ maxLen) (hbytes : (n + m) * bytes ≤ 140737488355328) (hbase : base ≤ w.heap.size)
    (h : ∀ v' w', AppTo w base e size v (n + m) (xs ++ news) v' w' → K (a.put o.dst v') w') : o.wp Q a w K R := by
  obtain ⟨v', w', hr, ha⟩ := run_app w base t o.type e i z size bytes ht hi hz hsize hby hzs hsz v n xs hown A m c news hs h1 h63 hbytes hbase
  unfold Oper.wp execOp
  simp only [ho, resolve, invoke, builtin, Sem.run_bind, Sem.run_pure, Result.andThen_ok, List.map_toArray, List.map_cons, List.map_nil, hv, hx, hr]
  exact h v' w' ha

theorem wpList_app {Q : Program} {w : World} {ops : Array Oper} {rest : List Oper} {o : Oper} {a : Act} {R : Exit → Act → World → Prop} (hgd : o.guard = none) (s x : Operand) (t : TypeId)
    (ho : o.op = .call { callee := .builtin .append, args := #[s, x], argTypes := #[t, t] })
    (base : Nat) (e : TypeId) (i : TypeInfo) (z : Value) (size bytes : Nat) (ht : Q.underlying t = some (.slice e)) (hi : Q.info? e = some i) (hz : i.zero = some z)
    (hsize : i.size = size) (hby : i.bytes = bytes) (hzs : z.cells.size = size) (hsz : 0 < size) (v : Value) (n : Nat) (xs : List Value) (hv : a.eval s = v) (hown : w.ownsRow base e size v n xs)
    (A : Option Addr) (m c : Nat) (news : List Value) (hx : a.eval x = .slice A m c) (hs : Src w size A m news) (h1 : ∀ u ∈ news, u.oneCell' = true) (h63 : n + m ≤ maxLen) (hbytes : (n + m) * bytes ≤ 140737488355328) (hbase : base ≤ w.heap.size)
    (h : ∀ v' w', AppTo w base e size v (n + m) (xs ++ news) v' w' → wpList Q ops R rest (a.put o.dst v') w') : wpList Q ops R (o :: rest) a w :=
  wpList_plain hgd fun _ hK => wp_app s x t ho base e i z size bytes ht hi hz hsize hby hzs hsz v n xs hv hown A m c news hx hs h1 h63 hbytes hbase fun v' w' ha => hK _ _ (h v' w' ha)

theorem step_app {Q : Program} {w : World} {ops : Array Oper} {o : Oper} {a : Act} {K : Act → World → Prop} {R : Exit → Act → World → Prop} {E : Prop} (hgd : o.guard = none) (s x : Operand) (t : TypeId)
    (ho : o.op = .call { callee := .builtin .append, args := #[s, x], argTypes := #[t, t] })
    (base : Nat) (e : TypeId) (i : TypeInfo) (z : Value) (size bytes : Nat) (ht : Q.underlying t = some (.slice e)) (hi : Q.info? e = some i) (hz : i.zero = some z)
    (hsize : i.size = size) (hby : i.bytes = bytes) (hzs : z.cells.size = size) (hsz : 0 < size) (v : Value) (n : Nat) (xs : List Value) (hv : a.eval s = v) (hown : w.ownsRow base e size v n xs)
    (A : Option Addr) (m c : Nat) (news : List Value) (hx : a.eval x = .slice A m c) (hs : Src w size A m news) (h1 : ∀ u ∈ news, u.oneCell' = true) (h63 : n + m ≤ maxLen) (hbytes : (n + m) * bytes ≤ 140737488355328) (hbase : base ≤ w.heap.size)
    (h : ∀ v' w', AppTo w base e size v (n + m) (xs ++ news) v' w' → K (a.put o.dst v') w') : if Region.wanted o (yielded ops a.tmps) = true then Oper.wp Q o a w K R else E := by
  rw [if_pos (by simp [Region.wanted, hgd])]
  exact wp_app s x t ho base e i z size bytes ht hi hz hsize hby hzs hsz v n xs hv hown A m c news hx hs h1 h63 hbytes hbase h

/-- A new block as a source of one element. -/
theorem src_new (w : World) (cs : Array Value) (t : TypeId) : Src (w.alloc (.cells cs t)) cs.size (some ⟨w.heap.size, 0, none⟩) 1 cs.toList :=
  ⟨by simp, fun _ => ⟨_, rfl, World.news_of_block (heap_alloc_new w _)⟩⟩

theorem src_at (w : World) (cs : Array Value) (t : TypeId) {g size : Nat} (hg : g = w.heap.size) (hs : cs.size = size) : Src (w.alloc (.cells cs t)) size (some ⟨g, 0, none⟩) 1 cs.toList := by
  subst hg; subst hs; exact src_new w cs t

/-- A block known whole, none of it frozen. -/
def Bk (w : World) (g : Nat) (e : TypeId) (cs : Array Value) : Prop := w.heap[g]? = some (.cells cs e (0, 0))
theorem Bk.lt {w : World} {g : Nat} {e : TypeId} {cs : Array Value} (h : Bk w g e cs) : g < w.heap.size := by
  rcases Nat.lt_or_ge g w.heap.size with hlt | hge
  · exact hlt
  · unfold Bk at h; rw [Array.getElem?_eq_none hge] at h; cases h
theorem Bk.cell {w : World} {g : Nat} {e : TypeId} {cs : Array Value} (h : Bk w g e cs) (i : Nat) : w.cell? ⟨g, i, none⟩ = cs[i]? := cell_of_row w g i cs e (0, 0) h
theorem Bk.cold {w : World} {g : Nat} {e : TypeId} {cs : Array Value} (h : Bk w g e cs) (i : Nat) : w.frozen? ⟨g, i, none⟩ = false := by
  have h' : w.heap[g]? = _ := h
  simp [World.frozen?, h']
theorem Bk.new (w : World) (e : TypeId) (cs : Array Value) : Bk (w.alloc (.cells cs e)) w.heap.size e cs := heap_alloc_new w _
theorem Bk.alloc {w : World} {g : Nat} {e : TypeId} {cs : Array Value} (h : Bk w g e cs) (o : Obj) : Bk (w.alloc o) g e cs := (Below.heap_alloc w o g h.lt).trans h
theorem Bk.below {w w' : World} {g B : Nat} {e : TypeId} {cs : Array Value} (h : Bk w g e cs) (hb : Below B w w') (hg : g < B) : Bk w' g e cs := (hb.block g hg).trans h
theorem Bk.far {w : World} {g : Nat} {e : TypeId} {cs : Array Value} (h : Bk w g e cs) {a : Addr} (ha : g ≠ a.block) (u : Value) : Bk (w.setCell a u) g e cs := (Below.heap_setCell w a u g ha).trans h
theorem Bk.at_ {w : World} {g : Nat} {e : TypeId} {cs : Array Value} (h : Bk w g e cs) (i : Nat) (u : Value) : Bk (w.setCell ⟨g, i, none⟩ u) g e (cs.setIfInBounds i u) := by
  have h' : w.heap[g]? = _ := h
  unfold Bk
  simp [World.setCell, Array.getElem?_modify, h']
theorem Bk.grown {w w' : World} {g : Nat} {e : TypeId} {cs : Array Value} {row : Option Nat} (h : Bk w g e cs) (hg : w.grownBy w' row) (hr : some g ≠ row) : Bk w' g e cs := (hg.block g h.lt hr).trans h
/-- Five stores, one behind the other, into a block of five cells: what each cell reads as on the way. -/
theorem Bk.five {w : World} {g : Nat} {e : TypeId} {a0 a1 a2 a3 a4 : Value} (h : Bk w g e #[a0, a1, a2, a3, a4]) (v0 v1 v2 v3 v4 : Value) :
    (w.setCell ⟨g, 0, none⟩ v0).cell? ⟨g, 0, none⟩ = some v0 ∧ ((w.setCell ⟨g, 0, none⟩ v0).setCell ⟨g, 1, none⟩ v1).cell? ⟨g, 1, none⟩ = some v1 ∧
    (((w.setCell ⟨g, 0, none⟩ v0).setCell ⟨g, 1, none⟩ v1).setCell ⟨g, 2, none⟩ v2).cell? ⟨g, 2, none⟩ = some v2 ∧
    ((((w.setCell ⟨g, 0, none⟩ v0).setCell ⟨g, 1, none⟩ v1).setCell ⟨g, 2, none⟩ v2).setCell ⟨g, 3, none⟩ v3).cell? ⟨g, 3, none⟩ = some v3 ∧
    (((((w.setCell ⟨g, 0, none⟩ v0).setCell ⟨g, 1, none⟩ v1).setCell ⟨g, 2, none⟩ v2).setCell ⟨g, 3, none⟩ v3).setCell ⟨g, 4, none⟩ v4).cell? ⟨g, 4, none⟩ = some v4 := by
  have k0 := h.at_ 0 v0
  have k1 := k0.at_ 1 v1
  have k2 := k1.at_ 2 v2
  have k3 := k2.at_ 3 v3
  have k4 := k3.at_ 4 v4
  exact ⟨k0.cell 0, k1.cell 1, k2.cell 2, k3.cell 3, k4.cell 4⟩
/-- A tree elsewhere stays over them. -/
theorem IsNode.five {w : World} {lo hi g : Nat} {t : RT} {A : Option Addr} {cap : Nat} (h : IsNode w lo hi t A cap) (hg : g < lo) (v0 v1 v2 v3 v4 : Value) :
    IsNode (((((w.setCell ⟨g, 0, none⟩ v0).setCell ⟨g, 1, none⟩ v1).setCell ⟨g, 2, none⟩ v2).setCell ⟨g, 3, none⟩ v3).setCell ⟨g, 4, none⟩ v4) lo hi t A cap := by
  refine h.imp (fun b o h1 _ => ?_) (Nat.le_refl _) (Nat.le_refl _)
  have hne : ∀ o', (⟨g, o', none⟩ : Addr) ≠ ⟨b, o, none⟩ := fun o' e => by injection e; omega
  rw [World.cell?_setCell_other _ _ _ _ (hne _), World.cell?_setCell_other _ _ _ _ (hne _), World.cell?_setCell_other _ _ _ _ (hne _), World.cell?_setCell_other _ _ _ _ (hne _), World.cell?_setCell_other _ _ _ _ (hne _)]
theorem size_five (w : World) (g : Nat) (v0 v1 v2 v3 v4 : Value) : (((((w.setCell ⟨g, 0, none⟩ v0).setCell ⟨g, 1, none⟩ v1).setCell ⟨g, 2, none⟩ v2).setCell ⟨g, 3, none⟩ v3).setCell ⟨g, 4, none⟩ v4).heap.size = w.heap.size := by
  simp [World.setCell]

end Go.Proofs.YtodmnollgejgeaaDoor
