/- Trees of nodes, as plain data: how many nodes, how deep, the same but for offsets; how such a tree lies in memory (tree.Node and scholiumref04.Node alike). No program. -/
import Derived.Test.YtodmnollgejgeaaDoorRows
import Derived.WalkKit
import Derived.ProofKit
import Derived.Lib.Hide
namespace Go.Proofs.YtodmnollgejgeaaDoor
open Go.RowKit
set_option linter.unusedVariables false

/-- A node: its kind, its offset, its name, its number, its Subs. -/
inductive RT where
  | node (k a : Int) (s : ByteArray) (n : Int) (l : List RT)
namespace RT
def k : RT → Int | .node k _ _ _ _ => k
def a : RT → Int | .node _ a _ _ _ => a
def s : RT → ByteArray | .node _ _ s _ _ => s
def n : RT → Int | .node _ _ _ n _ => n
def l : RT → List RT | .node _ _ _ _ l => l
theorem eta : ∀ t : RT, t = .node t.k t.a t.s t.n t.l
  | .node _ _ _ _ _ => rfl

theorem ind {P : RT → Prop} (h : ∀ k a s n l, (∀ t ∈ l, P t) → P (.node k a s n l)) : ∀ t, P t
  | .node k a s n l => h k a s n l (fun t ht => ind h t)
termination_by t => SizeOf.sizeOf t
decreasing_by
  have := List.sizeOf_lt_of_mem ht
  simp
  omega
end RT

mutual
def RT.size : RT → Nat
  | .node _ _ _ _ l => sizeL l + 1
def sizeL : List RT → Nat
  | [] => 0
  | t :: r => t.size + sizeL r
end
mutual
def RT.depth : RT → Nat
  | .node _ _ _ _ l => depthL l + 1
def depthL : List RT → Nat
  | [] => 0
  | t :: r => max t.depth (depthL r)
end
mutual
def same : RT → RT → Bool
  | .node k _ s n l, .node k' _ s' n' l' => decide (k = k') && (decide (s = s') && (decide (n = n') && sameL l l'))
def sameL : List RT → List RT → Bool
  | [], [] => true
  | t :: r, t' :: r' => same t t' && sameL r r'
  | _, _ => false
end

theorem size_node (k a : Int) (s : ByteArray) (n : Int) (l : List RT) : (RT.node k a s n l).size = sizeL l + 1 := by rw [RT.size]
theorem depth_node (k a : Int) (s : ByteArray) (n : Int) (l : List RT) : (RT.node k a s n l).depth = depthL l + 1 := by rw [RT.depth]
theorem sizeL_nil : sizeL [] = 0 := by rw [sizeL]
theorem sizeL_cons (t : RT) (r : List RT) : sizeL (t :: r) = t.size + sizeL r := by rw [sizeL]
theorem depthL_nil : depthL [] = 0 := by rw [depthL]
theorem depthL_cons (t : RT) (r : List RT) : depthL (t :: r) = max t.depth (depthL r) := by rw [depthL]
theorem size_pos (t : RT) : 0 < t.size := by rw [t.eta, size_node]; omega
theorem depth_pos (t : RT) : 0 < t.depth := by rw [t.eta, depth_node]; omega
theorem sizeL_append (l r : List RT) : sizeL (l ++ r) = sizeL l + sizeL r := by
  induction l with
  | nil => rw [List.nil_append, sizeL_nil]; omega
  | cons t l ih => rw [List.cons_append, sizeL_cons, sizeL_cons, ih]; omega
theorem depthL_append (l r : List RT) : depthL (l ++ r) = max (depthL l) (depthL r) := by
  induction l with
  | nil => rw [List.nil_append, depthL_nil]; omega
  | cons t l ih => rw [List.cons_append, depthL_cons, depthL_cons, ih]; omega
theorem sizeL_len (l : List RT) : l.length ≤ sizeL l := by
  induction l with
  | nil => simp
  | cons t l ih => rw [sizeL_cons]; have := size_pos t; simp; omega
theorem take_snoc {l : List RT} {i : Nat} (h : i < l.length) : l.take (i + 1) = l.take i ++ [l[i]] := by
  rw [List.take_succ_eq_append_getElem h]
theorem sizeL_snoc {l : List RT} {i : Nat} (h : i < l.length) : sizeL (l.take (i + 1)) = sizeL (l.take i) + l[i].size := by
  rw [take_snoc h, sizeL_append, sizeL_cons, sizeL_nil]; omega
theorem depthL_snoc {l : List RT} {i : Nat} (h : i < l.length) : depthL (l.take (i + 1)) = max (depthL (l.take i)) l[i].depth := by
  rw [take_snoc h, depthL_append, depthL_cons, depthL_nil]; omega
theorem sizeL_take_le (l : List RT) (i : Nat) : sizeL (l.take i) ≤ sizeL l := by
  have := sizeL_append (l.take i) (l.drop i)
  rw [List.take_append_drop] at this
  omega
theorem size_mem {t : RT} {l : List RT} (h : t ∈ l) : t.size ≤ sizeL l := by
  induction l with
  | nil => cases h
  | cons u l ih =>
    rw [sizeL_cons]
    rcases List.mem_cons.1 h with rfl | h
    · omega
    · have := ih h; omega

/-- A node's value. -/
def nodeV (t : RT) (A : Option Addr) (cap : Nat) : Value := .agg #[.int .i64 t.k, .int .i64 t.a, .string t.s, .int .i64 t.n, .slice A t.l.length cap]
theorem nodeV_node (k a : Int) (s : ByteArray) (n : Int) (l : List RT) (A : Option Addr) (cap : Nat) : nodeV (.node k a s n l) A cap = .agg #[.int .i64 k, .int .i64 a, .string s, .int .i64 n, .slice A l.length cap] := rfl
/-- A node's five cells. -/
structure Cells5 (w : World) (b o : Nat) (t : RT) (A : Option Addr) (cap : Nat) : Prop where
  c0 : w.cell? ⟨b, o, none⟩ = some (.int .i64 t.k)
  c1 : w.cell? ⟨b, o + 1, none⟩ = some (.int .i64 t.a)
  c2 : w.cell? ⟨b, o + 2, none⟩ = some (.string t.s)
  c3 : w.cell? ⟨b, o + 3, none⟩ = some (.int .i64 t.n)
  c4 : w.cell? ⟨b, o + 4, none⟩ = some (.slice A t.l.length cap)

/-- The tree lies in w, in blocks of which P speaks: A and cap are its root's Sub's. -/
inductive NodeIn (w : World) (P : Nat → Prop) : RT → Option Addr → Nat → Prop where
  | mk (k a : Int) (s : ByteArray) (n : Int) (l : List RT) (A : Option Addr) (cap : Nat) (F : Nat → Option Addr) (C : Nat → Nat)
    (hs : s.size ≤ maxLen) (hl : l.length ≤ cap) (hm : cap ≤ maxLen)
    (hc : 0 < l.length → ∃ b o, A = some ⟨b, o, none⟩ ∧ P b ∧ ∀ i (h : i < l.length), Cells5 w b (o + i * 5) l[i] (F i) (C i))
    (hn : ∀ i (h : i < l.length), NodeIn w P l[i] (F i) (C i)) : NodeIn w P (.node k a s n l) A cap
theorem NodeIn.imp {w w' : World} {P P' : Nat → Prop} (hw : ∀ b o, P b → w'.cell? ⟨b, o, none⟩ = w.cell? ⟨b, o, none⟩) (hP : ∀ b, P b → P' b) {t : RT} {A : Option Addr} {cap : Nat} (h : NodeIn w P t A cap) : NodeIn w' P' t A cap := by
  induction h with
  | mk k a s n l A cap F C hs hl hm hc _ ih =>
    refine .mk k a s n l A cap F C hs hl hm (fun h0 => ?_) ih
    obtain ⟨b, o, hA, hb, hx⟩ := hc h0
    refine ⟨b, o, hA, hP b hb, fun i h => ?_⟩
    obtain ⟨x0, x1, x2, x3, x4⟩ := hx i h
    exact ⟨by rw [hw _ _ hb, x0], by rw [hw _ _ hb, x1], by rw [hw _ _ hb, x2], by rw [hw _ _ hb, x3], by rw [hw _ _ hb, x4]⟩
theorem NodeIn.bounds {w : World} {P : Nat → Prop} {k a : Int} {s : ByteArray} {n : Int} {l : List RT} {A : Option Addr} {cap : Nat} (h : NodeIn w P (.node k a s n l) A cap) : s.size ≤ maxLen ∧ l.length ≤ cap ∧ cap ≤ maxLen := by
  cases h with
  | mk k a s n l A cap F C hs hl hm hc hn => exact ⟨hs, hl, hm⟩
theorem NodeIn.at_ {w : World} {P : Nat → Prop} {k a : Int} {s : ByteArray} {n : Int} {l : List RT} {A : Option Addr} {cap : Nat} (h : NodeIn w P (.node k a s n l) A cap) (i : Nat) (hi' : i < l.length) :
    ∃ b o F C, A = some ⟨b, o, none⟩ ∧ P b ∧ Cells5 w b (o + i * 5) l[i] F C ∧ NodeIn w P l[i] F C := by
  cases h with
  | mk k a s n l A cap F C hs hl hm hc hn =>
    obtain ⟨b, o, hA, h1, h3⟩ := hc (by omega)
    exact ⟨b, o, F i, C i, hA, h1, h3 i hi', hn i hi'⟩

/-- The same, in the blocks from lo on and below hi. -/
def IsNode (w : World) (lo hi : Nat) (t : RT) (A : Option Addr) (cap : Nat) : Prop := NodeIn w (fun b => lo ≤ b ∧ b < hi) t A cap
theorem IsNode.imp {w w' : World} {lo hi lo' hi' : Nat} (hw : ∀ b o, lo ≤ b → b < hi → w'.cell? ⟨b, o, none⟩ = w.cell? ⟨b, o, none⟩) (h1 : lo' ≤ lo) (h2 : hi ≤ hi') {t : RT} {A : Option Addr} {cap : Nat} (h : IsNode w lo hi t A cap) : IsNode w' lo' hi' t A cap :=
  NodeIn.imp (fun b o hb => hw b o hb.1 hb.2) (fun b hb => ⟨by omega, by omega⟩) h
theorem IsNode.kept {w w' : World} {lo hi B : Nat} {t : RT} {A : Option Addr} {cap : Nat} (h : IsNode w lo hi t A cap) (hb : Below B w w') (hB : hi ≤ B) : IsNode w' lo hi t A cap :=
  h.imp (fun b o _ h2 => hb.cell (p := ⟨b, o, none⟩) (by show b < B; omega)) (Nat.le_refl _) (Nat.le_refl _)
theorem IsNode.wide {w : World} {lo hi lo' hi' : Nat} {t : RT} {A : Option Addr} {cap : Nat} (h : IsNode w lo hi t A cap) (h1 : lo' ≤ lo) (h2 : hi ≤ hi') : IsNode w lo' hi' t A cap :=
  h.imp (fun _ _ _ _ => rfl) h1 h2

theorem IsNode.bounds {w : World} {lo hi : Nat} {k a : Int} {s : ByteArray} {n : Int} {l : List RT} {A : Option Addr} {cap : Nat} (h : IsNode w lo hi (.node k a s n l) A cap) : s.size ≤ maxLen ∧ l.length ≤ cap ∧ cap ≤ maxLen := NodeIn.bounds h
/-- What stands at a place of its Subs. -/
def SubAt (w : World) (lo hi : Nat) (A : Option Addr) (l : List RT) (i : Nat) (h : i < l.length) : Prop :=
  ∃ b o F C, A = some ⟨b, o, none⟩ ∧ lo ≤ b ∧ b < hi ∧ Cells5 w b (o + i * 5) l[i] F C ∧ IsNode w lo hi l[i] F C
theorem IsNode.sub {w : World} {lo hi : Nat} {k a : Int} {s : ByteArray} {n : Int} {l : List RT} {A : Option Addr} {cap : Nat} (h : IsNode w lo hi (.node k a s n l) A cap) (i : Nat) (hi' : i < l.length) : SubAt w lo hi A l i hi' := by
  obtain ⟨b, o, F, C, hA, hb, hx, hn⟩ := NodeIn.at_ h i hi'
  exact ⟨b, o, F, C, hA, hb.1, hb.2, hx, hn⟩
theorem Cells5.kept {w w' : World} {b o : Nat} {t : RT} {A : Option Addr} {cap B : Nat} (h : Cells5 w b o t A cap) (hb : Below B w w') (hB : b < B) : Cells5 w' b o t A cap := by
  obtain ⟨x0, x1, x2, x3, x4⟩ := h
  have e : ∀ q, w'.cell? ⟨b, q, none⟩ = w.cell? ⟨b, q, none⟩ := fun q => hb.cell (p := ⟨b, q, none⟩) hB
  exact ⟨by rw [e, x0], by rw [e, x1], by rw [e, x2], by rw [e, x3], by rw [e, x4]⟩
theorem SubAt.kept {w w' : World} {lo hi B : Nat} {A : Option Addr} {l : List RT} {i : Nat} {h : i < l.length} (hx : SubAt w lo hi A l i h) (hb : Below B w w') (hB : hi ≤ B) : SubAt w' lo hi A l i h := by
  obtain ⟨b, o, F, C, hA, h1, h2, h3, h4⟩ := hx
  exact ⟨b, o, F, C, hA, h1, h2, h3.kept hb (by omega), h4.kept hb hB⟩
theorem IsNode.alloc {w : World} {lo hi : Nat} {t : RT} {A : Option Addr} {cap : Nat} (h : IsNode w lo hi t A cap) (hB : hi ≤ w.heap.size) (o : Obj) : IsNode (w.alloc o) lo hi t A cap :=
  h.kept ((Below.refl hi w).alloc hB o) (Nat.le_refl _)
theorem ret_nat {a b : Nat} (h : a = b) : Ending.returned (.int .i64 (a : Int)) = .returned (.int .i64 (b : Int)) := by rw [h]
theorem int_nat {a b : Nat} (h : a = b) : Value.int .i64 (a : Int) = .int .i64 (b : Int) := by rw [h]
theorem int_of {x y : Int} (h : x = y) : Value.int .i64 x = .int .i64 y := by rw [h]
/-- A number, told up to 8193. -/
def topN (n : Nat) : Nat := min n 8193
theorem topN_lo {n : Nat} (h : n ≤ 8192) : topN n = n := by unfold topN; omega
theorem topN_hi {n : Nat} (h : 8192 < n) : topN n = 8193 := by unfold topN; omega
theorem topN_one {n : Nat} (h : n ≤ 8192) : topN (n + 1 + 0) = n + 1 := by unfold topN; omega
theorem topN_le (n : Nat) : topN n ≤ 8193 := by unfold topN; omega
theorem topN_le' (n : Nat) : topN n ≤ n := by unfold topN; omega
theorem topN_add (a b : Nat) : topN (topN a + b) = topN (a + b) := by unfold topN; omega
theorem topN_stop {a b : Nat} (h : 8192 < topN a) (hab : a ≤ b) : topN a = topN b := by unfold topN at *; omega
theorem topN_go {a : Nat} (h : ¬ 8192 < topN a) : topN a = a ∧ a ≤ 8192 := by unfold topN at *; omega

/-- The cells of a list of nodes, one behind the other. -/
def cellsP (p : RT × Option Addr × Nat) : List Value := [.int .i64 p.1.k, .int .i64 p.1.a, .string p.1.s, .int .i64 p.1.n, .slice p.2.1 p.1.l.length p.2.2]
def flatP (ps : List (RT × Option Addr × Nat)) : List Value := ps.flatMap cellsP
theorem flatP_nil : flatP [] = [] := rfl
theorem flatP_snoc (ps : List (RT × Option Addr × Nat)) (p : RT × Option Addr × Nat) : flatP (ps ++ [p]) = flatP ps ++ cellsP p := by
  unfold flatP; rw [List.flatMap_append]; simp
theorem flatP_at : ∀ (ps : List (RT × Option Addr × Nat)) (j r : Nat) (h : j < ps.length), r < 5 → (flatP ps)[j * 5 + r]? = (cellsP ps[j])[r]?
  | p :: ps, 0, r, _, hr => by
    show (cellsP p ++ flatP ps)[0 * 5 + r]? = _
    rw [List.getElem?_append_left (by simp [cellsP]; omega)]
    simp
  | p :: ps, j + 1, r, h, hr => by
    show (cellsP p ++ flatP ps)[(j + 1) * 5 + r]? = _
    rw [List.getElem?_append_right (by simp [cellsP]; omega)]
    have e : (j + 1) * 5 + r - (cellsP p).length = j * 5 + r := by simp [cellsP]; omega
    rw [e, flatP_at ps j r (by simpa using h) hr]
    rfl
theorem cellsP_one (p : RT × Option Addr × Nat) : ∀ u ∈ cellsP p, u.oneCell' = true := by
  intro u hu
  simp [cellsP] at hu
  rcases hu with rfl | rfl | rfl | rfl | rfl <;> rfl

/-- A row of nodes that the call made: the row itself, and the trees behind its nodes, which lie in other blocks. -/
structure NodeRow (w : World) (base : Nat) (e : TypeId) (v : Value) (ps : List (RT × Option Addr × Nat)) (P : Nat → Prop) : Prop where
  row : w.ownsRow base e 5 v ps.length (flatP ps)
  far : ∀ b, P b → b < w.heap.size ∧ v.ownBlock ≠ some b
  node : ∀ p ∈ ps, NodeIn w P p.1 p.2.1 p.2.2
theorem NodeRow.nil (w : World) (base : Nat) (e : TypeId) : NodeRow w base e (.slice none 0 0) [] (fun _ => False) :=
  ⟨World.ownsRow_nil _ _ _ _, fun _ h => h.elim, fun _ h => by cases h⟩
/-- It stays, where neither the row nor the other blocks turn. -/
theorem NodeRow.kept {w w' : World} {base : Nat} {e : TypeId} {v : Value} {ps : List (RT × Option Addr × Nat)} {P : Nat → Prop} (h : NodeRow w base e v ps P) (hz : w.heap.size ≤ w'.heap.size)
    (hr : w'.ownsRow base e 5 v ps.length (flatP ps)) (hc : ∀ b, P b → w'.heap[b]? = w.heap[b]?) : NodeRow w' base e v ps P :=
  ⟨hr, fun b hb => ⟨Nat.lt_of_lt_of_le (h.far b hb).1 hz, (h.far b hb).2⟩, fun p hp => (h.node p hp).imp (fun b o hb => World.cell?_of_block (a := ⟨b, o, none⟩) (hc b hb)) (fun _ h => h)⟩
theorem NodeRow.below {w w' : World} {base : Nat} {e : TypeId} {v : Value} {ps : List (RT × Option Addr × Nat)} {P : Nat → Prop} (h : NodeRow w base e v ps P) (hb : Below w.heap.size w w') : NodeRow w' base e v ps P :=
  h.kept hb.size (h.row.kept (row := none) ⟨hb.os, hb.tape, hb.output, hb.size, fun k hk _ => hb.block k hk⟩ (by cases hv : v.ownBlock <;> simp)) (fun b hb' => hb.block b (h.far b hb').1)
theorem NodeRow.alloc {w : World} {base : Nat} {e : TypeId} {v : Value} {ps : List (RT × Option Addr × Nat)} {P : Nat → Prop} (h : NodeRow w base e v ps P) (o : Obj) : NodeRow (w.alloc o) base e v ps P :=
  h.below ((Below.refl _ _).alloc (Nat.le_refl _) _)
/-- Behind a store into a block below its own. -/
theorem NodeRow.setCell {w : World} {base : Nat} {e : TypeId} {v : Value} {ps : List (RT × Option Addr × Nat)} {P : Nat → Prop} (h : NodeRow w base e v ps P) {a : Addr} (ha : a.block < base) (hP : ∀ b, P b → b ≠ a.block) (u : Value) : NodeRow (w.setCell a u) base e v ps P :=
  h.kept (by simp [World.setCell]) (ownsRow_setCell_below h.row ha u) (fun b hb => Below.heap_setCell w a u b (hP b hb))
/-- One more. -/
theorem NodeRow.push {w w' : World} {base : Nat} {e : TypeId} {v v' : Value} {ps : List (RT × Option Addr × Nat)} {P Pn : Nat → Prop} {p : RT × Option Addr × Nat} (h : NodeRow w base e v ps P)
    (hn : NodeIn w Pn p.1 p.2.1 p.2.2) (hf : ∀ b, Pn b → b < w.heap.size ∧ v.ownBlock ≠ some b)
    (hr : w'.ownsRow base e 5 v' (ps.length + 1) (flatP ps ++ cellsP p)) (hg : w.grownBy w' v.ownBlock) (ho : v'.ownBlock = v.ownBlock ∨ v'.ownBlock = some w.heap.size) : NodeRow w' base e v' (ps ++ [p]) (fun b => P b ∨ Pn b) := by
  have hb : ∀ b, P b ∨ Pn b → b < w.heap.size ∧ v.ownBlock ≠ some b := fun b hb => hb.elim (h.far b) (hf b)
  have hcell : ∀ b o, P b ∨ Pn b → w'.cell? ⟨b, o, none⟩ = w.cell? ⟨b, o, none⟩ := fun b o hb' => World.cell?_of_block (a := ⟨b, o, none⟩) (hg.block b (hb b hb').1 (fun e => (hb b hb').2 e.symm))
  refine ⟨by rw [flatP_snoc, List.length_append]; exact hr, fun b hb' => ⟨Nat.lt_of_lt_of_le (hb b hb').1 hg.size, fun e => ?_⟩, fun q hq => ?_⟩
  · rcases ho with ho | ho
    · exact (hb b hb').2 (ho.symm.trans e)
    · have := (hb b hb').1
      rw [ho] at e
      injection e with e
      omega
  · rcases List.mem_append.1 hq with hq | hq
    · exact (h.node q hq).imp (fun b o hb' => hcell b o (.inl hb')) (fun b hb' => .inl hb')
    · obtain rfl : q = p := by simpa using hq
      exact hn.imp (fun b o hb' => hcell b o (.inr hb')) (fun b hb' => .inr hb')
/-- A node whose Subs the row is. -/
theorem NodeRow.parent {w : World} {base lo : Nat} {e : TypeId} {A : Option Addr} {cap : Nat} {ps : List (RT × Option Addr × Nat)} {P : Nat → Prop} (h : NodeRow w base e (.slice A ps.length cap) ps P) (hlo : lo ≤ base) (hP : ∀ b, P b → lo ≤ b)
    (k a : Int) (s : ByteArray) (n : Int) (hs : s.size ≤ maxLen) : IsNode w lo w.heap.size (.node k a s n (ps.map (·.1))) A cap := by
  have hcap : ps.length ≤ cap ∧ cap ≤ maxLen := by
    rcases h.row.2 with ⟨h1, h2⟩ | ⟨g, c, cur, h1, _, _, h2, h3, _⟩
    · injection h1 with _ h3 h4
      subst h4; omega
    · injection h1 with _ _ h4
      subst h4; exact ⟨h2, h3⟩
  have hlen : (ps.map (·.1)).length = ps.length := List.length_map _
  have hnode : ∀ i (hi : i < (ps.map (·.1)).length), NodeIn w (fun b => lo ≤ b ∧ b < w.heap.size) (ps.map (·.1))[i] ((ps[i]?.map fun p => p.2.1).getD none) ((ps[i]?.map fun p => p.2.2).getD 0) := by
    intro i hi
    have hi' : i < ps.length := by omega
    rw [List.getElem?_eq_getElem hi', List.getElem_map]
    exact (h.node _ (List.getElem_mem hi')).imp (fun _ _ _ => rfl) (fun b hb => ⟨hP b hb, (h.far b hb).1⟩)
  refine NodeIn.mk k a s n _ A cap (fun i => (ps[i]?.map fun p => p.2.1).getD none) (fun i => (ps[i]?.map fun p => p.2.2).getD 0) hs (by omega) hcap.2 (fun h0 => ?_) hnode
  rcases h.row.2 with ⟨h1, h2⟩ | ⟨g, c, cur, h1, hbg, hg, _⟩
  · omega
  · injection h1 with h1 _ _
    subst h1
    refine ⟨g, 0, rfl, ⟨by omega, ?_⟩, fun i hi => ?_⟩
    · rcases Nat.lt_or_ge g w.heap.size with hlt | hge
      · exact hlt
      · rw [Array.getElem?_eq_none hge] at hg; cases hg
    · have hi' : i < ps.length := by omega
      have hat := fun r (hr : r < 5) => (h.row.cellAt (i * 5 + r) (by omega)).trans (flatP_at ps i r hi' hr)
      have e : (ps.map (·.1))[i] = ps[i].1 := List.getElem_map _
      rw [e, List.getElem?_eq_getElem hi']
      have a0 := hat 0 (by omega)
      rw [Nat.add_zero] at a0
      exact ⟨by rw [Nat.zero_add, a0]; rfl, by rw [Nat.zero_add, hat 1 (by omega)]; rfl, by rw [Nat.zero_add, hat 2 (by omega)]; rfl, by rw [Nat.zero_add, hat 3 (by omega)]; rfl, by rw [Nat.zero_add, hat 4 (by omega)]; rfl⟩

end Go.Proofs.YtodmnollgejgeaaDoor
