/- A result of any number of cells, stored into its block; bindings and rows that a reader's call hands back. No program. -/
import Derived.Test.YteaojmcfppbgiaaGreatDoorB7
import Derived.Test.YteaojmcfppbgiaaGreatDoorC6
import Derived.ProofKit
import Derived.Deep.RegionHeld3
import Derived.Test.YteaojmcfppbgiaaGreatDoorC4
namespace Go.Proofs.YteaojmcfppbgiaaGreatDoor
open Go.RowKit
set_option linter.unusedVariables false
set_option maxRecDepth 100000

end Go.Proofs.YteaojmcfppbgiaaGreatDoor

/- parse: a name with its type; a binding; a constructor. -/
namespace Go.Proofs.YteaojmcfppbgiaaGreatDoor
open Go.RowKit
set_option linter.unusedVariables false
set_option maxRecDepth 100000

theorem Bk.c7 {w : World} {g : Nat} {e : TypeId} {c0 c1 c2 c3 c4 c5 c6 : Value} (h : Bk w g e #[c0, c1, c2, c3, c4, c5, c6]) :
    w.cell? ⟨g, 0, none⟩ = some c0 ∧ w.cell? ⟨g, 1, none⟩ = some c1 ∧ w.cell? ⟨g, 2, none⟩ = some c2 ∧ w.cell? ⟨g, 3, none⟩ = some c3 ∧ w.cell? ⟨g, 4, none⟩ = some c4 ∧ w.cell? ⟨g, 5, none⟩ = some c5 ∧ w.cell? ⟨g, 6, none⟩ = some c6 :=
  ⟨h.cell 0, h.cell 1, h.cell 2, h.cell 3, h.cell 4, h.cell 5, h.cell 6⟩

end Go.Proofs.YteaojmcfppbgiaaGreatDoor

/- parse: a row. -/
namespace Go.Proofs.YteaojmcfppbgiaaGreatDoor
open Go.RowKit
set_option linter.unusedVariables false
set_option maxRecDepth 100000

theorem Bk.c8 {w : World} {g : Nat} {e : TypeId} {c0 c1 c2 c3 c4 c5 c6 c7 : Value} (h : Bk w g e #[c0, c1, c2, c3, c4, c5, c6, c7]) :
    w.cell? ⟨g, 0, none⟩ = some c0 ∧ w.cell? ⟨g, 1, none⟩ = some c1 ∧ w.cell? ⟨g, 2, none⟩ = some c2 ∧ w.cell? ⟨g, 3, none⟩ = some c3 ∧ w.cell? ⟨g, 4, none⟩ = some c4 ∧ w.cell? ⟨g, 5, none⟩ = some c5 ∧ w.cell? ⟨g, 6, none⟩ = some c6 ∧ w.cell? ⟨g, 7, none⟩ = some c7 :=
  ⟨h.cell 0, h.cell 1, h.cell 2, h.cell 3, h.cell 4, h.cell 5, h.cell 6, h.cell 7⟩
theorem IsNode.cells {w w' : World} {lo hi : Nat} {t : RT} {A : Option Addr} {c : Nat} (h : IsNode w lo hi t A c) {lo' hi' : Nat} (hc : ∀ b o, lo ≤ b → b < hi → w'.cell? ⟨b, o, none⟩ = w.cell? ⟨b, o, none⟩) (h1 : lo' ≤ lo) (h2 : hi ≤ hi') : IsNode w' lo' hi' t A c := h.imp hc h1 h2
theorem NodesAt.cells {w w' : World} {lo hi : Nat} {A : Option Addr} {l : List RT} (h : NodesAt w lo hi A l) {lo' hi' : Nat} (hc : ∀ b o, lo ≤ b → b < hi → w'.cell? ⟨b, o, none⟩ = w.cell? ⟨b, o, none⟩) (h1 : lo' ≤ lo) (h2 : hi ≤ hi') : NodesAt w' lo' hi' A l := by
  intro i hi0
  obtain ⟨b, o, F, C, hA, h3, h4, ⟨x0, x1, x2, x3, x4⟩, h6⟩ := h i hi0
  exact ⟨b, o, F, C, hA, by omega, by omega, ⟨by rw [hc _ _ h3 h4, x0], by rw [hc _ _ h3 h4, x1], by rw [hc _ _ h3 h4, x2], by rw [hc _ _ h3 h4, x3], by rw [hc _ _ h3 h4, x4]⟩, h6.cells hc h1 h2⟩
end Go.Proofs.YteaojmcfppbgiaaGreatDoor

/- A row of structs that a call makes, of any kind of struct: as NodeRow, for bindings and rows too. No program. -/
namespace Go.Proofs.YteaojmcfppbgiaaGreatDoor
open Go.RowKit
set_option linter.unusedVariables false

/-- A kind of struct: its cells, what is behind it. -/
structure KindX (α : Type) where
  sz : Nat
  cells : α → List Value
  len : ∀ p, (cells p).length = sz
  inn : World → (Nat → Prop) → α → Prop
  imp : ∀ {w w' : World} {P P' : Nat → Prop}, (∀ b o, P b → w'.cell? ⟨b, o, none⟩ = w.cell? ⟨b, o, none⟩) → (∀ b, P b → P' b) → ∀ p, inn w P p → inn w' P' p

def flatX {α : Type} (K : KindX α) (ps : List α) : List Value := ps.flatMap K.cells
theorem flatX_snoc {α : Type} (K : KindX α) (ps : List α) (p : α) : flatX K (ps ++ [p]) = flatX K ps ++ K.cells p := by
  unfold flatX; rw [List.flatMap_append]; simp
theorem flatX_at {α : Type} (K : KindX α) : ∀ (ps : List α) (j r : Nat) (h : j < ps.length), r < K.sz → (flatX K ps)[j * K.sz + r]? = (K.cells ps[j])[r]?
  | p :: ps, 0, r, _, hr => by
    show (K.cells p ++ flatX K ps)[0 * K.sz + r]? = _
    rw [List.getElem?_append_left (by rw [K.len]; omega)]
    simp
  | p :: ps, j + 1, r, h, hr => by
    show (K.cells p ++ flatX K ps)[(j + 1) * K.sz + r]? = _
    have e0 : (j + 1) * K.sz = j * K.sz + K.sz := by rw [Nat.add_mul, Nat.one_mul]
    rw [List.getElem?_append_right (by rw [K.len]; omega)]
    have e : (j + 1) * K.sz + r - (K.cells p).length = j * K.sz + r := by rw [K.len]; omega
    rw [e, flatX_at K ps j r (by simpa using h) hr]
    rfl

structure RowX {α : Type} (K : KindX α) (w : World) (base : Nat) (e : TypeId) (v : Value) (ps : List α) (P : Nat → Prop) : Prop where
  row : w.ownsRow base e K.sz v ps.length (flatX K ps)
  far : ∀ b, P b → b < w.heap.size ∧ v.ownBlock ≠ some b
  node : ∀ p ∈ ps, K.inn w P p
theorem RowX.kept {α : Type} {K : KindX α} {w w' : World} {base : Nat} {e : TypeId} {v : Value} {ps : List α} {P : Nat → Prop} (h : RowX K w base e v ps P) (hz : w.heap.size ≤ w'.heap.size)
    (hr : w'.ownsRow base e K.sz v ps.length (flatX K ps)) (hc : ∀ b, P b → w'.heap[b]? = w.heap[b]?) : RowX K w' base e v ps P :=
  ⟨hr, fun b hb => ⟨Nat.lt_of_lt_of_le (h.far b hb).1 hz, (h.far b hb).2⟩, fun p hp => K.imp (fun b o hb => World.cell?_of_block (a := ⟨b, o, none⟩) (hc b hb)) (fun _ h => h) p (h.node p hp)⟩
theorem RowX.below {α : Type} {K : KindX α} {w w' : World} {base : Nat} {e : TypeId} {v : Value} {ps : List α} {P : Nat → Prop} (h : RowX K w base e v ps P) (hb : Below w.heap.size w w') : RowX K w' base e v ps P :=
  h.kept hb.size (h.row.kept (row := none) ⟨hb.os, hb.tape, hb.output, hb.size, fun k hk _ => hb.block k hk⟩ (by cases hv : v.ownBlock <;> simp)) (fun b hb' => hb.block b (h.far b hb').1)
theorem RowX.alloc {α : Type} {K : KindX α} {w : World} {base : Nat} {e : TypeId} {v : Value} {ps : List α} {P : Nat → Prop} (h : RowX K w base e v ps P) (o : Obj) : RowX K (w.alloc o) base e v ps P :=
  h.below ((Below.refl _ _).alloc (Nat.le_refl _) _)
theorem RowX.setCell {α : Type} {K : KindX α} {w : World} {base : Nat} {e : TypeId} {v : Value} {ps : List α} {P : Nat → Prop} (h : RowX K w base e v ps P) {a : Addr} (ha : a.block < base) (hP : ∀ b, P b → b ≠ a.block) (u : Value) : RowX K (w.setCell a u) base e v ps P :=
  h.kept (by simp [World.setCell]) (ownsRow_setCell_below h.row ha u) (fun b hb => Below.heap_setCell w a u b (hP b hb))
theorem RowX.push {α : Type} {K : KindX α} {w w' : World} {base : Nat} {e : TypeId} {v v' : Value} {ps : List α} {P Pn : Nat → Prop} {p : α} (h : RowX K w base e v ps P)
    (hn : K.inn w Pn p) (hf : ∀ b, Pn b → b < w.heap.size ∧ v.ownBlock ≠ some b)
    (hr : w'.ownsRow base e K.sz v' (ps.length + 1) (flatX K ps ++ K.cells p)) (hg : w.grownBy w' v.ownBlock) (ho : v'.ownBlock = v.ownBlock ∨ v'.ownBlock = some w.heap.size) : RowX K w' base e v' (ps ++ [p]) (fun b => P b ∨ Pn b) := by
  have hb : ∀ b, P b ∨ Pn b → b < w.heap.size ∧ v.ownBlock ≠ some b := fun b hb => hb.elim (h.far b) (hf b)
  have hcell : ∀ b o, P b ∨ Pn b → w'.cell? ⟨b, o, none⟩ = w.cell? ⟨b, o, none⟩ := fun b o hb' => World.cell?_of_block (a := ⟨b, o, none⟩) (hg.block b (hb b hb').1 (fun e => (hb b hb').2 e.symm))
  refine ⟨by rw [flatX_snoc, List.length_append]; exact hr, fun b hb' => ⟨Nat.lt_of_lt_of_le (hb b hb').1 hg.size, fun e => ?_⟩, fun q hq => ?_⟩
  · rcases ho with ho | ho
    · exact (hb b hb').2 (ho.symm.trans e)
    · have := (hb b hb').1
      rw [ho] at e
      injection e with e
      omega
  · rcases List.mem_append.1 hq with hq | hq
    · exact K.imp (fun b o hb' => hcell b o (.inl hb')) (fun b hb' => .inl hb') q (h.node q hq)
    · obtain rfl : q = p := by simpa using hq
      exact K.imp (fun b o hb' => hcell b o (.inr hb')) (fun b hb' => .inr hb') q hn
/-- What stands at each place. -/
theorem RowX.bounds {α : Type} {K : KindX α} {w : World} {base : Nat} {e : TypeId} {A : Option Addr} {cap : Nat} {ps : List α} {P : Nat → Prop} (h : RowX K w base e (.slice A ps.length cap) ps P) : ps.length ≤ cap ∧ cap ≤ maxLen := by
  rcases h.row.2 with ⟨h1, h2⟩ | ⟨g, c, cur, h1, _, _, h2, h3, _⟩
  · injection h1 with _ h3 h4
    subst h4; omega
  · injection h1 with _ _ h4
    subst h4; exact ⟨h2, h3⟩
theorem RowX.at_ {α : Type} {K : KindX α} {w : World} {base : Nat} {e : TypeId} {A : Option Addr} {cap : Nat} {ps : List α} {P : Nat → Prop} (h : RowX K w base e (.slice A ps.length cap) ps P) (i : Nat) (hi : i < ps.length) :
    ∃ b, A = some ⟨b, 0, none⟩ ∧ base ≤ b ∧ b < w.heap.size ∧ (∀ r, r < K.sz → w.cell? ⟨b, i * K.sz + r, none⟩ = (K.cells ps[i])[r]?) ∧ K.inn w P ps[i] := by
  have hin := h.node _ (List.getElem_mem hi)
  have hrow := h.row
  rcases h.row.2 with ⟨h1, h2⟩ | ⟨g, c, cur, h1, hbg, hg, _⟩
  · omega
  · injection h1 with h1 _ _
    subst h1
    refine ⟨g, rfl, hbg, ?_, fun r hr => ?_, hin⟩
    · rcases Nat.lt_or_ge g w.heap.size with hlt | hge
      · exact hlt
      · rw [Array.getElem?_eq_none hge] at hg; cases hg
    · have hlt : i * K.sz + r < ps.length * K.sz := by
        have : (i + 1) * K.sz ≤ ps.length * K.sz := Nat.mul_le_mul_right _ hi
        rw [Nat.add_mul, Nat.one_mul] at this
        omega
      exact (hrow.cellAt (i * K.sz + r) hlt).trans (flatX_at K ps i r hi hr)

/-- Bindings; rows. -/
def kindB : KindX (BT × Option Addr × Nat) where
  sz := 7
  cells p := [.string p.1.s, .int .i64 p.1.a, .int .i64 p.1.t.k, .int .i64 p.1.t.a, .string p.1.t.s, .int .i64 p.1.t.n, .slice p.2.1 p.1.t.l.length p.2.2]
  len p := rfl
  inn w P p := p.1.s.size ≤ maxLen ∧ NodeIn w P p.1.t p.2.1 p.2.2
  imp hw hP p h := ⟨h.1, h.2.imp hw hP⟩

end Go.Proofs.YteaojmcfppbgiaaGreatDoor

/- Bindings, rows, declarations as kinds of structs in a row; one after the other, of any kind. No program. -/
namespace Go.Proofs.YteaojmcfppbgiaaGreatDoor
open Go.RowKit
set_option linter.unusedVariables false
set_option maxRecDepth 100000

section
variable {w w' : World} {lo hi lo' hi' : Nat}
theorem IsNode.to {t : RT} {A : Option Addr} {c : Nat} (h : IsNode w lo hi t A c) (hc : ∀ b o, lo ≤ b → b < hi → w'.cell? ⟨b, o, none⟩ = w.cell? ⟨b, o, none⟩) (hP : ∀ b, lo ≤ b → b < hi → lo' ≤ b ∧ b < hi') : IsNode w' lo' hi' t A c :=
  NodeIn.imp (fun b o hb => hc b o hb.1 hb.2) (fun b hb => hP b hb.1 hb.2) h
theorem Cells5.to {b o : Nat} {t : RT} {A : Option Addr} {c : Nat} (h : Cells5 w b o t A c) (hc : ∀ o, w'.cell? ⟨b, o, none⟩ = w.cell? ⟨b, o, none⟩) : Cells5 w' b o t A c := by
  obtain ⟨x0, x1, x2, x3, x4⟩ := h
  exact ⟨by rw [hc, x0], by rw [hc, x1], by rw [hc, x2], by rw [hc, x3], by rw [hc, x4]⟩
theorem NodesAt.to {A : Option Addr} {l : List RT} (h : NodesAt w lo hi A l) (hc : ∀ b o, lo ≤ b → b < hi → w'.cell? ⟨b, o, none⟩ = w.cell? ⟨b, o, none⟩) (hP : ∀ b, lo ≤ b → b < hi → lo' ≤ b ∧ b < hi') : NodesAt w' lo' hi' A l := by
  intro i hi0
  obtain ⟨b, o, F, C, hA, h3, h4, h5, h6⟩ := h i hi0
  exact ⟨b, o, F, C, hA, (hP b h3 h4).1, (hP b h3 h4).2, h5.to (fun o => hc b o h3 h4), h6.to hc hP⟩
theorem IsBind.to {x : BT} {F : Option Addr} {C : Nat} (h : IsBind w lo hi x F C) (hc : ∀ b o, lo ≤ b → b < hi → w'.cell? ⟨b, o, none⟩ = w.cell? ⟨b, o, none⟩) (hP : ∀ b, lo ≤ b → b < hi → lo' ≤ b ∧ b < hi') : IsBind w' lo' hi' x F C := ⟨h.hs, h.hn.to hc hP⟩
theorem IsRow.to {x : CT} {A : Option Addr} {c : Nat} {F : Option Addr} {C : Nat} (h : IsRow w lo hi x A c F C) (hc : ∀ b o, lo ≤ b → b < hi → w'.cell? ⟨b, o, none⟩ = w.cell? ⟨b, o, none⟩) (hP : ∀ b, lo ≤ b → b < hi → lo' ≤ b ∧ b < hi') : IsRow w' lo' hi' x A c F C := ⟨h.hl, h.hc, h.hp.to hc hP, h.hn.to hc hP⟩
theorem BindsAt.to {A : Option Addr} {l : List BT} (h : BindsAt w lo hi A l) (hc : ∀ b o, lo ≤ b → b < hi → w'.cell? ⟨b, o, none⟩ = w.cell? ⟨b, o, none⟩) (hP : ∀ b, lo ≤ b → b < hi → lo' ≤ b ∧ b < hi') : BindsAt w' lo' hi' A l := by
  intro i hi0
  obtain ⟨b, o, F, C, hA, h3, h4, ⟨x0, x1, x2, x3, x4, x5, x6⟩, h6⟩ := h i hi0
  have e := fun o => hc b o h3 h4
  exact ⟨b, o, F, C, hA, (hP b h3 h4).1, (hP b h3 h4).2, ⟨by rw [e, x0], by rw [e, x1], by rw [e, x2], by rw [e, x3], by rw [e, x4], by rw [e, x5], by rw [e, x6]⟩, h6.to hc hP⟩
theorem RowsAt.to {A : Option Addr} {l : List CT} (h : RowsAt w lo hi A l) (hc : ∀ b o, lo ≤ b → b < hi → w'.cell? ⟨b, o, none⟩ = w.cell? ⟨b, o, none⟩) (hP : ∀ b, lo ≤ b → b < hi → lo' ≤ b ∧ b < hi') : RowsAt w' lo' hi' A l := by
  intro i hi0
  obtain ⟨b, o, A', c, F, C, hA, h3, h4, ⟨x0, x1, x2, x3, x4, x5, x6, x7⟩, h6⟩ := h i hi0
  have e := fun o => hc b o h3 h4
  exact ⟨b, o, A', c, F, C, hA, (hP b h3 h4).1, (hP b h3 h4).2, ⟨by rw [e, x0], by rw [e, x1], by rw [e, x2], by rw [e, x3], by rw [e, x4], by rw [e, x5], by rw [e, x6], by rw [e, x7]⟩, h6.to hc hP⟩
theorem IsDecl.to {x : DT} {p : DP} (h : IsDecl w lo hi x p) (hc : ∀ b o, lo ≤ b → b < hi → w'.cell? ⟨b, o, none⟩ = w.cell? ⟨b, o, none⟩) (hP : ∀ b, lo ≤ b → b < hi → lo' ≤ b ∧ b < hi') : IsDecl w' lo' hi' x p :=
  ⟨h.hs, h.la, h.ma, h.lb, h.mb, h.ld, h.md, h.te.to hc hP, h.t.to hc hP, h.co.to hc hP, h.ro.to hc hP⟩
end

/-- Something lies in blocks of which P holds. -/
def InP (P : Nat → Prop) (I : Nat → Nat → Prop) : Prop := ∃ lo hi, (∀ b, lo ≤ b → b < hi → P b) ∧ I lo hi
def kdD : KindX (DT × DP) where
  sz := 11
  cells q := [.int .i64 q.1.k, .int .i64 q.1.a, .string q.1.s, .slice q.2.A q.1.te.length q.2.a, .int .i64 q.1.t.k, .int .i64 q.1.t.a, .string q.1.t.s, .int .i64 q.1.t.n, .slice q.2.F q.1.t.l.length q.2.C, .slice q.2.B q.1.co.length q.2.b, .slice q.2.D q.1.ro.length q.2.d]
  len p := rfl
  inn w P p := InP P fun lo hi => IsDecl w lo hi p.1 p.2
  imp hw hP p h := by
    obtain ⟨lo, hi, h1, h2⟩ := h
    exact ⟨lo, hi, fun b h3 h4 => hP b (h1 b h3 h4), h2.to (fun b o h3 h4 => hw b o (h1 b h3 h4)) (fun b h3 h4 => ⟨h3, h4⟩)⟩
theorem RowX.nil {α : Type} (K : KindX α) (w : World) (base : Nat) (e : TypeId) : RowX K w base e (.slice none 0 0) [] (fun _ => False) :=
  ⟨World.ownsRow_nil _ _ _ _, fun _ h => h.elim, fun _ h => by cases h⟩
theorem own_shapeX {w : World} {base : Nat} {e : TypeId} {size : Nat} {v : Value} {n : Nat} {xs : List Value} (h : w.ownsRow base e size v n xs) : ∃ a cap, v = .slice a n cap := by
  rcases h.2 with ⟨rfl, rfl⟩ | ⟨g, cap, cur, rfl, _⟩
  · exact ⟨_, _, rfl⟩
  · exact ⟨_, _, rfl⟩

theorem inp_wide {P : Nat → Prop} {w : World} {base : Nat} (hP : ∀ b, P b → base ≤ b) (hf : ∀ b, P b → b < w.heap.size) {lo hi : Nat} (h : ∀ b, lo ≤ b → b < hi → P b) : ∀ b, lo ≤ b → b < hi → base ≤ b ∧ b < w.heap.size := fun b h1 h2 => ⟨hP b (h b h1 h2), hf b (h b h1 h2)⟩
end Go.Proofs.YteaojmcfppbgiaaGreatDoor
