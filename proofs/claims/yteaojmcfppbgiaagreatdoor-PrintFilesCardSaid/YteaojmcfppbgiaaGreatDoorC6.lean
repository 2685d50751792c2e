/- Two nodes, the same but for offsets: slices.EqualFunc over nodes, tree.alike, scholiumref04.equal. -/
import Derived.Test.YteaojmcfppbgiaaGreatDoorC8
import Derived.Deep.RegionHeld3
import Derived.Test.YteaojmcfppbgiaaGreatDoorC5
import Derived.Deep.QuietTactic
import Derived.BigQuiet
namespace Go.Proofs.YteaojmcfppbgiaaGreatDoor
open Go.RowKit
set_option linter.unusedVariables false
set_option maxRecDepth 100000

theorem allB_no {Q : Nat → Bool} {n i : Nat} (hi : i < n) (h : Q i = false) : allB Q n = false := by
  cases e : allB Q n with
  | false => rfl
  | true => rw [allB_true.1 e i hi] at h; cases h
/-- The test of each pair comes to f, whenever it is asked. -/
def TestNN (w : World) (g : FuncId) (f : RT → RT → Bool) (l l' : List RT) : Prop :=
  ∀ i (h : i < l.length) (h' : i < l'.length) (lo hi lo' hi' : Nat) (F F' : Option Addr) (C C' : Nat) (w' : World), Below w.heap.size w w' → IsNode w' lo hi l[i] F C → IsNode w' lo' hi' l'[i] F' C' → hi ≤ w'.heap.size → hi' ≤ w'.heap.size →
    Calls Tryz.prog g #[nodeV l[i] F C, nodeV l'[i] F' C'] w' fun e w'' => e = .returned (.bool (f l[i] l'[i])) ∧ Below w'.heap.size w' w''
theorem TestNN.kept {w w' : World} {g : FuncId} {f : RT → RT → Bool} {l l' : List RT} (h : TestNN w g f l l') (hb : Below w.heap.size w w') : TestNN w' g f l l' :=
  fun i h1 h2 lo hi lo' hi' F F' C C' W hW => h i h1 h2 lo hi lo' hi' F F' C C' W (hb.trans (hW.mono hb.size))

end Go.Proofs.YteaojmcfppbgiaaGreatDoor

/- scholiumref04.equal, scholiumref04.Same, tree.Same. -/
namespace Go.Proofs.YteaojmcfppbgiaaGreatDoor
open Go.RowKit
set_option linter.unusedVariables false
set_option maxRecDepth 100000

end Go.Proofs.YteaojmcfppbgiaaGreatDoor

/- Bindings, rows, declarations, as plain data; how they lie in memory (tree's and scholiumref04's alike). No program. -/
namespace Go.Proofs.YteaojmcfppbgiaaGreatDoor
open Go.RowKit
set_option linter.unusedVariables false
set_option maxRecDepth 100000

/-- A binding: its name, its offset, its type. -/
structure BT where
  s : ByteArray
  a : Int
  t : RT
/-- A row: its offset, its patterns, whether it has a body, its body. -/
structure CT where
  a : Int
  ps : List RT
  h : Bool
  t : RT
/-- A declaration. -/
structure DT where
  k : Int
  a : Int
  s : ByteArray
  te : List BT
  t : RT
  co : List BT
  ro : List CT

def bindV (x : BT) (F : Option Addr) (C : Nat) : Value := .agg #[.string x.s, .int .i64 x.a, .int .i64 x.t.k, .int .i64 x.t.a, .string x.t.s, .int .i64 x.t.n, .slice F x.t.l.length C]
structure CellsB (w : World) (b o : Nat) (x : BT) (F : Option Addr) (C : Nat) : Prop where
  c0 : w.cell? ⟨b, o, none⟩ = some (.string x.s)
  c1 : w.cell? ⟨b, o + 1, none⟩ = some (.int .i64 x.a)
  c2 : w.cell? ⟨b, o + 2, none⟩ = some (.int .i64 x.t.k)
  c3 : w.cell? ⟨b, o + 3, none⟩ = some (.int .i64 x.t.a)
  c4 : w.cell? ⟨b, o + 4, none⟩ = some (.string x.t.s)
  c5 : w.cell? ⟨b, o + 5, none⟩ = some (.int .i64 x.t.n)
  c6 : w.cell? ⟨b, o + 6, none⟩ = some (.slice F x.t.l.length C)
/-- What is behind a binding. -/
structure IsBind (w : World) (lo hi : Nat) (x : BT) (F : Option Addr) (C : Nat) : Prop where
  hs : x.s.size ≤ maxLen
  hn : IsNode w lo hi x.t F C
def rowV (x : CT) (A : Option Addr) (c : Nat) (F : Option Addr) (C : Nat) : Value := .agg #[.int .i64 x.a, .slice A x.ps.length c, .bool x.h, .int .i64 x.t.k, .int .i64 x.t.a, .string x.t.s, .int .i64 x.t.n, .slice F x.t.l.length C]
structure CellsR (w : World) (b o : Nat) (x : CT) (A : Option Addr) (c : Nat) (F : Option Addr) (C : Nat) : Prop where
  c0 : w.cell? ⟨b, o, none⟩ = some (.int .i64 x.a)
  c1 : w.cell? ⟨b, o + 1, none⟩ = some (.slice A x.ps.length c)
  c2 : w.cell? ⟨b, o + 2, none⟩ = some (.bool x.h)
  c3 : w.cell? ⟨b, o + 3, none⟩ = some (.int .i64 x.t.k)
  c4 : w.cell? ⟨b, o + 4, none⟩ = some (.int .i64 x.t.a)
  c5 : w.cell? ⟨b, o + 5, none⟩ = some (.string x.t.s)
  c6 : w.cell? ⟨b, o + 6, none⟩ = some (.int .i64 x.t.n)
  c7 : w.cell? ⟨b, o + 7, none⟩ = some (.slice F x.t.l.length C)
structure IsRow (w : World) (lo hi : Nat) (x : CT) (A : Option Addr) (c : Nat) (F : Option Addr) (C : Nat) : Prop where
  hl : x.ps.length ≤ c
  hc : c ≤ maxLen
  hp : NodesAt w lo hi A x.ps
  hn : IsNode w lo hi x.t F C
theorem IsBind.kept {w w' : World} {lo hi B : Nat} {x : BT} {F : Option Addr} {C : Nat} (h : IsBind w lo hi x F C) (hb : Below B w w') (hB : hi ≤ B) : IsBind w' lo hi x F C := ⟨h.hs, h.hn.kept hb hB⟩
theorem IsRow.kept {w w' : World} {lo hi B : Nat} {x : CT} {A : Option Addr} {c : Nat} {F : Option Addr} {C : Nat} (h : IsRow w lo hi x A c F C) (hb : Below B w w') (hB : hi ≤ B) : IsRow w' lo hi x A c F C := ⟨h.hl, h.hc, h.hp.kept hb hB, h.hn.kept hb hB⟩
theorem IsBind.alloc {w : World} {lo hi : Nat} {x : BT} {F : Option Addr} {C : Nat} (h : IsBind w lo hi x F C) (hB : hi ≤ w.heap.size) (o : Obj) : IsBind (w.alloc o) lo hi x F C := h.kept ((Below.refl hi w).alloc hB o) (Nat.le_refl _)
theorem IsRow.alloc {w : World} {lo hi : Nat} {x : CT} {A : Option Addr} {c : Nat} {F : Option Addr} {C : Nat} (h : IsRow w lo hi x A c F C) (hB : hi ≤ w.heap.size) (o : Obj) : IsRow (w.alloc o) lo hi x A c F C := h.kept ((Below.refl hi w).alloc hB o) (Nat.le_refl _)
theorem CellsB.kept {w w' : World} {b o B : Nat} {x : BT} {F : Option Addr} {C : Nat} (h : CellsB w b o x F C) (hb : Below B w w') (hB : b < B) : CellsB w' b o x F C := by
  have e : ∀ q, w'.cell? ⟨b, q, none⟩ = w.cell? ⟨b, q, none⟩ := fun q => hb.cell (p := ⟨b, q, none⟩) hB
  obtain ⟨x0, x1, x2, x3, x4, x5, x6⟩ := h
  exact ⟨by rw [e, x0], by rw [e, x1], by rw [e, x2], by rw [e, x3], by rw [e, x4], by rw [e, x5], by rw [e, x6]⟩
theorem CellsR.kept {w w' : World} {b o B : Nat} {x : CT} {A : Option Addr} {c : Nat} {F : Option Addr} {C : Nat} (h : CellsR w b o x A c F C) (hb : Below B w w') (hB : b < B) : CellsR w' b o x A c F C := by
  have e : ∀ q, w'.cell? ⟨b, q, none⟩ = w.cell? ⟨b, q, none⟩ := fun q => hb.cell (p := ⟨b, q, none⟩) hB
  obtain ⟨x0, x1, x2, x3, x4, x5, x6, x7⟩ := h
  exact ⟨by rw [e, x0], by rw [e, x1], by rw [e, x2], by rw [e, x3], by rw [e, x4], by rw [e, x5], by rw [e, x6], by rw [e, x7]⟩
def BindAt (w : World) (lo hi : Nat) (A : Option Addr) (l : List BT) (i : Nat) (h : i < l.length) : Prop :=
  ∃ b o F C, A = some ⟨b, o, none⟩ ∧ lo ≤ b ∧ b < hi ∧ CellsB w b (o + i * 7) l[i] F C ∧ IsBind w lo hi l[i] F C
def RowAt (w : World) (lo hi : Nat) (A : Option Addr) (l : List CT) (i : Nat) (h : i < l.length) : Prop :=
  ∃ b o A' c F C, A = some ⟨b, o, none⟩ ∧ lo ≤ b ∧ b < hi ∧ CellsR w b (o + i * 8) l[i] A' c F C ∧ IsRow w lo hi l[i] A' c F C
def BindsAt (w : World) (lo hi : Nat) (A : Option Addr) (l : List BT) : Prop := ∀ i (h : i < l.length), BindAt w lo hi A l i h
def RowsAt (w : World) (lo hi : Nat) (A : Option Addr) (l : List CT) : Prop := ∀ i (h : i < l.length), RowAt w lo hi A l i h
theorem BindAt.kept {w w' : World} {lo hi B : Nat} {A : Option Addr} {l : List BT} {i : Nat} {h : i < l.length} (hx : BindAt w lo hi A l i h) (hb : Below B w w') (hB : hi ≤ B) : BindAt w' lo hi A l i h := by
  obtain ⟨b, o, F, C, hA, h1, h2, h3, h4⟩ := hx
  exact ⟨b, o, F, C, hA, h1, h2, h3.kept hb (by omega), h4.kept hb hB⟩
theorem RowAt.kept {w w' : World} {lo hi B : Nat} {A : Option Addr} {l : List CT} {i : Nat} {h : i < l.length} (hx : RowAt w lo hi A l i h) (hb : Below B w w') (hB : hi ≤ B) : RowAt w' lo hi A l i h := by
  obtain ⟨b, o, A', c, F, C, hA, h1, h2, h3, h4⟩ := hx
  exact ⟨b, o, A', c, F, C, hA, h1, h2, h3.kept hb (by omega), h4.kept hb hB⟩
theorem BindsAt.kept {w w' : World} {lo hi B : Nat} {A : Option Addr} {l : List BT} (h : BindsAt w lo hi A l) (hb : Below B w w') (hB : hi ≤ B) : BindsAt w' lo hi A l := fun i hi' => (h i hi').kept hb hB
theorem RowsAt.kept {w w' : World} {lo hi B : Nat} {A : Option Addr} {l : List CT} (h : RowsAt w lo hi A l) (hb : Below B w w') (hB : hi ≤ B) : RowsAt w' lo hi A l := fun i hi' => (h i hi').kept hb hB

/-- What they come to. -/
noncomputable def exprB (t : RT) : Bool := fitB t && goodB t false
noncomputable def patB (t : RT) : Bool := fitB t && goodB t true
def zeroB (t : RT) : Bool := decide (t.k = 0) && (decide (t.a = 0) && (noneB t.s && (decide (t.n = 0) && decide (t.l.length = 0))))
noncomputable def bindB (x : BT) : Bool := nmB x.s && exprB x.t
noncomputable def patsB (l : List RT) : Bool := allB (fun i => (l[i]?.map patB).getD true) l.length
noncomputable def bindsB (l : List BT) : Bool := allB (fun i => (l[i]?.map bindB).getD true) l.length
noncomputable def rowB (x : CT) : Bool := decide (x.ps.length ≤ 24) && (patsB x.ps && if x.h then exprB x.t else zeroB x.t)
noncomputable def rowsB (l : List CT) : Bool := allB (fun i => (l[i]?.map rowB).getD true) l.length
theorem mapAt {α : Type} (f : α → Bool) {l : List α} {i : Nat} (h : i < l.length) : (l[i]?.map f).getD true = f l[i] := by rw [List.getElem?_eq_getElem h]; rfl

end Go.Proofs.YteaojmcfppbgiaaGreatDoor
