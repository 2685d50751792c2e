/- Worlds of which one block alone, g, and new ones have turned: what lies elsewhere stays. No walk. -/
import Derived.Test.YtcobionbgiaomaaDoorLMoved
import Derived.Test.YtcobionbgiaomaaDoorTBox
namespace Go.Proofs.YtcobionbgiaomaaDoor
open Go.RowKit
set_option linter.unusedVariables false

/-- Below block number B, but for block g, the world b is as a was. -/
structure Near (g B : Nat) (a b : World) : Prop where
  os : b.os = a.os
  tape : b.tape = a.tape
  output : b.output = a.output
  size : a.heap.size ≤ b.heap.size
  block : ∀ k, k < B → k ≠ g → b.heap[k]? = a.heap[k]?
theorem Near.refl (g B : Nat) (w : World) : Near g B w w := ⟨rfl, rfl, rfl, Nat.le_refl _, fun _ _ _ => rfl⟩
theorem Near.of {g B : Nat} {a b : World} (h : Below B a b) : Near g B a b := ⟨h.os, h.tape, h.output, h.size, fun k hk _ => h.block k hk⟩
theorem Near.trans {g B : Nat} {a b c : World} (h : Near g B a b) (k : Near g B b c) : Near g B a c :=
  ⟨k.os.trans h.os, k.tape.trans h.tape, k.output.trans h.output, Nat.le_trans h.size k.size, fun i hi hg => (k.block i hi hg).trans (h.block i hi hg)⟩
theorem Near.mono {g B B' : Nat} {w w' : World} (h : Near g B w w') (hB : B' ≤ B) : Near g B' w w' := ⟨h.os, h.tape, h.output, h.size, fun k hk => h.block k (Nat.lt_of_lt_of_le hk hB)⟩
theorem Near.drew {g B : Nat} {a w : World} (h : Near g B a w) : Near g B a w.drew := ⟨h.os, h.tape, h.output, h.size, h.block⟩
theorem Near.alloc {g B : Nat} {a w : World} (h : Near g B a w) (hB : B ≤ w.heap.size) (o : Obj) : Near g B a (w.alloc o) :=
  h.trans (Near.of ((Below.refl B w).alloc hB o))
theorem Near.setCell {g B : Nat} {a w : World} (h : Near g B a w) {p : Addr} (hp : B ≤ p.block) (u : Value) : Near g B a (w.setCell p u) :=
  h.trans (Near.of ((Below.refl B w).setCell hp u))
/-- A store into block g itself. -/
theorem Near.own {g B : Nat} {a w : World} (h : Near g B a w) (o : Nat) (u : Value) : Near g B a (w.setCell ⟨g, o, none⟩ u) :=
  h.trans ⟨rfl, rfl, rfl, by simp [World.setCell], fun k _ hk => Below.heap_setCell _ _ _ _ hk⟩
theorem Near.grown {g B : Nat} {a w w' : World} {row : Option Nat} (h : Near g B a w) (hg : w.grownBy w' row) (hB : B ≤ w.heap.size) (hr : ∀ k, row = some k → B ≤ k) : Near g B a w' :=
  h.trans (Near.of ((Below.refl B w).grown hg hB hr))
theorem Near.cell {g B : Nat} {w w' : World} (h : Near g B w w') {b o : Nat} (hb : b < B) (hg : b ≠ g) : w'.cell? ⟨b, o, none⟩ = w.cell? ⟨b, o, none⟩ := World.cell?_of_block (a := ⟨b, o, none⟩) (h.block b hb hg)
/-- What lies below g is as it was. -/
theorem Near.below {g B A : Nat} {a b c : World} (h : Below A a b) (k : Near g B b c) (hA : A ≤ g) (hB : A ≤ B) : Below A a c :=
  h.trans ⟨k.os, k.tape, k.output, k.size, fun i hi => k.block i (by omega) (by omega)⟩
theorem Bk.near {w w' : World} {b g B : Nat} {e : TypeId} {cs : Array Value} (h : Bk w b e cs) (hb : Near g B w w') (hB : b < B) (hg : b ≠ g) : Bk w' b e cs := (hb.block b hB hg).trans h
theorem IsTerm.near {w w' : World} {lo hi g B : Nat} {t : TM} {A : Option Addr} {cap : Nat} (h : IsTerm w lo hi t A cap) (hb : Near g B w w') (hB : hi ≤ B) (hg : hi ≤ g ∨ g < lo) : IsTerm w' lo hi t A cap :=
  h.imp (fun b o h1 h2 => hb.cell (by omega) (by omega)) (Nat.le_refl _) (Nat.le_refl _)
theorem TBox.near {W W' : World} {b g B : Nat} {k n : Int} {v : Value} (h : TBox W b k n v) (hb : Near g B W W') (hB : b < B) (hg : b ≠ g) : TBox W' b k n v :=
  ⟨(hb.cell hB hg).trans h.c0, (hb.cell hB hg).trans h.c1, (hb.cell hB hg).trans h.c2, Nat.lt_of_lt_of_le h.lt hb.size⟩
theorem SubTm.near {w w' : World} {lo hi g B : Nat} {A : Option Addr} {l : List TM} {i : Nat} {h : i < l.length} (hx : SubTm w lo hi A l i h) (hb : Near g B w w') (hB : hi ≤ B) (hg : hi ≤ g) : SubTm w' lo hi A l i h := by
  obtain ⟨b, o, F, C, hA, h1, h2, ⟨x0, x1, x2⟩, h4⟩ := hx
  have e : ∀ q, w'.cell? ⟨b, q, none⟩ = w.cell? ⟨b, q, none⟩ := fun q => hb.cell (by omega) (by omega)
  exact ⟨b, o, F, C, hA, h1, h2, ⟨by rw [e, x0], by rw [e, x1], by rw [e, x2]⟩, h4.near hb hB (.inl hg)⟩
theorem TermRow.near {w w' : World} {base g : Nat} {e : TypeId} {v : Value} {ps : List (TM × Option Addr × Nat)} {P : Nat → Prop} (h : TermRow w base e v ps P) (hb : Near g w.heap.size w w') (hg : g < base) (hP : ∀ b, P b → g < b) : TermRow w' base e v ps P := by
  refine h.kept hb.size (h.row.kept (row := some g) ⟨hb.os, hb.tape, hb.output, hb.size, fun k hk hne => hb.block k hk (fun e => hne (by rw [e]))⟩ ?_) (fun b hb' => hb.block b (h.far b hb').1 (fun e => by have := hP b hb'; omega))
  right
  intro e2
  have := (h.row.lt _ e2).1
  omega

end Go.Proofs.YtcobionbgiaomaaDoor
