/- parse's reader: which token is next, the first error; the tokens of a text in memory. What a call does that moves it. No program. -/
import Derived.Test.YteaojmcfppbgiaaGreatDoorA6
import Derived.Test.YteaojmcfppbgiaaGreatDoorB1
import Derived.ProofKit
import Derived.BigRegion
namespace Go.Proofs.YteaojmcfppbgiaaGreatDoor
open Go.RowKit
set_option linter.unusedVariables false
set_option maxRecDepth 100000

/-- A token: its kind, its text, its offset. -/
abbrev Tk := Int × ByteArray × Nat
def tk (L : List Tk) (k : Nat) : Tk := L.getD k (0, ⟨#[]⟩, 0)
/-- Which token is next, the first error's offset, the error. -/
structure St where
  k : Nat
  f : Int
  e : Int
/-- The tokens, the end behind, in block g. -/
structure Toks (w : World) (g : Nat) (L : List Tk) (cap : Nat) : Prop where
  le : L.length ≤ cap
  mx : cap ≤ maxLen
  lt : g < w.heap.size
  cell : ∀ i, i < L.length → w.cell? ⟨g, i * 3, none⟩ = some (.int .i64 (tk L i).1) ∧ w.cell? ⟨g, i * 3 + 1, none⟩ = some (.string (tk L i).2.1) ∧ w.cell? ⟨g, i * 3 + 2, none⟩ = some (.int .i64 (tk L i).2.2)
  txt : ∀ i, i < L.length → (tk L i).2.1.size ≤ maxLen
  fin : ∀ i, i < L.length → ((tk L i).1 = 5 ↔ i + 1 = L.length)
  few : L.length ≤ 8193
structure Rd (w : World) (r g : Nat) (L : List Tk) (cap : Nat) (s : St) : Prop where
  bk : Bk w r 133 #[.slice (some ⟨g, s.k * 3, none⟩) (L.length - s.k) (cap - s.k), .int .i64 s.f, .int .i64 s.e]
  lt : s.k < L.length
  ne : g < r
  toks : Toks w g L cap
/-- A call that writes the reader alone, and lays new blocks. -/
def Kp (r : Nat) (w w' : World) : Prop := w.grownBy w' (some r)
theorem Kp.refl (r : Nat) (w : World) : Kp r w w := World.grownBy.refl w _
theorem Kp.size {r : Nat} {w w' : World} (h : Kp r w w') : w.heap.size ≤ w'.heap.size := World.grownBy.size h
theorem Kp.trans {r : Nat} {a b c : World} (h : Kp r a b) (k : Kp r b c) : Kp r a c := World.grownBy.trans h k
theorem Kp.of {r : Nat} {w w' : World} (h : Below w.heap.size w w') : Kp r w w' := ⟨h.os, h.tape, h.output, h.size, fun k hk _ => h.block k hk⟩
theorem Kp.cell {r : Nat} {w w' : World} (h : Kp r w w') {b : Nat} (o : Nat) (hb : b < w.heap.size) (hr : b ≠ r) : w'.cell? ⟨b, o, none⟩ = w.cell? ⟨b, o, none⟩ :=
  World.cell?_of_block (a := ⟨b, o, none⟩) (h.block b hb (fun e => hr (by injection e)))
theorem Kp.alloc {r : Nat} {w w' : World} (h : Kp r w w') (o : Obj) : Kp r w (w'.alloc o) := h.trans (.of ((Below.refl _ _).alloc (Nat.le_refl _) o))
theorem Kp.drew {r : Nat} {w w' : World} (h : Kp r w w') : Kp r w w'.drew := ⟨h.os, h.tape, h.output, h.size, h.block⟩
theorem Kp.set {r : Nat} {w w' : World} (h : Kp r w w') (o : Nat) (v : Value) : Kp r w (w'.setCell ⟨r, o, none⟩ v) :=
  ⟨h.os, h.tape, h.output, by simp [World.setCell]; exact h.size, fun k hk hr => (Below.heap_setCell w' ⟨r, o, none⟩ v k (fun e => hr (by rw [e]))).trans (h.block k hk hr)⟩
theorem Toks.kept {w w' : World} {r g : Nat} {L : List Tk} {cap : Nat} (h : Toks w g L cap) (hk : Kp r w w') (hr : g ≠ r) : Toks w' g L cap := by
  refine ⟨h.le, h.mx, Nat.lt_of_lt_of_le h.lt hk.size, fun i hi => ?_, h.txt, h.fin, h.few⟩
  obtain ⟨a, b, c⟩ := h.cell i hi
  exact ⟨by rw [hk.cell _ h.lt hr, a], by rw [hk.cell _ h.lt hr, b], by rw [hk.cell _ h.lt hr, c]⟩
theorem Rd.below {w w' : World} {r g : Nat} {L : List Tk} {cap : Nat} {s : St} (h : Rd w r g L cap s) (hb : Below w.heap.size w w') : Rd w' r g L cap s :=
  ⟨h.bk.below hb h.bk.lt, h.lt, h.ne, h.toks.kept (Kp.of (r := r) hb) (Nat.ne_of_lt h.ne)⟩
theorem Rd.alloc {w : World} {r g : Nat} {L : List Tk} {cap : Nat} {s : St} (h : Rd w r g L cap s) (o : Obj) : Rd (w.alloc o) r g L cap s := h.below ((Below.refl _ _).alloc (Nat.le_refl _) o)
/-- The reader, moved. -/
theorem Rd.moved {w w' : World} {r g : Nat} {L : List Tk} {cap : Nat} {s s' : St} (h : Rd w r g L cap s) (hk : Kp r w w') (hb : Bk w' r 133 #[.slice (some ⟨g, s'.k * 3, none⟩) (L.length - s'.k) (cap - s'.k), .int .i64 s'.f, .int .i64 s'.e]) (hlt : s'.k < L.length) : Rd w' r g L cap s' :=
  ⟨hb, hlt, h.ne, h.toks.kept hk (Nat.ne_of_lt h.ne)⟩
theorem Rd.sz {w : World} {r g : Nat} {L : List Tk} {cap : Nat} {s : St} (h : Rd w r g L cap s) : ∃ m c : Nat, 0 < m ∧ m ≤ 8193 ∧ m ≤ c ∧ c ≤ maxLen ∧ m = L.length - s.k ∧ c = cap - s.k := by
  have := h.lt; have := h.toks.le; have := h.toks.mx; have := h.toks.few
  exact ⟨_, _, by omega, by omega, by omega, by omega, rfl, rfl⟩
/-- What its cells hold, the token's too. -/
theorem Rd.cells {w : World} {r g : Nat} {L : List Tk} {cap : Nat} {s : St} (h : Rd w r g L cap s) {m c : Nat} (hm : m = L.length - s.k) (hc : c = cap - s.k) :
    w.cell? ⟨r, 0, none⟩ = some (.slice (some ⟨g, s.k * 3, none⟩) m c) ∧ w.cell? ⟨r, 1, none⟩ = some (.int .i64 s.f) ∧ w.cell? ⟨r, 2, none⟩ = some (.int .i64 s.e) ∧
    w.cell? ⟨g, s.k * 3, none⟩ = some (.int .i64 (tk L s.k).1) ∧ w.cell? ⟨g, s.k * 3 + 1, none⟩ = some (.string (tk L s.k).2.1) ∧ w.cell? ⟨g, s.k * 3 + 2, none⟩ = some (.int .i64 (tk L s.k).2.2) := by
  subst hm hc
  obtain ⟨a, b, d⟩ := h.toks.cell s.k h.lt
  exact ⟨h.bk.cell 0, h.bk.cell 1, h.bk.cell 2, a, b, d⟩

/-- What is next. -/
def isB (L : List Tk) (k : Nat) (d : Int) (u : ByteArray) : Bool := decide ((tk L k).1 = d) && ((tk L k).2.1.toList == u.toList)
def mkB (L : List Tk) (k : Nat) (u : ByteArray) : Bool := isB L k 4 u
def kyB (L : List Tk) (k : Nat) (u : ByteArray) : Bool := isB L k 2 u
def loB (L : List Tk) (k : Nat) : Bool := isB L k 1 ⟨#[95]⟩
def nmdB (L : List Tk) (k : Nat) : Bool := decide ((tk L k).1 = 1) && !loB L k
def fnB (L : List Tk) (k : Nat) : Bool := mkB L k ⟨#[40]⟩ && (decide ((tk L (k + 1)).1 = 1) && (decide ((tk L (k + 2)).1 = 4) && ((tk L (k + 2)).2.1.toList == [58])))
def agB (L : List Tk) (k : Nat) : Bool := nmdB L k || (kyB L k ⟨#[83, 101, 116]⟩ || (mkB L k ⟨#[40]⟩ && !fnB L k))
def ptB (L : List Tk) (k : Nat) : Bool := nmdB L k || (loB L k || (mkB L k ⟨#[40]⟩ || mkB L k ⟨#[46]⟩))
/-- How it moves. -/
def stepS (L : List Tk) (s : St) : St := if s.k + 1 < L.length then { s with k := s.k + 1 } else s
def failS (L : List Tk) (s : St) (a e : Int) : St := ⟨L.length - 1, if s.e = 0 then a else s.f, if s.e = 0 then e else s.e⟩
def badS (L : List Tk) (s : St) : St := failS L s (tk L s.k).2.2 1
def takeS (L : List Tk) (u : ByteArray) (s : St) : St := stepS L (if mkB L s.k u then s else badS L s)
def varS (L : List Tk) (s : St) : St := if (tk L s.k).1 = 1 then s else badS L s

theorem Rd.next {w : World} {r g : Nat} {L : List Tk} {cap : Nat} {s : St} (h : Rd w r g L cap s) {i : Nat} (hi : i < L.length) (hk : (tk L i).1 ≠ 5) : i + 1 < L.length := by
  have := (h.toks.fin i hi).2
  by_cases e : i + 1 = L.length
  · exact absurd (this e) hk
  · omega

end Go.Proofs.YteaojmcfppbgiaaGreatDoor

/- parse's reader: which token is next (next, mark, key, low, named, goesOn, ..). Nothing is written. -/
namespace Go.Proofs.YteaojmcfppbgiaaGreatDoor
open Go.RowKit
set_option linter.unusedVariables false
set_option maxRecDepth 100000

end Go.Proofs.YteaojmcfppbgiaaGreatDoor

/- parse's reader: does the type of functions begin, does an argument begin? Nothing is written. -/
namespace Go.Proofs.YteaojmcfppbgiaaGreatDoor
open Go.RowKit
set_option linter.unusedVariables false
set_option maxRecDepth 100000

theorem Rd.two {w : World} {r g : Nat} {L : List Tk} {cap : Nat} {s : St} (h : Rd w r g L cap s) (j : Nat) (hj : s.k + j < L.length) :
    w.cell? ⟨g, s.k * 3 + j * 3, none⟩ = some (.int .i64 (tk L (s.k + j)).1) ∧ w.cell? ⟨g, s.k * 3 + j * 3 + 1, none⟩ = some (.string (tk L (s.k + j)).2.1) := by
  obtain ⟨a, b, _⟩ := h.toks.cell (s.k + j) hj
  rw [Nat.add_mul] at a b
  exact ⟨a, b⟩

end Go.Proofs.YteaojmcfppbgiaaGreatDoor

/- parse's reader: how it moves (fail, bad, step, take, takeName, takeVar). The reader alone is written. -/
namespace Go.Proofs.YteaojmcfppbgiaaGreatDoor
open Go.RowKit
set_option linter.unusedVariables false
set_option maxRecDepth 100000

end Go.Proofs.YteaojmcfppbgiaaGreatDoor

/- parse's reader: a name taken, a variable's name taken; a call's result in a block of its own. -/
namespace Go.Proofs.YteaojmcfppbgiaaGreatDoor
open Go.RowKit
set_option linter.unusedVariables false
set_option maxRecDepth 100000

end Go.Proofs.YteaojmcfppbgiaaGreatDoor
