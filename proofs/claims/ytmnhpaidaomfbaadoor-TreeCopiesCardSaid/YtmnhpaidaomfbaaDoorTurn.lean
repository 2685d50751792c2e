/- scholiumlaw04.turned: the kinds beneath a node are turned; nothing else. -/
import Derived.Test.YtmnhpaidaomfbaaDoorRenew
namespace Go.Proofs.YtmnhpaidaomfbaaDoor
open Go.RowKit
set_option linter.unusedVariables false
set_option maxRecDepth 100000

/-- Between two worlds integers alone have turned, in the blocks of which P speaks; new blocks may have come. -/
structure Turn (P : Nat → Prop) (w w' : World) : Prop where
  os : w'.os = w.os
  tape : w'.tape = w.tape
  output : w'.output = w.output
  size : w.heap.size ≤ w'.heap.size
  block : ∀ k, k < w.heap.size → ¬ P k → w'.heap[k]? = w.heap[k]?
  cell : ∀ b q, P b → b < w.heap.size → w'.cell? ⟨b, q, none⟩ = w.cell? ⟨b, q, none⟩ ∨ ∃ x y, w.cell? ⟨b, q, none⟩ = some (.int .i64 x) ∧ w'.cell? ⟨b, q, none⟩ = some (.int .i64 y)
  cold : ∀ b q, P b → b < w.heap.size → w'.frozen? ⟨b, q, none⟩ = w.frozen? ⟨b, q, none⟩
theorem Turn.refl (P : Nat → Prop) (w : World) : Turn P w w := ⟨rfl, rfl, rfl, Nat.le_refl _, fun _ _ _ => rfl, fun _ _ _ _ => .inl rfl, fun _ _ _ _ => rfl⟩
theorem Turn.trans {P : Nat → Prop} {a b c : World} (h : Turn P a b) (k : Turn P b c) : Turn P a c := by
  refine ⟨k.os.trans h.os, k.tape.trans h.tape, k.output.trans h.output, Nat.le_trans h.size k.size, fun i hi hp => (k.block i (Nat.lt_of_lt_of_le hi h.size) hp).trans (h.block i hi hp), fun b q hp hb => ?_, fun b q hp hb => (k.cold b q hp (Nat.lt_of_lt_of_le hb h.size)).trans (h.cold b q hp hb)⟩
  rcases h.cell b q hp hb with e1 | ⟨x, y, e1, e2⟩
  · rcases k.cell b q hp (Nat.lt_of_lt_of_le hb h.size) with e3 | ⟨x, y, e3, e4⟩
    · exact .inl (e3.trans e1)
    · exact .inr ⟨x, y, e1.symm.trans e3, e4⟩
  · rcases k.cell b q hp (Nat.lt_of_lt_of_le hb h.size) with e3 | ⟨x', y', e3, e4⟩
    · exact .inr ⟨x, y, e1, e3.trans e2⟩
    · exact .inr ⟨x, y', e1, e4⟩
theorem Turn.alloc {P : Nat → Prop} {a w : World} (h : Turn P a w) (o : Obj) : Turn P a (w.alloc o) :=
  h.trans ⟨rfl, rfl, rfl, by simp, fun k hk _ => Below.heap_alloc _ _ _ hk, fun b q _ hb => .inl (World.cell?_alloc_lt _ _ _ hb), fun b q _ hb => World.frozen?_of_block (a := ⟨b, q, none⟩) (Below.heap_alloc _ _ _ hb)⟩
/-- A store of an integer where one stood. -/
theorem frozen_setCell (w : World) (a : Addr) (u : Value) (b q : Nat) : (w.setCell a u).frozen? ⟨b, q, none⟩ = w.frozen? ⟨b, q, none⟩ := by
  by_cases hb : b = a.block
  · subst hb
    simp only [World.frozen?, World.setCell, Array.getElem?_modify]
    cases h : w.heap[a.block]? with
    | none => simp
    | some o => cases o <;> simp
  · exact World.frozen?_of_block (a := ⟨b, q, none⟩) (Below.heap_setCell w a u b hb)
theorem Turn.store {P : Nat → Prop} {a w : World} (h : Turn P a w) {g o : Nat} {x y : Int} (hp : P g) (hc : w.cell? ⟨g, o, none⟩ = some (.int .i64 x)) : Turn P a (w.setCell ⟨g, o, none⟩ (.int .i64 y)) := by
  refine h.trans ⟨rfl, rfl, rfl, by simp [World.setCell], fun k hk hnp => Below.heap_setCell _ _ _ _ (fun e => by subst e; exact hnp hp), fun b q hpb hb => ?_, fun b q _ _ => frozen_setCell _ _ _ _ _⟩
  by_cases e : (⟨g, o, none⟩ : Addr) = ⟨b, q, none⟩
  · cases e
    obtain ⟨cs, t, fr, h1, h2⟩ : ∃ cs t fr, w.heap[g]? = some (.cells cs t fr) ∧ cs[o]? = some (.int .i64 x) := by
      unfold World.cell? at hc
      simp only at hc
      split at hc
      · rename_i cs t fr hh
        exact ⟨cs, t, fr, hh, by simpa using hc⟩
      all_goals simp at hc
    refine .inr ⟨x, y, hc, ?_⟩
    have hlt : o < cs.size := (Array.getElem?_eq_some_iff.1 h2).1
    simp [World.cell?, World.setCell, Array.getElem?_modify, h1, hlt]
  · exact .inl (World.cell?_setCell_other _ _ _ _ e)

/-- A node's cells, whatever its integers. -/
structure CellsS (w : World) (b o : Nat) (t : RT) (A : Option Addr) (cap : Nat) : Prop where
  c0 : ∃ x, w.cell? ⟨b, o, none⟩ = some (.int .i64 x)
  c1 : ∃ x, w.cell? ⟨b, o + 1, none⟩ = some (.int .i64 x)
  c2 : w.cell? ⟨b, o + 2, none⟩ = some (.string t.s)
  c3 : ∃ x, w.cell? ⟨b, o + 3, none⟩ = some (.int .i64 x)
  c4 : w.cell? ⟨b, o + 4, none⟩ = some (.slice A t.l.length cap)
inductive ShapeIn (w : World) (P : Nat → Prop) : RT → Option Addr → Nat → Prop where
  | mk (k a : Int) (s : ByteArray) (n : Int) (l : List RT) (A : Option Addr) (cap : Nat) (F : Nat → Option Addr) (C : Nat → Nat)
    (hl : l.length ≤ cap) (hm : cap ≤ maxLen)
    (hc : 0 < l.length → ∃ b o, A = some ⟨b, o, none⟩ ∧ P b ∧ b < w.heap.size ∧ ∀ i (h : i < l.length), CellsS w b (o + i * 5) l[i] (F i) (C i))
    (hn : ∀ i (h : i < l.length), ShapeIn w P l[i] (F i) (C i)) : ShapeIn w P (.node k a s n l) A cap
theorem NodeIn.shape {w : World} {P : Nat → Prop} {t : RT} {A : Option Addr} {cap : Nat} (h : NodeIn w P t A cap) : ShapeIn w P t A cap := by
  induction h with
  | mk k a s n l A cap F C hs hl hm hc _ ih =>
    refine .mk k a s n l A cap F C hl hm (fun h0 => ?_) ih
    obtain ⟨b, o, hA, hb, hx⟩ := hc h0
    refine ⟨b, o, hA, hb, World.block_lt_of_cell? w _ (hx 0 h0).c0, fun i h => ?_⟩
    obtain ⟨x0, x1, x2, x3, x4⟩ := hx i h
    exact ⟨⟨_, x0⟩, ⟨_, x1⟩, x2, ⟨_, x3⟩, x4⟩
theorem ShapeIn.turn {w w' : World} {P : Nat → Prop} {t : RT} {A : Option Addr} {cap : Nat} (h : ShapeIn w P t A cap) (ht : Turn P w w') : ShapeIn w' P t A cap := by
  induction h with
  | mk k a s n l A cap F C hl hm hc _ ih =>
    refine .mk k a s n l A cap F C hl hm (fun h0 => ?_) ih
    obtain ⟨b, o, hA, hb, hlt, hx⟩ := hc h0
    refine ⟨b, o, hA, hb, Nat.lt_of_lt_of_le hlt ht.size, fun i h => ?_⟩
    obtain ⟨x0, x1, x2, x3, x4⟩ := hx i h
    have hint : ∀ q, (∃ x, w.cell? ⟨b, q, none⟩ = some (.int .i64 x)) → ∃ x, w'.cell? ⟨b, q, none⟩ = some (.int .i64 x) := fun q ⟨x, hq⟩ => by
      rcases ht.cell b q hb hlt with e | ⟨_, y, _, e⟩
      · exact ⟨x, e.trans hq⟩
      · exact ⟨y, e⟩
    refine ⟨hint _ x0, hint _ x1, ?_, hint _ x3, ?_⟩
    · rcases ht.cell b (o + i * 5 + 2) hb hlt with e | ⟨x, _, e, _⟩
      · exact e.trans x2
      · rw [x2] at e; cases e
    · rcases ht.cell b (o + i * 5 + 4) hb hlt with e | ⟨x, _, e, _⟩
      · exact e.trans x4
      · rw [x4] at e; cases e
theorem ShapeIn.bounds {w : World} {P : Nat → Prop} {k a : Int} {s : ByteArray} {n : Int} {l : List RT} {A : Option Addr} {cap : Nat} (h : ShapeIn w P (.node k a s n l) A cap) : l.length ≤ cap ∧ cap ≤ maxLen := by
  cases h with
  | mk k a s n l A cap F C hl hm hc hn => exact ⟨hl, hm⟩
theorem ShapeIn.at_ {w : World} {P : Nat → Prop} {k a : Int} {s : ByteArray} {n : Int} {l : List RT} {A : Option Addr} {cap : Nat} (h : ShapeIn w P (.node k a s n l) A cap) (i : Nat) (hi' : i < l.length) :
    ∃ b o F C, A = some ⟨b, o, none⟩ ∧ P b ∧ b < w.heap.size ∧ CellsS w b (o + i * 5) l[i] F C ∧ ShapeIn w P l[i] F C := by
  cases h with
  | mk k a s n l A cap F C hl hm hc hn =>
    obtain ⟨b, o, hA, h1, h2, h3⟩ := hc (by omega)
    exact ⟨b, o, F i, C i, hA, h1, h2, h3 i hi', hn i hi'⟩

set_option maxHeartbeats 2000000 in
theorem turned_any : ∀ (t : RT) (x0 x1 x3 : Int) (A : Option Addr) (cap : Nat) (w : World) (P : Nat → Prop), ShapeIn w P t A cap → (∀ b, P b → b < w.heap.size) → Cold w P →
    Calls Tryd.prog 22 #[.agg #[.int .i64 x0, .int .i64 x1, .string t.s, .int .i64 x3, .slice A t.l.length cap]] w fun e w' => e = .returned (.tuple #[]) ∧ Turn P w w' := by
  intro t
  induction t using RT.ind with
  | h k a s n l ih =>
    intro x0 x1 x3 A cap w P h hP hcold
    obtain ⟨hl, hm⟩ := h.bounds
    have IH := Lib.hid ih
    have HH := Lib.hid h
    have HP := Lib.hid hP
    have HC := Lib.hid hcold
    unfold maxLen at hm
    clear ih h hP hcold
    show Calls Tryd.prog 22 #[.agg #[.int .i64 x0, .int .i64 x1, .string s, .int .i64 x3, .slice A l.length cap]] w _
    go_enter Tryd.func22, Tryd.ntmps22
    go_wp2_with fail
    go_loopw [2] (fun iv wr => ∃ i : Nat, i ≤ l.length ∧ iv = .int .i64 i ∧ Turn P w wr ∧ w.heap.size < wr.heap.size ∧ wr.cell? ⟨w.heap.size, 4, none⟩ = some (.slice A l.length cap)) (fun iv _ => l.length - (intOf iv).toNat)
    case atStart => exact ⟨0, Nat.zero_le _, rfl, (Turn.refl _ _).alloc _, by simp, by simp⟩
    case round =>
      obtain ⟨i, hi1, rfl, hT, hlt, y4⟩ := hrel
      by_cases hil : i < l.length
      · obtain ⟨b, o, F, C, hA, hPb, hlb, hx, hsub⟩ := (HH.out.turn hT).at_ i hil
        subst hA
        obtain ⟨⟨z0, c0⟩, ⟨z1, c1⟩, c2, ⟨z3, c3⟩, c4⟩ := hx
        have HSUB := Lib.hid hsub
        have hltP : ∀ b, P b → b < w.heap.size := HP.out
        have hcw : Cold wr P := fun b hb q => (hT.cold b q hb (HP.out b hb)).trans (HC.out b hb q)
        have HIH := Lib.hid (IH.out l[i] (List.getElem_mem hil) z0 z1 z3 F C wr P hsub (fun b hb => Nat.lt_trans (HP.out b hb) hlt) hcw)
        have HPb := Lib.hid hPb
        have hbw := hltP b hPb
        have HT := Lib.hid hT
        have HCW := Lib.hid hcw
        have hi1' : (i : Int) < (l.length : Int) := by omega
        clear hT hsub hltP hcw hPb
        go_wp2_with fail
        refine HIH.out.mono ?_
        rintro e w2 ⟨rfl, hT2⟩
        have hz2 := hT2.size
        have hy2 : w2.cell? ⟨w.heap.size, 4, none⟩ = some (.slice (some ⟨b, o, none⟩) l.length cap) := by
          rw [World.cell?_of_block (a := ⟨w.heap.size, 4, none⟩) (hT2.block _ hlt (fun hp => by have h9 : w.heap.size < w.heap.size := HP.out _ hp; omega))]
          exact y4
        obtain ⟨z, hz⟩ : ∃ z, w2.cell? ⟨b, o + i * 5, none⟩ = some (.int .i64 z) := by
          rcases hT2.cell b (o + i * 5) HPb.out (by omega) with e | ⟨_, y, _, e⟩
          · exact ⟨z0, e.trans c0⟩
          · exact ⟨y, e⟩
        have hfr : w2.frozen? ⟨b, o + i * 5, none⟩ = false := (hT2.cold b (o + i * 5) HPb.out (by omega)).trans (HCW.out b HPb.out _)
        have HT3 := Lib.hid ((HT.out.trans hT2).store (y := -7) HPb.out hz)
        have hne : (⟨b, o + i * 5, none⟩ : Addr) ≠ ⟨w.heap.size, 4, none⟩ := fun e => by
          have := congrArg Addr.block e
          simp at this
          omega
        have HY3 := Lib.hid ((World.cell?_setCell_other w2 ⟨b, o + i * 5, none⟩ ⟨w.heap.size, 4, none⟩ (.int .i64 (-7)) hne).trans hy2)
        have hl2 : w.heap.size < w2.heap.size := by omega
        clear hT2 hne
        go_wp2_with fail
        go_roundw
        case rel => exact ⟨i + 1, by omega, rfl, HT3.out, by simp [World.setCell]; omega, HY3.out⟩
        case measure => simp [intOf]; omega
      · obtain rfl : i = l.length := by omega
        go_wp2_with fail
        go_end0
        exact ⟨rfl, hT⟩

end Go.Proofs.YtmnhpaidaomfbaaDoor
