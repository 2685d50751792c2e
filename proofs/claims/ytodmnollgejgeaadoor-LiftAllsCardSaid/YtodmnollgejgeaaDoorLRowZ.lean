/- New terms in memory of the call's own: each list of Subs at its block's beginning, nothing frozen; a row of such terms. -/
import Derived.Test.YtodmnollgejgeaaDoorLRef
import Derived.Test.YtodmnollgejgeaaDoorLTerms
import Derived.Test.YtodmnollgejgeaaDoorTSpoil
namespace Go.Proofs.YtodmnollgejgeaaDoor
open Go.RowKit
set_option linter.unusedVariables false
set_option maxRecDepth 100000

def NewZ (w : World) (lo : Nat) (t : TM) (A : Option Addr) (cap : Nat) : Prop := ∃ P : Nat → Prop, ZeroIn w P t A cap ∧ (∀ b, P b → lo ≤ b ∧ b < w.heap.size) ∧ Cold w P
theorem NewZ.over {w w' : World} {lo lo' : Nat} {t : TM} {A : Option Addr} {cap : Nat} (h : NewZ w lo t A cap) (hz : w.heap.size ≤ w'.heap.size) (hl : lo' ≤ lo) (hb : ∀ b, lo ≤ b → b < w.heap.size → w'.heap[b]? = w.heap[b]?) : NewZ w' lo' t A cap := by
  obtain ⟨P, h1, h2, h3⟩ := h
  refine ⟨P, h1.imp (fun b o hp => World.cell?_of_block (a := ⟨b, o, none⟩) (hb b (h2 b hp).1 (h2 b hp).2)) (fun _ h => h), fun b hp => ?_, h3.kept (fun b hp => hb b (h2 b hp).1 (h2 b hp).2)⟩
  have := h2 b hp
  omega
theorem NewZ.kept {w w' : World} {lo : Nat} {t : TM} {A : Option Addr} {cap : Nat} (h : NewZ w lo t A cap) (hb : Below w.heap.size w w') : NewZ w' lo t A cap := h.over hb.size (Nat.le_refl _) (fun b _ h2 => hb.block b h2)
theorem NewZ.wide {w : World} {lo lo' : Nat} {t : TM} {A : Option Addr} {cap : Nat} (h : NewZ w lo t A cap) (hl : lo' ≤ lo) : NewZ w lo' t A cap := h.over (Nat.le_refl _) hl (fun _ _ _ => rfl)
theorem NewZ.set {w : World} {lo : Nat} {t : TM} {A : Option Addr} {cap : Nat} (h : NewZ w lo t A cap) {a : Addr} (ha : a.block < lo) (u : Value) : NewZ (w.setCell a u) lo t A cap :=
  h.over (by simp [World.setCell]) (Nat.le_refl _) (fun b h1 _ => Below.heap_setCell w a u b (by omega))
theorem NewZ.term {w : World} {lo : Nat} {t : TM} {A : Option Addr} {cap : Nat} (h : NewZ w lo t A cap) : IsTerm w lo w.heap.size t A cap := by
  obtain ⟨P, h1, h2, _⟩ := h
  exact h1.term.imp (fun _ _ _ => rfl) h2
/-- A call that gives a new term. -/
def GivesZ (t : TM) (w : World) (e : Ending) (w' : World) : Prop := ∃ A cap, e = .returned (termV t A cap) ∧ NewZ w' w.heap.size t A cap ∧ Below w.heap.size w w'

/-- A row of new terms, in blocks from base on. -/
def RowZ (w : World) (base : Nat) (v : Value) (ps : List (TM × Option Addr × Nat)) : Prop :=
  ∃ P : Nat → Prop, TermRow w base 24 v ps P ∧ (∀ b, P b → base ≤ b) ∧ Cold w P ∧ ∀ p ∈ ps, ZeroIn w P p.1 p.2.1 p.2.2
theorem RowZ.row {w : World} {base : Nat} {v : Value} {ps : List (TM × Option Addr × Nat)} (h : RowZ w base v ps) : w.ownsRow base 24 3 v ps.length (flatM ps) := by
  obtain ⟨P, h, _⟩ := h
  exact h.row
theorem RowZ.nil (w : World) (base : Nat) : RowZ w base (.slice none 0 0) [] := ⟨fun _ => False, TermRow.nil _ _ _, fun _ h => h.elim, fun _ h => h.elim, fun _ h => by cases h⟩
theorem RowZ.below {w w' : World} {base : Nat} {v : Value} {ps : List (TM × Option Addr × Nat)} (h : RowZ w base v ps) (hb : Below w.heap.size w w') : RowZ w' base v ps := by
  obtain ⟨P, h1, h2, h3, h4⟩ := h
  exact ⟨P, h1.below hb, h2, h3.kept (fun b hp => hb.block b (h1.far b hp).1), fun p hp => (h4 p hp).imp (fun b o hq => World.cell?_of_block (a := ⟨b, o, none⟩) (hb.block b (h1.far b hq).1)) (fun _ h => h)⟩
theorem RowZ.alloc {w : World} {base : Nat} {v : Value} {ps : List (TM × Option Addr × Nat)} (h : RowZ w base v ps) (o : Obj) : RowZ (w.alloc o) base v ps := h.below ((Below.refl _ _).alloc (Nat.le_refl _) _)
theorem RowZ.push {w w' : World} {base : Nat} {v v' : Value} {ps : List (TM × Option Addr × Nat)} {u : TM} {A : Option Addr} {cap : Nat} (h : RowZ w base v ps) {lo : Nat} (hn : NewZ w lo u A cap) (hlo : base ≤ lo) (hv : ∀ b, v.ownBlock = some b → b < lo)
    (ha : AppTo w base 24 3 v (ps.length + 1) (flatM ps ++ cellsM (u, A, cap)) v' w') : RowZ w' base v' (ps ++ [(u, A, cap)]) := by
  obtain ⟨P, h1, h2, h3, h4⟩ := h
  obtain ⟨Pn, n1, n2, n3⟩ := hn
  have hfar : ∀ b, Pn b → b < w.heap.size ∧ v.ownBlock ≠ some b := fun b hb => ⟨(n2 b hb).2, fun e => by have := hv b e; have := (n2 b hb).1; omega⟩
  have hblk : ∀ b, P b ∨ Pn b → w'.heap[b]? = w.heap[b]? := fun b hb => by
    rcases hb with hb | hb
    · exact ha.2.1.block b (h1.far b hb).1 (fun e => (h1.far b hb).2 e.symm)
    · exact ha.2.1.block b (hfar b hb).1 (fun e => (hfar b hb).2 e.symm)
  refine ⟨fun b => P b ∨ Pn b, h1.push (Pn := Pn) (p := (u, A, cap)) n1.term hfar ha.1 ha.2.1 ha.2.2, fun b hb => ?_, fun b hb q => ?_, fun p hp => ?_⟩
  · rcases hb with hb | hb
    · exact h2 b hb
    · have := (n2 b hb).1; omega
  · rw [World.frozen?_of_block (a := ⟨b, q, none⟩) (hblk b hb)]
    rcases hb with hb | hb
    · exact h3 b hb q
    · exact n3 b hb q
  · rcases List.mem_append.1 hp with hp | hp
    · exact (h4 p hp).imp (fun b o hb => World.cell?_of_block (a := ⟨b, o, none⟩) (hblk b (.inl hb))) (fun b hb => .inl hb)
    · obtain rfl : p = (u, A, cap) := by simpa using hp
      exact n1.imp (fun b o hb => World.cell?_of_block (a := ⟨b, o, none⟩) (hblk b (.inr hb))) (fun b hb => .inr hb)
theorem RowZ.store {w : World} {base : Nat} {v : Value} {ps : List (TM × Option Addr × Nat)} (h : RowZ w base v ps) {a : Addr} (ha : a.block < base) (u : Value) : RowZ (w.setCell a u) base v ps := by
  obtain ⟨P, h1, h2, h3, h4⟩ := h
  have hblk : ∀ b, P b → (w.setCell a u).heap[b]? = w.heap[b]? := fun b hb => Below.heap_setCell w a u b (by have := h2 b hb; omega)
  exact ⟨P, h1.store ha h2 u, h2, h3.kept hblk, fun p hp => (h4 p hp).imp (fun b o hq => World.cell?_of_block (a := ⟨b, o, none⟩) (hblk b hq)) (fun _ h => h)⟩
theorem RowZ.parent {w : World} {base : Nat} {A : Option Addr} {cap : Nat} {ps : List (TM × Option Addr × Nat)} (h : RowZ w base (.slice A ps.length cap) ps) (k n : Int) : NewZ w base (.node k n (ps.map (·.1))) A cap := by
  obtain ⟨P, h1, h2, h3, h4⟩ := h
  refine ⟨fun b => P b ∨ (Value.slice A ps.length cap).ownBlock = some b, h1.parentZ h4 (fun b hb => .inl hb) (fun b hb => .inr hb) k n, fun b hb => ?_, fun b hb q => ?_⟩
  · rcases hb with hb | hb
    · exact ⟨h2 b hb, (h1.far b hb).1⟩
    · exact h1.row.lt b hb
  · rcases hb with hb | hb
    · exact h3 b hb q
    · exact own_cold h1.row b hb q

end Go.Proofs.YtodmnollgejgeaaDoor
