/- tree.renew, tree.Copy: a node in new memory. -/
import Derived.Test.YtcobionbgiaomaaDoorTMake
import Derived.Test.YtcobionbgiaomaaDoorTLib
import Derived.Test.YtcobionbgiaomaaDoorRenew0
import Derived.Shelf.Spec.SlicesGrow
namespace Go.Proofs.YtcobionbgiaomaaDoor
open Go.RowKit
set_option linter.unusedVariables false
set_option maxRecDepth 100000

theorem IsTerm.setFar {w : World} {lo hi : Nat} {t : TM} {A : Option Addr} {cap : Nat} (h : IsTerm w lo hi t A cap) {a : Addr} (ha : a.block < lo) (u : Value) : IsTerm (w.setCell a u) lo hi t A cap :=
  h.imp (fun b o h1 _ => World.cell?_setCell_other _ _ _ _ (fun e => by
    have := congrArg Addr.block e
    simp at this
    omega)) (Nat.le_refl _) (Nat.le_refl _)

/-- The term lies in w, in blocks of which P speaks, each list of Subs at its block's beginning. -/
inductive ZeroIn (w : World) (P : Nat → Prop) : TM → Option Addr → Nat → Prop where
  | mk (k n : Int) (l : List TM) (A : Option Addr) (cap : Nat) (F : Nat → Option Addr) (C : Nat → Nat)
    (hl : l.length ≤ cap) (hm : cap ≤ maxLen)
    (hc : 0 < l.length → ∃ b, A = some ⟨b, 0, none⟩ ∧ P b ∧ ∀ i (h : i < l.length), Cells3 w b (i * 3) l[i] (F i) (C i))
    (hn : ∀ i (h : i < l.length), ZeroIn w P l[i] (F i) (C i)) : ZeroIn w P (.node k n l) A cap
theorem ZeroIn.term {w : World} {P : Nat → Prop} {t : TM} {A : Option Addr} {cap : Nat} (h : ZeroIn w P t A cap) : TermIn w P t A cap := by
  induction h with
  | mk k n l A cap F C hl hm hc _ ih =>
    refine .mk k n l A cap F C hl hm (fun h0 => ?_) ih
    obtain ⟨b, hA, hb, hx⟩ := hc h0
    exact ⟨b, 0, hA, hb, fun i h => by rw [Nat.zero_add]; exact hx i h⟩
theorem ZeroIn.imp {w w' : World} {P P' : Nat → Prop} (hw : ∀ b o, P b → w'.cell? ⟨b, o, none⟩ = w.cell? ⟨b, o, none⟩) (hP : ∀ b, P b → P' b) {t : TM} {A : Option Addr} {cap : Nat} (h : ZeroIn w P t A cap) : ZeroIn w' P' t A cap := by
  induction h with
  | mk k n l A cap F C hl hm hc _ ih =>
    refine .mk k n l A cap F C hl hm (fun h0 => ?_) ih
    obtain ⟨b, hA, hb, hx⟩ := hc h0
    refine ⟨b, hA, hP b hb, fun i h => ?_⟩
    obtain ⟨x0, x1, x2⟩ := hx i h
    exact ⟨by rw [hw _ _ hb, x0], by rw [hw _ _ hb, x1], by rw [hw _ _ hb, x2]⟩
theorem TermRow.parentZ {w : World} {base : Nat} {e : TypeId} {A : Option Addr} {cap : Nat} {ps : List (TM × Option Addr × Nat)} {P Q : Nat → Prop} (h : TermRow w base e (.slice A ps.length cap) ps P) (hz : ∀ p ∈ ps, ZeroIn w P p.1 p.2.1 p.2.2) (hP : ∀ b, P b → Q b) (hQ : ∀ b, (Value.slice A ps.length cap).ownBlock = some b → Q b)
    (k n : Int) : ZeroIn w Q (.node k n (ps.map (·.1))) A cap := by
  have h0 := h.parent (lo := 0) (Nat.zero_le _) (fun _ _ => Nat.zero_le _) k n
  obtain ⟨hl, hm⟩ := h0.bounds
  refine ZeroIn.mk k n _ A cap (fun i => (ps[i]?.map fun p => p.2.1).getD none) (fun i => (ps[i]?.map fun p => p.2.2).getD 0) hl hm (fun h0 => ?_) (fun i hi => ?_)
  · have hi' : 0 < ps.length := by simpa using h0
    obtain ⟨g, c, hv, _, _⟩ := h.row.form hi'
    injection hv with hv _ _
    subst hv
    refine ⟨g, rfl, hQ g rfl, fun i hi => ?_⟩
    have hi' : i < ps.length := by simpa using hi
    have hat := fun r (hr : r < 3) => (h.row.cellAt (i * 3 + r) (by omega)).trans (flatM_at ps i r hi' hr)
    have e : (ps.map (·.1))[i] = ps[i].1 := List.getElem_map _
    rw [e, List.getElem?_eq_getElem hi']
    have a0 := hat 0 (by omega)
    rw [Nat.add_zero] at a0
    exact ⟨by rw [a0]; rfl, by rw [hat 1 (by omega)]; rfl, by rw [hat 2 (by omega)]; rfl⟩
  · have hi' : i < ps.length := by simpa using hi
    rw [List.getElem?_eq_getElem hi', List.getElem_map]
    exact (hz _ (List.getElem_mem hi')).imp (fun _ _ _ => rfl) hP
theorem TermRow.parentQ {w : World} {base : Nat} {e : TypeId} {A : Option Addr} {cap : Nat} {ps : List (TM × Option Addr × Nat)} {P Q : Nat → Prop} (h : TermRow w base e (.slice A ps.length cap) ps P) (hP : ∀ b, P b → Q b) (hQ : ∀ b, (Value.slice A ps.length cap).ownBlock = some b → Q b)
    (k n : Int) : TermIn w Q (.node k n (ps.map (·.1))) A cap := by
  have h0 := h.parent (lo := 0) (Nat.zero_le _) (fun _ _ => Nat.zero_le _) k n
  cases h0 with
  | mk k n l A cap F C hl hm hc hn =>
    refine TermIn.mk k n _ A cap (fun i => (ps[i]?.map fun p => p.2.1).getD none) (fun i => (ps[i]?.map fun p => p.2.2).getD 0) hl hm (fun h0 => ?_) (fun i hi => ?_)
    · have hi' : 0 < ps.length := by simpa using h0
      obtain ⟨g, c, hv, _, _⟩ := h.row.form hi'
      injection hv with hv _ _
      subst hv
      refine ⟨g, 0, rfl, hQ g rfl, fun i hi => ?_⟩
      have hi' : i < ps.length := by simpa using hi
      have hat := fun r (hr : r < 3) => (h.row.cellAt (i * 3 + r) (by omega)).trans (flatM_at ps i r hi' hr)
      have e : (ps.map (·.1))[i] = ps[i].1 := List.getElem_map _
      rw [e, List.getElem?_eq_getElem hi']
      have a0 := hat 0 (by omega)
      rw [Nat.add_zero] at a0
      exact ⟨by rw [Nat.zero_add, a0]; rfl, by rw [Nat.zero_add, hat 1 (by omega)]; rfl, by rw [Nat.zero_add, hat 2 (by omega)]; rfl⟩
    · have hi' : i < ps.length := by simpa using hi
      rw [List.getElem?_eq_getElem hi', List.getElem_map]
      exact (h.node _ (List.getElem_mem hi')).imp (fun _ _ _ => rfl) hP
theorem TermIn.three {w : World} {P : Nat → Prop} {g : Nat} {t : TM} {A : Option Addr} {cap : Nat} (h : TermIn w P t A cap) (hg : ∀ b, P b → b ≠ g) (v0 v1 v2 : Value) :
    TermIn (((w.setCell ⟨g, 0, none⟩ v0).setCell ⟨g, 1, none⟩ v1).setCell ⟨g, 2, none⟩ v2) P t A cap := by
  refine h.imp (fun b o hb => ?_) (fun _ h => h)
  have hne : ∀ o', (⟨g, o', none⟩ : Addr) ≠ ⟨b, o, none⟩ := fun o' e => by
    have := congrArg Addr.block e
    exact hg b hb this.symm
  rw [World.cell?_setCell_other _ _ _ _ (hne _), World.cell?_setCell_other _ _ _ _ (hne _), World.cell?_setCell_other _ _ _ _ (hne _)]
theorem ZeroIn.three {w : World} {P : Nat → Prop} {g : Nat} {t : TM} {A : Option Addr} {cap : Nat} (h : ZeroIn w P t A cap) (hg : ∀ b, P b → b ≠ g) (v0 v1 v2 : Value) :
    ZeroIn (((w.setCell ⟨g, 0, none⟩ v0).setCell ⟨g, 1, none⟩ v1).setCell ⟨g, 2, none⟩ v2) P t A cap := by
  refine h.imp (fun b o hb => ?_) (fun _ h => h)
  have hne : ∀ o', (⟨g, o', none⟩ : Addr) ≠ ⟨b, o, none⟩ := fun o' e => by
    have := congrArg Addr.block e
    exact hg b hb this.symm
  rw [World.cell?_setCell_other _ _ _ _ (hne _), World.cell?_setCell_other _ _ _ _ (hne _), World.cell?_setCell_other _ _ _ _ (hne _)]
theorem block_three (w : World) (g b : Nat) (h : b ≠ g) (v0 v1 v2 : Value) : (((w.setCell ⟨g, 0, none⟩ v0).setCell ⟨g, 1, none⟩ v1).setCell ⟨g, 2, none⟩ v2).heap[b]? = w.heap[b]? := by
  rw [Below.heap_setCell _ _ _ _ (by exact h), Below.heap_setCell _ _ _ _ (by exact h), Below.heap_setCell _ _ _ _ (by exact h)]
theorem size_three (w : World) (g : Nat) (v0 v1 v2 : Value) : (((w.setCell ⟨g, 0, none⟩ v0).setCell ⟨g, 1, none⟩ v1).setCell ⟨g, 2, none⟩ v2).heap.size = w.heap.size := by
  simp [World.setCell]

/-- What slices.Grow of no slice leaves: an empty row with room, of the call's own. -/
def GrowIs (w : World) (e : Ending) (w' : World) : Prop := ∃ v, e = .returned v ∧ w'.ownsRow w.heap.size 24 3 v 0 [] ∧ Below w.heap.size w w'
theorem growM_any (n : Nat) (hn : n ≤ 8192) (w : World) : Calls Tryd.prog 46 #[.slice none 0 0, .int .i64 (n : Int)] w (GrowIs w) := by
  obtain ⟨i0, hi0, hz0, hz1, hz2⟩ := info_parts infoM
  by_cases h0 : n = 0
  · subst h0
    refine (Go.Proofs.Any8.slices_Grow_room Tryd.laysGrow none 0 0 0 w (by omega) (by omega) (by omega) (by omega)).mono ?_
    rintro e w' ⟨rfl, rfl⟩
    exact ⟨_, rfl, World.ownsRow_nil _ _ _ _, Below.refl _ _⟩
  · refine (Go.Proofs.Any8.slices_Grow_grow Tryd.laysGrow i0 _ hi0 hz0 (by omega) none 0 0 n [] w (by omega) (by omega) (by rw [hz2]; omega) (by omega) (by simp) (fun _ => rfl) (fun a h => by cases h)).mono ?_
    rintro e w' ⟨rfl, rfl⟩
    have h1 := grownCap_ge w (0 + n) 0 24
    have h2 := grownCap_le_maxLen w (0 + n) 0 24 (by unfold maxLen; omega)
    refine ⟨_, rfl, ⟨by simp, .inr ⟨w.heap.size, _, _, rfl, Nat.le_refl _, heap_alloc_new _ _, Nat.zero_le _, h2, ?_, by simp⟩⟩, ((Below.refl _ _).drew).alloc (by simp) _⟩
    simp only [Array.size_append, List.size_toArray, size_zeroCells]
    show 0 + (0 + n - 0) * 3 + (grownCap w (0 + n) 0 24 - (0 + n)) * 3 = grownCap w (0 + n) 0 24 * 3
    omega

def TRenewIs (t : TM) (w : World) (e : Ending) (w' : World) : Prop :=
  ∃ A cap P, e = .returned (termV t A cap) ∧ ZeroIn w' P t A cap ∧ (∀ b, P b → w.heap.size ≤ b ∧ b < w'.heap.size) ∧ Cold w' P ∧ Below w.heap.size w w'
def TRenewRel (w : World) (k n : Int) (l : List TM) (A : Option Addr) (cap : Nat) (nv iv : Value) (wr : World) : Prop :=
  ∃ (i : Nat) (ps : List (TM × Option Addr × Nat)) (P : Nat → Prop), i ≤ l.length ∧ iv = .int .i64 i ∧ Below w.heap.size w wr ∧
    Bk wr w.heap.size 24 #[.int .i64 k, .int .i64 n, .slice A l.length cap] ∧ Bk wr (w.heap.size + 1) 24 #[.int .i64 0, .int .i64 0, .slice none 0 0] ∧
    TermRow wr (w.heap.size + 2) 24 nv ps P ∧ (∀ b, P b → w.heap.size + 2 ≤ b) ∧ Cold wr P ∧ (∀ p ∈ ps, ZeroIn wr P p.1 p.2.1 p.2.2) ∧ ps.map (·.1) = l.take i

def TCopyIs (t : TM) (w : World) (e : Ending) (w' : World) : Prop :=
  (shapedB t = true ∧ TRenewIs t w e w') ∨ (shapedB t = false ∧ e = .returned (.agg #[.int .i64 0, .int .i64 0, .slice none 0 0]) ∧ Below w.heap.size w w')

end Go.Proofs.YtcobionbgiaomaaDoor
