/- slices.Reverse over a row of terms of the call's own. -/
import Derived.Test.YtofmoggjpgjdgaaDoorSPlain
import Derived.Test.YtofmoggjpgjdgaaDoorSLib
import Derived.Test.YtofmoggjpgjdgaaDoorRenew0
import Derived.Test.YtofmoggjpgjdgaaDoorM1
import Derived.Shelf.SlicesQ.Reverse
import Derived.Lib.OwnBridge
namespace Go.Proofs.YtofmoggjpgjdgaaDoor
open Go.RowKit Go.Sort Go.Lib
set_option linter.unusedVariables false
set_option maxRecDepth 100000

theorem rowS_cells {w : World} {base : Nat} {a : Option Addr} {c : Nat} {ps : List (TM × Option Addr × Nat)} {P : Nat → Prop} (h : TermRow w base 24 (.slice a ps.length c) ps P) (h0 : 0 < ps.length) :
    ∃ g, a = some ⟨g, 0, none⟩ ∧ base ≤ g ∧ g < w.heap.size ∧ ¬ P g ∧ ∀ j r (hj : j < ps.length), r < 3 → w.cell? ⟨g, j * 3 + r, none⟩ = (cellsM ps[j])[r]? := by
  obtain ⟨g, c', hv, _, _⟩ := h.row.form h0
  injection hv with hv _ _
  subst hv
  have hb := h.row.lt g rfl
  refine ⟨g, rfl, hb.1, hb.2, fun hp => (h.far g hp).2 rfl, fun j r hj hr => ?_⟩
  exact (h.row.cellAt (j * 3 + r) (by omega)).trans (flatM_at ps j r hj hr)
theorem cellsM_len (p : TM × Option Addr × Nat) : (cellsM p).length = 3 := rfl
theorem rowS_holds {w : World} {base : Nat} {a : Option Addr} {c : Nat} {ps : List (TM × Option Addr × Nat)} {P : Nat → Prop} (h : TermRow w base 24 (.slice a ps.length c) ps P) {g : Nat} (ha : a = some ⟨g, 0, none⟩)
    (hc : ∀ j r (hj : j < ps.length), r < 3 → w.cell? ⟨g, j * 3 + r, none⟩ = (cellsM ps[j])[r]?) : HoldsK cellsM 3 w g 0 ps.toArray := by
  intro t ht
  rw [size_flatK] at ht
  have ht2 : t < ps.length * 3 := by simpa using ht
  have hj : t / 3 < ps.length := by omega
  rw [get_flatK _ _ _ _ ht, Nat.zero_add]
  have h1 := hc (t / 3) (t % 3) hj (by omega)
  have e : t / 3 * 3 + t % 3 = t := by omega
  rw [e] at h1
  refine ⟨?_, own_cold h.row g (by rw [ha]; rfl) t⟩
  rw [h1]
  have h2 : t % 3 < (cellsM ps[t / 3]).length := by rw [cellsM_len]; omega
  rw [List.getElem?_eq_getElem h2, getElem!_pos ps.toArray (t / 3) (by simpa using hj)]
  simp only [List.getElem_toArray, id]
  rw [getElem!_pos (cellsM ps[t / 3]) (t % 3) h2]

theorem rev_any {w : World} {base : Nat} {a : Option Addr} {c : Nat} {ps : List (TM × Option Addr × Nat)} {P : Nat → Prop} (h : TermRow w base 24 (.slice a ps.length c) ps P) (hb : base ≤ w.heap.size) (hl : ps.length ≤ 8192) :
    Calls Tryd.prog 60 #[.slice a ps.length c] w fun e w' => e = .returned (.tuple #[]) ∧ TermIn w' (fun b => (P b ∨ a = some ⟨b, 0, none⟩) ∧ b < w'.heap.size) (.node 0 0 (ps.map (·.1)).reverse) a c ∧ Below base w w' := by
  obtain ⟨b1, b2⟩ := (h.parent (lo := 0) (Nat.zero_le _) (fun _ _ => Nat.zero_le _) 0 0).bounds
  rw [List.length_map] at b1
  by_cases h0 : ps.length = 0
  · obtain rfl := List.eq_nil_of_length_eq_zero h0
    refine (AnyQ.slices_Reverse_empty Tryd.laysReverse a c w).mono ?_
    rintro e w' ⟨rfl, rfl⟩
    exact ⟨rfl, TermIn.mk 0 0 [] a c (fun _ => none) (fun _ => 0) (by simp) b2 (fun h => by simp at h) (fun i h => by simp at h), Below.refl _ _⟩
  · obtain ⟨g, ha, g1, g2, g3, g4⟩ := rowS_cells h (by omega)
    have hH := rowS_holds h ha g4
    subst ha
    have hsz : ps.toArray.size = ps.length := by simp
    have hr := AnyQ.slices_Reverse Tryd.laysReverse 3 (fun w => Tryd.isAgg24 w) (fun w => Tryd.sizeOf24 w) cellsM cellsM_len cellsM_one g 0 c ps.toArray w hH (by omega)
    rw [hsz] at hr
    refine hr.mono ?_
    rintro e w' ⟨rfl, q, rfl⟩
    have hH2 : HoldsK cellsM 3 (putRowK cellsM 3 (Sort.ahead w q) g 0 ps.toArray.reverse) g 0 ps.toArray.reverse := holdsK_putRowK (enc := cellsM) (k := 3) (w := Sort.ahead w q) (blk := g) (off := 0) (d0 := ps.toArray) (d := ps.toArray.reverse) (h0 := holdsK_ahead (enc := cellsM) (k := 3) (w := w) (n := q) (blk := g) (off := 0) (d := ps.toArray) (h := hH)) (hs := by simp)
    have hsz2 : (putRowK cellsM 3 (Sort.ahead w q) g 0 ps.toArray.reverse).heap.size = w.heap.size := by simp [putRowK, putRow, mapBlock, Sort.ahead]
    have hoth : ∀ b o, b ≠ g → (putRowK cellsM 3 (Sort.ahead w q) g 0 ps.toArray.reverse).cell? ⟨b, o, none⟩ = w.cell? ⟨b, o, none⟩ := fun b o hb => cell?_putRowK_other (enc := cellsM) (k := 3) (w := Sort.ahead w q) (blk := g) (off := 0) (d := ps.toArray.reverse) (a := ⟨b, o, none⟩) (h := hb)
    refine ⟨rfl, ?_, Lib.below_putRow (enc := id) (Below.refl base w) g1⟩
    obtain ⟨W, hW⟩ : ∃ W, putRowK cellsM 3 (Sort.ahead w q) g 0 ps.toArray.reverse = W := ⟨_, rfl⟩
    rw [hW] at hH2 hsz2 hoth ⊢
    have hrl : (ps.map (·.1)).reverse.length = ps.length := by simp
    have hget : ∀ i (hi : i < ps.length), (ps.map (·.1)).reverse[i]'(by rw [hrl]; exact hi) = (ps[ps.length - 1 - i]'(by omega)).1 := fun i hi => by
      rw [List.getElem_reverse, List.getElem_map]
      simp
    refine TermIn.mk 0 0 _ _ c (fun i => (ps[ps.length - 1 - i]?.map fun p => p.2.1).getD none) (fun i => (ps[ps.length - 1 - i]?.map fun p => p.2.2).getD 0) (by rw [hrl]; exact b1) b2 (fun _ => ⟨g, 0, rfl, ⟨.inr rfl, by omega⟩, fun i hi => ?_⟩) (fun i hi => ?_)
    · have hi' : i < ps.length := by rw [hrl] at hi; exact hi
      have hx : ∀ r, r < 3 → W.cell? ⟨g, i * 3 + r, none⟩ = (cellsM (ps[ps.length - 1 - i]'(by omega)))[r]? := fun r hr => by
        have ht : i * 3 + r < ps.toArray.reverse.size * 3 := by simp; omega
        have h1 := (hH2 (i * 3 + r) (by rw [size_flatK]; exact ht)).1
        rw [get_flatK _ _ _ _ ht, Nat.zero_add] at h1
        have e1 : (i * 3 + r) / 3 = i := by omega
        have e2 : (i * 3 + r) % 3 = r := by omega
        rw [e1, e2, getElem!_pos ps.toArray.reverse i (by simpa using hi')] at h1
        rw [h1]
        have h2 : r < (cellsM (ps[ps.length - 1 - i]'(by omega))).length := by rw [cellsM_len]; exact hr
        rw [List.getElem?_eq_getElem h2]
        simp only [Array.getElem_reverse, List.getElem_toArray, id, List.size_toArray]
        rw [getElem!_pos _ r h2]
      rw [hget i hi', List.getElem?_eq_getElem (show ps.length - 1 - i < ps.length by omega)]
      have x0 := hx 0 (by omega)
      rw [Nat.add_zero] at x0
      exact ⟨by rw [Nat.zero_add, x0]; rfl, by rw [Nat.zero_add, hx 1 (by omega)]; rfl, by rw [Nat.zero_add, hx 2 (by omega)]; rfl⟩
    · have hi' : i < ps.length := by rw [hrl] at hi; exact hi
      rw [hget i hi', List.getElem?_eq_getElem (show ps.length - 1 - i < ps.length by omega)]
      exact (h.node _ (List.getElem_mem _)).imp (fun b o hq => hoth b o (fun e => g3 (e ▸ hq))) (fun b hq => ⟨.inl hq, by have := (h.far b hq).1; omega⟩)

end Go.Proofs.YtofmoggjpgjdgaaDoor
