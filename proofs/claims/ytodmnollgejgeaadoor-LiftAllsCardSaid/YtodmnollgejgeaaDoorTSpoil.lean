/- scholiumref07.Spoil: a term's Subs are overwritten, and nothing else. -/
import Derived.Test.YtodmnollgejgeaaDoorTRenew
namespace Go.Proofs.YtodmnollgejgeaaDoor
open Go.RowKit
set_option linter.unusedVariables false
set_option maxRecDepth 100000

/-- Three cells are spoiled. -/
structure Spoiled (w : World) (b o : Nat) : Prop where
  c0 : w.cell? ⟨b, o, none⟩ = some (.int .i64 (-7))
  c1 : w.cell? ⟨b, o + 1, none⟩ = some (.int .i64 (-7))
  c2 : w.cell? ⟨b, o + 2, none⟩ = some (.slice none 0 0)
/-- Between two worlds threes of cells have been spoiled, in the blocks of which P speaks; new blocks may have come. -/
structure Spo (P : Nat → Prop) (w w' : World) : Prop where
  os : w'.os = w.os
  tape : w'.tape = w.tape
  output : w'.output = w.output
  size : w.heap.size ≤ w'.heap.size
  block : ∀ k, k < w.heap.size → ¬ P k → w'.heap[k]? = w.heap[k]?
  trip : ∀ b j, P b → b < w.heap.size → (∀ c, c < 3 → w'.cell? ⟨b, j * 3 + c, none⟩ = w.cell? ⟨b, j * 3 + c, none⟩) ∨ Spoiled w' b (j * 3)
  cold : ∀ b q, P b → b < w.heap.size → w'.frozen? ⟨b, q, none⟩ = w.frozen? ⟨b, q, none⟩
theorem Spo.refl (P : Nat → Prop) (w : World) : Spo P w w := ⟨rfl, rfl, rfl, Nat.le_refl _, fun _ _ _ => rfl, fun _ _ _ _ => .inl fun _ _ => rfl, fun _ _ _ _ => rfl⟩
theorem Spo.trans {P : Nat → Prop} {a b c : World} (h : Spo P a b) (k : Spo P b c) : Spo P a c := by
  refine ⟨k.os.trans h.os, k.tape.trans h.tape, k.output.trans h.output, Nat.le_trans h.size k.size, fun i hi hp => (k.block i (Nat.lt_of_lt_of_le hi h.size) hp).trans (h.block i hi hp), fun g j hp hg => ?_, fun g q hp hg => (k.cold g q hp (Nat.lt_of_lt_of_le hg h.size)).trans (h.cold g q hp hg)⟩
  rcases k.trip g j hp (Nat.lt_of_lt_of_le hg h.size) with e1 | e1
  · rcases h.trip g j hp hg with e2 | e2
    · exact .inl fun c hc => (e1 c hc).trans (e2 c hc)
    · refine .inr ⟨?_, ?_, ?_⟩
      · have := e1 0 (by omega); rw [Nat.add_zero] at this; rw [this]; exact e2.c0
      · rw [e1 1 (by omega)]; exact e2.c1
      · rw [e1 2 (by omega)]; exact e2.c2
  · exact .inr e1
theorem Spo.below {P : Nat → Prop} {w w' : World} (h : Below w.heap.size w w') : Spo P w w' :=
  ⟨h.os, h.tape, h.output, h.size, fun k hk _ => h.block k hk, fun b j _ hb => .inl fun c _ => h.cell (p := ⟨b, j * 3 + c, none⟩) hb, fun b q _ hb => World.frozen?_of_block (a := ⟨b, q, none⟩) (h.block b hb)⟩
theorem cell_set_same (w : World) (b o : Nat) (u : Value) {v : Value} (h : w.cell? ⟨b, o, none⟩ = some v) : (w.setCell ⟨b, o, none⟩ u).cell? ⟨b, o, none⟩ = some u := by
  obtain ⟨cs, t, fr, h1, h2⟩ : ∃ cs t fr, w.heap[b]? = some (.cells cs t fr) ∧ cs[o]? = some v := by
    unfold World.cell? at h
    simp only at h
    split at h
    · rename_i cs t fr hh
      exact ⟨cs, t, fr, hh, by simpa using h⟩
    all_goals simp at h
  have hlt : o < cs.size := (Array.getElem?_eq_some_iff.1 h2).1
  simp [World.cell?, World.setCell, Array.getElem?_modify, h1, hlt]
theorem frozen_set (w : World) (a : Addr) (u : Value) (b q : Nat) : (w.setCell a u).frozen? ⟨b, q, none⟩ = w.frozen? ⟨b, q, none⟩ := by
  by_cases hb : b = a.block
  · subst hb
    simp only [World.frozen?, World.setCell, Array.getElem?_modify]
    cases h : w.heap[a.block]? with
    | none => simp
    | some o => cases o <;> simp
  · exact World.frozen?_of_block (a := ⟨b, q, none⟩) (Below.heap_setCell w a u b hb)
/-- A store of the spoiled term where a term stood. -/
theorem Spo.store {P : Nat → Prop} {w : World} {g i : Nat} {v0 v1 v2 : Value} (hp : P g) (h0 : w.cell? ⟨g, i * 3, none⟩ = some v0) (h1 : w.cell? ⟨g, i * 3 + 1, none⟩ = some v1) (h2 : w.cell? ⟨g, i * 3 + 2, none⟩ = some v2) :
    Spo P w (((w.setCell ⟨g, i * 3, none⟩ (.int .i64 (-7))).setCell ⟨g, i * 3 + 1, none⟩ (.int .i64 (-7))).setCell ⟨g, i * 3 + 2, none⟩ (.slice none 0 0)) := by
  have hne : ∀ (a b : Nat), a ≠ b → (⟨g, a, none⟩ : Addr) ≠ ⟨g, b, none⟩ := fun a b hab e => by injection e; omega
  refine ⟨rfl, rfl, rfl, by simp [World.setCell], fun k hk hnp => ?_, fun b j hb hlt => ?_, fun b q _ _ => ?_⟩
  · have hk' : k ≠ g := fun e => hnp (e ▸ hp)
    rw [Below.heap_setCell _ _ _ _ (by exact hk'), Below.heap_setCell _ _ _ _ (by exact hk'), Below.heap_setCell _ _ _ _ (by exact hk')]
  · by_cases e : b = g ∧ j = i
    · obtain ⟨rfl, rfl⟩ := e
      refine .inr ⟨?_, ?_, ?_⟩
      · rw [World.cell?_setCell_other _ _ _ _ (hne _ _ (by omega)), World.cell?_setCell_other _ _ _ _ (hne _ _ (by omega))]
        exact cell_set_same _ _ _ _ h0
      · rw [World.cell?_setCell_other _ _ _ _ (hne _ _ (by omega))]
        exact cell_set_same _ _ _ _ ((World.cell?_setCell_other _ _ _ _ (hne _ _ (by omega))).trans h1)
      · exact cell_set_same _ _ _ _ ((World.cell?_setCell_other _ _ _ _ (hne _ _ (by omega))).trans ((World.cell?_setCell_other _ _ _ _ (hne _ _ (by omega))).trans h2))
    · refine .inl fun c hc => ?_
      have hn3 : ∀ d, d < 3 → (⟨g, i * 3 + d, none⟩ : Addr) ≠ ⟨b, j * 3 + c, none⟩ := fun d hd e2 => by
        have q1 := congrArg Addr.block e2
        have q2 := congrArg Addr.off e2
        simp at q1 q2
        exact e ⟨q1.symm, by omega⟩
      have h30 := hn3 0 (by omega)
      rw [Nat.add_zero] at h30
      rw [World.cell?_setCell_other _ _ _ _ (hn3 2 (by omega)), World.cell?_setCell_other _ _ _ _ (hn3 1 (by omega)), World.cell?_setCell_other _ _ _ _ h30]
  · rw [frozen_set, frozen_set, frozen_set]

/-- A term whose Subs may be spoiled. -/
inductive SpoIn (w : World) (P : Nat → Prop) : TM → Option Addr → Nat → Prop where
  | mk (k n : Int) (l : List TM) (A : Option Addr) (cap : Nat) (F : Nat → Option Addr) (C : Nat → Nat)
    (hl : l.length ≤ cap) (hm : cap ≤ maxLen)
    (hc : 0 < l.length → ∃ b, A = some ⟨b, 0, none⟩ ∧ P b ∧ b < w.heap.size ∧ ∀ i (h : i < l.length), Cells3 w b (i * 3) l[i] (F i) (C i) ∨ Spoiled w b (i * 3))
    (hn : ∀ i (h : i < l.length), SpoIn w P l[i] (F i) (C i)) : SpoIn w P (.node k n l) A cap
theorem ZeroIn.spo {w : World} {P : Nat → Prop} {t : TM} {A : Option Addr} {cap : Nat} (h : ZeroIn w P t A cap) : SpoIn w P t A cap := by
  induction h with
  | mk k n l A cap F C hl hm hc _ ih =>
    refine .mk k n l A cap F C hl hm (fun h0 => ?_) ih
    obtain ⟨b, hA, hb, hx⟩ := hc h0
    exact ⟨b, hA, hb, World.block_lt_of_cell? w _ (hx 0 h0).c0, fun i h => .inl (hx i h)⟩
theorem SpoIn.spo {w w' : World} {P : Nat → Prop} {t : TM} {A : Option Addr} {cap : Nat} (h : SpoIn w P t A cap) (hs : Spo P w w') : SpoIn w' P t A cap := by
  induction h with
  | mk k n l A cap F C hl hm hc _ ih =>
    refine .mk k n l A cap F C hl hm (fun h0 => ?_) ih
    obtain ⟨b, hA, hb, hlt, hx⟩ := hc h0
    refine ⟨b, hA, hb, Nat.lt_of_lt_of_le hlt hs.size, fun i h => ?_⟩
    rcases hs.trip b i hb hlt with e | e
    · have e0 := e 0 (by omega)
      rw [Nat.add_zero] at e0
      rcases hx i h with ⟨x0, x1, x2⟩ | ⟨x0, x1, x2⟩
      · exact .inl ⟨e0.trans x0, (e 1 (by omega)).trans x1, (e 2 (by omega)).trans x2⟩
      · exact .inr ⟨e0.trans x0, (e 1 (by omega)).trans x1, (e 2 (by omega)).trans x2⟩
    · exact .inr e
theorem SpoIn.bounds {w : World} {P : Nat → Prop} {k n : Int} {l : List TM} {A : Option Addr} {cap : Nat} (h : SpoIn w P (.node k n l) A cap) : l.length ≤ cap ∧ cap ≤ maxLen := by
  cases h with
  | mk k n l A cap F C hl hm hc hn => exact ⟨hl, hm⟩
theorem SpoIn.at_ {w : World} {P : Nat → Prop} {k n : Int} {l : List TM} {A : Option Addr} {cap : Nat} (h : SpoIn w P (.node k n l) A cap) (i : Nat) (hi' : i < l.length) :
    ∃ b F C, A = some ⟨b, 0, none⟩ ∧ P b ∧ b < w.heap.size ∧ (Cells3 w b (i * 3) l[i] F C ∨ Spoiled w b (i * 3)) ∧ SpoIn w P l[i] F C := by
  cases h with
  | mk k n l A cap F C hl hm hc hn =>
    obtain ⟨b, hA, h1, h2, h3⟩ := hc (by omega)
    exact ⟨b, F i, C i, hA, h1, h2, h3 i hi', hn i hi'⟩

theorem spoil_nil (x0 x1 : Int) (w : World) (P : Nat → Prop) : Calls Tryd.prog 39 #[.agg #[.int .i64 x0, .int .i64 x1, .slice none 0 0]] w fun e w' => e = .returned (.tuple #[]) ∧ Spo P w w' := by
  go_enter Tryd.func39, Tryd.ntmps39
  go_wp2_with fail
  refine wp_loop_rounds 1 ?_
  rw [rounds_succ]
  go_wp2_with fail
  go_end0
  exact ⟨rfl, Spo.below ((Below.refl _ _).alloc (Nat.le_refl _) _)⟩

set_option maxHeartbeats 2000000 in
theorem spoil_any : ∀ (t : TM) (x0 x1 : Int) (A : Option Addr) (cap : Nat) (w : World) (P : Nat → Prop), SpoIn w P t A cap → (∀ b, P b → b < w.heap.size) → Cold w P →
    Calls Tryd.prog 39 #[.agg #[.int .i64 x0, .int .i64 x1, .slice A t.l.length cap]] w fun e w' => e = .returned (.tuple #[]) ∧ Spo P w w' := by
  intro t
  induction t using TM.ind with
  | h k n l ih =>
    intro x0 x1 A cap w P h hP hcold
    obtain ⟨hl, hm⟩ := h.bounds
    have IH := Lib.hid ih
    have HH := Lib.hid h
    have HP := Lib.hid hP
    have HC := Lib.hid hcold
    unfold maxLen at hm
    clear ih h hP hcold
    show Calls Tryd.prog 39 #[.agg #[.int .i64 x0, .int .i64 x1, .slice A l.length cap]] w _
    go_enter Tryd.func39, Tryd.ntmps39
    go_wp2_with fail
    go_loopw [2] (fun iv wr => ∃ i : Nat, i ≤ l.length ∧ iv = .int .i64 i ∧ Spo P w wr ∧ w.heap.size < wr.heap.size ∧ wr.cell? ⟨w.heap.size, 2, none⟩ = some (.slice A l.length cap)) (fun iv _ => l.length - (intOf iv).toNat)
    case atStart => exact ⟨0, Nat.zero_le _, rfl, Spo.below ((Below.refl _ _).alloc (Nat.le_refl _) _), by simp, by simp⟩
    case round =>
      obtain ⟨i, hi1, rfl, hT, hlt, y2⟩ := hrel
      by_cases hil : i < l.length
      · obtain ⟨b, F, C, hA, hPb, hlb, hx, hsub⟩ := (HH.out.spo hT).at_ i hil
        subst hA
        have HSUB := Lib.hid hsub
        have hcw : Cold wr P := fun b hb q => (hT.cold b q hb (HP.out b hb)).trans (HC.out b hb q)
        have hbw := HP.out b hPb
        have HPb := Lib.hid hPb
        have HT := Lib.hid hT
        have HCW := Lib.hid hcw
        have hi1' : (i : Int) < (l.length : Int) := by omega
        have HNX : Hid (∀ w2, Spo P wr w2 → w2.cell? ⟨w.heap.size, 2, none⟩ = some (.slice (some ⟨b, 0, none⟩) l.length cap) ∧ (∃ a0 a1 a2, w2.cell? ⟨b, i * 3, none⟩ = some a0 ∧ w2.cell? ⟨b, i * 3 + 1, none⟩ = some a1 ∧ w2.cell? ⟨b, i * 3 + 2, none⟩ = some a2 ∧ ((∃ z0 z1 z2 m c, a0 = .int .i64 z0 ∧ a1 = .int .i64 z1 ∧ a2 = .slice z2 m c)))) := by
          show ∀ w2, _
          intro w2 hT2
          refine ⟨(World.cell?_of_block (a := ⟨w.heap.size, 2, none⟩) (hT2.block _ hlt (fun hp => by have h9 : w.heap.size < w.heap.size := HP.out _ hp; omega))).trans y2, ?_⟩
          rcases hT2.trip b i HPb.out hlb with e | e
          · have e0 := e 0 (by omega)
            rw [Nat.add_zero] at e0
            rcases hx with ⟨q0, q1, q2⟩ | ⟨q0, q1, q2⟩
            · exact ⟨_, _, _, e0.trans q0, (e 1 (by omega)).trans q1, (e 2 (by omega)).trans q2, _, _, _, _, _, rfl, rfl, rfl⟩
            · exact ⟨_, _, _, e0.trans q0, (e 1 (by omega)).trans q1, (e 2 (by omega)).trans q2, _, _, _, _, _, rfl, rfl, rfl⟩
          · exact ⟨_, _, _, e.c0, e.c1, e.c2, _, _, _, _, _, rfl, rfl, rfl⟩
        have hcall : ∃ z0 z1 z2 m c, wr.cell? ⟨b, i * 3, none⟩ = some (.int .i64 z0) ∧ wr.cell? ⟨b, i * 3 + 1, none⟩ = some (.int .i64 z1) ∧ wr.cell? ⟨b, i * 3 + 2, none⟩ = some (.slice z2 m c) ∧
            Calls Tryd.prog 39 #[.agg #[.int .i64 z0, .int .i64 z1, .slice z2 m c]] wr fun e w' => e = .returned (.tuple #[]) ∧ Spo P wr w' := by
          rcases hx with ⟨q0, q1, q2⟩ | ⟨q0, q1, q2⟩
          · exact ⟨_, _, _, _, _, q0, q1, q2, IH.out l[i] (List.getElem_mem hil) _ _ F C wr P hsub (fun b hb => Nat.lt_trans (HP.out b hb) hlt) hcw⟩
          · exact ⟨_, _, _, _, _, q0, q1, q2, spoil_nil _ _ wr P⟩
        obtain ⟨z0, z1, z2, mm, cc, c0, c1, c2, hcl⟩ := hcall
        have HCL := Lib.hid hcl
        clear hT hsub hcw hPb hx hcl
        go_wp2_with fail
        refine HCL.out.mono ?_
        rintro e w2 ⟨rfl, hT2⟩
        have hz2 := hT2.size
        obtain ⟨hy2, a0, a1, a2, d0, d1, d2, u0, u1, u2, um, uc, rfl, rfl, rfl⟩ := HNX.out w2 hT2
        have hfr : ∀ q, w2.frozen? ⟨b, q, none⟩ = false := fun q => (hT2.cold b q HPb.out (by omega)).trans (HCW.out b HPb.out _)
        have HT3 := Lib.hid ((HT.out.trans hT2).trans (Spo.store HPb.out d0 d1 d2))
        have hne : ∀ q, (⟨b, q, none⟩ : Addr) ≠ ⟨w.heap.size, 2, none⟩ := fun q e => by
          have := congrArg Addr.block e
          simp at this
          omega
        have HY3 := Lib.hid ((World.cell?_setCell_other _ ⟨b, i * 3 + 2, none⟩ ⟨w.heap.size, 2, none⟩ (.slice none 0 0) (hne _)).trans ((World.cell?_setCell_other _ ⟨b, i * 3 + 1, none⟩ ⟨w.heap.size, 2, none⟩ (.int .i64 (-7)) (hne _)).trans ((World.cell?_setCell_other w2 ⟨b, i * 3, none⟩ ⟨w.heap.size, 2, none⟩ (.int .i64 (-7)) (hne _)).trans hy2)))
        have hl2 : w.heap.size < w2.heap.size := by omega
        clear hT2 hne c0 c1 c2
        go_wp2_with fail
        go_roundw
        case rel => exact ⟨i + 1, by omega, rfl, HT3.out, by simp [World.setCell]; omega, HY3.out⟩
        case measure => simp [intOf]; omega
      · obtain rfl : i = l.length := by omega
        go_wp2_with fail
        go_end0
        exact ⟨rfl, hT⟩

end Go.Proofs.YtodmnollgejgeaaDoor
