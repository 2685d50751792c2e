/- scholiumref07.put: its walk. -/
import Derived.Test.YtodmnollgejgeaaDoorTPut
namespace Go.Proofs.YtodmnollgejgeaaDoor
open Go.RowKit
set_option linter.unusedVariables false
set_option maxRecDepth 100000

/-- A slice of numbers lies in a world. -/
def RowAt (w : World) (a : Option Addr) (l : List Int) : Prop := 0 < l.length → ∃ b, a = some ⟨b, 0, none⟩ ∧ b < w.heap.size ∧ IntsAt w b 0 l
theorem RowAt.kept {w w' : World} {a : Option Addr} {l : List Int} (h : RowAt w a l) (hb : Below w.heap.size w w') : RowAt w' a l := fun h0 => by
  obtain ⟨b, e, hlt, hi⟩ := h h0
  exact ⟨b, e, Nat.lt_of_lt_of_le hlt hb.size, hi.kept hb hlt⟩
theorem RowAt.own {w : World} {base : Nat} {a : Option Addr} {c : Nat} {l : List Int} (h : w.ownsRow base 3 1 (.slice a l.length c) l.length (l.map (Value.int .i64))) : RowAt w a l := fun h0 => by
  obtain ⟨g, c', hv, hg1, hg2⟩ := h.form h0
  injection hv with hv _ _
  refine ⟨g, hv, hg2, fun i hi => ?_⟩
  have hi' : i < l.length := hi
  subst hv
  have := h.cellAt i (by rw [Nat.mul_one]; exact hi')
  rw [Nat.zero_add, this]
  simp [hi]

def PutRel (w : World) (l : List Int) (n : Int) (ov dv iv : Value) (wr : World) : Prop :=
  ∃ (i : Nat) (o : List Int) (d : Bool), i ≤ l.length ∧ iv = .int .i64 i ∧ dv = .bool d ∧ Hid (putF (l.take i) n = (o, d)) ∧ o.length ≤ 8193 ∧ Below w.heap.size w wr ∧ wr.ownsRow w.heap.size 3 1 ov o.length (o.map (Value.int .i64))

set_option maxHeartbeats 2000000 in
theorem put_any (l : List Int) (n : Int) (a : Option Addr) (c : Nat) (w : World) (hl : l.length ≤ 8192) (hr : RowAt w a l) :
    Calls Tryd.prog 54 #[.slice a l.length c, .int .i64 n] w (NumsIs (putL l n) w) := by
  obtain ⟨i0, hi0, hz0, hz1, hz2⟩ := info_parts infoI
  have HR := Lib.hid hr
  have HL := Lib.hid hl
  clear hr
  go_enter Tryd.func54, Tryd.ntmps54
  go_wp2_with fail
  go_loopw [5, 6, 7] (PutRel w l n) (fun _ _ iv _ => l.length - (intOf iv).toNat)
  case atStart =>
    refine ⟨0, [], false, Nat.zero_le _, rfl, rfl, Lib.hid (by rw [List.take_zero]; rfl), by simp, (Below.refl _ _).alloc (Nat.le_refl _) _, ?_⟩
    have := World.ownsRow_lit (base := w.heap.size) (e := 3) (size := 1) w #[] 0 (Nat.le_refl _) (by decide) rfl
    simpa using this
  case round =>
    obtain ⟨i, o, d, hi1, rfl, rfl, HF, ho9, hB, hown⟩ := hrel
    have hz := hB.size
    obtain ⟨a1, c1, rfl⟩ := own_sliceM hown
    by_cases hil : i < l.length
    · obtain ⟨b, hab, hbl, hints⟩ := HR.out (by omega)
      subst hab
      have hx0 := (hB.cell (p := ⟨b, 0 + i, none⟩) hbl).trans (hints i hil)
      rw [Nat.zero_add] at hx0
      have hstep := putF_take (n := n) hil
      have hlen := putF_len (i + 1) (l.take (i + 1)) n (by rw [List.length_take]; omega)
      obtain ⟨x, hx⟩ : ∃ x, l[i] = x := ⟨_, rfl⟩
      rw [hx] at hx0 hstep
      have HX := Lib.hid hx
      rw [HF.out] at hstep
      have HS := Lib.hid hstep
      have HLN := Lib.hid hlen.1
      have hil' : (i : Int) < (l.length : Int) := by omega
      have hi0' : (0 : Int) ≤ (i : Int) := by omega
      have hbw : b < wr.heap.size := by omega
      obtain ⟨M, hM⟩ : ∃ M, o.length = M := ⟨_, rfl⟩
      have HM := Lib.hid hM
      rw [hM] at hown ho9 ⊢
      have HOW := Lib.hid (fun (o1 : Obj) => (show (wr.alloc o1).ownsRow w.heap.size 3 1 (.slice a1 M c1) M (o.map (Value.int .i64)) from
        hown.kept (row := none) ⟨rfl, rfl, rfl, by simp, fun k hk _ => Below.heap_alloc _ _ _ hk⟩ (by cases hv : (Value.slice a1 M c1).ownBlock <;> simp)))
      have HB := Lib.hid hB
      have HOF := Lib.hid (fun k (hk : (Value.slice a1 M c1).ownBlock = some k) => hown.lt k hk)
      have HO9 := Lib.hid ho9
      clear hstep hlen hx hM hown hB ho9 hints
      by_cases hc : d = false ∧ n ≤ x
      · obtain ⟨rfl, hnx⟩ := hc
        have e1 : decide (n ≤ x) = true := decide_eq_true hnx
        by_cases hlt : n < x
        · have e2 : decide (n < x) = true := decide_eq_true hlt
          have HE : Hid (putF (l.take (i + 1)) n = (o ++ [n] ++ [x], true)) := Lib.hid (by rw [HS.out]; unfold putStep; rw [if_pos ⟨rfl, hnx⟩, if_pos hlt])
          have HOL : Hid ((o ++ [n] ++ [x]).length ≤ 8193) := Lib.hid (by have := HLN.out; rw [HE.out] at this; have := HL.out; simp at *; omega)
          have HML : Hid (M + 2 ≤ 8193) := Lib.hid (by have := HOL.out; simp at this; have := HM.out; omega)
          clear hnx hlt
          go_wp2_with (at_builtin; refine wpList_app rfl _ _ 26 rfl w.heap.size 3 i0 (.int .i64 0) 1 8 Tryd.underlying26 hi0 hz0 hz1 hz2 rfl (by decide) _ _ _ rfl (HOW.out _) (some ⟨wr.heap.size, 0, none⟩) 1 1 [.int .i64 n] rfl (src_at _ _ _ (by simp) rfl) (by simp [Value.oneCell']) ?c3 ?c4 ?c5 ?_)
          case c3 => have := HO9.out; unfold maxLen; omega
          case c4 => have := HO9.out; omega
          case c5 => simp; omega
          rintro v2 w3 ⟨hown3, hg3, ho3⟩
          obtain ⟨a2, c2, rfl⟩ := own_sliceM hown3
          have hz3 := hg3.size
          simp at hz3
          have hbb3 := (HB.out.alloc hz _).grown hg3 (by simp; omega) (fun k hk => (HOF.out k hk).1)
          have HB3 := Lib.hid hbb3
          have hx3 : w3.cell? ⟨b, i, none⟩ = some (.int .i64 x) := by
            have h1 := HR.out (by omega)
            obtain ⟨b', e, hlt', hi'⟩ := h1
            have eb : b = b' := by injection e with e; injection e
            subst eb
            have h2 := (hbb3.cell (p := ⟨b, 0 + i, none⟩) hlt').trans (hi' i hil)
            rw [Nat.zero_add] at h2
            rw [h2, HX.out]
          have HOW3 := Lib.hid (fun (o1 : Obj) => (show (w3.alloc o1).ownsRow w.heap.size 3 1 (.slice a2 (M + 1) c2) (M + 1) (o.map (Value.int .i64) ++ [.int .i64 n]) from
            hown3.kept (row := none) ⟨rfl, rfl, rfl, by simp, fun k hk _ => Below.heap_alloc _ _ _ hk⟩ (by cases hv : (Value.slice a2 (M + 1) c2).ownBlock <;> simp)))
          have HOF3 := Lib.hid (fun k (hk : (Value.slice a2 (M + 1) c2).ownBlock = some k) => hown3.lt k hk)
          have hb3 : b < w3.heap.size := by omega
          clear hown3 hg3 ho3 hbb3
          go_wp2_with (at_builtin; refine wpList_app rfl _ _ 26 rfl w.heap.size 3 i0 (.int .i64 0) 1 8 Tryd.underlying26 hi0 hz0 hz1 hz2 rfl (by decide) _ _ _ rfl (HOW3.out _) (some ⟨w3.heap.size, 0, none⟩) 1 1 [.int .i64 x] rfl (src_at _ _ _ (by simp) rfl) (by simp [Value.oneCell']) ?c3 ?c4 ?c5 ?_)
          case c3 => have := HML.out; unfold maxLen; omega
          case c4 => have := HML.out; omega
          case c5 => simp; omega
          rintro v4 w5 ⟨hown5, hg5, ho5⟩
          have HB5 := Lib.hid ((HB3.out.alloc HB3.out.size _).grown hg5 (by have := HB3.out.size; simp; omega) (fun k hk => (HOF3.out k hk).1))
          have HOWN5 := Lib.hid hown5
          clear hown5 hg5 ho5
          go_wp2_with fail
          go_roundw
          case rel => exact ⟨i + 1, o ++ [n] ++ [x], true, by omega, rfl, rfl, HE, HOL.out, HB5.out, by have h := HOWN5.out; simp only [List.length_append, List.map_append, HM.out, List.append_assoc, List.map_cons, List.map_nil, List.length_cons, List.length_nil, List.cons_append, List.nil_append, Nat.zero_add]; exact h⟩
          case measure => simp [intOf]; omega
        · have e2 : decide (n < x) = false := decide_eq_false hlt
          have HE : Hid (putF (l.take (i + 1)) n = (o ++ [x], true)) := Lib.hid (by rw [HS.out]; unfold putStep; rw [if_pos ⟨rfl, hnx⟩, if_neg hlt])
          have HOL : Hid ((o ++ [x]).length ≤ 8193) := Lib.hid (by have := HLN.out; rw [HE.out] at this; have := HL.out; simp at *; omega)
          clear hnx hlt
          go_wp2_with (at_builtin; refine wpList_app rfl _ _ 26 rfl w.heap.size 3 i0 (.int .i64 0) 1 8 Tryd.underlying26 hi0 hz0 hz1 hz2 rfl (by decide) _ _ _ rfl (HOW.out _) (some ⟨wr.heap.size, 0, none⟩) 1 1 [.int .i64 x] rfl (src_at _ _ _ (by simp) rfl) (by simp [Value.oneCell']) ?c3 ?c4 ?c5 ?_)
          case c3 => have := HO9.out; unfold maxLen; omega
          case c4 => have := HO9.out; omega
          case c5 => simp; omega
          rintro v2 w3 ⟨hown3, hg3, ho3⟩
          have HB3 := Lib.hid ((HB.out.alloc hz _).grown hg3 (by simp; omega) (fun k hk => (HOF.out k hk).1))
          have HOWN3 := Lib.hid hown3
          clear hown3 hg3 ho3
          go_wp2_with fail
          go_roundw
          case rel => exact ⟨i + 1, o ++ [x], true, by omega, rfl, rfl, HE, HOL.out, HB3.out, by rw [List.length_append, List.map_append, HM.out]; exact HOWN3.out⟩
          case measure => simp [intOf]; omega
      · have HE : Hid (putF (l.take (i + 1)) n = (o ++ [x], d)) := Lib.hid (by rw [HS.out]; unfold putStep; exact if_neg hc)
        have HOL : Hid ((o ++ [x]).length ≤ 8193) := Lib.hid (by have := HLN.out; rw [HE.out] at this; have := HL.out; simp at *; omega)
        have hdec : d = true ∨ (d = false ∧ decide (n ≤ x) = false) := by
          cases d with
          | true => exact .inl rfl
          | false => exact .inr ⟨rfl, decide_eq_false (fun h => hc ⟨rfl, h⟩)⟩
        clear hc
        rcases hdec with rfl | ⟨rfl, hnx⟩
        · go_wp2_with (at_builtin; refine wpList_app rfl _ _ 26 rfl w.heap.size 3 i0 (.int .i64 0) 1 8 Tryd.underlying26 hi0 hz0 hz1 hz2 rfl (by decide) _ _ _ rfl (HOW.out _) (some ⟨wr.heap.size, 0, none⟩) 1 1 [.int .i64 x] rfl (src_at _ _ _ (by simp) rfl) (by simp [Value.oneCell']) ?c3 ?c4 ?c5 ?_)
          case c3 => have := HO9.out; unfold maxLen; omega
          case c4 => have := HO9.out; omega
          case c5 => simp; omega
          rintro v2 w3 ⟨hown3, hg3, ho3⟩
          have HB3 := Lib.hid ((HB.out.alloc hz _).grown hg3 (by simp; omega) (fun k hk => (HOF.out k hk).1))
          have HOWN3 := Lib.hid hown3
          clear hown3 hg3 ho3
          go_wp2_with fail
          go_roundw
          case rel => exact ⟨i + 1, o ++ [x], true, by omega, rfl, rfl, HE, HOL.out, HB3.out, by rw [List.length_append, List.map_append, HM.out]; exact HOWN3.out⟩
          case measure => simp [intOf]; omega
        · go_wp2_with (at_builtin; refine wpList_app rfl _ _ 26 rfl w.heap.size 3 i0 (.int .i64 0) 1 8 Tryd.underlying26 hi0 hz0 hz1 hz2 rfl (by decide) _ _ _ rfl (HOW.out _) (some ⟨wr.heap.size, 0, none⟩) 1 1 [.int .i64 x] rfl (src_at _ _ _ (by simp) rfl) (by simp [Value.oneCell']) ?c3 ?c4 ?c5 ?_)
          case c3 => have := HO9.out; unfold maxLen; omega
          case c4 => have := HO9.out; omega
          case c5 => simp; omega
          rintro v2 w3 ⟨hown3, hg3, ho3⟩
          have HB3 := Lib.hid ((HB.out.alloc hz _).grown hg3 (by simp; omega) (fun k hk => (HOF.out k hk).1))
          have HOWN3 := Lib.hid hown3
          clear hown3 hg3 ho3
          go_wp2_with fail
          go_roundw
          case rel => exact ⟨i + 1, o ++ [x], false, by omega, rfl, rfl, HE, HOL.out, HB3.out, by rw [List.length_append, List.map_append, HM.out]; exact HOWN3.out⟩
          case measure => simp [intOf]; omega
    · obtain rfl : i = l.length := by omega
      have HF2 : Hid (putF l n = (o, d)) := Lib.hid (by have := HF.out; rw [List.take_length] at this; exact this)
      have HLN := Lib.hid (putF_len l.length l n rfl).1
      clear HF
      cases d with
      | true =>
        have HP : Hid (putL l n = o) := Lib.hid (by unfold putL; rw [HF2.out]; rfl)
        go_wp2_with fail
        go_ret
        exact ⟨_, rfl, by rw [HP.out]; exact hown, hB⟩
      | false =>
        have HP : Hid (putL l n = o ++ [n]) := Lib.hid (by unfold putL; rw [HF2.out]; rfl)
        obtain ⟨M, hM⟩ : ∃ M, o.length = M := ⟨_, rfl⟩
        have HM := Lib.hid hM
        rw [hM] at hown ho9 ⊢
        have HOW := Lib.hid (fun (o1 : Obj) => (show (wr.alloc o1).ownsRow w.heap.size 3 1 (.slice a1 M c1) M (o.map (Value.int .i64)) from
          hown.kept (row := none) ⟨rfl, rfl, rfl, by simp, fun k hk _ => Below.heap_alloc _ _ _ hk⟩ (by cases hv : (Value.slice a1 M c1).ownBlock <;> simp)))
        have HB := Lib.hid hB
        have HOF := Lib.hid (fun k (hk : (Value.slice a1 M c1).ownBlock = some k) => hown.lt k hk)
        have HO9 := Lib.hid ho9
        clear hM hown hB ho9 hl
        go_wp2_with (at_builtin; refine wpList_app rfl _ _ 26 rfl w.heap.size 3 i0 (.int .i64 0) 1 8 Tryd.underlying26 hi0 hz0 hz1 hz2 rfl (by decide) _ _ _ rfl (HOW.out _) (some ⟨wr.heap.size, 0, none⟩) 1 1 [.int .i64 n] rfl (src_at _ _ _ (by simp) rfl) (by simp [Value.oneCell']) ?c3 ?c4 ?c5 ?_)
        case c3 => have := HO9.out; unfold maxLen; omega
        case c4 => have := HO9.out; omega
        case c5 => simp; omega
        rintro v2 w3 ⟨hown3, hg3, ho3⟩
        obtain ⟨a2, c2, rfl⟩ := own_sliceM hown3
        have HB3 := Lib.hid ((HB.out.alloc hz _).grown hg3 (by simp; omega) (fun k hk => (HOF.out k hk).1))
        have HOWN3 := Lib.hid hown3
        clear hown3 hg3 ho3
        go_wp2_with fail
        go_ret
        exact ⟨_, rfl, by rw [HP.out, List.length_append, List.map_append, HM.out]; exact HOWN3.out, HB3.out⟩

end Go.Proofs.YtodmnollgejgeaaDoor
