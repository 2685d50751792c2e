/- The laws' own question whether the program answers at all: it does. -/
import Derived.Test.YtiikodihbgaaaaaDoorFresh
namespace Go.Proofs.YtiikodihbgaaaaaDoor
open Go.RowKit
set_option linter.unusedVariables false

theorem name_x1 : IsName ⟨#[120, 49]⟩ [120, 49] := by
  refine ⟨?_, by decide, by unfold keyB; rw [ByteArray.toList_eq]; decide, by decide, by decide⟩
  have h : Parse (encAll [120, 49]) [120, 49] [] := parse_enc (by intro n hn; simp at hn; rcases hn with rfl | rfl <;> decide)
  exact h
theorem name_x' : IsName ⟨#[120, 39]⟩ [120, 39] := by
  refine ⟨?_, by decide, by unfold keyB; rw [ByteArray.toList_eq]; decide, by decide, by decide⟩
  have h : Parse (encAll [120, 39]) [120, 39] [] := parse_enc (by intro n hn; simp at hn; rcases hn with rfl | rfl <;> decide)
  exact h
theorem num_x (i : Nat) (h : i < 10) : numL (base [120, 49]) i = [120, ((48 + i : Nat) : Int)] := by
  have hb : base [120, 49] = [120] := by decide
  unfold numL cutN
  rw [hb, digs_small h]
  have hf : fit [120] 39 1 = 1 := by decide
  show encAll (([120] : List Int).take (fit [120] 39 1)) ++ _ = _
  rw [hf]
  rfl

theorem awake_any (w : World) : Calls Tryd.prog 16 #[] w fun e w' => e = .returned (.bool true) ∧ Below w.heap.size w w' := by
  have h1 : ∀ W : World, Below w.heap.size w W → W = W := fun _ _ => rfl
  have hrow : StrRow (w.alloc (.cells #[.string ⟨#[120, 49]⟩, .string ⟨#[120]⟩] 9)) (some ⟨w.heap.size, 0, none⟩) 2 [⟨#[120, 49]⟩, ⟨#[120]⟩] := by
    refine ⟨rfl, by decide, by intro s hs; simp at hs; rcases hs with rfl | rfl <;> decide, .inr ⟨_, _, rfl, by simp, fun j hj => ?_⟩⟩
    rw [Nat.zero_add, World.cell?_alloc_mark]
    match j, hj with
    | 0, _ => rfl
    | 1, _ => rfl
  have hB0 : Below w.heap.size w (w.alloc (.cells #[.string ⟨#[120, 49]⟩, .string ⟨#[120]⟩] 9)) := (Below.refl _ _).alloc (Nat.le_refl _) _
  have e1 : freshL [120, 49] 1 = [120, 49] := num_x 1 (by decide)
  have e2 : freshL [120, 49] 2 = [120, 50] := num_x 2 (by decide)
  have e0 : freshL [120, 49] 0 = [120, 49] := by decide
  have ha : bytesAll [⟨#[120, 49]⟩, ⟨#[120]⟩] = [[120, 49], [120]] := by decide
  have hm : freshL [120, 49] 2 ∉ bytesAll [⟨#[120, 49]⟩, ⟨#[120]⟩] := by rw [e2, ha]; decide
  have hlt : ∀ j, j < 2 → freshL [120, 49] j ∈ bytesAll [⟨#[120, 49]⟩, ⟨#[120]⟩] := by
    intro j hj
    match j, hj with
    | 0, _ => rw [e0, ha]; decide
    | 1, _ => rw [e1, ha]; decide
  have hc := fresh_ok ⟨#[120, 49]⟩ [120, 49] _ 2 2 _ _ name_x1 (by decide) hrow 2 hm hlt (by decide) (.inl (by decide))
  have hl := letter_any 97
  have hl2 : letterB 97 = true := by decide
  rw [hl2] at hl
  have HC := Lib.hid hc
  have HE := Lib.hid e2
  have HB0 := Lib.hid hB0
  clear hc hm hlt e0 e1 e2 ha hrow h1 hl2 hB0
  go_enter Tryd.func16, Tryd.ntmps16
  go_wp2_with fail
  refine HC.out.mono ?_; rintro e w1 ⟨t, rfl, HT, hb1⟩
  have ht : (t.toList == [120, 50]) = true := by
    have h := HT.out.trans HE.out
    have e : t = ⟨#[120, 50]⟩ := bytesL_inj h
    rw [e, ByteArray.toList_eq]; rfl
  clear HT
  have hB1 := HB0.out.trans (hb1.mono HB0.out.size)
  have hz1 := hB1.size
  clear hb1
  go_wp2_with fail
  refine (hl _).mono ?_; rintro e w2 ⟨rfl, rfl⟩
  go_wp2_with fail
  refine (right_yes ⟨#[120, 39]⟩ [120, 39] _ name_x').mono ?_; rintro e w3 ⟨rfl, hb3⟩
  go_wp2_with fail
  go_ret
  exact ⟨rfl, hB1.trans (hb3.mono hz1)⟩

end Go.Proofs.YtiikodihbgaaaaaDoor
