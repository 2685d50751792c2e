/- scholiumref01.number and scholiumref01.Next: the sign at any place of any bytes, or that there is none, in terms of 'dec'; nothing that was there is written. For every string shorter than 2^63 bytes and every offset. -/
import Derived.Test.YtmaomnpanfdjeaaDoorNumberW
namespace Go.Proofs.YtmaomnpanfdjeaaDoor
open Go.RowKit
set_option maxRecDepth 100000
set_option linter.unusedVariables false

theorem list_1 (l : List Int) (h : l.length = 1) : l = [l.getD 0 0] := by
  match l, h with
  | [_], _ => rfl
theorem list_2 (l : List Int) (h : l.length = 2) : l = [l.getD 0 0, l.getD 1 0] := by
  match l, h with
  | [_, _], _ => rfl
theorem list_3 (l : List Int) (h : l.length = 3) : l = [l.getD 0 0, l.getD 1 0, l.getD 2 0] := by
  match l, h with
  | [_, _, _], _ => rfl
theorem list_4 (l : List Int) (h : l.length = 4) : l = [l.getD 0 0, l.getD 1 0, l.getD 2 0, l.getD 3 0] := by
  match l, h with
  | [_, _, _, _], _ => rfl

theorem number_any (t : ByteArray) (w : World) (h1 : 1 ≤ t.size) (h4 : t.size ≤ 4) :
    Calls Tryd.prog 82 #[.string t] w fun e w' => e = .returned (.int .i64 (numV (bytesL t))) ∧ Below w.heap.size w w' := by
  have hl := bytesL_length t
  have hcase : t.size = 1 ∨ t.size = 2 ∨ t.size = 3 ∨ t.size = 4 := by omega
  rcases hcase with ht | ht | ht | ht
  · have hL := list_1 (bytesL t) (by omega)
    obtain ⟨x0, e0⟩ : ∃ x, byt t 0 = x := ⟨_, rfl⟩
    have g0 : (t[0].toNat : Int) = x0 := (byt_eq t 0 (by omega)).trans e0
    have l0 : 0 ≤ x0 := e0 ▸ byt_lo t _
    have u0 : x0 ≤ 255 := e0 ▸ byt_hi t _
    rw [show (bytesL t).getD 0 0 = x0 from e0] at hL
    rw [hL, numV_1]
    cases hr : rightB (x0) with
    | false => rw [fin_no hr]; exact num1_r t w ht x0 g0 l0 u0 hr
    | true =>
      by_cases he : encI (x0) = [x0]
      · rw [fin_yes hr he]; exact num1_ok t w ht x0 g0 l0 u0 hr (str_eq_true (by rw [bytesL_enc hr, hL, he]))
      · rw [fin_other he]; exact num1_s t w ht x0 g0 l0 u0 hr (str_eq_false (by rw [bytesL_enc hr, hL]; exact he))
  · have hL := list_2 (bytesL t) (by omega)
    obtain ⟨x0, e0⟩ : ∃ x, byt t 0 = x := ⟨_, rfl⟩
    have g0 : (t[0].toNat : Int) = x0 := (byt_eq t 0 (by omega)).trans e0
    have l0 : 0 ≤ x0 := e0 ▸ byt_lo t _
    have u0 : x0 ≤ 255 := e0 ▸ byt_hi t _
    obtain ⟨x1, e1⟩ : ∃ x, byt t 1 = x := ⟨_, rfl⟩
    have g1 : (t[1].toNat : Int) = x1 := (byt_eq t 1 (by omega)).trans e1
    have l1 : 0 ≤ x1 := e1 ▸ byt_lo t _
    have u1 : x1 ≤ 255 := e1 ▸ byt_hi t _
    rw [show (bytesL t).getD 0 0 = x0 from e0, show (bytesL t).getD 1 0 = x1 from e1] at hL
    rw [hL, numV_2]
    by_cases hn : x0 - 192 < 0
    · rw [if_pos hn]; exact num2_neg t w ht x0 x1 g0 l0 u0 g1 l1 u1 (by omega)
    rw [if_neg hn]
    cases hr : rightB ((x0 - 192) * 64 + x1 - 128) with
    | false => rw [fin_no hr]; exact num2_r t w ht x0 x1 g0 l0 u0 g1 l1 u1 (by omega) hr
    | true =>
      by_cases he : encI ((x0 - 192) * 64 + x1 - 128) = [x0, x1]
      · rw [fin_yes hr he]; exact num2_ok t w ht x0 x1 g0 l0 u0 g1 l1 u1 (by omega) hr (str_eq_true (by rw [bytesL_enc hr, hL, he]))
      · rw [fin_other he]; exact num2_s t w ht x0 x1 g0 l0 u0 g1 l1 u1 (by omega) hr (str_eq_false (by rw [bytesL_enc hr, hL]; exact he))
  · have hL := list_3 (bytesL t) (by omega)
    obtain ⟨x0, e0⟩ : ∃ x, byt t 0 = x := ⟨_, rfl⟩
    have g0 : (t[0].toNat : Int) = x0 := (byt_eq t 0 (by omega)).trans e0
    have l0 : 0 ≤ x0 := e0 ▸ byt_lo t _
    have u0 : x0 ≤ 255 := e0 ▸ byt_hi t _
    obtain ⟨x1, e1⟩ : ∃ x, byt t 1 = x := ⟨_, rfl⟩
    have g1 : (t[1].toNat : Int) = x1 := (byt_eq t 1 (by omega)).trans e1
    have l1 : 0 ≤ x1 := e1 ▸ byt_lo t _
    have u1 : x1 ≤ 255 := e1 ▸ byt_hi t _
    obtain ⟨x2, e2⟩ : ∃ x, byt t 2 = x := ⟨_, rfl⟩
    have g2 : (t[2].toNat : Int) = x2 := (byt_eq t 2 (by omega)).trans e2
    have l2 : 0 ≤ x2 := e2 ▸ byt_lo t _
    have u2 : x2 ≤ 255 := e2 ▸ byt_hi t _
    rw [show (bytesL t).getD 0 0 = x0 from e0, show (bytesL t).getD 1 0 = x1 from e1, show (bytesL t).getD 2 0 = x2 from e2] at hL
    rw [hL, numV_3]
    by_cases hn : x0 - 224 < 0
    · rw [if_pos hn]; exact num3_neg t w ht x0 x1 x2 g0 l0 u0 g1 l1 u1 g2 l2 u2 (by omega)
    rw [if_neg hn]
    cases hr : rightB (((x0 - 224) * 64 + x1 - 128) * 64 + x2 - 128) with
    | false => rw [fin_no hr]; exact num3_r t w ht x0 x1 x2 g0 l0 u0 g1 l1 u1 g2 l2 u2 (by omega) hr
    | true =>
      by_cases he : encI (((x0 - 224) * 64 + x1 - 128) * 64 + x2 - 128) = [x0, x1, x2]
      · rw [fin_yes hr he]; exact num3_ok t w ht x0 x1 x2 g0 l0 u0 g1 l1 u1 g2 l2 u2 (by omega) hr (str_eq_true (by rw [bytesL_enc hr, hL, he]))
      · rw [fin_other he]; exact num3_s t w ht x0 x1 x2 g0 l0 u0 g1 l1 u1 g2 l2 u2 (by omega) hr (str_eq_false (by rw [bytesL_enc hr, hL]; exact he))
  · have hL := list_4 (bytesL t) (by omega)
    obtain ⟨x0, e0⟩ : ∃ x, byt t 0 = x := ⟨_, rfl⟩
    have g0 : (t[0].toNat : Int) = x0 := (byt_eq t 0 (by omega)).trans e0
    have l0 : 0 ≤ x0 := e0 ▸ byt_lo t _
    have u0 : x0 ≤ 255 := e0 ▸ byt_hi t _
    obtain ⟨x1, e1⟩ : ∃ x, byt t 1 = x := ⟨_, rfl⟩
    have g1 : (t[1].toNat : Int) = x1 := (byt_eq t 1 (by omega)).trans e1
    have l1 : 0 ≤ x1 := e1 ▸ byt_lo t _
    have u1 : x1 ≤ 255 := e1 ▸ byt_hi t _
    obtain ⟨x2, e2⟩ : ∃ x, byt t 2 = x := ⟨_, rfl⟩
    have g2 : (t[2].toNat : Int) = x2 := (byt_eq t 2 (by omega)).trans e2
    have l2 : 0 ≤ x2 := e2 ▸ byt_lo t _
    have u2 : x2 ≤ 255 := e2 ▸ byt_hi t _
    obtain ⟨x3, e3⟩ : ∃ x, byt t 3 = x := ⟨_, rfl⟩
    have g3 : (t[3].toNat : Int) = x3 := (byt_eq t 3 (by omega)).trans e3
    have l3 : 0 ≤ x3 := e3 ▸ byt_lo t _
    have u3 : x3 ≤ 255 := e3 ▸ byt_hi t _
    rw [show (bytesL t).getD 0 0 = x0 from e0, show (bytesL t).getD 1 0 = x1 from e1, show (bytesL t).getD 2 0 = x2 from e2, show (bytesL t).getD 3 0 = x3 from e3] at hL
    rw [hL, numV_4]
    by_cases hn : x0 - 240 < 0
    · rw [if_pos hn]; exact num4_neg t w ht x0 x1 x2 x3 g0 l0 u0 g1 l1 u1 g2 l2 u2 g3 l3 u3 (by omega)
    rw [if_neg hn]
    cases hr : rightB ((((x0 - 240) * 64 + x1 - 128) * 64 + x2 - 128) * 64 + x3 - 128) with
    | false => rw [fin_no hr]; exact num4_r t w ht x0 x1 x2 x3 g0 l0 u0 g1 l1 u1 g2 l2 u2 g3 l3 u3 (by omega) hr
    | true =>
      by_cases he : encI ((((x0 - 240) * 64 + x1 - 128) * 64 + x2 - 128) * 64 + x3 - 128) = [x0, x1, x2, x3]
      · rw [fin_yes hr he]; exact num4_ok t w ht x0 x1 x2 x3 g0 l0 u0 g1 l1 u1 g2 l2 u2 g3 l3 u3 (by omega) hr (str_eq_true (by rw [bytesL_enc hr, hL, he]))
      · rw [fin_other he]; exact num4_s t w ht x0 x1 x2 x3 g0 l0 u0 g1 l1 u1 g2 l2 u2 g3 l3 u3 (by omega) hr (str_eq_false (by rw [bytesL_enc hr, hL]; exact he))

theorem number_at (s : ByteArray) (k b j : Nat) (w : World) (hj : b = k + j) (hk : b ≤ s.size) (h1 : 1 ≤ j) (h4 : j ≤ 4) :
    Calls Tryd.prog 82 #[.string (s.extract k b)] w fun e w' => e = .returned (.int .i64 (numV (((bytesL s).drop k).take j))) ∧ Below w.heap.size w w' := by
  have hs : (s.extract k b).size = j := by simp; omega
  have := number_any (s.extract k b) w (by omega) (by omega)
  rw [bytesL_extract, show b - k = j by omega] at this
  exact this

theorem refNext_out (s : ByteArray) (k : Int) (w : World) (hs : s.size ≤ 9223372036854775807) (hk : k < 0 ∨ (s.size : Int) ≤ k) :
    Calls Tryd.prog 71 #[.string s, .int .i64 k] w fun e w' => e = .returned (.tuple #[.int .i64 0, .int .i64 0, .bool false]) ∧ Below w.heap.size w w' := by
  by_cases h : k < 0
  · clear hk
    go_enter Tryd.func71, Tryd.ntmps71
    go_wp2_with fail
    go_ret3
    exact ⟨rfl, Below.refl _ _⟩
  · have h2 : (s.size : Int) ≤ k := by omega
    clear hk
    go_enter Tryd.func71, Tryd.ntmps71
    go_wp2_with fail
    go_ret3
    exact ⟨rfl, Below.refl _ _⟩

theorem refNext_1 (s : ByteArray) (k : Nat) (w : World) (hs : s.size ≤ 9223372036854775807) (hk : k + 1 ≤ s.size)  (n : Int) (v1 : numV (((bytesL s).drop k).take 1) = n) (hn : 0 ≤ n) :
    Calls Tryd.prog 71 #[.string s, .int .i64 k] w fun e w' => e = .returned (.tuple #[.int .i64 n, .int .i64 1, .bool true]) ∧ Below w.heap.size w w' := by
  go_enter Tryd.func71, Tryd.ntmps71
  go_wp2_with fail
  refine wp_loop_rounds 1 ?_
  rw [rounds_succ]
  go_wp2_with fail
  refine (number_at s k (k + 1) 1 _ rfl (by omega) (by omega) (by omega)).mono ?_; rintro e w1 ⟨rfl, hb1⟩
  rw [v1]
  go_wp2_with fail
  go_ret3
  exact ⟨rfl, hb1⟩

theorem refNext_none1 (s : ByteArray) (k : Nat) (w : World) (hs : s.size ≤ 9223372036854775807) (hk : k + 1 = s.size) (v1 : numV (((bytesL s).drop k).take 1) = -1) :
    Calls Tryd.prog 71 #[.string s, .int .i64 k] w fun e w' => e = .returned (.tuple #[.int .i64 0, .int .i64 0, .bool false]) ∧ Below w.heap.size w w' := by
  have hk1 := Nat.le_of_eq hk
  have hk2 := Nat.le_of_eq hk.symm
  clear hk
  go_enter Tryd.func71, Tryd.ntmps71
  go_wp2_with fail
  refine wp_loop_rounds 2 ?_
  rw [rounds_succ]
  go_wp2_with fail
  refine (number_at s k (k + 1) 1 _ rfl (by omega) (by omega) (by omega)).mono ?_; rintro e w1 ⟨rfl, hb1⟩
  rw [v1]
  go_wp2_with fail
  rw [rounds_succ]
  go_wp2_with fail
  go_ret3
  exact ⟨rfl, hb1⟩

theorem refNext_2 (s : ByteArray) (k : Nat) (w : World) (hs : s.size ≤ 9223372036854775807) (hk : k + 2 ≤ s.size) (v1 : numV (((bytesL s).drop k).take 1) = -1) (n : Int) (v2 : numV (((bytesL s).drop k).take 2) = n) (hn : 0 ≤ n) :
    Calls Tryd.prog 71 #[.string s, .int .i64 k] w fun e w' => e = .returned (.tuple #[.int .i64 n, .int .i64 2, .bool true]) ∧ Below w.heap.size w w' := by
  go_enter Tryd.func71, Tryd.ntmps71
  go_wp2_with fail
  refine wp_loop_rounds 2 ?_
  rw [rounds_succ]
  go_wp2_with fail
  refine (number_at s k (k + 1) 1 _ rfl (by omega) (by omega) (by omega)).mono ?_; rintro e w1 ⟨rfl, hb1⟩
  rw [v1]
  go_wp2_with fail
  rw [rounds_succ]
  go_wp2_with fail
  refine (number_at s k (k + 2) 2 _ rfl (by omega) (by omega) (by omega)).mono ?_; rintro e w2 ⟨rfl, hb2⟩
  rw [v2]
  go_wp2_with fail
  go_ret3
  exact ⟨rfl, (hb1).trans (hb2.mono (by have := (hb1).size; omega))⟩

theorem refNext_none2 (s : ByteArray) (k : Nat) (w : World) (hs : s.size ≤ 9223372036854775807) (hk : k + 2 = s.size) (v1 : numV (((bytesL s).drop k).take 1) = -1) (v2 : numV (((bytesL s).drop k).take 2) = -1) :
    Calls Tryd.prog 71 #[.string s, .int .i64 k] w fun e w' => e = .returned (.tuple #[.int .i64 0, .int .i64 0, .bool false]) ∧ Below w.heap.size w w' := by
  have hk1 := Nat.le_of_eq hk
  have hk2 := Nat.le_of_eq hk.symm
  clear hk
  go_enter Tryd.func71, Tryd.ntmps71
  go_wp2_with fail
  refine wp_loop_rounds 3 ?_
  rw [rounds_succ]
  go_wp2_with fail
  refine (number_at s k (k + 1) 1 _ rfl (by omega) (by omega) (by omega)).mono ?_; rintro e w1 ⟨rfl, hb1⟩
  rw [v1]
  go_wp2_with fail
  rw [rounds_succ]
  go_wp2_with fail
  refine (number_at s k (k + 2) 2 _ rfl (by omega) (by omega) (by omega)).mono ?_; rintro e w2 ⟨rfl, hb2⟩
  rw [v2]
  go_wp2_with fail
  rw [rounds_succ]
  go_wp2_with fail
  go_ret3
  exact ⟨rfl, (hb1).trans (hb2.mono (by have := (hb1).size; omega))⟩

theorem refNext_3 (s : ByteArray) (k : Nat) (w : World) (hs : s.size ≤ 9223372036854775807) (hk : k + 3 ≤ s.size) (v1 : numV (((bytesL s).drop k).take 1) = -1) (v2 : numV (((bytesL s).drop k).take 2) = -1) (n : Int) (v3 : numV (((bytesL s).drop k).take 3) = n) (hn : 0 ≤ n) :
    Calls Tryd.prog 71 #[.string s, .int .i64 k] w fun e w' => e = .returned (.tuple #[.int .i64 n, .int .i64 3, .bool true]) ∧ Below w.heap.size w w' := by
  go_enter Tryd.func71, Tryd.ntmps71
  go_wp2_with fail
  refine wp_loop_rounds 3 ?_
  rw [rounds_succ]
  go_wp2_with fail
  refine (number_at s k (k + 1) 1 _ rfl (by omega) (by omega) (by omega)).mono ?_; rintro e w1 ⟨rfl, hb1⟩
  rw [v1]
  go_wp2_with fail
  rw [rounds_succ]
  go_wp2_with fail
  refine (number_at s k (k + 2) 2 _ rfl (by omega) (by omega) (by omega)).mono ?_; rintro e w2 ⟨rfl, hb2⟩
  rw [v2]
  go_wp2_with fail
  rw [rounds_succ]
  go_wp2_with fail
  refine (number_at s k (k + 3) 3 _ rfl (by omega) (by omega) (by omega)).mono ?_; rintro e w3 ⟨rfl, hb3⟩
  rw [v3]
  go_wp2_with fail
  go_ret3
  exact ⟨rfl, ((hb1).trans (hb2.mono (by have := (hb1).size; omega))).trans (hb3.mono (by have := ((hb1).trans (hb2.mono (by have := (hb1).size; omega))).size; omega))⟩

theorem refNext_none3 (s : ByteArray) (k : Nat) (w : World) (hs : s.size ≤ 9223372036854775807) (hk : k + 3 = s.size) (v1 : numV (((bytesL s).drop k).take 1) = -1) (v2 : numV (((bytesL s).drop k).take 2) = -1) (v3 : numV (((bytesL s).drop k).take 3) = -1) :
    Calls Tryd.prog 71 #[.string s, .int .i64 k] w fun e w' => e = .returned (.tuple #[.int .i64 0, .int .i64 0, .bool false]) ∧ Below w.heap.size w w' := by
  have hk1 := Nat.le_of_eq hk
  have hk2 := Nat.le_of_eq hk.symm
  clear hk
  go_enter Tryd.func71, Tryd.ntmps71
  go_wp2_with fail
  refine wp_loop_rounds 4 ?_
  rw [rounds_succ]
  go_wp2_with fail
  refine (number_at s k (k + 1) 1 _ rfl (by omega) (by omega) (by omega)).mono ?_; rintro e w1 ⟨rfl, hb1⟩
  rw [v1]
  go_wp2_with fail
  rw [rounds_succ]
  go_wp2_with fail
  refine (number_at s k (k + 2) 2 _ rfl (by omega) (by omega) (by omega)).mono ?_; rintro e w2 ⟨rfl, hb2⟩
  rw [v2]
  go_wp2_with fail
  rw [rounds_succ]
  go_wp2_with fail
  refine (number_at s k (k + 3) 3 _ rfl (by omega) (by omega) (by omega)).mono ?_; rintro e w3 ⟨rfl, hb3⟩
  rw [v3]
  go_wp2_with fail
  rw [rounds_succ]
  go_wp2_with fail
  go_ret3
  exact ⟨rfl, ((hb1).trans (hb2.mono (by have := (hb1).size; omega))).trans (hb3.mono (by have := ((hb1).trans (hb2.mono (by have := (hb1).size; omega))).size; omega))⟩

theorem refNext_4 (s : ByteArray) (k : Nat) (w : World) (hs : s.size ≤ 9223372036854775807) (hk : k + 4 ≤ s.size) (v1 : numV (((bytesL s).drop k).take 1) = -1) (v2 : numV (((bytesL s).drop k).take 2) = -1) (v3 : numV (((bytesL s).drop k).take 3) = -1) (n : Int) (v4 : numV (((bytesL s).drop k).take 4) = n) (hn : 0 ≤ n) :
    Calls Tryd.prog 71 #[.string s, .int .i64 k] w fun e w' => e = .returned (.tuple #[.int .i64 n, .int .i64 4, .bool true]) ∧ Below w.heap.size w w' := by
  go_enter Tryd.func71, Tryd.ntmps71
  go_wp2_with fail
  refine wp_loop_rounds 4 ?_
  rw [rounds_succ]
  go_wp2_with fail
  refine (number_at s k (k + 1) 1 _ rfl (by omega) (by omega) (by omega)).mono ?_; rintro e w1 ⟨rfl, hb1⟩
  rw [v1]
  go_wp2_with fail
  rw [rounds_succ]
  go_wp2_with fail
  refine (number_at s k (k + 2) 2 _ rfl (by omega) (by omega) (by omega)).mono ?_; rintro e w2 ⟨rfl, hb2⟩
  rw [v2]
  go_wp2_with fail
  rw [rounds_succ]
  go_wp2_with fail
  refine (number_at s k (k + 3) 3 _ rfl (by omega) (by omega) (by omega)).mono ?_; rintro e w3 ⟨rfl, hb3⟩
  rw [v3]
  go_wp2_with fail
  rw [rounds_succ]
  go_wp2_with fail
  refine (number_at s k (k + 4) 4 _ rfl (by omega) (by omega) (by omega)).mono ?_; rintro e w4 ⟨rfl, hb4⟩
  rw [v4]
  go_wp2_with fail
  go_ret3
  exact ⟨rfl, (((hb1).trans (hb2.mono (by have := (hb1).size; omega))).trans (hb3.mono (by have := ((hb1).trans (hb2.mono (by have := (hb1).size; omega))).size; omega))).trans (hb4.mono (by have := (((hb1).trans (hb2.mono (by have := (hb1).size; omega))).trans (hb3.mono (by have := ((hb1).trans (hb2.mono (by have := (hb1).size; omega))).size; omega))).size; omega))⟩

theorem refNext_none4 (s : ByteArray) (k : Nat) (w : World) (hs : s.size ≤ 9223372036854775807) (hk : k + 4 ≤ s.size) (v1 : numV (((bytesL s).drop k).take 1) = -1) (v2 : numV (((bytesL s).drop k).take 2) = -1) (v3 : numV (((bytesL s).drop k).take 3) = -1) (v4 : numV (((bytesL s).drop k).take 4) = -1) :
    Calls Tryd.prog 71 #[.string s, .int .i64 k] w fun e w' => e = .returned (.tuple #[.int .i64 0, .int .i64 0, .bool false]) ∧ Below w.heap.size w w' := by
  go_enter Tryd.func71, Tryd.ntmps71
  go_wp2_with fail
  refine wp_loop_rounds 5 ?_
  rw [rounds_succ]
  go_wp2_with fail
  refine (number_at s k (k + 1) 1 _ rfl (by omega) (by omega) (by omega)).mono ?_; rintro e w1 ⟨rfl, hb1⟩
  rw [v1]
  go_wp2_with fail
  rw [rounds_succ]
  go_wp2_with fail
  refine (number_at s k (k + 2) 2 _ rfl (by omega) (by omega) (by omega)).mono ?_; rintro e w2 ⟨rfl, hb2⟩
  rw [v2]
  go_wp2_with fail
  rw [rounds_succ]
  go_wp2_with fail
  refine (number_at s k (k + 3) 3 _ rfl (by omega) (by omega) (by omega)).mono ?_; rintro e w3 ⟨rfl, hb3⟩
  rw [v3]
  go_wp2_with fail
  rw [rounds_succ]
  go_wp2_with fail
  refine (number_at s k (k + 4) 4 _ rfl (by omega) (by omega) (by omega)).mono ?_; rintro e w4 ⟨rfl, hb4⟩
  rw [v4]
  go_wp2_with fail
  rw [rounds_succ]
  go_wp2_with fail
  go_ret3
  exact ⟨rfl, (((hb1).trans (hb2.mono (by have := (hb1).size; omega))).trans (hb3.mono (by have := ((hb1).trans (hb2.mono (by have := (hb1).size; omega))).size; omega))).trans (hb4.mono (by have := (((hb1).trans (hb2.mono (by have := (hb1).size; omega))).trans (hb3.mono (by have := ((hb1).trans (hb2.mono (by have := (hb1).size; omega))).size; omega))).size; omega))⟩

/-- What scholiumref01.Next answers. -/
def refNextV : Option Int → Value
  | none => .tuple #[.int .i64 0, .int .i64 0, .bool false]
  | some n => .tuple #[.int .i64 n, .int .i64 (wid n), .bool true]
theorem refNextV_some (n : Int) : refNextV (some n) = .tuple #[.int .i64 n, .int .i64 (wid n), .bool true] := rfl

theorem head_nonneg (s : ByteArray) (k : Nat) : ∀ b, ((bytesL s).drop k).head? = some b → 0 ≤ b := by
  intro b hb
  by_cases hk : k < s.size
  · rw [drop_byt s k hk] at hb
    have := Option.some.inj hb
    rw [← this]; exact byt_lo s k
  · rw [drop_nil s k (by omega)] at hb; cases hb

theorem wid_pos (n : Int) : 1 ≤ wid n ∧ wid n ≤ 4 := by unfold wid; (repeat' split) <;> omega

theorem sign_fits {s : ByteArray} {k : Nat} {n : Int} (h : IsSign ((bytesL s).drop k) n) : k + wid n ≤ s.size := by
  obtain ⟨_, t, ht⟩ := h
  have := congrArg List.length ht
  rw [List.length_drop, List.length_append, encI_length, bytesL_length] at this
  have := (wid_pos n).1
  omega

theorem refNext_any (s : ByteArray) (k : Nat) (w : World) (hs : s.size ≤ 9223372036854775807) (hk : k < s.size) :
    Calls Tryd.prog 71 #[.string s, .int .i64 k] w fun e w' => e = .returned (refNextV (dec ((bytesL s).drop k))) ∧ Below w.heap.size w w' := by
  cases hd : dec ((bytesL s).drop k) with
  | none =>
    have v := fun m => numV_none hd m
    by_cases c1 : k + 1 = s.size
    · exact refNext_none1 s k w hs c1 (v 1)
    by_cases c2 : k + 2 = s.size
    · exact refNext_none2 s k w hs c2 (v 1) (v 2)
    by_cases c3 : k + 3 = s.size
    · exact refNext_none3 s k w hs c3 (v 1) (v 2) (v 3)
    · exact refNext_none4 s k w hs (by omega) (v 1) (v 2) (v 3) (v 4)
  | some n =>
    have hS := sign_of_dec (head_nonneg s k) hd
    have hf := sign_fits hS
    have v := fun m hm => numV_other hS m hm
    have v' := numV_at hS
    have hn := (rightB_true.1 hS.1).1
    rw [refNextV_some]
    have hw := wid_pos n
    have hcase : wid n = 1 ∨ wid n = 2 ∨ wid n = 3 ∨ wid n = 4 := by omega
    rcases hcase with c | c | c | c
    · rw [c] at hf v v' ⊢; exact refNext_1 s k w hs hf n v' hn
    · rw [c] at hf v v' ⊢; exact refNext_2 s k w hs hf (v 1 (by omega)) n v' hn
    · rw [c] at hf v v' ⊢; exact refNext_3 s k w hs hf (v 1 (by omega)) (v 2 (by omega)) n v' hn
    · rw [c] at hf v v' ⊢; exact refNext_4 s k w hs hf (v 1 (by omega)) (v 2 (by omega)) (v 3 (by omega)) n v' hn

end Go.Proofs.YtmaomnpanfdjeaaDoor
