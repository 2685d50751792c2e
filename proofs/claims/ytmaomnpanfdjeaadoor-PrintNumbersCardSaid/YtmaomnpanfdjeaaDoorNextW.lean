/- utf.Next reads, at any place of any bytes, the sign whose bytes begin there, or answers ErrForm: in terms of 'dec'; nothing that was there is written. For every string shorter than 2^63 bytes and every offset. -/
import Derived.Test.YtmaomnpanfdjeaaDoorRefPut
import Derived.Test.YtmaomnpanfdjeaaDoorDec
import Derived.WalkSpells
namespace Go.Proofs.YtmaomnpanfdjeaaDoor
open Go.RowKit
set_option maxRecDepth 100000
set_option linter.unusedVariables false

/-- '[]byte(t)' of a piece of a string: a new row that holds the piece's bytes. -/
theorem conv_str (w : World) (s : ByteArray) (a b n : Nat) (hn : b = a + n) (hb : b ≤ s.size) :
    ∃ cap W, (convert 9 53 (.string (s.extract a b))).run Tryd.prog w = .ok (.slice (some ⟨w.heap.size, 0, none⟩) n cap) W ∧ Below w.heap.size w W ∧
      ∀ i, i < n → W.cell? ⟨w.heap.size, i, none⟩ = some (.int .u8 (byt s (a + i))) := by
  have hsz : (s.extract a b).size = n := by simp; omega
  have hr := run_bytes_of_string (P := Tryd.prog) w 9 53 5 (s.extract a b) Tryd.underlying9 Tryd.underlying53 Tryd.underlying5
  generalize hC : bytesRow (s.extract a b) _ = C at hr
  rw [hsz] at hr hC
  refine ⟨_, _, hr, ((Below.refl _ _).drew).alloc (Nat.le_refl _) _, ?_⟩
  intro i h
  have e : w.heap.size = w.drew.heap.size := rfl
  rw [e, World.cell?_alloc_mark, ← hC]
  unfold bytesRow
  rw [Array.getElem?_append_left (by simp; omega), ← byt_eq s (a + i) (by omega)]
  have hi : i < (s.extract a b).size := by omega
  have e1 : (s.extract a b).data[i]? = some (s[a + i]'(by omega)) := by
    rw [Array.getElem?_eq_getElem (by simpa using hi)]
    exact congrArg some (ByteArray.getElem_extract (start := a) (stop := b) (i := i) hi)
  rw [Array.getElem?_map, e1]
  rfl

/-- No offset. -/
theorem next_out (s : ByteArray) (k : Int) (w : World) (hs : s.size ≤ 9223372036854775807) (hk : k < 0 ∨ (s.size : Int) ≤ k) :
    Calls Tryd.prog 79 #[.string s, .int .i64 k] w fun e w' => e = .returned (.tuple #[.int .i64 0, .int .i64 0, .int .i64 1]) ∧ Below w.heap.size w w' := by
  by_cases h : k < 0
  · clear hk
    go_enter Tryd.func79, Tryd.ntmps79
    go_wp2_with fail
    go_ret3
    exact ⟨rfl, Below.refl _ _⟩
  · have h2 : (s.size : Int) ≤ k := by omega
    clear hk
    go_enter Tryd.func79, Tryd.ntmps79
    go_wp2_with fail
    go_ret3
    exact ⟨rfl, Below.refl _ _⟩

/-- A first byte with which no sign begins. -/
theorem nx_0 (s : ByteArray) (k : Nat) (w : World) (hs : s.size ≤ 9223372036854775807) (hk : k < s.size) (b0 : Int) (hb0 : (s[k].toNat : Int) = b0) (h0 : 0 ≤ b0) (h1 : b0 ≤ 255) (h2 : (128 ≤ b0 ∧ b0 < 192) ∨ 248 ≤ b0) :
    Calls Tryd.prog 79 #[.string s, .int .i64 k] w fun e w' => e = .returned (.tuple #[.int .i64 0, .int .i64 0, .int .i64 1]) ∧ Below w.heap.size w w' := by
  have hsh : shareI b0 = 0 := by unfold shareI; rw [if_neg (by omega), if_pos (by omega)]
  have hsz : sizeI b0 = 0 := by unfold sizeI; rw [if_neg (by omega), if_pos (by omega)]
  go_enter Tryd.func79, Tryd.ntmps79
  go_wp2_with fail
  refine (first_any _ _ (by omega) (by omega)).mono ?_; rintro e w' ⟨rfl, rfl⟩
  rw [hsh, hsz]; clear hsh hsz
  go_wp2_with fail
  go_ret3
  exact ⟨rfl, Below.refl _ _⟩

/-- Too few bytes, of 2. -/
theorem nx2_short (s : ByteArray) (k : Nat) (w : World) (hs : s.size ≤ 9223372036854775807) (hk : k < s.size) (b0 : Int) (hb0 : (s[k].toNat : Int) = b0) (h0 : 192 ≤ b0) (h1 : b0 < 224) (h2 : s.size < k + 2) :
    Calls Tryd.prog 79 #[.string s, .int .i64 k] w fun e w' => e = .returned (.tuple #[.int .i64 0, .int .i64 0, .int .i64 1]) ∧ Below w.heap.size w w' := by
  have hsh : shareI b0 = b0 - 192 := by unfold shareI; rw [if_neg (by omega), if_neg (by omega), if_neg (by omega), if_neg (by omega)]
  have hsz : sizeI b0 = 2 := by unfold sizeI; rw [if_neg (by omega), if_neg (by omega), if_neg (by omega), if_neg (by omega)]
  have hgt : (s.size : Int) - (k : Int) < 2 := by omega
  go_enter Tryd.func79, Tryd.ntmps79
  go_wp2_with fail
  refine (first_any _ _ (by omega) (by omega)).mono ?_; rintro e w' ⟨rfl, rfl⟩
  rw [hsh, hsz]; clear hsh hsz
  go_wp2_with fail
  go_ret3
  exact ⟨rfl, Below.refl _ _⟩

/-- Too few bytes, of 3. -/
theorem nx3_short (s : ByteArray) (k : Nat) (w : World) (hs : s.size ≤ 9223372036854775807) (hk : k < s.size) (b0 : Int) (hb0 : (s[k].toNat : Int) = b0) (h0 : 224 ≤ b0) (h1 : b0 < 240) (h2 : s.size < k + 3) :
    Calls Tryd.prog 79 #[.string s, .int .i64 k] w fun e w' => e = .returned (.tuple #[.int .i64 0, .int .i64 0, .int .i64 1]) ∧ Below w.heap.size w w' := by
  have hsh : shareI b0 = b0 - 224 := by unfold shareI; rw [if_neg (by omega), if_neg (by omega), if_neg (by omega), if_pos (by omega)]
  have hsz : sizeI b0 = 3 := by unfold sizeI; rw [if_neg (by omega), if_neg (by omega), if_neg (by omega), if_pos (by omega)]
  have hgt : (s.size : Int) - (k : Int) < 3 := by omega
  go_enter Tryd.func79, Tryd.ntmps79
  go_wp2_with fail
  refine (first_any _ _ (by omega) (by omega)).mono ?_; rintro e w' ⟨rfl, rfl⟩
  rw [hsh, hsz]; clear hsh hsz
  go_wp2_with fail
  go_ret3
  exact ⟨rfl, Below.refl _ _⟩

/-- Too few bytes, of 4. -/
theorem nx4_short (s : ByteArray) (k : Nat) (w : World) (hs : s.size ≤ 9223372036854775807) (hk : k < s.size) (b0 : Int) (hb0 : (s[k].toNat : Int) = b0) (h0 : 240 ≤ b0) (h1 : b0 < 248) (h2 : s.size < k + 4) :
    Calls Tryd.prog 79 #[.string s, .int .i64 k] w fun e w' => e = .returned (.tuple #[.int .i64 0, .int .i64 0, .int .i64 1]) ∧ Below w.heap.size w w' := by
  have hsh : shareI b0 = b0 - 240 := by unfold shareI; rw [if_neg (by omega), if_neg (by omega), if_pos (by omega)]
  have hsz : sizeI b0 = 4 := by unfold sizeI; rw [if_neg (by omega), if_neg (by omega), if_pos (by omega)]
  have hgt : (s.size : Int) - (k : Int) < 4 := by omega
  go_enter Tryd.func79, Tryd.ntmps79
  go_wp2_with fail
  refine (first_any _ _ (by omega) (by omega)).mono ?_; rintro e w' ⟨rfl, rfl⟩
  rw [hsh, hsz]; clear hsh hsz
  go_wp2_with fail
  go_ret3
  exact ⟨rfl, Below.refl _ _⟩

/-- One byte. -/
theorem nx1_ok (s : ByteArray) (k : Nat) (w : World) (hs : s.size ≤ 9223372036854775807) (hk : k < s.size) (b0 : Int) (hb0 : (s[k].toNat : Int) = b0) (h0 : 0 ≤ b0) (h1 : b0 < 128) :
    Calls Tryd.prog 79 #[.string s, .int .i64 k] w fun e w' => e = .returned (.tuple #[.int .i64 b0, .int .i64 1, .int .i64 0]) ∧ Below w.heap.size w w' := by
  have hsh : shareI b0 = b0 := by unfold shareI; rw [if_pos (by omega)]
  have hsz : sizeI b0 = 1 := by unfold sizeI; rw [if_pos (by omega)]
  have hr : rightB b0 = true := rightB_true.2 (by omega)
  have hw : wid b0 = 1 := wid_1 (by omega)
  obtain ⟨cap, W, hconv, hB, -⟩ := conv_str w s (k + 1) (k + 1) 0 rfl (by omega)
  have he : s.extract (k + 1) (k + 1) = ByteArray.empty := by
    apply ByteArray.ext
    simp
  rw [he] at hconv
  clear he
  go_enter Tryd.func79, Tryd.ntmps79
  go_wp2_with fail
  refine (first_any _ _ (by omega) (by omega)).mono ?_; rintro e w' ⟨rfl, rfl⟩
  rw [hsh, hsz]; clear hsh hsz
  go_wp2_with fail
  refine wp_loop_rounds 1 ?_
  rw [rounds_succ]
  go_wp2_with fail
  refine (right_any _ _).mono ?_; rintro e w' ⟨rfl, rfl⟩
  rw [hr]
  go_wp2_with fail
  refine (width_any _ _).mono ?_; rintro e w' ⟨rfl, rfl⟩
  rw [hw]
  go_wp2_with fail
  go_ret3
  exact ⟨rfl, hB⟩

set_option maxHeartbeats 400000 in
/-- 2 bytes, the 2th does not follow. -/
theorem nx2_f1 (s : ByteArray) (k : Nat) (w : World) (hs : s.size ≤ 9223372036854775807) (hk : k < s.size) (b0 : Int) (hb0 : (s[k].toNat : Int) = b0) (h0 : 192 ≤ b0) (h1 : b0 < 224) (hm : k + 2 ≤ s.size) (c1 : Int) (hc1 : byt s (k + 1 + 0) = c1) (lo1 : 0 ≤ c1) (hi1 : c1 ≤ 255)  (f1 : followsB c1 = false) :
    Calls Tryd.prog 79 #[.string s, .int .i64 k] w fun e w' => e = .returned (.tuple #[.int .i64 0, .int .i64 0, .int .i64 1]) ∧ Below w.heap.size w w' := by
  have hsh : shareI b0 = b0 - 192 := by unfold shareI; rw [if_neg (by omega), if_neg (by omega), if_neg (by omega), if_neg (by omega)]
  have hsz : sizeI b0 = 2 := by unfold sizeI; rw [if_neg (by omega), if_neg (by omega), if_neg (by omega), if_neg (by omega)]
  obtain ⟨cap, W, hconv, hB, hcell⟩ := conv_str w s (k + 1) (k + 2) 1 (by omega) hm
  have g1 : W.cell? ⟨w.heap.size, 0, none⟩ = some (.int .u8 c1) := by rw [hcell 0 (by omega), hc1]
  have a1 : bits .and .u8 c1 63 = c1 % 64 := and63_u8 _ lo1 hi1
  have o1 : bits .or .i64 ((b0 - 192) * 64) (c1 % 64) = (b0 - 192) * 64 + c1 % 64 := or_64 _ _ (by omega) (by omega) (by omega) (by omega)
  clear hcell hc1
  go_enter Tryd.func79, Tryd.ntmps79
  go_wp2_with fail
  refine (first_any _ _ (by omega) (by omega)).mono ?_; rintro e w' ⟨rfl, rfl⟩
  rw [hsh, hsz]; clear hsh hsz
  go_wp2_with fail
  refine wp_loop_rounds 2 ?_
  rw [rounds_succ]
  go_wp2_with fail
  refine (follows_any _ _).mono ?_; rintro e w' ⟨rfl, rfl⟩
  rw [f1]
  go_wp2_with fail
  go_ret3
  exact ⟨rfl, hB⟩

set_option maxHeartbeats 400000 in
/-- 2 bytes that say no sign. -/
theorem nx2_r (s : ByteArray) (k : Nat) (w : World) (hs : s.size ≤ 9223372036854775807) (hk : k < s.size) (b0 : Int) (hb0 : (s[k].toNat : Int) = b0) (h0 : 192 ≤ b0) (h1 : b0 < 224) (hm : k + 2 ≤ s.size) (c1 : Int) (hc1 : byt s (k + 1 + 0) = c1) (lo1 : 0 ≤ c1) (hi1 : c1 ≤ 255) (f1 : followsB c1 = true) (hr : rightB ((b0 - 192) * 64 + c1 % 64) = false) :
    Calls Tryd.prog 79 #[.string s, .int .i64 k] w fun e w' => e = .returned (.tuple #[.int .i64 0, .int .i64 0, .int .i64 1]) ∧ Below w.heap.size w w' := by
  have hsh : shareI b0 = b0 - 192 := by unfold shareI; rw [if_neg (by omega), if_neg (by omega), if_neg (by omega), if_neg (by omega)]
  have hsz : sizeI b0 = 2 := by unfold sizeI; rw [if_neg (by omega), if_neg (by omega), if_neg (by omega), if_neg (by omega)]
  obtain ⟨cap, W, hconv, hB, hcell⟩ := conv_str w s (k + 1) (k + 2) 1 (by omega) hm
  have g1 : W.cell? ⟨w.heap.size, 0, none⟩ = some (.int .u8 c1) := by rw [hcell 0 (by omega), hc1]
  have a1 : bits .and .u8 c1 63 = c1 % 64 := and63_u8 _ lo1 hi1
  have o1 : bits .or .i64 ((b0 - 192) * 64) (c1 % 64) = (b0 - 192) * 64 + c1 % 64 := or_64 _ _ (by omega) (by omega) (by omega) (by omega)
  clear hcell hc1
  go_enter Tryd.func79, Tryd.ntmps79
  go_wp2_with fail
  refine (first_any _ _ (by omega) (by omega)).mono ?_; rintro e w' ⟨rfl, rfl⟩
  rw [hsh, hsz]; clear hsh hsz
  go_wp2_with fail
  refine wp_loop_rounds 2 ?_
  rw [rounds_succ]
  go_wp2_with fail
  refine (follows_any _ _).mono ?_; rintro e w' ⟨rfl, rfl⟩
  rw [f1]
  go_wp2_with fail
  rw [rounds_succ]
  go_wp2_with fail
  refine (right_any _ _).mono ?_; rintro e w' ⟨rfl, rfl⟩
  rw [hr]
  go_wp2_with fail
  go_ret3
  exact ⟨rfl, hB⟩

set_option maxHeartbeats 400000 in
/-- 2 bytes for a sign that has fewer. -/
theorem nx2_w (s : ByteArray) (k : Nat) (w : World) (hs : s.size ≤ 9223372036854775807) (hk : k < s.size) (b0 : Int) (hb0 : (s[k].toNat : Int) = b0) (h0 : 192 ≤ b0) (h1 : b0 < 224) (hm : k + 2 ≤ s.size) (c1 : Int) (hc1 : byt s (k + 1 + 0) = c1) (lo1 : 0 ≤ c1) (hi1 : c1 ≤ 255) (f1 : followsB c1 = true) (hr : rightB ((b0 - 192) * 64 + c1 % 64) = true) (hw : wid ((b0 - 192) * 64 + c1 % 64) ≠ 2) :
    Calls Tryd.prog 79 #[.string s, .int .i64 k] w fun e w' => e = .returned (.tuple #[.int .i64 0, .int .i64 0, .int .i64 1]) ∧ Below w.heap.size w w' := by
  obtain ⟨x, hx⟩ : ∃ x : Nat, wid ((b0 - 192) * 64 + c1 % 64) = x := ⟨_, rfl⟩
  rw [hx] at hw
  have hne : ((x : Int) == 2) = false := by simp; omega
  have hsh : shareI b0 = b0 - 192 := by unfold shareI; rw [if_neg (by omega), if_neg (by omega), if_neg (by omega), if_neg (by omega)]
  have hsz : sizeI b0 = 2 := by unfold sizeI; rw [if_neg (by omega), if_neg (by omega), if_neg (by omega), if_neg (by omega)]
  obtain ⟨cap, W, hconv, hB, hcell⟩ := conv_str w s (k + 1) (k + 2) 1 (by omega) hm
  have g1 : W.cell? ⟨w.heap.size, 0, none⟩ = some (.int .u8 c1) := by rw [hcell 0 (by omega), hc1]
  have a1 : bits .and .u8 c1 63 = c1 % 64 := and63_u8 _ lo1 hi1
  have o1 : bits .or .i64 ((b0 - 192) * 64) (c1 % 64) = (b0 - 192) * 64 + c1 % 64 := or_64 _ _ (by omega) (by omega) (by omega) (by omega)
  clear hcell hc1
  go_enter Tryd.func79, Tryd.ntmps79
  go_wp2_with fail
  refine (first_any _ _ (by omega) (by omega)).mono ?_; rintro e w' ⟨rfl, rfl⟩
  rw [hsh, hsz]; clear hsh hsz
  go_wp2_with fail
  refine wp_loop_rounds 2 ?_
  rw [rounds_succ]
  go_wp2_with fail
  refine (follows_any _ _).mono ?_; rintro e w' ⟨rfl, rfl⟩
  rw [f1]
  go_wp2_with fail
  rw [rounds_succ]
  go_wp2_with fail
  refine (right_any _ _).mono ?_; rintro e w' ⟨rfl, rfl⟩
  rw [hr]
  go_wp2_with fail
  refine (width_any _ _).mono ?_; rintro e w' ⟨rfl, rfl⟩
  rw [hx]; clear hx
  go_wp2_with fail
  go_ret3
  exact ⟨rfl, hB⟩

set_option maxHeartbeats 400000 in
/-- 2 bytes of a sign. -/
theorem nx2_ok (s : ByteArray) (k : Nat) (w : World) (hs : s.size ≤ 9223372036854775807) (hk : k < s.size) (b0 : Int) (hb0 : (s[k].toNat : Int) = b0) (h0 : 192 ≤ b0) (h1 : b0 < 224) (hm : k + 2 ≤ s.size) (c1 : Int) (hc1 : byt s (k + 1 + 0) = c1) (lo1 : 0 ≤ c1) (hi1 : c1 ≤ 255) (f1 : followsB c1 = true) (hr : rightB ((b0 - 192) * 64 + c1 % 64) = true) (hw : wid ((b0 - 192) * 64 + c1 % 64) = 2) :
    Calls Tryd.prog 79 #[.string s, .int .i64 k] w fun e w' => e = .returned (.tuple #[.int .i64 ((b0 - 192) * 64 + c1 % 64), .int .i64 2, .int .i64 0]) ∧ Below w.heap.size w w' := by
  have hsh : shareI b0 = b0 - 192 := by unfold shareI; rw [if_neg (by omega), if_neg (by omega), if_neg (by omega), if_neg (by omega)]
  have hsz : sizeI b0 = 2 := by unfold sizeI; rw [if_neg (by omega), if_neg (by omega), if_neg (by omega), if_neg (by omega)]
  obtain ⟨cap, W, hconv, hB, hcell⟩ := conv_str w s (k + 1) (k + 2) 1 (by omega) hm
  have g1 : W.cell? ⟨w.heap.size, 0, none⟩ = some (.int .u8 c1) := by rw [hcell 0 (by omega), hc1]
  have a1 : bits .and .u8 c1 63 = c1 % 64 := and63_u8 _ lo1 hi1
  have o1 : bits .or .i64 ((b0 - 192) * 64) (c1 % 64) = (b0 - 192) * 64 + c1 % 64 := or_64 _ _ (by omega) (by omega) (by omega) (by omega)
  clear hcell hc1
  go_enter Tryd.func79, Tryd.ntmps79
  go_wp2_with fail
  refine (first_any _ _ (by omega) (by omega)).mono ?_; rintro e w' ⟨rfl, rfl⟩
  rw [hsh, hsz]; clear hsh hsz
  go_wp2_with fail
  refine wp_loop_rounds 2 ?_
  rw [rounds_succ]
  go_wp2_with fail
  refine (follows_any _ _).mono ?_; rintro e w' ⟨rfl, rfl⟩
  rw [f1]
  go_wp2_with fail
  rw [rounds_succ]
  go_wp2_with fail
  refine (right_any _ _).mono ?_; rintro e w' ⟨rfl, rfl⟩
  rw [hr]
  go_wp2_with fail
  refine (width_any _ _).mono ?_; rintro e w' ⟨rfl, rfl⟩
  rw [hw]
  go_wp2_with fail
  go_ret3
  exact ⟨rfl, hB⟩

set_option maxHeartbeats 400000 in
/-- 3 bytes, the 2th does not follow. -/
theorem nx3_f1 (s : ByteArray) (k : Nat) (w : World) (hs : s.size ≤ 9223372036854775807) (hk : k < s.size) (b0 : Int) (hb0 : (s[k].toNat : Int) = b0) (h0 : 224 ≤ b0) (h1 : b0 < 240) (hm : k + 3 ≤ s.size) (c1 c2 : Int) (hc1 : byt s (k + 1 + 0) = c1) (lo1 : 0 ≤ c1) (hi1 : c1 ≤ 255) (hc2 : byt s (k + 1 + 1) = c2) (lo2 : 0 ≤ c2) (hi2 : c2 ≤ 255)  (f1 : followsB c1 = false) :
    Calls Tryd.prog 79 #[.string s, .int .i64 k] w fun e w' => e = .returned (.tuple #[.int .i64 0, .int .i64 0, .int .i64 1]) ∧ Below w.heap.size w w' := by
  have hsh : shareI b0 = b0 - 224 := by unfold shareI; rw [if_neg (by omega), if_neg (by omega), if_neg (by omega), if_pos (by omega)]
  have hsz : sizeI b0 = 3 := by unfold sizeI; rw [if_neg (by omega), if_neg (by omega), if_neg (by omega), if_pos (by omega)]
  obtain ⟨cap, W, hconv, hB, hcell⟩ := conv_str w s (k + 1) (k + 3) 2 (by omega) hm
  have g1 : W.cell? ⟨w.heap.size, 0, none⟩ = some (.int .u8 c1) := by rw [hcell 0 (by omega), hc1]
  have a1 : bits .and .u8 c1 63 = c1 % 64 := and63_u8 _ lo1 hi1
  have g2 : W.cell? ⟨w.heap.size, 1, none⟩ = some (.int .u8 c2) := by rw [hcell 1 (by omega), hc2]
  have a2 : bits .and .u8 c2 63 = c2 % 64 := and63_u8 _ lo2 hi2
  have o1 : bits .or .i64 ((b0 - 224) * 64) (c1 % 64) = (b0 - 224) * 64 + c1 % 64 := or_64 _ _ (by omega) (by omega) (by omega) (by omega)
  have o2 : bits .or .i64 (((b0 - 224) * 64 + c1 % 64) * 64) (c2 % 64) = ((b0 - 224) * 64 + c1 % 64) * 64 + c2 % 64 := or_64 _ _ (by omega) (by omega) (by omega) (by omega)
  clear hcell hc1 hc2
  go_enter Tryd.func79, Tryd.ntmps79
  go_wp2_with fail
  refine (first_any _ _ (by omega) (by omega)).mono ?_; rintro e w' ⟨rfl, rfl⟩
  rw [hsh, hsz]; clear hsh hsz
  go_wp2_with fail
  refine wp_loop_rounds 3 ?_
  rw [rounds_succ]
  go_wp2_with fail
  refine (follows_any _ _).mono ?_; rintro e w' ⟨rfl, rfl⟩
  rw [f1]
  go_wp2_with fail
  go_ret3
  exact ⟨rfl, hB⟩

set_option maxHeartbeats 400000 in
/-- 3 bytes, the 3th does not follow. -/
theorem nx3_f2 (s : ByteArray) (k : Nat) (w : World) (hs : s.size ≤ 9223372036854775807) (hk : k < s.size) (b0 : Int) (hb0 : (s[k].toNat : Int) = b0) (h0 : 224 ≤ b0) (h1 : b0 < 240) (hm : k + 3 ≤ s.size) (c1 c2 : Int) (hc1 : byt s (k + 1 + 0) = c1) (lo1 : 0 ≤ c1) (hi1 : c1 ≤ 255) (hc2 : byt s (k + 1 + 1) = c2) (lo2 : 0 ≤ c2) (hi2 : c2 ≤ 255) (f1 : followsB c1 = true) (f2 : followsB c2 = false) :
    Calls Tryd.prog 79 #[.string s, .int .i64 k] w fun e w' => e = .returned (.tuple #[.int .i64 0, .int .i64 0, .int .i64 1]) ∧ Below w.heap.size w w' := by
  have hsh : shareI b0 = b0 - 224 := by unfold shareI; rw [if_neg (by omega), if_neg (by omega), if_neg (by omega), if_pos (by omega)]
  have hsz : sizeI b0 = 3 := by unfold sizeI; rw [if_neg (by omega), if_neg (by omega), if_neg (by omega), if_pos (by omega)]
  obtain ⟨cap, W, hconv, hB, hcell⟩ := conv_str w s (k + 1) (k + 3) 2 (by omega) hm
  have g1 : W.cell? ⟨w.heap.size, 0, none⟩ = some (.int .u8 c1) := by rw [hcell 0 (by omega), hc1]
  have a1 : bits .and .u8 c1 63 = c1 % 64 := and63_u8 _ lo1 hi1
  have g2 : W.cell? ⟨w.heap.size, 1, none⟩ = some (.int .u8 c2) := by rw [hcell 1 (by omega), hc2]
  have a2 : bits .and .u8 c2 63 = c2 % 64 := and63_u8 _ lo2 hi2
  have o1 : bits .or .i64 ((b0 - 224) * 64) (c1 % 64) = (b0 - 224) * 64 + c1 % 64 := or_64 _ _ (by omega) (by omega) (by omega) (by omega)
  have o2 : bits .or .i64 (((b0 - 224) * 64 + c1 % 64) * 64) (c2 % 64) = ((b0 - 224) * 64 + c1 % 64) * 64 + c2 % 64 := or_64 _ _ (by omega) (by omega) (by omega) (by omega)
  clear hcell hc1 hc2
  go_enter Tryd.func79, Tryd.ntmps79
  go_wp2_with fail
  refine (first_any _ _ (by omega) (by omega)).mono ?_; rintro e w' ⟨rfl, rfl⟩
  rw [hsh, hsz]; clear hsh hsz
  go_wp2_with fail
  refine wp_loop_rounds 3 ?_
  rw [rounds_succ]
  go_wp2_with fail
  refine (follows_any _ _).mono ?_; rintro e w' ⟨rfl, rfl⟩
  rw [f1]
  go_wp2_with fail
  rw [rounds_succ]
  go_wp2_with fail
  refine (follows_any _ _).mono ?_; rintro e w' ⟨rfl, rfl⟩
  rw [f2]
  go_wp2_with fail
  go_ret3
  exact ⟨rfl, hB⟩

set_option maxHeartbeats 400000 in
/-- 3 bytes that say no sign. -/
theorem nx3_r (s : ByteArray) (k : Nat) (w : World) (hs : s.size ≤ 9223372036854775807) (hk : k < s.size) (b0 : Int) (hb0 : (s[k].toNat : Int) = b0) (h0 : 224 ≤ b0) (h1 : b0 < 240) (hm : k + 3 ≤ s.size) (c1 c2 : Int) (hc1 : byt s (k + 1 + 0) = c1) (lo1 : 0 ≤ c1) (hi1 : c1 ≤ 255) (hc2 : byt s (k + 1 + 1) = c2) (lo2 : 0 ≤ c2) (hi2 : c2 ≤ 255) (f1 : followsB c1 = true) (f2 : followsB c2 = true) (hr : rightB (((b0 - 224) * 64 + c1 % 64) * 64 + c2 % 64) = false) :
    Calls Tryd.prog 79 #[.string s, .int .i64 k] w fun e w' => e = .returned (.tuple #[.int .i64 0, .int .i64 0, .int .i64 1]) ∧ Below w.heap.size w w' := by
  have hsh : shareI b0 = b0 - 224 := by unfold shareI; rw [if_neg (by omega), if_neg (by omega), if_neg (by omega), if_pos (by omega)]
  have hsz : sizeI b0 = 3 := by unfold sizeI; rw [if_neg (by omega), if_neg (by omega), if_neg (by omega), if_pos (by omega)]
  obtain ⟨cap, W, hconv, hB, hcell⟩ := conv_str w s (k + 1) (k + 3) 2 (by omega) hm
  have g1 : W.cell? ⟨w.heap.size, 0, none⟩ = some (.int .u8 c1) := by rw [hcell 0 (by omega), hc1]
  have a1 : bits .and .u8 c1 63 = c1 % 64 := and63_u8 _ lo1 hi1
  have g2 : W.cell? ⟨w.heap.size, 1, none⟩ = some (.int .u8 c2) := by rw [hcell 1 (by omega), hc2]
  have a2 : bits .and .u8 c2 63 = c2 % 64 := and63_u8 _ lo2 hi2
  have o1 : bits .or .i64 ((b0 - 224) * 64) (c1 % 64) = (b0 - 224) * 64 + c1 % 64 := or_64 _ _ (by omega) (by omega) (by omega) (by omega)
  have o2 : bits .or .i64 (((b0 - 224) * 64 + c1 % 64) * 64) (c2 % 64) = ((b0 - 224) * 64 + c1 % 64) * 64 + c2 % 64 := or_64 _ _ (by omega) (by omega) (by omega) (by omega)
  clear hcell hc1 hc2
  go_enter Tryd.func79, Tryd.ntmps79
  go_wp2_with fail
  refine (first_any _ _ (by omega) (by omega)).mono ?_; rintro e w' ⟨rfl, rfl⟩
  rw [hsh, hsz]; clear hsh hsz
  go_wp2_with fail
  refine wp_loop_rounds 3 ?_
  rw [rounds_succ]
  go_wp2_with fail
  refine (follows_any _ _).mono ?_; rintro e w' ⟨rfl, rfl⟩
  rw [f1]
  go_wp2_with fail
  rw [rounds_succ]
  go_wp2_with fail
  refine (follows_any _ _).mono ?_; rintro e w' ⟨rfl, rfl⟩
  rw [f2]
  go_wp2_with fail
  rw [rounds_succ]
  go_wp2_with fail
  refine (right_any _ _).mono ?_; rintro e w' ⟨rfl, rfl⟩
  rw [hr]
  go_wp2_with fail
  go_ret3
  exact ⟨rfl, hB⟩

set_option maxHeartbeats 400000 in
/-- 3 bytes for a sign that has fewer. -/
theorem nx3_w (s : ByteArray) (k : Nat) (w : World) (hs : s.size ≤ 9223372036854775807) (hk : k < s.size) (b0 : Int) (hb0 : (s[k].toNat : Int) = b0) (h0 : 224 ≤ b0) (h1 : b0 < 240) (hm : k + 3 ≤ s.size) (c1 c2 : Int) (hc1 : byt s (k + 1 + 0) = c1) (lo1 : 0 ≤ c1) (hi1 : c1 ≤ 255) (hc2 : byt s (k + 1 + 1) = c2) (lo2 : 0 ≤ c2) (hi2 : c2 ≤ 255) (f1 : followsB c1 = true) (f2 : followsB c2 = true) (hr : rightB (((b0 - 224) * 64 + c1 % 64) * 64 + c2 % 64) = true) (hw : wid (((b0 - 224) * 64 + c1 % 64) * 64 + c2 % 64) ≠ 3) :
    Calls Tryd.prog 79 #[.string s, .int .i64 k] w fun e w' => e = .returned (.tuple #[.int .i64 0, .int .i64 0, .int .i64 1]) ∧ Below w.heap.size w w' := by
  obtain ⟨x, hx⟩ : ∃ x : Nat, wid (((b0 - 224) * 64 + c1 % 64) * 64 + c2 % 64) = x := ⟨_, rfl⟩
  rw [hx] at hw
  have hne : ((x : Int) == 3) = false := by simp; omega
  have hsh : shareI b0 = b0 - 224 := by unfold shareI; rw [if_neg (by omega), if_neg (by omega), if_neg (by omega), if_pos (by omega)]
  have hsz : sizeI b0 = 3 := by unfold sizeI; rw [if_neg (by omega), if_neg (by omega), if_neg (by omega), if_pos (by omega)]
  obtain ⟨cap, W, hconv, hB, hcell⟩ := conv_str w s (k + 1) (k + 3) 2 (by omega) hm
  have g1 : W.cell? ⟨w.heap.size, 0, none⟩ = some (.int .u8 c1) := by rw [hcell 0 (by omega), hc1]
  have a1 : bits .and .u8 c1 63 = c1 % 64 := and63_u8 _ lo1 hi1
  have g2 : W.cell? ⟨w.heap.size, 1, none⟩ = some (.int .u8 c2) := by rw [hcell 1 (by omega), hc2]
  have a2 : bits .and .u8 c2 63 = c2 % 64 := and63_u8 _ lo2 hi2
  have o1 : bits .or .i64 ((b0 - 224) * 64) (c1 % 64) = (b0 - 224) * 64 + c1 % 64 := or_64 _ _ (by omega) (by omega) (by omega) (by omega)
  have o2 : bits .or .i64 (((b0 - 224) * 64 + c1 % 64) * 64) (c2 % 64) = ((b0 - 224) * 64 + c1 % 64) * 64 + c2 % 64 := or_64 _ _ (by omega) (by omega) (by omega) (by omega)
  clear hcell hc1 hc2
  go_enter Tryd.func79, Tryd.ntmps79
  go_wp2_with fail
  refine (first_any _ _ (by omega) (by omega)).mono ?_; rintro e w' ⟨rfl, rfl⟩
  rw [hsh, hsz]; clear hsh hsz
  go_wp2_with fail
  refine wp_loop_rounds 3 ?_
  rw [rounds_succ]
  go_wp2_with fail
  refine (follows_any _ _).mono ?_; rintro e w' ⟨rfl, rfl⟩
  rw [f1]
  go_wp2_with fail
  rw [rounds_succ]
  go_wp2_with fail
  refine (follows_any _ _).mono ?_; rintro e w' ⟨rfl, rfl⟩
  rw [f2]
  go_wp2_with fail
  rw [rounds_succ]
  go_wp2_with fail
  refine (right_any _ _).mono ?_; rintro e w' ⟨rfl, rfl⟩
  rw [hr]
  go_wp2_with fail
  refine (width_any _ _).mono ?_; rintro e w' ⟨rfl, rfl⟩
  rw [hx]; clear hx
  go_wp2_with fail
  go_ret3
  exact ⟨rfl, hB⟩

set_option maxHeartbeats 400000 in
/-- 3 bytes of a sign. -/
theorem nx3_ok (s : ByteArray) (k : Nat) (w : World) (hs : s.size ≤ 9223372036854775807) (hk : k < s.size) (b0 : Int) (hb0 : (s[k].toNat : Int) = b0) (h0 : 224 ≤ b0) (h1 : b0 < 240) (hm : k + 3 ≤ s.size) (c1 c2 : Int) (hc1 : byt s (k + 1 + 0) = c1) (lo1 : 0 ≤ c1) (hi1 : c1 ≤ 255) (hc2 : byt s (k + 1 + 1) = c2) (lo2 : 0 ≤ c2) (hi2 : c2 ≤ 255) (f1 : followsB c1 = true) (f2 : followsB c2 = true) (hr : rightB (((b0 - 224) * 64 + c1 % 64) * 64 + c2 % 64) = true) (hw : wid (((b0 - 224) * 64 + c1 % 64) * 64 + c2 % 64) = 3) :
    Calls Tryd.prog 79 #[.string s, .int .i64 k] w fun e w' => e = .returned (.tuple #[.int .i64 (((b0 - 224) * 64 + c1 % 64) * 64 + c2 % 64), .int .i64 3, .int .i64 0]) ∧ Below w.heap.size w w' := by
  have hsh : shareI b0 = b0 - 224 := by unfold shareI; rw [if_neg (by omega), if_neg (by omega), if_neg (by omega), if_pos (by omega)]
  have hsz : sizeI b0 = 3 := by unfold sizeI; rw [if_neg (by omega), if_neg (by omega), if_neg (by omega), if_pos (by omega)]
  obtain ⟨cap, W, hconv, hB, hcell⟩ := conv_str w s (k + 1) (k + 3) 2 (by omega) hm
  have g1 : W.cell? ⟨w.heap.size, 0, none⟩ = some (.int .u8 c1) := by rw [hcell 0 (by omega), hc1]
  have a1 : bits .and .u8 c1 63 = c1 % 64 := and63_u8 _ lo1 hi1
  have g2 : W.cell? ⟨w.heap.size, 1, none⟩ = some (.int .u8 c2) := by rw [hcell 1 (by omega), hc2]
  have a2 : bits .and .u8 c2 63 = c2 % 64 := and63_u8 _ lo2 hi2
  have o1 : bits .or .i64 ((b0 - 224) * 64) (c1 % 64) = (b0 - 224) * 64 + c1 % 64 := or_64 _ _ (by omega) (by omega) (by omega) (by omega)
  have o2 : bits .or .i64 (((b0 - 224) * 64 + c1 % 64) * 64) (c2 % 64) = ((b0 - 224) * 64 + c1 % 64) * 64 + c2 % 64 := or_64 _ _ (by omega) (by omega) (by omega) (by omega)
  clear hcell hc1 hc2
  go_enter Tryd.func79, Tryd.ntmps79
  go_wp2_with fail
  refine (first_any _ _ (by omega) (by omega)).mono ?_; rintro e w' ⟨rfl, rfl⟩
  rw [hsh, hsz]; clear hsh hsz
  go_wp2_with fail
  refine wp_loop_rounds 3 ?_
  rw [rounds_succ]
  go_wp2_with fail
  refine (follows_any _ _).mono ?_; rintro e w' ⟨rfl, rfl⟩
  rw [f1]
  go_wp2_with fail
  rw [rounds_succ]
  go_wp2_with fail
  refine (follows_any _ _).mono ?_; rintro e w' ⟨rfl, rfl⟩
  rw [f2]
  go_wp2_with fail
  rw [rounds_succ]
  go_wp2_with fail
  refine (right_any _ _).mono ?_; rintro e w' ⟨rfl, rfl⟩
  rw [hr]
  go_wp2_with fail
  refine (width_any _ _).mono ?_; rintro e w' ⟨rfl, rfl⟩
  rw [hw]
  go_wp2_with fail
  go_ret3
  exact ⟨rfl, hB⟩

set_option maxHeartbeats 400000 in
/-- 4 bytes, the 2th does not follow. -/
theorem nx4_f1 (s : ByteArray) (k : Nat) (w : World) (hs : s.size ≤ 9223372036854775807) (hk : k < s.size) (b0 : Int) (hb0 : (s[k].toNat : Int) = b0) (h0 : 240 ≤ b0) (h1 : b0 < 248) (hm : k + 4 ≤ s.size) (c1 c2 c3 : Int) (hc1 : byt s (k + 1 + 0) = c1) (lo1 : 0 ≤ c1) (hi1 : c1 ≤ 255) (hc2 : byt s (k + 1 + 1) = c2) (lo2 : 0 ≤ c2) (hi2 : c2 ≤ 255) (hc3 : byt s (k + 1 + 2) = c3) (lo3 : 0 ≤ c3) (hi3 : c3 ≤ 255)  (f1 : followsB c1 = false) :
    Calls Tryd.prog 79 #[.string s, .int .i64 k] w fun e w' => e = .returned (.tuple #[.int .i64 0, .int .i64 0, .int .i64 1]) ∧ Below w.heap.size w w' := by
  have hsh : shareI b0 = b0 - 240 := by unfold shareI; rw [if_neg (by omega), if_neg (by omega), if_pos (by omega)]
  have hsz : sizeI b0 = 4 := by unfold sizeI; rw [if_neg (by omega), if_neg (by omega), if_pos (by omega)]
  obtain ⟨cap, W, hconv, hB, hcell⟩ := conv_str w s (k + 1) (k + 4) 3 (by omega) hm
  have g1 : W.cell? ⟨w.heap.size, 0, none⟩ = some (.int .u8 c1) := by rw [hcell 0 (by omega), hc1]
  have a1 : bits .and .u8 c1 63 = c1 % 64 := and63_u8 _ lo1 hi1
  have g2 : W.cell? ⟨w.heap.size, 1, none⟩ = some (.int .u8 c2) := by rw [hcell 1 (by omega), hc2]
  have a2 : bits .and .u8 c2 63 = c2 % 64 := and63_u8 _ lo2 hi2
  have g3 : W.cell? ⟨w.heap.size, 2, none⟩ = some (.int .u8 c3) := by rw [hcell 2 (by omega), hc3]
  have a3 : bits .and .u8 c3 63 = c3 % 64 := and63_u8 _ lo3 hi3
  have o1 : bits .or .i64 ((b0 - 240) * 64) (c1 % 64) = (b0 - 240) * 64 + c1 % 64 := or_64 _ _ (by omega) (by omega) (by omega) (by omega)
  have o2 : bits .or .i64 (((b0 - 240) * 64 + c1 % 64) * 64) (c2 % 64) = ((b0 - 240) * 64 + c1 % 64) * 64 + c2 % 64 := or_64 _ _ (by omega) (by omega) (by omega) (by omega)
  have o3 : bits .or .i64 ((((b0 - 240) * 64 + c1 % 64) * 64 + c2 % 64) * 64) (c3 % 64) = (((b0 - 240) * 64 + c1 % 64) * 64 + c2 % 64) * 64 + c3 % 64 := or_64 _ _ (by omega) (by omega) (by omega) (by omega)
  clear hcell hc1 hc2 hc3
  go_enter Tryd.func79, Tryd.ntmps79
  go_wp2_with fail
  refine (first_any _ _ (by omega) (by omega)).mono ?_; rintro e w' ⟨rfl, rfl⟩
  rw [hsh, hsz]; clear hsh hsz
  go_wp2_with fail
  refine wp_loop_rounds 4 ?_
  rw [rounds_succ]
  go_wp2_with fail
  refine (follows_any _ _).mono ?_; rintro e w' ⟨rfl, rfl⟩
  rw [f1]
  go_wp2_with fail
  go_ret3
  exact ⟨rfl, hB⟩

set_option maxHeartbeats 400000 in
/-- 4 bytes, the 3th does not follow. -/
theorem nx4_f2 (s : ByteArray) (k : Nat) (w : World) (hs : s.size ≤ 9223372036854775807) (hk : k < s.size) (b0 : Int) (hb0 : (s[k].toNat : Int) = b0) (h0 : 240 ≤ b0) (h1 : b0 < 248) (hm : k + 4 ≤ s.size) (c1 c2 c3 : Int) (hc1 : byt s (k + 1 + 0) = c1) (lo1 : 0 ≤ c1) (hi1 : c1 ≤ 255) (hc2 : byt s (k + 1 + 1) = c2) (lo2 : 0 ≤ c2) (hi2 : c2 ≤ 255) (hc3 : byt s (k + 1 + 2) = c3) (lo3 : 0 ≤ c3) (hi3 : c3 ≤ 255) (f1 : followsB c1 = true) (f2 : followsB c2 = false) :
    Calls Tryd.prog 79 #[.string s, .int .i64 k] w fun e w' => e = .returned (.tuple #[.int .i64 0, .int .i64 0, .int .i64 1]) ∧ Below w.heap.size w w' := by
  have hsh : shareI b0 = b0 - 240 := by unfold shareI; rw [if_neg (by omega), if_neg (by omega), if_pos (by omega)]
  have hsz : sizeI b0 = 4 := by unfold sizeI; rw [if_neg (by omega), if_neg (by omega), if_pos (by omega)]
  obtain ⟨cap, W, hconv, hB, hcell⟩ := conv_str w s (k + 1) (k + 4) 3 (by omega) hm
  have g1 : W.cell? ⟨w.heap.size, 0, none⟩ = some (.int .u8 c1) := by rw [hcell 0 (by omega), hc1]
  have a1 : bits .and .u8 c1 63 = c1 % 64 := and63_u8 _ lo1 hi1
  have g2 : W.cell? ⟨w.heap.size, 1, none⟩ = some (.int .u8 c2) := by rw [hcell 1 (by omega), hc2]
  have a2 : bits .and .u8 c2 63 = c2 % 64 := and63_u8 _ lo2 hi2
  have g3 : W.cell? ⟨w.heap.size, 2, none⟩ = some (.int .u8 c3) := by rw [hcell 2 (by omega), hc3]
  have a3 : bits .and .u8 c3 63 = c3 % 64 := and63_u8 _ lo3 hi3
  have o1 : bits .or .i64 ((b0 - 240) * 64) (c1 % 64) = (b0 - 240) * 64 + c1 % 64 := or_64 _ _ (by omega) (by omega) (by omega) (by omega)
  have o2 : bits .or .i64 (((b0 - 240) * 64 + c1 % 64) * 64) (c2 % 64) = ((b0 - 240) * 64 + c1 % 64) * 64 + c2 % 64 := or_64 _ _ (by omega) (by omega) (by omega) (by omega)
  have o3 : bits .or .i64 ((((b0 - 240) * 64 + c1 % 64) * 64 + c2 % 64) * 64) (c3 % 64) = (((b0 - 240) * 64 + c1 % 64) * 64 + c2 % 64) * 64 + c3 % 64 := or_64 _ _ (by omega) (by omega) (by omega) (by omega)
  clear hcell hc1 hc2 hc3
  go_enter Tryd.func79, Tryd.ntmps79
  go_wp2_with fail
  refine (first_any _ _ (by omega) (by omega)).mono ?_; rintro e w' ⟨rfl, rfl⟩
  rw [hsh, hsz]; clear hsh hsz
  go_wp2_with fail
  refine wp_loop_rounds 4 ?_
  rw [rounds_succ]
  go_wp2_with fail
  refine (follows_any _ _).mono ?_; rintro e w' ⟨rfl, rfl⟩
  rw [f1]
  go_wp2_with fail
  rw [rounds_succ]
  go_wp2_with fail
  refine (follows_any _ _).mono ?_; rintro e w' ⟨rfl, rfl⟩
  rw [f2]
  go_wp2_with fail
  go_ret3
  exact ⟨rfl, hB⟩

set_option maxHeartbeats 400000 in
/-- 4 bytes, the 4th does not follow. -/
theorem nx4_f3 (s : ByteArray) (k : Nat) (w : World) (hs : s.size ≤ 9223372036854775807) (hk : k < s.size) (b0 : Int) (hb0 : (s[k].toNat : Int) = b0) (h0 : 240 ≤ b0) (h1 : b0 < 248) (hm : k + 4 ≤ s.size) (c1 c2 c3 : Int) (hc1 : byt s (k + 1 + 0) = c1) (lo1 : 0 ≤ c1) (hi1 : c1 ≤ 255) (hc2 : byt s (k + 1 + 1) = c2) (lo2 : 0 ≤ c2) (hi2 : c2 ≤ 255) (hc3 : byt s (k + 1 + 2) = c3) (lo3 : 0 ≤ c3) (hi3 : c3 ≤ 255) (f1 : followsB c1 = true) (f2 : followsB c2 = true) (f3 : followsB c3 = false) :
    Calls Tryd.prog 79 #[.string s, .int .i64 k] w fun e w' => e = .returned (.tuple #[.int .i64 0, .int .i64 0, .int .i64 1]) ∧ Below w.heap.size w w' := by
  have hsh : shareI b0 = b0 - 240 := by unfold shareI; rw [if_neg (by omega), if_neg (by omega), if_pos (by omega)]
  have hsz : sizeI b0 = 4 := by unfold sizeI; rw [if_neg (by omega), if_neg (by omega), if_pos (by omega)]
  obtain ⟨cap, W, hconv, hB, hcell⟩ := conv_str w s (k + 1) (k + 4) 3 (by omega) hm
  have g1 : W.cell? ⟨w.heap.size, 0, none⟩ = some (.int .u8 c1) := by rw [hcell 0 (by omega), hc1]
  have a1 : bits .and .u8 c1 63 = c1 % 64 := and63_u8 _ lo1 hi1
  have g2 : W.cell? ⟨w.heap.size, 1, none⟩ = some (.int .u8 c2) := by rw [hcell 1 (by omega), hc2]
  have a2 : bits .and .u8 c2 63 = c2 % 64 := and63_u8 _ lo2 hi2
  have g3 : W.cell? ⟨w.heap.size, 2, none⟩ = some (.int .u8 c3) := by rw [hcell 2 (by omega), hc3]
  have a3 : bits .and .u8 c3 63 = c3 % 64 := and63_u8 _ lo3 hi3
  have o1 : bits .or .i64 ((b0 - 240) * 64) (c1 % 64) = (b0 - 240) * 64 + c1 % 64 := or_64 _ _ (by omega) (by omega) (by omega) (by omega)
  have o2 : bits .or .i64 (((b0 - 240) * 64 + c1 % 64) * 64) (c2 % 64) = ((b0 - 240) * 64 + c1 % 64) * 64 + c2 % 64 := or_64 _ _ (by omega) (by omega) (by omega) (by omega)
  have o3 : bits .or .i64 ((((b0 - 240) * 64 + c1 % 64) * 64 + c2 % 64) * 64) (c3 % 64) = (((b0 - 240) * 64 + c1 % 64) * 64 + c2 % 64) * 64 + c3 % 64 := or_64 _ _ (by omega) (by omega) (by omega) (by omega)
  clear hcell hc1 hc2 hc3
  go_enter Tryd.func79, Tryd.ntmps79
  go_wp2_with fail
  refine (first_any _ _ (by omega) (by omega)).mono ?_; rintro e w' ⟨rfl, rfl⟩
  rw [hsh, hsz]; clear hsh hsz
  go_wp2_with fail
  refine wp_loop_rounds 4 ?_
  rw [rounds_succ]
  go_wp2_with fail
  refine (follows_any _ _).mono ?_; rintro e w' ⟨rfl, rfl⟩
  rw [f1]
  go_wp2_with fail
  rw [rounds_succ]
  go_wp2_with fail
  refine (follows_any _ _).mono ?_; rintro e w' ⟨rfl, rfl⟩
  rw [f2]
  go_wp2_with fail
  rw [rounds_succ]
  go_wp2_with fail
  refine (follows_any _ _).mono ?_; rintro e w' ⟨rfl, rfl⟩
  rw [f3]
  go_wp2_with fail
  go_ret3
  exact ⟨rfl, hB⟩

set_option maxHeartbeats 400000 in
/-- 4 bytes that say no sign. -/
theorem nx4_r (s : ByteArray) (k : Nat) (w : World) (hs : s.size ≤ 9223372036854775807) (hk : k < s.size) (b0 : Int) (hb0 : (s[k].toNat : Int) = b0) (h0 : 240 ≤ b0) (h1 : b0 < 248) (hm : k + 4 ≤ s.size) (c1 c2 c3 : Int) (hc1 : byt s (k + 1 + 0) = c1) (lo1 : 0 ≤ c1) (hi1 : c1 ≤ 255) (hc2 : byt s (k + 1 + 1) = c2) (lo2 : 0 ≤ c2) (hi2 : c2 ≤ 255) (hc3 : byt s (k + 1 + 2) = c3) (lo3 : 0 ≤ c3) (hi3 : c3 ≤ 255) (f1 : followsB c1 = true) (f2 : followsB c2 = true) (f3 : followsB c3 = true) (hr : rightB ((((b0 - 240) * 64 + c1 % 64) * 64 + c2 % 64) * 64 + c3 % 64) = false) :
    Calls Tryd.prog 79 #[.string s, .int .i64 k] w fun e w' => e = .returned (.tuple #[.int .i64 0, .int .i64 0, .int .i64 1]) ∧ Below w.heap.size w w' := by
  have hsh : shareI b0 = b0 - 240 := by unfold shareI; rw [if_neg (by omega), if_neg (by omega), if_pos (by omega)]
  have hsz : sizeI b0 = 4 := by unfold sizeI; rw [if_neg (by omega), if_neg (by omega), if_pos (by omega)]
  obtain ⟨cap, W, hconv, hB, hcell⟩ := conv_str w s (k + 1) (k + 4) 3 (by omega) hm
  have g1 : W.cell? ⟨w.heap.size, 0, none⟩ = some (.int .u8 c1) := by rw [hcell 0 (by omega), hc1]
  have a1 : bits .and .u8 c1 63 = c1 % 64 := and63_u8 _ lo1 hi1
  have g2 : W.cell? ⟨w.heap.size, 1, none⟩ = some (.int .u8 c2) := by rw [hcell 1 (by omega), hc2]
  have a2 : bits .and .u8 c2 63 = c2 % 64 := and63_u8 _ lo2 hi2
  have g3 : W.cell? ⟨w.heap.size, 2, none⟩ = some (.int .u8 c3) := by rw [hcell 2 (by omega), hc3]
  have a3 : bits .and .u8 c3 63 = c3 % 64 := and63_u8 _ lo3 hi3
  have o1 : bits .or .i64 ((b0 - 240) * 64) (c1 % 64) = (b0 - 240) * 64 + c1 % 64 := or_64 _ _ (by omega) (by omega) (by omega) (by omega)
  have o2 : bits .or .i64 (((b0 - 240) * 64 + c1 % 64) * 64) (c2 % 64) = ((b0 - 240) * 64 + c1 % 64) * 64 + c2 % 64 := or_64 _ _ (by omega) (by omega) (by omega) (by omega)
  have o3 : bits .or .i64 ((((b0 - 240) * 64 + c1 % 64) * 64 + c2 % 64) * 64) (c3 % 64) = (((b0 - 240) * 64 + c1 % 64) * 64 + c2 % 64) * 64 + c3 % 64 := or_64 _ _ (by omega) (by omega) (by omega) (by omega)
  clear hcell hc1 hc2 hc3
  go_enter Tryd.func79, Tryd.ntmps79
  go_wp2_with fail
  refine (first_any _ _ (by omega) (by omega)).mono ?_; rintro e w' ⟨rfl, rfl⟩
  rw [hsh, hsz]; clear hsh hsz
  go_wp2_with fail
  refine wp_loop_rounds 4 ?_
  rw [rounds_succ]
  go_wp2_with fail
  refine (follows_any _ _).mono ?_; rintro e w' ⟨rfl, rfl⟩
  rw [f1]
  go_wp2_with fail
  rw [rounds_succ]
  go_wp2_with fail
  refine (follows_any _ _).mono ?_; rintro e w' ⟨rfl, rfl⟩
  rw [f2]
  go_wp2_with fail
  rw [rounds_succ]
  go_wp2_with fail
  refine (follows_any _ _).mono ?_; rintro e w' ⟨rfl, rfl⟩
  rw [f3]
  go_wp2_with fail
  rw [rounds_succ]
  go_wp2_with fail
  refine (right_any _ _).mono ?_; rintro e w' ⟨rfl, rfl⟩
  rw [hr]
  go_wp2_with fail
  go_ret3
  exact ⟨rfl, hB⟩

set_option maxHeartbeats 400000 in
/-- 4 bytes for a sign that has fewer. -/
theorem nx4_w (s : ByteArray) (k : Nat) (w : World) (hs : s.size ≤ 9223372036854775807) (hk : k < s.size) (b0 : Int) (hb0 : (s[k].toNat : Int) = b0) (h0 : 240 ≤ b0) (h1 : b0 < 248) (hm : k + 4 ≤ s.size) (c1 c2 c3 : Int) (hc1 : byt s (k + 1 + 0) = c1) (lo1 : 0 ≤ c1) (hi1 : c1 ≤ 255) (hc2 : byt s (k + 1 + 1) = c2) (lo2 : 0 ≤ c2) (hi2 : c2 ≤ 255) (hc3 : byt s (k + 1 + 2) = c3) (lo3 : 0 ≤ c3) (hi3 : c3 ≤ 255) (f1 : followsB c1 = true) (f2 : followsB c2 = true) (f3 : followsB c3 = true) (hr : rightB ((((b0 - 240) * 64 + c1 % 64) * 64 + c2 % 64) * 64 + c3 % 64) = true) (hw : wid ((((b0 - 240) * 64 + c1 % 64) * 64 + c2 % 64) * 64 + c3 % 64) ≠ 4) :
    Calls Tryd.prog 79 #[.string s, .int .i64 k] w fun e w' => e = .returned (.tuple #[.int .i64 0, .int .i64 0, .int .i64 1]) ∧ Below w.heap.size w w' := by
  obtain ⟨x, hx⟩ : ∃ x : Nat, wid ((((b0 - 240) * 64 + c1 % 64) * 64 + c2 % 64) * 64 + c3 % 64) = x := ⟨_, rfl⟩
  rw [hx] at hw
  have hne : ((x : Int) == 4) = false := by simp; omega
  have hsh : shareI b0 = b0 - 240 := by unfold shareI; rw [if_neg (by omega), if_neg (by omega), if_pos (by omega)]
  have hsz : sizeI b0 = 4 := by unfold sizeI; rw [if_neg (by omega), if_neg (by omega), if_pos (by omega)]
  obtain ⟨cap, W, hconv, hB, hcell⟩ := conv_str w s (k + 1) (k + 4) 3 (by omega) hm
  have g1 : W.cell? ⟨w.heap.size, 0, none⟩ = some (.int .u8 c1) := by rw [hcell 0 (by omega), hc1]
  have a1 : bits .and .u8 c1 63 = c1 % 64 := and63_u8 _ lo1 hi1
  have g2 : W.cell? ⟨w.heap.size, 1, none⟩ = some (.int .u8 c2) := by rw [hcell 1 (by omega), hc2]
  have a2 : bits .and .u8 c2 63 = c2 % 64 := and63_u8 _ lo2 hi2
  have g3 : W.cell? ⟨w.heap.size, 2, none⟩ = some (.int .u8 c3) := by rw [hcell 2 (by omega), hc3]
  have a3 : bits .and .u8 c3 63 = c3 % 64 := and63_u8 _ lo3 hi3
  have o1 : bits .or .i64 ((b0 - 240) * 64) (c1 % 64) = (b0 - 240) * 64 + c1 % 64 := or_64 _ _ (by omega) (by omega) (by omega) (by omega)
  have o2 : bits .or .i64 (((b0 - 240) * 64 + c1 % 64) * 64) (c2 % 64) = ((b0 - 240) * 64 + c1 % 64) * 64 + c2 % 64 := or_64 _ _ (by omega) (by omega) (by omega) (by omega)
  have o3 : bits .or .i64 ((((b0 - 240) * 64 + c1 % 64) * 64 + c2 % 64) * 64) (c3 % 64) = (((b0 - 240) * 64 + c1 % 64) * 64 + c2 % 64) * 64 + c3 % 64 := or_64 _ _ (by omega) (by omega) (by omega) (by omega)
  clear hcell hc1 hc2 hc3
  go_enter Tryd.func79, Tryd.ntmps79
  go_wp2_with fail
  refine (first_any _ _ (by omega) (by omega)).mono ?_; rintro e w' ⟨rfl, rfl⟩
  rw [hsh, hsz]; clear hsh hsz
  go_wp2_with fail
  refine wp_loop_rounds 4 ?_
  rw [rounds_succ]
  go_wp2_with fail
  refine (follows_any _ _).mono ?_; rintro e w' ⟨rfl, rfl⟩
  rw [f1]
  go_wp2_with fail
  rw [rounds_succ]
  go_wp2_with fail
  refine (follows_any _ _).mono ?_; rintro e w' ⟨rfl, rfl⟩
  rw [f2]
  go_wp2_with fail
  rw [rounds_succ]
  go_wp2_with fail
  refine (follows_any _ _).mono ?_; rintro e w' ⟨rfl, rfl⟩
  rw [f3]
  go_wp2_with fail
  rw [rounds_succ]
  go_wp2_with fail
  refine (right_any _ _).mono ?_; rintro e w' ⟨rfl, rfl⟩
  rw [hr]
  go_wp2_with fail
  refine (width_any _ _).mono ?_; rintro e w' ⟨rfl, rfl⟩
  rw [hx]; clear hx
  go_wp2_with fail
  go_ret3
  exact ⟨rfl, hB⟩

set_option maxHeartbeats 400000 in
/-- 4 bytes of a sign. -/
theorem nx4_ok (s : ByteArray) (k : Nat) (w : World) (hs : s.size ≤ 9223372036854775807) (hk : k < s.size) (b0 : Int) (hb0 : (s[k].toNat : Int) = b0) (h0 : 240 ≤ b0) (h1 : b0 < 248) (hm : k + 4 ≤ s.size) (c1 c2 c3 : Int) (hc1 : byt s (k + 1 + 0) = c1) (lo1 : 0 ≤ c1) (hi1 : c1 ≤ 255) (hc2 : byt s (k + 1 + 1) = c2) (lo2 : 0 ≤ c2) (hi2 : c2 ≤ 255) (hc3 : byt s (k + 1 + 2) = c3) (lo3 : 0 ≤ c3) (hi3 : c3 ≤ 255) (f1 : followsB c1 = true) (f2 : followsB c2 = true) (f3 : followsB c3 = true) (hr : rightB ((((b0 - 240) * 64 + c1 % 64) * 64 + c2 % 64) * 64 + c3 % 64) = true) (hw : wid ((((b0 - 240) * 64 + c1 % 64) * 64 + c2 % 64) * 64 + c3 % 64) = 4) :
    Calls Tryd.prog 79 #[.string s, .int .i64 k] w fun e w' => e = .returned (.tuple #[.int .i64 ((((b0 - 240) * 64 + c1 % 64) * 64 + c2 % 64) * 64 + c3 % 64), .int .i64 4, .int .i64 0]) ∧ Below w.heap.size w w' := by
  have hsh : shareI b0 = b0 - 240 := by unfold shareI; rw [if_neg (by omega), if_neg (by omega), if_pos (by omega)]
  have hsz : sizeI b0 = 4 := by unfold sizeI; rw [if_neg (by omega), if_neg (by omega), if_pos (by omega)]
  obtain ⟨cap, W, hconv, hB, hcell⟩ := conv_str w s (k + 1) (k + 4) 3 (by omega) hm
  have g1 : W.cell? ⟨w.heap.size, 0, none⟩ = some (.int .u8 c1) := by rw [hcell 0 (by omega), hc1]
  have a1 : bits .and .u8 c1 63 = c1 % 64 := and63_u8 _ lo1 hi1
  have g2 : W.cell? ⟨w.heap.size, 1, none⟩ = some (.int .u8 c2) := by rw [hcell 1 (by omega), hc2]
  have a2 : bits .and .u8 c2 63 = c2 % 64 := and63_u8 _ lo2 hi2
  have g3 : W.cell? ⟨w.heap.size, 2, none⟩ = some (.int .u8 c3) := by rw [hcell 2 (by omega), hc3]
  have a3 : bits .and .u8 c3 63 = c3 % 64 := and63_u8 _ lo3 hi3
  have o1 : bits .or .i64 ((b0 - 240) * 64) (c1 % 64) = (b0 - 240) * 64 + c1 % 64 := or_64 _ _ (by omega) (by omega) (by omega) (by omega)
  have o2 : bits .or .i64 (((b0 - 240) * 64 + c1 % 64) * 64) (c2 % 64) = ((b0 - 240) * 64 + c1 % 64) * 64 + c2 % 64 := or_64 _ _ (by omega) (by omega) (by omega) (by omega)
  have o3 : bits .or .i64 ((((b0 - 240) * 64 + c1 % 64) * 64 + c2 % 64) * 64) (c3 % 64) = (((b0 - 240) * 64 + c1 % 64) * 64 + c2 % 64) * 64 + c3 % 64 := or_64 _ _ (by omega) (by omega) (by omega) (by omega)
  clear hcell hc1 hc2 hc3
  go_enter Tryd.func79, Tryd.ntmps79
  go_wp2_with fail
  refine (first_any _ _ (by omega) (by omega)).mono ?_; rintro e w' ⟨rfl, rfl⟩
  rw [hsh, hsz]; clear hsh hsz
  go_wp2_with fail
  refine wp_loop_rounds 4 ?_
  rw [rounds_succ]
  go_wp2_with fail
  refine (follows_any _ _).mono ?_; rintro e w' ⟨rfl, rfl⟩
  rw [f1]
  go_wp2_with fail
  rw [rounds_succ]
  go_wp2_with fail
  refine (follows_any _ _).mono ?_; rintro e w' ⟨rfl, rfl⟩
  rw [f2]
  go_wp2_with fail
  rw [rounds_succ]
  go_wp2_with fail
  refine (follows_any _ _).mono ?_; rintro e w' ⟨rfl, rfl⟩
  rw [f3]
  go_wp2_with fail
  rw [rounds_succ]
  go_wp2_with fail
  refine (right_any _ _).mono ?_; rintro e w' ⟨rfl, rfl⟩
  rw [hr]
  go_wp2_with fail
  refine (width_any _ _).mono ?_; rintro e w' ⟨rfl, rfl⟩
  rw [hw]
  go_wp2_with fail
  go_ret3
  exact ⟨rfl, hB⟩

end Go.Proofs.YtmaomnpanfdjeaaDoor
