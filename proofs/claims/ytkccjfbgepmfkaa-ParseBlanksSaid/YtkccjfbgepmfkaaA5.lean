/- The pieces of token.All: which signs stand in words, blanks, the runs, words and marks with which a text begins. In terms of facts on its bytes; nothing that was there is written. -/
import Derived.Test.YtkccjfbgepmfkaaA4
import Derived.Test.YtkccjfbgepmfkaaA3
namespace Go.Proofs.Ytkccjfbgepmfkaa
open Go.RowKit
set_option linter.unusedVariables false

theorem tWithin_any (n : Int) (w : World) : Calls Try.prog 28 #[.int .i64 n] w fun e w' => e = .returned (.bool (withinB n)) ∧ w = w' := by
  by_cases h1 : n = 95
  · subst h1
    go_enter Try.func28, Try.ntmps28
    go_wp2_with fail
    go_ret
    exact ⟨rfl, rfl⟩
  by_cases h2 : n = 39
  · subst h2
    go_enter Try.func28, Try.ntmps28
    go_wp2_with fail
    go_ret
    exact ⟨rfl, rfl⟩
  have e1 : (n == 95) = false := by simpa using h1
  have e2 : (n == 39) = false := by simpa using h2
  have hb : withinB n = (digitB n || letterB n) := by simp [withinB, h1, h2]
  rw [hb]; clear hb h1 h2
  cases hd : digitB n with
  | true =>
    go_enter Try.func28, Try.ntmps28
    go_wp2_with fail
    refine (digit_any _ _).mono ?_; rintro e w' ⟨rfl, rfl⟩
    rw [hd]
    go_wp2_with fail
    go_ret
    exact ⟨rfl, rfl⟩
  | false =>
    go_enter Try.func28, Try.ntmps28
    go_wp2_with fail
    refine (digit_any _ _).mono ?_; rintro e w' ⟨rfl, rfl⟩
    rw [hd]
    go_wp2_with fail
    refine (letter_any _ _).mono ?_; rintro e w' ⟨rfl, rfl⟩
    go_wp2_with fail
    go_ret
    exact ⟨by simp, rfl⟩

/-- Does a text begin so? -/
def preB (s p : ByteArray) : Bool := Lib.hasPrefix s.data.toList p.data.toList
theorem pre_any (s p : ByteArray) (w : World) : Calls Try.prog 27 #[.string s, .string p] w fun e w' => e = .returned (.bool (preB s p)) ∧ w = w' := prefix_any s p w

/-! ### blanks -/
def GapIs (t : ByteArray) (n : Nat) : Prop := ∀ w, Calls Try.prog 26 #[.string t] w fun e w' => e = .returned (.int .i64 n) ∧ Below w.heap.size w w'

theorem gap_end {s : ByteArray} (h : s.size = 0) : GapIs s 0 := by
  intro w
  have t1 : (s.toList == []) = true := str_nil_true (List.eq_nil_of_length_eq_zero (by rw [bytesL_length]; exact h))
  clear h
  go_enter Try.func26, Try.ntmps26
  go_wp2_with fail
  go_ret
  exact ⟨rfl, Below.refl _ _⟩

theorem gap_blank {s : ByteArray} (h : 0 < s.size) (hb : blankB (byt s 0) = true) : GapIs s 1 := by
  intro w
  have t1 : (s.toList == []) = false := str_nil_false (fun e => by rw [← bytesL_length, e] at h; exact absurd h (by decide))
  have hby := byt_eq s 0 h
  have hlo := byt_lo s 0
  have hhi := byt_hi s 0
  obtain ⟨b, hbb⟩ : ∃ b, byt s 0 = b := ⟨_, rfl⟩
  rw [hbb] at hby hlo hhi hb
  have HB := Lib.hid hb
  clear hbb hb
  go_enter Try.func26, Try.ntmps26
  go_wp2_with fail
  refine (blank_any _ _).mono ?_; rintro e w' ⟨rfl, rfl⟩
  rw [HB.out]
  go_wp2_with fail
  go_ret
  exact ⟨rfl, Below.refl _ _⟩

theorem gap_none {s : ByteArray} (h : 0 < s.size) (hb : blankB (byt s 0) = false) (h1 : preB s ⟨#[45, 45]⟩ = false) (h2 : preB s ⟨#[123, 45]⟩ = false) : GapIs s 0 := by
  intro w
  have t1 : (s.toList == []) = false := str_nil_false (fun e => by rw [← bytesL_length, e] at h; exact absurd h (by decide))
  have hby := byt_eq s 0 h
  have hlo := byt_lo s 0
  have hhi := byt_hi s 0
  obtain ⟨b, hbb⟩ : ∃ b, byt s 0 = b := ⟨_, rfl⟩
  rw [hbb] at hby hlo hhi hb
  have HB := Lib.hid hb
  have H1 := Lib.hid h1
  have H2 := Lib.hid h2
  clear hbb hb h1 h2
  go_enter Try.func26, Try.ntmps26
  go_wp2_with fail
  refine (blank_any _ _).mono ?_; rintro e w' ⟨rfl, rfl⟩
  rw [HB.out]
  go_wp2_with fail
  refine (pre_any _ _ _).mono ?_; rintro e w' ⟨rfl, rfl⟩
  rw [H1.out]
  go_wp2_with fail
  refine (pre_any _ _ _).mono ?_; rintro e w' ⟨rfl, rfl⟩
  rw [H2.out]
  go_wp2_with fail
  go_ret
  exact ⟨rfl, Below.refl _ _⟩

theorem skip_0 (s : ByteArray) (a : Nat) (w : World) (ha : a ≤ s.size) (hs : s.size ≤ 65535) (g0 : GapIs (s.extract a s.size) 0) :
    Calls Try.prog 12 #[.string s, .int .i64 a] w fun e w' => e = .returned (.int .i64 a) ∧ Below w.heap.size w w' := by
  have G0 := Lib.hid g0
  clear g0
  go_enter Try.func12, Try.ntmps12
  go_wp2_with fail
  refine wp_loop_rounds 1 ?_
  rw [rounds_succ]
  go_wp2_with fail
  refine (G0.out _).mono ?_; rintro e w' ⟨rfl, hb⟩
  go_wp2_with fail
  go_ret
  exact ⟨rfl, hb⟩

theorem skip_1 (s : ByteArray) (a : Nat) (w : World) (ha : a + 1 ≤ s.size) (hs : s.size ≤ 65535) (g1 : GapIs (s.extract a s.size) 1) (g0 : GapIs (s.extract (a + 1) s.size) 0) :
    Calls Try.prog 12 #[.string s, .int .i64 a] w fun e w' => e = .returned (.int .i64 ((a + 1 : Nat) : Int)) ∧ Below w.heap.size w w' := by
  have G0 := Lib.hid g0
  have G1 := Lib.hid g1
  obtain ⟨c, hc⟩ : ∃ c, a + 1 = c := ⟨_, rfl⟩
  have e1 : (a : Int) + 1 = (c : Int) := by omega
  have e2 : ((c : Int) == (a : Int)) = false := by simp; omega
  rw [hc] at G0 ha ⊢
  have ha2 : a ≤ s.size := by omega
  clear g0 g1 hc
  go_enter Try.func12, Try.ntmps12
  go_wp2_with fail
  refine wp_loop_rounds 2 ?_
  rw [rounds_succ]
  go_wp2_with fail
  refine (G1.out _).mono ?_; rintro e w1 ⟨rfl, hb1⟩
  go_wp2_with fail
  rw [rounds_succ]
  go_wp2_with fail
  refine (G0.out _).mono ?_; rintro e w2 ⟨rfl, hb2⟩
  go_wp2_with fail
  go_ret
  exact ⟨rfl, hb1.trans (hb2.mono hb1.size)⟩

/-! ### marks -/
def MarkIs (t u : ByteArray) (n : Nat) : Prop := ∀ w, Calls Try.prog 31 #[.string t] w fun e w' => e = .returned (.tuple #[.string u, .int .i64 n]) ∧ Below w.heap.size w w'

theorem mark_40 {s : ByteArray} (h : 0 < s.size) (hs : s.size ≤ 65535) (hd : dec (bytesL s) = some 40) : MarkIs s ⟨#[40]⟩ 1 := by
  intro w
  have HD := Lib.hid hd
  clear hd
  go_enter Try.func31, Try.ntmps31
  go_wp2_with fail
  refine (next_any s 0 _ (by omega) h).mono ?_; rintro e w1 ⟨rfl, hb1⟩
  rw [List.drop_zero, HD.out, nextV_some, wid_1 (by decide)]
  go_wp2_with fail
  go_ret2
  exact ⟨rfl, hb1⟩

theorem mark_41 {s : ByteArray} (h : 0 < s.size) (hs : s.size ≤ 65535) (hd : dec (bytesL s) = some 41) : MarkIs s ⟨#[41]⟩ 1 := by
  intro w
  have HD := Lib.hid hd
  clear hd
  go_enter Try.func31, Try.ntmps31
  go_wp2_with fail
  refine (next_any s 0 _ (by omega) h).mono ?_; rintro e w1 ⟨rfl, hb1⟩
  rw [List.drop_zero, HD.out, nextV_some, wid_1 (by decide)]
  go_wp2_with fail
  go_ret2
  exact ⟨rfl, hb1⟩

theorem mark_123 {s : ByteArray} (h : 0 < s.size) (hs : s.size ≤ 65535) (hd : dec (bytesL s) = some 123) : MarkIs s ⟨#[123]⟩ 1 := by
  intro w
  have HD := Lib.hid hd
  clear hd
  go_enter Try.func31, Try.ntmps31
  go_wp2_with fail
  refine (next_any s 0 _ (by omega) h).mono ?_; rintro e w1 ⟨rfl, hb1⟩
  rw [List.drop_zero, HD.out, nextV_some, wid_1 (by decide)]
  go_wp2_with fail
  go_ret2
  exact ⟨rfl, hb1⟩

theorem mark_125 {s : ByteArray} (h : 0 < s.size) (hs : s.size ≤ 65535) (hd : dec (bytesL s) = some 125) : MarkIs s ⟨#[125]⟩ 1 := by
  intro w
  have HD := Lib.hid hd
  clear hd
  go_enter Try.func31, Try.ntmps31
  go_wp2_with fail
  refine (next_any s 0 _ (by omega) h).mono ?_; rintro e w1 ⟨rfl, hb1⟩
  rw [List.drop_zero, HD.out, nextV_some, wid_1 (by decide)]
  go_wp2_with fail
  go_ret2
  exact ⟨rfl, hb1⟩

theorem mark_58 {s : ByteArray} (h : 0 < s.size) (hs : s.size ≤ 65535) (hd : dec (bytesL s) = some 58) : MarkIs s ⟨#[58]⟩ 1 := by
  intro w
  have HD := Lib.hid hd
  clear hd
  go_enter Try.func31, Try.ntmps31
  go_wp2_with fail
  refine (next_any s 0 _ (by omega) h).mono ?_; rintro e w1 ⟨rfl, hb1⟩
  rw [List.drop_zero, HD.out, nextV_some, wid_1 (by decide)]
  go_wp2_with fail
  go_ret2
  exact ⟨rfl, hb1⟩

theorem mark_61 {s : ByteArray} (h : 0 < s.size) (hs : s.size ≤ 65535) (hd : dec (bytesL s) = some 61) : MarkIs s ⟨#[61]⟩ 1 := by
  intro w
  have HD := Lib.hid hd
  clear hd
  go_enter Try.func31, Try.ntmps31
  go_wp2_with fail
  refine (next_any s 0 _ (by omega) h).mono ?_; rintro e w1 ⟨rfl, hb1⟩
  rw [List.drop_zero, HD.out, nextV_some, wid_1 (by decide)]
  go_wp2_with fail
  go_ret2
  exact ⟨rfl, hb1⟩

theorem mark_46 {s : ByteArray} (h : 0 < s.size) (hs : s.size ≤ 65535) (hd : dec (bytesL s) = some 46) : MarkIs s ⟨#[46]⟩ 1 := by
  intro w
  have HD := Lib.hid hd
  clear hd
  go_enter Try.func31, Try.ntmps31
  go_wp2_with fail
  refine (next_any s 0 _ (by omega) h).mono ?_; rintro e w1 ⟨rfl, hb1⟩
  rw [List.drop_zero, HD.out, nextV_some, wid_1 (by decide)]
  go_wp2_with fail
  go_ret2
  exact ⟨rfl, hb1⟩

theorem mark_44 {s : ByteArray} (h : 0 < s.size) (hs : s.size ≤ 65535) (hd : dec (bytesL s) = some 44) : MarkIs s ⟨#[44]⟩ 1 := by
  intro w
  have HD := Lib.hid hd
  clear hd
  go_enter Try.func31, Try.ntmps31
  go_wp2_with fail
  refine (next_any s 0 _ (by omega) h).mono ?_; rintro e w1 ⟨rfl, hb1⟩
  rw [List.drop_zero, HD.out, nextV_some, wid_1 (by decide)]
  go_wp2_with fail
  go_ret2
  exact ⟨rfl, hb1⟩

theorem mark_59 {s : ByteArray} (h : 0 < s.size) (hs : s.size ≤ 65535) (hd : dec (bytesL s) = some 59) : MarkIs s ⟨#[59]⟩ 1 := by
  intro w
  have HD := Lib.hid hd
  clear hd
  go_enter Try.func31, Try.ntmps31
  go_wp2_with fail
  refine (next_any s 0 _ (by omega) h).mono ?_; rintro e w1 ⟨rfl, hb1⟩
  rw [List.drop_zero, HD.out, nextV_some, wid_1 (by decide)]
  go_wp2_with fail
  go_ret2
  exact ⟨rfl, hb1⟩

theorem mark_124 {s : ByteArray} (h : 0 < s.size) (hs : s.size ≤ 65535) (hd : dec (bytesL s) = some 124) : MarkIs s ⟨#[124]⟩ 1 := by
  intro w
  have HD := Lib.hid hd
  clear hd
  go_enter Try.func31, Try.ntmps31
  go_wp2_with fail
  refine (next_any s 0 _ (by omega) h).mono ?_; rintro e w1 ⟨rfl, hb1⟩
  rw [List.drop_zero, HD.out, nextV_some, wid_1 (by decide)]
  go_wp2_with fail
  go_ret2
  exact ⟨rfl, hb1⟩

theorem mark_92 {s : ByteArray} (h : 0 < s.size) (hs : s.size ≤ 65535) (hd : dec (bytesL s) = some 92) : MarkIs s ⟨#[92]⟩ 1 := by
  intro w
  have HD := Lib.hid hd
  clear hd
  go_enter Try.func31, Try.ntmps31
  go_wp2_with fail
  refine (next_any s 0 _ (by omega) h).mono ?_; rintro e w1 ⟨rfl, hb1⟩
  rw [List.drop_zero, HD.out, nextV_some, wid_1 (by decide)]
  go_wp2_with fail
  go_ret2
  exact ⟨rfl, hb1⟩

theorem mark_955 {s : ByteArray} (h : 0 < s.size) (hs : s.size ≤ 65535) (hd : dec (bytesL s) = some 955) : MarkIs s ⟨#[92]⟩ 2 := by
  intro w
  have HD := Lib.hid hd
  clear hd
  go_enter Try.func31, Try.ntmps31
  go_wp2_with fail
  refine (next_any s 0 _ (by omega) h).mono ?_; rintro e w1 ⟨rfl, hb1⟩
  rw [List.drop_zero, HD.out, nextV_some, show wid 955 = 2 from by decide]
  go_wp2_with fail
  go_ret2
  exact ⟨rfl, hb1⟩

theorem mark_8594 {s : ByteArray} (h : 0 < s.size) (hs : s.size ≤ 65535) (hd : dec (bytesL s) = some 8594) : MarkIs s ⟨#[45, 62]⟩ 3 := by
  intro w
  have HD := Lib.hid hd
  clear hd
  go_enter Try.func31, Try.ntmps31
  go_wp2_with fail
  refine (next_any s 0 _ (by omega) h).mono ?_; rintro e w1 ⟨rfl, hb1⟩
  rw [List.drop_zero, HD.out, nextV_some, show wid 8594 = 3 from by decide]
  go_wp2_with fail
  go_ret2
  exact ⟨rfl, hb1⟩

theorem mark_45 {s : ByteArray} (h : 0 < s.size) (hs : s.size ≤ 65535) (hd : dec (bytesL s) = some 45) (hp : preB s ⟨#[45, 62]⟩ = true) : MarkIs s ⟨#[45, 62]⟩ 2 := by
  intro w
  have HD := Lib.hid hd
  have HP := Lib.hid hp
  clear hd hp
  go_enter Try.func31, Try.ntmps31
  go_wp2_with fail
  refine (next_any s 0 _ (by omega) h).mono ?_; rintro e w1 ⟨rfl, hb1⟩
  rw [List.drop_zero, HD.out, nextV_some, wid_1 (by decide)]
  go_wp2_with fail
  refine (pre_any _ _ _).mono ?_; rintro e w' ⟨rfl, rfl⟩
  rw [HP.out]
  go_wp2_with fail
  go_ret2
  exact ⟨rfl, hb1⟩

/-! ### words -/
def RunIs (t u : ByteArray) : Prop := ∀ w, Calls Try.prog 29 #[.string t] w fun e w' => e = .returned (.string u) ∧ Below w.heap.size w w'

/-- The signs of names and numbers with which a text begins. -/
theorem run_any {s : ByteArray} {ns r : List Int} (hs : s.size ≤ 65535) (hp : Parse (bytesL s) ns r) (j : Nat) (hj : j ≤ ns.length) (hall : ∀ i, i < j → withinB (ns.getD i 0) = true)
    (hstop : j = ns.length ∨ withinB (ns.getD j 0) = false) : RunIs s (s.extract 0 (offs ns j)) := by
  intro w
  have hlen := parse_length hp
  rw [bytesL_length] at hlen
  have hoj := offs_le ns j
  have HP := Lib.hid hp
  have HA := Lib.hid hall
  have HS := Lib.hid hstop
  have HLen := Lib.hid hlen
  have hos : offs ns j ≤ s.size := by omega
  obtain ⟨Q, hQ⟩ : ∃ Q, offs ns j = Q := ⟨_, rfl⟩
  rw [hQ] at hos ⊢
  have HQ := Lib.hid hQ
  clear hp hall hstop hlen hoj hQ
  go_enter Try.func29, Try.ntmps29
  go_wp2_with fail
  go_loopw [3] (fun e wr => ∃ k : Nat, k ≤ j ∧ e = .int .i64 (offs ns k) ∧ Below w.heap.size w wr) (fun e _ => s.size - (intOf e).toNat)
  case atStart => exact ⟨0, Nat.zero_le _, by rw [offs_0]; rfl, Below.refl _ _⟩
  case round =>
    obtain ⟨k, hk, rfl, hB⟩ := hrel
    have hsz := hB.size
    have hcases : (k = ns.length) ∨ (k < ns.length ∧ withinB (ns.getD k 0) = false ∧ k = j) ∨ (k < j ∧ k < ns.length ∧ withinB (ns.getD k 0) = true) := by
      rcases Nat.lt_or_ge k j with h | h
      · exact .inr (.inr ⟨h, by omega, HA.out k h⟩)
      · have e : k = j := by omega
        rcases HS.out with h2 | h2
        · exact .inl (by omega)
        · rcases Nat.lt_or_ge j ns.length with h3 | h3
          · exact .inr (.inl ⟨by omega, by rw [e]; exact h2, e⟩)
          · exact .inl (by omega)
    have HC := Lib.hid hcases
    clear hcases
    rcases HC.out with h | ⟨h1, h2, rfl⟩ | ⟨h0, h1, h2⟩
    · obtain rfl : k = j := by omega
      subst h
      have HE := Lib.hid (dec_end HP.out)
      rw [HQ.out] at HE ⊢
      clear HC HS HA HLen HP hj hk HQ
      by_cases hlt : Q < s.size
      · go_wp2_with fail
        refine (next_any s Q _ (by omega) hlt).mono ?_; rintro e w1 ⟨rfl, hb1⟩
        rw [HE.out, nextV]
        go_wp2_with fail
        go_ret
        exact ⟨rfl, hB.trans (hb1.mono hsz)⟩
      · go_wp2_with fail
        refine (next_out s Q _ (by omega) (.inr (by omega))).mono ?_; rintro e w1 ⟨rfl, hb1⟩
        go_wp2_with fail
        go_ret
        exact ⟨rfl, hB.trans (hb1.mono hsz)⟩
    · have h3 := Lib.hid (dec_at HP.out h1)
      have h4 := offs_lt h1
      have hw := wid_pos (ns.getD k 0)
      have hlt : offs ns k < s.size := by have := HLen.out; omega
      have H2 := Lib.hid h2
      obtain ⟨n, hn⟩ : ∃ n, ns.getD k 0 = n := ⟨_, rfl⟩
      rw [hn] at h3 H2
      rw [HQ.out] at h3 hlt ⊢
      clear HC HS HA HLen HP hj hk HQ hn h2 h4 hw
      go_wp2_with fail
      refine (next_any s Q _ (by omega) hlt).mono ?_; rintro e w1 ⟨rfl, hb1⟩
      rw [h3.out, nextV_some]
      go_wp2_with fail
      refine (tWithin_any n _).mono ?_; rintro e w2 ⟨rfl, rfl⟩
      rw [H2.out]
      go_wp2_with fail
      go_ret
      exact ⟨rfl, hB.trans (hb1.mono hsz)⟩
    · have h3 := Lib.hid (dec_at HP.out h1)
      have h4 := offs_lt h1
      have h5 := Lib.hid (offs_succ ns k h1)
      have hw := wid_pos (ns.getD k 0)
      have hlt : offs ns k < s.size := by have := HLen.out; omega
      have hle : offs ns k + wid (ns.getD k 0) ≤ s.size := by have := HLen.out; omega
      have H2 := Lib.hid h2
      obtain ⟨n, hn⟩ : ∃ n, ns.getD k 0 = n := ⟨_, rfl⟩
      rw [hn] at h3 H2 h5 hw hle
      obtain ⟨q, hq⟩ : ∃ q, offs ns k = q := ⟨_, rfl⟩
      rw [hq] at h3 hlt h5 hle ⊢
      clear HC HS HA HLen HP HQ hk hq hn h2 h4 hos
      go_wp2_with fail
      refine (next_any s q _ (by omega) hlt).mono ?_; rintro e w1 ⟨rfl, hb1⟩
      rw [h3.out, nextV_some]
      go_wp2_with fail
      refine (tWithin_any n _).mono ?_; rintro e w2 ⟨rfl, rfl⟩
      rw [H2.out]
      go_wp2_with fail
      go_roundw
      case rel => exact ⟨k + 1, by omega, by rw [h5.out]; go_num, hB.trans (hb1.mono hsz)⟩
      case measure => simp [intOf]; omega

def WordIs (t : ByteArray) (k : Int) : Prop := ∀ w, Calls Try.prog 30 #[.string t] w fun e w' => e = .returned (.int .i64 k) ∧ Below w.heap.size w w'

theorem word_name {s : ByteArray} {ns : List Int} (h : IsName s ns) (hn : IsNum (bytesL s) 0 false) : WordIs s 1 := by
  intro w
  have hs : s.size ≤ 40 := h.size
  have HK := Lib.hid h.key
  have HN := Lib.hid hn
  have H := Lib.hid h
  have hu : (s.toList == [95]) = false ∨ (s.toList == [95]) = true := by cases (s.toList == [95]) <;> simp
  clear h hn
  rcases hu with hu | hu
  · go_enter Try.func30, Try.ntmps30
    go_wp2_with fail
    refine (number_num s 0 false _ (by omega) HN.out).mono ?_; rintro e w1 ⟨rfl, hb1⟩
    go_wp2_with fail
    refine (keyword_any s _).mono ?_; rintro e w2 ⟨rfl, rfl⟩
    rw [HK.out]
    go_wp2_with fail
    refine (right_yes s ns _ H.out).mono ?_; rintro e w3 ⟨rfl, hb3⟩
    go_wp2_with fail
    go_ret
    exact ⟨rfl, hb1.trans (hb3.mono hb1.size)⟩
  · go_enter Try.func30, Try.ntmps30
    go_wp2_with fail
    refine (number_num s 0 false _ (by omega) HN.out).mono ?_; rintro e w1 ⟨rfl, hb1⟩
    go_wp2_with fail
    refine (keyword_any s _).mono ?_; rintro e w2 ⟨rfl, rfl⟩
    rw [HK.out]
    go_wp2_with fail
    go_ret
    exact ⟨rfl, hb1⟩

end Go.Proofs.Ytkccjfbgepmfkaa

/- token.next: the token that begins at an offset: a word, a mark. In terms of facts on the text there; nothing that was there is written. -/
namespace Go.Proofs.Ytkccjfbgepmfkaa
open Go.RowKit
set_option linter.unusedVariables false

/-- A token, as the program holds it. -/
def tokV (k : Int) (t : ByteArray) (a : Nat) : Value := .agg #[.int .i64 k, .string t, .int .i64 a]

/-- The cell of a result that is a token, behind calls that lay new blocks alone. -/
theorem tok_cells {w w2 : World} (hb : Below (w.heap.size + 1) (w.alloc (.cells #[.int .i64 0, .string ⟨#[]⟩, .int .i64 0] 28)) w2) :
    (w2.cell? ⟨w.heap.size, 0, none⟩ = some (.int .i64 0) ∧ w2.cell? ⟨w.heap.size, 1, none⟩ = some (.string ⟨#[]⟩) ∧ w2.cell? ⟨w.heap.size, 2, none⟩ = some (.int .i64 0)) ∧
    (w2.frozen? ⟨w.heap.size, 0, none⟩ = false ∧ w2.frozen? ⟨w.heap.size, 1, none⟩ = false ∧ w2.frozen? ⟨w.heap.size, 2, none⟩ = false) ∧ w.heap.size < w2.heap.size ∧ Below w.heap.size w w2 := by
  have z : ∀ j, w2.frozen? ⟨w.heap.size, j, none⟩ = false := fun j => (hb.frozen (p := ⟨w.heap.size, j, none⟩) (by simp)).trans (by simp)
  have c : ∀ j, w2.cell? ⟨w.heap.size, j, none⟩ = _ := fun j => hb.cell (p := ⟨w.heap.size, j, none⟩) (by simp)
  refine ⟨⟨(c 0).trans (by simp), (c 1).trans (by simp), (c 2).trans (by simp)⟩, ⟨z 0, z 1, z 2⟩, ?_, ?_⟩
  · have := hb.size; simp at this; omega
  · exact ((Below.refl _ w).alloc (Nat.le_refl _) _).trans (hb.mono (by omega))

theorem next_mark (s t u : ByteArray) (a m : Nat) (n : Int) (w : World) (ha : a < s.size) (hs : s.size ≤ 65535) (ht : s.extract a s.size = t) (hp : preB t ⟨#[123, 45]⟩ = false) (hd : dec (bytesL t) = some n) (hw : withinB n = false)
    (hm : MarkIs t u m) (hm0 : 0 < m) (hm1 : m ≤ 4) : Calls Try.prog 13 #[.string s, .int .i64 a] w fun e w' => e = .returned (.tuple #[tokV 4 u a, .int .i64 m]) ∧ Below w.heap.size w w' := by
  have hz : t.size = s.size - a := by rw [← ht]; simp
  have ht0 : 0 < t.size := by omega
  have ht1 : t.size ≤ 65535 := by omega
  have HT := Lib.hid ht
  have HP := Lib.hid hp
  have HD := Lib.hid hd
  have HW := Lib.hid hw
  have HM := Lib.hid hm
  have tm : ((m : Int) == 0) = false := by simp; omega
  clear ht hp hd hw hm hz
  go_enter Try.func13, Try.ntmps13
  go_wp2_with fail
  rw [HT.out]
  refine (next_any t 0 _ (by omega) ht0).mono ?_; rintro e w1 ⟨rfl, hb1⟩
  rw [List.drop_zero, HD.out, nextV_some]
  go_wp2_with fail
  refine (pre_any _ _ _).mono ?_; rintro e w2 ⟨rfl, rfl⟩
  rw [HP.out]
  go_wp2_with fail
  refine (tWithin_any _ _).mono ?_; rintro e w2 ⟨rfl, rfl⟩
  rw [HW.out]
  go_wp2_with fail
  refine (HM.out _).mono ?_; rintro e w2 ⟨rfl, hb2⟩
  have hb1' : Below (w.heap.size + 1) (w.alloc (.cells #[.int .i64 0, .string ⟨#[]⟩, .int .i64 0] 28)) w1 := by first | exact hb1 | simpa using hb1
  have hb3 := hb1'.trans (hb2.mono (by have := hb1'.size; simpa using this))
  obtain ⟨⟨q0, q1, q2⟩, ⟨z0, z1, z2⟩, hlt, hB⟩ := tok_cells hb3
  clear hb1 hb1' hb2 hb3
  go_wp2_with fail
  exact bodyPost_ret (v := .tuple #[.agg #[.int .i64 4, .string u, .int .i64 a], .int .i64 m]) (by simp [results, Try.results13, go_sem, q0, q1, q2]) rfl
    ⟨rfl, ((hB.setCell (Nat.le_refl _) _).setCell (Nat.le_refl _) _).setCell (Nat.le_refl _) _⟩

theorem next_word (s t u : ByteArray) (a m : Nat) (k n : Int) (w : World) (ha : a < s.size) (hs : s.size ≤ 65535) (ht : s.extract a s.size = t) (hp : preB t ⟨#[123, 45]⟩ = false) (hd : dec (bytesL t) = some n) (hw : withinB n = true)
    (hr : RunIs t u) (hk : WordIs u k) (hm : u.size = m) (hm0 : 0 < m) (hm1 : m ≤ 65535) (hk0 : (k == 0) = false) : Calls Try.prog 13 #[.string s, .int .i64 a] w fun e w' => e = .returned (.tuple #[tokV k u a, .int .i64 m]) ∧ Below w.heap.size w w' := by
  have hz : t.size = s.size - a := by rw [← ht]; simp
  have ht0 : 0 < t.size := by omega
  have ht1 : t.size ≤ 65535 := by omega
  have HT := Lib.hid ht
  have HP := Lib.hid hp
  have HD := Lib.hid hd
  have HW := Lib.hid hw
  have HR := Lib.hid hr
  have HK := Lib.hid hk
  have tm : ((m : Int) == 0) = false := by simp; omega
  clear ht hp hd hw hr hk hz
  go_enter Try.func13, Try.ntmps13
  go_wp2_with fail
  rw [HT.out]
  refine (next_any t 0 _ (by omega) ht0).mono ?_; rintro e w1 ⟨rfl, hb1⟩
  rw [List.drop_zero, HD.out, nextV_some]
  go_wp2_with fail
  refine (pre_any _ _ _).mono ?_; rintro e w2 ⟨rfl, rfl⟩
  rw [HP.out]
  go_wp2_with fail
  refine (tWithin_any _ _).mono ?_; rintro e w2 ⟨rfl, rfl⟩
  rw [HW.out]
  go_wp2_with fail
  refine (HR.out _).mono ?_; rintro e w2 ⟨rfl, hb2⟩
  go_wp2_with fail
  refine (HK.out _).mono ?_; rintro e w3 ⟨rfl, hb3⟩
  have hb1' : Below (w.heap.size + 1) (w.alloc (.cells #[.int .i64 0, .string ⟨#[]⟩, .int .i64 0] 28)) w1 := by first | exact hb1 | simpa using hb1
  have hb4 := hb1'.trans (hb2.mono (by have := hb1'.size; simpa using this))
  have hb5 := hb4.trans (hb3.mono (by have := hb4.size; simpa using this))
  obtain ⟨⟨q0, q1, q2⟩, ⟨z0, z1, z2⟩, hlt, hB⟩ := tok_cells hb5
  clear hb1 hb1' hb2 hb3 hb4 hb5
  go_wp2_with fail
  exact bodyPost_ret (v := .tuple #[.agg #[.int .i64 k, .string u, .int .i64 a], .int .i64 m]) (by simp [results, Try.results13, go_sem, q0, q1, q2]) rfl
    ⟨rfl, ((hB.setCell (Nat.le_refl _) _).setCell (Nat.le_refl _) _).setCell (Nat.le_refl _) _⟩

end Go.Proofs.Ytkccjfbgepmfkaa

/- token.All over a text whose tokens are known one by one: all of them, the end behind, in new memory; nothing that was there is written. -/
namespace Go.Proofs.Ytkccjfbgepmfkaa
open Go.RowKit
set_option linter.unusedVariables false

def NextIs (s : ByteArray) (a : Nat) (k : Int) (u : ByteArray) (m : Nat) : Prop := ∀ w, Calls Try.prog 13 #[.string s, .int .i64 a] w fun e w' => e = .returned (.tuple #[tokV k u a, .int .i64 m]) ∧ Below w.heap.size w w'
def SkipIs (s : ByteArray) (a b : Nat) : Prop := ∀ w, Calls Try.prog 12 #[.string s, .int .i64 a] w fun e w' => e = .returned (.int .i64 b) ∧ Below w.heap.size w w'

/-- The first n tokens, as the cells of a row. -/
def cellsT (kd : Nat → Int) (tx : Nat → ByteArray) (ps : Nat → Nat) : Nat → List Value
  | 0 => []
  | n + 1 => cellsT kd tx ps n ++ [.int .i64 (kd n), .string (tx n), .int .i64 (ps n)]
theorem cellsT_length (kd : Nat → Int) (tx : Nat → ByteArray) (ps : Nat → Nat) : ∀ n, (cellsT kd tx ps n).length = n * 3
  | 0 => rfl
  | n + 1 => by rw [cellsT, List.length_append, cellsT_length kd tx ps n]; simp; omega

theorem infoTok : (Try.prog.info? 28).map (fun i => (i.zero, i.size, i.bytes)) = some (some (.agg #[.int .i64 0, .string ⟨#[]⟩, .int .i64 0]), 3, 32) := by kernel_rfl
theorem own_shapeN {w : World} {base : Nat} {e : TypeId} {size : Nat} {v : Value} {n : Nat} {xs : List Value} (h : w.ownsRow base e size v n xs) : ∃ a cap, v = .slice a n cap := by
  rcases h.2 with ⟨rfl, rfl⟩ | ⟨g, cap, cur, rfl, _⟩
  · exact ⟨_, _, rfl⟩
  · exact ⟨_, _, rfl⟩

theorem cells3_at (w : World) (x y z : Value) (t : TypeId) (g : Nat) (hg : g = w.heap.size) : ∀ j u, [x, y, z][j]? = some u → (w.alloc (.cells #[x, y, z] t)).cell? ((⟨g, 0, none⟩ : Addr).add j) = some u := by
  subst hg
  intro j u hu
  rw [Addr.add_lit, Nat.zero_add, World.cell?_alloc_mark]
  simpa using hu
theorem cells3_one (k a : Int) (t : ByteArray) : ∀ u ∈ [Value.int .i64 k, Value.string t, Value.int .i64 a], u.oneCell' = true := by
  intro u hu
  simp at hu
  rcases hu with rfl | rfl | rfl <;> rfl

set_option maxHeartbeats 800000 in
theorem tokAll_ok (s : ByteArray) (ns : List Int) (N : Nat) (kd : Nat → Int) (tx : Nat → ByteArray) (ps sz : Nat → Nat) (w : World) (hs : s.size ≤ 65535) (hp : Parse (bytesL s) ns [])
    (h0 : SkipIs s 0 (ps 0)) (hend : ps N = s.size) (hlt : ∀ k, k < N → ps k < s.size) (hsz : ∀ k, k < N → 0 < sz k ∧ ps k + sz k ≤ ps (k + 1) ∧ ps (k + 1) ≤ s.size)
    (hn : ∀ k, k < N → NextIs s (ps k) (kd k) (tx k) (sz k)) (hk : ∀ k, k < N → SkipIs s (ps k + sz k) (ps (k + 1))) (hN : N ≤ 8192) :
    Calls Try.prog 6 #[.string s] w fun e w' => ∃ v, e = .returned (.tuple #[v, .int .i64 s.size, .int .i64 0]) ∧
      w'.ownsRow w.heap.size 28 3 v (N + 1) (cellsT kd tx ps N ++ [.int .i64 5, .string ⟨#[]⟩, .int .i64 s.size]) ∧ Below w.heap.size w w' := by
  obtain ⟨i0, hi, hz0, hz1, hz2⟩ := info_parts infoTok
  have HP := Lib.hid hp
  have H0 := Lib.hid h0
  have HE := Lib.hid hend
  have HL := Lib.hid hlt
  have HS := Lib.hid hsz
  have HN := Lib.hid hn
  have HK := Lib.hid hk
  obtain ⟨p0, hp0⟩ : ∃ p, ps 0 = p := ⟨_, rfl⟩
  have HP0 := Lib.hid hp0
  rw [hp0] at H0
  clear hp h0 hend hlt hsz hn hk hp0
  go_enter Try.func6, Try.ntmps6
  go_wp2_with fail
  refine (all_ok s ns _ hs HP.out).mono ?_; rintro e w1 ⟨v1, rfl, -, hb1⟩
  have hsz1 := hb1.size
  go_wp2_with fail
  refine (H0.out _).mono ?_; rintro e w2 ⟨rfl, hb2⟩
  have hb12 := hb1.trans (hb2.mono hsz1)
  go_wp2_with fail
  go_loopw [8, 9] (fun v a wr => ∃ k : Nat, k ≤ N ∧ a = .int .i64 (ps k) ∧ wr.ownsRow w.heap.size 28 3 v k (cellsT kd tx ps k) ∧ Below w.heap.size w wr)
    (fun _ a _ => s.size - (intOf a).toNat)
  case atStart => exact ⟨0, Nat.zero_le _, by rw [HP0.out], World.ownsRow_nil _ _ _ _, hb12⟩
  case round =>
    obtain ⟨k, hk, rfl, hown, hB⟩ := hrel
    have hsize := hB.size
    obtain ⟨a1, c1, rfl⟩ := own_shapeN hown
    by_cases hkn : k < N
    · have h1 := HL.out k hkn
      obtain ⟨h2, h3, h4⟩ := HS.out k hkn
      have HN1 := Lib.hid (HN.out k hkn)
      have HK1 := Lib.hid (HK.out k hkn)
      have hcs : cellsT kd tx ps (k + 1) = cellsT kd tx ps k ++ [.int .i64 (kd k), .string (tx k), .int .i64 (ps k)] := rfl
      have HCS := Lib.hid hcs
      have hd : ((k : Int) == 8192) = false := by simp; omega
      obtain ⟨q, hq⟩ : ∃ q, ps k = q := ⟨_, rfl⟩
      obtain ⟨q2, hq2⟩ : ∃ q2, ps (k + 1) = q2 := ⟨_, rfl⟩
      obtain ⟨m, hm⟩ : ∃ m, sz k = m := ⟨_, rfl⟩
      obtain ⟨u, hu⟩ : ∃ u, tx k = u := ⟨_, rfl⟩
      obtain ⟨d, hdk⟩ : ∃ d, kd k = d := ⟨_, rfl⟩
      have tm : ((m : Int) == 0) = false := by simp; omega
      rw [hq] at h1 h3 HN1 HK1 HCS ⊢
      rw [hq2] at h3 h4 HK1
      rw [hm] at h2 h3 HN1 HK1
      rw [hu, hdk] at HN1 HCS
      have HQ2 := Lib.hid hq2
      have HO := Lib.hid hown
      clear hcs hq hq2 hm hu hdk HL HS HN HK hown
      go_wp2_with fail
      refine (HN1.out _).mono ?_; rintro e w2 ⟨rfl, hb2⟩
      rw [tokV]
      have hown2 := own_below HO.out hb2
      have hB2 := hB.trans (hb2.mono hsize)
      have hsz2 := hB2.size
      clear HO
      go_wp2_with (at_builtin; refine wpList_append_own _ rfl _ _ 23 rfl w.heap.size 28 i0 (.agg #[.int .i64 0, .string ⟨#[]⟩, .int .i64 0]) 3 32 Try.underlying23 hi hz0 hz1 hz2 rfl (by decide) _ _ _ rfl ((hown2.alloc _).alloc _) ⟨w2.heap.size + 1, 0, none⟩ 1 1 [.int .i64 d, .string u, .int .i64 q] rfl rfl ?c1 ?c2 ?c3 ?c4 ?c5 ?_)
      case c1 => exact cells3_at _ _ _ _ _ _ (by simp)
      case c2 => exact cells3_one _ _ _
      case c3 => unfold maxLen; omega
      case c4 => omega
      case c5 => simp; omega
      intro v2 w3 hown3 hg3 _
      have hB3 := below_append ((hB2.alloc hsz2 _).alloc (by simp; omega) _) ((hown2.alloc _).alloc _) hg3 (by simp; omega)
      have hB3' := Lib.hid hB3
      have HO3 := Lib.hid hown3
      clear hg3 hown2 hown3 hB3
      go_wp2_with fail
      refine (HK1.out _).mono ?_; rintro e w4 ⟨rfl, hb4⟩
      go_wp2_with fail
      go_roundw
      case rel => exact ⟨k + 1, by omega, by rw [HQ2.out], by rw [HCS.out]; exact own_below HO3.out hb4, hB3'.out.trans (hb4.mono hB3'.out.size)⟩
      case measure => simp [intOf]; omega
    · obtain rfl : k = N := by omega
      rw [HE.out]
      have hd : decide ((s.size : Int) < (s.size : Int)) = false := decide_eq_false (by omega)
      clear HL HS HN HK
      go_wp2_with (at_builtin; refine wpList_append_own _ rfl _ _ 23 rfl w.heap.size 28 i0 (.agg #[.int .i64 0, .string ⟨#[]⟩, .int .i64 0]) 3 32 Try.underlying23 hi hz0 hz1 hz2 rfl (by decide) _ _ _ rfl (hown.alloc _) ⟨wr.heap.size, 0, none⟩ 1 1 [.int .i64 5, .string ⟨#[]⟩, .int .i64 s.size] rfl rfl ?c1 ?c2 ?c3 ?c4 ?c5 ?_)
      case c1 => exact cells3_at _ _ _ _ _ _ (by simp)
      case c2 => exact cells3_one _ _ _
      case c3 => unfold maxLen; omega
      case c4 => omega
      case c5 => simp; omega
      intro v2 w3 hown3 hg3 _
      have hB3 := below_append (hB.alloc hsize _) (hown.alloc _) hg3 (by simp; omega)
      clear hg3 hown
      go_wp2_with fail
      go_ret3
      exact ⟨_, rfl, hown3, hB3⟩

end Go.Proofs.Ytkccjfbgepmfkaa
