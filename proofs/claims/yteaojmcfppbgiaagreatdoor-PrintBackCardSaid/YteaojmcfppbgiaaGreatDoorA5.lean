/- The pieces of token.All: which signs stand in words, blanks, the runs, words and marks with which a text begins. In terms of facts on its bytes; nothing that was there is written. -/
import Derived.Test.YteaojmcfppbgiaaGreatDoorA4
import Derived.Test.YteaojmcfppbgiaaGreatDoorA3
namespace Go.Proofs.YteaojmcfppbgiaaGreatDoor
open Go.RowKit
set_option linter.unusedVariables false

theorem tWithin_any (n : Int) (w : World) : Calls Tryz.prog 124 #[.int .i64 n] w fun e w' => e = .returned (.bool (withinB n)) ∧ w = w' := by
  by_cases h1 : n = 95
  · subst h1
    go_enter Tryz.func124, Tryz.ntmps124
    go_wp2_with fail
    go_ret
    exact ⟨rfl, rfl⟩
  by_cases h2 : n = 39
  · subst h2
    go_enter Tryz.func124, Tryz.ntmps124
    go_wp2_with fail
    go_ret
    exact ⟨rfl, rfl⟩
  have e1 : (n == 95) = false := by simpa using h1
  have e2 : (n == 39) = false := by simpa using h2
  have hb : withinB n = (digitB n || letterB n) := by simp [withinB, h1, h2]
  rw [hb]; clear hb h1 h2
  cases hd : digitB n with
  | true =>
    go_enter Tryz.func124, Tryz.ntmps124
    go_wp2_with fail
    refine (digit_any _ _).mono ?_; rintro e w' ⟨rfl, rfl⟩
    rw [hd]
    go_wp2_with fail
    go_ret
    exact ⟨rfl, rfl⟩
  | false =>
    go_enter Tryz.func124, Tryz.ntmps124
    go_wp2_with fail
    refine (digit_any _ _).mono ?_; rintro e w' ⟨rfl, rfl⟩
    rw [hd]
    go_wp2_with fail
    refine (letter_any _ _).mono ?_; rintro e w' ⟨rfl, rfl⟩
    go_wp2_with fail
    go_ret
    exact ⟨by simp, rfl⟩

/-- Does a text begin so? -/
def preB (s p : ByteArray) : Bool := Lib.hasPrefix s.data.toList p.data.toList
theorem pre_any (s p : ByteArray) (w : World) : Calls Tryz.prog 123 #[.string s, .string p] w fun e w' => e = .returned (.bool (preB s p)) ∧ w = w' := prefix_any s p w

/-! ### blanks -/
def GapIs (t : ByteArray) (n : Nat) : Prop := ∀ w, Calls Tryz.prog 122 #[.string t] w fun e w' => e = .returned (.int .i64 n) ∧ Below w.heap.size w w'

theorem gap_end {s : ByteArray} (h : s.size = 0) : GapIs s 0 := by
  intro w
  have t1 : (s.toList == []) = true := str_nil_true (List.eq_nil_of_length_eq_zero (by rw [bytesL_length]; exact h))
  clear h
  go_enter Tryz.func122, Tryz.ntmps122
  go_wp2_with fail
  go_ret
  exact ⟨rfl, Below.refl _ _⟩

theorem gap_blank {s : ByteArray} (h : 0 < s.size) (hb : blankB (byt s 0) = true) : GapIs s 1 := by
  intro w
  have t1 : (s.toList == []) = false := str_nil_false (fun e => by rw [← bytesL_length, e] at h; exact absurd h (by decide))
  have hby := byt_eq s 0 h
  have hlo := byt_lo s 0
  have hhi := byt_hi s 0
  obtain ⟨b, hbb⟩ : ∃ b, byt s 0 = b := ⟨_, rfl⟩
  rw [hbb] at hby hlo hhi hb
  have HB := Lib.hid hb
  clear hbb hb
  go_enter Tryz.func122, Tryz.ntmps122
  go_wp2_with fail
  refine (blank_any _ _).mono ?_; rintro e w' ⟨rfl, rfl⟩
  rw [HB.out]
  go_wp2_with fail
  go_ret
  exact ⟨rfl, Below.refl _ _⟩

theorem gap_none {s : ByteArray} (h : 0 < s.size) (hb : blankB (byt s 0) = false) (h1 : preB s ⟨#[45, 45]⟩ = false) (h2 : preB s ⟨#[123, 45]⟩ = false) : GapIs s 0 := by
  intro w
  have t1 : (s.toList == []) = false := str_nil_false (fun e => by rw [← bytesL_length, e] at h; exact absurd h (by decide))
  have hby := byt_eq s 0 h
  have hlo := byt_lo s 0
  have hhi := byt_hi s 0
  obtain ⟨b, hbb⟩ : ∃ b, byt s 0 = b := ⟨_, rfl⟩
  rw [hbb] at hby hlo hhi hb
  have HB := Lib.hid hb
  have H1 := Lib.hid h1
  have H2 := Lib.hid h2
  clear hbb hb h1 h2
  go_enter Tryz.func122, Tryz.ntmps122
  go_wp2_with fail
  refine (blank_any _ _).mono ?_; rintro e w' ⟨rfl, rfl⟩
  rw [HB.out]
  go_wp2_with fail
  refine (pre_any _ _ _).mono ?_; rintro e w' ⟨rfl, rfl⟩
  rw [H1.out]
  go_wp2_with fail
  refine (pre_any _ _ _).mono ?_; rintro e w' ⟨rfl, rfl⟩
  rw [H2.out]
  go_wp2_with fail
  go_ret
  exact ⟨rfl, Below.refl _ _⟩

/-! ### marks -/
def MarkIs (t u : ByteArray) (n : Nat) : Prop := ∀ w, Calls Tryz.prog 127 #[.string t] w fun e w' => e = .returned (.tuple #[.string u, .int .i64 n]) ∧ Below w.heap.size w w'

theorem mark_40 {s : ByteArray} (h : 0 < s.size) (hs : s.size ≤ 65535) (hd : dec (bytesL s) = some 40) : MarkIs s ⟨#[40]⟩ 1 := by
  intro w
  have HD := Lib.hid hd
  clear hd
  go_enter Tryz.func127, Tryz.ntmps127
  go_wp2_with fail
  refine (next_any s 0 _ (by omega) h).mono ?_; rintro e w1 ⟨rfl, hb1⟩
  rw [List.drop_zero, HD.out, nextV_some, wid_1 (by decide)]
  go_wp2_with fail
  go_ret2
  exact ⟨rfl, hb1⟩

theorem mark_41 {s : ByteArray} (h : 0 < s.size) (hs : s.size ≤ 65535) (hd : dec (bytesL s) = some 41) : MarkIs s ⟨#[41]⟩ 1 := by
  intro w
  have HD := Lib.hid hd
  clear hd
  go_enter Tryz.func127, Tryz.ntmps127
  go_wp2_with fail
  refine (next_any s 0 _ (by omega) h).mono ?_; rintro e w1 ⟨rfl, hb1⟩
  rw [List.drop_zero, HD.out, nextV_some, wid_1 (by decide)]
  go_wp2_with fail
  go_ret2
  exact ⟨rfl, hb1⟩

theorem mark_123 {s : ByteArray} (h : 0 < s.size) (hs : s.size ≤ 65535) (hd : dec (bytesL s) = some 123) : MarkIs s ⟨#[123]⟩ 1 := by
  intro w
  have HD := Lib.hid hd
  clear hd
  go_enter Tryz.func127, Tryz.ntmps127
  go_wp2_with fail
  refine (next_any s 0 _ (by omega) h).mono ?_; rintro e w1 ⟨rfl, hb1⟩
  rw [List.drop_zero, HD.out, nextV_some, wid_1 (by decide)]
  go_wp2_with fail
  go_ret2
  exact ⟨rfl, hb1⟩

theorem mark_125 {s : ByteArray} (h : 0 < s.size) (hs : s.size ≤ 65535) (hd : dec (bytesL s) = some 125) : MarkIs s ⟨#[125]⟩ 1 := by
  intro w
  have HD := Lib.hid hd
  clear hd
  go_enter Tryz.func127, Tryz.ntmps127
  go_wp2_with fail
  refine (next_any s 0 _ (by omega) h).mono ?_; rintro e w1 ⟨rfl, hb1⟩
  rw [List.drop_zero, HD.out, nextV_some, wid_1 (by decide)]
  go_wp2_with fail
  go_ret2
  exact ⟨rfl, hb1⟩

theorem mark_58 {s : ByteArray} (h : 0 < s.size) (hs : s.size ≤ 65535) (hd : dec (bytesL s) = some 58) : MarkIs s ⟨#[58]⟩ 1 := by
  intro w
  have HD := Lib.hid hd
  clear hd
  go_enter Tryz.func127, Tryz.ntmps127
  go_wp2_with fail
  refine (next_any s 0 _ (by omega) h).mono ?_; rintro e w1 ⟨rfl, hb1⟩
  rw [List.drop_zero, HD.out, nextV_some, wid_1 (by decide)]
  go_wp2_with fail
  go_ret2
  exact ⟨rfl, hb1⟩

theorem mark_61 {s : ByteArray} (h : 0 < s.size) (hs : s.size ≤ 65535) (hd : dec (bytesL s) = some 61) : MarkIs s ⟨#[61]⟩ 1 := by
  intro w
  have HD := Lib.hid hd
  clear hd
  go_enter Tryz.func127, Tryz.ntmps127
  go_wp2_with fail
  refine (next_any s 0 _ (by omega) h).mono ?_; rintro e w1 ⟨rfl, hb1⟩
  rw [List.drop_zero, HD.out, nextV_some, wid_1 (by decide)]
  go_wp2_with fail
  go_ret2
  exact ⟨rfl, hb1⟩

theorem mark_46 {s : ByteArray} (h : 0 < s.size) (hs : s.size ≤ 65535) (hd : dec (bytesL s) = some 46) : MarkIs s ⟨#[46]⟩ 1 := by
  intro w
  have HD := Lib.hid hd
  clear hd
  go_enter Tryz.func127, Tryz.ntmps127
  go_wp2_with fail
  refine (next_any s 0 _ (by omega) h).mono ?_; rintro e w1 ⟨rfl, hb1⟩
  rw [List.drop_zero, HD.out, nextV_some, wid_1 (by decide)]
  go_wp2_with fail
  go_ret2
  exact ⟨rfl, hb1⟩

theorem mark_44 {s : ByteArray} (h : 0 < s.size) (hs : s.size ≤ 65535) (hd : dec (bytesL s) = some 44) : MarkIs s ⟨#[44]⟩ 1 := by
  intro w
  have HD := Lib.hid hd
  clear hd
  go_enter Tryz.func127, Tryz.ntmps127
  go_wp2_with fail
  refine (next_any s 0 _ (by omega) h).mono ?_; rintro e w1 ⟨rfl, hb1⟩
  rw [List.drop_zero, HD.out, nextV_some, wid_1 (by decide)]
  go_wp2_with fail
  go_ret2
  exact ⟨rfl, hb1⟩

theorem mark_59 {s : ByteArray} (h : 0 < s.size) (hs : s.size ≤ 65535) (hd : dec (bytesL s) = some 59) : MarkIs s ⟨#[59]⟩ 1 := by
  intro w
  have HD := Lib.hid hd
  clear hd
  go_enter Tryz.func127, Tryz.ntmps127
  go_wp2_with fail
  refine (next_any s 0 _ (by omega) h).mono ?_; rintro e w1 ⟨rfl, hb1⟩
  rw [List.drop_zero, HD.out, nextV_some, wid_1 (by decide)]
  go_wp2_with fail
  go_ret2
  exact ⟨rfl, hb1⟩

theorem mark_124 {s : ByteArray} (h : 0 < s.size) (hs : s.size ≤ 65535) (hd : dec (bytesL s) = some 124) : MarkIs s ⟨#[124]⟩ 1 := by
  intro w
  have HD := Lib.hid hd
  clear hd
  go_enter Tryz.func127, Tryz.ntmps127
  go_wp2_with fail
  refine (next_any s 0 _ (by omega) h).mono ?_; rintro e w1 ⟨rfl, hb1⟩
  rw [List.drop_zero, HD.out, nextV_some, wid_1 (by decide)]
  go_wp2_with fail
  go_ret2
  exact ⟨rfl, hb1⟩

theorem mark_92 {s : ByteArray} (h : 0 < s.size) (hs : s.size ≤ 65535) (hd : dec (bytesL s) = some 92) : MarkIs s ⟨#[92]⟩ 1 := by
  intro w
  have HD := Lib.hid hd
  clear hd
  go_enter Tryz.func127, Tryz.ntmps127
  go_wp2_with fail
  refine (next_any s 0 _ (by omega) h).mono ?_; rintro e w1 ⟨rfl, hb1⟩
  rw [List.drop_zero, HD.out, nextV_some, wid_1 (by decide)]
  go_wp2_with fail
  go_ret2
  exact ⟨rfl, hb1⟩

theorem mark_955 {s : ByteArray} (h : 0 < s.size) (hs : s.size ≤ 65535) (hd : dec (bytesL s) = some 955) : MarkIs s ⟨#[92]⟩ 2 := by
  intro w
  have HD := Lib.hid hd
  clear hd
  go_enter Tryz.func127, Tryz.ntmps127
  go_wp2_with fail
  refine (next_any s 0 _ (by omega) h).mono ?_; rintro e w1 ⟨rfl, hb1⟩
  rw [List.drop_zero, HD.out, nextV_some, show wid 955 = 2 from by decide]
  go_wp2_with fail
  go_ret2
  exact ⟨rfl, hb1⟩

theorem mark_8594 {s : ByteArray} (h : 0 < s.size) (hs : s.size ≤ 65535) (hd : dec (bytesL s) = some 8594) : MarkIs s ⟨#[45, 62]⟩ 3 := by
  intro w
  have HD := Lib.hid hd
  clear hd
  go_enter Tryz.func127, Tryz.ntmps127
  go_wp2_with fail
  refine (next_any s 0 _ (by omega) h).mono ?_; rintro e w1 ⟨rfl, hb1⟩
  rw [List.drop_zero, HD.out, nextV_some, show wid 8594 = 3 from by decide]
  go_wp2_with fail
  go_ret2
  exact ⟨rfl, hb1⟩

theorem mark_45 {s : ByteArray} (h : 0 < s.size) (hs : s.size ≤ 65535) (hd : dec (bytesL s) = some 45) (hp : preB s ⟨#[45, 62]⟩ = true) : MarkIs s ⟨#[45, 62]⟩ 2 := by
  intro w
  have HD := Lib.hid hd
  have HP := Lib.hid hp
  clear hd hp
  go_enter Tryz.func127, Tryz.ntmps127
  go_wp2_with fail
  refine (next_any s 0 _ (by omega) h).mono ?_; rintro e w1 ⟨rfl, hb1⟩
  rw [List.drop_zero, HD.out, nextV_some, wid_1 (by decide)]
  go_wp2_with fail
  refine (pre_any _ _ _).mono ?_; rintro e w' ⟨rfl, rfl⟩
  rw [HP.out]
  go_wp2_with fail
  go_ret2
  exact ⟨rfl, hb1⟩

/-! ### words -/
def RunIs (t u : ByteArray) : Prop := ∀ w, Calls Tryz.prog 125 #[.string t] w fun e w' => e = .returned (.string u) ∧ Below w.heap.size w w'

/-- The signs of names and numbers with which a text begins. -/
theorem run_any {s : ByteArray} {ns r : List Int} (hs : s.size ≤ 65535) (hp : Parse (bytesL s) ns r) (j : Nat) (hj : j ≤ ns.length) (hall : ∀ i, i < j → withinB (ns.getD i 0) = true)
    (hstop : j = ns.length ∨ withinB (ns.getD j 0) = false) : RunIs s (s.extract 0 (offs ns j)) := by
  intro w
  have hlen := parse_length hp
  rw [bytesL_length] at hlen
  have hoj := offs_le ns j
  have HP := Lib.hid hp
  have HA := Lib.hid hall
  have HS := Lib.hid hstop
  have HLen := Lib.hid hlen
  have hos : offs ns j ≤ s.size := by omega
  obtain ⟨Q, hQ⟩ : ∃ Q, offs ns j = Q := ⟨_, rfl⟩
  rw [hQ] at hos ⊢
  have HQ := Lib.hid hQ
  clear hp hall hstop hlen hoj hQ
  go_enter Tryz.func125, Tryz.ntmps125
  go_wp2_with fail
  go_loopw [3] (fun e wr => ∃ k : Nat, k ≤ j ∧ e = .int .i64 (offs ns k) ∧ Below w.heap.size w wr) (fun e _ => s.size - (intOf e).toNat)
  case atStart => exact ⟨0, Nat.zero_le _, by rw [offs_0]; rfl, Below.refl _ _⟩
  case round =>
    obtain ⟨k, hk, rfl, hB⟩ := hrel
    have hsz := hB.size
    have hcases : (k = ns.length) ∨ (k < ns.length ∧ withinB (ns.getD k 0) = false ∧ k = j) ∨ (k < j ∧ k < ns.length ∧ withinB (ns.getD k 0) = true) := by
      rcases Nat.lt_or_ge k j with h | h
      · exact .inr (.inr ⟨h, by omega, HA.out k h⟩)
      · have e : k = j := by omega
        rcases HS.out with h2 | h2
        · exact .inl (by omega)
        · rcases Nat.lt_or_ge j ns.length with h3 | h3
          · exact .inr (.inl ⟨by omega, by rw [e]; exact h2, e⟩)
          · exact .inl (by omega)
    have HC := Lib.hid hcases
    clear hcases
    rcases HC.out with h | ⟨h1, h2, rfl⟩ | ⟨h0, h1, h2⟩
    · obtain rfl : k = j := by omega
      subst h
      have HE := Lib.hid (dec_end HP.out)
      rw [HQ.out] at HE ⊢
      clear HC HS HA HLen HP hj hk HQ
      by_cases hlt : Q < s.size
      · go_wp2_with fail
        refine (next_any s Q _ (by omega) hlt).mono ?_; rintro e w1 ⟨rfl, hb1⟩
        rw [HE.out, nextV]
        go_wp2_with fail
        go_ret
        exact ⟨rfl, hB.trans (hb1.mono hsz)⟩
      · go_wp2_with fail
        refine (next_out s Q _ (by omega) (.inr (by omega))).mono ?_; rintro e w1 ⟨rfl, hb1⟩
        go_wp2_with fail
        go_ret
        exact ⟨rfl, hB.trans (hb1.mono hsz)⟩
    · have h3 := Lib.hid (dec_at HP.out h1)
      have h4 := offs_lt h1
      have hw := wid_pos (ns.getD k 0)
      have hlt : offs ns k < s.size := by have := HLen.out; omega
      have H2 := Lib.hid h2
      obtain ⟨n, hn⟩ : ∃ n, ns.getD k 0 = n := ⟨_, rfl⟩
      rw [hn] at h3 H2
      rw [HQ.out] at h3 hlt ⊢
      clear HC HS HA HLen HP hj hk HQ hn h2 h4 hw
      go_wp2_with fail
      refine (next_any s Q _ (by omega) hlt).mono ?_; rintro e w1 ⟨rfl, hb1⟩
      rw [h3.out, nextV_some]
      go_wp2_with fail
      refine (tWithin_any n _).mono ?_; rintro e w2 ⟨rfl, rfl⟩
      rw [H2.out]
      go_wp2_with fail
      go_ret
      exact ⟨rfl, hB.trans (hb1.mono hsz)⟩
    · have h3 := Lib.hid (dec_at HP.out h1)
      have h4 := offs_lt h1
      have h5 := Lib.hid (offs_succ ns k h1)
      have hw := wid_pos (ns.getD k 0)
      have hlt : offs ns k < s.size := by have := HLen.out; omega
      have hle : offs ns k + wid (ns.getD k 0) ≤ s.size := by have := HLen.out; omega
      have H2 := Lib.hid h2
      obtain ⟨n, hn⟩ : ∃ n, ns.getD k 0 = n := ⟨_, rfl⟩
      rw [hn] at h3 H2 h5 hw hle
      obtain ⟨q, hq⟩ : ∃ q, offs ns k = q := ⟨_, rfl⟩
      rw [hq] at h3 hlt h5 hle ⊢
      clear HC HS HA HLen HP HQ hk hq hn h2 h4 hos
      go_wp2_with fail
      refine (next_any s q _ (by omega) hlt).mono ?_; rintro e w1 ⟨rfl, hb1⟩
      rw [h3.out, nextV_some]
      go_wp2_with fail
      refine (tWithin_any n _).mono ?_; rintro e w2 ⟨rfl, rfl⟩
      rw [H2.out]
      go_wp2_with fail
      go_roundw
      case rel => exact ⟨k + 1, by omega, by rw [h5.out]; go_num, hB.trans (hb1.mono hsz)⟩
      case measure => simp [intOf]; omega

def WordIs (t : ByteArray) (k : Int) : Prop := ∀ w, Calls Tryz.prog 126 #[.string t] w fun e w' => e = .returned (.int .i64 k) ∧ Below w.heap.size w w'

theorem word_name {s : ByteArray} {ns : List Int} (h : IsName s ns) (hn : IsNum (bytesL s) 0 false) : WordIs s 1 := by
  intro w
  have hs : s.size ≤ 40 := h.size
  have HK := Lib.hid h.key
  have HN := Lib.hid hn
  have H := Lib.hid h
  have hu : (s.toList == [95]) = false ∨ (s.toList == [95]) = true := by cases (s.toList == [95]) <;> simp
  clear h hn
  rcases hu with hu | hu
  · go_enter Tryz.func126, Tryz.ntmps126
    go_wp2_with fail
    refine (number_num s 0 false _ (by omega) HN.out).mono ?_; rintro e w1 ⟨rfl, hb1⟩
    go_wp2_with fail
    refine (keyword_any s _).mono ?_; rintro e w2 ⟨rfl, rfl⟩
    rw [HK.out]
    go_wp2_with fail
    refine (right_yes s ns _ H.out).mono ?_; rintro e w3 ⟨rfl, hb3⟩
    go_wp2_with fail
    go_ret
    exact ⟨rfl, hb1.trans (hb3.mono hb1.size)⟩
  · go_enter Tryz.func126, Tryz.ntmps126
    go_wp2_with fail
    refine (number_num s 0 false _ (by omega) HN.out).mono ?_; rintro e w1 ⟨rfl, hb1⟩
    go_wp2_with fail
    refine (keyword_any s _).mono ?_; rintro e w2 ⟨rfl, rfl⟩
    rw [HK.out]
    go_wp2_with fail
    go_ret
    exact ⟨rfl, hb1⟩

end Go.Proofs.YteaojmcfppbgiaaGreatDoor

/- token.next: the token that begins at an offset: a word, a mark. In terms of facts on the text there; nothing that was there is written. -/
namespace Go.Proofs.YteaojmcfppbgiaaGreatDoor
open Go.RowKit
set_option linter.unusedVariables false

/-- A token, as the program holds it. -/
def tokV (k : Int) (t : ByteArray) (a : Nat) : Value := .agg #[.int .i64 k, .string t, .int .i64 a]

/-- The cell of a result that is a token, behind calls that lay new blocks alone. -/
theorem tok_cells {w w2 : World} (hb : Below (w.heap.size + 1) (w.alloc (.cells #[.int .i64 0, .string ⟨#[]⟩, .int .i64 0] 143)) w2) :
    (w2.cell? ⟨w.heap.size, 0, none⟩ = some (.int .i64 0) ∧ w2.cell? ⟨w.heap.size, 1, none⟩ = some (.string ⟨#[]⟩) ∧ w2.cell? ⟨w.heap.size, 2, none⟩ = some (.int .i64 0)) ∧
    (w2.frozen? ⟨w.heap.size, 0, none⟩ = false ∧ w2.frozen? ⟨w.heap.size, 1, none⟩ = false ∧ w2.frozen? ⟨w.heap.size, 2, none⟩ = false) ∧ w.heap.size < w2.heap.size ∧ Below w.heap.size w w2 := by
  have z : ∀ j, w2.frozen? ⟨w.heap.size, j, none⟩ = false := fun j => (hb.frozen (p := ⟨w.heap.size, j, none⟩) (by simp)).trans (by simp)
  have c : ∀ j, w2.cell? ⟨w.heap.size, j, none⟩ = _ := fun j => hb.cell (p := ⟨w.heap.size, j, none⟩) (by simp)
  refine ⟨⟨(c 0).trans (by simp), (c 1).trans (by simp), (c 2).trans (by simp)⟩, ⟨z 0, z 1, z 2⟩, ?_, ?_⟩
  · have := hb.size; simp at this; omega
  · exact ((Below.refl _ w).alloc (Nat.le_refl _) _).trans (hb.mono (by omega))

theorem next_mark (s t u : ByteArray) (a m : Nat) (n : Int) (w : World) (ha : a < s.size) (hs : s.size ≤ 65535) (ht : s.extract a s.size = t) (hp : preB t ⟨#[123, 45]⟩ = false) (hd : dec (bytesL t) = some n) (hw : withinB n = false)
    (hm : MarkIs t u m) (hm0 : 0 < m) (hm1 : m ≤ 4) : Calls Tryz.prog 85 #[.string s, .int .i64 a] w fun e w' => e = .returned (.tuple #[tokV 4 u a, .int .i64 m]) ∧ Below w.heap.size w w' := by
  have hz : t.size = s.size - a := by rw [← ht]; simp
  have ht0 : 0 < t.size := by omega
  have ht1 : t.size ≤ 65535 := by omega
  have HT := Lib.hid ht
  have HP := Lib.hid hp
  have HD := Lib.hid hd
  have HW := Lib.hid hw
  have HM := Lib.hid hm
  have tm : ((m : Int) == 0) = false := by simp; omega
  clear ht hp hd hw hm hz
  go_enter Tryz.func85, Tryz.ntmps85
  go_wp2_with fail
  rw [HT.out]
  refine (next_any t 0 _ (by omega) ht0).mono ?_; rintro e w1 ⟨rfl, hb1⟩
  rw [List.drop_zero, HD.out, nextV_some]
  go_wp2_with fail
  refine (pre_any _ _ _).mono ?_; rintro e w2 ⟨rfl, rfl⟩
  rw [HP.out]
  go_wp2_with fail
  refine (tWithin_any _ _).mono ?_; rintro e w2 ⟨rfl, rfl⟩
  rw [HW.out]
  go_wp2_with fail
  refine (HM.out _).mono ?_; rintro e w2 ⟨rfl, hb2⟩
  have hb1' : Below (w.heap.size + 1) (w.alloc (.cells #[.int .i64 0, .string ⟨#[]⟩, .int .i64 0] 143)) w1 := by first | exact hb1 | simpa using hb1
  have hb3 := hb1'.trans (hb2.mono (by have := hb1'.size; simpa using this))
  obtain ⟨⟨q0, q1, q2⟩, ⟨z0, z1, z2⟩, hlt, hB⟩ := tok_cells hb3
  clear hb1 hb1' hb2 hb3
  go_wp2_with fail
  exact bodyPost_ret (v := .tuple #[.agg #[.int .i64 4, .string u, .int .i64 a], .int .i64 m]) (by simp [results, Tryz.results85, go_sem, q0, q1, q2]) rfl
    ⟨rfl, ((hB.setCell (Nat.le_refl _) _).setCell (Nat.le_refl _) _).setCell (Nat.le_refl _) _⟩

theorem next_word (s t u : ByteArray) (a m : Nat) (k n : Int) (w : World) (ha : a < s.size) (hs : s.size ≤ 65535) (ht : s.extract a s.size = t) (hp : preB t ⟨#[123, 45]⟩ = false) (hd : dec (bytesL t) = some n) (hw : withinB n = true)
    (hr : RunIs t u) (hk : WordIs u k) (hm : u.size = m) (hm0 : 0 < m) (hm1 : m ≤ 65535) (hk0 : (k == 0) = false) : Calls Tryz.prog 85 #[.string s, .int .i64 a] w fun e w' => e = .returned (.tuple #[tokV k u a, .int .i64 m]) ∧ Below w.heap.size w w' := by
  have hz : t.size = s.size - a := by rw [← ht]; simp
  have ht0 : 0 < t.size := by omega
  have ht1 : t.size ≤ 65535 := by omega
  have HT := Lib.hid ht
  have HP := Lib.hid hp
  have HD := Lib.hid hd
  have HW := Lib.hid hw
  have HR := Lib.hid hr
  have HK := Lib.hid hk
  have tm : ((m : Int) == 0) = false := by simp; omega
  clear ht hp hd hw hr hk hz
  go_enter Tryz.func85, Tryz.ntmps85
  go_wp2_with fail
  rw [HT.out]
  refine (next_any t 0 _ (by omega) ht0).mono ?_; rintro e w1 ⟨rfl, hb1⟩
  rw [List.drop_zero, HD.out, nextV_some]
  go_wp2_with fail
  refine (pre_any _ _ _).mono ?_; rintro e w2 ⟨rfl, rfl⟩
  rw [HP.out]
  go_wp2_with fail
  refine (tWithin_any _ _).mono ?_; rintro e w2 ⟨rfl, rfl⟩
  rw [HW.out]
  go_wp2_with fail
  refine (HR.out _).mono ?_; rintro e w2 ⟨rfl, hb2⟩
  go_wp2_with fail
  refine (HK.out _).mono ?_; rintro e w3 ⟨rfl, hb3⟩
  have hb1' : Below (w.heap.size + 1) (w.alloc (.cells #[.int .i64 0, .string ⟨#[]⟩, .int .i64 0] 143)) w1 := by first | exact hb1 | simpa using hb1
  have hb4 := hb1'.trans (hb2.mono (by have := hb1'.size; simpa using this))
  have hb5 := hb4.trans (hb3.mono (by have := hb4.size; simpa using this))
  obtain ⟨⟨q0, q1, q2⟩, ⟨z0, z1, z2⟩, hlt, hB⟩ := tok_cells hb5
  clear hb1 hb1' hb2 hb3 hb4 hb5
  go_wp2_with fail
  exact bodyPost_ret (v := .tuple #[.agg #[.int .i64 k, .string u, .int .i64 a], .int .i64 m]) (by simp [results, Tryz.results85, go_sem, q0, q1, q2]) rfl
    ⟨rfl, ((hB.setCell (Nat.le_refl _) _).setCell (Nat.le_refl _) _).setCell (Nat.le_refl _) _⟩

end Go.Proofs.YteaojmcfppbgiaaGreatDoor

/- token.All over a text whose tokens are known one by one: all of them, the end behind, in new memory; nothing that was there is written. -/
namespace Go.Proofs.YteaojmcfppbgiaaGreatDoor
open Go.RowKit
set_option linter.unusedVariables false

def NextIs (s : ByteArray) (a : Nat) (k : Int) (u : ByteArray) (m : Nat) : Prop := ∀ w, Calls Tryz.prog 85 #[.string s, .int .i64 a] w fun e w' => e = .returned (.tuple #[tokV k u a, .int .i64 m]) ∧ Below w.heap.size w w'
def SkipIs (s : ByteArray) (a b : Nat) : Prop := ∀ w, Calls Tryz.prog 84 #[.string s, .int .i64 a] w fun e w' => e = .returned (.int .i64 b) ∧ Below w.heap.size w w'

theorem infoTok : (Tryz.prog.info? 143).map (fun i => (i.zero, i.size, i.bytes)) = some (some (.agg #[.int .i64 0, .string ⟨#[]⟩, .int .i64 0]), 3, 32) := by kernel_rfl
theorem own_shapeN {w : World} {base : Nat} {e : TypeId} {size : Nat} {v : Value} {n : Nat} {xs : List Value} (h : w.ownsRow base e size v n xs) : ∃ a cap, v = .slice a n cap := by
  rcases h.2 with ⟨rfl, rfl⟩ | ⟨g, cap, cur, rfl, _⟩
  · exact ⟨_, _, rfl⟩
  · exact ⟨_, _, rfl⟩

theorem cells3_at (w : World) (x y z : Value) (t : TypeId) (g : Nat) (hg : g = w.heap.size) : ∀ j u, [x, y, z][j]? = some u → (w.alloc (.cells #[x, y, z] t)).cell? ((⟨g, 0, none⟩ : Addr).add j) = some u := by
  subst hg
  intro j u hu
  rw [Addr.add_lit, Nat.zero_add, World.cell?_alloc_mark]
  simpa using hu
theorem cells3_one (k a : Int) (t : ByteArray) : ∀ u ∈ [Value.int .i64 k, Value.string t, Value.int .i64 a], u.oneCell' = true := by
  intro u hu
  simp at hu
  rcases hu with rfl | rfl | rfl <;> rfl

end Go.Proofs.YteaojmcfppbgiaaGreatDoor
