/- A fresh name: name.Fresh and the document's plain Fresh give the first of the names that are tried that is not taken; or ErrForm, or ErrLong. Nothing that was there is written. -/
import Derived.Test.YtiikodihbgaaaaaDoorNumb
import Derived.Test.YtiikodihbgaaaaaDoorRefRight
namespace Go.Proofs.YtiikodihbgaaaaaDoor
open Go.RowKit
set_option linter.unusedVariables false

/-- The texts' bytes. -/
def bytesAll (ss : List ByteArray) : List (List Int) := ss.map bytesL
theorem in_bytes (ss : List ByteArray) (t : ByteArray) : inB ss t = true ↔ bytesL t ∈ bytesAll ss := by
  unfold inB bytesAll
  rw [List.any_eq_true, List.mem_map]
  constructor
  · rintro ⟨x, hx, he⟩
    refine ⟨x, hx, ?_⟩
    by_cases e : x = t
    · rw [e]
    · rw [ne_list e] at he; cases he
  · rintro ⟨x, hx, he⟩
    exact ⟨x, hx, str_eq_true he⟩
theorem in_no {ss : List ByteArray} {t : ByteArray} (h : bytesL t ∉ bytesAll ss) : inB ss t = false := by
  rw [← Bool.not_eq_true, in_bytes]; exact h
theorem place_no {ss : List ByteArray} {t : ByteArray} (h : bytesL t ∉ bytesAll ss) : placeI ss t = -1 := (in_place ss t).1 (in_no h)
theorem place_yes {ss : List ByteArray} {t : ByteArray} (h : bytesL t ∈ bytesAll ss) : 0 ≤ placeI ss t := by
  have h1 : placeI ss t ≠ -1 := fun e => by
    have := (in_place ss t).2 e
    rw [(in_bytes ss t).2 h] at this; cases this
  have := lastF_lo (isAt ss t) ss.length
  unfold placeI at h1 ⊢
  omega

theorem name_first {s : ByteArray} {ns : List Int} (h : IsName s ns) : 0 < ns.length ∧ digitB (ns.getD 0 0) = false := by
  obtain ⟨_, hpos, hok⟩ := name_ok h
  refine ⟨hpos, ?_⟩
  rcases hok 0 hpos with h | h | ⟨h, _⟩
  · exact (letter_not h).2.1
  · rw [h]; decide
  · exact absurd rfl h
theorem downD_pos {ns : List Int} (h0 : digitB (ns.getD 0 0) = false) : ∀ j, 0 < j → 0 < downD ns j
  | 0, h => absurd h (Nat.not_lt_zero 0)
  | j + 1, _ => by
    unfold downD
    split
    · rename_i hd
      by_cases hj : j = 0
      · subst hj; rw [h0] at hd; cases hd
      · exact downD_pos h0 j (by omega)
    · omega
theorem base_pos {s : ByteArray} {ns : List Int} (h : IsName s ns) : 0 < (base ns).length := by
  obtain ⟨hpos, h0⟩ := name_first h
  have := downD_pos h0 ns.length hpos
  unfold base stemJ
  rw [List.length_take]
  omega
theorem base_right {ns : List Int} (h : ∀ n ∈ ns, rightB n = true) : ∀ n ∈ base ns, rightB n = true := fun n hn => h n (List.mem_of_mem_take hn)

theorem numL_length (bs : List Int) (i : Nat) (hi : i < 10000) : (numL bs i).length ≤ 40 := by
  unfold numL cutN
  rw [List.length_append]
  have h1 := fit_room bs (40 - (digs i).length) bs.length
  have h2 := digs_4 hi
  unfold offs at h1
  omega
theorem freshL_length {s : ByteArray} {ns : List Int} (h : IsName s ns) (i : Nat) (hi : i < 10000) : (freshL ns i).length ≤ 40 := by
  cases i with
  | zero =>
    have e : s.size = (encAll ns).length := by rw [size_bytes, h.parse.eq, List.append_nil]
    show (encAll ns).length ≤ 40
    have := h.size
    omega
  | succ i => exact numL_length _ _ hi

theorem trim_base {s : ByteArray} {ns : List Int} (hp : Parse (bytesL s) ns []) : bytesL ⟨(Lib.trimRightS s.data.toList [48, 49, 50, 51, 52, 53, 54, 55, 56, 57]).toArray⟩ = encAll (base ns) := by
  have hb := hp.eq
  rw [List.append_nil] at hb
  have hst := stem_base ns hp.right
  have hlen : s.data.toList.length = (encAll ns).length := by rw [← hb]; unfold bytesL; rw [List.length_map]
  have hat : ∀ (j : Nat) (b : UInt8), s.data.toList[j]? = some b → (encAll ns).getD j 0 = (b.toNat : Int) := fun j b h => by
    rw [← hb]; unfold bytesL; rw [List.getD, List.getElem?_map, h]; rfl
  have ht := Lib.trimRightS_take s.data.toList [48, 49, 50, 51, 52, 53, 54, 55, 56, 57] (offs ns (stemJ ns)) (by rw [hlen]; exact hst.le)
    (fun j b hj hb2 => by
      rw [dig_contains, ← hat j b hb2]
      exact hst.tail j hj (by rw [← hlen]; exact (List.getElem?_eq_some_iff.1 hb2).1))
    (fun b hpos hb2 => by
      rw [dig_contains, ← hat _ b hb2]
      rcases hst.stop with h | h
      · omega
      · exact h)
  rw [ht]
  have e : bytesL ⟨(s.data.toList.take (offs ns (stemJ ns))).toArray⟩ = (bytesL s).take (offs ns (stemJ ns)) := by
    unfold bytesL; rw [List.map_take]
  rw [e, hb, offs_take]
  rfl

theorem trim_str (s : ByteArray) (ns : List Int) (w : World) (hp : Parse (bytesL s) ns []) (hs : s.size ≤ 40) :
    Calls Tryd.prog 35 #[.string s, .string ⟨#[48, 49, 50, 51, 52, 53, 54, 55, 56, 57]⟩] w fun e w' => ∃ t, e = .returned (.string t) ∧ Hid (bytesL t = encAll (base ns)) ∧ Below w.heap.size w w' := by
  refine (trim_any s w (by omega)).mono ?_
  rintro e w' ⟨rfl, hb⟩
  exact ⟨_, rfl, Lib.hid (trim_base hp), hb⟩

theorem base_parse {t : ByteArray} {ns : List Int} (hr : ∀ n ∈ ns, rightB n = true) (h : bytesL t = encAll (base ns)) : Parse (bytesL t) (base ns) [] := by
  rw [h]; exact parse_enc (base_right hr)
theorem base_size {t s : ByteArray} {ns : List Int} (hn : IsName s ns) (h : bytesL t = encAll (base ns)) : t.size ≤ 40 := by
  have e : s.size = (encAll ns).length := by rw [size_bytes, hn.parse.eq, List.append_nil]
  rw [size_bytes, h]
  have := offs_le ns (stemJ ns)
  have := hn.size
  unfold offs at *
  unfold base
  omega

/-- No name. -/
theorem fresh_form (s : ByteArray) (a : Value) (w : World) (hs : s.size ≤ 9223372036854775807) (h : ¬ ∃ ns, IsName s ns) :
    Calls Tryd.prog 25 #[.string s, a] w fun e w' => e = .returned (.tuple #[.string ⟨#[]⟩, .int .i64 1]) ∧ Below w.heap.size w w' := by
  have HH := Lib.hid h
  clear h
  go_enter Tryd.func25, Tryd.ntmps25
  go_wp2_with fail
  refine (right_no s _ hs HH.out).mono ?_; rintro e w1 ⟨rfl, hb1⟩
  go_wp2_with fail
  go_ret2
  exact ⟨rfl, hb1⟩

/-- Too many. -/
theorem fresh_long (s : ByteArray) (ns : List Int) (a : Option Addr) (len cap : Nat) (w : World) (hn : IsName s ns) (hl : 8192 < len) :
    Calls Tryd.prog 25 #[.string s, .slice a len cap] w fun e w' => e = .returned (.tuple #[.string ⟨#[]⟩, .int .i64 2]) ∧ Below w.heap.size w w' := by
  have HH := Lib.hid hn
  have hd : decide ((8192 : Int) < (len : Int)) = true := decide_eq_true (by omega)
  clear hn
  go_enter Tryd.func25, Tryd.ntmps25
  go_wp2_with fail
  refine (right_yes s ns _ HH.out).mono ?_; rintro e w1 ⟨rfl, hb1⟩
  go_wp2_with fail
  go_ret2
  exact ⟨rfl, hb1⟩

set_option maxHeartbeats 400000 in
/-- The first one that is not taken. -/
theorem fresh_ok (s : ByteArray) (ns : List Int) (a : Option Addr) (len cap : Nat) (ss : List ByteArray) (w : World) (hn : IsName s ns) (hl : len ≤ 8192) (h : StrRow w a len ss)
    (m : Nat) (hm : freshL ns m ∉ bytesAll ss) (hlt : ∀ j, j < m → freshL ns j ∈ bytesAll ss) (hm1 : m < 1000) (ht : m < 100 ∨ Tab w) :
    Calls Tryd.prog 25 #[.string s, .slice a len cap] w fun e w' => ∃ t, e = .returned (.tuple #[.string t, .int .i64 0]) ∧ Hid (bytesL t = freshL ns m) ∧ Below w.heap.size w w' := by
  have HN := Lib.hid hn
  have HS := Lib.hid h
  have HM := Lib.hid hm
  have HL := Lib.hid hlt
  have HT := Lib.hid ht
  have hd : decide ((8192 : Int) < (len : Int)) = false := decide_eq_false (by omega)
  have hsz := hn.size
  have H0 : Hid (bytesL s = freshL ns 0) := Lib.hid (by have := hn.parse.eq; rw [List.append_nil] at this; exact this)
  clear hn h hm hlt ht
  go_enter Tryd.func25, Tryd.ntmps25
  go_wp2_with fail
  refine (right_yes s ns _ HN.out).mono ?_; rintro e w1 ⟨rfl, hb1⟩
  have hz1 := hb1.size
  go_wp2_with fail
  refine (set_any a len cap ss _ (HS.out.below hb1) (by omega)).mono ?_; rintro e w2 ⟨rfl, hset, hb2⟩
  have hB2 := hb1.trans (hb2.mono hz1)
  have hz2 := hB2.size
  obtain ⟨B, hBe⟩ : ∃ B, w1.heap.size = B := ⟨_, rfl⟩
  rw [hBe]
  rw [hBe] at hset
  have HSet := Lib.hid hset
  clear hset hBe hb2
  go_wp2_with fail
  refine (trim_str s ns _ HN.out.parse hsz).mono ?_; rintro e w3 ⟨st, rfl, HSt, hb3⟩
  have hB3 := hB2.trans (hb3.mono hz2)
  have hz3 := hB3.size
  have HSet3 := Lib.hid (HSet.out.below hb3)
  have hT3 : Hid (m < 100 ∨ Tab w3) := Lib.hid (HT.out.imp id (fun t => t.below hB3))
  clear HSet hb3 hB2 hz2 hb1 hz1 HT
  go_wp2_with fail
  go_loopw [7, 9] (fun u i wr => ∃ (k : Nat) (t : ByteArray), k ≤ m ∧ i = .int .i64 (k + 1 : Nat) ∧ u = .string t ∧ Hid (bytesL t = freshL ns k) ∧ Below w3.heap.size w3 wr) (fun _ i _ => 2000 - (intOf i).toNat)
  case atStart => exact ⟨0, s, Nat.zero_le _, rfl, rfl, H0, Below.refl _ _⟩
  case round =>
    obtain ⟨k, t, hk, rfl, rfl, HK, hB⟩ := hrel
    have hzr := hB.size
    have htz : t.size ≤ maxLen := by
      rw [size_bytes, HK.out]
      have := freshL_length HN.out k (by omega)
      unfold maxLen; omega
    have HSr := Lib.hid (HSet3.out.below hB)
    have hTr : Hid (m < 100 ∨ Tab _) := Lib.hid (hT3.out.imp id (fun t => t.below hB))
    by_cases hkm : k = m
    · subst hkm
      have hin : inB ss t = false := in_no (by rw [HK.out]; exact HM.out)
      have HIN := Lib.hid hin
      clear hin HL HM
      go_wp2_with fail
      refine (holds_any B len ss t _ HSr.out htz).mono ?_; rintro e w4 ⟨rfl, hb4⟩
      rw [HIN.out]
      go_wp2_with fail
      go_ret2
      exact ⟨_, rfl, HK, hB3.trans ((hB.trans (hb4.mono hzr)).mono hz3)⟩
    · have hin : inB ss t = true := (in_bytes ss t).2 (by rw [HK.out]; exact HL.out k (by omega))
      have HIN := Lib.hid hin
      clear hin
      go_wp2_with fail
      refine (holds_any B len ss t _ HSr.out htz).mono ?_; rintro e w4 ⟨rfl, hb4⟩
      rw [HIN.out]
      have hB4 := hB.trans (hb4.mono hzr)
      have hz4 := hB4.size
      have hT4 : Hid (k + 1 < 100 ∨ Tab w4) := Lib.hid (hTr.out.imp (fun h => by omega) (fun t => t.below hb4))
      clear hb4
      go_wp2_with fail
      refine (numbered_any st (base ns) (k + 1) _ (base_parse HN.out.parse.right HSt.out) (by have := base_size HN.out HSt.out; omega) (by omega) hT4.out).mono ?_; rintro e w5 ⟨t5, rfl, HT5, hb5⟩
      have hB5 := hB4.trans (hb5.mono hz4)
      clear hb5
      go_wp2_with fail
      go_roundw
      case rel => exact ⟨k + 1, t5, by omega, by go_num, rfl, HT5, hB5⟩
      case measure => simp [intOf]; omega

end Go.Proofs.YtiikodihbgaaaaaDoor
