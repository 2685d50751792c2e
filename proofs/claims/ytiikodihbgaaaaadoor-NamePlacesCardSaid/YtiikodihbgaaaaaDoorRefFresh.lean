/- A fresh name by the document's plain Fresh: the same one as name.Fresh gives, beside at most 300 names; or ErrForm. Nothing that was there is written. -/
import Derived.Test.YtiikodihbgaaaaaDoorFresh
namespace Go.Proofs.YtiikodihbgaaaaaDoor
open Go.RowKit
set_option linter.unusedVariables false

/-- No name. -/
theorem refFresh_form (s : ByteArray) (a : Value) (w : World) (hs : s.size ≤ 9223372036854775807) (h : ¬ ∃ ns, IsName s ns) :
    Calls Tryd.prog 26 #[.string s, a] w fun e w' => e = .returned (.tuple #[.string ⟨#[]⟩, .int .i64 1]) ∧ Below w.heap.size w w' := by
  have HH := Lib.hid h
  clear h
  go_enter Tryd.func26, Tryd.ntmps26
  go_wp2_with fail
  refine (refRight_no s _ hs HH.out).mono ?_; rintro e w1 ⟨rfl, hb1⟩
  go_wp2_with fail
  go_ret2
  exact ⟨rfl, hb1⟩

/-- The name itself. -/
theorem refFresh_self (s : ByteArray) (ns : List Int) (a : Option Addr) (len cap : Nat) (ss : List ByteArray) (w : World) (hn : IsName s ns) (hl : len ≤ 300) (h : StrRow w a len ss) (h0 : freshL ns 0 ∉ bytesAll ss) :
    Calls Tryd.prog 26 #[.string s, .slice a len cap] w fun e w' => e = .returned (.tuple #[.string s, .int .i64 0]) ∧ Below w.heap.size w w' := by
  have HN := Lib.hid hn
  have HS := Lib.hid h
  have hp : placeI ss s = -1 := place_no (by have := hn.parse.eq; rw [List.append_nil] at this; rw [this]; exact h0)
  have HP := Lib.hid hp
  have hd : decide ((8192 : Int) < (len : Int)) = false := decide_eq_false (by omega)
  clear hn h h0 hp
  go_enter Tryd.func26, Tryd.ntmps26
  go_wp2_with fail
  refine (refRight_yes s ns _ HN.out).mono ?_; rintro e w1 ⟨rfl, hb1⟩
  go_wp2_with fail
  refine (refPlace_any a len cap ss s _ (HS.out.below hb1)).mono ?_; rintro e w2 ⟨rfl, rfl⟩
  rw [HP.out]
  go_wp2_with fail
  go_ret2
  exact ⟨rfl, hb1⟩

def strSize : Value → Nat
  | .string b => b.size
  | _ => 0

set_option maxHeartbeats 400000 in
/-- The first one that is not taken. -/
theorem refFresh_ok (s : ByteArray) (ns : List Int) (a : Option Addr) (len cap : Nat) (ss : List ByteArray) (w : World) (hn : IsName s ns) (hl : len ≤ 300) (h : StrRow w a len ss)
    (m : Nat) (hm : freshL ns m ∉ bytesAll ss) (hlt : ∀ j, j < m → freshL ns j ∈ bytesAll ss) (hm0 : 0 < m) (hm1 : m < 1000) (hm2 : m ≤ 20 * len + 39) :
    Calls Tryd.prog 26 #[.string s, .slice a len cap] w fun e w' => ∃ t, e = .returned (.tuple #[.string t, .int .i64 0]) ∧ Hid (bytesL t = freshL ns m) ∧ Below w.heap.size w w' := by
  have HN := Lib.hid hn
  have HS := Lib.hid h
  have HM := Lib.hid hm
  have HL := Lib.hid hlt
  have hd : decide ((8192 : Int) < (len : Int)) = false := decide_eq_false (by omega)
  have hsz := hn.size
  have hb0 : bytesL s = encAll ns := by have := hn.parse.eq; rw [List.append_nil] at this; exact this
  have hpl := place_yes (ss := ss) (t := s) (by rw [hb0]; exact hlt 0 hm0)
  obtain ⟨P, hP⟩ : ∃ P, placeI ss s = P := ⟨_, rfl⟩
  rw [hP] at hpl
  have HP := Lib.hid hP
  have HB0 := Lib.hid hb0
  clear hn h hm hlt hb0 hP
  go_enter Tryd.func26, Tryd.ntmps26
  go_wp2_with fail
  refine (refRight_yes s ns _ HN.out).mono ?_; rintro e w1 ⟨rfl, hb1⟩
  have hz1 := hb1.size
  have HS1 := Lib.hid (HS.out.below hb1)
  go_wp2_with fail
  refine (refPlace_any a len cap ss s _ HS1.out).mono ?_; rintro e w2 ⟨rfl, rfl⟩
  rw [HP.out]
  go_wp2_with fail
  go_loop [6] (fun u => ∃ (k : Nat) (b : ByteArray), u = .string b ∧ k ≤ s.size ∧ Hid (b.size = k) ∧ Hid (bytesL b = (bytesL s).take k) ∧ Hid (∀ j, k ≤ j → j < (bytesL s).length → digitB ((bytesL s).getD j 0) = true)) (fun u => strSize u)
  case atStart =>
    refine ⟨s.size, s, rfl, Nat.le_refl _, Lib.hid rfl, Lib.hid ?_, Lib.hid (fun j h1 h2 => ?_)⟩
    · rw [List.take_of_length_le (by rw [bytesL_length]; exact Nat.le_refl _)]
    · rw [bytesL_length] at h2; omega
  case round =>
    obtain ⟨k, b, rfl, hk, HKz, HKb, HKd⟩ := hrel
    have hstem := stem_base ns HN.out.parse.right
    have hbs : (bytesL s).length = s.size := bytesL_length s
    have hk0 : k ≠ 0 := fun e => by
      subst e
      have hbp := base_pos HN.out
      have hsp : 0 < offs ns (stemJ ns) := by
        have hj : 0 < stemJ ns := by unfold base at hbp; rw [List.length_take] at hbp; omega
        have := offs_mono hj (stemJ_le ns)
        omega
      rcases hstem.stop with h | h
      · omega
      · have := HKd.out (offs ns (stemJ ns) - 1) (Nat.zero_le _) (by rw [HB0.out]; have := hstem.le; omega)
        rw [HB0.out, h] at this; cases this
    obtain ⟨q, rfl⟩ : ∃ q, k = q + 1 := ⟨k - 1, by omega⟩
    have hbz := HKz.out
    have hbyte : byt b q = (bytesL s).getD q 0 := by
      unfold byt
      rw [HKb.out]
      simp [List.getD]
    have hqb : q < b.size := by omega
    have hby := byt_eq b q hqb
    have hlo := byt_lo b q
    have hhi := byt_hi b q
    obtain ⟨x, hx⟩ : ∃ x, byt b q = x := ⟨_, rfl⟩
    rw [hx] at hby hbyte hlo hhi
    have HX : Hid ((bytesL s).getD q 0 = x) := Lib.hid hbyte.symm
    have HST : digitB x = false → Hid (bytesL b = encAll (base ns)) := fun hf => Lib.hid (by
      have hs2 : IsStem (bytesL s) (q + 1) := ⟨by omega, HKd.out, .inr (by rw [Nat.add_sub_cancel, HX.out]; exact hf)⟩
      rw [HB0.out] at hs2
      have e := stem_unique hs2 hstem
      rw [HKb.out, HB0.out, e, offs_take]
      rfl)
    have HSTT := Lib.hid HST
    clear hx hbyte hstem hbs hk0 HST
    cases hdx : digitB x with
    | true =>
      have HD2 : Hid (∀ j, q ≤ j → j < (bytesL s).length → digitB ((bytesL s).getD j 0) = true) := Lib.hid (fun j h1 h2 => by
        by_cases hj : j = q
        · subst hj; rw [HX.out]; exact hdx
        · exact HKd.out j (by omega) h2)
      have HB2 : Hid (bytesL (b.extract 0 q) = (bytesL s).take q) := Lib.hid (by
        rw [bytesL_extract, HKb.out, List.drop_zero, Nat.sub_zero, List.take_take]
        congr 1; omega)
      have HZ2 : Hid ((b.extract 0 q).size = q) := Lib.hid (by rw [size_bytes, HB2.out, List.length_take, bytesL_length]; omega)
      clear HSTT HX HKd HKb HKz
      go_wp2_with fail
      refine (refDigit_any _ _).mono ?_; rintro e w2 ⟨rfl, rfl⟩
      rw [hdx]
      go_wp2_with fail
      go_round
      case rel => exact ⟨q, _, rfl, by omega, HZ2, HB2, HD2⟩
      case measure => show (b.extract 0 q).size < b.size; rw [HZ2.out]; exact hqb
    | false =>
      have HBase := HSTT.out hdx
      have hbz40 := base_size HN.out HBase.out
      have hbp := base_pos HN.out
      clear HSTT HX HKd HKb HKz
      go_wp2_with fail
      refine (refDigit_any _ _).mono ?_; rintro e w2 ⟨rfl, rfl⟩
      rw [hdx]
      clear hby
      go_wp2_with fail
      go_loopw [7] (fun i wr => ∃ k : Nat, k < m ∧ i = .int .i64 (k + 1 : Nat) ∧ Below w1.heap.size w1 wr) (fun i _ => 2000 - (intOf i).toNat)
      case atStart => exact ⟨0, hm0, rfl, Below.refl _ _⟩
      case round =>
        clear hbz
        obtain ⟨k, hk, rfl, hB⟩ := hrel
        have hzr := hB.size
        by_cases hkm : k + 1 = m
        · subst hkm
          go_wp2_with fail
          refine (refNumbered_any b (base ns) (k + 1) _ (base_parse HN.out.parse.right HBase.out) (by omega) hbp (by omega)).mono ?_; rintro e w4 ⟨t, rfl, HT, hb4⟩
          have hB4 := hB.trans (hb4.mono hzr)
          have hz4 := hB4.size
          have hpl2 : placeI ss t = -1 := place_no (by rw [HT.out]; exact HM.out)
          have HPL := Lib.hid hpl2
          clear hpl2
          go_wp2_with fail
          refine (refPlace_any a len cap ss t _ (HS1.out.below hB4)).mono ?_; rintro e w5 ⟨rfl, rfl⟩
          rw [HPL.out]
          go_wp2_with fail
          refine (refNumbered_any b (base ns) (k + 1) _ (base_parse HN.out.parse.right HBase.out) (by omega) hbp (by omega)).mono ?_; rintro e w6 ⟨t6, rfl, HT6, hb6⟩
          go_wp2_with fail
          go_ret2
          exact ⟨_, rfl, HT6, hb1.trans ((hB4.trans (hb6.mono hz4)).mono hz1)⟩
        · go_wp2_with fail
          refine (refNumbered_any b (base ns) (k + 1) _ (base_parse HN.out.parse.right HBase.out) (by omega) hbp (by omega)).mono ?_; rintro e w4 ⟨t, rfl, HT, hb4⟩
          have hB4 := hB.trans (hb4.mono hzr)
          have hz4 := hB4.size
          have hpl2 : 0 ≤ placeI ss t := place_yes (by rw [HT.out]; exact HL.out (k + 1) (by omega))
          obtain ⟨P2, hP2⟩ : ∃ P2, placeI ss t = P2 := ⟨_, rfl⟩
          rw [hP2] at hpl2
          have HPL := Lib.hid hP2
          clear hP2
          go_wp2_with fail
          refine (refPlace_any a len cap ss t _ (HS1.out.below hB4)).mono ?_; rintro e w5 ⟨rfl, rfl⟩
          rw [HPL.out]
          go_wp2_with fail
          go_roundw
          case rel => exact ⟨k + 1, by omega, by go_num, hB4⟩
          case measure => simp [intOf]; omega

end Go.Proofs.YtiikodihbgaaaaaDoor
