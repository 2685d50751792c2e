/- The line and the column of an offset: token.Place and the document's plain answer: the same numbers, for every text of at most 70000 bytes and every offset; nothing that was there is written. -/
import Derived.Test.YtcdblhhieihjlaaLibT
import Derived.Test.YtcdblhhieihjlaaShape
import Derived.Lib.LastIndexByte
import Derived.Lib.Hide
import Derived.LoopTactic
namespace Go.Proofs.Ytcdblhhieihjlaa
open Go.RowKit
set_option linter.unusedVariables false

/-- The line behind the first k bytes. -/
def lineK (s : ByteArray) : Nat → Nat
  | 0 => 1
  | k + 1 => if byt s k = 10 then lineK s k + 1 else lineK s k
/-- The column there. -/
def colK (s : ByteArray) : Nat → Nat
  | 0 => 1
  | k + 1 => if byt s k = 10 then 1 else if Lib.runeStart (byt s k) then colK s k + 1 else colK s k

theorem lineK_le (s : ByteArray) : ∀ k, lineK s k ≤ k + 1
  | 0 => Nat.le_refl _
  | k + 1 => by have := lineK_le s k; unfold lineK; split <;> omega
theorem colK_le (s : ByteArray) : ∀ k, colK s k ≤ k + 1
  | 0 => Nat.le_refl _
  | k + 1 => by have := colK_le s k; unfold colK; split <;> (try split) <;> omega
theorem lineK_br {s : ByteArray} {k : Nat} (h : byt s k = 10) : lineK s (k + 1) = lineK s k + 1 := by rw [lineK, if_pos h]
theorem lineK_no {s : ByteArray} {k : Nat} (h : byt s k ≠ 10) : lineK s (k + 1) = lineK s k := by rw [lineK, if_neg h]
theorem colK_br {s : ByteArray} {k : Nat} (h : byt s k = 10) : colK s (k + 1) = 1 := by rw [colK, if_pos h]
theorem colK_st {s : ByteArray} {k : Nat} (h : byt s k ≠ 10) (hr : Lib.runeStart (byt s k) = true) : colK s (k + 1) = colK s k + 1 := by rw [colK, if_neg h, if_pos hr]
theorem colK_no {s : ByteArray} {k : Nat} (h : byt s k ≠ 10) (hr : Lib.runeStart (byt s k) = false) : colK s (k + 1) = colK s k := by rw [colK, if_neg h, hr]; rfl

/-- How far an offset is counted. -/
def stopK (s : ByteArray) (at' : Int) : Nat := (max 0 (min at' (s.size : Int))).toNat

theorem start_lo {b : Int} (h0 : 0 ≤ b) (h : b < 128) : Lib.runeStart b = true := by
  unfold Lib.runeStart; simp; omega
theorem start_hi {b : Int} (h : 191 < b) : Lib.runeStart b = true := by
  unfold Lib.runeStart; simp; omega
theorem start_mid {b : Int} (h : ¬ b < 128) (h1 : ¬ 191 < b) : Lib.runeStart b = false := by
  unfold Lib.runeStart; simp; omega

theorem refPlace_pos (s : ByteArray) (a : Int) (w : World) (hs : s.size ≤ 70000) :
    Calls Try.prog 9 #[.string s, .int .i64 a] w fun e w' => e = .returned (.tuple #[.int .i64 (lineK s (stopK s a)), .int .i64 (colK s (stopK s a))]) ∧ w = w' := by
  obtain ⟨m, hm⟩ : ∃ m, stopK s a = m := ⟨_, rfl⟩
  have h1 : ∀ k : Nat, (k : Int) < a → (k : Int) < (s.size : Int) → k < m := by intro k; unfold stopK at hm; omega
  have h2 : ∀ k : Nat, k ≤ m → ¬ (k : Int) < a → k = m := by intro k; unfold stopK at hm; omega
  have h3 : ∀ k : Nat, k ≤ m → ¬ (k : Int) < (s.size : Int) → k = m := by intro k; unfold stopK at hm; omega
  have h4 : m ≤ s.size := by unfold stopK at hm; omega
  rw [hm]
  have H1 := Lib.hid h1
  have H2 := Lib.hid h2
  have H3 := Lib.hid h3
  clear h1 h2 h3 hm
  go_enter Try.func9, Try.ntmps9
  go_wp2_with fail
  go_loop [6, 7, 8] (fun l c i => ∃ k : Nat, k ≤ m ∧ l = .int .i64 (lineK s k) ∧ c = .int .i64 (colK s k) ∧ i = .int .i64 k) (fun _ _ i => s.size - (intOf i).toNat)
  case atStart => exact ⟨0, Nat.zero_le _, rfl, rfl, rfl⟩
  case round =>
    obtain ⟨k, hk, rfl, rfl, rfl⟩ := hrel
    have hl := lineK_le s k
    have hc := colK_le s k
    have HL := Lib.hid (lineK_br (s := s) (k := k))
    have HL2 := Lib.hid (lineK_no (s := s) (k := k))
    have HC1 := Lib.hid (colK_br (s := s) (k := k))
    have HC2 := Lib.hid (colK_st (s := s) (k := k))
    have HC3 := Lib.hid (colK_no (s := s) (k := k))
    by_cases ha : (k : Int) < a
    · by_cases hz : (k : Int) < (s.size : Int)
      · have hks : k < s.size := by omega
        have hlt := H1.out k ha hz
        have hby := byt_eq s k hks
        have hlo := byt_lo s k
        have hhi := byt_hi s k
        obtain ⟨b, hb⟩ : ∃ b, byt s k = b := ⟨_, rfl⟩
        rw [hb] at hby hlo hhi HL HL2 HC1 HC2 HC3
        obtain ⟨x, hx⟩ : ∃ x, lineK s k = x := ⟨_, rfl⟩
        obtain ⟨y, hy⟩ : ∃ y, colK s k = y := ⟨_, rfl⟩
        rw [hx] at hl HL HL2
        rw [hy] at hc HC2 HC3
        rw [hx, hy]
        clear hb hx hy
        by_cases e10 : b = 10
        · subst e10
          have HL' := Lib.hid (HL.out rfl)
          have HC' := Lib.hid (HC1.out rfl)
          clear HL HL2 HC1 HC2 HC3
          go_wp2_with fail
          go_round
          case rel => exact ⟨k + 1, hlt, by rw [HL'.out]; go_num, by rw [HC'.out]; rfl, by go_num⟩
          case measure => simp [intOf]; omega
        · have HL' := Lib.hid (HL2.out e10)
          have t10 : (b == 10) = false := by simpa using e10
          by_cases e1 : b < 128
          · have HC' := Lib.hid (HC2.out e10 (start_lo hlo e1))
            clear HL HL2 HC1 HC2 HC3
            go_wp2_with fail
            go_round
            case rel => exact ⟨k + 1, hlt, by rw [HL'.out], by rw [HC'.out]; go_num, by go_num⟩
            case measure => simp [intOf]; omega
          · by_cases e2 : 191 < b
            · have HC' := Lib.hid (HC2.out e10 (start_hi e2))
              clear HL HL2 HC1 HC2 HC3
              go_wp2_with fail
              go_round
              case rel => exact ⟨k + 1, hlt, by rw [HL'.out], by rw [HC'.out]; go_num, by go_num⟩
              case measure => simp [intOf]; omega
            · have HC' := Lib.hid (HC3.out e10 (start_mid e1 e2))
              clear HL HL2 HC1 HC2 HC3
              go_wp2_with fail
              go_round
              case rel => exact ⟨k + 1, hlt, by rw [HL'.out], by rw [HC'.out], by go_num⟩
              case measure => simp [intOf]; omega
      · obtain rfl := H3.out k hk (by omega)
        clear HL HL2 HC1 HC2 HC3
        go_wp2_with fail
        go_ret2
        exact ⟨rfl, rfl⟩
    · obtain rfl := H2.out k hk (by omega)
      clear HL HL2 HC1 HC2 HC3
      go_wp2_with fail
      go_ret2
      exact ⟨rfl, rfl⟩


/-- What strings.LastIndexByte says of a text's first m bytes. -/
theorem last_break (s t : ByteArray) (m : Nat) (hm : m ≤ s.size) (ht : s.extract 0 m = t) :
    ∃ b : Nat, b ≤ m ∧ Lib.lastIndexByte t 10 = (b : Int) - 1 ∧ colK s b = 1 ∧ ∀ j, b ≤ j → j < m → byt s j ≠ 10 := by
  have hz : t.size = m := by rw [← ht]; simp; omega
  have hb : ∀ j, j < m → (t.data[j]!.toNat : Int) = byt s j := by
    intro j hj
    have e1 : bytesL t = (bytesL s).take m := by rw [← ht, bytesL_extract]; simp
    have hj' : j < t.size := by omega
    have h1 := bytesL_get t j hj'
    have h2 : t.data[j]! = t[j] := by rw [getElem!_pos t.data j (by simpa using hj')]; rfl
    rw [h2]
    unfold byt
    rw [e1] at h1
    rw [List.getD_eq_getElem?_getD, ← List.getElem?_take_of_lt hj, h1]
    rfl
  rcases Lib.lastIndexByte_spec t 10 with ⟨e, hn⟩ | ⟨i, hi, e, hc, hn⟩
  · exact ⟨0, Nat.zero_le _, by rw [e]; rfl, rfl, fun j _ hj => by rw [← hb j hj]; exact hn j (by omega)⟩
  · refine ⟨i + 1, by omega, by rw [e]; omega, ?_, fun j h1 h2 => by rw [← hb j h2]; exact hn j (by omega) (by omega)⟩
    exact colK_br (by rw [← hb i (by omega)]; exact hc)

/-- What strings.Count says of them. -/
theorem count_breaks (s : ByteArray) : ∀ m, m ≤ s.size → Lib.countByte (s.extract 0 m).data.toList 10 + 1 = lineK s m := by
  intro m
  induction m with
  | zero =>
    intro _
    have e : (s.extract 0 0).data.toList = [] := by simp
    rw [e]; rfl
  | succ m ih =>
    intro hm
    have ih' := ih (by omega)
    have e : ∀ k, (s.extract 0 k).data.toList = s.data.toList.take k := by intro k; simp [List.extract_eq_take_drop]
    have h2 : m < s.size := by omega
    have hs : m < s.data.toList.length := by simpa using h2
    have hb := byt_eq s m (by omega)
    have hg : s.data.toList[m] = s[m] := by simp; rfl
    rw [e] at ih' ⊢
    unfold Lib.countByte at ih' ⊢
    rw [List.take_succ_eq_append_getElem hs, List.count_append, hg]
    by_cases h : byt s m = 10
    · rw [lineK_br h]
      have h10 : s[m] = 10 := UInt8.toNat_inj.1 (by rw [h] at hb; exact_mod_cast hb)
      rw [h10]
      simp
      omega
    · rw [lineK_no h]
      have h10 : s[m] ≠ 10 := fun e' => by rw [e'] at hb; exact h hb.symm
      rw [List.count_singleton]
      simp [h10]
      omega

theorem place_pos (s : ByteArray) (a : Int) (w : World) (hs : s.size ≤ 70000) :
    Calls Try.prog 8 #[.string s, .int .i64 a] w fun e w' => e = .returned (.tuple #[.int .i64 (lineK s (stopK s a)), .int .i64 (colK s (stopK s a))]) ∧ Below w.heap.size w w' := by
  obtain ⟨m, hm⟩ : ∃ m, stopK s a = m := ⟨_, rfl⟩
  obtain ⟨q, hmin⟩ : ∃ q, min a (s.size : Int) = q := ⟨_, rfl⟩
  have hmax : max 0 q = (m : Int) := by unfold stopK at hm; omega
  have h4 : m ≤ s.size := by omega
  obtain ⟨t, ht⟩ : ∃ t, s.extract 0 m = t := ⟨_, rfl⟩
  have hz : t.size = m := by rw [← ht]; simp; omega
  obtain ⟨b, hbm, hlast, hcol, hno⟩ := last_break s t m h4 ht
  obtain ⟨x, hx⟩ : ∃ x : Int, (b : Int) - 1 = x := ⟨_, rfl⟩
  have hx1 : x + 1 = (b : Int) := by omega
  rw [hx] at hlast
  obtain ⟨c, hc⟩ : ∃ c, Lib.countByte t.data.toList 10 = c := ⟨_, rfl⟩
  have hline : c + 1 = lineK s m := by rw [← hc, ← ht]; exact count_breaks s m h4
  have hcm : c ≤ m := by have := lineK_le s m; omega
  obtain ⟨cap, W, hconv, hB, hcell⟩ := conv_str w t b m (m - b) (by omega) (by omega)
  have hbt : ∀ j, j < m → byt t j = byt s j := by
    intro j hj
    have e1 : bytesL t = (bytesL s).take m := by rw [← ht, bytesL_extract]; simp
    unfold byt
    rw [e1, List.getD_eq_getElem?_getD, List.getElem?_take_of_lt hj, List.getD_eq_getElem?_getD]
  have hcell2 : ∀ i, i < m - b → W.cell? ⟨w.heap.size, i, none⟩ = some (.int .u8 (byt s (b + i))) := fun i hi => by rw [hcell i hi, hbt _ (by omega)]
  obtain ⟨n, hn⟩ : ∃ n, m - b = n := ⟨_, rfl⟩
  rw [hn] at hconv hcell2
  have hbn : b + n = m := by omega
  have HT := Lib.hid ht
  have HL := Lib.hid hlast
  have HC := Lib.hid hc
  have HN := Lib.hid hno
  have HCol := Lib.hid hcol
  have HCell := Lib.hid hcell2
  have HLine := Lib.hid hline
  rw [hm]
  clear ht hlast hc hno hcell hbt hcell2 hcol hline hm hx hn
  go_enter Try.func8, Try.ntmps8
  go_wp2_with fail
  rw [HT.out]
  refine (lastByte_any _ _ _ (by omega)).mono ?_; rintro e w1 ⟨rfl, rfl⟩
  rw [HL.out]
  go_wp2_with fail
  go_loop [8, 26] (fun l i => ∃ k : Nat, k ≤ n ∧ i = .int .i64 k ∧ l = .int .i64 (colK s (b + k))) (fun _ i => n - (intOf i).toNat)
  case atStart => exact ⟨0, Nat.zero_le _, rfl, by rw [Nat.add_zero, HCol.out]; rfl⟩
  case round =>
    obtain ⟨k, hk, rfl, rfl⟩ := hrel
    by_cases hkn : k < n
    · have hg := HCell.out k hkn
      have hne := HN.out (b + k) (by omega) (by omega)
      have hlo := byt_lo s (b + k)
      have hhi := byt_hi s (b + k)
      have hle := colK_le s (b + k)
      have HC2 := Lib.hid (colK_st (s := s) (k := b + k) hne)
      have HC3 := Lib.hid (colK_no (s := s) (k := b + k) hne)
      obtain ⟨y, hy⟩ : ∃ y, colK s (b + k) = y := ⟨_, rfl⟩
      obtain ⟨v, hv⟩ : ∃ v, byt s (b + k) = v := ⟨_, rfl⟩
      rw [hv] at hg hlo hhi HC2 HC3
      rw [hy] at hle HC2 HC3
      rw [hy]
      clear hne hv hy HCell HN
      cases hr : Lib.runeStart v with
      | true =>
        have HC' := Lib.hid (HC2.out hr)
        clear HC2 HC3
        go_wp2_with fail
        refine (runeStart_any _ _ hlo hhi).mono ?_; rintro e w2 ⟨rfl, rfl⟩
        rw [hr]
        go_wp2_with fail
        go_round
        case rel => exact ⟨k + 1, by omega, by go_num, by rw [← Nat.add_assoc, HC'.out]; go_num⟩
        case measure => simp [intOf]; omega
      | false =>
        have HC' := Lib.hid (HC3.out hr)
        clear HC2 HC3
        go_wp2_with fail
        refine (runeStart_any _ _ hlo hhi).mono ?_; rintro e w2 ⟨rfl, rfl⟩
        rw [hr]
        go_wp2_with fail
        go_round
        case rel => exact ⟨k + 1, by omega, by go_num, by rw [← Nat.add_assoc, HC'.out]⟩
        case measure => simp [intOf]; omega
    · obtain rfl : k = n := by omega
      have hle := colK_le s (b + k)
      rw [hbn]
      clear HCell HN
      go_wp2_with fail
      refine (count_any _ _).mono ?_; rintro e w2 ⟨rfl, rfl⟩
      rw [HC.out]
      go_wp2_with fail
      go_ret2
      rw [← HLine.out]
      exact ⟨by go_num, hB⟩

end Go.Proofs.Ytcdblhhieihjlaa
