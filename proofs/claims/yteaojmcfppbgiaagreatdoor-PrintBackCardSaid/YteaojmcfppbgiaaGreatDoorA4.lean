/- Plain facts on names and numbers behind them: decimal digits, where the digits at a text's end begin, how many signs have room, which name is fresh. No program. -/
import Derived.Test.YteaojmcfppbgiaaGreatDoorA1
import Derived.Test.YteaojmcfppbgiaaGreatDoorA3
import Derived.Lib.ItoaNum
import Derived.Lib.SlTrimSet
import Derived.Lib.Bits
import Derived.Test.YteaojmcfppbgiaaGreatDoorA2
import Derived.LoopTactic
import Derived.Laws.RangeAny
import Derived.Lib.Hide
import Derived.Test.YteaojmcfppbgiaaGreatDoorLib
import Derived.ProofKit
import Derived.Lib.SmallJoins
import Derived.Lib.AppendIntMem
namespace Go.Proofs.YteaojmcfppbgiaaGreatDoor
open Go.RowKit
set_option linter.unusedVariables false

/-! ### decimal digits -/
/-- A number's decimal digits, as bytes. -/
def digs (i : Nat) : List Int := (Lib.decDigits i).map fun b => (b.toNat : Int)
theorem digs_small {i : Nat} (h : i < 10) : digs i = [((48 + i : Nat) : Int)] := by
  unfold digs
  rw [Lib.decDigits_one h]
  simp
  omega
theorem digs_big {i : Nat} (h : ¬ i < 10) : digs i = digs (i / 10) ++ [((48 + i % 10 : Nat) : Int)] := by
  unfold digs
  rw [Lib.decDigits, dif_neg h]
  simp
  omega
theorem digs_length (i : Nat) : (digs i).length = Lib.nDigits i := by unfold digs; rw [List.length_map, Lib.decDigits_length]
theorem digs_pos (i : Nat) : 1 ≤ (digs i).length := by
  by_cases h : i < 10
  · rw [digs_small h]; exact Nat.le_refl _
  · rw [digs_big h]; simp
theorem digs_lt (k : Nat) : ∀ i, i < 10 ^ (k + 1) → (digs i).length ≤ k + 1 := by
  induction k with
  | zero => intro i h; rw [digs_small (by simpa using h)]; simp
  | succ k ih =>
    intro i h
    by_cases h1 : i < 10
    · rw [digs_small h1]; simp
    · rw [digs_big h1, List.length_append]
      have := ih (i / 10) (by rw [Nat.pow_succ] at h; omega)
      simp; omega
theorem digs_range (k : Nat) : ∀ i, i < k → ∀ x ∈ digs i, 48 ≤ x ∧ x ≤ 57 := by
  induction k with
  | zero => intro i h; omega
  | succ k ih =>
    intro i hi x hx
    by_cases h1 : i < 10
    · rw [digs_small h1] at hx; simp at hx; omega
    · rw [digs_big h1] at hx
      rcases List.mem_append.1 hx with h | h
      · exact ih (i / 10) (by omega) x h
      · simp at h; omega
theorem digs_mem {i : Nat} {x : Int} (h : x ∈ digs i) : 48 ≤ x ∧ x ≤ 57 := digs_range (i + 1) i (by omega) x h
/-- What digits say. -/
def valL (l : List Int) : Int := l.foldl (fun v x => 10 * v + (x - 48)) 0
theorem valL_snoc (l : List Int) (x : Int) : valL (l ++ [x]) = 10 * valL l + (x - 48) := by unfold valL; rw [List.foldl_append]; rfl
theorem val_digs' (k : Nat) : ∀ i, i < k → valL (digs i) = i := by
  induction k with
  | zero => intro i h; omega
  | succ k ih =>
    intro i hi
    by_cases h1 : i < 10
    · rw [digs_small h1]; unfold valL; simp; omega
    · rw [digs_big h1, valL_snoc, ih (i / 10) (by omega)]; omega
theorem digs_inj {i j : Nat} (h : digs i = digs j) : i = j := by
  have a := val_digs' (i + 1) i (by omega)
  have b := val_digs' (j + 1) j (by omega)
  rw [h] at a
  omega
/-! ### where the digits at the end begin -/
/-- How many signs stand ahead of the digits at the end. -/
def downD (ns : List Int) : Nat → Nat
  | 0 => 0
  | j + 1 => if digitB (ns.getD j 0) then downD ns j else j + 1
def stemJ (ns : List Int) : Nat := downD ns ns.length
/-- The signs ahead of the digits at the end. -/
def base (ns : List Int) : List Int := ns.take (stemJ ns)
theorem encAll_split (ns : List Int) (j : Nat) : encAll ns = encAll (ns.take j) ++ encAll (ns.drop j) := by rw [← encAll_append, List.take_append_drop]
theorem offs_take (ns : List Int) (j : Nat) : (encAll ns).take (offs ns j) = encAll (ns.take j) := by
  rw [encAll_split ns j]
  exact List.take_left
/-! ### boundaries of signs -/
end Go.Proofs.YteaojmcfppbgiaaGreatDoor

/- A number's digits as the document's plain Decimal gives them; sizes and bytes of strings laid one behind the other. Nothing that was there is written. -/
namespace Go.Proofs.YteaojmcfppbgiaaGreatDoor
open Go.RowKit
set_option linter.unusedVariables false
set_option maxRecDepth 100000

end Go.Proofs.YteaojmcfppbgiaaGreatDoor

/- Is a text a number from 0 to 999, and which: token.Number and the document's plain Number: the same answer, for every text; nothing that was there is written. -/
namespace Go.Proofs.YteaojmcfppbgiaaGreatDoor
open Go.RowKit
set_option linter.unusedVariables false

/-- L is the digits of N, a number below 1000; or of none. -/
def IsNum (L : List Int) (N : Nat) (B : Bool) : Prop := (B = true ∧ N < 1000 ∧ digs N = L) ∨ (B = false ∧ N = 0 ∧ ∀ n, n < 1000 → digs n ≠ L)
theorem IsNum.uniq {L : List Int} {N M : Nat} {B C : Bool} (h : IsNum L N B) (k : IsNum L M C) : N = M ∧ B = C := by
  rcases h with ⟨rfl, h1, h2⟩ | ⟨rfl, rfl, h2⟩ <;> rcases k with ⟨rfl, k1, k2⟩ | ⟨rfl, rfl, k2⟩
  · exact ⟨digs_inj (h2.trans k2.symm), rfl⟩
  · exact absurd h2 (k2 _ h1)
  · exact absurd k2 (h2 _ k1)
  · exact ⟨rfl, rfl⟩
theorem isNum_ex (L : List Int) : ∃ N B, IsNum L N B := by
  rcases Classical.em (∃ n, n < 1000 ∧ digs n = L) with ⟨n, h1, h2⟩ | h
  · exact ⟨n, true, .inl ⟨rfl, h1, h2⟩⟩
  · exact ⟨0, false, .inr ⟨rfl, rfl, fun n h1 h2 => h ⟨n, h1, h2⟩⟩⟩
theorem IsNum.no {L : List Int} (h : ∀ n, n < 1000 → digs n ≠ L) : IsNum L 0 false := .inr ⟨rfl, rfl, h⟩
theorem IsNum.yes {L : List Int} {n : Nat} (h : n < 1000) (k : digs n = L) : IsNum L n true := .inl ⟨rfl, h, k⟩

theorem digs_snoc {v d : Nat} (hv : 0 < v) (hd : d < 10) : digs (10 * v + d) = digs v ++ [((48 + d : Nat) : Int)] := by
  rw [digs_big (i := 10 * v + d) (by omega), show (10 * v + d) / 10 = v by omega, show (10 * v + d) % 10 = d by omega]
theorem digs_head (k : Nat) : ∀ n, n < k → ∀ t, digs n = 48 :: t → n = 0 ∧ t = [] := by
  induction k with
  | zero => intro n h; omega
  | succ k ih =>
    intro n hn t ht
    by_cases h : n < 10
    · rw [digs_small h] at ht
      simp at ht
      exact ⟨by omega, ht.2⟩
    · rw [digs_big h] at ht
      match hd : digs (n / 10) with
      | [] => have := digs_pos (n / 10); rw [hd] at this; simp at this
      | y :: ys =>
        rw [hd] at ht
        simp at ht
        obtain ⟨rfl, _⟩ := ht
        have := (ih (n / 10) (by omega) ys hd).1
        omega

theorem take_byt (s : ByteArray) (k : Nat) (h : k < s.size) : (bytesL s).take (k + 1) = (bytesL s).take k ++ [byt s k] := by
  have hk : k < (bytesL s).length := by rw [bytesL_length]; exact h
  rw [List.take_succ_eq_append_getElem hk]
  unfold byt
  rw [List.getD_eq_getElem?_getD, List.getElem?_eq_getElem hk]
  rfl
theorem byt_mem (s : ByteArray) (k : Nat) (h : k < s.size) : byt s k ∈ bytesL s := by
  have hk : k < (bytesL s).length := by rw [bytesL_length]; exact h
  unfold byt
  rw [List.getD_eq_getElem?_getD, List.getElem?_eq_getElem hk]
  exact List.getElem_mem hk

/-- A number that begins so has as many bytes at least. -/
theorem num_len {L : List Int} {n v k : Nat} (hn : n < 1000) (h : digs n = L) (hv : 999 < v) (ht : L.take k = digs v) : False := by
  have h1 : (digs n).length ≤ 3 := digs_lt 2 n hn
  have h2 : (L.take k).length ≤ L.length := by rw [List.length_take]; omega
  have h3 : 4 ≤ (digs v).length := by
    have e : ∀ j, 999 < j → 4 ≤ (digs j).length := by
      intro j hj
      rw [digs_big (by omega), digs_big (i := j / 10) (by omega), digs_big (i := j / 10 / 10) (by omega)]
      have := digs_pos (j / 10 / 10 / 10)
      simp
      omega
    exact e v hv
  rw [ht] at h2
  rw [h] at h1
  omega

/-- What a range over a text's signs hands over at a place: a digit just where the byte there is one. -/
theorem rune_at (s : ByteArray) (k : Nat) (h : k < s.size) : ∃ (r : Int) (d : Nat),
    (∀ (w : World) ty, (Instr.next (.pointer (some ⟨w.heap.size, 0, none⟩)) true ty).run Tryz.prog (w.iter s k) = .ok (.tuple #[.bool true, .int .i64 k, .int .i32 r]) (w.iter s (k + d))) ∧
    digitB r = digitB (byt s k) ∧ (digitB (byt s k) = true → r = byt s k ∧ d = 1) ∧ 0 ≤ r ∧ r ≤ 2147483647 := by
  have hb := byt_eq s k h
  refine ⟨(Utf8.decode s k).1, (Utf8.decode s k).2, fun w ty => run_next_any w s k ty h, ?_, ?_, by omega, by have := decode_le s k; omega⟩
  · by_cases ha : (s[k]'h).toNat < 128
    · rw [decode_ascii s k h ha]
      show digitB ((s[k].toNat : Int)) = _
      rw [hb]
    · have h1 := (decode_high s k h (by omega)).1
      have e1 : digitB ((Utf8.decode s k).1 : Int) = false := by unfold digitB; simp; omega
      have e2 : digitB (byt s k) = false := by rw [← hb]; unfold digitB; simp; omega
      rw [e1, e2]
  · intro hd
    have hd2 := digit_cases.1 hd
    have ha : (s[k]'h).toNat < 128 := by omega
    rw [decode_ascii s k h ha]
    exact ⟨hb, rfl⟩

theorem toList_nil : (⟨#[]⟩ : ByteArray).toList = [] := by rw [ByteArray.toList_eq]
theorem str_nil_true {s : ByteArray} (h : bytesL s = []) : (s.toList == []) = true := by
  have e := str_eq_true (a := s) (b := ⟨#[]⟩) h
  rwa [toList_nil] at e
theorem str_nil_false {s : ByteArray} (h : bytesL s ≠ []) : (s.toList == []) = false := by
  have e := str_eq_false (a := s) (b := ⟨#[]⟩) h
  rwa [toList_nil] at e

theorem number_num (s : ByteArray) (N : Nat) (B : Bool) (w : World) (hs : s.size ≤ 9223372036854775807) (h : IsNum (bytesL s) N B) :
    Calls Tryz.prog 167 #[.string s] w fun e w' => e = .returned (.tuple #[.int .i64 N, .bool B]) ∧ Below w.heap.size w w' := by
  have H := Lib.hid h
  clear h
  go_enter Tryz.func167, Tryz.ntmps167
  go_wp2_with fail
  go_loopw [4] (fun n wr => ∃ k v : Nat, k ≤ s.size ∧ wr = w.iter s k ∧ n = .int .i64 v ∧ v < 1000 ∧ (k = 0 → v = 0) ∧ Hid (0 < k → (bytesL s).take k = digs v)) (fun _ wr => s.size - wr.iterPos w.heap.size)
  case atStart => exact ⟨0, 0, Nat.zero_le _, rfl, rfl, by decide, fun _ => rfl, Lib.hid (fun h => absurd h (Nat.lt_irrefl 0))⟩
  case round =>
    obtain ⟨k, v, hk, rfl, rfl, hv, hk0, HT⟩ := hrel
    have hB : Below w.heap.size w (w.iter s k) := (Below.refl _ _).alloc (Nat.le_refl _) _
    by_cases hlt : k < s.size
    · obtain ⟨r, d, hnx0, hr1, hr2, hr3, hr4⟩ := rune_at s k hlt
      have hnx := hnx0 w
      have hBd : Below w.heap.size w (w.iter s (k + d)) := (Below.refl _ _).alloc (Nat.le_refl _) _
      clear hnx0
      have HTK := Lib.hid (take_byt s k hlt)
      have HM := Lib.hid (byt_mem s k hlt)
      obtain ⟨b, hb⟩ : ∃ b, byt s k = b := ⟨_, rfl⟩
      rw [hb] at hr1 hr2 HTK HM
      clear hb
      cases hd : digitB b with
      | false =>
        have hno := H.out.uniq (IsNum.no (fun n hn e => by
          have hm := HM.out
          rw [← e] at hm
          have := digs_mem hm
          have := (digit_cases (n := b)).2 this
          rw [hd] at this; cases this))
        obtain ⟨rfl, rfl⟩ := hno
        rw [hd] at hr1
        clear hr2 HTK HM H HT
        go_wp2_with fail
        refine (digit_any _ _).mono ?_; rintro e w2 ⟨rfl, rfl⟩
        rw [hr1]
        go_wp2_with fail
        go_ret2
        exact ⟨rfl, hBd⟩
      | true =>
        obtain ⟨rfl, rfl⟩ := hr2 hd
        have hd2 := digit_cases.1 hd
        obtain ⟨g, hg⟩ : ∃ g : Nat, r = 48 + (g : Int) := ⟨(r - 48).toNat, by omega⟩
        have hg10 : g < 10 := by omega
        have e1 : r - 48 = (g : Int) := by omega
        have HD := Lib.hid hd
        clear hr1 hd
        by_cases hkz : k = 0
        · subst hkz
          obtain rfl : v = 0 := hk0 rfl
          have HT' : Hid (0 < 0 + 1 → (bytesL s).take (0 + 1) = digs g) := Lib.hid (fun _ => by rw [HTK.out, digs_small hg10, hg]; simp)
          have e2 : (0 : Int) * 10 + (g : Int) = (g : Int) := by omega
          clear HTK HM HT hg hr2 hk0
          go_wp2_with fail
          refine (digit_any _ _).mono ?_; rintro e w2 ⟨rfl, rfl⟩
          rw [HD.out]
          go_wp2_with fail
          go_roundw
          case rel => exact ⟨0 + 1, g, by omega, rfl, by first | rfl | go_num, by omega, fun h => by omega, HT'⟩
          case measure => simp; omega
        · have t0 : decide ((0 : Int) < (k : Int)) = true := decide_eq_true (by omega)
          have hTk := HT.out (by omega)
          have htk1 := HTK.out
          rw [hTk] at htk1
          by_cases hv0 : v = 0
          · subst hv0
            have hno := H.out.uniq (IsNum.no (fun n hn e => by
              have h48 : digs 0 = [48] := digs_small (by decide)
              rw [h48] at htk1
              have hL : bytesL s = 48 :: (r :: (bytesL s).drop (k + 1)) := by
                have := (List.take_append_drop (k + 1) (bytesL s)).symm
                rw [htk1] at this
                simpa using this
              have := (digs_head (n + 1) n (by omega) _ (e.trans hL)).2
              cases this))
            obtain ⟨rfl, rfl⟩ := hno
            clear hr2 HTK HM H HT htk1 hTk hg hk0
            go_wp2_with fail
            refine (digit_any _ _).mono ?_; rintro e w2 ⟨rfl, rfl⟩
            rw [HD.out]
            go_wp2_with fail
            go_ret2
            exact ⟨rfl, hBd⟩
          · have tv : ((v : Int) == 0) = false := by simp; omega
            have hsn := digs_snoc (v := v) (d := g) (by omega) hg10
            obtain ⟨x, hx⟩ : ∃ x : Nat, 10 * v + g = x := ⟨_, rfl⟩
            rw [hx] at hsn
            have htx : (bytesL s).take (k + 1) = digs x := by rw [htk1, hsn, hg]; simp
            have e2 : (v : Int) * 10 + (g : Int) = (x : Int) := by omega
            by_cases hbig : 999 < x
            · have hno := H.out.uniq (IsNum.no (fun n hn e => num_len hn e hbig htx))
              obtain ⟨rfl, rfl⟩ := hno
              clear hr2 HTK HM H HT htk1 hTk hg hsn htx hx hk0
              go_wp2_with fail
              refine (digit_any _ _).mono ?_; rintro e w2 ⟨rfl, rfl⟩
              rw [HD.out]
              go_wp2_with fail
              go_ret2
              exact ⟨rfl, hBd⟩
            · have HT' : Hid (0 < k + 1 → (bytesL s).take (k + 1) = digs x) := Lib.hid (fun _ => htx)
              clear hr2 HTK HM H HT htk1 hTk hg hsn htx hx hk0
              go_wp2_with fail
              refine (digit_any _ _).mono ?_; rintro e w2 ⟨rfl, rfl⟩
              rw [HD.out]
              go_wp2_with fail
              go_roundw
              case rel => exact ⟨k + 1, x, by omega, rfl, by first | rfl | go_num, by omega, fun h => by omega, HT'⟩
              case measure => simp; omega
    · obtain rfl : k = s.size := by omega
      have hnx : ∀ ty, (Instr.next (.pointer (some ⟨w.heap.size, 0, none⟩)) true ty).run Tryz.prog (w.iter s s.size) = _ := fun ty => run_next_end w s s.size ty (by omega)
      by_cases hz : s.size = 0
      · obtain rfl : v = 0 := hk0 hz
        have hL : bytesL s = [] := List.eq_nil_of_length_eq_zero (by rw [bytesL_length]; exact hz)
        have hno := H.out.uniq (IsNum.no (fun n hn e => by
          have := digs_pos n
          rw [e, hL] at this
          simp at this))
        obtain ⟨rfl, rfl⟩ := hno
        have t1 : (s.toList == []) = true := str_nil_true hL
        have t2 : (s.toList != []) = false := by rw [bne, t1]; rfl
        clear H HT hL hk0 hz
        go_wp2_with fail
        go_ret2
        exact ⟨rfl, hB⟩
      · have hL := HT.out (by omega)
        rw [← bytesL_length, List.take_length] at hL
        have hno := H.out.uniq (IsNum.yes hv hL.symm)
        obtain ⟨rfl, rfl⟩ := hno
        have t1 : (s.toList == []) = false := str_nil_false (fun e => by
          have := digs_pos N
          rw [← hL, e] at this
          exact absurd this (by decide))
        have t2 : (s.toList != []) = true := by rw [bne, t1]; rfl
        clear H HT hL hk0
        go_wp2_with fail
        go_ret2
        exact ⟨rfl, hB⟩

end Go.Proofs.YteaojmcfppbgiaaGreatDoor

/- The contract of utf8.RuneStart at this program, out of the library's theorem over any program. -/
namespace Go.Proofs.YteaojmcfppbgiaaGreatDoor
open Go.RowKit Go.Shelf

end Go.Proofs.YteaojmcfppbgiaaGreatDoor

/- The contracts of strings.TrimRight at the ten digits, strconv.Itoa and utf8.RuneStart at this program, out of the library's theorems over any program; the library's table of powers of ten stays what it is. -/
namespace Go.Proofs.YteaojmcfppbgiaaGreatDoor
open Go.RowKit Go.Shelf
set_option linter.unusedVariables false

/-- The library's table of powers of ten lies as its text lays it. -/
def Tab (w : World) : Prop := Lib.TabIs Tryz.prog w "internal/strconv.uint64pow10" .u64 Lib.pow10Tab
theorem gPow : Tryz.prog.globalNamed "internal/strconv.uint64pow10" = some 4 := by kernel_rfl
theorem Tab.below {w w' : World} (h : Tab w) (hb : Below w.heap.size w w') : Tab w' := Joins.tab_stays gPow h hb (Nat.le_refl _)

theorem itoa_any (i : Nat) (w : World) (h : i < 100 ∨ (Tab w ∧ i ≤ 9223372036854775807)) :
    Calls Tryz.prog 53 #[.int .i64 i] w fun e w' => e = .returned (.string ⟨(Lib.decDigits i).toArray⟩) ∧ Below w.heap.size w w' := by
  rcases h with h | ⟨h, hi⟩
  · refine (Any.strconv_Itoa_small Tryz.lays171 i h w).mono ?_
    rintro e w' ⟨rfl, rfl⟩
    exact ⟨rfl, Below.refl _ _⟩
  · refine (Any.strconv_Itoa Tryz.laysM171 i (by omega) (by omega) w h).mono ?_
    rintro e w' ⟨rfl, k, os, rfl⟩
    refine ⟨?_, Lib.below_grow _ _ (Nat.le_refl _) _ _⟩
    have : Lib.itoa (i : Int) = Lib.decDigits i := by
      unfold Lib.itoa
      rw [if_neg (by omega)]; rfl
    rw [this]

end Go.Proofs.YteaojmcfppbgiaaGreatDoor

/- The contracts of strings.LastIndexByte, strings.Count at a text of one byte, and strings.HasPrefix at this program, out of the library's theorems over any program. -/
namespace Go.Proofs.YteaojmcfppbgiaaGreatDoor
open Go.RowKit Go.Shelf

theorem prefix_any (s p : ByteArray) (w : World) :
    Calls Tryz.prog 123 #[.string s, .string p] w fun e w' => e = .returned (.bool (Lib.hasPrefix s.data.toList p.data.toList)) ∧ w = w' := by
  refine (Any.strings_HasPrefix Tryz.lays99 s p w).mono ?_
  rintro e w' ⟨rfl, rfl⟩
  exact ⟨rfl, rfl⟩

end Go.Proofs.YteaojmcfppbgiaaGreatDoor
