/- Plain facts on names and numbers behind them: decimal digits, where the digits at a text's end begin, how many signs have room, which name is fresh. No program. -/
import Derived.Test.YteaojmcfppbgiaaGreatDoorA1
import Derived.Test.YteaojmcfppbgiaaGreatDoorA3
import Derived.Lib.ItoaNum
import Derived.Lib.SlTrimSet
import Derived.Lib.Bits
import Derived.Test.YteaojmcfppbgiaaGreatDoorA2
import Derived.LoopTactic
import Derived.Laws.RangeAny
import Derived.Lib.Hide
import Derived.Test.YteaojmcfppbgiaaGreatDoorLib
import Derived.ProofKit
import Derived.Lib.SmallJoins
import Derived.Lib.AppendIntMem
namespace Go.Proofs.YteaojmcfppbgiaaGreatDoor
open Go.RowKit
set_option linter.unusedVariables false

/-! ### decimal digits -/
/-- A number's decimal digits, as bytes. -/
def digs (i : Nat) : List Int := (Lib.decDigits i).map fun b => (b.toNat : Int)
theorem digs_small {i : Nat} (h : i < 10) : digs i = [((48 + i : Nat) : Int)] := by
  unfold digs
  rw [Lib.decDigits_one h]
  simp
  omega
theorem digs_big {i : Nat} (h : ¬ i < 10) : digs i = digs (i / 10) ++ [((48 + i % 10 : Nat) : Int)] := by
  unfold digs
  rw [Lib.decDigits, dif_neg h]
  simp
  omega
theorem digs_length (i : Nat) : (digs i).length = Lib.nDigits i := by unfold digs; rw [List.length_map, Lib.decDigits_length]
theorem digs_lt (k : Nat) : ∀ i, i < 10 ^ (k + 1) → (digs i).length ≤ k + 1 := by
  induction k with
  | zero => intro i h; rw [digs_small (by simpa using h)]; simp
  | succ k ih =>
    intro i h
    by_cases h1 : i < 10
    · rw [digs_small h1]; simp
    · rw [digs_big h1, List.length_append]
      have := ih (i / 10) (by rw [Nat.pow_succ] at h; omega)
      simp; omega
/-! ### where the digits at the end begin -/
/-- How many signs stand ahead of the digits at the end. -/
def downD (ns : List Int) : Nat → Nat
  | 0 => 0
  | j + 1 => if digitB (ns.getD j 0) then downD ns j else j + 1
def stemJ (ns : List Int) : Nat := downD ns ns.length
/-- The signs ahead of the digits at the end. -/
def base (ns : List Int) : List Int := ns.take (stemJ ns)
/-! ### boundaries of signs -/
end Go.Proofs.YteaojmcfppbgiaaGreatDoor

/- A number's digits as the document's plain Decimal gives them; sizes and bytes of strings laid one behind the other. Nothing that was there is written. -/
namespace Go.Proofs.YteaojmcfppbgiaaGreatDoor
open Go.RowKit
set_option linter.unusedVariables false
set_option maxRecDepth 100000

theorem bytes_cat (a b : ByteArray) : bytesL (a ++ b) = bytesL a ++ bytesL b := by
  unfold bytesL
  have h : (a ++ b).data.toList = a.data.toList ++ b.data.toList := by simp
  rw [h, List.map_append]
/-- scholiumref02.Decimal gives the digits. -/
theorem decimal_len (n : Nat) (w : World) (hn : (digs n).length ≤ 20) (hI : n ≤ 9223372036854775807) :
    Calls Tryz.prog 179 #[.int .i64 n] w fun e w' => ∃ t, e = .returned (.string t) ∧ Hid (bytesL t = digs n) ∧ Below w.heap.size w w' := by
  have HN := Lib.hid hn
  have HI := Lib.hid hI
  clear hn hI
  go_enter Tryz.func179, Tryz.ntmps179
  go_wp2_with fail
  go_loopw [0, 3] (fun m s wr => ∃ (k : Nat) (t : ByteArray), k ≤ n ∧ m = .int .i64 k ∧ s = .string t ∧ Hid (digs n = digs k ++ bytesL t) ∧ Below w.heap.size w wr) (fun m _ _ => (intOf m).toNat)
  case atStart => exact ⟨n, ⟨#[]⟩, Nat.le_refl _, rfl, rfl, Lib.hid (List.append_nil _).symm, Below.refl _ _⟩
  case round =>
    obtain ⟨k, t, hk, rfl, rfl, HK, hB⟩ := hrel
    have hsz := hB.size
    have hlt : t.size ≤ 20 := by
      have h := congrArg List.length HK.out
      rw [List.length_append, bytesL_length] at h
      have := HN.out
      omega
    have hkI : k ≤ 9223372036854775807 := Nat.le_trans hk HI.out
    by_cases h10 : 10 ≤ k
    · have hbig := digs_big (i := k) (by omega)
      obtain ⟨m, hm⟩ : ∃ m, k % 10 = m := ⟨_, rfl⟩
      obtain ⟨q, hq⟩ : ∃ q, k / 10 = q := ⟨_, rfl⟩
      rw [hm, hq] at hbig
      have hm10 : m < 10 := by omega
      have hqk : q < k := by omega
      have em : (k : Int) % 10 = (m : Int) := by omega
      have eq : (k : Int) / 10 = (q : Int) := by omega
      have HH := Lib.hid hbig
      clear hbig hm hq
      obtain ⟨x, hx⟩ : ∃ x : Int, x = 48 + (m : Int) := ⟨_, rfl⟩
      have hx0 : 48 ≤ x := by omega
      have hx1 : x ≤ 57 := by omega
      have ex : 48 + (m : Int) = x := hx.symm
      have hc := conv_new wr #[.int .u8 x] 5 (0, 0) [x] 1 1 rfl (by intro i hi; match i, hi with | 0, _ => rfl)
      have hs1 : (strOfNums [x]).size = 1 := strOfNums_size _
      have HX : Hid (bytesL (strOfNums [x]) = [((48 + m : Nat) : Int)]) := Lib.hid (by rw [bytesL_strOfNums _ (by intro y hy; simp at hy; omega)]; rw [hx]; simp)
      clear hx
      go_wp2_with fail
      go_roundw
      case rel =>
        refine ⟨q, _, by omega, by go_num, rfl, Lib.hid ?_, hB.alloc hsz _⟩
        rw [HK.out, HH.out, bytes_cat, HX.out, List.append_assoc]
      case measure => simp [intOf]; omega
    · have hsm := digs_small (i := k) (by omega)
      have HH := Lib.hid hsm
      clear hsm
      obtain ⟨x, hx⟩ : ∃ x : Int, x = 48 + (k : Int) := ⟨_, rfl⟩
      have hx0 : 48 ≤ x := by omega
      have hx1 : x ≤ 57 := by omega
      have ex : 48 + (k : Int) = x := hx.symm
      have hc := conv_new wr #[.int .u8 x] 5 (0, 0) [x] 1 1 rfl (by intro i hi; match i, hi with | 0, _ => rfl)
      have hs1 : (strOfNums [x]).size = 1 := strOfNums_size _
      have HX : Hid (bytesL (strOfNums [x]) = [((48 + k : Nat) : Int)]) := Lib.hid (by rw [bytesL_strOfNums _ (by intro y hy; simp at hy; omega)]; rw [hx]; simp)
      clear hx
      go_wp2_with fail
      go_ret
      refine ⟨_, rfl, Lib.hid ?_, hB.alloc hsz _⟩
      rw [HK.out, HH.out, bytes_cat, HX.out]

theorem digs_20 {n : Nat} (h : n ≤ 9223372036854775807) : (digs n).length ≤ 20 := digs_lt 19 n (Nat.lt_of_le_of_lt h (by decide))
theorem decimal_all (n : Nat) (w : World) (h : n ≤ 9223372036854775807) :
    Calls Tryz.prog 179 #[.int .i64 n] w fun e w' => ∃ t, e = .returned (.string t) ∧ Hid (bytesL t = digs n) ∧ Below w.heap.size w w' := decimal_len n w (digs_20 h) h
end Go.Proofs.YteaojmcfppbgiaaGreatDoor

/- Is a text a number from 0 to 999, and which: token.Number and the document's plain Number: the same answer, for every text; nothing that was there is written. -/
namespace Go.Proofs.YteaojmcfppbgiaaGreatDoor
open Go.RowKit
set_option linter.unusedVariables false

/-- L is the digits of N, a number below 1000; or of none. -/
def IsNum (L : List Int) (N : Nat) (B : Bool) : Prop := (B = true ∧ N < 1000 ∧ digs N = L) ∨ (B = false ∧ N = 0 ∧ ∀ n, n < 1000 → digs n ≠ L)
theorem isNum_ex (L : List Int) : ∃ N B, IsNum L N B := by
  rcases Classical.em (∃ n, n < 1000 ∧ digs n = L) with ⟨n, h1, h2⟩ | h
  · exact ⟨n, true, .inl ⟨rfl, h1, h2⟩⟩
  · exact ⟨0, false, .inr ⟨rfl, rfl, fun n h1 h2 => h ⟨n, h1, h2⟩⟩⟩
theorem IsNum.no {L : List Int} (h : ∀ n, n < 1000 → digs n ≠ L) : IsNum L 0 false := .inr ⟨rfl, rfl, h⟩
end Go.Proofs.YteaojmcfppbgiaaGreatDoor

/- The contract of utf8.RuneStart at this program, out of the library's theorem over any program. -/
namespace Go.Proofs.YteaojmcfppbgiaaGreatDoor
open Go.RowKit Go.Shelf

end Go.Proofs.YteaojmcfppbgiaaGreatDoor

/- The contracts of strings.TrimRight at the ten digits, strconv.Itoa and utf8.RuneStart at this program, out of the library's theorems over any program; the library's table of powers of ten stays what it is. -/
namespace Go.Proofs.YteaojmcfppbgiaaGreatDoor
open Go.RowKit Go.Shelf
set_option linter.unusedVariables false

/-- The library's table of powers of ten lies as its text lays it. -/
def Tab (w : World) : Prop := Lib.TabIs Tryz.prog w "internal/strconv.uint64pow10" .u64 Lib.pow10Tab
theorem gPow : Tryz.prog.globalNamed "internal/strconv.uint64pow10" = some 4 := by kernel_rfl
theorem Tab.below {w w' : World} (h : Tab w) (hb : Below w.heap.size w w') : Tab w' := Joins.tab_stays gPow h hb (Nat.le_refl _)

theorem itoa_any (i : Nat) (w : World) (h : i < 100 ∨ (Tab w ∧ i ≤ 9223372036854775807)) :
    Calls Tryz.prog 53 #[.int .i64 i] w fun e w' => e = .returned (.string ⟨(Lib.decDigits i).toArray⟩) ∧ Below w.heap.size w w' := by
  rcases h with h | ⟨h, hi⟩
  · refine (Any.strconv_Itoa_small Tryz.lays171 i h w).mono ?_
    rintro e w' ⟨rfl, rfl⟩
    exact ⟨rfl, Below.refl _ _⟩
  · refine (Any.strconv_Itoa Tryz.laysM171 i (by omega) (by omega) w h).mono ?_
    rintro e w' ⟨rfl, k, os, rfl⟩
    refine ⟨?_, Lib.below_grow _ _ (Nat.le_refl _) _ _⟩
    have : Lib.itoa (i : Int) = Lib.decDigits i := by
      unfold Lib.itoa
      rw [if_neg (by omega)]; rfl
    rw [this]

end Go.Proofs.YteaojmcfppbgiaaGreatDoor

/- The contracts of strings.LastIndexByte, strings.Count at a text of one byte, and strings.HasPrefix at this program, out of the library's theorems over any program. -/
namespace Go.Proofs.YteaojmcfppbgiaaGreatDoor
open Go.RowKit Go.Shelf

end Go.Proofs.YteaojmcfppbgiaaGreatDoor
