/- A number's digits as the document's plain Decimal gives them; sizes and bytes of strings laid one behind the other. Nothing that was there is written. -/
import Derived.Test.YtmaomnpanfdjeaaDoorNum
import Derived.Test.YtmaomnpanfdjeaaDoorShape
import Derived.LoopTactic
namespace Go.Proofs.YtmaomnpanfdjeaaDoor
open Go.RowKit
set_option linter.unusedVariables false
set_option maxRecDepth 100000

theorem size_bytes (s : ByteArray) : s.size = (bytesL s).length := (bytesL_length s).symm
theorem bytes_cat (a b : ByteArray) : bytesL (a ++ b) = bytesL a ++ bytesL b := by
  unfold bytesL
  have h : (a ++ b).data.toList = a.data.toList ++ b.data.toList := by simp
  rw [h, List.map_append]
theorem size_cat (a b : ByteArray) : (a ++ b).size = a.size + b.size := by
  rw [size_bytes, bytes_cat, List.length_append, ← size_bytes, ← size_bytes]

/-- scholiumref02.Decimal gives the digits. -/
theorem decimal_len (n : Nat) (w : World) (hn : (digs n).length ≤ 20) (hI : n ≤ 9223372036854775807) :
    Calls Tryd.prog 29 #[.int .i64 n] w fun e w' => ∃ t, e = .returned (.string t) ∧ Hid (bytesL t = digs n) ∧ Below w.heap.size w w' := by
  have HN := Lib.hid hn
  have HI := Lib.hid hI
  clear hn hI
  go_enter Tryd.func29, Tryd.ntmps29
  go_wp2_with fail
  go_loopw [0, 3] (fun m s wr => ∃ (k : Nat) (t : ByteArray), k ≤ n ∧ m = .int .i64 k ∧ s = .string t ∧ Hid (digs n = digs k ++ bytesL t) ∧ Below w.heap.size w wr) (fun m _ _ => (intOf m).toNat)
  case atStart => exact ⟨n, ⟨#[]⟩, Nat.le_refl _, rfl, rfl, Lib.hid (List.append_nil _).symm, Below.refl _ _⟩
  case round =>
    obtain ⟨k, t, hk, rfl, rfl, HK, hB⟩ := hrel
    have hsz := hB.size
    have hlt : t.size ≤ 20 := by
      have h := congrArg List.length HK.out
      rw [List.length_append, bytesL_length] at h
      have := HN.out
      omega
    have hkI : k ≤ 9223372036854775807 := Nat.le_trans hk HI.out
    by_cases h10 : 10 ≤ k
    · have hbig := digs_big (i := k) (by omega)
      obtain ⟨m, hm⟩ : ∃ m, k % 10 = m := ⟨_, rfl⟩
      obtain ⟨q, hq⟩ : ∃ q, k / 10 = q := ⟨_, rfl⟩
      rw [hm, hq] at hbig
      have hm10 : m < 10 := by omega
      have hqk : q < k := by omega
      have em : (k : Int) % 10 = (m : Int) := by omega
      have eq : (k : Int) / 10 = (q : Int) := by omega
      have HH := Lib.hid hbig
      clear hbig hm hq
      obtain ⟨x, hx⟩ : ∃ x : Int, x = 48 + (m : Int) := ⟨_, rfl⟩
      have hx0 : 48 ≤ x := by omega
      have hx1 : x ≤ 57 := by omega
      have ex : 48 + (m : Int) = x := hx.symm
      have hc := conv_new wr #[.int .u8 x] 5 (0, 0) [x] 1 1 rfl (by intro i hi; match i, hi with | 0, _ => rfl)
      have hs1 : (strOfNums [x]).size = 1 := strOfNums_size _
      have HX : Hid (bytesL (strOfNums [x]) = [((48 + m : Nat) : Int)]) := Lib.hid (by rw [bytesL_strOfNums _ (by intro y hy; simp at hy; omega)]; rw [hx]; simp)
      clear hx
      go_wp2_with fail
      go_roundw
      case rel =>
        refine ⟨q, _, by omega, by go_num, rfl, Lib.hid ?_, hB.alloc hsz _⟩
        rw [HK.out, HH.out, bytes_cat, HX.out, List.append_assoc]
      case measure => simp [intOf]; omega
    · have hsm := digs_small (i := k) (by omega)
      have HH := Lib.hid hsm
      clear hsm
      obtain ⟨x, hx⟩ : ∃ x : Int, x = 48 + (k : Int) := ⟨_, rfl⟩
      have hx0 : 48 ≤ x := by omega
      have hx1 : x ≤ 57 := by omega
      have ex : 48 + (k : Int) = x := hx.symm
      have hc := conv_new wr #[.int .u8 x] 5 (0, 0) [x] 1 1 rfl (by intro i hi; match i, hi with | 0, _ => rfl)
      have hs1 : (strOfNums [x]).size = 1 := strOfNums_size _
      have HX : Hid (bytesL (strOfNums [x]) = [((48 + k : Nat) : Int)]) := Lib.hid (by rw [bytesL_strOfNums _ (by intro y hy; simp at hy; omega)]; rw [hx]; simp)
      clear hx
      go_wp2_with fail
      go_ret
      refine ⟨_, rfl, Lib.hid ?_, hB.alloc hsz _⟩
      rw [HK.out, HH.out, bytes_cat, HX.out]

theorem digs_20 {n : Nat} (h : n ≤ 9223372036854775807) : (digs n).length ≤ 20 := digs_lt 19 n (Nat.lt_of_le_of_lt h (by decide))
theorem decimal_all (n : Nat) (w : World) (h : n ≤ 9223372036854775807) :
    Calls Tryd.prog 29 #[.int .i64 n] w fun e w' => ∃ t, e = .returned (.string t) ∧ Hid (bytesL t = digs n) ∧ Below w.heap.size w w' := decimal_len n w (digs_20 h) h
theorem decimal_any (n : Nat) (w : World) (hn : n < 10000) :
    Calls Tryd.prog 29 #[.int .i64 n] w fun e w' => ∃ t, e = .returned (.string t) ∧ Hid (bytesL t = digs n) ∧ Below w.heap.size w w' := decimal_all n w (by omega)

end Go.Proofs.YtmaomnpanfdjeaaDoor
