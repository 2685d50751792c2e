/- What '&', '|' on int and uint8 come to where the operands are small: plain arithmetic; no program. -/
import Derived.Laws.BitsAllLaws
namespace Go.Proofs.YtmaomnpanfdjeaaDoor

theorem ofInt64 (a : Nat) (ha : a < 18446744073709551616) : (BitVec.ofInt 64 (a : Int)).toNat = a := by
  rw [BitVec.ofInt_natCast, BitVec.toNat_ofNat]; exact Nat.mod_eq_of_lt (by omega)

theorem wrap_i64 (n : Int) (h0 : 0 ≤ n) (h1 : n < 9223372036854775808) : IntKind.i64.wrap n = n := by
  simp [IntKind.wrap, IntKind.bits, IntKind.signed]
  omega

theorem i64_and_nat (a b : Nat) (ha : a < 9223372036854775808) (hb : b < 9223372036854775808) : bits .and .i64 (a : Int) (b : Int) = ((a &&& b : Nat) : Int) := by
  have hx : a &&& b ≤ a := Nat.and_le_left
  show IntKind.i64.wrap ((BitVec.ofInt 64 (a : Int) &&& BitVec.ofInt 64 (b : Int)).toNat : Int) = _
  rw [BitVec.toNat_and, ofInt64 a (by omega), ofInt64 b (by omega), wrap_i64 _ (by omega) (by omega)]

theorem i64_or_nat (a b : Nat) (ha : a < 9223372036854775808) (hb : b < 9223372036854775808) : bits .or .i64 (a : Int) (b : Int) = ((a ||| b : Nat) : Int) := by
  have hx : a ||| b < 2 ^ 63 := Nat.or_lt_two_pow (by omega) (by omega)
  show IntKind.i64.wrap ((BitVec.ofInt 64 (a : Int) ||| BitVec.ofInt 64 (b : Int)).toNat : Int) = _
  rw [BitVec.toNat_or, ofInt64 a (by omega), ofInt64 b (by omega), wrap_i64 _ (by omega) (by omega)]

theorem and63 (n : Int) (h0 : 0 ≤ n) (h1 : n ≤ 9223372036854775807) : bits .and .i64 n 63 = n % 64 := by
  obtain ⟨m, rfl⟩ := Int.eq_ofNat_of_zero_le h0
  have h := i64_and_nat m 63 (by omega) (by omega)
  have e : m &&& 63 = m % 64 := by simpa using Nat.and_two_pow_sub_one_eq_mod m 6
  rw [e] at h
  simpa using h

theorem and63_u8 (n : Int) (h0 : 0 ≤ n) (h1 : n ≤ 255) : bits .and .u8 n 63 = n % 64 := by
  obtain ⟨m, rfl⟩ := Int.eq_ofNat_of_zero_le h0
  have h := u8_and_nat m 63 (by omega) (by omega)
  have e : m &&& 63 = m % 64 := by simpa using Nat.and_two_pow_sub_one_eq_mod m 6
  rw [e] at h
  simpa using h

/-- 'a | b' where a is a multiple of a power of two that is greater than b: the sum. -/
theorem or_join (i : Nat) (a b : Int) (h0 : 0 ≤ a) (h1 : a ≤ 9223372036854775807) (h2 : 0 ≤ b) (h3 : b < (2 ^ i : Nat)) (h4 : a % (2 ^ i : Nat) = 0) (h5 : b ≤ 9223372036854775807) : bits .or .i64 a b = a + b := by
  obtain ⟨x, rfl⟩ := Int.eq_ofNat_of_zero_le h0
  obtain ⟨y, rfl⟩ := Int.eq_ofNat_of_zero_le h2
  have h := i64_or_nat x y (by omega) (by omega)
  have e := nat_join i x y (by exact_mod_cast h4) (by exact_mod_cast h3)
  rw [e] at h
  rw [h]
  simp

theorem or_0 (b : Int) (h2 : 0 ≤ b) (h3 : b ≤ 127) : bits .or .i64 0 b = b := by
  have h := or_join 7 0 b (by omega) (by omega) h2 (by simpa using (by omega)) (by decide) (by omega)
  simpa using h
theorem or_128 (b : Int) (h2 : 0 ≤ b) (h3 : b < 64) : bits .or .i64 128 b = 128 + b :=
  or_join 6 128 b (by omega) (by omega) h2 (by simpa using h3) (by decide) (by omega)
theorem or_192 (b : Int) (h2 : 0 ≤ b) (h3 : b < 32) : bits .or .i64 192 b = 192 + b :=
  or_join 5 192 b (by omega) (by omega) h2 (by simpa using h3) (by decide) (by omega)
theorem or_224 (b : Int) (h2 : 0 ≤ b) (h3 : b < 16) : bits .or .i64 224 b = 224 + b :=
  or_join 4 224 b (by omega) (by omega) h2 (by simpa using h3) (by decide) (by omega)
theorem or_240 (b : Int) (h2 : 0 ≤ b) (h3 : b < 8) : bits .or .i64 240 b = 240 + b :=
  or_join 3 240 b (by omega) (by omega) h2 (by simpa using h3) (by decide) (by omega)
theorem or_64 (a b : Int) (h0 : 0 ≤ a) (h1 : a ≤ 1000000000) (h2 : 0 ≤ b) (h3 : b < 64) : bits .or .i64 (a * 64) b = a * 64 + b :=
  or_join 6 (a * 64) b (by omega) (by omega) h2 (by simpa using h3) (by simp) (by omega)

end Go.Proofs.YtmaomnpanfdjeaaDoor
