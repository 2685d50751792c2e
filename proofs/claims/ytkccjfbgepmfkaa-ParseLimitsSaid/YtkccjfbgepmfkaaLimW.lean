/- The walk of the law ParseLimits. -/
import Derived.Test.YtkccjfbgepmfkaaLim1
import Derived.Test.YtkccjfbgepmfkaaAw5
import Derived.Test.YtkccjfbgepmfkaaBlanksW
namespace Go.Proofs.Ytkccjfbgepmfkaa
open Go.RowKit
set_option linter.unusedVariables false
set_option maxRecDepth 100000

def twos (a b : Int) (m : Nat) : List Int := (List.replicate m [a, b]).flatten
theorem twos_succ (a b : Int) (m : Nat) : twos a b (m + 1) = twos a b m ++ [a, b] := by
  unfold twos
  rw [List.replicate_succ', List.flatten_append]
  simp
theorem limE_is0 : pcsL (limE 126) = 102 :: twos 32 120 126 := by kernel_rfl
theorem limP_is0 : pcsL (limP 23) = twos 120 32 23 := by kernel_rfl
theorem limD_is0 : pcsL (limD 31) = [100, 101, 102, 32, 102, 32, 58, 32, 83, 101, 116, 32, 123] ++ (twos 120 59 31 ++ [125]) := by kernel_rfl
theorem limE_is1 : pcsL (limE 127) = 102 :: twos 32 120 127 := by kernel_rfl
theorem limP_is1 : pcsL (limP 24) = twos 120 32 24 := by kernel_rfl
theorem limD_is1 : pcsL (limD 32) = [100, 101, 102, 32, 102, 32, 58, 32, 83, 101, 116, 32, 123] ++ (twos 120 59 32 ++ [125]) := by kernel_rfl
theorem limE_is2 : pcsL (limE 128) = 102 :: twos 32 120 128 := by kernel_rfl
theorem limP_is2 : pcsL (limP 25) = twos 120 32 25 := by kernel_rfl
theorem limD_is2 : pcsL (limD 33) = [100, 101, 102, 32, 102, 32, 58, 32, 83, 101, 116, 32, 123] ++ (twos 120 59 33 ++ [125]) := by kernel_rfl

set_option maxHeartbeats 8000000 in
theorem lim_walk0 (n : Int) (w : World) (h0 : 0 ≤ n) (h255 : n ≤ 255) (hR : n % 3 = 0) :
    Calls Try.prog 4 #[.int .u8 n] w fun e w' => e = .returned (.bool true) ∧ Below w.heap.size w w' := by
  have HAW := Lib.hid (fun V => awake5_any V)
  have W1 : IntKind.i64.wrap (127 + 0) = 127 := by decide
  have W2 : IntKind.i64.wrap (23 + 0) = 23 := by decide
  have W3 : IntKind.i64.wrap (31 + 0) = 31 := by decide
  go_enter Try.func4, Try.ntmps4
  go_wp2_with fail
  rw [hR]
  clear hR h0 h255
  go_loopw [4, 5] (fun v q wr => ∃ (i : Nat) (u : ByteArray), v = .string u ∧ q = .int .i64 ((i + 1 : Nat) : Int) ∧ i ≤ 126 ∧ Hid (bytesL u = 102 :: twos 32 120 i) ∧ u.size ≤ 1 + 2 * i ∧ Below w.heap.size w wr)
    (fun _ q _ => 127 - (intOf q).toNat)
  case atStart => exact ⟨0, _, rfl, rfl, Nat.zero_le _, Lib.hid rfl, by decide, Below.refl _ _⟩
  case round =>
    obtain ⟨i, u, rfl, rfl, hi, HU, hus, hB⟩ := hrel
    have HB := Lib.hid hB
    clear hB
    by_cases hlt : i < 126
    · have hd2 : decide (((i + 1 : Nat) : Int) < 127) = true := decide_eq_true (by omega)
      have w1' : IntKind.i64.wrap (((i + 1 : Nat) : Int) + 1) = ((i + 1 + 1 : Nat) : Int) := by rw [IntWalk.i64_in _ (by omega)]; omega
      have HU2 : Hid (bytesL (u ++ ⟨#[32, 120]⟩) = 102 :: twos 32 120 (i + 1)) := Lib.hid (by rw [bytesL_app2, HU.out, twos_succ]; rfl)
      have hus2 : (u ++ ⟨#[32, 120]⟩ : ByteArray).size ≤ 1 + 2 * (i + 1) := by
        rw [ByteArray.size_append]
        show u.size + 2 ≤ _
        omega
      have HLT := Lib.hid hlt
      clear HU
      go_wp2_with fail
      refine ⟨⟨i + 1, _, rfl, by first | rfl | go_num, hlt, HU2, hus2, HB.out⟩, ?_⟩
      have := HLT.out
      simp [intOf] <;> omega
    · obtain rfl : i = 126 := by omega
      have hd2 : decide (((126 + 1 : Nat) : Int) < 127) = false := by decide
      have HUE : Hid (bytesL u = pcsL (limE 126)) := Lib.hid (by rw [limE_is0]; exact HU.out)
      obtain ⟨t, z, hze, hzf, HC⟩ := limE_says (m := 125) HUE.out limE_ok.1 (lim_asc 0 (by omega)).1 (lim_len 0 (by omega)).1 (by omega) lim_true.1
      have HC := Lib.hid HC
      clear HU HUE hlt hi
      go_wp2_with fail
      refine (HC.out _).mono ?_
      rintro e w1 ⟨hb1, hok, hno⟩
      obtain ⟨A, cc, h1, -⟩ := hok hze
      unfold nodeV at h1
      subst h1
      have HB1 := Lib.hid (HB.out.trans (hb1.mono HB.out.size))
      clear hok hno hb1 hze hzf HC hus
      go_wp2_with fail
      go_loopw [9, 10] (fun v q wr => ∃ (i : Nat) (u : ByteArray), v = .string u ∧ q = .int .i64 (i : Int) ∧ i ≤ 23 ∧ Hid (bytesL u = twos 120 32 i) ∧ u.size ≤ 2 * i ∧ Below w.heap.size w wr)
        (fun _ q _ => 23 - (intOf q).toNat)
      case atStart => exact ⟨0, _, rfl, rfl, Nat.zero_le _, Lib.hid rfl, by decide, HB1.out.alloc HB1.out.size _⟩
      case round =>
        obtain ⟨i, u, rfl, rfl, hi, HU, hus, hB⟩ := hrel
        have HB := Lib.hid hB
        clear hB
        by_cases hlt : i < 23
        · have hd2 : decide ((i : Int) < 23) = true := decide_eq_true (by omega)
          have HU2 : Hid (bytesL (u ++ ⟨#[120, 32]⟩) = twos 120 32 (i + 1)) := Lib.hid (by rw [bytesL_app2, HU.out, twos_succ]; rfl)
          have hus2 : (u ++ ⟨#[120, 32]⟩ : ByteArray).size ≤ 2 * (i + 1) := by
            rw [ByteArray.size_append]
            show u.size + 2 ≤ _
            omega
          have HLT := Lib.hid hlt
          clear HU
          go_wp2_with fail
          refine ⟨⟨i + 1, _, rfl, by first | rfl | go_num, hlt, HU2, hus2, HB.out⟩, ?_⟩
          have := HLT.out
          simp [intOf] <;> omega
        · obtain rfl : i = 23 := by omega
          have HUE : Hid (bytesL u = pcsL (limP 23)) := Lib.hid (by rw [limP_is0]; exact HU.out)
          obtain ⟨l, z, hze, hzf, hlen, HC⟩ := limP_says (m := 22) HUE.out limP_ok.1 (lim_asc 0 (by omega)).2.1 (lim_len 0 (by omega)).2.1 (by omega) limP_true.1
          have HC := Lib.hid HC
          clear HU HUE hlt hi
          go_wp2_with fail
          refine (HC.out _).mono ?_
          rintro e w2 ⟨hb2, hok, hno⟩
          obtain ⟨A, cc, h1, -⟩ := hok hze
          rw [hlen] at h1
          subst h1
          have HB2 := Lib.hid (HB.out.trans (hb2.mono HB.out.size))
          clear hok hno hb2 hze hzf HC hus hlen
          go_wp2_with fail
          go_loopw [14, 15] (fun v q wr => ∃ (i : Nat) (u : ByteArray), v = .string u ∧ q = .int .i64 (i : Int) ∧ i ≤ 31 ∧ Hid (bytesL u = [100, 101, 102, 32, 102, 32, 58, 32, 83, 101, 116, 32, 123] ++ twos 120 59 i) ∧ u.size ≤ 13 + 2 * i ∧ Below w.heap.size w wr)
            (fun _ q _ => 31 - (intOf q).toNat)
          case atStart => exact ⟨0, _, rfl, rfl, Nat.zero_le _, Lib.hid rfl, by decide, HB2.out⟩
          case round =>
            obtain ⟨i, u, rfl, rfl, hi, HU, hus, hB⟩ := hrel
            have HB := Lib.hid hB
            clear hB
            by_cases hlt : i < 31
            · have hd2 : decide ((i : Int) < 31) = true := decide_eq_true (by omega)
              have HU2 : Hid (bytesL (u ++ ⟨#[120, 59]⟩) = [100, 101, 102, 32, 102, 32, 58, 32, 83, 101, 116, 32, 123] ++ twos 120 59 (i + 1)) := Lib.hid (by rw [bytesL_app2, HU.out, twos_succ, List.append_assoc]; rfl)
              have hus2 : (u ++ ⟨#[120, 59]⟩ : ByteArray).size ≤ 13 + 2 * (i + 1) := by
                rw [ByteArray.size_append]
                show u.size + 2 ≤ _
                omega
              have HLT := Lib.hid hlt
              clear HU
              go_wp2_with fail
              refine ⟨⟨i + 1, _, rfl, by first | rfl | go_num, hlt, HU2, hus2, HB.out⟩, ?_⟩
              have := HLT.out
              simp [intOf] <;> omega
            · obtain rfl : i = 31 := by omega
              have HUE : Hid (bytesL (u ++ ⟨#[125]⟩) = pcsL (limD 31)) := Lib.hid (by rw [limD_is0, bytesL_app2, HU.out, List.append_assoc]; rfl)
              obtain ⟨d, z, hze, hzf, hlen, HC⟩ := limD_says (m := 31) HUE.out limD_ok.1 (lim_asc 0 (by omega)).2.2 (lim_len 0 (by omega)).2.2 (by decide) (by omega) limD_true.1
              have HC := Lib.hid HC
              clear HU HUE hlt hi
              go_wp2_with fail
              refine (HC.out _).mono ?_
              rintro e w3 ⟨hb3, hok, hno⟩
              obtain ⟨A, cc, h1, -, -, hda⟩ := hok hze
              obtain ⟨b, oo, P, hA, -, hb, hca, -⟩ := hda 0 (by simp)
              subst hA
              simp only [List.length_cons, List.length_nil, Nat.zero_add] at h1
              subst h1
              have y10 := hca 10 (by decide)
              have x10 : w3.cell? ⟨b, oo + 10, none⟩ = some (.slice P.D 31 P.d) := by
                have q : w3.cell? ⟨b, oo + 0 * 11 + 10, none⟩ = some (.slice P.D d.ro.length P.d) := y10
                rw [hlen, Nat.zero_mul, Nat.add_zero] at q
                exact q
              have HB3 := Lib.hid (HB.out.trans (hb3.mono HB.out.size))
              clear y10 hok hno hb3 hze hzf HC hus hlen hca hda
              go_wp2_with fail
              refine (HAW.out _).mono ?_
              rintro e w4 ⟨rfl, hb4⟩
              have HB4 := Lib.hid (HB3.out.trans (hb4.mono HB3.out.size))
              clear hb4
              go_wp2_with fail
              go_ret
              exact ⟨rfl, HB4.out⟩

set_option maxHeartbeats 8000000 in
theorem lim_walk1 (n : Int) (w : World) (h0 : 0 ≤ n) (h255 : n ≤ 255) (hR : n % 3 = 1) :
    Calls Try.prog 4 #[.int .u8 n] w fun e w' => e = .returned (.bool true) ∧ Below w.heap.size w w' := by
  have HAW := Lib.hid (fun V => awake5_any V)
  have W1 : IntKind.i64.wrap (127 + 1) = 128 := by decide
  have W2 : IntKind.i64.wrap (23 + 1) = 24 := by decide
  have W3 : IntKind.i64.wrap (31 + 1) = 32 := by decide
  go_enter Try.func4, Try.ntmps4
  go_wp2_with fail
  rw [hR]
  clear hR h0 h255
  go_loopw [4, 5] (fun v q wr => ∃ (i : Nat) (u : ByteArray), v = .string u ∧ q = .int .i64 ((i + 1 : Nat) : Int) ∧ i ≤ 127 ∧ Hid (bytesL u = 102 :: twos 32 120 i) ∧ u.size ≤ 1 + 2 * i ∧ Below w.heap.size w wr)
    (fun _ q _ => 128 - (intOf q).toNat)
  case atStart => exact ⟨0, _, rfl, rfl, Nat.zero_le _, Lib.hid rfl, by decide, Below.refl _ _⟩
  case round =>
    obtain ⟨i, u, rfl, rfl, hi, HU, hus, hB⟩ := hrel
    have HB := Lib.hid hB
    clear hB
    by_cases hlt : i < 127
    · have hd2 : decide (((i + 1 : Nat) : Int) < 128) = true := decide_eq_true (by omega)
      have w1' : IntKind.i64.wrap (((i + 1 : Nat) : Int) + 1) = ((i + 1 + 1 : Nat) : Int) := by rw [IntWalk.i64_in _ (by omega)]; omega
      have HU2 : Hid (bytesL (u ++ ⟨#[32, 120]⟩) = 102 :: twos 32 120 (i + 1)) := Lib.hid (by rw [bytesL_app2, HU.out, twos_succ]; rfl)
      have hus2 : (u ++ ⟨#[32, 120]⟩ : ByteArray).size ≤ 1 + 2 * (i + 1) := by
        rw [ByteArray.size_append]
        show u.size + 2 ≤ _
        omega
      have HLT := Lib.hid hlt
      clear HU
      go_wp2_with fail
      refine ⟨⟨i + 1, _, rfl, by first | rfl | go_num, hlt, HU2, hus2, HB.out⟩, ?_⟩
      have := HLT.out
      simp [intOf] <;> omega
    · obtain rfl : i = 127 := by omega
      have hd2 : decide (((127 + 1 : Nat) : Int) < 128) = false := by decide
      have HUE : Hid (bytesL u = pcsL (limE 127)) := Lib.hid (by rw [limE_is1]; exact HU.out)
      obtain ⟨t, z, hze, hzf, HC⟩ := limE_says (m := 126) HUE.out limE_ok.2.1 (lim_asc 1 (by omega)).1 (lim_len 1 (by omega)).1 (by omega) lim_true.2.1
      have HC := Lib.hid HC
      clear HU HUE hlt hi
      go_wp2_with fail
      refine (HC.out _).mono ?_
      rintro e w1 ⟨hb1, hok, hno⟩
      obtain ⟨A, cc, h1, -⟩ := hok hze
      unfold nodeV at h1
      subst h1
      have HB1 := Lib.hid (HB.out.trans (hb1.mono HB.out.size))
      clear hok hno hb1 hze hzf HC hus
      go_wp2_with fail
      go_loopw [9, 10] (fun v q wr => ∃ (i : Nat) (u : ByteArray), v = .string u ∧ q = .int .i64 (i : Int) ∧ i ≤ 24 ∧ Hid (bytesL u = twos 120 32 i) ∧ u.size ≤ 2 * i ∧ Below w.heap.size w wr)
        (fun _ q _ => 24 - (intOf q).toNat)
      case atStart => exact ⟨0, _, rfl, rfl, Nat.zero_le _, Lib.hid rfl, by decide, HB1.out.alloc HB1.out.size _⟩
      case round =>
        obtain ⟨i, u, rfl, rfl, hi, HU, hus, hB⟩ := hrel
        have HB := Lib.hid hB
        clear hB
        by_cases hlt : i < 24
        · have hd2 : decide ((i : Int) < 24) = true := decide_eq_true (by omega)
          have HU2 : Hid (bytesL (u ++ ⟨#[120, 32]⟩) = twos 120 32 (i + 1)) := Lib.hid (by rw [bytesL_app2, HU.out, twos_succ]; rfl)
          have hus2 : (u ++ ⟨#[120, 32]⟩ : ByteArray).size ≤ 2 * (i + 1) := by
            rw [ByteArray.size_append]
            show u.size + 2 ≤ _
            omega
          have HLT := Lib.hid hlt
          clear HU
          go_wp2_with fail
          refine ⟨⟨i + 1, _, rfl, by first | rfl | go_num, hlt, HU2, hus2, HB.out⟩, ?_⟩
          have := HLT.out
          simp [intOf] <;> omega
        · obtain rfl : i = 24 := by omega
          have HUE : Hid (bytesL u = pcsL (limP 24)) := Lib.hid (by rw [limP_is1]; exact HU.out)
          obtain ⟨l, z, hze, hzf, hlen, HC⟩ := limP_says (m := 23) HUE.out limP_ok.2.1 (lim_asc 1 (by omega)).2.1 (lim_len 1 (by omega)).2.1 (by omega) limP_true.2.1
          have HC := Lib.hid HC
          clear HU HUE hlt hi
          go_wp2_with fail
          refine (HC.out _).mono ?_
          rintro e w2 ⟨hb2, hok, hno⟩
          obtain ⟨A, cc, h1, -⟩ := hok hze
          rw [hlen] at h1
          subst h1
          have HB2 := Lib.hid (HB.out.trans (hb2.mono HB.out.size))
          clear hok hno hb2 hze hzf HC hus hlen
          go_wp2_with fail
          go_loopw [14, 15] (fun v q wr => ∃ (i : Nat) (u : ByteArray), v = .string u ∧ q = .int .i64 (i : Int) ∧ i ≤ 32 ∧ Hid (bytesL u = [100, 101, 102, 32, 102, 32, 58, 32, 83, 101, 116, 32, 123] ++ twos 120 59 i) ∧ u.size ≤ 13 + 2 * i ∧ Below w.heap.size w wr)
            (fun _ q _ => 32 - (intOf q).toNat)
          case atStart => exact ⟨0, _, rfl, rfl, Nat.zero_le _, Lib.hid rfl, by decide, HB2.out⟩
          case round =>
            obtain ⟨i, u, rfl, rfl, hi, HU, hus, hB⟩ := hrel
            have HB := Lib.hid hB
            clear hB
            by_cases hlt : i < 32
            · have hd2 : decide ((i : Int) < 32) = true := decide_eq_true (by omega)
              have HU2 : Hid (bytesL (u ++ ⟨#[120, 59]⟩) = [100, 101, 102, 32, 102, 32, 58, 32, 83, 101, 116, 32, 123] ++ twos 120 59 (i + 1)) := Lib.hid (by rw [bytesL_app2, HU.out, twos_succ, List.append_assoc]; rfl)
              have hus2 : (u ++ ⟨#[120, 59]⟩ : ByteArray).size ≤ 13 + 2 * (i + 1) := by
                rw [ByteArray.size_append]
                show u.size + 2 ≤ _
                omega
              have HLT := Lib.hid hlt
              clear HU
              go_wp2_with fail
              refine ⟨⟨i + 1, _, rfl, by first | rfl | go_num, hlt, HU2, hus2, HB.out⟩, ?_⟩
              have := HLT.out
              simp [intOf] <;> omega
            · obtain rfl : i = 32 := by omega
              have HUE : Hid (bytesL (u ++ ⟨#[125]⟩) = pcsL (limD 32)) := Lib.hid (by rw [limD_is1, bytesL_app2, HU.out, List.append_assoc]; rfl)
              obtain ⟨d, z, hze, hzf, hlen, HC⟩ := limD_says (m := 32) HUE.out limD_ok.2.1 (lim_asc 1 (by omega)).2.2 (lim_len 1 (by omega)).2.2 (by decide) (by omega) limD_true.2.1
              have HC := Lib.hid HC
              clear HU HUE hlt hi
              go_wp2_with fail
              refine (HC.out _).mono ?_
              rintro e w3 ⟨hb3, hok, hno⟩
              obtain ⟨A, cc, h1, -, -, hda⟩ := hok hze
              obtain ⟨b, oo, P, hA, -, hb, hca, -⟩ := hda 0 (by simp)
              subst hA
              simp only [List.length_cons, List.length_nil, Nat.zero_add] at h1
              subst h1
              have y10 := hca 10 (by decide)
              have x10 : w3.cell? ⟨b, oo + 10, none⟩ = some (.slice P.D 32 P.d) := by
                have q : w3.cell? ⟨b, oo + 0 * 11 + 10, none⟩ = some (.slice P.D d.ro.length P.d) := y10
                rw [hlen, Nat.zero_mul, Nat.add_zero] at q
                exact q
              have HB3 := Lib.hid (HB.out.trans (hb3.mono HB.out.size))
              clear y10 hok hno hb3 hze hzf HC hus hlen hca hda
              go_wp2_with fail
              refine (HAW.out _).mono ?_
              rintro e w4 ⟨rfl, hb4⟩
              have HB4 := Lib.hid (HB3.out.trans (hb4.mono HB3.out.size))
              clear hb4
              go_wp2_with fail
              go_ret
              exact ⟨rfl, HB4.out⟩

set_option maxHeartbeats 8000000 in
theorem lim_walk2 (n : Int) (w : World) (h0 : 0 ≤ n) (h255 : n ≤ 255) (hR : n % 3 = 2) :
    Calls Try.prog 4 #[.int .u8 n] w fun e w' => e = .returned (.bool true) ∧ Below w.heap.size w w' := by
  have HAW := Lib.hid (fun V => awake5_any V)
  have W1 : IntKind.i64.wrap (127 + 2) = 129 := by decide
  have W2 : IntKind.i64.wrap (23 + 2) = 25 := by decide
  have W3 : IntKind.i64.wrap (31 + 2) = 33 := by decide
  go_enter Try.func4, Try.ntmps4
  go_wp2_with fail
  rw [hR]
  clear hR h0 h255
  go_loopw [4, 5] (fun v q wr => ∃ (i : Nat) (u : ByteArray), v = .string u ∧ q = .int .i64 ((i + 1 : Nat) : Int) ∧ i ≤ 128 ∧ Hid (bytesL u = 102 :: twos 32 120 i) ∧ u.size ≤ 1 + 2 * i ∧ Below w.heap.size w wr)
    (fun _ q _ => 129 - (intOf q).toNat)
  case atStart => exact ⟨0, _, rfl, rfl, Nat.zero_le _, Lib.hid rfl, by decide, Below.refl _ _⟩
  case round =>
    obtain ⟨i, u, rfl, rfl, hi, HU, hus, hB⟩ := hrel
    have HB := Lib.hid hB
    clear hB
    by_cases hlt : i < 128
    · have hd2 : decide (((i + 1 : Nat) : Int) < 129) = true := decide_eq_true (by omega)
      have w1' : IntKind.i64.wrap (((i + 1 : Nat) : Int) + 1) = ((i + 1 + 1 : Nat) : Int) := by rw [IntWalk.i64_in _ (by omega)]; omega
      have HU2 : Hid (bytesL (u ++ ⟨#[32, 120]⟩) = 102 :: twos 32 120 (i + 1)) := Lib.hid (by rw [bytesL_app2, HU.out, twos_succ]; rfl)
      have hus2 : (u ++ ⟨#[32, 120]⟩ : ByteArray).size ≤ 1 + 2 * (i + 1) := by
        rw [ByteArray.size_append]
        show u.size + 2 ≤ _
        omega
      have HLT := Lib.hid hlt
      clear HU
      go_wp2_with fail
      refine ⟨⟨i + 1, _, rfl, by first | rfl | go_num, hlt, HU2, hus2, HB.out⟩, ?_⟩
      have := HLT.out
      simp [intOf] <;> omega
    · obtain rfl : i = 128 := by omega
      have hd2 : decide (((128 + 1 : Nat) : Int) < 129) = false := by decide
      have HUE : Hid (bytesL u = pcsL (limE 128)) := Lib.hid (by rw [limE_is2]; exact HU.out)
      obtain ⟨t, z, hze, hzf, HC⟩ := limE_says (m := 127) HUE.out limE_ok.2.2 (lim_asc 2 (by omega)).1 (lim_len 2 (by omega)).1 (by omega) lim_true.2.2
      have HC := Lib.hid HC
      clear HU HUE hlt hi
      go_wp2_with fail
      refine (HC.out _).mono ?_
      rintro e w1 ⟨hb1, hok, hno⟩
      have h1 := hno (by rw [hze]; decide)
      rw [hze, hzf] at h1
      subst h1
      have HB1 := Lib.hid (HB.out.trans (hb1.mono HB.out.size))
      clear hok hno hb1 hze hzf HC hus
      go_wp2_with fail
      go_loopw [9, 10] (fun v q wr => ∃ (i : Nat) (u : ByteArray), v = .string u ∧ q = .int .i64 (i : Int) ∧ i ≤ 25 ∧ Hid (bytesL u = twos 120 32 i) ∧ u.size ≤ 2 * i ∧ Below w.heap.size w wr)
        (fun _ q _ => 25 - (intOf q).toNat)
      case atStart => exact ⟨0, _, rfl, rfl, Nat.zero_le _, Lib.hid rfl, by decide, HB1.out.alloc HB1.out.size _⟩
      case round =>
        obtain ⟨i, u, rfl, rfl, hi, HU, hus, hB⟩ := hrel
        have HB := Lib.hid hB
        clear hB
        by_cases hlt : i < 25
        · have hd2 : decide ((i : Int) < 25) = true := decide_eq_true (by omega)
          have HU2 : Hid (bytesL (u ++ ⟨#[120, 32]⟩) = twos 120 32 (i + 1)) := Lib.hid (by rw [bytesL_app2, HU.out, twos_succ]; rfl)
          have hus2 : (u ++ ⟨#[120, 32]⟩ : ByteArray).size ≤ 2 * (i + 1) := by
            rw [ByteArray.size_append]
            show u.size + 2 ≤ _
            omega
          have HLT := Lib.hid hlt
          clear HU
          go_wp2_with fail
          refine ⟨⟨i + 1, _, rfl, by first | rfl | go_num, hlt, HU2, hus2, HB.out⟩, ?_⟩
          have := HLT.out
          simp [intOf] <;> omega
        · obtain rfl : i = 25 := by omega
          have HUE : Hid (bytesL u = pcsL (limP 25)) := Lib.hid (by rw [limP_is2]; exact HU.out)
          obtain ⟨l, z, hze, hzf, hlen, HC⟩ := limP_says (m := 24) HUE.out limP_ok.2.2 (lim_asc 2 (by omega)).2.1 (lim_len 2 (by omega)).2.1 (by omega) limP_true.2.2
          have HC := Lib.hid HC
          clear HU HUE hlt hi
          go_wp2_with fail
          refine (HC.out _).mono ?_
          rintro e w2 ⟨hb2, hok, hno⟩
          have h1 := hno (by rw [hze]; decide)
          rw [hze, hzf] at h1
          subst h1
          have HB2 := Lib.hid (HB.out.trans (hb2.mono HB.out.size))
          clear hok hno hb2 hze hzf HC hus hlen
          go_wp2_with fail
          go_loopw [14, 15] (fun v q wr => ∃ (i : Nat) (u : ByteArray), v = .string u ∧ q = .int .i64 (i : Int) ∧ i ≤ 33 ∧ Hid (bytesL u = [100, 101, 102, 32, 102, 32, 58, 32, 83, 101, 116, 32, 123] ++ twos 120 59 i) ∧ u.size ≤ 13 + 2 * i ∧ Below w.heap.size w wr)
            (fun _ q _ => 33 - (intOf q).toNat)
          case atStart => exact ⟨0, _, rfl, rfl, Nat.zero_le _, Lib.hid rfl, by decide, HB2.out⟩
          case round =>
            obtain ⟨i, u, rfl, rfl, hi, HU, hus, hB⟩ := hrel
            have HB := Lib.hid hB
            clear hB
            by_cases hlt : i < 33
            · have hd2 : decide ((i : Int) < 33) = true := decide_eq_true (by omega)
              have HU2 : Hid (bytesL (u ++ ⟨#[120, 59]⟩) = [100, 101, 102, 32, 102, 32, 58, 32, 83, 101, 116, 32, 123] ++ twos 120 59 (i + 1)) := Lib.hid (by rw [bytesL_app2, HU.out, twos_succ, List.append_assoc]; rfl)
              have hus2 : (u ++ ⟨#[120, 59]⟩ : ByteArray).size ≤ 13 + 2 * (i + 1) := by
                rw [ByteArray.size_append]
                show u.size + 2 ≤ _
                omega
              have HLT := Lib.hid hlt
              clear HU
              go_wp2_with fail
              refine ⟨⟨i + 1, _, rfl, by first | rfl | go_num, hlt, HU2, hus2, HB.out⟩, ?_⟩
              have := HLT.out
              simp [intOf] <;> omega
            · obtain rfl : i = 33 := by omega
              have HUE : Hid (bytesL (u ++ ⟨#[125]⟩) = pcsL (limD 33)) := Lib.hid (by rw [limD_is2, bytesL_app2, HU.out, List.append_assoc]; rfl)
              obtain ⟨d, z, hze, hzf, hlen, HC⟩ := limD_says (m := 33) HUE.out limD_ok.2.2 (lim_asc 2 (by omega)).2.2 (lim_len 2 (by omega)).2.2 (by decide) (by omega) limD_true.2.2
              have HC := Lib.hid HC
              clear HU HUE hlt hi
              go_wp2_with fail
              refine (HC.out _).mono ?_
              rintro e w3 ⟨hb3, hok, hno⟩
              have h1 := hno (by rw [hze]; decide)
              rw [hze, hzf] at h1
              subst h1
              have HB3 := Lib.hid (HB.out.trans (hb3.mono HB.out.size))
              clear hok hno hb3 hze hzf HC hus hlen
              go_wp2_with fail
              refine (HAW.out _).mono ?_
              rintro e w4 ⟨rfl, hb4⟩
              have HB4 := Lib.hid (HB3.out.trans (hb4.mono HB3.out.size))
              clear hb4
              go_wp2_with fail
              go_ret
              exact ⟨rfl, HB4.out⟩

theorem lim_any (n : Int) (w : World) (hn : (Lit.int .u8 n).wf = true) :
    Calls Try.prog 4 #[.int .u8 n] w fun e w' => e = .returned (.bool true) ∧ Below w.heap.size w w' := by
  have hm0 : 0 ≤ n ∧ n ≤ 255 := by simpa [Lit.wf, IntKind.min, IntKind.max, IntKind.signed, IntKind.bits] using hn
  obtain ⟨h0, h255⟩ := hm0
  have h3 : n % 3 = 0 ∨ n % 3 = 1 ∨ n % 3 = 2 := by omega
  rcases h3 with h3 | h3 | h3
  · exact lim_walk0 n w h0 h255 h3
  · exact lim_walk1 n w h0 h255 h3
  · exact lim_walk2 n w h0 h255 h3

end Go.Proofs.Ytkccjfbgepmfkaa
