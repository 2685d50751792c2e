/- scholiumref01.number tells, of one to four bytes, the sign whose bytes they are, or -1: in terms of 'numV'; nothing that was there is written. -/
import Derived.Test.YtmaomnpanfdjeaaDoorRefPut
import Derived.Test.YtmaomnpanfdjeaaDoorStr
import Derived.WalkSpells
namespace Go.Proofs.YtmaomnpanfdjeaaDoor
open Go.RowKit
set_option maxRecDepth 100000
set_option linter.unusedVariables false

theorem num1_r (t : ByteArray) (w : World) (ht : t.size = 1) (b0 : Int) (g0 : (t[0].toNat : Int) = b0) (lo0 : 0 ≤ b0) (hi0 : b0 ≤ 255)  (hr : rightB (b0) = false) :
    Calls Tryd.prog 82 #[.string t] w fun e w' => e = .returned (.int .i64 (-1)) ∧ Below w.heap.size w w' := by
  go_enter Tryd.func82, Tryd.ntmps82
  go_wp2_with fail
  refine wp_loop_rounds 1 ?_
  rw [rounds_succ]
  go_wp2_with fail
  refine (refRight_any _ _).mono ?_; rintro e w' ⟨rfl, rfl⟩
  rw [hr]
  go_wp2_with fail
  go_ret
  exact ⟨rfl, (Below.refl _ _).alloc (Nat.le_refl _) _⟩

theorem num1_s (t : ByteArray) (w : World) (ht : t.size = 1) (b0 : Int) (g0 : (t[0].toNat : Int) = b0) (lo0 : 0 ≤ b0) (hi0 : b0 ≤ 255)  (hr : rightB (b0) = true) (hs : ((enc (b0)).toList == t.toList) = false) :
    Calls Tryd.prog 82 #[.string t] w fun e w' => e = .returned (.int .i64 (-1)) ∧ Below w.heap.size w w' := by
  have hb := rightB_true.1 hr
  obtain ⟨hb0, hb1, -⟩ := hb
  go_enter Tryd.func82, Tryd.ntmps82
  go_wp2_with fail
  refine wp_loop_rounds 1 ?_
  rw [rounds_succ]
  go_wp2_with fail
  refine (refRight_any _ _).mono ?_; rintro e w' ⟨rfl, rfl⟩
  rw [hr]
  go_wp2_with fail
  refine (refPut_any _ _ (by omega) (by omega)).mono ?_; rintro e w2 ⟨rfl, hB⟩
  go_wp2_with fail
  go_ret
  exact ⟨rfl, ((Below.refl _ _).alloc (Nat.le_refl _) _).trans (hB.mono (by simp))⟩

theorem num1_ok (t : ByteArray) (w : World) (ht : t.size = 1) (b0 : Int) (g0 : (t[0].toNat : Int) = b0) (lo0 : 0 ≤ b0) (hi0 : b0 ≤ 255)  (hr : rightB (b0) = true) (hs : ((enc (b0)).toList == t.toList) = true) :
    Calls Tryd.prog 82 #[.string t] w fun e w' => e = .returned (.int .i64 (b0)) ∧ Below w.heap.size w w' := by
  have hb := rightB_true.1 hr
  obtain ⟨hb0, hb1, -⟩ := hb
  go_enter Tryd.func82, Tryd.ntmps82
  go_wp2_with fail
  refine wp_loop_rounds 1 ?_
  rw [rounds_succ]
  go_wp2_with fail
  refine (refRight_any _ _).mono ?_; rintro e w' ⟨rfl, rfl⟩
  rw [hr]
  go_wp2_with fail
  refine (refPut_any _ _ (by omega) (by omega)).mono ?_; rintro e w2 ⟨rfl, hB⟩
  go_wp2_with fail
  go_ret
  exact ⟨rfl, ((Below.refl _ _).alloc (Nat.le_refl _) _).trans (hB.mono (by simp))⟩

theorem num2_neg (t : ByteArray) (w : World) (ht : t.size = 2) (b0 c1 : Int) (g0 : (t[0].toNat : Int) = b0) (lo0 : 0 ≤ b0) (hi0 : b0 ≤ 255) (g1 : (t[1].toNat : Int) = c1) (lo1 : 0 ≤ c1) (hi1 : c1 ≤ 255) (hn : b0 < 192) :
    Calls Tryd.prog 82 #[.string t] w fun e w' => e = .returned (.int .i64 (-1)) ∧ Below w.heap.size w w' := by
  go_enter Tryd.func82, Tryd.ntmps82
  go_wp2_with fail
  go_ret
  exact ⟨rfl, (Below.refl _ _).alloc (Nat.le_refl _) _⟩

theorem num2_r (t : ByteArray) (w : World) (ht : t.size = 2) (b0 c1 : Int) (g0 : (t[0].toNat : Int) = b0) (lo0 : 0 ≤ b0) (hi0 : b0 ≤ 255) (g1 : (t[1].toNat : Int) = c1) (lo1 : 0 ≤ c1) (hi1 : c1 ≤ 255) (hn : 192 ≤ b0) (hr : rightB ((b0 - 192) * 64 + c1 - 128) = false) :
    Calls Tryd.prog 82 #[.string t] w fun e w' => e = .returned (.int .i64 (-1)) ∧ Below w.heap.size w w' := by
  go_enter Tryd.func82, Tryd.ntmps82
  go_wp2_with fail
  refine wp_loop_rounds 2 ?_
  rw [rounds_succ]
  go_wp2_with fail
  rw [rounds_succ]
  go_wp2_with fail
  refine (refRight_any _ _).mono ?_; rintro e w' ⟨rfl, rfl⟩
  rw [hr]
  go_wp2_with fail
  go_ret
  exact ⟨rfl, (Below.refl _ _).alloc (Nat.le_refl _) _⟩

theorem num2_s (t : ByteArray) (w : World) (ht : t.size = 2) (b0 c1 : Int) (g0 : (t[0].toNat : Int) = b0) (lo0 : 0 ≤ b0) (hi0 : b0 ≤ 255) (g1 : (t[1].toNat : Int) = c1) (lo1 : 0 ≤ c1) (hi1 : c1 ≤ 255) (hn : 192 ≤ b0) (hr : rightB ((b0 - 192) * 64 + c1 - 128) = true) (hs : ((enc ((b0 - 192) * 64 + c1 - 128)).toList == t.toList) = false) :
    Calls Tryd.prog 82 #[.string t] w fun e w' => e = .returned (.int .i64 (-1)) ∧ Below w.heap.size w w' := by
  have hb := rightB_true.1 hr
  obtain ⟨hb0, hb1, -⟩ := hb
  go_enter Tryd.func82, Tryd.ntmps82
  go_wp2_with fail
  refine wp_loop_rounds 2 ?_
  rw [rounds_succ]
  go_wp2_with fail
  rw [rounds_succ]
  go_wp2_with fail
  refine (refRight_any _ _).mono ?_; rintro e w' ⟨rfl, rfl⟩
  rw [hr]
  go_wp2_with fail
  refine (refPut_any _ _ (by omega) (by omega)).mono ?_; rintro e w2 ⟨rfl, hB⟩
  go_wp2_with fail
  go_ret
  exact ⟨rfl, ((Below.refl _ _).alloc (Nat.le_refl _) _).trans (hB.mono (by simp))⟩

theorem num2_ok (t : ByteArray) (w : World) (ht : t.size = 2) (b0 c1 : Int) (g0 : (t[0].toNat : Int) = b0) (lo0 : 0 ≤ b0) (hi0 : b0 ≤ 255) (g1 : (t[1].toNat : Int) = c1) (lo1 : 0 ≤ c1) (hi1 : c1 ≤ 255) (hn : 192 ≤ b0) (hr : rightB ((b0 - 192) * 64 + c1 - 128) = true) (hs : ((enc ((b0 - 192) * 64 + c1 - 128)).toList == t.toList) = true) :
    Calls Tryd.prog 82 #[.string t] w fun e w' => e = .returned (.int .i64 ((b0 - 192) * 64 + c1 - 128)) ∧ Below w.heap.size w w' := by
  have hb := rightB_true.1 hr
  obtain ⟨hb0, hb1, -⟩ := hb
  go_enter Tryd.func82, Tryd.ntmps82
  go_wp2_with fail
  refine wp_loop_rounds 2 ?_
  rw [rounds_succ]
  go_wp2_with fail
  rw [rounds_succ]
  go_wp2_with fail
  refine (refRight_any _ _).mono ?_; rintro e w' ⟨rfl, rfl⟩
  rw [hr]
  go_wp2_with fail
  refine (refPut_any _ _ (by omega) (by omega)).mono ?_; rintro e w2 ⟨rfl, hB⟩
  go_wp2_with fail
  go_ret
  exact ⟨rfl, ((Below.refl _ _).alloc (Nat.le_refl _) _).trans (hB.mono (by simp))⟩

theorem num3_neg (t : ByteArray) (w : World) (ht : t.size = 3) (b0 c1 c2 : Int) (g0 : (t[0].toNat : Int) = b0) (lo0 : 0 ≤ b0) (hi0 : b0 ≤ 255) (g1 : (t[1].toNat : Int) = c1) (lo1 : 0 ≤ c1) (hi1 : c1 ≤ 255) (g2 : (t[2].toNat : Int) = c2) (lo2 : 0 ≤ c2) (hi2 : c2 ≤ 255) (hn : b0 < 224) :
    Calls Tryd.prog 82 #[.string t] w fun e w' => e = .returned (.int .i64 (-1)) ∧ Below w.heap.size w w' := by
  go_enter Tryd.func82, Tryd.ntmps82
  go_wp2_with fail
  go_ret
  exact ⟨rfl, (Below.refl _ _).alloc (Nat.le_refl _) _⟩

theorem num3_r (t : ByteArray) (w : World) (ht : t.size = 3) (b0 c1 c2 : Int) (g0 : (t[0].toNat : Int) = b0) (lo0 : 0 ≤ b0) (hi0 : b0 ≤ 255) (g1 : (t[1].toNat : Int) = c1) (lo1 : 0 ≤ c1) (hi1 : c1 ≤ 255) (g2 : (t[2].toNat : Int) = c2) (lo2 : 0 ≤ c2) (hi2 : c2 ≤ 255) (hn : 224 ≤ b0) (hr : rightB (((b0 - 224) * 64 + c1 - 128) * 64 + c2 - 128) = false) :
    Calls Tryd.prog 82 #[.string t] w fun e w' => e = .returned (.int .i64 (-1)) ∧ Below w.heap.size w w' := by
  go_enter Tryd.func82, Tryd.ntmps82
  go_wp2_with fail
  refine wp_loop_rounds 3 ?_
  rw [rounds_succ]
  go_wp2_with fail
  rw [rounds_succ]
  go_wp2_with fail
  rw [rounds_succ]
  go_wp2_with fail
  refine (refRight_any _ _).mono ?_; rintro e w' ⟨rfl, rfl⟩
  rw [hr]
  go_wp2_with fail
  go_ret
  exact ⟨rfl, (Below.refl _ _).alloc (Nat.le_refl _) _⟩

theorem num3_s (t : ByteArray) (w : World) (ht : t.size = 3) (b0 c1 c2 : Int) (g0 : (t[0].toNat : Int) = b0) (lo0 : 0 ≤ b0) (hi0 : b0 ≤ 255) (g1 : (t[1].toNat : Int) = c1) (lo1 : 0 ≤ c1) (hi1 : c1 ≤ 255) (g2 : (t[2].toNat : Int) = c2) (lo2 : 0 ≤ c2) (hi2 : c2 ≤ 255) (hn : 224 ≤ b0) (hr : rightB (((b0 - 224) * 64 + c1 - 128) * 64 + c2 - 128) = true) (hs : ((enc (((b0 - 224) * 64 + c1 - 128) * 64 + c2 - 128)).toList == t.toList) = false) :
    Calls Tryd.prog 82 #[.string t] w fun e w' => e = .returned (.int .i64 (-1)) ∧ Below w.heap.size w w' := by
  have hb := rightB_true.1 hr
  obtain ⟨hb0, hb1, -⟩ := hb
  go_enter Tryd.func82, Tryd.ntmps82
  go_wp2_with fail
  refine wp_loop_rounds 3 ?_
  rw [rounds_succ]
  go_wp2_with fail
  rw [rounds_succ]
  go_wp2_with fail
  rw [rounds_succ]
  go_wp2_with fail
  refine (refRight_any _ _).mono ?_; rintro e w' ⟨rfl, rfl⟩
  rw [hr]
  go_wp2_with fail
  refine (refPut_any _ _ (by omega) (by omega)).mono ?_; rintro e w2 ⟨rfl, hB⟩
  go_wp2_with fail
  go_ret
  exact ⟨rfl, ((Below.refl _ _).alloc (Nat.le_refl _) _).trans (hB.mono (by simp))⟩

theorem num3_ok (t : ByteArray) (w : World) (ht : t.size = 3) (b0 c1 c2 : Int) (g0 : (t[0].toNat : Int) = b0) (lo0 : 0 ≤ b0) (hi0 : b0 ≤ 255) (g1 : (t[1].toNat : Int) = c1) (lo1 : 0 ≤ c1) (hi1 : c1 ≤ 255) (g2 : (t[2].toNat : Int) = c2) (lo2 : 0 ≤ c2) (hi2 : c2 ≤ 255) (hn : 224 ≤ b0) (hr : rightB (((b0 - 224) * 64 + c1 - 128) * 64 + c2 - 128) = true) (hs : ((enc (((b0 - 224) * 64 + c1 - 128) * 64 + c2 - 128)).toList == t.toList) = true) :
    Calls Tryd.prog 82 #[.string t] w fun e w' => e = .returned (.int .i64 (((b0 - 224) * 64 + c1 - 128) * 64 + c2 - 128)) ∧ Below w.heap.size w w' := by
  have hb := rightB_true.1 hr
  obtain ⟨hb0, hb1, -⟩ := hb
  go_enter Tryd.func82, Tryd.ntmps82
  go_wp2_with fail
  refine wp_loop_rounds 3 ?_
  rw [rounds_succ]
  go_wp2_with fail
  rw [rounds_succ]
  go_wp2_with fail
  rw [rounds_succ]
  go_wp2_with fail
  refine (refRight_any _ _).mono ?_; rintro e w' ⟨rfl, rfl⟩
  rw [hr]
  go_wp2_with fail
  refine (refPut_any _ _ (by omega) (by omega)).mono ?_; rintro e w2 ⟨rfl, hB⟩
  go_wp2_with fail
  go_ret
  exact ⟨rfl, ((Below.refl _ _).alloc (Nat.le_refl _) _).trans (hB.mono (by simp))⟩

theorem num4_neg (t : ByteArray) (w : World) (ht : t.size = 4) (b0 c1 c2 c3 : Int) (g0 : (t[0].toNat : Int) = b0) (lo0 : 0 ≤ b0) (hi0 : b0 ≤ 255) (g1 : (t[1].toNat : Int) = c1) (lo1 : 0 ≤ c1) (hi1 : c1 ≤ 255) (g2 : (t[2].toNat : Int) = c2) (lo2 : 0 ≤ c2) (hi2 : c2 ≤ 255) (g3 : (t[3].toNat : Int) = c3) (lo3 : 0 ≤ c3) (hi3 : c3 ≤ 255) (hn : b0 < 240) :
    Calls Tryd.prog 82 #[.string t] w fun e w' => e = .returned (.int .i64 (-1)) ∧ Below w.heap.size w w' := by
  go_enter Tryd.func82, Tryd.ntmps82
  go_wp2_with fail
  go_ret
  exact ⟨rfl, (Below.refl _ _).alloc (Nat.le_refl _) _⟩

theorem num4_r (t : ByteArray) (w : World) (ht : t.size = 4) (b0 c1 c2 c3 : Int) (g0 : (t[0].toNat : Int) = b0) (lo0 : 0 ≤ b0) (hi0 : b0 ≤ 255) (g1 : (t[1].toNat : Int) = c1) (lo1 : 0 ≤ c1) (hi1 : c1 ≤ 255) (g2 : (t[2].toNat : Int) = c2) (lo2 : 0 ≤ c2) (hi2 : c2 ≤ 255) (g3 : (t[3].toNat : Int) = c3) (lo3 : 0 ≤ c3) (hi3 : c3 ≤ 255) (hn : 240 ≤ b0) (hr : rightB ((((b0 - 240) * 64 + c1 - 128) * 64 + c2 - 128) * 64 + c3 - 128) = false) :
    Calls Tryd.prog 82 #[.string t] w fun e w' => e = .returned (.int .i64 (-1)) ∧ Below w.heap.size w w' := by
  go_enter Tryd.func82, Tryd.ntmps82
  go_wp2_with fail
  refine wp_loop_rounds 4 ?_
  rw [rounds_succ]
  go_wp2_with fail
  rw [rounds_succ]
  go_wp2_with fail
  rw [rounds_succ]
  go_wp2_with fail
  rw [rounds_succ]
  go_wp2_with fail
  refine (refRight_any _ _).mono ?_; rintro e w' ⟨rfl, rfl⟩
  rw [hr]
  go_wp2_with fail
  go_ret
  exact ⟨rfl, (Below.refl _ _).alloc (Nat.le_refl _) _⟩

theorem num4_s (t : ByteArray) (w : World) (ht : t.size = 4) (b0 c1 c2 c3 : Int) (g0 : (t[0].toNat : Int) = b0) (lo0 : 0 ≤ b0) (hi0 : b0 ≤ 255) (g1 : (t[1].toNat : Int) = c1) (lo1 : 0 ≤ c1) (hi1 : c1 ≤ 255) (g2 : (t[2].toNat : Int) = c2) (lo2 : 0 ≤ c2) (hi2 : c2 ≤ 255) (g3 : (t[3].toNat : Int) = c3) (lo3 : 0 ≤ c3) (hi3 : c3 ≤ 255) (hn : 240 ≤ b0) (hr : rightB ((((b0 - 240) * 64 + c1 - 128) * 64 + c2 - 128) * 64 + c3 - 128) = true) (hs : ((enc ((((b0 - 240) * 64 + c1 - 128) * 64 + c2 - 128) * 64 + c3 - 128)).toList == t.toList) = false) :
    Calls Tryd.prog 82 #[.string t] w fun e w' => e = .returned (.int .i64 (-1)) ∧ Below w.heap.size w w' := by
  have hb := rightB_true.1 hr
  obtain ⟨hb0, hb1, -⟩ := hb
  go_enter Tryd.func82, Tryd.ntmps82
  go_wp2_with fail
  refine wp_loop_rounds 4 ?_
  rw [rounds_succ]
  go_wp2_with fail
  rw [rounds_succ]
  go_wp2_with fail
  rw [rounds_succ]
  go_wp2_with fail
  rw [rounds_succ]
  go_wp2_with fail
  refine (refRight_any _ _).mono ?_; rintro e w' ⟨rfl, rfl⟩
  rw [hr]
  go_wp2_with fail
  refine (refPut_any _ _ (by omega) (by omega)).mono ?_; rintro e w2 ⟨rfl, hB⟩
  go_wp2_with fail
  go_ret
  exact ⟨rfl, ((Below.refl _ _).alloc (Nat.le_refl _) _).trans (hB.mono (by simp))⟩

theorem num4_ok (t : ByteArray) (w : World) (ht : t.size = 4) (b0 c1 c2 c3 : Int) (g0 : (t[0].toNat : Int) = b0) (lo0 : 0 ≤ b0) (hi0 : b0 ≤ 255) (g1 : (t[1].toNat : Int) = c1) (lo1 : 0 ≤ c1) (hi1 : c1 ≤ 255) (g2 : (t[2].toNat : Int) = c2) (lo2 : 0 ≤ c2) (hi2 : c2 ≤ 255) (g3 : (t[3].toNat : Int) = c3) (lo3 : 0 ≤ c3) (hi3 : c3 ≤ 255) (hn : 240 ≤ b0) (hr : rightB ((((b0 - 240) * 64 + c1 - 128) * 64 + c2 - 128) * 64 + c3 - 128) = true) (hs : ((enc ((((b0 - 240) * 64 + c1 - 128) * 64 + c2 - 128) * 64 + c3 - 128)).toList == t.toList) = true) :
    Calls Tryd.prog 82 #[.string t] w fun e w' => e = .returned (.int .i64 ((((b0 - 240) * 64 + c1 - 128) * 64 + c2 - 128) * 64 + c3 - 128)) ∧ Below w.heap.size w w' := by
  have hb := rightB_true.1 hr
  obtain ⟨hb0, hb1, -⟩ := hb
  go_enter Tryd.func82, Tryd.ntmps82
  go_wp2_with fail
  refine wp_loop_rounds 4 ?_
  rw [rounds_succ]
  go_wp2_with fail
  rw [rounds_succ]
  go_wp2_with fail
  rw [rounds_succ]
  go_wp2_with fail
  rw [rounds_succ]
  go_wp2_with fail
  refine (refRight_any _ _).mono ?_; rintro e w' ⟨rfl, rfl⟩
  rw [hr]
  go_wp2_with fail
  refine (refPut_any _ _ (by omega) (by omega)).mono ?_; rintro e w2 ⟨rfl, hB⟩
  go_wp2_with fail
  go_ret
  exact ⟨rfl, ((Below.refl _ _).alloc (Nat.le_refl _) _).trans (hB.mono (by simp))⟩

end Go.Proofs.YtmaomnpanfdjeaaDoor
