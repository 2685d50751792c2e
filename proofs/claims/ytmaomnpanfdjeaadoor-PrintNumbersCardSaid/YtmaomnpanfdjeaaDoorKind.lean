/- Of what kind a number is: name.kind, Blank, Digit, Mark, Letter and the document's plain Digit, Mark, Letter; which signs may stand in a name (name.within). For every number; nothing that was there is written. -/
import Derived.Test.YtmaomnpanfdjeaaDoorLeaf
import Derived.LoopTactic
import Derived.Below
import Derived.Lib.Hide
namespace Go.Proofs.YtmaomnpanfdjeaaDoor
open Go.RowKit
set_option linter.unusedVariables false

def blankB (n : Int) : Bool := decide (n = 9) || (decide (n = 10) || (decide (n = 13) || decide (n = 32)))
def digitB (n : Int) : Bool := decide (48 ≤ n) && decide (n ≤ 57)
def marks : List Int := [40, 41, 123, 125, 58, 61, 46, 44, 59, 124, 92, 955, 8594, 45, 62]
def markB (n : Int) : Bool := marks.contains n
def wideB (n : Int) : Bool := decide (127 < n) && (decide (n ≠ 160) && ((decide (n < 8192) || decide (8303 < n)) && rightB n))
def plainB (n : Int) : Bool := (decide (97 ≤ n) && decide (n ≤ 122)) || (decide (65 ≤ n) && decide (n ≤ 90))
def letterB (n : Int) : Bool := plainB n || (wideB n && !markB n)
def kindI (n : Int) : Int := if blankB n then 1 else if digitB n then 2 else if markB n then 3 else if letterB n then 4 else 0

theorem wide_any (n : Int) (w : World) : Calls Tryd.prog 93 #[.int .i64 n] w fun e w' => e = .returned (.bool (wideB n)) ∧ w = w' := by
  by_cases h1 : 127 < n
  · by_cases h2 : n = 160
    · subst h2
      go_enter Tryd.func93, Tryd.ntmps93
      go_wp2
      go_ret
      exact ⟨rfl, rfl⟩
    · by_cases h3 : n < 8192
      · have hb : wideB n = rightB n := by simp [wideB, h1, h2, h3]
        have h4 : ¬ 8303 < n := by omega
        rw [hb]; clear hb
        have e2 : (n == 160) = false := by simpa using h2
        have e3 : (n != 160) = true := by simpa using h2
        go_enter Tryd.func93, Tryd.ntmps93
        go_wp2_with fail
        refine (right_any _ _).mono ?_; rintro e w' ⟨rfl, rfl⟩
        go_wp2_with fail
        go_ret
        exact ⟨rfl, rfl⟩
      · by_cases h4 : 8303 < n
        · have hb : wideB n = rightB n := by simp [wideB, h1, h2, h4]
          rw [hb]; clear hb
          have e2 : (n == 160) = false := by simpa using h2
          have e3 : (n != 160) = true := by simpa using h2
          go_enter Tryd.func93, Tryd.ntmps93
          go_wp2_with fail
          refine (right_any _ _).mono ?_; rintro e w' ⟨rfl, rfl⟩
          go_wp2_with fail
          go_ret
          exact ⟨rfl, rfl⟩
        · have hb : wideB n = false := by simp [wideB, h3, h4]
          rw [hb]; clear hb
          have e2 : (n == 160) = false := by simpa using h2
          have e3 : (n != 160) = true := by simpa using h2
          go_enter Tryd.func93, Tryd.ntmps93
          go_wp2_with fail
          go_ret
          exact ⟨rfl, rfl⟩
  · have hb : wideB n = false := by simp [wideB, h1]
    rw [hb]; clear hb
    go_enter Tryd.func93, Tryd.ntmps93
    go_wp2_with fail
    go_ret
    exact ⟨rfl, rfl⟩

theorem kind_9 (w : World) : Calls Tryd.prog 90 #[.int .i64 9] w fun e w' => e = .returned (.int .i64 1) ∧ w = w' := by
  go_enter Tryd.func90, Tryd.ntmps90
  go_wp2
  go_ret
  exact ⟨rfl, rfl⟩
theorem kind_10 (w : World) : Calls Tryd.prog 90 #[.int .i64 10] w fun e w' => e = .returned (.int .i64 1) ∧ w = w' := by
  go_enter Tryd.func90, Tryd.ntmps90
  go_wp2
  go_ret
  exact ⟨rfl, rfl⟩
theorem kind_13 (w : World) : Calls Tryd.prog 90 #[.int .i64 13] w fun e w' => e = .returned (.int .i64 1) ∧ w = w' := by
  go_enter Tryd.func90, Tryd.ntmps90
  go_wp2
  go_ret
  exact ⟨rfl, rfl⟩
theorem kind_32 (w : World) : Calls Tryd.prog 90 #[.int .i64 32] w fun e w' => e = .returned (.int .i64 1) ∧ w = w' := by
  go_enter Tryd.func90, Tryd.ntmps90
  go_wp2
  go_ret
  exact ⟨rfl, rfl⟩
theorem kind_40 (w : World) : Calls Tryd.prog 90 #[.int .i64 40] w fun e w' => e = .returned (.int .i64 3) ∧ w = w' := by
  go_enter Tryd.func90, Tryd.ntmps90
  go_wp2
  go_ret
  exact ⟨rfl, rfl⟩
theorem kind_41 (w : World) : Calls Tryd.prog 90 #[.int .i64 41] w fun e w' => e = .returned (.int .i64 3) ∧ w = w' := by
  go_enter Tryd.func90, Tryd.ntmps90
  go_wp2
  go_ret
  exact ⟨rfl, rfl⟩
theorem kind_123 (w : World) : Calls Tryd.prog 90 #[.int .i64 123] w fun e w' => e = .returned (.int .i64 3) ∧ w = w' := by
  go_enter Tryd.func90, Tryd.ntmps90
  go_wp2
  go_ret
  exact ⟨rfl, rfl⟩
theorem kind_125 (w : World) : Calls Tryd.prog 90 #[.int .i64 125] w fun e w' => e = .returned (.int .i64 3) ∧ w = w' := by
  go_enter Tryd.func90, Tryd.ntmps90
  go_wp2
  go_ret
  exact ⟨rfl, rfl⟩
theorem kind_58 (w : World) : Calls Tryd.prog 90 #[.int .i64 58] w fun e w' => e = .returned (.int .i64 3) ∧ w = w' := by
  go_enter Tryd.func90, Tryd.ntmps90
  go_wp2
  go_ret
  exact ⟨rfl, rfl⟩
theorem kind_61 (w : World) : Calls Tryd.prog 90 #[.int .i64 61] w fun e w' => e = .returned (.int .i64 3) ∧ w = w' := by
  go_enter Tryd.func90, Tryd.ntmps90
  go_wp2
  go_ret
  exact ⟨rfl, rfl⟩
theorem kind_46 (w : World) : Calls Tryd.prog 90 #[.int .i64 46] w fun e w' => e = .returned (.int .i64 3) ∧ w = w' := by
  go_enter Tryd.func90, Tryd.ntmps90
  go_wp2
  go_ret
  exact ⟨rfl, rfl⟩
theorem kind_44 (w : World) : Calls Tryd.prog 90 #[.int .i64 44] w fun e w' => e = .returned (.int .i64 3) ∧ w = w' := by
  go_enter Tryd.func90, Tryd.ntmps90
  go_wp2
  go_ret
  exact ⟨rfl, rfl⟩
theorem kind_59 (w : World) : Calls Tryd.prog 90 #[.int .i64 59] w fun e w' => e = .returned (.int .i64 3) ∧ w = w' := by
  go_enter Tryd.func90, Tryd.ntmps90
  go_wp2
  go_ret
  exact ⟨rfl, rfl⟩
theorem kind_124 (w : World) : Calls Tryd.prog 90 #[.int .i64 124] w fun e w' => e = .returned (.int .i64 3) ∧ w = w' := by
  go_enter Tryd.func90, Tryd.ntmps90
  go_wp2
  go_ret
  exact ⟨rfl, rfl⟩
theorem kind_92 (w : World) : Calls Tryd.prog 90 #[.int .i64 92] w fun e w' => e = .returned (.int .i64 3) ∧ w = w' := by
  go_enter Tryd.func90, Tryd.ntmps90
  go_wp2
  go_ret
  exact ⟨rfl, rfl⟩
theorem kind_45 (w : World) : Calls Tryd.prog 90 #[.int .i64 45] w fun e w' => e = .returned (.int .i64 3) ∧ w = w' := by
  go_enter Tryd.func90, Tryd.ntmps90
  go_wp2
  go_ret
  exact ⟨rfl, rfl⟩
theorem kind_62 (w : World) : Calls Tryd.prog 90 #[.int .i64 62] w fun e w' => e = .returned (.int .i64 3) ∧ w = w' := by
  go_enter Tryd.func90, Tryd.ntmps90
  go_wp2
  go_ret
  exact ⟨rfl, rfl⟩
theorem kind_955 (w : World) : Calls Tryd.prog 90 #[.int .i64 955] w fun e w' => e = .returned (.int .i64 3) ∧ w = w' := by
  go_enter Tryd.func90, Tryd.ntmps90
  go_wp2
  go_ret
  exact ⟨rfl, rfl⟩
theorem kind_8594 (w : World) : Calls Tryd.prog 90 #[.int .i64 8594] w fun e w' => e = .returned (.int .i64 3) ∧ w = w' := by
  go_enter Tryd.func90, Tryd.ntmps90
  go_wp2
  go_ret
  exact ⟨rfl, rfl⟩

theorem kind_digit (n : Int) (w : World) (e9 : (n == 9) = false) (e10 : (n == 10) = false) (e13 : (n == 13) = false) (e32 : (n == 32) = false) (e40 : (n == 40) = false) (e41 : (n == 41) = false) (e123 : (n == 123) = false) (e125 : (n == 125) = false) (e58 : (n == 58) = false) (e61 : (n == 61) = false) (e46 : (n == 46) = false) (e44 : (n == 44) = false) (e59 : (n == 59) = false) (e124 : (n == 124) = false) (e92 : (n == 92) = false) (e45 : (n == 45) = false) (e62 : (n == 62) = false) (e955 : (n == 955) = false) (e8594 : (n == 8594) = false) (a : 48 ≤ n) (b : n ≤ 57) : Calls Tryd.prog 90 #[.int .i64 n] w fun e w' => e = .returned (.int .i64 2) ∧ w = w' := by
  go_enter Tryd.func90, Tryd.ntmps90
  go_wp2_with fail
  go_ret
  exact ⟨rfl, rfl⟩

theorem kind_upper (n : Int) (w : World) (e9 : (n == 9) = false) (e10 : (n == 10) = false) (e13 : (n == 13) = false) (e32 : (n == 32) = false) (e40 : (n == 40) = false) (e41 : (n == 41) = false) (e123 : (n == 123) = false) (e125 : (n == 125) = false) (e58 : (n == 58) = false) (e61 : (n == 61) = false) (e46 : (n == 46) = false) (e44 : (n == 44) = false) (e59 : (n == 59) = false) (e124 : (n == 124) = false) (e92 : (n == 92) = false) (e45 : (n == 45) = false) (e62 : (n == 62) = false) (e955 : (n == 955) = false) (e8594 : (n == 8594) = false) (a : 65 ≤ n) (b : n ≤ 90) : Calls Tryd.prog 90 #[.int .i64 n] w fun e w' => e = .returned (.int .i64 4) ∧ w = w' := by
  go_enter Tryd.func90, Tryd.ntmps90
  go_wp2_with fail
  go_ret
  exact ⟨rfl, rfl⟩

theorem kind_lower (n : Int) (w : World) (e9 : (n == 9) = false) (e10 : (n == 10) = false) (e13 : (n == 13) = false) (e32 : (n == 32) = false) (e40 : (n == 40) = false) (e41 : (n == 41) = false) (e123 : (n == 123) = false) (e125 : (n == 125) = false) (e58 : (n == 58) = false) (e61 : (n == 61) = false) (e46 : (n == 46) = false) (e44 : (n == 44) = false) (e59 : (n == 59) = false) (e124 : (n == 124) = false) (e92 : (n == 92) = false) (e45 : (n == 45) = false) (e62 : (n == 62) = false) (e955 : (n == 955) = false) (e8594 : (n == 8594) = false) (a : 97 ≤ n) (b : n ≤ 122) : Calls Tryd.prog 90 #[.int .i64 n] w fun e w' => e = .returned (.int .i64 4) ∧ w = w' := by
  go_enter Tryd.func90, Tryd.ntmps90
  go_wp2_with fail
  go_ret
  exact ⟨rfl, rfl⟩

theorem kind_r1 (n : Int) (w : World) (e9 : (n == 9) = false) (e10 : (n == 10) = false) (e13 : (n == 13) = false) (e32 : (n == 32) = false) (e40 : (n == 40) = false) (e41 : (n == 41) = false) (e123 : (n == 123) = false) (e125 : (n == 125) = false) (e58 : (n == 58) = false) (e61 : (n == 61) = false) (e46 : (n == 46) = false) (e44 : (n == 44) = false) (e59 : (n == 59) = false) (e124 : (n == 124) = false) (e92 : (n == 92) = false) (e45 : (n == 45) = false) (e62 : (n == 62) = false) (e955 : (n == 955) = false) (e8594 : (n == 8594) = false) (a : n < 48) (hw : wideB n = false) : Calls Tryd.prog 90 #[.int .i64 n] w fun e w' => e = .returned (.int .i64 0) ∧ w = w' := by
  go_enter Tryd.func90, Tryd.ntmps90
  go_wp2_with fail
  refine (wide_any _ _).mono ?_; rintro e w' ⟨rfl, rfl⟩
  rw [hw]
  go_wp2_with fail
  go_ret
  exact ⟨rfl, rfl⟩

theorem kind_r2 (n : Int) (w : World) (e9 : (n == 9) = false) (e10 : (n == 10) = false) (e13 : (n == 13) = false) (e32 : (n == 32) = false) (e40 : (n == 40) = false) (e41 : (n == 41) = false) (e123 : (n == 123) = false) (e125 : (n == 125) = false) (e58 : (n == 58) = false) (e61 : (n == 61) = false) (e46 : (n == 46) = false) (e44 : (n == 44) = false) (e59 : (n == 59) = false) (e124 : (n == 124) = false) (e92 : (n == 92) = false) (e45 : (n == 45) = false) (e62 : (n == 62) = false) (e955 : (n == 955) = false) (e8594 : (n == 8594) = false) (a : 57 < n) (b : n < 65) (hw : wideB n = false) : Calls Tryd.prog 90 #[.int .i64 n] w fun e w' => e = .returned (.int .i64 0) ∧ w = w' := by
  go_enter Tryd.func90, Tryd.ntmps90
  go_wp2_with fail
  refine (wide_any _ _).mono ?_; rintro e w' ⟨rfl, rfl⟩
  rw [hw]
  go_wp2_with fail
  go_ret
  exact ⟨rfl, rfl⟩

theorem kind_r3 (n : Int) (w : World) (e9 : (n == 9) = false) (e10 : (n == 10) = false) (e13 : (n == 13) = false) (e32 : (n == 32) = false) (e40 : (n == 40) = false) (e41 : (n == 41) = false) (e123 : (n == 123) = false) (e125 : (n == 125) = false) (e58 : (n == 58) = false) (e61 : (n == 61) = false) (e46 : (n == 46) = false) (e44 : (n == 44) = false) (e59 : (n == 59) = false) (e124 : (n == 124) = false) (e92 : (n == 92) = false) (e45 : (n == 45) = false) (e62 : (n == 62) = false) (e955 : (n == 955) = false) (e8594 : (n == 8594) = false) (a : 90 < n) (b : n < 97) (hw : wideB n = false) : Calls Tryd.prog 90 #[.int .i64 n] w fun e w' => e = .returned (.int .i64 0) ∧ w = w' := by
  go_enter Tryd.func90, Tryd.ntmps90
  go_wp2_with fail
  refine (wide_any _ _).mono ?_; rintro e w' ⟨rfl, rfl⟩
  rw [hw]
  go_wp2_with fail
  go_ret
  exact ⟨rfl, rfl⟩

theorem kind_r4 (n : Int) (w : World) (e9 : (n == 9) = false) (e10 : (n == 10) = false) (e13 : (n == 13) = false) (e32 : (n == 32) = false) (e40 : (n == 40) = false) (e41 : (n == 41) = false) (e123 : (n == 123) = false) (e125 : (n == 125) = false) (e58 : (n == 58) = false) (e61 : (n == 61) = false) (e46 : (n == 46) = false) (e44 : (n == 44) = false) (e59 : (n == 59) = false) (e124 : (n == 124) = false) (e92 : (n == 92) = false) (e45 : (n == 45) = false) (e62 : (n == 62) = false) (e955 : (n == 955) = false) (e8594 : (n == 8594) = false) (a : 122 < n) (hw : wideB n = false) : Calls Tryd.prog 90 #[.int .i64 n] w fun e w' => e = .returned (.int .i64 0) ∧ w = w' := by
  go_enter Tryd.func90, Tryd.ntmps90
  go_wp2_with fail
  refine (wide_any _ _).mono ?_; rintro e w' ⟨rfl, rfl⟩
  rw [hw]
  go_wp2_with fail
  go_ret
  exact ⟨rfl, rfl⟩

theorem kind_r5 (n : Int) (w : World) (e9 : (n == 9) = false) (e10 : (n == 10) = false) (e13 : (n == 13) = false) (e32 : (n == 32) = false) (e40 : (n == 40) = false) (e41 : (n == 41) = false) (e123 : (n == 123) = false) (e125 : (n == 125) = false) (e58 : (n == 58) = false) (e61 : (n == 61) = false) (e46 : (n == 46) = false) (e44 : (n == 44) = false) (e59 : (n == 59) = false) (e124 : (n == 124) = false) (e92 : (n == 92) = false) (e45 : (n == 45) = false) (e62 : (n == 62) = false) (e955 : (n == 955) = false) (e8594 : (n == 8594) = false) (a : 122 < n) (hw : wideB n = true) : Calls Tryd.prog 90 #[.int .i64 n] w fun e w' => e = .returned (.int .i64 4) ∧ w = w' := by
  go_enter Tryd.func90, Tryd.ntmps90
  go_wp2_with fail
  refine (wide_any _ _).mono ?_; rintro e w' ⟨rfl, rfl⟩
  rw [hw]
  go_wp2_with fail
  go_ret
  exact ⟨rfl, rfl⟩

theorem kind_any (n : Int) (w : World) : Calls Tryd.prog 90 #[.int .i64 n] w fun e w' => e = .returned (.int .i64 (kindI n)) ∧ w = w' := by
  by_cases h9 : n = 9
  · subst h9; exact kind_9 w
  by_cases h10 : n = 10
  · subst h10; exact kind_10 w
  by_cases h13 : n = 13
  · subst h13; exact kind_13 w
  by_cases h32 : n = 32
  · subst h32; exact kind_32 w
  by_cases h40 : n = 40
  · subst h40; exact kind_40 w
  by_cases h41 : n = 41
  · subst h41; exact kind_41 w
  by_cases h123 : n = 123
  · subst h123; exact kind_123 w
  by_cases h125 : n = 125
  · subst h125; exact kind_125 w
  by_cases h58 : n = 58
  · subst h58; exact kind_58 w
  by_cases h61 : n = 61
  · subst h61; exact kind_61 w
  by_cases h46 : n = 46
  · subst h46; exact kind_46 w
  by_cases h44 : n = 44
  · subst h44; exact kind_44 w
  by_cases h59 : n = 59
  · subst h59; exact kind_59 w
  by_cases h124 : n = 124
  · subst h124; exact kind_124 w
  by_cases h92 : n = 92
  · subst h92; exact kind_92 w
  by_cases h45 : n = 45
  · subst h45; exact kind_45 w
  by_cases h62 : n = 62
  · subst h62; exact kind_62 w
  by_cases h955 : n = 955
  · subst h955; exact kind_955 w
  by_cases h8594 : n = 8594
  · subst h8594; exact kind_8594 w
  have e9 : (n == 9) = false := by simpa using h9
  have e10 : (n == 10) = false := by simpa using h10
  have e13 : (n == 13) = false := by simpa using h13
  have e32 : (n == 32) = false := by simpa using h32
  have e40 : (n == 40) = false := by simpa using h40
  have e41 : (n == 41) = false := by simpa using h41
  have e123 : (n == 123) = false := by simpa using h123
  have e125 : (n == 125) = false := by simpa using h125
  have e58 : (n == 58) = false := by simpa using h58
  have e61 : (n == 61) = false := by simpa using h61
  have e46 : (n == 46) = false := by simpa using h46
  have e44 : (n == 44) = false := by simpa using h44
  have e59 : (n == 59) = false := by simpa using h59
  have e124 : (n == 124) = false := by simpa using h124
  have e92 : (n == 92) = false := by simpa using h92
  have e45 : (n == 45) = false := by simpa using h45
  have e62 : (n == 62) = false := by simpa using h62
  have e955 : (n == 955) = false := by simpa using h955
  have e8594 : (n == 8594) = false := by simpa using h8594
  have nb : blankB n = false := by simp [blankB, h9, h10, h13, h32]
  have nm : markB n = false := by simp [markB, marks, h40, h41, h123, h125, h58, h61, h46, h44, h59, h124, h92, h45, h62, h955, h8594]
  clear h9 h10 h13 h32 h40 h41 h123 h125 h58 h61 h46 h44 h59 h124 h92 h45 h62 h955 h8594
  by_cases d : 48 ≤ n ∧ n ≤ 57
  · have hk : kindI n = 2 := by simp [kindI, nb, digitB, d]
    rw [hk]; exact kind_digit n w e9 e10 e13 e32 e40 e41 e123 e125 e58 e61 e46 e44 e59 e124 e92 e45 e62 e955 e8594 d.1 d.2
  have nd : digitB n = false := by simp [digitB]; omega
  by_cases u : 65 ≤ n ∧ n ≤ 90
  · have hk : kindI n = 4 := by simp [kindI, nb, nd, nm, letterB, plainB, u]
    rw [hk]; exact kind_upper n w e9 e10 e13 e32 e40 e41 e123 e125 e58 e61 e46 e44 e59 e124 e92 e45 e62 e955 e8594 u.1 u.2
  by_cases l : 97 ≤ n ∧ n ≤ 122
  · have hk : kindI n = 4 := by simp [kindI, nb, nd, nm, letterB, plainB, l]
    rw [hk]; exact kind_lower n w e9 e10 e13 e32 e40 e41 e123 e125 e58 e61 e46 e44 e59 e124 e92 e45 e62 e955 e8594 l.1 l.2
  have np : plainB n = false := by
    cases hp : plainB n with
    | false => rfl
    | true => simp only [plainB, Bool.or_eq_true, Bool.and_eq_true, decide_eq_true_eq] at hp; omega
  have hk : kindI n = if wideB n then 4 else 0 := by simp [kindI, nb, nd, nm, letterB, np]
  rw [hk]; clear hk nb nd np nm
  cases hw : wideB n with
  | true =>
    have : 127 < n := by
      simp only [wideB, Bool.and_eq_true, decide_eq_true_eq] at hw; exact hw.1
    exact kind_r5 n w e9 e10 e13 e32 e40 e41 e123 e125 e58 e61 e46 e44 e59 e124 e92 e45 e62 e955 e8594 (by omega) hw
  | false =>
    by_cases r1 : n < 48
    · exact kind_r1 n w e9 e10 e13 e32 e40 e41 e123 e125 e58 e61 e46 e44 e59 e124 e92 e45 e62 e955 e8594 r1 hw
    · by_cases r2 : n < 65
      · exact kind_r2 n w e9 e10 e13 e32 e40 e41 e123 e125 e58 e61 e46 e44 e59 e124 e92 e45 e62 e955 e8594 (by omega) r2 hw
      · by_cases r3 : n < 97
        · exact kind_r3 n w e9 e10 e13 e32 e40 e41 e123 e125 e58 e61 e46 e44 e59 e124 e92 e45 e62 e955 e8594 (by omega) r3 hw
        · exact kind_r4 n w e9 e10 e13 e32 e40 e41 e123 e125 e58 e61 e46 e44 e59 e124 e92 e45 e62 e955 e8594 (by omega) hw


theorem kind_blank {n : Int} : (kindI n = 1) ↔ blankB n = true := by
  unfold kindI; cases blankB n <;> cases digitB n <;> cases markB n <;> cases letterB n <;> simp
theorem blank_cases {n : Int} (h : blankB n = true) : n = 9 ∨ n = 10 ∨ n = 13 ∨ n = 32 := by
  simpa [blankB] using h
theorem mark_cases {n : Int} (h : markB n = true) : n = 40 ∨ n = 41 ∨ n = 123 ∨ n = 125 ∨ n = 58 ∨ n = 61 ∨ n = 46 ∨ n = 44 ∨ n = 59 ∨ n = 124 ∨ n = 92 ∨ n = 955 ∨ n = 8594 ∨ n = 45 ∨ n = 62 := by
  simpa [markB, marks] using h
theorem digit_cases {n : Int} : digitB n = true ↔ 48 ≤ n ∧ n ≤ 57 := by simp [digitB]
theorem letter_cases {n : Int} (h : letterB n = true) : (97 ≤ n ∧ n ≤ 122) ∨ (65 ≤ n ∧ n ≤ 90) ∨ (127 < n ∧ markB n = false) := by
  simp only [letterB, plainB, wideB, Bool.or_eq_true, Bool.and_eq_true, decide_eq_true_eq, Bool.not_eq_true'] at h
  rcases h with (h | h) | ⟨⟨h, _⟩, h2⟩
  · exact .inl h
  · exact .inr (.inl h)
  · exact .inr (.inr ⟨h, h2⟩)
theorem digit_not_blank {n : Int} (h : digitB n = true) : blankB n = false := by
  cases hb : blankB n with
  | false => rfl
  | true => have := digit_cases.1 h; rcases blank_cases hb with h | h | h | h <;> omega
theorem mark_not_blank {n : Int} (h : markB n = true) : blankB n = false := by
  cases hb : blankB n with
  | false => rfl
  | true => rcases blank_cases hb with rfl | rfl | rfl | rfl <;> exact absurd h (by decide)
theorem mark_not_digit {n : Int} (h : markB n = true) : digitB n = false := by
  cases hb : digitB n with
  | false => rfl
  | true => have := digit_cases.1 hb; have := mark_cases h; omega
theorem letter_not {n : Int} (h : letterB n = true) : blankB n = false ∧ digitB n = false ∧ markB n = false := by
  refine ⟨?_, ?_, ?_⟩
  · cases hb : blankB n with
    | false => rfl
    | true => have := blank_cases hb; have := letter_cases h; omega
  · cases hb : digitB n with
    | false => rfl
    | true => have := digit_cases.1 hb; have := letter_cases h; omega
  · cases hb : markB n with
    | false => rfl
    | true =>
      have h1 := mark_cases hb
      rcases letter_cases h with h | h | ⟨_, h⟩
      · omega
      · omega
      · rw [hb] at h; cases h
theorem kind_digit' {n : Int} : (kindI n = 2) ↔ digitB n = true := by
  constructor
  · unfold kindI; cases blankB n <;> cases digitB n <;> cases markB n <;> cases letterB n <;> simp
  · intro h; simp [kindI, digit_not_blank h, h]
theorem kind_mark {n : Int} : (kindI n = 3) ↔ markB n = true := by
  constructor
  · unfold kindI; cases blankB n <;> cases digitB n <;> cases markB n <;> cases letterB n <;> simp
  · intro h; simp [kindI, mark_not_blank h, mark_not_digit h, h]
theorem kind_letter {n : Int} : (kindI n = 4) ↔ letterB n = true := by
  constructor
  · unfold kindI; cases blankB n <;> cases digitB n <;> cases markB n <;> cases letterB n <;> simp
  · intro h; obtain ⟨a, b, c⟩ := letter_not h; simp [kindI, a, b, c, h]

theorem digit_any (n : Int) (w : World) : Calls Tryd.prog 81 #[.int .i64 n] w fun e w' => e = .returned (.bool (digitB n)) ∧ w = w' := by
  cases hb : digitB n with
  | true =>
    have hk : kindI n = 2 := kind_digit'.2 hb
    clear hb
    go_enter Tryd.func81, Tryd.ntmps81
    go_wp2_with fail
    refine (kind_any _ _).mono ?_; rintro e w' ⟨rfl, rfl⟩
    rw [hk]
    go_wp2_with fail
    go_ret
    exact ⟨rfl, rfl⟩
  | false =>
    have hk : (kindI n == 2) = false := by
      rw [beq_eq_false_iff_ne]; intro e; rw [kind_digit'.1 e] at hb; cases hb
    clear hb
    go_enter Tryd.func81, Tryd.ntmps81
    go_wp2_with fail
    refine (kind_any _ _).mono ?_; rintro e w' ⟨rfl, rfl⟩
    go_wp2_with fail
    go_ret
    exact ⟨rfl, rfl⟩

theorem letter_any (n : Int) (w : World) : Calls Tryd.prog 80 #[.int .i64 n] w fun e w' => e = .returned (.bool (letterB n)) ∧ w = w' := by
  cases hb : letterB n with
  | true =>
    have hk : kindI n = 4 := kind_letter.2 hb
    clear hb
    go_enter Tryd.func80, Tryd.ntmps80
    go_wp2_with fail
    refine (kind_any _ _).mono ?_; rintro e w' ⟨rfl, rfl⟩
    rw [hk]
    go_wp2_with fail
    go_ret
    exact ⟨rfl, rfl⟩
  | false =>
    have hk : (kindI n == 4) = false := by
      rw [beq_eq_false_iff_ne]; intro e; rw [kind_letter.1 e] at hb; cases hb
    clear hb
    go_enter Tryd.func80, Tryd.ntmps80
    go_wp2_with fail
    refine (kind_any _ _).mono ?_; rintro e w' ⟨rfl, rfl⟩
    go_wp2_with fail
    go_ret
    exact ⟨rfl, rfl⟩

theorem refDigit_any (n : Int) (w : World) : Calls Tryd.prog 59 #[.int .i64 n] w fun e w' => e = .returned (.bool (digitB n)) ∧ w = w' := by
  by_cases h1 : 48 ≤ n
  · by_cases h2 : n ≤ 57
    · have hb : digitB n = true := by simp [digitB, h1, h2]
      rw [hb]; clear hb
      go_enter Tryd.func59, Tryd.ntmps59
      go_wp2
      go_ret
      exact ⟨rfl, rfl⟩
    · have hb : digitB n = false := by simp [digitB, h2]
      rw [hb]; clear hb
      go_enter Tryd.func59, Tryd.ntmps59
      go_wp2
      go_ret
      exact ⟨rfl, rfl⟩
  · have hb : digitB n = false := by simp [digitB, h1]
    rw [hb]; clear hb
    go_enter Tryd.func59, Tryd.ntmps59
    go_wp2
    go_ret
    exact ⟨rfl, rfl⟩

/-- scholiumref02.in over a row that is known. -/
theorem in_any (xs : List Int) (b len cap : Nat) (n : Int) (w : World) (r : Bool) (hr : xs.contains n = r) (hl : xs.length = len) (hm : len ≤ 9223372036854775807)
    (hc : ∀ i, i < len → w.cell? ⟨b, i, none⟩ = some (.int .i64 (xs.getD i 0))) :
    Calls Tryd.prog 83 #[.slice (some ⟨b, 0, none⟩) len cap, .int .i64 n] w fun e w' => e = .returned (.bool r) ∧ w = w' := by
  have HR := Lib.hid hr
  clear hr
  have HC := Lib.hid hc
  have HL := Lib.hid hl
  clear hc hl
  go_enter Tryd.func83, Tryd.ntmps83
  go_wp2_with fail
  go_loop [5] (fun i => ∃ j : Nat, j ≤ len ∧ i = .int .i64 j ∧ Hid (∀ k, k < j → xs.getD k 0 ≠ n)) (fun i => len - (intOf i).toNat)
  case atStart => exact ⟨0, Nat.zero_le _, rfl, Lib.hid (fun k hk => absurd hk (Nat.not_lt_zero k))⟩
  case round =>
    obtain ⟨j, hj, rfl, HA⟩ := hrel
    by_cases hlt : j < len
    · have hcell := HC.out j hlt
      obtain ⟨x, hx⟩ : ∃ x, xs.getD j 0 = x := ⟨_, rfl⟩
      rw [hx] at hcell
      have HX := Lib.hid hx
      clear hx
      by_cases he : x = n
      · subst he
        have hin : xs.contains x = true := by
          have hjl : j < xs.length := by rw [HL.out]; exact hlt
          have : xs[j] = x := by have := HX.out; rwa [List.getD, List.getElem?_eq_getElem hjl] at this
          rw [List.contains_iff_mem]
          exact this ▸ List.getElem_mem hjl
        obtain rfl : r = true := HR.out.symm.trans hin
        clear hin
        go_wp2_with fail
        go_ret
        exact ⟨rfl, rfl⟩
      · have ne : (x == n) = false := by simpa using he
        go_wp2_with fail
        go_round
        case rel =>
          refine ⟨j + 1, by omega, by go_num, Lib.hid (fun k hk => ?_)⟩
          by_cases hkj : k < j
          · exact HA.out k hkj
          · obtain rfl : k = j := by omega
            rw [HX.out]; exact he
        case measure => simp [intOf]; omega
    · have hin : xs.contains n = false := by
        rw [← Bool.not_eq_true, List.contains_iff_mem]
        intro hmem
        obtain ⟨k, hk, hk2⟩ := List.getElem_of_mem hmem
        have hkl : k < len := by rw [← HL.out]; exact hk
        apply HA.out k (by omega)
        rw [List.getD, List.getElem?_eq_getElem hk]; exact hk2
      obtain rfl : r = false := HR.out.symm.trans hin
      clear hin
      go_wp2_with fail
      go_ret
      exact ⟨rfl, rfl⟩

theorem refMark_any (n : Int) (w : World) : Calls Tryd.prog 73 #[.int .i64 n] w fun e w' => e = .returned (.bool (markB n)) ∧ Below w.heap.size w w' := by
  obtain ⟨r, hr⟩ : ∃ r, markB n = r := ⟨_, rfl⟩
  rw [hr]
  have HR := Lib.hid hr
  clear hr
  go_enter Tryd.func73, Tryd.ntmps73
  go_wp2_with fail
  refine (in_any marks _ _ _ _ _ r HR.out rfl (by decide) ?_).mono ?_
  · intro i hi
    rw [World.cell?_alloc_mark]
    match i, hi with
    | 0, _ => rfl | 1, _ => rfl | 2, _ => rfl | 3, _ => rfl | 4, _ => rfl | 5, _ => rfl | 6, _ => rfl | 7, _ => rfl
    | 8, _ => rfl | 9, _ => rfl | 10, _ => rfl | 11, _ => rfl | 12, _ => rfl | 13, _ => rfl | 14, _ => rfl
  rintro e w' ⟨rfl, rfl⟩
  go_wp2_with fail
  go_ret
  exact ⟨rfl, (Below.refl _ _).alloc (Nat.le_refl _) _⟩


theorem refLetter_any (n : Int) (w : World) : Calls Tryd.prog 58 #[.int .i64 n] w fun e w' => e = .returned (.bool (letterB n)) ∧ Below w.heap.size w w' := by
  by_cases l : 97 ≤ n ∧ n ≤ 122
  · obtain ⟨l1, l2⟩ := l
    have hb : letterB n = true := by simp [letterB, plainB, l1, l2]
    rw [hb]; clear hb
    go_enter Tryd.func58, Tryd.ntmps58
    go_wp2_with fail
    go_ret
    exact ⟨rfl, Below.refl _ _⟩
  by_cases u : 65 ≤ n ∧ n ≤ 90
  · obtain ⟨u1, u2⟩ := u
    have hb : letterB n = true := by simp [letterB, plainB, u1, u2]
    rw [hb]; clear hb l
    go_enter Tryd.func58, Tryd.ntmps58
    go_wp2_with fail
    go_ret
    exact ⟨rfl, Below.refl _ _⟩
  have np : plainB n = false := by
    cases hp : plainB n with
    | false => rfl
    | true => simp only [plainB, Bool.or_eq_true, Bool.and_eq_true, decide_eq_true_eq] at hp; omega
  by_cases g : 128 ≤ n
  · clear l u
    have g1 : 127 < n := by omega
    have g2 : 122 < n := by omega
    cases hr : rightB n with
    | false =>
      have hb : letterB n = false := by simp [letterB, np, wideB, hr]
      rw [hb]; clear hb np
      go_enter Tryd.func58, Tryd.ntmps58
      go_wp2_with fail
      refine (refRight_any _ _).mono ?_; rintro e w' ⟨rfl, rfl⟩
      rw [hr]
      go_wp2_with fail
      go_ret
      exact ⟨rfl, Below.refl _ _⟩
    | true =>
      cases hm : markB n with
      | true =>
        have hb : letterB n = false := by simp [letterB, np, hm]
        rw [hb]; clear hb np
        go_enter Tryd.func58, Tryd.ntmps58
        go_wp2_with fail
        refine (refRight_any _ _).mono ?_; rintro e w' ⟨rfl, rfl⟩
        rw [hr]
        go_wp2_with fail
        refine (refMark_any _ _).mono ?_; rintro e w1 ⟨rfl, hb1⟩
        rw [hm]
        go_wp2_with fail
        go_ret
        exact ⟨rfl, hb1⟩
      | false =>
        by_cases h160 : n = 160
        · have hb : letterB n = false := by subst h160; decide
          rw [hb]; clear hb np
          subst h160
          go_enter Tryd.func58, Tryd.ntmps58
          go_wp2_with fail
          refine (refRight_any _ _).mono ?_; rintro e w' ⟨rfl, rfl⟩
          rw [hr]
          go_wp2_with fail
          refine (refMark_any _ _).mono ?_; rintro e w1 ⟨rfl, hb1⟩
          rw [hm]
          go_wp2_with fail
          go_ret
          exact ⟨rfl, hb1⟩
        · have e160 : (n == 160) = false := by simpa using h160
          have f160 : (n != 160) = true := by simpa using h160
          by_cases h3 : 8192 ≤ n
          · by_cases h4 : n ≤ 8303
            · have hb : letterB n = false := by simp [letterB, np, wideB, hm]; omega
              rw [hb]; clear hb np h160
              have d4 : decide (n ≤ 8303) = true := by simpa using h4
              go_enter Tryd.func58, Tryd.ntmps58
              go_wp2_with fail
              refine (refRight_any _ _).mono ?_; rintro e w' ⟨rfl, rfl⟩
              rw [hr]
              go_wp2_with fail
              refine (refMark_any _ _).mono ?_; rintro e w1 ⟨rfl, hb1⟩
              rw [hm]
              go_wp2_with fail
              go_ret
              exact ⟨rfl, hb1⟩
            · have hb : letterB n = true := by simp [letterB, np, wideB, hm, hr, h160]; omega
              rw [hb]; clear hb np h160
              have d4 : decide (n ≤ 8303) = false := decide_eq_false h4
              go_enter Tryd.func58, Tryd.ntmps58
              go_wp2_with fail
              refine (refRight_any _ _).mono ?_; rintro e w' ⟨rfl, rfl⟩
              rw [hr]
              go_wp2_with fail
              refine (refMark_any _ _).mono ?_; rintro e w1 ⟨rfl, hb1⟩
              rw [hm]
              go_wp2_with fail
              go_ret
              exact ⟨rfl, hb1⟩
          · have hb : letterB n = true := by simp [letterB, np, wideB, hm, hr, h160]; omega
            rw [hb]; clear hb np h160
            go_enter Tryd.func58, Tryd.ntmps58
            go_wp2_with fail
            refine (refRight_any _ _).mono ?_; rintro e w' ⟨rfl, rfl⟩
            rw [hr]
            go_wp2_with fail
            refine (refMark_any _ _).mono ?_; rintro e w1 ⟨rfl, hb1⟩
            rw [hm]
            go_wp2_with fail
            go_ret
            exact ⟨rfl, hb1⟩
  · have hb : letterB n = false := by simp [letterB, np, wideB]; omega
    rw [hb]; clear hb np
    by_cases a1 : 97 ≤ n
    · have a2 : ¬ n ≤ 122 := by omega
      have a3 : ¬ n ≤ 90 := by omega
      have a4 : 65 ≤ n := by omega
      clear l u
      go_enter Tryd.func58, Tryd.ntmps58
      go_wp2_with fail
      go_ret
      exact ⟨rfl, Below.refl _ _⟩
    · by_cases a3 : 65 ≤ n
      · have a4 : ¬ n ≤ 90 := by omega
        clear l u
        go_enter Tryd.func58, Tryd.ntmps58
        go_wp2_with fail
        go_ret
        exact ⟨rfl, Below.refl _ _⟩
      · clear l u
        go_enter Tryd.func58, Tryd.ntmps58
        go_wp2_with fail
        go_ret
        exact ⟨rfl, Below.refl _ _⟩

/-- Which signs may stand in a name behind its first. -/
def withinB (n : Int) : Bool := decide (n = 95) || (decide (n = 39) || (digitB n || letterB n))
theorem within_any (n : Int) (w : World) : Calls Tryd.prog 68 #[.int .i64 n] w fun e w' => e = .returned (.bool (withinB n)) ∧ w = w' := by
  by_cases h1 : n = 95
  · subst h1
    go_enter Tryd.func68, Tryd.ntmps68
    go_wp2_with fail
    go_ret
    exact ⟨rfl, rfl⟩
  by_cases h2 : n = 39
  · subst h2
    go_enter Tryd.func68, Tryd.ntmps68
    go_wp2_with fail
    go_ret
    exact ⟨rfl, rfl⟩
  have e1 : (n == 95) = false := by simpa using h1
  have e2 : (n == 39) = false := by simpa using h2
  have hb : withinB n = (digitB n || letterB n) := by simp [withinB, h1, h2]
  rw [hb]; clear hb h1 h2
  cases hd : digitB n with
  | true =>
    go_enter Tryd.func68, Tryd.ntmps68
    go_wp2_with fail
    refine (digit_any _ _).mono ?_; rintro e w' ⟨rfl, rfl⟩
    rw [hd]
    go_wp2_with fail
    go_ret
    exact ⟨rfl, rfl⟩
  | false =>
    go_enter Tryd.func68, Tryd.ntmps68
    go_wp2_with fail
    refine (digit_any _ _).mono ?_; rintro e w' ⟨rfl, rfl⟩
    rw [hd]
    go_wp2_with fail
    refine (letter_any _ _).mono ?_; rintro e w' ⟨rfl, rfl⟩
    go_wp2_with fail
    go_ret
    exact ⟨by simp, rfl⟩

end Go.Proofs.YtmaomnpanfdjeaaDoor
