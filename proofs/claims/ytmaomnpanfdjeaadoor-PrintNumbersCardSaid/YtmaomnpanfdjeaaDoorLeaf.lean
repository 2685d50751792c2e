/- The contracts of the leaves of packages utf and scholiumref01: which numbers are signs, how many bytes a sign has, the head mark, what a first byte says, which bytes follow. For every argument. -/
import Derived.Test.YtmaomnpanfdjeaaDoorRows
import Derived.WalkKit
import Derived.ProofKit
import Derived.WalkLawsBesides
namespace Go.Proofs.YtmaomnpanfdjeaaDoor
open Go.RowKit

/-- Is the number a sign? -/
def rightB (n : Int) : Bool := decide (0 ≤ n) && decide (n ≤ 1114111) && (decide (n < 55296) || decide (57343 < n))
theorem rightB_true {n : Int} : rightB n = true ↔ (0 ≤ n ∧ n ≤ 1114111 ∧ (n < 55296 ∨ 57343 < n)) := by
  simp [rightB, and_assoc]
theorem rightB_false {n : Int} : rightB n = false ↔ ¬ (0 ≤ n ∧ n ≤ 1114111 ∧ (n < 55296 ∨ 57343 < n)) := by
  rw [← rightB_true]; simp

theorem right_any (n : Int) (w : World) : Calls Tryd.prog 88 #[.int .i64 n] w fun e w' => e = .returned (.bool (rightB n)) ∧ w = w' := by
  cases hb : rightB n with
  | true =>
    obtain ⟨h0, h1, h2⟩ := rightB_true.1 hb
    clear hb
    by_cases h3 : n < 55296
    · clear h2
      go_enter Tryd.func88, Tryd.ntmps88
      go_wp2
      go_ret
      exact ⟨rfl, rfl⟩
    · have h4 : 57343 < n := by omega
      clear h2
      go_enter Tryd.func88, Tryd.ntmps88
      go_wp2
      go_ret
      exact ⟨rfl, rfl⟩
  | false =>
    have hn := rightB_false.1 hb
    clear hb
    by_cases h0 : 0 ≤ n
    · by_cases h1 : n ≤ 1114111
      · have h2 : ¬ n < 55296 := by omega
        have h3 : ¬ 57343 < n := by omega
        clear hn
        go_enter Tryd.func88, Tryd.ntmps88
        go_wp2
        go_ret
        exact ⟨rfl, rfl⟩
      · clear hn
        go_enter Tryd.func88, Tryd.ntmps88
        go_wp2
        go_ret
        exact ⟨rfl, rfl⟩
    · clear hn
      go_enter Tryd.func88, Tryd.ntmps88
      go_wp2
      go_ret
      exact ⟨rfl, rfl⟩

theorem refRight_any (n : Int) (w : World) : Calls Tryd.prog 72 #[.int .i64 n] w fun e w' => e = .returned (.bool (rightB n)) ∧ w = w' := by
  cases hb : rightB n with
  | true =>
    obtain ⟨h0, h1, h2⟩ := rightB_true.1 hb
    clear hb
    by_cases h3 : n < 55296
    · clear h2
      go_enter Tryd.func72, Tryd.ntmps72
      go_wp2
      go_ret
      exact ⟨rfl, rfl⟩
    · have h4 : 57343 < n := by omega
      clear h2
      go_enter Tryd.func72, Tryd.ntmps72
      go_wp2
      go_ret
      exact ⟨rfl, rfl⟩
  | false =>
    have hn := rightB_false.1 hb
    clear hb
    by_cases h0 : 0 ≤ n
    · by_cases h1 : n ≤ 1114111
      · have h2 : ¬ n < 55296 := by omega
        have h3 : ¬ 57343 < n := by omega
        clear hn
        go_enter Tryd.func72, Tryd.ntmps72
        go_wp2
        go_ret
        exact ⟨rfl, rfl⟩
      · clear hn
        go_enter Tryd.func72, Tryd.ntmps72
        go_wp2
        go_ret
        exact ⟨rfl, rfl⟩
    · clear hn
      go_enter Tryd.func72, Tryd.ntmps72
      go_wp2
      go_ret
      exact ⟨rfl, rfl⟩

/-- How many bytes a sign has. -/
def wid (n : Int) : Nat := if n ≤ 127 then 1 else if n ≤ 2047 then 2 else if n ≤ 65535 then 3 else 4

theorem width_any (n : Int) (w : World) : Calls Tryd.prog 89 #[.int .i64 n] w fun e w' => e = .returned (.int .i64 (wid n)) ∧ w = w' := by
  by_cases h0 : n ≤ 127
  · have hb : wid n = 1 := by simp [wid, h0]
    rw [hb]; clear hb
    have h1 : n ≤ 2047 := by omega
    have h2 : n ≤ 65535 := by omega
    go_enter Tryd.func89, Tryd.ntmps89
    go_wp2
    go_ret
    exact ⟨rfl, rfl⟩
  · by_cases h1 : n ≤ 2047
    · have hb : wid n = 2 := by simp [wid, h0, h1]
      rw [hb]; clear hb
      have h2 : n ≤ 65535 := by omega
      go_enter Tryd.func89, Tryd.ntmps89
      go_wp2
      go_ret
      exact ⟨rfl, rfl⟩
    · by_cases h2 : n ≤ 65535
      · have hb : wid n = 3 := by simp [wid, h0, h1, h2]
        rw [hb]; clear hb
        go_enter Tryd.func89, Tryd.ntmps89
        go_wp2
        go_ret
        exact ⟨rfl, rfl⟩
      · have hb : wid n = 4 := by simp [wid, h0, h1, h2]
        rw [hb]; clear hb
        go_enter Tryd.func89, Tryd.ntmps89
        go_wp2
        go_ret
        exact ⟨rfl, rfl⟩


/-- The mark of a sign's first byte. -/
def headI (k : Int) : Int := if k = 4 then 240 else if k = 3 then 224 else if k = 2 then 192 else 0

theorem head_any (k : Int) (w : World) : Calls Tryd.prog 92 #[.int .i64 k] w fun e w' => e = .returned (.int .i64 (headI k)) ∧ w = w' := by
  by_cases h4 : k = 4
  · subst h4
    go_enter Tryd.func92, Tryd.ntmps92
    go_wp2
    go_ret
    exact ⟨rfl, rfl⟩
  · by_cases h3 : k = 3
    · subst h3
      go_enter Tryd.func92, Tryd.ntmps92
      go_wp2
      go_ret
      exact ⟨rfl, rfl⟩
    · by_cases h2 : k = 2
      · subst h2
        go_enter Tryd.func92, Tryd.ntmps92
        go_wp2
        go_ret
        exact ⟨rfl, rfl⟩
      · have hb : headI k = 0 := by simp [headI, h4, h3, h2]
        rw [hb]; clear hb
        have e4 : (k == 4) = false := by simpa using h4
        have e3 : (k == 3) = false := by simpa using h3
        have e2 : (k == 2) = false := by simpa using h2
        clear h4 h3 h2
        go_enter Tryd.func92, Tryd.ntmps92
        go_wp2
        go_ret
        exact ⟨rfl, rfl⟩

theorem head_1 (w : World) : Calls Tryd.prog 92 #[.int .i64 1] w fun e w' => e = .returned (.int .i64 0) ∧ w = w' := head_any 1 w
theorem head_2 (w : World) : Calls Tryd.prog 92 #[.int .i64 2] w fun e w' => e = .returned (.int .i64 192) ∧ w = w' := head_any 2 w
theorem head_3 (w : World) : Calls Tryd.prog 92 #[.int .i64 3] w fun e w' => e = .returned (.int .i64 224) ∧ w = w' := head_any 3 w
theorem head_4 (w : World) : Calls Tryd.prog 92 #[.int .i64 4] w fun e w' => e = .returned (.int .i64 240) ∧ w = w' := head_any 4 w

/-- What a first byte says: its share of the number, and how many bytes. -/
def shareI (b : Int) : Int := if b < 128 then b else if b < 192 ∨ 248 ≤ b then 0 else if 240 ≤ b then b - 240 else if 224 ≤ b then b - 224 else b - 192
def sizeI (b : Int) : Nat := if b < 128 then 1 else if b < 192 ∨ 248 ≤ b then 0 else if 240 ≤ b then 4 else if 224 ≤ b then 3 else 2

theorem first_any (b : Int) (w : World) (hb0 : 0 ≤ b) (hb1 : b ≤ 255) : Calls Tryd.prog 86 #[.int .u8 b] w fun e w' => e = .returned (.tuple #[.int .i64 (shareI b), .int .i64 (sizeI b)]) ∧ w = w' := by
  by_cases h0 : b < 128
  · have e1 : shareI b = b := by simp [shareI, h0]
    have e2 : sizeI b = 1 := by simp [sizeI, h0]
    rw [e1, e2]; clear e1 e2
    go_enter Tryd.func86, Tryd.ntmps86
    go_wp2_with (go_at_call 92; refine (head_1 _).mono ?_; rintro e w' ⟨rfl, rfl⟩)
    go_ret2
    exact ⟨rfl, rfl⟩
  · by_cases h1 : b < 192
    · have e1 : shareI b = 0 := by simp [shareI, h0, h1]
      have e2 : sizeI b = 0 := by simp [sizeI, h0, h1]
      rw [e1, e2]; clear e1 e2
      go_enter Tryd.func86, Tryd.ntmps86
      go_wp2
      go_ret2
      exact ⟨rfl, rfl⟩
    · by_cases h2 : 248 ≤ b
      · have e1 : shareI b = 0 := by simp [shareI, h0, h2]
        have e2 : sizeI b = 0 := by simp [sizeI, h0, h2]
        rw [e1, e2]; clear e1 e2
        go_enter Tryd.func86, Tryd.ntmps86
        go_wp2
        go_ret2
        exact ⟨rfl, rfl⟩
      · by_cases h3 : 240 ≤ b
        · have e1 : shareI b = b - 240 := by simp [shareI, h0, h1, h2, h3]
          have e2 : sizeI b = 4 := by simp [sizeI, h0, h1, h2, h3]
          rw [e1, e2]; clear e1 e2
          go_enter Tryd.func86, Tryd.ntmps86
          go_wp2_with (go_at_call 92; refine (head_4 _).mono ?_; rintro e w' ⟨rfl, rfl⟩)
          go_ret2
          exact ⟨rfl, rfl⟩
        · by_cases h4 : 224 ≤ b
          · have e1 : shareI b = b - 224 := by simp [shareI, h0, h1, h2, h3, h4]
            have e2 : sizeI b = 3 := by simp [sizeI, h0, h1, h2, h3, h4]
            rw [e1, e2]; clear e1 e2
            go_enter Tryd.func86, Tryd.ntmps86
            go_wp2_with (go_at_call 92; refine (head_3 _).mono ?_; rintro e w' ⟨rfl, rfl⟩)
            go_ret2
            exact ⟨rfl, rfl⟩
          · have e1 : shareI b = b - 192 := by simp [shareI, h0, h1, h2, h3, h4]
            have e2 : sizeI b = 2 := by simp [sizeI, h0, h1, h2, h3, h4]
            rw [e1, e2]; clear e1 e2
            go_enter Tryd.func86, Tryd.ntmps86
            go_wp2_with (go_at_call 92; refine (head_2 _).mono ?_; rintro e w' ⟨rfl, rfl⟩)
            go_ret2
            exact ⟨rfl, rfl⟩

/-- Does a byte follow? -/
def followsB (b : Int) : Bool := decide (128 ≤ b) && decide (b < 192)

theorem follows_any (b : Int) (w : World) : Calls Tryd.prog 87 #[.int .u8 b] w fun e w' => e = .returned (.bool (followsB b)) ∧ w = w' := by
  by_cases h0 : 128 ≤ b
  · by_cases h1 : b < 192
    · have e1 : followsB b = true := by simp [followsB, h0, h1]
      rw [e1]; clear e1
      go_enter Tryd.func87, Tryd.ntmps87
      go_wp2
      go_ret
      exact ⟨rfl, rfl⟩
    · have e1 : followsB b = false := by simp [followsB, h0, h1]
      rw [e1]; clear e1
      go_enter Tryd.func87, Tryd.ntmps87
      go_wp2
      go_ret
      exact ⟨rfl, rfl⟩
  · have e1 : followsB b = false := by simp [followsB, h0]
    rw [e1]; clear e1
    go_enter Tryd.func87, Tryd.ntmps87
    go_wp2
    go_ret
    exact ⟨rfl, rfl⟩

end Go.Proofs.YtmaomnpanfdjeaaDoor
