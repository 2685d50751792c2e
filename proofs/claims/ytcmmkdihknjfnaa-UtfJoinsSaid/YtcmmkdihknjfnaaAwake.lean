/- The laws' own question whether the program answers at all: it does. -/
import Derived.Test.YtcmmkdihknjfnaaNext
namespace Go.Proofs.Ytcmmkdihknjfnaa
open Go.RowKit

theorem awake_next (w : World) : Calls Try.prog 9 #[.string ⟨#[206, 187]⟩, .int .i64 0] w fun e w' => e = .returned (.tuple #[.int .i64 955, .int .i64 2, .int .i64 0]) ∧ Below w.heap.size w w' := by
  have h1 : bytesL ⟨#[206, 187]⟩ = [206, 187] := rfl
  have h2 : dec [206, 187] = some 955 := by decide
  have h := next_any ⟨#[206, 187]⟩ 0 w (show 2 ≤ _ by decide) (show 0 < 2 by decide)
  rw [h1, List.drop_zero, h2, nextV_some, show wid 955 = 2 from wid_2 (by decide) (by decide)] at h
  exact h

theorem right_955 (w : World) : Calls Try.prog 18 #[.int .i64 955] w fun e w' => e = .returned (.bool true) ∧ w = w' := right_any 955 w

theorem awake_any (w : World) : Calls Try.prog 11 #[] w fun e w' => e = .returned (.bool true) ∧ Below w.heap.size w w' := by
  go_enter Try.func11, Try.ntmps11
  go_wp2_with fail
  refine (awake_next _).mono ?_; rintro e w1 ⟨rfl, hb⟩
  go_wp2_with fail
  refine (right_955 _).mono ?_; rintro e w2 ⟨rfl, rfl⟩
  go_wp2_with fail
  go_ret
  exact ⟨rfl, hb⟩

end Go.Proofs.Ytcmmkdihknjfnaa
