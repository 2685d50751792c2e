/- The walk of the law ParseBlanks, for every text. -/
import Derived.Test.YtkccjfbgepmfkaaBlanksW
namespace Go.Proofs.Ytkccjfbgepmfkaa
open Go.RowKit
set_option linter.unusedVariables false
set_option maxRecDepth 100000

theorem blanks_any (s : ByteArray) (w : World) (hs : s.size ≤ maxLen) :
    Calls Try.prog 3 #[.string s] w fun e w' => e = .returned (.bool true) ∧ Below w.heap.size w w' := by
  unfold maxLen at hs
  have HAW := Lib.hid (fun V => awake5_any V)
  by_cases hz : 2000 < s.size
  · have hd : decide ((2000 : Int) < (s.size : Int)) = true := decide_eq_true (by omega)
    go_enter Try.func3, Try.ntmps3
    go_wp2_with fail
    refine (HAW.out _).mono ?_; rintro e w1 ⟨rfl, hb1⟩
    go_wp2_with fail
    go_ret
    exact ⟨rfl, hb1⟩
  · have hd : decide ((2000 : Int) < (s.size : Int)) = false := decide_eq_false (by omega)
    obtain ⟨ns, r, hp⟩ := parse_exists _ (bytesL s) (Nat.le_refl _) (bytesL_nonneg s)
    by_cases hr : r = []
    · subst hr
      obtain ⟨l, stop, E, hx⟩ := lex_ex s (by omega) s.size (skipL (bytesL s)) 0 (by have := skipL_le (bytesL s); rw [bytesL_length] at this; exact this) (by omega)
      by_cases hE : E = 0
      · subst hE
        exact blanks_good s ns stop l w (by omega) hp hx
      · have HALL := Lib.hid (tokAll_any s ns w l stop E (by omega) hp hx)
        have hne : (E != 0) = true := by simpa using hE
        clear hx hp
        go_enter Try.func3, Try.ntmps3
        go_wp2_with fail
        refine HALL.out.mono ?_; rintro e w1 ⟨v, rfl, hall, hb1⟩
        obtain rfl := hall.2 hE
        clear hall HALL
        have HB1 := Lib.hid hb1
        go_wp2_with fail
        refine (HAW.out _).mono ?_; rintro e w2 ⟨rfl, hb2⟩
        go_wp2_with fail
        go_ret
        exact ⟨rfl, HB1.out.trans (hb2.mono HB1.out.size)⟩
    · have HALL := Lib.hid (tokAll_utf s ns r w (by omega) hp hr)
      clear hp hr
      go_enter Try.func3, Try.ntmps3
      go_wp2_with fail
      refine HALL.out.mono ?_; rintro e w1 ⟨rfl, hb1⟩
      have HB1 := Lib.hid hb1
      go_wp2_with fail
      refine (HAW.out _).mono ?_; rintro e w2 ⟨rfl, hb2⟩
      go_wp2_with fail
      go_ret
      exact ⟨rfl, HB1.out.trans (hb2.mono HB1.out.size)⟩

end Go.Proofs.Ytkccjfbgepmfkaa
