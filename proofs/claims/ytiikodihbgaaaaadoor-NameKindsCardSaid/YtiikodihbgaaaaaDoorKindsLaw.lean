/- The law NameKinds answers true, for every number: name.Blank, Digit, Mark and Letter tell its kind as the document does, and no number is of two kinds. No condition beyond the row's own; the library's tables lie as the program's text lays them (tied). -/
import Derived.Test.YtiikodihbgaaaaaDoorFrame
namespace Go.Proofs.YtiikodihbgaaaaaDoor.nameKinds
open Go.ChangeShapes Go.WideShapes Go.ChangeAt Go.RowKit
open Go.ChangeMaps (open_string shut_string)
set_option linter.unusedVariables false

/-- One case: what kind the number has, and which blank it is. -/
theorem walk_9 (w : World) (hb : blankB 9 = true) (hd : digitB 9 = false) (hm : markB 9 = false) (hl : letterB 9 = false) :
    Calls Tryd.prog 3 #[.int .i64 9] w fun e w' => e = .returned (.bool true) ∧ Below w.heap.size w w' := by
  have HB := Lib.hid hb
  have HD := Lib.hid hd
  have HM := Lib.hid hm
  have HL := Lib.hid hl
  clear hb hd hm hl
  go_enter Tryd.func3, Tryd.ntmps3
  go_wp2_with fail
  refine wp_loop_rounds 5 ?_
  rw [rounds_succ]
  go_wp2_with fail
  refine (blank_any _ _).mono ?_; rintro e w1 ⟨rfl, rfl⟩
  rw [HB.out]
  go_wp2_with fail
  rw [rounds_succ]
  go_wp2_with fail
  refine (digit_any _ _).mono ?_; rintro e w1 ⟨rfl, rfl⟩
  rw [HD.out]
  go_wp2_with fail
  rw [rounds_succ]
  go_wp2_with fail
  refine (mark_any _ _).mono ?_; rintro e w1 ⟨rfl, rfl⟩
  rw [HM.out]
  go_wp2_with fail
  rw [rounds_succ]
  go_wp2_with fail
  refine (letter_any _ _).mono ?_; rintro e w1 ⟨rfl, rfl⟩
  rw [HL.out]
  go_wp2_with fail
  rw [rounds_succ]
  go_wp2_with fail
  refine (blank_any _ _).mono ?_; rintro e w1 ⟨rfl, rfl⟩
  rw [HB.out]
  go_wp2_with fail
  refine (digit_any _ _).mono ?_; rintro e w1 ⟨rfl, rfl⟩
  rw [HD.out]
  go_wp2_with fail
  refine (refDigit_any _ _).mono ?_; rintro e w1 ⟨rfl, rfl⟩
  rw [HD.out]
  go_wp2_with fail
  refine (mark_any _ _).mono ?_; rintro e w1 ⟨rfl, rfl⟩
  rw [HM.out]
  go_wp2_with fail
  refine (refMark_any _ _).mono ?_; rintro e w1 ⟨rfl, hb1⟩
  rw [HM.out]
  go_wp2_with fail
  refine (letter_any _ _).mono ?_; rintro e w2 ⟨rfl, rfl⟩
  rw [HL.out]
  go_wp2_with fail
  refine (refLetter_any _ _).mono ?_; rintro e w2 ⟨rfl, hb2⟩
  rw [HL.out]
  have h12 := hb1.trans (hb2.mono hb1.size)
  go_wp2_with fail
  refine (awake_any _).mono ?_; rintro e w3 ⟨rfl, hb3⟩
  go_wp2_with fail
  go_ret
  exact ⟨rfl, h12.trans (hb3.mono h12.size)⟩

theorem walk_10 (w : World) (hb : blankB 10 = true) (hd : digitB 10 = false) (hm : markB 10 = false) (hl : letterB 10 = false) :
    Calls Tryd.prog 3 #[.int .i64 10] w fun e w' => e = .returned (.bool true) ∧ Below w.heap.size w w' := by
  have HB := Lib.hid hb
  have HD := Lib.hid hd
  have HM := Lib.hid hm
  have HL := Lib.hid hl
  clear hb hd hm hl
  go_enter Tryd.func3, Tryd.ntmps3
  go_wp2_with fail
  refine wp_loop_rounds 5 ?_
  rw [rounds_succ]
  go_wp2_with fail
  refine (blank_any _ _).mono ?_; rintro e w1 ⟨rfl, rfl⟩
  rw [HB.out]
  go_wp2_with fail
  rw [rounds_succ]
  go_wp2_with fail
  refine (digit_any _ _).mono ?_; rintro e w1 ⟨rfl, rfl⟩
  rw [HD.out]
  go_wp2_with fail
  rw [rounds_succ]
  go_wp2_with fail
  refine (mark_any _ _).mono ?_; rintro e w1 ⟨rfl, rfl⟩
  rw [HM.out]
  go_wp2_with fail
  rw [rounds_succ]
  go_wp2_with fail
  refine (letter_any _ _).mono ?_; rintro e w1 ⟨rfl, rfl⟩
  rw [HL.out]
  go_wp2_with fail
  rw [rounds_succ]
  go_wp2_with fail
  refine (blank_any _ _).mono ?_; rintro e w1 ⟨rfl, rfl⟩
  rw [HB.out]
  go_wp2_with fail
  refine (digit_any _ _).mono ?_; rintro e w1 ⟨rfl, rfl⟩
  rw [HD.out]
  go_wp2_with fail
  refine (refDigit_any _ _).mono ?_; rintro e w1 ⟨rfl, rfl⟩
  rw [HD.out]
  go_wp2_with fail
  refine (mark_any _ _).mono ?_; rintro e w1 ⟨rfl, rfl⟩
  rw [HM.out]
  go_wp2_with fail
  refine (refMark_any _ _).mono ?_; rintro e w1 ⟨rfl, hb1⟩
  rw [HM.out]
  go_wp2_with fail
  refine (letter_any _ _).mono ?_; rintro e w2 ⟨rfl, rfl⟩
  rw [HL.out]
  go_wp2_with fail
  refine (refLetter_any _ _).mono ?_; rintro e w2 ⟨rfl, hb2⟩
  rw [HL.out]
  have h12 := hb1.trans (hb2.mono hb1.size)
  go_wp2_with fail
  refine (awake_any _).mono ?_; rintro e w3 ⟨rfl, hb3⟩
  go_wp2_with fail
  go_ret
  exact ⟨rfl, h12.trans (hb3.mono h12.size)⟩

theorem walk_13 (w : World) (hb : blankB 13 = true) (hd : digitB 13 = false) (hm : markB 13 = false) (hl : letterB 13 = false) :
    Calls Tryd.prog 3 #[.int .i64 13] w fun e w' => e = .returned (.bool true) ∧ Below w.heap.size w w' := by
  have HB := Lib.hid hb
  have HD := Lib.hid hd
  have HM := Lib.hid hm
  have HL := Lib.hid hl
  clear hb hd hm hl
  go_enter Tryd.func3, Tryd.ntmps3
  go_wp2_with fail
  refine wp_loop_rounds 5 ?_
  rw [rounds_succ]
  go_wp2_with fail
  refine (blank_any _ _).mono ?_; rintro e w1 ⟨rfl, rfl⟩
  rw [HB.out]
  go_wp2_with fail
  rw [rounds_succ]
  go_wp2_with fail
  refine (digit_any _ _).mono ?_; rintro e w1 ⟨rfl, rfl⟩
  rw [HD.out]
  go_wp2_with fail
  rw [rounds_succ]
  go_wp2_with fail
  refine (mark_any _ _).mono ?_; rintro e w1 ⟨rfl, rfl⟩
  rw [HM.out]
  go_wp2_with fail
  rw [rounds_succ]
  go_wp2_with fail
  refine (letter_any _ _).mono ?_; rintro e w1 ⟨rfl, rfl⟩
  rw [HL.out]
  go_wp2_with fail
  rw [rounds_succ]
  go_wp2_with fail
  refine (blank_any _ _).mono ?_; rintro e w1 ⟨rfl, rfl⟩
  rw [HB.out]
  go_wp2_with fail
  refine (digit_any _ _).mono ?_; rintro e w1 ⟨rfl, rfl⟩
  rw [HD.out]
  go_wp2_with fail
  refine (refDigit_any _ _).mono ?_; rintro e w1 ⟨rfl, rfl⟩
  rw [HD.out]
  go_wp2_with fail
  refine (mark_any _ _).mono ?_; rintro e w1 ⟨rfl, rfl⟩
  rw [HM.out]
  go_wp2_with fail
  refine (refMark_any _ _).mono ?_; rintro e w1 ⟨rfl, hb1⟩
  rw [HM.out]
  go_wp2_with fail
  refine (letter_any _ _).mono ?_; rintro e w2 ⟨rfl, rfl⟩
  rw [HL.out]
  go_wp2_with fail
  refine (refLetter_any _ _).mono ?_; rintro e w2 ⟨rfl, hb2⟩
  rw [HL.out]
  have h12 := hb1.trans (hb2.mono hb1.size)
  go_wp2_with fail
  refine (awake_any _).mono ?_; rintro e w3 ⟨rfl, hb3⟩
  go_wp2_with fail
  go_ret
  exact ⟨rfl, h12.trans (hb3.mono h12.size)⟩

theorem walk_32 (w : World) (hb : blankB 32 = true) (hd : digitB 32 = false) (hm : markB 32 = false) (hl : letterB 32 = false) :
    Calls Tryd.prog 3 #[.int .i64 32] w fun e w' => e = .returned (.bool true) ∧ Below w.heap.size w w' := by
  have HB := Lib.hid hb
  have HD := Lib.hid hd
  have HM := Lib.hid hm
  have HL := Lib.hid hl
  clear hb hd hm hl
  go_enter Tryd.func3, Tryd.ntmps3
  go_wp2_with fail
  refine wp_loop_rounds 5 ?_
  rw [rounds_succ]
  go_wp2_with fail
  refine (blank_any _ _).mono ?_; rintro e w1 ⟨rfl, rfl⟩
  rw [HB.out]
  go_wp2_with fail
  rw [rounds_succ]
  go_wp2_with fail
  refine (digit_any _ _).mono ?_; rintro e w1 ⟨rfl, rfl⟩
  rw [HD.out]
  go_wp2_with fail
  rw [rounds_succ]
  go_wp2_with fail
  refine (mark_any _ _).mono ?_; rintro e w1 ⟨rfl, rfl⟩
  rw [HM.out]
  go_wp2_with fail
  rw [rounds_succ]
  go_wp2_with fail
  refine (letter_any _ _).mono ?_; rintro e w1 ⟨rfl, rfl⟩
  rw [HL.out]
  go_wp2_with fail
  rw [rounds_succ]
  go_wp2_with fail
  refine (blank_any _ _).mono ?_; rintro e w1 ⟨rfl, rfl⟩
  rw [HB.out]
  go_wp2_with fail
  refine (digit_any _ _).mono ?_; rintro e w1 ⟨rfl, rfl⟩
  rw [HD.out]
  go_wp2_with fail
  refine (refDigit_any _ _).mono ?_; rintro e w1 ⟨rfl, rfl⟩
  rw [HD.out]
  go_wp2_with fail
  refine (mark_any _ _).mono ?_; rintro e w1 ⟨rfl, rfl⟩
  rw [HM.out]
  go_wp2_with fail
  refine (refMark_any _ _).mono ?_; rintro e w1 ⟨rfl, hb1⟩
  rw [HM.out]
  go_wp2_with fail
  refine (letter_any _ _).mono ?_; rintro e w2 ⟨rfl, rfl⟩
  rw [HL.out]
  go_wp2_with fail
  refine (refLetter_any _ _).mono ?_; rintro e w2 ⟨rfl, hb2⟩
  rw [HL.out]
  have h12 := hb1.trans (hb2.mono hb1.size)
  go_wp2_with fail
  refine (awake_any _).mono ?_; rintro e w3 ⟨rfl, hb3⟩
  go_wp2_with fail
  go_ret
  exact ⟨rfl, h12.trans (hb3.mono h12.size)⟩

theorem walk_d (n : Int) (w : World) (e9 : (n == 9) = false) (e10 : (n == 10) = false) (e13 : (n == 13) = false) (e32 : (n == 32) = false) (hb : blankB n = false) (hd : digitB n = true) (hm : markB n = false) (hl : letterB n = false) :
    Calls Tryd.prog 3 #[.int .i64 n] w fun e w' => e = .returned (.bool true) ∧ Below w.heap.size w w' := by
  have HB := Lib.hid hb
  have HD := Lib.hid hd
  have HM := Lib.hid hm
  have HL := Lib.hid hl
  clear hb hd hm hl
  go_enter Tryd.func3, Tryd.ntmps3
  go_wp2_with fail
  refine wp_loop_rounds 5 ?_
  rw [rounds_succ]
  go_wp2_with fail
  refine (blank_any _ _).mono ?_; rintro e w1 ⟨rfl, rfl⟩
  rw [HB.out]
  go_wp2_with fail
  rw [rounds_succ]
  go_wp2_with fail
  refine (digit_any _ _).mono ?_; rintro e w1 ⟨rfl, rfl⟩
  rw [HD.out]
  go_wp2_with fail
  rw [rounds_succ]
  go_wp2_with fail
  refine (mark_any _ _).mono ?_; rintro e w1 ⟨rfl, rfl⟩
  rw [HM.out]
  go_wp2_with fail
  rw [rounds_succ]
  go_wp2_with fail
  refine (letter_any _ _).mono ?_; rintro e w1 ⟨rfl, rfl⟩
  rw [HL.out]
  go_wp2_with fail
  rw [rounds_succ]
  go_wp2_with fail
  refine (blank_any _ _).mono ?_; rintro e w1 ⟨rfl, rfl⟩
  rw [HB.out]
  go_wp2_with fail
  refine (digit_any _ _).mono ?_; rintro e w1 ⟨rfl, rfl⟩
  rw [HD.out]
  go_wp2_with fail
  refine (refDigit_any _ _).mono ?_; rintro e w1 ⟨rfl, rfl⟩
  rw [HD.out]
  go_wp2_with fail
  refine (mark_any _ _).mono ?_; rintro e w1 ⟨rfl, rfl⟩
  rw [HM.out]
  go_wp2_with fail
  refine (refMark_any _ _).mono ?_; rintro e w1 ⟨rfl, hb1⟩
  rw [HM.out]
  go_wp2_with fail
  refine (letter_any _ _).mono ?_; rintro e w2 ⟨rfl, rfl⟩
  rw [HL.out]
  go_wp2_with fail
  refine (refLetter_any _ _).mono ?_; rintro e w2 ⟨rfl, hb2⟩
  rw [HL.out]
  have h12 := hb1.trans (hb2.mono hb1.size)
  go_wp2_with fail
  refine (awake_any _).mono ?_; rintro e w3 ⟨rfl, hb3⟩
  go_wp2_with fail
  go_ret
  exact ⟨rfl, h12.trans (hb3.mono h12.size)⟩

theorem walk_m (n : Int) (w : World) (e9 : (n == 9) = false) (e10 : (n == 10) = false) (e13 : (n == 13) = false) (e32 : (n == 32) = false) (hb : blankB n = false) (hd : digitB n = false) (hm : markB n = true) (hl : letterB n = false) :
    Calls Tryd.prog 3 #[.int .i64 n] w fun e w' => e = .returned (.bool true) ∧ Below w.heap.size w w' := by
  have HB := Lib.hid hb
  have HD := Lib.hid hd
  have HM := Lib.hid hm
  have HL := Lib.hid hl
  clear hb hd hm hl
  go_enter Tryd.func3, Tryd.ntmps3
  go_wp2_with fail
  refine wp_loop_rounds 5 ?_
  rw [rounds_succ]
  go_wp2_with fail
  refine (blank_any _ _).mono ?_; rintro e w1 ⟨rfl, rfl⟩
  rw [HB.out]
  go_wp2_with fail
  rw [rounds_succ]
  go_wp2_with fail
  refine (digit_any _ _).mono ?_; rintro e w1 ⟨rfl, rfl⟩
  rw [HD.out]
  go_wp2_with fail
  rw [rounds_succ]
  go_wp2_with fail
  refine (mark_any _ _).mono ?_; rintro e w1 ⟨rfl, rfl⟩
  rw [HM.out]
  go_wp2_with fail
  rw [rounds_succ]
  go_wp2_with fail
  refine (letter_any _ _).mono ?_; rintro e w1 ⟨rfl, rfl⟩
  rw [HL.out]
  go_wp2_with fail
  rw [rounds_succ]
  go_wp2_with fail
  refine (blank_any _ _).mono ?_; rintro e w1 ⟨rfl, rfl⟩
  rw [HB.out]
  go_wp2_with fail
  refine (digit_any _ _).mono ?_; rintro e w1 ⟨rfl, rfl⟩
  rw [HD.out]
  go_wp2_with fail
  refine (refDigit_any _ _).mono ?_; rintro e w1 ⟨rfl, rfl⟩
  rw [HD.out]
  go_wp2_with fail
  refine (mark_any _ _).mono ?_; rintro e w1 ⟨rfl, rfl⟩
  rw [HM.out]
  go_wp2_with fail
  refine (refMark_any _ _).mono ?_; rintro e w1 ⟨rfl, hb1⟩
  rw [HM.out]
  go_wp2_with fail
  refine (letter_any _ _).mono ?_; rintro e w2 ⟨rfl, rfl⟩
  rw [HL.out]
  go_wp2_with fail
  refine (refLetter_any _ _).mono ?_; rintro e w2 ⟨rfl, hb2⟩
  rw [HL.out]
  have h12 := hb1.trans (hb2.mono hb1.size)
  go_wp2_with fail
  refine (awake_any _).mono ?_; rintro e w3 ⟨rfl, hb3⟩
  go_wp2_with fail
  go_ret
  exact ⟨rfl, h12.trans (hb3.mono h12.size)⟩

theorem walk_l (n : Int) (w : World) (e9 : (n == 9) = false) (e10 : (n == 10) = false) (e13 : (n == 13) = false) (e32 : (n == 32) = false) (hb : blankB n = false) (hd : digitB n = false) (hm : markB n = false) (hl : letterB n = true) :
    Calls Tryd.prog 3 #[.int .i64 n] w fun e w' => e = .returned (.bool true) ∧ Below w.heap.size w w' := by
  have HB := Lib.hid hb
  have HD := Lib.hid hd
  have HM := Lib.hid hm
  have HL := Lib.hid hl
  clear hb hd hm hl
  go_enter Tryd.func3, Tryd.ntmps3
  go_wp2_with fail
  refine wp_loop_rounds 5 ?_
  rw [rounds_succ]
  go_wp2_with fail
  refine (blank_any _ _).mono ?_; rintro e w1 ⟨rfl, rfl⟩
  rw [HB.out]
  go_wp2_with fail
  rw [rounds_succ]
  go_wp2_with fail
  refine (digit_any _ _).mono ?_; rintro e w1 ⟨rfl, rfl⟩
  rw [HD.out]
  go_wp2_with fail
  rw [rounds_succ]
  go_wp2_with fail
  refine (mark_any _ _).mono ?_; rintro e w1 ⟨rfl, rfl⟩
  rw [HM.out]
  go_wp2_with fail
  rw [rounds_succ]
  go_wp2_with fail
  refine (letter_any _ _).mono ?_; rintro e w1 ⟨rfl, rfl⟩
  rw [HL.out]
  go_wp2_with fail
  rw [rounds_succ]
  go_wp2_with fail
  refine (blank_any _ _).mono ?_; rintro e w1 ⟨rfl, rfl⟩
  rw [HB.out]
  go_wp2_with fail
  refine (digit_any _ _).mono ?_; rintro e w1 ⟨rfl, rfl⟩
  rw [HD.out]
  go_wp2_with fail
  refine (refDigit_any _ _).mono ?_; rintro e w1 ⟨rfl, rfl⟩
  rw [HD.out]
  go_wp2_with fail
  refine (mark_any _ _).mono ?_; rintro e w1 ⟨rfl, rfl⟩
  rw [HM.out]
  go_wp2_with fail
  refine (refMark_any _ _).mono ?_; rintro e w1 ⟨rfl, hb1⟩
  rw [HM.out]
  go_wp2_with fail
  refine (letter_any _ _).mono ?_; rintro e w2 ⟨rfl, rfl⟩
  rw [HL.out]
  go_wp2_with fail
  refine (refLetter_any _ _).mono ?_; rintro e w2 ⟨rfl, hb2⟩
  rw [HL.out]
  have h12 := hb1.trans (hb2.mono hb1.size)
  go_wp2_with fail
  refine (awake_any _).mono ?_; rintro e w3 ⟨rfl, hb3⟩
  go_wp2_with fail
  go_ret
  exact ⟨rfl, h12.trans (hb3.mono h12.size)⟩

theorem walk_n (n : Int) (w : World) (e9 : (n == 9) = false) (e10 : (n == 10) = false) (e13 : (n == 13) = false) (e32 : (n == 32) = false) (hb : blankB n = false) (hd : digitB n = false) (hm : markB n = false) (hl : letterB n = false) :
    Calls Tryd.prog 3 #[.int .i64 n] w fun e w' => e = .returned (.bool true) ∧ Below w.heap.size w w' := by
  have HB := Lib.hid hb
  have HD := Lib.hid hd
  have HM := Lib.hid hm
  have HL := Lib.hid hl
  clear hb hd hm hl
  go_enter Tryd.func3, Tryd.ntmps3
  go_wp2_with fail
  refine wp_loop_rounds 5 ?_
  rw [rounds_succ]
  go_wp2_with fail
  refine (blank_any _ _).mono ?_; rintro e w1 ⟨rfl, rfl⟩
  rw [HB.out]
  go_wp2_with fail
  rw [rounds_succ]
  go_wp2_with fail
  refine (digit_any _ _).mono ?_; rintro e w1 ⟨rfl, rfl⟩
  rw [HD.out]
  go_wp2_with fail
  rw [rounds_succ]
  go_wp2_with fail
  refine (mark_any _ _).mono ?_; rintro e w1 ⟨rfl, rfl⟩
  rw [HM.out]
  go_wp2_with fail
  rw [rounds_succ]
  go_wp2_with fail
  refine (letter_any _ _).mono ?_; rintro e w1 ⟨rfl, rfl⟩
  rw [HL.out]
  go_wp2_with fail
  rw [rounds_succ]
  go_wp2_with fail
  refine (blank_any _ _).mono ?_; rintro e w1 ⟨rfl, rfl⟩
  rw [HB.out]
  go_wp2_with fail
  refine (digit_any _ _).mono ?_; rintro e w1 ⟨rfl, rfl⟩
  rw [HD.out]
  go_wp2_with fail
  refine (refDigit_any _ _).mono ?_; rintro e w1 ⟨rfl, rfl⟩
  rw [HD.out]
  go_wp2_with fail
  refine (mark_any _ _).mono ?_; rintro e w1 ⟨rfl, rfl⟩
  rw [HM.out]
  go_wp2_with fail
  refine (refMark_any _ _).mono ?_; rintro e w1 ⟨rfl, hb1⟩
  rw [HM.out]
  go_wp2_with fail
  refine (letter_any _ _).mono ?_; rintro e w2 ⟨rfl, rfl⟩
  rw [HL.out]
  go_wp2_with fail
  refine (refLetter_any _ _).mono ?_; rintro e w2 ⟨rfl, hb2⟩
  rw [HL.out]
  have h12 := hb1.trans (hb2.mono hb1.size)
  go_wp2_with fail
  refine (awake_any _).mono ?_; rintro e w3 ⟨rfl, hb3⟩
  go_wp2_with fail
  go_ret
  exact ⟨rfl, h12.trans (hb3.mono h12.size)⟩

theorem walk (n : Int) (w : World) (hw : (Lit.int .i64 n).wf = true) :
    Calls Tryd.prog 3 #[.int .i64 n] w fun e w' => e = .returned (.bool true) ∧ Below w.heap.size w w' := by
  cases hb : blankB n with
  | true =>
    rcases blank_cases hb with rfl | rfl | rfl | rfl
    · exact walk_9 w hb (by decide) (by decide) (by decide)
    · exact walk_10 w hb (by decide) (by decide) (by decide)
    · exact walk_13 w hb (by decide) (by decide) (by decide)
    · exact walk_32 w hb (by decide) (by decide) (by decide)
  | false =>
    have e9 : (n == 9) = false := by rw [beq_eq_false_iff_ne]; rintro rfl; exact absurd hb (by decide)
    have e10 : (n == 10) = false := by rw [beq_eq_false_iff_ne]; rintro rfl; exact absurd hb (by decide)
    have e13 : (n == 13) = false := by rw [beq_eq_false_iff_ne]; rintro rfl; exact absurd hb (by decide)
    have e32 : (n == 32) = false := by rw [beq_eq_false_iff_ne]; rintro rfl; exact absurd hb (by decide)
    cases hl : letterB n with
    | true => obtain ⟨_, h2, h3⟩ := letter_not hl; exact walk_l n w e9 e10 e13 e32 hb h2 h3 hl
    | false =>
      cases hm : markB n with
      | true => exact walk_m n w e9 e10 e13 e32 hb (mark_not_digit hm) hm hl
      | false =>
        cases hd : digitB n with
        | true => exact walk_d n w e9 e10 e13 e32 hb hd hm hl
        | false => exact walk_n n w e9 e10 e13 e32 hb hd hm hl

set_option maxRecDepth 100000 in
theorem lifted (os : Os) (started : os.Started) (H : Type) (enc : TypeId × Value → H) :
    ReturnsInHanded {} Tryd.checked os 3 .any (fun w args => (Rows.nameKindsSpec.pre enc Tryd.prog Tryd.f3 Rows.nameKindsRow.domain false w args ∧ laidMetH Tryd.prog Rows.nameKindsRow.laid w) ∧ sizedMet enc Tryd.prog Tryd.f3 (OpenSpec.ofChange Rows.nameKindsSpec) false w args)
      (Rows.nameKindsSpec.post enc Tryd.prog Tryd.f3 false true false false) := by
  refine returnsInHanded_of_change_and (C := Tryd.checked) (X := fun w _ => laidMetH Tryd.prog Rows.nameKindsRow.laid w) (fun _ _ _ hh h => h.of_heap hh) own started (by kernel_rfl) Tryd.func3
    (ChangeSpec.witness_shaped (enc := enc) (C := Tryd.checked) (os := os) (X := fun w _ => laidMetH Tryd.prog Rows.nameKindsRow.laid w) false (World.laidAll Tryd.prog os Rows.nameKindsRow.laid) #[.int .i64 0] 8 (World.laidAll_os _ _ _)
      (World.shaped_of_ZipB (by kernel_rfl) (by kernel_rfl)) (by kernel_rfl) (by kernel_rfl) (by kernel_rfl)
      (by rw [MakeChecks.laidMetH_plain _ _ _ (by kernel_rfl)]; exact laidMet_laidAll _ (by kernel_rfl) (by kernel_rfl))) ?_
  intro W base args ds gs before hval0 hW _ _ hL _
  have hval : ∀ (j : Nat) t v, Tryd.f3.params[j]? = some t → args[j]? = some v → Value.okWide Tryd.prog W .any base t v := hval0
  have hW' := hW
  obtain ⟨p, q, hA0, hV, rfl, hfz, hnd⟩ := hW
  have hA : DataW.TrodAll enc Tryd.prog W 0 (fun _ => true) true Tryd.f3.params.toList args.toList ds p := hA0
  rw [Tryd.params3] at hA hval
  obtain ⟨v0, vs0, d0, ds0, p0, q0, hargs, rfl, rfl, h0, r0⟩ := trodAll_cons hA
  obtain ⟨rfl, rfl, rfl⟩ := trodAll_nil r0
  obtain rfl : args = #[v0] := by cases args; simp_all
  obtain ⟨rfl, rfl⟩ := trodVars_none hV
  obtain ⟨a0, rfl, rfl, rfl, w0⟩ := open_int Tryd.underlying3 (hval 0 3 v0 rfl rfl) h0
  clear hA0 hval0
  refine (walk a0 W w0).mono fun e W' ⟨he, bel⟩ => ?_
  subst he
  exact ⟨_, rfl, _, _, _, [], _, [], hW', trodAll_mk1 (shut_bool Tryd.underlying4 _), (trodAll_cons_mk (shut_int Tryd.underlying3 w0) trodAll_mk0), rfl, bel.frame _, fun h => by cases h⟩

theorem over : Rows.nameKindsRow.holds Tryd.pinned (OpenSpec.ofChange Rows.nameKindsSpec) :=
  OpenClaim.holds_of_wide 3 Tryd.f3 rfl rfl rfl rfl rfl rfl rfl ⟨rfl, rfl, rfl, rfl, rfl⟩ rfl rfl rfl rfl rfl (by kernel_rfl) Tryd.func3 (by kernel_rfl)
    (of_decide_eq_true (by kernel_rfl)) (by unfold Func.isWrapper; first | (rw [if_pos (by decide +kernel)]; kernel_rfl) | (rw [if_neg (by decide +kernel)]; exact ⟨rfl, rfl⟩))
    (fun os started H enc _ => lifted os started H enc)

/-- The statement: the tied card. -/
theorem card_holds : Rows.NameKindsCardSaid :=
  Claim7.holds_tied_plain_at .later [] [.data, .data, .data, .data, .pinned] true Rows.nameKindsCard.stood.harness false over (fun _ h => by cases h) (by kernel_rfl) (fun _ h => by cases h) nameKinds_row_tie rfl ⟨rfl, rfl⟩ (by kernel_rfl) rfl
    (fun f fn hf hfn => by
      obtain rfl : f = 3 := Option.some.inj ((show Tryd.prog.funcNamed "scholium/scholiumlaw02.NameKinds" = some 3 by kernel_rfl).symm.trans hf) |>.symm
      obtain rfl : fn = Tryd.f3 := (Option.some.inj (Tryd.func3.symm.trans hfn)).symm
      exact ⟨by kernel_rfl, fun j t ht => by
        rw [Tryd.params3] at ht
        have hm : t ∈ [3] := by simpa using Array.mem_of_getElem? ht
        have hall : ([3].all fun u => !Tryd.prog.wantsStandIn u) = true := by kernel_rfl
        exact (show Tryd.prog.wantsStandIn t = false by simpa using List.all_eq_true.1 hall t hm)⟩)
    (by kernel_rfl)
#print axioms card_holds
end Go.Proofs.YtiikodihbgaaaaaDoor.nameKinds
