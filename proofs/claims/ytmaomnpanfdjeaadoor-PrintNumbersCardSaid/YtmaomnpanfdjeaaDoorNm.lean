/- Names as tests: name.Right and the document's Right come to one bool, for every string; tree.bears, scholiumref04.many, scholiumref04.named. -/
import Derived.Test.YtmaomnpanfdjeaaDoorRefRight
import Derived.LoopTactic
import Derived.RegionTactic
namespace Go.Proofs.YtmaomnpanfdjeaaDoor
open Go.RowKit
set_option linter.unusedVariables false

/-- Is the text a name? -/
noncomputable def nmB (s : ByteArray) : Bool := @decide (∃ ns, IsName s ns) (Classical.propDecidable _)
theorem nmB_yes {s : ByteArray} {ns : List Int} (h : IsName s ns) : nmB s = true := @decide_eq_true _ (Classical.propDecidable _) ⟨ns, h⟩
theorem nmB_no {s : ByteArray} (h : ¬ ∃ ns, IsName s ns) : nmB s = false := @decide_eq_false _ (Classical.propDecidable _) h
theorem nameRight_any (s : ByteArray) (w : World) (hs : s.size ≤ 9223372036854775807) :
    Calls Tryd.prog 52 #[.string s] w fun e w' => e = .returned (.bool (nmB s)) ∧ Below w.heap.size w w' := by
  rcases Classical.em (∃ ns, IsName s ns) with ⟨ns, h⟩ | h
  · rw [nmB_yes h]; exact right_yes s ns w h
  · rw [nmB_no h]; exact right_no s w hs h
theorem refNameRight_any (s : ByteArray) (w : World) (hs : s.size ≤ 9223372036854775807) :
    Calls Tryd.prog 48 #[.string s] w fun e w' => e = .returned (.bool (nmB s)) ∧ Below w.heap.size w w' := by
  rcases Classical.em (∃ ns, IsName s ns) with ⟨ns, h⟩ | h
  · rw [nmB_yes h]; exact refRight_yes s ns w h
  · rw [nmB_no h]; exact refRight_no s w hs h

def lowB (s : ByteArray) : Bool := s.toList == [95]
def noneB (s : ByteArray) : Bool := s.toList == []
/-- May a node bear the name? -/
noncomputable def bearsB (s : ByteArray) (may : Int) : Bool := if may = 1 then nmB s else if may = 2 then lowB s || nmB s else noneB s

theorem bears_any (s : ByteArray) (may : Int) (w : World) (hs : s.size ≤ 9223372036854775807) :
    Calls Tryd.prog 43 #[.string s, .int .i64 may] w fun e w' => e = .returned (.bool (bearsB s may)) ∧ Below w.heap.size w w' := by
  have HR := Lib.hid (nameRight_any s)
  by_cases h1 : may = 1
  · subst h1
    have e : bearsB s 1 = nmB s := rfl
    rw [e]; clear e
    go_enter Tryd.func43, Tryd.ntmps43
    go_wp2_with fail
    refine (HR.out _ hs).mono ?_; rintro e w1 ⟨rfl, hb⟩
    go_wp2_with fail
    go_ret
    exact ⟨rfl, hb⟩
  · by_cases h2 : may = 2
    · subst h2
      have e : bearsB s 2 = (lowB s || nmB s) := rfl
      rw [e]; clear e h1
      cases hl : lowB s with
      | true =>
        unfold lowB at hl
        clear HR
        go_enter Tryd.func43, Tryd.ntmps43
        go_wp2_with fail
        go_ret
        exact ⟨rfl, Below.refl _ _⟩
      | false =>
        unfold lowB at hl
        go_enter Tryd.func43, Tryd.ntmps43
        go_wp2_with fail
        refine (HR.out _ hs).mono ?_; rintro e w1 ⟨rfl, hb⟩
        go_wp2_with fail
        go_ret
        exact ⟨by simp, hb⟩
    · have e : bearsB s may = noneB s := by unfold bearsB; rw [if_neg h1, if_neg h2]
      have t1 : (may == 1) = false := by simp; omega
      have t2 : (may == 2) = false := by simp; omega
      rw [e]; clear e HR
      unfold noneB
      go_enter Tryd.func43, Tryd.ntmps43
      go_wp2_with fail
      go_ret
      exact ⟨by simp, Below.refl _ _⟩

/-- May a kind have so many Subs? -/
def manyB (k : Int) (n : Nat) : Bool := if k = 8 then decide (0 < n) else if k = 3 ∨ k = 4 ∨ k = 5 then decide (n = 2) else if k = 10 then decide (n = 1) else decide (n = 0)
/-- May a kind have the name? -/
noncomputable def namedB (k : Int) (s : ByteArray) : Bool := if k = 1 ∨ k = 6 ∨ k = 8 then nmB s else if k = 3 ∨ k = 4 then lowB s || nmB s else noneB s

theorem beq_cast (n m : Nat) : ((n : Int) == (m : Int)) = decide (n = m) := by rw [Bool.eq_iff_iff]; simp; omega
theorem many_any (k : Int) (n : Nat) (w : World) : Calls Tryd.prog 38 #[.int .i64 k, .int .i64 (n : Int)] w fun e w' => e = .returned (.bool (manyB k n)) ∧ w = w' := by
  obtain ⟨r, hr⟩ : ∃ r, manyB k n = r := ⟨_, rfl⟩
  have HR := Lib.hid hr
  rw [hr]; clear hr
  by_cases h8 : k = 8
  · subst h8
    go_enter Tryd.func38, Tryd.ntmps38
    go_wp2_with fail
    go_ret
    exact ⟨by rw [← HR.out]; simp [manyB], rfl⟩
  · by_cases h3 : k = 3
    · subst h3
      go_enter Tryd.func38, Tryd.ntmps38
      go_wp2_with fail
      go_ret
      exact ⟨by rw [← HR.out]; simp [manyB]; first | exact beq_cast n 2 | exact beq_cast n 1 | omega, rfl⟩
    · by_cases h4 : k = 4
      · subst h4
        go_enter Tryd.func38, Tryd.ntmps38
        go_wp2_with fail
        go_ret
        exact ⟨by rw [← HR.out]; simp [manyB]; first | exact beq_cast n 2 | exact beq_cast n 1 | omega, rfl⟩
      · by_cases h5 : k = 5
        · subst h5
          go_enter Tryd.func38, Tryd.ntmps38
          go_wp2_with fail
          go_ret
          exact ⟨by rw [← HR.out]; simp [manyB]; first | exact beq_cast n 2 | exact beq_cast n 1 | omega, rfl⟩
        · by_cases h10 : k = 10
          · subst h10
            go_enter Tryd.func38, Tryd.ntmps38
            go_wp2_with fail
            go_ret
            exact ⟨by rw [← HR.out]; simp [manyB]; first | exact beq_cast n 2 | exact beq_cast n 1 | omega, rfl⟩
          · have t8 : (k == 8) = false := by simp; omega
            have t3 : (k == 3) = false := by simp; omega
            have t4 : (k == 4) = false := by simp; omega
            have t5 : (k == 5) = false := by simp; omega
            have t10 : (k == 10) = false := by simp; omega
            go_enter Tryd.func38, Tryd.ntmps38
            go_wp2_with fail
            go_ret
            exact ⟨by rw [← HR.out]; simp [manyB, h8, h3, h4, h5, h10]; try exact beq_cast n 0, rfl⟩

theorem named_any (k : Int) (s : ByteArray) (w : World) (hs : s.size ≤ 9223372036854775807) :
    Calls Tryd.prog 39 #[.int .i64 k, .string s] w fun e w' => e = .returned (.bool (namedB k s)) ∧ Below w.heap.size w w' := by
  have HR := Lib.hid (refNameRight_any s)
  by_cases hn : k = 1 ∨ k = 6 ∨ k = 8
  · have e : namedB k s = nmB s := by unfold namedB; rw [if_pos hn]
    rw [e]; clear e
    rcases hn with rfl | rfl | rfl
    all_goals
      go_enter Tryd.func39, Tryd.ntmps39
      go_wp2_with fail
      refine (HR.out _ hs).mono ?_; rintro e w1 ⟨rfl, hb⟩
      go_wp2_with fail
      go_ret
      exact ⟨rfl, hb⟩
  · have h1 : ¬ k = 1 := by omega
    have h6 : ¬ k = 6 := by omega
    have h8 : ¬ k = 8 := by omega
    by_cases hb : k = 3 ∨ k = 4
    · have e : namedB k s = (lowB s || nmB s) := by unfold namedB; rw [if_neg hn, if_pos hb]
      rw [e]; clear e hn h1 h6 h8
      cases hl : lowB s with
      | true =>
        unfold lowB at hl
        clear HR
        rcases hb with rfl | rfl
        all_goals
          go_enter Tryd.func39, Tryd.ntmps39
          go_wp2_with fail
          go_ret
          exact ⟨rfl, Below.refl _ _⟩
      | false =>
        unfold lowB at hl
        rcases hb with rfl | rfl
        all_goals
          go_enter Tryd.func39, Tryd.ntmps39
          go_wp2_with fail
          refine (HR.out _ hs).mono ?_; rintro e w1 ⟨rfl, hb⟩
          go_wp2_with fail
          go_ret
          exact ⟨by simp, hb⟩
    · have e : namedB k s = noneB s := by unfold namedB; rw [if_neg hn, if_neg hb]
      have h3 : ¬ k = 3 := by omega
      have h4 : ¬ k = 4 := by omega
      have t1 : (k == 1) = false := by simp; omega
      have t6 : (k == 6) = false := by simp; omega
      have t8 : (k == 8) = false := by simp; omega
      have t3 : (k == 3) = false := by simp; omega
      have t4 : (k == 4) = false := by simp; omega
      rw [e]; clear e HR hn hb
      unfold noneB
      go_enter Tryd.func39, Tryd.ntmps39
      go_wp2_with fail
      go_ret
      exact ⟨by simp, Below.refl _ _⟩

end Go.Proofs.YtmaomnpanfdjeaaDoor
