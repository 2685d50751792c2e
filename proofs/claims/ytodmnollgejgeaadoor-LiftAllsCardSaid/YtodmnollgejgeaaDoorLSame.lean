/- Layer 8's laws' own same and awake. -/
import Derived.Test.YtodmnollgejgeaaDoorLFacts
namespace Go.Proofs.YtodmnollgejgeaaDoor
open Go.RowKit
set_option linter.unusedVariables false
set_option maxRecDepth 100000

set_option maxHeartbeats 1000000 in
theorem same_any (t u : TM) (a b : Int) (lo hi lo' hi' : Nat) (A B : Option Addr) (cap cap' : Nat) (w : World) (h : IsTerm w lo hi t A cap) (h' : IsTerm w lo' hi' u B cap') (hhi : hi ≤ w.heap.size) (hhi' : hi' ≤ w.heap.size) :
    Calls Tryd.prog 31 #[termV t A cap, .int .i64 a, termV u B cap', .int .i64 b] w fun e w' => e = .returned (.bool (decide (a = b) && alikeT t u)) ∧ Below w.heap.size w w' := by
  have CE := Lib.hid (fun (V : World) (hV : Below w.heap.size w V) => refEqual_any t u lo hi lo' hi' A B cap cap' V (h.kept hV hhi) (h'.kept hV hhi') (by have := hV.size; omega) (by have := hV.size; omega))
  have HW2 := Lib.hid (fun o1 o2 => ((Below.refl w.heap.size w).alloc (Nat.le_refl _) o1).alloc (by simp) o2)
  clear h h' hhi hhi'
  obtain ⟨r, hr⟩ : ∃ r, alikeT t u = r := ⟨_, rfl⟩
  rw [hr] at CE ⊢
  clear hr
  unfold termV at CE ⊢
  by_cases hab : a = b
  · have t0 : (a == b) = true := by simpa using hab
    have HR := Lib.hid (show (decide (a = b) && r) = r by rw [decide_eq_true hab, Bool.true_and])
    clear hab
    go_enter Tryd.func31, Tryd.ntmps31
    go_wp2_with fail
    refine (CE.out _ (HW2.out _ _)).mono ?_
    rintro e w1 ⟨rfl, hb1⟩
    have HB1 := Lib.hid ((HW2.out _ _).trans (hb1.mono (by simp <;> omega)))
    clear hb1
    cases r
    all_goals
      go_wp2_with fail
      go_ret
      exact ⟨by rw [HR.out]; rfl, HB1.out⟩
  · have t0 : (a == b) = false := by simpa using hab
    have HR := Lib.hid (show (decide (a = b) && r) = false by rw [decide_eq_false hab, Bool.false_and])
    clear hab
    go_enter Tryd.func31, Tryd.ntmps31
    go_wp2_with fail
    go_ret
    exact ⟨by rw [HR.out]; rfl, HW2.out _ _⟩

theorem same_refl (t : TM) (a : Int) (lo hi lo' hi' : Nat) (A B : Option Addr) (cap cap' : Nat) (w : World) (h : IsTerm w lo hi t A cap) (h' : IsTerm w lo' hi' t B cap') (hhi : hi ≤ w.heap.size) (hhi' : hi' ≤ w.heap.size) :
    Calls Tryd.prog 31 #[termV t A cap, .int .i64 a, termV t B cap', .int .i64 a] w fun e w' => e = .returned (.bool true) ∧ Below w.heap.size w w' :=
  (same_any t t a a lo hi lo' hi' A B cap cap' w h h' hhi hhi').mono fun e w' h => ⟨h.1.trans (by rw [alikeT_refl, decide_eq_true rfl]; rfl), h.2⟩

theorem awl_good : tgoodB (.node 1 1 []) = true := by rw [leaf_good]; decide
theorem awl_shaped : shapedB (.node 1 1 []) = true := shapedB_true.2 ⟨by rw [tsize_node, sizeM_nil]; omega, by rw [tdepth_node, depthM_nil]; omega, awl_good⟩
theorem awl_lift : liftX (.node 1 1 []) 2 0 = (.node 1 3 [], 0) := by
  rw [liftX_eq, awl_shaped, if_pos (show (fitsB 2 && (fitsB 0 && true)) = true by decide), moveT_node, if_pos (show (1 : Int) = 1 from rfl), if_neg (show ¬ (1 : Int) < 0 by omega), leaf_good]
  rfl

set_option maxHeartbeats 1000000 in
theorem awakeL_any (w : World) (hS : ShapesM w) : Calls Tryd.prog 32 #[] w fun e w' => e = .returned (.bool true) ∧ Below w.heap.size w w' := by
  have CU := Lib.hid (show Calls Tryd.prog 30 #[.agg #[.int .i64 1, .int .i64 1, .slice none 0 0], .int .i64 2] w fun e w' => ∃ A cap, e = .returned (.tuple #[.agg #[.int .i64 1, .int .i64 3, .slice A 0 cap], .int .i64 0]) ∧ Below w.heap.size w w' from
    (up_any (.node 1 1 []) 2 0 w.heap.size none 0 w (leaf_in _ _ 1 1) (Nat.le_refl _) hS).mono fun e w' h => by
      rw [awl_lift] at h
      obtain ⟨A, cap, h1, _, h2⟩ := h
      exact ⟨A, cap, h1, h2⟩)
  clear hS
  go_enter Tryd.func32, Tryd.ntmps32
  go_wp2_with fail
  refine CU.out.mono ?_
  rintro e w1 ⟨A, cap, rfl, hb1⟩
  have HB1 := Lib.hid (hb1.alloc hb1.size (.cells #[.int .i64 1, .int .i64 3, .slice A 0 cap] 24))
  clear hb1
  go_wp2_with fail
  go_ret
  exact ⟨rfl, HB1.out⟩

end Go.Proofs.YtodmnollgejgeaaDoor
