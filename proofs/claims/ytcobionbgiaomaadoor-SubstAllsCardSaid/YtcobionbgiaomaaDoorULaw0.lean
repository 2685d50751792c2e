/- Layer 9's laws' own same and awake. -/
import Derived.Test.YtcobionbgiaomaaDoorUMany
import Derived.Test.YtcobionbgiaomaaDoorTREqual
namespace Go.Proofs.YtcobionbgiaomaaDoor
open Go.RowKit
set_option linter.unusedVariables false
set_option maxRecDepth 100000

set_option maxHeartbeats 1000000 in
theorem usame_any (t u : TM) (a b : Int) (lo hi lo' hi' : Nat) (A B : Option Addr) (cap cap' : Nat) (w : World) (h : IsTerm w lo hi t A cap) (h' : IsTerm w lo' hi' u B cap') (hhi : hi ≤ w.heap.size) (hhi' : hi' ≤ w.heap.size) :
    Calls Tryd.prog 14 #[termV t A cap, .int .i64 a, termV u B cap', .int .i64 b] w fun e w' => e = .returned (.bool (decide (a = b) && alikeT t u)) ∧ Below w.heap.size w w' := by
  have CE := Lib.hid (fun (V : World) (hV : Below w.heap.size w V) => refEqual_any t u lo hi lo' hi' A B cap cap' V (h.kept hV hhi) (h'.kept hV hhi') (by have := hV.size; omega) (by have := hV.size; omega))
  have HW2 := Lib.hid (fun o1 o2 => ((Below.refl w.heap.size w).alloc (Nat.le_refl _) o1).alloc (by simp) o2)
  clear h h' hhi hhi'
  obtain ⟨r, hr⟩ : ∃ r, alikeT t u = r := ⟨_, rfl⟩
  rw [hr] at CE ⊢
  clear hr
  unfold termV at CE ⊢
  by_cases hab : a = b
  · have t0 : (a == b) = true := by simpa using hab
    have HR := Lib.hid (show (decide (a = b) && r) = r by rw [decide_eq_true hab, Bool.true_and])
    clear hab
    go_enter Tryd.func14, Tryd.ntmps14
    go_wp2_with fail
    refine (CE.out _ (HW2.out _ _)).mono ?_
    rintro e w1 ⟨rfl, hb1⟩
    have HB1 := Lib.hid ((HW2.out _ _).trans (hb1.mono (by simp <;> omega)))
    clear hb1
    cases r
    all_goals
      go_wp2_with fail
      go_ret
      exact ⟨by rw [HR.out]; rfl, HB1.out⟩
  · have t0 : (a == b) = false := by simpa using hab
    have HR := Lib.hid (show (decide (a = b) && r) = false by rw [decide_eq_false hab, Bool.false_and])
    clear hab
    go_enter Tryd.func14, Tryd.ntmps14
    go_wp2_with fail
    go_ret
    exact ⟨by rw [HR.out]; rfl, HW2.out _ _⟩

theorem usame_refl (t : TM) (a : Int) (lo hi lo' hi' : Nat) (A B : Option Addr) (cap cap' : Nat) (w : World) (h : IsTerm w lo hi t A cap) (h' : IsTerm w lo' hi' t B cap') (hhi : hi ≤ w.heap.size) (hhi' : hi' ≤ w.heap.size) :
    Calls Tryd.prog 14 #[termV t A cap, .int .i64 a, termV t B cap', .int .i64 a] w fun e w' => e = .returned (.bool true) ∧ Below w.heap.size w w' :=
  (usame_any t t a a lo hi lo' hi' A B cap cap' w h h' hhi hhi').mono fun e w' h => ⟨h.1.trans (by rw [alikeT_refl, decide_eq_true rfl]; rfl), h.2⟩

theorem sort_shaped (n : Int) (h0 : 0 ≤ n) (h1 : n ≤ 7) : shapedB (.node 2 n []) = true := by
  refine shapedB_true.2 ⟨by rw [tsize_node, sizeM_nil]; omega, by rw [tdepth_node, depthM_nil]; omega, ?_⟩
  rw [tgoodB_node, tgoodL_all]
  unfold ttopB manyM mostM
  simp [h0, h1]
theorem var_shaped (n : Int) (h0 : 0 ≤ n) (h1 : n ≤ 1048576) : shapedB (.node 1 n []) = true := by
  refine shapedB_true.2 ⟨by rw [tsize_node, sizeM_nil]; omega, by rw [tdepth_node, depthM_nil]; omega, ?_⟩
  rw [leaf_good, decide_eq_true h0, decide_eq_true h1]; rfl
theorem awu_many : manyX (.node 1 0 []) [.node 2 3 []] = (.node 2 3 [], 0) := by
  unfold manyX
  rw [var_shaped 0 (by omega) (by omega), List.all_cons, sort_shaped 3 (by omega) (by omega), List.all_nil, if_pos (show (true && (true && true)) = true from rfl)]
  have e : putT (firstP [.node 2 3 []]) (.node 1 0 []) 0 = .node 2 3 [] := by
    rw [putT_node, if_pos (.inr ⟨rfl, Int.le_refl _⟩)]
    unfold firstP
    rw [if_neg (by omega), if_pos (by simp)]
    show moveT 0 (.node 2 3 []) 0 = _
    rw [moveT_node, if_neg (by omega), moveM_nil]
  rw [e]
  unfold gotX
  rw [sort_shaped 3 (by omega) (by omega), if_pos rfl]

set_option maxHeartbeats 1000000 in
theorem awakeU_any (w : World) (hS : ShapesM w) : Calls Tryd.prog 11 #[] w fun e w' => e = .returned (.bool true) ∧ Below w.heap.size w w' := by
  have HW := Lib.hid (show Below w.heap.size w (w.alloc (.cells #[.int .i64 1, .int .i64 0, .slice none 0 0] 24)) from (Below.refl _ _).alloc (Nat.le_refl _) _)
  have CU := Lib.hid (show Calls Tryd.prog 15 #[.agg #[.int .i64 1, .int .i64 0, .slice none 0 0], .agg #[.int .i64 2, .int .i64 3, .slice none 0 0]] (w.alloc (.cells #[.int .i64 1, .int .i64 0, .slice none 0 0] 24)) fun e w' => ∃ A cap, e = .returned (.tuple #[.agg #[.int .i64 2, .int .i64 3, .slice A 0 cap], .int .i64 0]) ∧ Below (w.alloc (.cells #[.int .i64 1, .int .i64 0, .slice none 0 0] 24)).heap.size (w.alloc (.cells #[.int .i64 1, .int .i64 0, .slice none 0 0] 24)) w' from
    (onec_any (.node 1 0 []) 0 0 none 0 (.node 2 3 []) 0 0 none 0 _ (leaf_in _ _ 1 0) (Nat.zero_le _) (leaf_in _ _ 2 3) (Nat.zero_le _) (hS.kept HW.out)).mono fun e w' h => by
      rw [awu_many] at h
      obtain ⟨A, cap, h1, _, h2⟩ := h
      exact ⟨A, cap, h1, h2⟩)
  clear hS
  go_enter Tryd.func11, Tryd.ntmps11
  go_wp2_with fail
  refine CU.out.mono ?_
  rintro e w1 ⟨A, cap, rfl, hb1⟩
  have HB1 := Lib.hid ((HW.out.trans (hb1.mono (by simp))).alloc (by have := hb1.size; simp at this; omega) (.cells #[.int .i64 2, .int .i64 3, .slice A 0 cap] 24))
  clear hb1
  go_wp2_with fail
  go_ret
  exact ⟨rfl, HB1.out⟩

end Go.Proofs.YtcobionbgiaomaaDoor
