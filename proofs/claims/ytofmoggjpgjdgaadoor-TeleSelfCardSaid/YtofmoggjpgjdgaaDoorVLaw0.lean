/- Layer 10's laws' own same and awake. -/
import Derived.Test.YtofmoggjpgjdgaaDoorVVars
import Derived.Test.YtofmoggjpgjdgaaDoorTREqual
import Derived.Test.YtofmoggjpgjdgaaDoorULaw0
namespace Go.Proofs.YtofmoggjpgjdgaaDoor
open Go.RowKit
set_option linter.unusedVariables false
set_option maxRecDepth 100000

set_option maxHeartbeats 1000000 in
theorem vsame_any (t u : TM) (a b : Int) (lo hi lo' hi' : Nat) (A B : Option Addr) (cap cap' : Nat) (w : World) (h : IsTerm w lo hi t A cap) (h' : IsTerm w lo' hi' u B cap') (hhi : hi ≤ w.heap.size) (hhi' : hi' ≤ w.heap.size) :
    Calls Tryd.prog 13 #[termV t A cap, .int .i64 a, termV u B cap', .int .i64 b] w fun e w' => e = .returned (.bool (decide (a = b) && alikeT t u)) ∧ Below w.heap.size w w' := by
  have CE := Lib.hid (fun (V : World) (hV : Below w.heap.size w V) => refEqual_any t u lo hi lo' hi' A B cap cap' V (h.kept hV hhi) (h'.kept hV hhi') (by have := hV.size; omega) (by have := hV.size; omega))
  have HW2 := Lib.hid (fun o1 o2 => ((Below.refl w.heap.size w).alloc (Nat.le_refl _) o1).alloc (by simp) o2)
  clear h h' hhi hhi'
  obtain ⟨r, hr⟩ : ∃ r, alikeT t u = r := ⟨_, rfl⟩
  rw [hr] at CE ⊢
  clear hr
  unfold termV at CE ⊢
  by_cases hab : a = b
  · have t0 : (a == b) = true := by simpa using hab
    have HR := Lib.hid (show (decide (a = b) && r) = r by rw [decide_eq_true hab, Bool.true_and])
    clear hab
    go_enter Tryd.func13, Tryd.ntmps13
    go_wp2_with fail
    refine (CE.out _ (HW2.out _ _)).mono ?_
    rintro e w1 ⟨rfl, hb1⟩
    have HB1 := Lib.hid ((HW2.out _ _).trans (hb1.mono (by simp <;> omega)))
    clear hb1
    cases r
    all_goals
      go_wp2_with fail
      go_ret
      exact ⟨by rw [HR.out]; rfl, HB1.out⟩
  · have t0 : (a == b) = false := by simpa using hab
    have HR := Lib.hid (show (decide (a = b) && r) = false by rw [decide_eq_false hab, Bool.false_and])
    clear hab
    go_enter Tryd.func13, Tryd.ntmps13
    go_wp2_with fail
    go_ret
    exact ⟨by rw [HR.out]; rfl, HW2.out _ _⟩

theorem vsame_refl (t : TM) (a : Int) (lo hi lo' hi' : Nat) (A B : Option Addr) (cap cap' : Nat) (w : World) (h : IsTerm w lo hi t A cap) (h' : IsTerm w lo' hi' t B cap') (hhi : hi ≤ w.heap.size) (hhi' : hi' ≤ w.heap.size) :
    Calls Tryd.prog 13 #[termV t A cap, .int .i64 a, termV t B cap', .int .i64 a] w fun e w' => e = .returned (.bool true) ∧ Below w.heap.size w w' :=
  (vsame_any t t a a lo hi lo' hi' A B cap cap' w h h' hhi hhi').mono fun e w' h => ⟨h.1.trans (by rw [alikeT_refl, decide_eq_true rfl]; rfl), h.2⟩


theorem awv_around : aroundX 3 [.node 2 0 []] (.node 1 0 []) = (.node 3 0 [.node 2 0 [], .node 1 0 []], 0) := by
  rw [around_yes (by simp) (by rw [var_shaped 0 (by omega) (by omega), List.all_cons, sort_shaped 0 (by omega) (by omega)]; rfl)]
  refine gotX_yes (shapedB_true.2 ⟨?_, ?_, ?_⟩)
  · simp only [aroundT_cons, aroundT_nil, tsize_node, sizeM_cons, sizeM_nil]; omega
  · simp only [aroundT_cons, aroundT_nil, tdepth_node, depthM_cons, depthM_nil]; omega
  · simp only [aroundT_cons, aroundT_nil, tgoodB_node, tgoodL_all, List.all_cons, List.all_nil]; decide
theorem varsT_two : varsT 2 = [.node 1 1 [], .node 1 0 []] := rfl

set_option maxHeartbeats 2000000 in
theorem awakeV_any (w : World) (hS : ShapesM w) : Calls Tryd.prog 9 #[] w fun e w' => e = .returned (.bool true) ∧ Below w.heap.size w w' := by
  have CV := Lib.hid (show Calls Tryd.prog 28 #[.int .i64 2] w fun e w' => ∃ g o cap, e = .returned (.slice (some ⟨g, o, none⟩) 2 cap) ∧ w'.cell? ⟨g, o + 1, none⟩ = some (.int .i64 1) ∧ g < w'.heap.size ∧ Below w.heap.size w w' from
    (vars_any 2 (by omega) w).mono fun e w' h => by
      obtain ⟨A, cap, h1, h2, h3⟩ := h
      rw [varsT_two] at h1 h2
      obtain ⟨g, o, F, C, hA, q1, q2, ⟨c0, c1, c2⟩, _⟩ := h2.sub 0 (by simp)
      subst hA
      exact ⟨g, o, cap, h1, by rw [Nat.zero_mul, Nat.add_zero] at c1; exact c1, q2, h3⟩)
  have CP := Lib.hid (fun (V V2 : World) (g : Nat) (hV : Below w.heap.size w V) (hV2 : Below V.heap.size V V2) (hb : Bk V2 g 24 #[.int .i64 2, .int .i64 0, .slice none 0 0]) => (show Calls Tryd.prog 10 #[.slice (some ⟨g, 0, none⟩) 1 1, .agg #[.int .i64 1, .int .i64 0, .slice none 0 0]] V2 fun e w' => ∃ A cap, e = .returned (.tuple #[.agg #[.int .i64 3, .int .i64 0, .slice A 2 cap], .int .i64 0]) ∧ Below V2.heap.size V2 w' from
    (pis_any [.node 2 0 []] (some ⟨g, 0, none⟩) 1 (.node 1 0 []) none 0 V2 (one_in (leaf_in _ _ 2 0) hb ⟨Nat.zero_le _, hb.lt⟩ 0 0) (leaf_in _ _ 1 0) (hS.kept (hV.trans (hV2.mono hV.size)))).mono fun e w' h => by
      rw [awv_around] at h
      obtain ⟨A, cap, h1, _, h2⟩ := h
      exact ⟨A, cap, h1, h2⟩))
  clear hS
  go_enter Tryd.func9, Tryd.ntmps9
  go_wp2_with fail
  refine CV.out.mono ?_
  rintro e w1 ⟨g, o, cap, rfl, hc, hg, hb⟩
  have HC := Lib.hid hc
  have HB1 := Lib.hid hb
  clear hc hb CV
  go_wp2_with fail
  refine (CP.out w1 _ w1.heap.size HB1.out ((Below.refl w1.heap.size w1).alloc (Nat.le_refl _) _) (Bk.new w1 _ _)).mono ?_
  rintro e w2 ⟨A, cp, rfl, hb2⟩
  have hb3 := ((Below.refl w1.heap.size w1).alloc (Nat.le_refl _) (.cells #[.int .i64 2, .int .i64 0, .slice none 0 0] 24)).trans (hb2.mono (by simp))
  have c1 : w2.cell? ⟨g, o + 1, none⟩ = some (.int .i64 1) := (hb3.cell (p := ⟨g, o + 1, none⟩) hg).trans HC.out
  have hz2 := hb3.size
  have hg2 : g < w2.heap.size := by omega
  have HB2 := Lib.hid ((HB1.out.trans (hb3.mono HB1.out.size)).alloc (HB1.out.trans (hb3.mono HB1.out.size)).size (.cells #[.int .i64 3, .int .i64 0, .slice A 2 cp] 24))
  clear hb2 hb3
  go_wp2_with fail
  go_ret
  exact ⟨rfl, HB2.out⟩

end Go.Proofs.YtofmoggjpgjdgaaDoor
