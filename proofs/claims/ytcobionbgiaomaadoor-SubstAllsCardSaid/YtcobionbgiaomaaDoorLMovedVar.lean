/- lift.movedVar with each of the three closures. -/
import Derived.Test.YtcobionbgiaomaaDoorLVar
namespace Go.Proofs.YtcobionbgiaomaaDoor
open Go.RowKit
set_option linter.unusedVariables false
set_option maxRecDepth 100000

theorem GivesT.zero {w w' : World} {c : Int} (hb : Below w.heap.size w w') : GivesT (.node 0 0 [], c) w (.returned (.tuple #[.agg #[.int .i64 0, .int .i64 0, .slice none 0 0], .int .i64 c])) w' :=
  ⟨none, 0, rfl, leaf_in _ _ 0 0, hb⟩
theorem GivesT.leaf {w w' : World} {n : Int} (hb : Below w.heap.size w w') : GivesT (.node 1 n [], 0) w (.returned (.tuple #[.agg #[.int .i64 1, .int .i64 n, .slice none 0 0], .int .i64 0])) w' :=
  ⟨none, 0, rfl, leaf_in _ _ 1 n, hb⟩

set_option maxHeartbeats 1000000 in
theorem movedVar_lift (a0 a1 : Addr) (G : Int → Int × Int) (m b : Int) (w : World) (hb0 : 0 ≤ b) (hb1 : b ≤ 200) (hx : -2000000 ≤ (G m).1 ∧ (G m).1 ≤ 4000000)
    (HC : ∀ o, Calls Tryd.prog 62 #[.int .i64 m, .pointer (some a0), .pointer (some a1)] (w.alloc o) fun e w' => e = .returned (.tuple #[.int .i64 (G m).1, .int .i64 (G m).2]) ∧ Below (w.alloc o).heap.size (w.alloc o) w') :
    Calls Tryd.prog 67 #[.int .i64 m, .int .i64 b, .func (.func 62) #[] #[.pointer (some a0), .pointer (some a1)]] w (GivesT (resU (varT G m b)) w) := by
  obtain ⟨x, hxx⟩ : ∃ x, (G m).1 = x := ⟨_, rfl⟩
  obtain ⟨c, hcc⟩ : ∃ c, (G m).2 = c := ⟨_, rfl⟩
  have hG : G m = (x, c) := by rw [← hxx, ← hcc]
  rw [hxx] at hx
  rw [hxx, hcc] at HC
  have HC := Lib.hid HC
  have CV := Lib.hid (fun n (W : World) => (mk_var n W).mono fun e w' (h : _ ∧ _) => And.intro h.1 (show Below W.heap.size W w' from by rw [h.2]; exact (Below.refl _ _).alloc (Nat.le_refl _) _))
  have hw1 : IntKind.i64.wrap (1048576 - b) = 1048576 - b := IntWalk.i64_in _ (by omega)
  have hw2 : IntKind.i64.wrap (x + b) = x + b := IntWalk.i64_in _ (by omega)
  have HW1 := Lib.hid (fun o1 => ((Below.refl w.heap.size w).alloc (Nat.le_refl _) o1))
  have RES : Hid (resU (varT G m b) = if c = 0 then (if x > 1048576 - b then (.node 0 0 [], 2) else (.node 1 (x + b) [], 0)) else (.node 0 0 [], c)) := Lib.hid (by
    by_cases h0 : c = 0
    · subst h0
      rw [varT_ok hG, if_pos rfl]
      split <;> rfl
    · rw [varT_err hG h0, if_neg h0]; rfl)
  obtain ⟨RR, hRR⟩ : ∃ RR, resU (varT G m b) = RR := ⟨_, rfl⟩
  rw [hRR] at RES ⊢
  clear hxx hcc hG hRR hb0 hb1
  by_cases h0 : c = 0
  · have t0 : (c != 0) = false := by rw [h0]; rfl
    by_cases h1 : x > 1048576 - b
    · have RES2 := Lib.hid (RES.out.trans ((if_pos h0).trans (if_pos h1)))
      have t1 : decide (1048576 - b < x) = true := decide_eq_true h1
      clear h0 h1 RES hx
      go_enter Tryd.func67, Tryd.ntmps67
      go_wp2_with fail
      refine (HC.out _).mono ?_
      rintro e w1 ⟨rfl, hb1⟩
      have hz1 := hb1.size
      simp at hz1
      have BK := (Bk.new w 24 #[.int .i64 0, .int .i64 0, .slice none 0 0]).below hb1 (by simp)
      have HBK := Lib.hid BK
      have HB1 := Lib.hid ((HW1.out _).trans (hb1.mono (by simp)))
      have hfz : ∀ o, w1.frozen? ⟨w.heap.size, o, none⟩ = false := fun o => BK.cold o
      have d0 : w1.cell? ⟨w.heap.size, 0, none⟩ = some (.int .i64 0) := BK.cell 0
      have d1 : w1.cell? ⟨w.heap.size, 1, none⟩ = some (.int .i64 0) := BK.cell 1
      have d2 : w1.cell? ⟨w.heap.size, 2, none⟩ = some (.slice none 0 0) := BK.cell 2
      have B5 := ((HBK.out.at_ 0 (.int .i64 0)).at_ 1 (.int .i64 0)).at_ 2 (.slice none 0 0)
      have HS0 := Lib.hid (B5.cell 0)
      have HS1 := Lib.hid (B5.cell 1)
      have HS2 := Lib.hid (B5.cell 2)
      clear B5 BK hb1
      go_wp2_with fail
      refine bodyPost_ret (v := .tuple #[.agg #[.int .i64 0, .int .i64 0, .slice none 0 0], .int .i64 2]) (by simp [results, Tryd.results67, go_sem, HS0.out, HS1.out, HS2.out]) rfl ?_
      rw [RES2.out]
      exact GivesT.zero (((HB1.out.setCell (by simp) _).setCell (by simp) _).setCell (by simp) _)
    · have RES2 := Lib.hid (RES.out.trans ((if_pos h0).trans (if_neg h1)))
      have t1 : decide (1048576 - b < x) = false := decide_eq_false h1
      clear h0 h1 RES hx
      go_enter Tryd.func67, Tryd.ntmps67
      go_wp2_with fail
      refine (HC.out _).mono ?_
      rintro e w1 ⟨rfl, hb1⟩
      have hz1 := hb1.size
      simp at hz1
      have BK := (Bk.new w 24 #[.int .i64 0, .int .i64 0, .slice none 0 0]).below hb1 (by simp)
      have HBK := Lib.hid BK
      have HB1 := Lib.hid ((HW1.out _).trans (hb1.mono (by simp)))
      have hfz : ∀ o, w1.frozen? ⟨w.heap.size, o, none⟩ = false := fun o => BK.cold o
      have d0 : w1.cell? ⟨w.heap.size, 0, none⟩ = some (.int .i64 0) := BK.cell 0
      have d1 : w1.cell? ⟨w.heap.size, 1, none⟩ = some (.int .i64 0) := BK.cell 1
      have d2 : w1.cell? ⟨w.heap.size, 2, none⟩ = some (.slice none 0 0) := BK.cell 2
      clear BK hb1 hfz d0 d1 d2
      go_wp2_with fail
      refine (CV.out _ _).mono ?_
      rintro e w2 ⟨rfl, hb2⟩
      have hz2 := hb2.size
      have HW2 := Lib.hid (HB1.out.trans (hb2.mono HB1.out.size))
      have BK2 := HBK.out.below hb2 (by omega)
      have B5 := ((BK2.at_ 0 (.int .i64 1)).at_ 1 (.int .i64 (x + b))).at_ 2 (.slice none 0 0)
      have HS0 := Lib.hid (B5.cell 0)
      have HS1 := Lib.hid (B5.cell 1)
      have HS2 := Lib.hid (B5.cell 2)
      have hfz2 : ∀ o, w2.frozen? ⟨w.heap.size, o, none⟩ = false := fun o => BK2.cold o
      have d0 : w2.cell? ⟨w.heap.size, 0, none⟩ = some (.int .i64 0) := BK2.cell 0
      have d1 : w2.cell? ⟨w.heap.size, 1, none⟩ = some (.int .i64 0) := BK2.cell 1
      have d2 : w2.cell? ⟨w.heap.size, 2, none⟩ = some (.slice none 0 0) := BK2.cell 2
      clear B5 BK2 hb2
      go_wp2_with fail
      refine bodyPost_ret (v := .tuple #[.agg #[.int .i64 1, .int .i64 (x + b), .slice none 0 0], .int .i64 0]) (by simp [results, Tryd.results67, go_sem, HS0.out, HS1.out, HS2.out]) rfl ?_
      rw [RES2.out]
      exact GivesT.leaf (((HW2.out.setCell (by simp) _).setCell (by simp) _).setCell (by simp) _)
  · have RES2 := Lib.hid (RES.out.trans (if_neg h0))
    have t0 : (c != 0) = true := by simpa using h0
    clear h0 RES hx
    go_enter Tryd.func67, Tryd.ntmps67
    go_wp2_with fail
    refine (HC.out _).mono ?_
    rintro e w1 ⟨rfl, hb1⟩
    have hz1 := hb1.size
    simp at hz1
    have BK := (Bk.new w 24 #[.int .i64 0, .int .i64 0, .slice none 0 0]).below hb1 (by simp)
    have HBK := Lib.hid BK
    have HB1 := Lib.hid ((HW1.out _).trans (hb1.mono (by simp)))
    have hfz : ∀ o, w1.frozen? ⟨w.heap.size, o, none⟩ = false := fun o => BK.cold o
    have d0 : w1.cell? ⟨w.heap.size, 0, none⟩ = some (.int .i64 0) := BK.cell 0
    have d1 : w1.cell? ⟨w.heap.size, 1, none⟩ = some (.int .i64 0) := BK.cell 1
    have d2 : w1.cell? ⟨w.heap.size, 2, none⟩ = some (.slice none 0 0) := BK.cell 2
    have B5 := ((HBK.out.at_ 0 (.int .i64 0)).at_ 1 (.int .i64 0)).at_ 2 (.slice none 0 0)
    have HS0 := Lib.hid (B5.cell 0)
    have HS1 := Lib.hid (B5.cell 1)
    have HS2 := Lib.hid (B5.cell 2)
    clear B5 BK hb1
    go_wp2_with fail
    refine bodyPost_ret (v := .tuple #[.agg #[.int .i64 0, .int .i64 0, .slice none 0 0], .int .i64 c]) (by simp [results, Tryd.results67, go_sem, HS0.out, HS1.out, HS2.out]) rfl ?_
    rw [RES2.out]
    exact GivesT.zero (((HB1.out.setCell (by simp) _).setCell (by simp) _).setCell (by simp) _)

end Go.Proofs.YtcobionbgiaomaaDoor
