/- subst.At, Named, Bind: the guards, and what becomes of the variables. -/
import Derived.Test.YtcobionbgiaomaaDoorUShp
namespace Go.Proofs.YtcobionbgiaomaaDoor
open Go.RowKit
set_option linter.unusedVariables false
set_option maxRecDepth 100000

set_option maxHeartbeats 2000000 in
theorem at_any (t : TM) (lo hi : Nat) (A : Option Addr) (cap : Nat) (a : TM) (lo2 hi2 : Nat) (A2 : Option Addr) (cap2 : Nat) (N : Int) (w : World) (h : IsTerm w lo hi t A cap) (hhi : hi ≤ w.heap.size) (h2 : IsTerm w lo2 hi2 a A2 cap2) (hhi2 : hi2 ≤ w.heap.size) (hS : ShapesM w) :
    Calls Tryd.prog 16 #[termV t A cap, termV a A2 cap2, .int .i64 N] w (GivesT (atX t a N) w) := by
  have HW := Lib.hid (show Below w.heap.size w ((((w.alloc (.cells #[.int .i64 t.k, .int .i64 t.n, .slice A t.l.length cap] 24)).alloc (.cells #[.int .i64 a.k, .int .i64 a.n, .slice A2 a.l.length cap2] 24)).alloc (.cells #[.int .i64 N] 3)).alloc (.cells #[.int .i64 0, .int .i64 0, .slice none 0 0] 24)) from ((((Below.refl w.heap.size w).alloc (by simp <;> omega) (.cells #[.int .i64 t.k, .int .i64 t.n, .slice A t.l.length cap] 24)).alloc (by simp <;> omega) (.cells #[.int .i64 a.k, .int .i64 a.n, .slice A2 a.l.length cap2] 24)).alloc (by simp <;> omega) (.cells #[.int .i64 N] 3)).alloc (by simp <;> omega) (.cells #[.int .i64 0, .int .i64 0, .slice none 0 0] 24))
  have KB0 := Lib.hid (fun (V : World) (hV : Below ((((w.alloc (.cells #[.int .i64 t.k, .int .i64 t.n, .slice A t.l.length cap] 24)).alloc (.cells #[.int .i64 a.k, .int .i64 a.n, .slice A2 a.l.length cap2] 24)).alloc (.cells #[.int .i64 N] 3)).alloc (.cells #[.int .i64 0, .int .i64 0, .slice none 0 0] 24)).heap.size ((((w.alloc (.cells #[.int .i64 t.k, .int .i64 t.n, .slice A t.l.length cap] 24)).alloc (.cells #[.int .i64 a.k, .int .i64 a.n, .slice A2 a.l.length cap2] 24)).alloc (.cells #[.int .i64 N] 3)).alloc (.cells #[.int .i64 0, .int .i64 0, .slice none 0 0] 24)) V) => (show Bk V (w.heap.size + 0) 24 #[.int .i64 t.k, .int .i64 t.n, .slice A t.l.length cap] from ((((Bk.new w 24 #[.int .i64 t.k, .int .i64 t.n, .slice A t.l.length cap]).alloc (.cells #[.int .i64 a.k, .int .i64 a.n, .slice A2 a.l.length cap2] 24)).alloc (.cells #[.int .i64 N] 3)).alloc (.cells #[.int .i64 0, .int .i64 0, .slice none 0 0] 24)).below hV (by simp <;> omega)))
  have KB1 := Lib.hid (fun (V : World) (hV : Below ((((w.alloc (.cells #[.int .i64 t.k, .int .i64 t.n, .slice A t.l.length cap] 24)).alloc (.cells #[.int .i64 a.k, .int .i64 a.n, .slice A2 a.l.length cap2] 24)).alloc (.cells #[.int .i64 N] 3)).alloc (.cells #[.int .i64 0, .int .i64 0, .slice none 0 0] 24)).heap.size ((((w.alloc (.cells #[.int .i64 t.k, .int .i64 t.n, .slice A t.l.length cap] 24)).alloc (.cells #[.int .i64 a.k, .int .i64 a.n, .slice A2 a.l.length cap2] 24)).alloc (.cells #[.int .i64 N] 3)).alloc (.cells #[.int .i64 0, .int .i64 0, .slice none 0 0] 24)) V) => (show Bk V (w.heap.size + 1) 24 #[.int .i64 a.k, .int .i64 a.n, .slice A2 a.l.length cap2] from (((Bk.last (w.alloc (.cells #[.int .i64 t.k, .int .i64 t.n, .slice A t.l.length cap] 24)) 24 #[.int .i64 a.k, .int .i64 a.n, .slice A2 a.l.length cap2] (g := w.heap.size + 1) (by simp)).alloc (.cells #[.int .i64 N] 3)).alloc (.cells #[.int .i64 0, .int .i64 0, .slice none 0 0] 24)).below hV (by simp <;> omega)))
  have KB2 := Lib.hid (fun (V : World) (hV : Below ((((w.alloc (.cells #[.int .i64 t.k, .int .i64 t.n, .slice A t.l.length cap] 24)).alloc (.cells #[.int .i64 a.k, .int .i64 a.n, .slice A2 a.l.length cap2] 24)).alloc (.cells #[.int .i64 N] 3)).alloc (.cells #[.int .i64 0, .int .i64 0, .slice none 0 0] 24)).heap.size ((((w.alloc (.cells #[.int .i64 t.k, .int .i64 t.n, .slice A t.l.length cap] 24)).alloc (.cells #[.int .i64 a.k, .int .i64 a.n, .slice A2 a.l.length cap2] 24)).alloc (.cells #[.int .i64 N] 3)).alloc (.cells #[.int .i64 0, .int .i64 0, .slice none 0 0] 24)) V) => (show Bk V (w.heap.size + 2) 3 #[.int .i64 N] from ((Bk.last ((w.alloc (.cells #[.int .i64 t.k, .int .i64 t.n, .slice A t.l.length cap] 24)).alloc (.cells #[.int .i64 a.k, .int .i64 a.n, .slice A2 a.l.length cap2] 24)) 3 #[.int .i64 N] (g := w.heap.size + 2) (by simp)).alloc (.cells #[.int .i64 0, .int .i64 0, .slice none 0 0] 24)).below hV (by simp <;> omega)))
  have KB3 := Lib.hid (fun (V : World) (hV : Below ((((w.alloc (.cells #[.int .i64 t.k, .int .i64 t.n, .slice A t.l.length cap] 24)).alloc (.cells #[.int .i64 a.k, .int .i64 a.n, .slice A2 a.l.length cap2] 24)).alloc (.cells #[.int .i64 N] 3)).alloc (.cells #[.int .i64 0, .int .i64 0, .slice none 0 0] 24)).heap.size ((((w.alloc (.cells #[.int .i64 t.k, .int .i64 t.n, .slice A t.l.length cap] 24)).alloc (.cells #[.int .i64 a.k, .int .i64 a.n, .slice A2 a.l.length cap2] 24)).alloc (.cells #[.int .i64 N] 3)).alloc (.cells #[.int .i64 0, .int .i64 0, .slice none 0 0] 24)) V) => (show Bk V (w.heap.size + 3) 24 #[.int .i64 0, .int .i64 0, .slice none 0 0] from (Bk.last (((w.alloc (.cells #[.int .i64 t.k, .int .i64 t.n, .slice A t.l.length cap] 24)).alloc (.cells #[.int .i64 a.k, .int .i64 a.n, .slice A2 a.l.length cap2] 24)).alloc (.cells #[.int .i64 N] 3)) 24 #[.int .i64 0, .int .i64 0, .slice none 0 0] (g := w.heap.size + 3) (by simp)).below hV (by simp <;> omega)))
  have CC0 := Lib.hid (fun (V : World) (hV : Below w.heap.size w V) => shaped_any t lo hi A cap V (h.kept hV hhi) (by have := hV.size; omega) (hS.kept hV))
  obtain ⟨b1, hb1⟩ : ∃ b1, shapedB t = b1 := ⟨_, rfl⟩
  have CC1 := Lib.hid (fun (V : World) (hV : Below w.heap.size w V) => shaped_any a lo2 hi2 A2 cap2 V (h2.kept hV hhi2) (by have := hV.size; omega) (hS.kept hV))
  obtain ⟨b2, hb2⟩ : ∃ b2, shapedB a = b2 := ⟨_, rfl⟩
  have CC2 := Lib.hid (fun (V : World) (hV : Below w.heap.size w V) => named_any N V)
  obtain ⟨b3, hb3⟩ : ∃ b3, fitsB N = b3 := ⟨_, rfl⟩
  have HX0 := Lib.hid (fun (hb : (b1 && (b2 && b3)) = false) => (show atX t a N = (.node 0 0 [], 5) by unfold atX; rw [hb1, hb2, hb3, hb]; rfl))
  have CF0 := Lib.hid (fun (hb : (b1 && (b2 && b3)) = true) => (show ∀ V, Below ((((w.alloc (.cells #[.int .i64 t.k, .int .i64 t.n, .slice A t.l.length cap] 24)).alloc (.cells #[.int .i64 a.k, .int .i64 a.n, .slice A2 a.l.length cap2] 24)).alloc (.cells #[.int .i64 N] 3)).alloc (.cells #[.int .i64 0, .int .i64 0, .slice none 0 0] 24)).heap.size ((((w.alloc (.cells #[.int .i64 t.k, .int .i64 t.n, .slice A t.l.length cap] 24)).alloc (.cells #[.int .i64 a.k, .int .i64 a.n, .slice A2 a.l.length cap2] 24)).alloc (.cells #[.int .i64 N] 3)).alloc (.cells #[.int .i64 0, .int .i64 0, .slice none 0 0] 24)) V → Calls Tryd.prog 32 #[termV t A cap, .func (.func 37) #[] #[.pointer (some ⟨w.heap.size + 2, 0, none⟩), .pointer (some ⟨w.heap.size + 1, 0, none⟩)]] V (GivesT (atX t a N) V) from by
    rw [hb1.symm, hb2.symm, hb3.symm] at hb
    have hc := hb
    simp only [Bool.and_eq_true] at hb
    obtain ⟨q1, q2, q3⟩ := hb
    have e : atX t a N = changedX (atG a N) t := by unfold atX; rw [hc, if_pos rfl, changedX_eq (fair_at q2 (fitsB_true.1 q3)) q1]
    rw [e]
    intro V hV
    have hV0 := HW.out.trans (hV.mono (by simp <;> omega))
    refine changed_at (w.heap.size + 2) (w.heap.size + 1) _ t lo hi A cap V (h.kept hV0 hhi) (by have := hV0.size; omega) (hS.kept hV0) q1 (fun k n b V2 hV2 hv => ?_)
    have hV3 := hV.trans (hV2.mono hV.size)
    have hV4 := hV0.trans (hV2.mono hV0.size)
    exact cl_at (w.heap.size + 2) (w.heap.size + 1) N k n b a lo2 hi2 A2 cap2 V2 ((KB2.out V2 hV3).cell 0) (TBox.of (KB1.out V2 hV3)) (h2.kept hV4 hhi2) (by have := hV4.size; omega) (hS.kept hV4) (fitsB_true.1 q3) hv))
  rw [hb1] at CC0
  rw [hb2] at CC1
  rw [hb3] at CC2
  unfold termV at CC0 CC1 CF0 ⊢
  obtain ⟨RR, hRR⟩ : ∃ RR, atX t a N = RR := ⟨_, rfl⟩
  rw [hRR] at HX0 CF0 ⊢
  clear h h2 hS hb1 hb2 hb3 hRR hhi hhi2
  go_enter Tryd.func16, Tryd.ntmps16
  go_wp2_with fail
  refine (CC0.out _ HW.out).mono ?_
  rintro e w0 ⟨rfl, hc0⟩
  have hb0 := Lib.hid ((Below.refl _ _).trans (hc0.mono (Nat.le_refl _)))
  clear hc0
  have b00 : w0.cell? ⟨w.heap.size, 0, none⟩ = some (.int .i64 t.k) := (KB0.out _ hb0.out).cell 0
  have b01 : w0.cell? ⟨w.heap.size, 1, none⟩ = some (.int .i64 t.n) := (KB0.out _ hb0.out).cell 1
  have b02 : w0.cell? ⟨w.heap.size, 2, none⟩ = some (.slice A t.l.length cap) := (KB0.out _ hb0.out).cell 2
  have b10 : w0.cell? ⟨w.heap.size + 1, 0, none⟩ = some (.int .i64 a.k) := (KB1.out _ hb0.out).cell 0
  have b11 : w0.cell? ⟨w.heap.size + 1, 1, none⟩ = some (.int .i64 a.n) := (KB1.out _ hb0.out).cell 1
  have b12 : w0.cell? ⟨w.heap.size + 1, 2, none⟩ = some (.slice A2 a.l.length cap2) := (KB1.out _ hb0.out).cell 2
  have b20 : w0.cell? ⟨w.heap.size + 2, 0, none⟩ = some (.int .i64 N) := (KB2.out _ hb0.out).cell 0
  have b30 : w0.cell? ⟨w.heap.size + 3, 0, none⟩ = some (.int .i64 0) := (KB3.out _ hb0.out).cell 0
  have b31 : w0.cell? ⟨w.heap.size + 3, 1, none⟩ = some (.int .i64 0) := (KB3.out _ hb0.out).cell 1
  have b32 : w0.cell? ⟨w.heap.size + 3, 2, none⟩ = some (.slice none 0 0) := (KB3.out _ hb0.out).cell 2
  have hfz : ∀ o, w0.frozen? ⟨w.heap.size + 3, o, none⟩ = false := fun o => (KB3.out _ hb0.out).cold o
  cases b1 with
  | false =>
    have HE := Lib.hid (HX0.out (by simp))
    have B5 := (((KB3.out _ hb0.out).at_ 0 (.int .i64 0)).at_ 1 (.int .i64 0)).at_ 2 (.slice none 0 0)
    have HS0 := Lib.hid (B5.cell 0)
    have HS1 := Lib.hid (B5.cell 1)
    have HS2 := Lib.hid (B5.cell 2)
    have HBF := Lib.hid (HW.out.trans (hb0.out.mono (by simp <;> omega)))
    clear B5
    go_wp2_with fail
    refine bodyPost_ret (v := .tuple #[.agg #[.int .i64 0, .int .i64 0, .slice none 0 0], .int .i64 5]) (by simp [results, Tryd.results16, go_sem, HS0.out, HS1.out, HS2.out]) rfl ?_
    rw [HE.out]
    exact give_zero HBF.out (by omega)
  | true =>
    go_wp2_with fail
    refine (CC1.out _ (HW.out.trans (hb0.out.mono (by simp <;> omega)))).mono ?_
    rintro e w1 ⟨rfl, hc1⟩
    have hb1 := Lib.hid (hb0.out.trans (hc1.mono hb0.out.size))
    clear hc1
    clear b00 b01 b02 b10 b11 b12 b20 b30 b31 b32 hfz
    have b00 : w1.cell? ⟨w.heap.size, 0, none⟩ = some (.int .i64 t.k) := (KB0.out _ hb1.out).cell 0
    have b01 : w1.cell? ⟨w.heap.size, 1, none⟩ = some (.int .i64 t.n) := (KB0.out _ hb1.out).cell 1
    have b02 : w1.cell? ⟨w.heap.size, 2, none⟩ = some (.slice A t.l.length cap) := (KB0.out _ hb1.out).cell 2
    have b10 : w1.cell? ⟨w.heap.size + 1, 0, none⟩ = some (.int .i64 a.k) := (KB1.out _ hb1.out).cell 0
    have b11 : w1.cell? ⟨w.heap.size + 1, 1, none⟩ = some (.int .i64 a.n) := (KB1.out _ hb1.out).cell 1
    have b12 : w1.cell? ⟨w.heap.size + 1, 2, none⟩ = some (.slice A2 a.l.length cap2) := (KB1.out _ hb1.out).cell 2
    have b20 : w1.cell? ⟨w.heap.size + 2, 0, none⟩ = some (.int .i64 N) := (KB2.out _ hb1.out).cell 0
    have b30 : w1.cell? ⟨w.heap.size + 3, 0, none⟩ = some (.int .i64 0) := (KB3.out _ hb1.out).cell 0
    have b31 : w1.cell? ⟨w.heap.size + 3, 1, none⟩ = some (.int .i64 0) := (KB3.out _ hb1.out).cell 1
    have b32 : w1.cell? ⟨w.heap.size + 3, 2, none⟩ = some (.slice none 0 0) := (KB3.out _ hb1.out).cell 2
    have hfz : ∀ o, w1.frozen? ⟨w.heap.size + 3, o, none⟩ = false := fun o => (KB3.out _ hb1.out).cold o
    cases b2 with
    | false =>
      have HE := Lib.hid (HX0.out (by simp))
      have B5 := (((KB3.out _ hb1.out).at_ 0 (.int .i64 0)).at_ 1 (.int .i64 0)).at_ 2 (.slice none 0 0)
      have HS0 := Lib.hid (B5.cell 0)
      have HS1 := Lib.hid (B5.cell 1)
      have HS2 := Lib.hid (B5.cell 2)
      have HBF := Lib.hid (HW.out.trans (hb1.out.mono (by simp <;> omega)))
      clear B5
      go_wp2_with fail
      refine bodyPost_ret (v := .tuple #[.agg #[.int .i64 0, .int .i64 0, .slice none 0 0], .int .i64 5]) (by simp [results, Tryd.results16, go_sem, HS0.out, HS1.out, HS2.out]) rfl ?_
      rw [HE.out]
      exact give_zero HBF.out (by omega)
    | true =>
      go_wp2_with fail
      refine (CC2.out _ (HW.out.trans (hb1.out.mono (by simp <;> omega)))).mono ?_
      rintro e w2 ⟨rfl, hc2⟩
      have hb2 := Lib.hid (hb1.out.trans (hc2.mono hb1.out.size))
      clear hc2
      clear b00 b01 b02 b10 b11 b12 b20 b30 b31 b32 hfz
      have b00 : w2.cell? ⟨w.heap.size, 0, none⟩ = some (.int .i64 t.k) := (KB0.out _ hb2.out).cell 0
      have b01 : w2.cell? ⟨w.heap.size, 1, none⟩ = some (.int .i64 t.n) := (KB0.out _ hb2.out).cell 1
      have b02 : w2.cell? ⟨w.heap.size, 2, none⟩ = some (.slice A t.l.length cap) := (KB0.out _ hb2.out).cell 2
      have b10 : w2.cell? ⟨w.heap.size + 1, 0, none⟩ = some (.int .i64 a.k) := (KB1.out _ hb2.out).cell 0
      have b11 : w2.cell? ⟨w.heap.size + 1, 1, none⟩ = some (.int .i64 a.n) := (KB1.out _ hb2.out).cell 1
      have b12 : w2.cell? ⟨w.heap.size + 1, 2, none⟩ = some (.slice A2 a.l.length cap2) := (KB1.out _ hb2.out).cell 2
      have b20 : w2.cell? ⟨w.heap.size + 2, 0, none⟩ = some (.int .i64 N) := (KB2.out _ hb2.out).cell 0
      have b30 : w2.cell? ⟨w.heap.size + 3, 0, none⟩ = some (.int .i64 0) := (KB3.out _ hb2.out).cell 0
      have b31 : w2.cell? ⟨w.heap.size + 3, 1, none⟩ = some (.int .i64 0) := (KB3.out _ hb2.out).cell 1
      have b32 : w2.cell? ⟨w.heap.size + 3, 2, none⟩ = some (.slice none 0 0) := (KB3.out _ hb2.out).cell 2
      have hfz : ∀ o, w2.frozen? ⟨w.heap.size + 3, o, none⟩ = false := fun o => (KB3.out _ hb2.out).cold o
      cases b3 with
      | false =>
        have HE := Lib.hid (HX0.out (by simp))
        have B5 := (((KB3.out _ hb2.out).at_ 0 (.int .i64 0)).at_ 1 (.int .i64 0)).at_ 2 (.slice none 0 0)
        have HS0 := Lib.hid (B5.cell 0)
        have HS1 := Lib.hid (B5.cell 1)
        have HS2 := Lib.hid (B5.cell 2)
        have HBF := Lib.hid (HW.out.trans (hb2.out.mono (by simp <;> omega)))
        clear B5
        go_wp2_with fail
        refine bodyPost_ret (v := .tuple #[.agg #[.int .i64 0, .int .i64 0, .slice none 0 0], .int .i64 5]) (by simp [results, Tryd.results16, go_sem, HS0.out, HS1.out, HS2.out]) rfl ?_
        rw [HE.out]
        exact give_zero HBF.out (by omega)
      | true =>
        have CF := Lib.hid (CF0.out rfl)
        obtain ⟨x, c⟩ := RR
        unfold GivesT termV at CF
        clear CF0 HX0 CC0 CC1 CC2
        go_wp2_with fail
        refine (CF.out _ hb2.out).mono ?_
        rintro e wf ⟨A', cap', rfl, hxf, hcf⟩
        have hbf := Lib.hid (hb2.out.trans (hcf.mono hb2.out.size))
        have HBF := Lib.hid (HW.out.trans (hbf.out.mono (by simp <;> omega)))
        have HXF := Lib.hid hxf
        have hzf := hcf.size
        have HLO : Hid (w.heap.size + 3 < w2.heap.size) := Lib.hid (by have := hb2.out.size; simp at this; omega)
        clear b00 b01 b02 b10 b11 b12 b20 b30 b31 b32 hfz hcf hxf
        have K2 := KB3.out _ hbf.out
        have hfz : ∀ o, wf.frozen? ⟨w.heap.size + 3, o, none⟩ = false := fun o => K2.cold o
        have d0 : wf.cell? ⟨w.heap.size + 3, 0, none⟩ = some (.int .i64 0) := K2.cell 0
        have d1 : wf.cell? ⟨w.heap.size + 3, 1, none⟩ = some (.int .i64 0) := K2.cell 1
        have d2 : wf.cell? ⟨w.heap.size + 3, 2, none⟩ = some (.slice none 0 0) := K2.cell 2
        have B5 := ((K2.at_ 0 (.int .i64 x.k)).at_ 1 (.int .i64 x.n)).at_ 2 (.slice A' x.l.length cap')
        have HS0 := Lib.hid (B5.cell 0)
        have HS1 := Lib.hid (B5.cell 1)
        have HS2 := Lib.hid (B5.cell 2)
        clear B5 K2
        go_wp2_with fail
        refine bodyPost_ret (v := .tuple #[.agg #[.int .i64 x.k, .int .i64 x.n, .slice A' x.l.length cap'], .int .i64 c]) (by simp [results, Tryd.results16, go_sem, HS0.out, HS1.out, HS2.out]) rfl ?_
        exact give_term HBF.out (by omega) HXF.out HLO.out

set_option maxHeartbeats 2000000 in
theorem namedc_any (t : TM) (lo hi : Nat) (A : Option Addr) (cap : Nat) (a : TM) (lo2 hi2 : Nat) (A2 : Option Addr) (cap2 : Nat) (N : Int) (w : World) (h : IsTerm w lo hi t A cap) (hhi : hi ≤ w.heap.size) (h2 : IsTerm w lo2 hi2 a A2 cap2) (hhi2 : hi2 ≤ w.heap.size) (hS : ShapesM w) :
    Calls Tryd.prog 18 #[termV t A cap, termV a A2 cap2, .int .i64 N] w (GivesT (namedX t a N) w) := by
  have HW := Lib.hid (show Below w.heap.size w ((((w.alloc (.cells #[.int .i64 t.k, .int .i64 t.n, .slice A t.l.length cap] 24)).alloc (.cells #[.int .i64 a.k, .int .i64 a.n, .slice A2 a.l.length cap2] 24)).alloc (.cells #[.int .i64 N] 3)).alloc (.cells #[.int .i64 0, .int .i64 0, .slice none 0 0] 24)) from ((((Below.refl w.heap.size w).alloc (by simp <;> omega) (.cells #[.int .i64 t.k, .int .i64 t.n, .slice A t.l.length cap] 24)).alloc (by simp <;> omega) (.cells #[.int .i64 a.k, .int .i64 a.n, .slice A2 a.l.length cap2] 24)).alloc (by simp <;> omega) (.cells #[.int .i64 N] 3)).alloc (by simp <;> omega) (.cells #[.int .i64 0, .int .i64 0, .slice none 0 0] 24))
  have KB0 := Lib.hid (fun (V : World) (hV : Below ((((w.alloc (.cells #[.int .i64 t.k, .int .i64 t.n, .slice A t.l.length cap] 24)).alloc (.cells #[.int .i64 a.k, .int .i64 a.n, .slice A2 a.l.length cap2] 24)).alloc (.cells #[.int .i64 N] 3)).alloc (.cells #[.int .i64 0, .int .i64 0, .slice none 0 0] 24)).heap.size ((((w.alloc (.cells #[.int .i64 t.k, .int .i64 t.n, .slice A t.l.length cap] 24)).alloc (.cells #[.int .i64 a.k, .int .i64 a.n, .slice A2 a.l.length cap2] 24)).alloc (.cells #[.int .i64 N] 3)).alloc (.cells #[.int .i64 0, .int .i64 0, .slice none 0 0] 24)) V) => (show Bk V (w.heap.size + 0) 24 #[.int .i64 t.k, .int .i64 t.n, .slice A t.l.length cap] from ((((Bk.new w 24 #[.int .i64 t.k, .int .i64 t.n, .slice A t.l.length cap]).alloc (.cells #[.int .i64 a.k, .int .i64 a.n, .slice A2 a.l.length cap2] 24)).alloc (.cells #[.int .i64 N] 3)).alloc (.cells #[.int .i64 0, .int .i64 0, .slice none 0 0] 24)).below hV (by simp <;> omega)))
  have KB1 := Lib.hid (fun (V : World) (hV : Below ((((w.alloc (.cells #[.int .i64 t.k, .int .i64 t.n, .slice A t.l.length cap] 24)).alloc (.cells #[.int .i64 a.k, .int .i64 a.n, .slice A2 a.l.length cap2] 24)).alloc (.cells #[.int .i64 N] 3)).alloc (.cells #[.int .i64 0, .int .i64 0, .slice none 0 0] 24)).heap.size ((((w.alloc (.cells #[.int .i64 t.k, .int .i64 t.n, .slice A t.l.length cap] 24)).alloc (.cells #[.int .i64 a.k, .int .i64 a.n, .slice A2 a.l.length cap2] 24)).alloc (.cells #[.int .i64 N] 3)).alloc (.cells #[.int .i64 0, .int .i64 0, .slice none 0 0] 24)) V) => (show Bk V (w.heap.size + 1) 24 #[.int .i64 a.k, .int .i64 a.n, .slice A2 a.l.length cap2] from (((Bk.last (w.alloc (.cells #[.int .i64 t.k, .int .i64 t.n, .slice A t.l.length cap] 24)) 24 #[.int .i64 a.k, .int .i64 a.n, .slice A2 a.l.length cap2] (g := w.heap.size + 1) (by simp)).alloc (.cells #[.int .i64 N] 3)).alloc (.cells #[.int .i64 0, .int .i64 0, .slice none 0 0] 24)).below hV (by simp <;> omega)))
  have KB2 := Lib.hid (fun (V : World) (hV : Below ((((w.alloc (.cells #[.int .i64 t.k, .int .i64 t.n, .slice A t.l.length cap] 24)).alloc (.cells #[.int .i64 a.k, .int .i64 a.n, .slice A2 a.l.length cap2] 24)).alloc (.cells #[.int .i64 N] 3)).alloc (.cells #[.int .i64 0, .int .i64 0, .slice none 0 0] 24)).heap.size ((((w.alloc (.cells #[.int .i64 t.k, .int .i64 t.n, .slice A t.l.length cap] 24)).alloc (.cells #[.int .i64 a.k, .int .i64 a.n, .slice A2 a.l.length cap2] 24)).alloc (.cells #[.int .i64 N] 3)).alloc (.cells #[.int .i64 0, .int .i64 0, .slice none 0 0] 24)) V) => (show Bk V (w.heap.size + 2) 3 #[.int .i64 N] from ((Bk.last ((w.alloc (.cells #[.int .i64 t.k, .int .i64 t.n, .slice A t.l.length cap] 24)).alloc (.cells #[.int .i64 a.k, .int .i64 a.n, .slice A2 a.l.length cap2] 24)) 3 #[.int .i64 N] (g := w.heap.size + 2) (by simp)).alloc (.cells #[.int .i64 0, .int .i64 0, .slice none 0 0] 24)).below hV (by simp <;> omega)))
  have KB3 := Lib.hid (fun (V : World) (hV : Below ((((w.alloc (.cells #[.int .i64 t.k, .int .i64 t.n, .slice A t.l.length cap] 24)).alloc (.cells #[.int .i64 a.k, .int .i64 a.n, .slice A2 a.l.length cap2] 24)).alloc (.cells #[.int .i64 N] 3)).alloc (.cells #[.int .i64 0, .int .i64 0, .slice none 0 0] 24)).heap.size ((((w.alloc (.cells #[.int .i64 t.k, .int .i64 t.n, .slice A t.l.length cap] 24)).alloc (.cells #[.int .i64 a.k, .int .i64 a.n, .slice A2 a.l.length cap2] 24)).alloc (.cells #[.int .i64 N] 3)).alloc (.cells #[.int .i64 0, .int .i64 0, .slice none 0 0] 24)) V) => (show Bk V (w.heap.size + 3) 24 #[.int .i64 0, .int .i64 0, .slice none 0 0] from (Bk.last (((w.alloc (.cells #[.int .i64 t.k, .int .i64 t.n, .slice A t.l.length cap] 24)).alloc (.cells #[.int .i64 a.k, .int .i64 a.n, .slice A2 a.l.length cap2] 24)).alloc (.cells #[.int .i64 N] 3)) 24 #[.int .i64 0, .int .i64 0, .slice none 0 0] (g := w.heap.size + 3) (by simp)).below hV (by simp <;> omega)))
  have CC0 := Lib.hid (fun (V : World) (hV : Below w.heap.size w V) => shaped_any t lo hi A cap V (h.kept hV hhi) (by have := hV.size; omega) (hS.kept hV))
  obtain ⟨b1, hb1⟩ : ∃ b1, shapedB t = b1 := ⟨_, rfl⟩
  have CC1 := Lib.hid (fun (V : World) (hV : Below w.heap.size w V) => shaped_any a lo2 hi2 A2 cap2 V (h2.kept hV hhi2) (by have := hV.size; omega) (hS.kept hV))
  obtain ⟨b2, hb2⟩ : ∃ b2, shapedB a = b2 := ⟨_, rfl⟩
  have CC2 := Lib.hid (fun (V : World) (hV : Below w.heap.size w V) => named_any N V)
  obtain ⟨b3, hb3⟩ : ∃ b3, fitsB N = b3 := ⟨_, rfl⟩
  have HX0 := Lib.hid (fun (hb : (b1 && (b2 && b3)) = false) => (show namedX t a N = (.node 0 0 [], 5) by unfold namedX; rw [hb1, hb2, hb3, hb]; rfl))
  have CF0 := Lib.hid (fun (hb : (b1 && (b2 && b3)) = true) => (show ∀ V, Below ((((w.alloc (.cells #[.int .i64 t.k, .int .i64 t.n, .slice A t.l.length cap] 24)).alloc (.cells #[.int .i64 a.k, .int .i64 a.n, .slice A2 a.l.length cap2] 24)).alloc (.cells #[.int .i64 N] 3)).alloc (.cells #[.int .i64 0, .int .i64 0, .slice none 0 0] 24)).heap.size ((((w.alloc (.cells #[.int .i64 t.k, .int .i64 t.n, .slice A t.l.length cap] 24)).alloc (.cells #[.int .i64 a.k, .int .i64 a.n, .slice A2 a.l.length cap2] 24)).alloc (.cells #[.int .i64 N] 3)).alloc (.cells #[.int .i64 0, .int .i64 0, .slice none 0 0] 24)) V → Calls Tryd.prog 32 #[termV t A cap, .func (.func 41) #[] #[.pointer (some ⟨w.heap.size + 2, 0, none⟩), .pointer (some ⟨w.heap.size + 1, 0, none⟩)]] V (GivesT (namedX t a N) V) from by
    rw [hb1.symm, hb2.symm, hb3.symm] at hb
    have hc := hb
    simp only [Bool.and_eq_true] at hb
    obtain ⟨q1, q2, q3⟩ := hb
    have e : namedX t a N = changedX (namedG a N) t := by unfold namedX; rw [hc, if_pos rfl, changedX_eq (fair_named q2) q1]
    rw [e]
    intro V hV
    have hV0 := HW.out.trans (hV.mono (by simp <;> omega))
    refine changed_named (w.heap.size + 2) (w.heap.size + 1) _ t lo hi A cap V (h.kept hV0 hhi) (by have := hV0.size; omega) (hS.kept hV0) q1 (fun k n b V2 hV2 hv => ?_)
    have hV3 := hV.trans (hV2.mono hV.size)
    have hV4 := hV0.trans (hV2.mono hV0.size)
    exact cl_named (w.heap.size + 2) (w.heap.size + 1) N k n b a lo2 hi2 A2 cap2 V2 ((KB2.out V2 hV3).cell 0) (TBox.of (KB1.out V2 hV3)) (h2.kept hV4 hhi2) (by have := hV4.size; omega) (hS.kept hV4) hv))
  rw [hb1] at CC0
  rw [hb2] at CC1
  rw [hb3] at CC2
  unfold termV at CC0 CC1 CF0 ⊢
  obtain ⟨RR, hRR⟩ : ∃ RR, namedX t a N = RR := ⟨_, rfl⟩
  rw [hRR] at HX0 CF0 ⊢
  clear h h2 hS hb1 hb2 hb3 hRR hhi hhi2
  go_enter Tryd.func18, Tryd.ntmps18
  go_wp2_with fail
  refine (CC0.out _ HW.out).mono ?_
  rintro e w0 ⟨rfl, hc0⟩
  have hb0 := Lib.hid ((Below.refl _ _).trans (hc0.mono (Nat.le_refl _)))
  clear hc0
  have b00 : w0.cell? ⟨w.heap.size, 0, none⟩ = some (.int .i64 t.k) := (KB0.out _ hb0.out).cell 0
  have b01 : w0.cell? ⟨w.heap.size, 1, none⟩ = some (.int .i64 t.n) := (KB0.out _ hb0.out).cell 1
  have b02 : w0.cell? ⟨w.heap.size, 2, none⟩ = some (.slice A t.l.length cap) := (KB0.out _ hb0.out).cell 2
  have b10 : w0.cell? ⟨w.heap.size + 1, 0, none⟩ = some (.int .i64 a.k) := (KB1.out _ hb0.out).cell 0
  have b11 : w0.cell? ⟨w.heap.size + 1, 1, none⟩ = some (.int .i64 a.n) := (KB1.out _ hb0.out).cell 1
  have b12 : w0.cell? ⟨w.heap.size + 1, 2, none⟩ = some (.slice A2 a.l.length cap2) := (KB1.out _ hb0.out).cell 2
  have b20 : w0.cell? ⟨w.heap.size + 2, 0, none⟩ = some (.int .i64 N) := (KB2.out _ hb0.out).cell 0
  have b30 : w0.cell? ⟨w.heap.size + 3, 0, none⟩ = some (.int .i64 0) := (KB3.out _ hb0.out).cell 0
  have b31 : w0.cell? ⟨w.heap.size + 3, 1, none⟩ = some (.int .i64 0) := (KB3.out _ hb0.out).cell 1
  have b32 : w0.cell? ⟨w.heap.size + 3, 2, none⟩ = some (.slice none 0 0) := (KB3.out _ hb0.out).cell 2
  have hfz : ∀ o, w0.frozen? ⟨w.heap.size + 3, o, none⟩ = false := fun o => (KB3.out _ hb0.out).cold o
  cases b1 with
  | false =>
    have HE := Lib.hid (HX0.out (by simp))
    have B5 := (((KB3.out _ hb0.out).at_ 0 (.int .i64 0)).at_ 1 (.int .i64 0)).at_ 2 (.slice none 0 0)
    have HS0 := Lib.hid (B5.cell 0)
    have HS1 := Lib.hid (B5.cell 1)
    have HS2 := Lib.hid (B5.cell 2)
    have HBF := Lib.hid (HW.out.trans (hb0.out.mono (by simp <;> omega)))
    clear B5
    go_wp2_with fail
    refine bodyPost_ret (v := .tuple #[.agg #[.int .i64 0, .int .i64 0, .slice none 0 0], .int .i64 5]) (by simp [results, Tryd.results18, go_sem, HS0.out, HS1.out, HS2.out]) rfl ?_
    rw [HE.out]
    exact give_zero HBF.out (by omega)
  | true =>
    go_wp2_with fail
    refine (CC1.out _ (HW.out.trans (hb0.out.mono (by simp <;> omega)))).mono ?_
    rintro e w1 ⟨rfl, hc1⟩
    have hb1 := Lib.hid (hb0.out.trans (hc1.mono hb0.out.size))
    clear hc1
    clear b00 b01 b02 b10 b11 b12 b20 b30 b31 b32 hfz
    have b00 : w1.cell? ⟨w.heap.size, 0, none⟩ = some (.int .i64 t.k) := (KB0.out _ hb1.out).cell 0
    have b01 : w1.cell? ⟨w.heap.size, 1, none⟩ = some (.int .i64 t.n) := (KB0.out _ hb1.out).cell 1
    have b02 : w1.cell? ⟨w.heap.size, 2, none⟩ = some (.slice A t.l.length cap) := (KB0.out _ hb1.out).cell 2
    have b10 : w1.cell? ⟨w.heap.size + 1, 0, none⟩ = some (.int .i64 a.k) := (KB1.out _ hb1.out).cell 0
    have b11 : w1.cell? ⟨w.heap.size + 1, 1, none⟩ = some (.int .i64 a.n) := (KB1.out _ hb1.out).cell 1
    have b12 : w1.cell? ⟨w.heap.size + 1, 2, none⟩ = some (.slice A2 a.l.length cap2) := (KB1.out _ hb1.out).cell 2
    have b20 : w1.cell? ⟨w.heap.size + 2, 0, none⟩ = some (.int .i64 N) := (KB2.out _ hb1.out).cell 0
    have b30 : w1.cell? ⟨w.heap.size + 3, 0, none⟩ = some (.int .i64 0) := (KB3.out _ hb1.out).cell 0
    have b31 : w1.cell? ⟨w.heap.size + 3, 1, none⟩ = some (.int .i64 0) := (KB3.out _ hb1.out).cell 1
    have b32 : w1.cell? ⟨w.heap.size + 3, 2, none⟩ = some (.slice none 0 0) := (KB3.out _ hb1.out).cell 2
    have hfz : ∀ o, w1.frozen? ⟨w.heap.size + 3, o, none⟩ = false := fun o => (KB3.out _ hb1.out).cold o
    cases b2 with
    | false =>
      have HE := Lib.hid (HX0.out (by simp))
      have B5 := (((KB3.out _ hb1.out).at_ 0 (.int .i64 0)).at_ 1 (.int .i64 0)).at_ 2 (.slice none 0 0)
      have HS0 := Lib.hid (B5.cell 0)
      have HS1 := Lib.hid (B5.cell 1)
      have HS2 := Lib.hid (B5.cell 2)
      have HBF := Lib.hid (HW.out.trans (hb1.out.mono (by simp <;> omega)))
      clear B5
      go_wp2_with fail
      refine bodyPost_ret (v := .tuple #[.agg #[.int .i64 0, .int .i64 0, .slice none 0 0], .int .i64 5]) (by simp [results, Tryd.results18, go_sem, HS0.out, HS1.out, HS2.out]) rfl ?_
      rw [HE.out]
      exact give_zero HBF.out (by omega)
    | true =>
      go_wp2_with fail
      refine (CC2.out _ (HW.out.trans (hb1.out.mono (by simp <;> omega)))).mono ?_
      rintro e w2 ⟨rfl, hc2⟩
      have hb2 := Lib.hid (hb1.out.trans (hc2.mono hb1.out.size))
      clear hc2
      clear b00 b01 b02 b10 b11 b12 b20 b30 b31 b32 hfz
      have b00 : w2.cell? ⟨w.heap.size, 0, none⟩ = some (.int .i64 t.k) := (KB0.out _ hb2.out).cell 0
      have b01 : w2.cell? ⟨w.heap.size, 1, none⟩ = some (.int .i64 t.n) := (KB0.out _ hb2.out).cell 1
      have b02 : w2.cell? ⟨w.heap.size, 2, none⟩ = some (.slice A t.l.length cap) := (KB0.out _ hb2.out).cell 2
      have b10 : w2.cell? ⟨w.heap.size + 1, 0, none⟩ = some (.int .i64 a.k) := (KB1.out _ hb2.out).cell 0
      have b11 : w2.cell? ⟨w.heap.size + 1, 1, none⟩ = some (.int .i64 a.n) := (KB1.out _ hb2.out).cell 1
      have b12 : w2.cell? ⟨w.heap.size + 1, 2, none⟩ = some (.slice A2 a.l.length cap2) := (KB1.out _ hb2.out).cell 2
      have b20 : w2.cell? ⟨w.heap.size + 2, 0, none⟩ = some (.int .i64 N) := (KB2.out _ hb2.out).cell 0
      have b30 : w2.cell? ⟨w.heap.size + 3, 0, none⟩ = some (.int .i64 0) := (KB3.out _ hb2.out).cell 0
      have b31 : w2.cell? ⟨w.heap.size + 3, 1, none⟩ = some (.int .i64 0) := (KB3.out _ hb2.out).cell 1
      have b32 : w2.cell? ⟨w.heap.size + 3, 2, none⟩ = some (.slice none 0 0) := (KB3.out _ hb2.out).cell 2
      have hfz : ∀ o, w2.frozen? ⟨w.heap.size + 3, o, none⟩ = false := fun o => (KB3.out _ hb2.out).cold o
      cases b3 with
      | false =>
        have HE := Lib.hid (HX0.out (by simp))
        have B5 := (((KB3.out _ hb2.out).at_ 0 (.int .i64 0)).at_ 1 (.int .i64 0)).at_ 2 (.slice none 0 0)
        have HS0 := Lib.hid (B5.cell 0)
        have HS1 := Lib.hid (B5.cell 1)
        have HS2 := Lib.hid (B5.cell 2)
        have HBF := Lib.hid (HW.out.trans (hb2.out.mono (by simp <;> omega)))
        clear B5
        go_wp2_with fail
        refine bodyPost_ret (v := .tuple #[.agg #[.int .i64 0, .int .i64 0, .slice none 0 0], .int .i64 5]) (by simp [results, Tryd.results18, go_sem, HS0.out, HS1.out, HS2.out]) rfl ?_
        rw [HE.out]
        exact give_zero HBF.out (by omega)
      | true =>
        have CF := Lib.hid (CF0.out rfl)
        obtain ⟨x, c⟩ := RR
        unfold GivesT termV at CF
        clear CF0 HX0 CC0 CC1 CC2
        go_wp2_with fail
        refine (CF.out _ hb2.out).mono ?_
        rintro e wf ⟨A', cap', rfl, hxf, hcf⟩
        have hbf := Lib.hid (hb2.out.trans (hcf.mono hb2.out.size))
        have HBF := Lib.hid (HW.out.trans (hbf.out.mono (by simp <;> omega)))
        have HXF := Lib.hid hxf
        have hzf := hcf.size
        have HLO : Hid (w.heap.size + 3 < w2.heap.size) := Lib.hid (by have := hb2.out.size; simp at this; omega)
        clear b00 b01 b02 b10 b11 b12 b20 b30 b31 b32 hfz hcf hxf
        have K2 := KB3.out _ hbf.out
        have hfz : ∀ o, wf.frozen? ⟨w.heap.size + 3, o, none⟩ = false := fun o => K2.cold o
        have d0 : wf.cell? ⟨w.heap.size + 3, 0, none⟩ = some (.int .i64 0) := K2.cell 0
        have d1 : wf.cell? ⟨w.heap.size + 3, 1, none⟩ = some (.int .i64 0) := K2.cell 1
        have d2 : wf.cell? ⟨w.heap.size + 3, 2, none⟩ = some (.slice none 0 0) := K2.cell 2
        have B5 := ((K2.at_ 0 (.int .i64 x.k)).at_ 1 (.int .i64 x.n)).at_ 2 (.slice A' x.l.length cap')
        have HS0 := Lib.hid (B5.cell 0)
        have HS1 := Lib.hid (B5.cell 1)
        have HS2 := Lib.hid (B5.cell 2)
        clear B5 K2
        go_wp2_with fail
        refine bodyPost_ret (v := .tuple #[.agg #[.int .i64 x.k, .int .i64 x.n, .slice A' x.l.length cap'], .int .i64 c]) (by simp [results, Tryd.results18, go_sem, HS0.out, HS1.out, HS2.out]) rfl ?_
        exact give_term HBF.out (by omega) HXF.out HLO.out

set_option maxHeartbeats 2000000 in
theorem bindc_any (t : TM) (lo hi : Nat) (A : Option Addr) (cap : Nat) (N : Int) (w : World) (h : IsTerm w lo hi t A cap) (hhi : hi ≤ w.heap.size) (hS : ShapesM w) :
    Calls Tryd.prog 20 #[termV t A cap, .int .i64 N] w (GivesT (bindX t N) w) := by
  have HW := Lib.hid (show Below w.heap.size w (((w.alloc (.cells #[.int .i64 t.k, .int .i64 t.n, .slice A t.l.length cap] 24)).alloc (.cells #[.int .i64 N] 3)).alloc (.cells #[.int .i64 0, .int .i64 0, .slice none 0 0] 24)) from (((Below.refl w.heap.size w).alloc (by simp <;> omega) (.cells #[.int .i64 t.k, .int .i64 t.n, .slice A t.l.length cap] 24)).alloc (by simp <;> omega) (.cells #[.int .i64 N] 3)).alloc (by simp <;> omega) (.cells #[.int .i64 0, .int .i64 0, .slice none 0 0] 24))
  have KB0 := Lib.hid (fun (V : World) (hV : Below (((w.alloc (.cells #[.int .i64 t.k, .int .i64 t.n, .slice A t.l.length cap] 24)).alloc (.cells #[.int .i64 N] 3)).alloc (.cells #[.int .i64 0, .int .i64 0, .slice none 0 0] 24)).heap.size (((w.alloc (.cells #[.int .i64 t.k, .int .i64 t.n, .slice A t.l.length cap] 24)).alloc (.cells #[.int .i64 N] 3)).alloc (.cells #[.int .i64 0, .int .i64 0, .slice none 0 0] 24)) V) => (show Bk V (w.heap.size + 0) 24 #[.int .i64 t.k, .int .i64 t.n, .slice A t.l.length cap] from (((Bk.new w 24 #[.int .i64 t.k, .int .i64 t.n, .slice A t.l.length cap]).alloc (.cells #[.int .i64 N] 3)).alloc (.cells #[.int .i64 0, .int .i64 0, .slice none 0 0] 24)).below hV (by simp <;> omega)))
  have KB1 := Lib.hid (fun (V : World) (hV : Below (((w.alloc (.cells #[.int .i64 t.k, .int .i64 t.n, .slice A t.l.length cap] 24)).alloc (.cells #[.int .i64 N] 3)).alloc (.cells #[.int .i64 0, .int .i64 0, .slice none 0 0] 24)).heap.size (((w.alloc (.cells #[.int .i64 t.k, .int .i64 t.n, .slice A t.l.length cap] 24)).alloc (.cells #[.int .i64 N] 3)).alloc (.cells #[.int .i64 0, .int .i64 0, .slice none 0 0] 24)) V) => (show Bk V (w.heap.size + 1) 3 #[.int .i64 N] from ((Bk.last (w.alloc (.cells #[.int .i64 t.k, .int .i64 t.n, .slice A t.l.length cap] 24)) 3 #[.int .i64 N] (g := w.heap.size + 1) (by simp)).alloc (.cells #[.int .i64 0, .int .i64 0, .slice none 0 0] 24)).below hV (by simp <;> omega)))
  have KB2 := Lib.hid (fun (V : World) (hV : Below (((w.alloc (.cells #[.int .i64 t.k, .int .i64 t.n, .slice A t.l.length cap] 24)).alloc (.cells #[.int .i64 N] 3)).alloc (.cells #[.int .i64 0, .int .i64 0, .slice none 0 0] 24)).heap.size (((w.alloc (.cells #[.int .i64 t.k, .int .i64 t.n, .slice A t.l.length cap] 24)).alloc (.cells #[.int .i64 N] 3)).alloc (.cells #[.int .i64 0, .int .i64 0, .slice none 0 0] 24)) V) => (show Bk V (w.heap.size + 2) 24 #[.int .i64 0, .int .i64 0, .slice none 0 0] from (Bk.last ((w.alloc (.cells #[.int .i64 t.k, .int .i64 t.n, .slice A t.l.length cap] 24)).alloc (.cells #[.int .i64 N] 3)) 24 #[.int .i64 0, .int .i64 0, .slice none 0 0] (g := w.heap.size + 2) (by simp)).below hV (by simp <;> omega)))
  have CC0 := Lib.hid (fun (V : World) (hV : Below w.heap.size w V) => shaped_any t lo hi A cap V (h.kept hV hhi) (by have := hV.size; omega) (hS.kept hV))
  obtain ⟨b1, hb1⟩ : ∃ b1, shapedB t = b1 := ⟨_, rfl⟩
  have CC1 := Lib.hid (fun (V : World) (hV : Below w.heap.size w V) => named_any N V)
  obtain ⟨b2, hb2⟩ : ∃ b2, fitsB N = b2 := ⟨_, rfl⟩
  have HX0 := Lib.hid (fun (hb : (b1 && b2) = false) => (show bindX t N = (.node 0 0 [], 5) by unfold bindX; rw [hb1, hb2, hb]; rfl))
  have CF0 := Lib.hid (fun (hb : (b1 && b2) = true) => (show ∀ V, Below (((w.alloc (.cells #[.int .i64 t.k, .int .i64 t.n, .slice A t.l.length cap] 24)).alloc (.cells #[.int .i64 N] 3)).alloc (.cells #[.int .i64 0, .int .i64 0, .slice none 0 0] 24)).heap.size (((w.alloc (.cells #[.int .i64 t.k, .int .i64 t.n, .slice A t.l.length cap] 24)).alloc (.cells #[.int .i64 N] 3)).alloc (.cells #[.int .i64 0, .int .i64 0, .slice none 0 0] 24)) V → Calls Tryd.prog 32 #[termV t A cap, .func (.func 43) #[] #[.pointer (some ⟨w.heap.size + 1, 0, none⟩)]] V (GivesT (bindX t N) V) from by
    rw [hb1.symm, hb2.symm] at hb
    have hc := hb
    simp only [Bool.and_eq_true] at hb
    obtain ⟨q1, q2⟩ := hb
    have e : bindX t N = changedX (bindG N) t := by unfold bindX; rw [hc, if_pos rfl, changedX_eq (fair_bind N) q1]
    rw [e]
    intro V hV
    have hV0 := HW.out.trans (hV.mono (by simp <;> omega))
    refine changed_bind (w.heap.size + 1) _ t lo hi A cap V (h.kept hV0 hhi) (by have := hV0.size; omega) (hS.kept hV0) q1 (fun k n b V2 hV2 hv => ?_)
    have hV3 := hV.trans (hV2.mono hV.size)
    exact cl_bind (w.heap.size + 1) N k n b V2 ((KB1.out V2 hV3).cell 0) hv))
  rw [hb1] at CC0
  rw [hb2] at CC1
  unfold termV at CC0 CF0 ⊢
  obtain ⟨RR, hRR⟩ : ∃ RR, bindX t N = RR := ⟨_, rfl⟩
  rw [hRR] at HX0 CF0 ⊢
  clear h hS hb1 hb2 hRR hhi
  go_enter Tryd.func20, Tryd.ntmps20
  go_wp2_with fail
  refine (CC0.out _ HW.out).mono ?_
  rintro e w0 ⟨rfl, hc0⟩
  have hb0 := Lib.hid ((Below.refl _ _).trans (hc0.mono (Nat.le_refl _)))
  clear hc0
  have b00 : w0.cell? ⟨w.heap.size, 0, none⟩ = some (.int .i64 t.k) := (KB0.out _ hb0.out).cell 0
  have b01 : w0.cell? ⟨w.heap.size, 1, none⟩ = some (.int .i64 t.n) := (KB0.out _ hb0.out).cell 1
  have b02 : w0.cell? ⟨w.heap.size, 2, none⟩ = some (.slice A t.l.length cap) := (KB0.out _ hb0.out).cell 2
  have b10 : w0.cell? ⟨w.heap.size + 1, 0, none⟩ = some (.int .i64 N) := (KB1.out _ hb0.out).cell 0
  have b20 : w0.cell? ⟨w.heap.size + 2, 0, none⟩ = some (.int .i64 0) := (KB2.out _ hb0.out).cell 0
  have b21 : w0.cell? ⟨w.heap.size + 2, 1, none⟩ = some (.int .i64 0) := (KB2.out _ hb0.out).cell 1
  have b22 : w0.cell? ⟨w.heap.size + 2, 2, none⟩ = some (.slice none 0 0) := (KB2.out _ hb0.out).cell 2
  have hfz : ∀ o, w0.frozen? ⟨w.heap.size + 2, o, none⟩ = false := fun o => (KB2.out _ hb0.out).cold o
  cases b1 with
  | false =>
    have HE := Lib.hid (HX0.out (by simp))
    have B5 := (((KB2.out _ hb0.out).at_ 0 (.int .i64 0)).at_ 1 (.int .i64 0)).at_ 2 (.slice none 0 0)
    have HS0 := Lib.hid (B5.cell 0)
    have HS1 := Lib.hid (B5.cell 1)
    have HS2 := Lib.hid (B5.cell 2)
    have HBF := Lib.hid (HW.out.trans (hb0.out.mono (by simp <;> omega)))
    clear B5
    go_wp2_with fail
    refine bodyPost_ret (v := .tuple #[.agg #[.int .i64 0, .int .i64 0, .slice none 0 0], .int .i64 5]) (by simp [results, Tryd.results20, go_sem, HS0.out, HS1.out, HS2.out]) rfl ?_
    rw [HE.out]
    exact give_zero HBF.out (by omega)
  | true =>
    go_wp2_with fail
    refine (CC1.out _ (HW.out.trans (hb0.out.mono (by simp <;> omega)))).mono ?_
    rintro e w1 ⟨rfl, hc1⟩
    have hb1 := Lib.hid (hb0.out.trans (hc1.mono hb0.out.size))
    clear hc1
    clear b00 b01 b02 b10 b20 b21 b22 hfz
    have b00 : w1.cell? ⟨w.heap.size, 0, none⟩ = some (.int .i64 t.k) := (KB0.out _ hb1.out).cell 0
    have b01 : w1.cell? ⟨w.heap.size, 1, none⟩ = some (.int .i64 t.n) := (KB0.out _ hb1.out).cell 1
    have b02 : w1.cell? ⟨w.heap.size, 2, none⟩ = some (.slice A t.l.length cap) := (KB0.out _ hb1.out).cell 2
    have b10 : w1.cell? ⟨w.heap.size + 1, 0, none⟩ = some (.int .i64 N) := (KB1.out _ hb1.out).cell 0
    have b20 : w1.cell? ⟨w.heap.size + 2, 0, none⟩ = some (.int .i64 0) := (KB2.out _ hb1.out).cell 0
    have b21 : w1.cell? ⟨w.heap.size + 2, 1, none⟩ = some (.int .i64 0) := (KB2.out _ hb1.out).cell 1
    have b22 : w1.cell? ⟨w.heap.size + 2, 2, none⟩ = some (.slice none 0 0) := (KB2.out _ hb1.out).cell 2
    have hfz : ∀ o, w1.frozen? ⟨w.heap.size + 2, o, none⟩ = false := fun o => (KB2.out _ hb1.out).cold o
    cases b2 with
    | false =>
      have HE := Lib.hid (HX0.out (by simp))
      have B5 := (((KB2.out _ hb1.out).at_ 0 (.int .i64 0)).at_ 1 (.int .i64 0)).at_ 2 (.slice none 0 0)
      have HS0 := Lib.hid (B5.cell 0)
      have HS1 := Lib.hid (B5.cell 1)
      have HS2 := Lib.hid (B5.cell 2)
      have HBF := Lib.hid (HW.out.trans (hb1.out.mono (by simp <;> omega)))
      clear B5
      go_wp2_with fail
      refine bodyPost_ret (v := .tuple #[.agg #[.int .i64 0, .int .i64 0, .slice none 0 0], .int .i64 5]) (by simp [results, Tryd.results20, go_sem, HS0.out, HS1.out, HS2.out]) rfl ?_
      rw [HE.out]
      exact give_zero HBF.out (by omega)
    | true =>
      have CF := Lib.hid (CF0.out rfl)
      obtain ⟨x, c⟩ := RR
      unfold GivesT termV at CF
      clear CF0 HX0 CC0 CC1
      go_wp2_with fail
      refine (CF.out _ hb1.out).mono ?_
      rintro e wf ⟨A', cap', rfl, hxf, hcf⟩
      have hbf := Lib.hid (hb1.out.trans (hcf.mono hb1.out.size))
      have HBF := Lib.hid (HW.out.trans (hbf.out.mono (by simp <;> omega)))
      have HXF := Lib.hid hxf
      have hzf := hcf.size
      have HLO : Hid (w.heap.size + 2 < w1.heap.size) := Lib.hid (by have := hb1.out.size; simp at this; omega)
      clear b00 b01 b02 b10 b20 b21 b22 hfz hcf hxf
      have K2 := KB2.out _ hbf.out
      have hfz : ∀ o, wf.frozen? ⟨w.heap.size + 2, o, none⟩ = false := fun o => K2.cold o
      have d0 : wf.cell? ⟨w.heap.size + 2, 0, none⟩ = some (.int .i64 0) := K2.cell 0
      have d1 : wf.cell? ⟨w.heap.size + 2, 1, none⟩ = some (.int .i64 0) := K2.cell 1
      have d2 : wf.cell? ⟨w.heap.size + 2, 2, none⟩ = some (.slice none 0 0) := K2.cell 2
      have B5 := ((K2.at_ 0 (.int .i64 x.k)).at_ 1 (.int .i64 x.n)).at_ 2 (.slice A' x.l.length cap')
      have HS0 := Lib.hid (B5.cell 0)
      have HS1 := Lib.hid (B5.cell 1)
      have HS2 := Lib.hid (B5.cell 2)
      clear B5 K2
      go_wp2_with fail
      refine bodyPost_ret (v := .tuple #[.agg #[.int .i64 x.k, .int .i64 x.n, .slice A' x.l.length cap'], .int .i64 c]) (by simp [results, Tryd.results20, go_sem, HS0.out, HS1.out, HS2.out]) rfl ?_
      exact give_term HBF.out (by omega) HXF.out HLO.out

end Go.Proofs.YtcobionbgiaomaaDoor
