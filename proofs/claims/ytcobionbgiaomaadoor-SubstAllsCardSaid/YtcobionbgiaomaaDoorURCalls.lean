/- The document's At, Named, Bind, Many. -/
import Derived.Test.YtcobionbgiaomaaDoorURmany
import Derived.Test.YtcobionbgiaomaaDoorURat
import Derived.Test.YtcobionbgiaomaaDoorURnamed
namespace Go.Proofs.YtcobionbgiaomaaDoor
open Go.RowKit
set_option linter.unusedVariables false
set_option maxRecDepth 100000

set_option maxHeartbeats 2000000 in
theorem rAt_any (t : TM) (lo hi : Nat) (A : Option Addr) (cap : Nat) (a : TM) (lo2 hi2 : Nat) (A2 : Option Addr) (cap2 : Nat) (N : Int) (w : World) (h : IsTerm w lo hi t A cap) (hhi : hi ≤ w.heap.size) (h2 : IsTerm w lo2 hi2 a A2 cap2) (hhi2 : hi2 ≤ w.heap.size) :
    Calls Tryd.prog 17 #[termV t A cap, termV a A2 cap2, .int .i64 N] w (GivesT (atX t a N) w) := by
  have HW := Lib.hid (show Below w.heap.size w (((w.alloc (.cells #[.int .i64 t.k, .int .i64 t.n, .slice A t.l.length cap] 24)).alloc (.cells #[.int .i64 a.k, .int .i64 a.n, .slice A2 a.l.length cap2] 24)).alloc (.cells #[.int .i64 0, .int .i64 0, .slice none 0 0] 24)) from (((Below.refl w.heap.size w).alloc (by simp <;> omega) (.cells #[.int .i64 t.k, .int .i64 t.n, .slice A t.l.length cap] 24)).alloc (by simp <;> omega) (.cells #[.int .i64 a.k, .int .i64 a.n, .slice A2 a.l.length cap2] 24)).alloc (by simp <;> omega) (.cells #[.int .i64 0, .int .i64 0, .slice none 0 0] 24))
  have KB0 := Lib.hid (fun (V : World) (hV : Below (((w.alloc (.cells #[.int .i64 t.k, .int .i64 t.n, .slice A t.l.length cap] 24)).alloc (.cells #[.int .i64 a.k, .int .i64 a.n, .slice A2 a.l.length cap2] 24)).alloc (.cells #[.int .i64 0, .int .i64 0, .slice none 0 0] 24)).heap.size (((w.alloc (.cells #[.int .i64 t.k, .int .i64 t.n, .slice A t.l.length cap] 24)).alloc (.cells #[.int .i64 a.k, .int .i64 a.n, .slice A2 a.l.length cap2] 24)).alloc (.cells #[.int .i64 0, .int .i64 0, .slice none 0 0] 24)) V) => (show Bk V (w.heap.size + 0) 24 #[.int .i64 t.k, .int .i64 t.n, .slice A t.l.length cap] from (((Bk.new w 24 #[.int .i64 t.k, .int .i64 t.n, .slice A t.l.length cap]).alloc (.cells #[.int .i64 a.k, .int .i64 a.n, .slice A2 a.l.length cap2] 24)).alloc (.cells #[.int .i64 0, .int .i64 0, .slice none 0 0] 24)).below hV (by simp <;> omega)))
  have KB1 := Lib.hid (fun (V : World) (hV : Below (((w.alloc (.cells #[.int .i64 t.k, .int .i64 t.n, .slice A t.l.length cap] 24)).alloc (.cells #[.int .i64 a.k, .int .i64 a.n, .slice A2 a.l.length cap2] 24)).alloc (.cells #[.int .i64 0, .int .i64 0, .slice none 0 0] 24)).heap.size (((w.alloc (.cells #[.int .i64 t.k, .int .i64 t.n, .slice A t.l.length cap] 24)).alloc (.cells #[.int .i64 a.k, .int .i64 a.n, .slice A2 a.l.length cap2] 24)).alloc (.cells #[.int .i64 0, .int .i64 0, .slice none 0 0] 24)) V) => (show Bk V (w.heap.size + 1) 24 #[.int .i64 a.k, .int .i64 a.n, .slice A2 a.l.length cap2] from ((Bk.last (w.alloc (.cells #[.int .i64 t.k, .int .i64 t.n, .slice A t.l.length cap] 24)) 24 #[.int .i64 a.k, .int .i64 a.n, .slice A2 a.l.length cap2] (g := w.heap.size + 1) (by simp)).alloc (.cells #[.int .i64 0, .int .i64 0, .slice none 0 0] 24)).below hV (by simp <;> omega)))
  have KB2 := Lib.hid (fun (V : World) (hV : Below (((w.alloc (.cells #[.int .i64 t.k, .int .i64 t.n, .slice A t.l.length cap] 24)).alloc (.cells #[.int .i64 a.k, .int .i64 a.n, .slice A2 a.l.length cap2] 24)).alloc (.cells #[.int .i64 0, .int .i64 0, .slice none 0 0] 24)).heap.size (((w.alloc (.cells #[.int .i64 t.k, .int .i64 t.n, .slice A t.l.length cap] 24)).alloc (.cells #[.int .i64 a.k, .int .i64 a.n, .slice A2 a.l.length cap2] 24)).alloc (.cells #[.int .i64 0, .int .i64 0, .slice none 0 0] 24)) V) => (show Bk V (w.heap.size + 2) 24 #[.int .i64 0, .int .i64 0, .slice none 0 0] from (Bk.last ((w.alloc (.cells #[.int .i64 t.k, .int .i64 t.n, .slice A t.l.length cap] 24)).alloc (.cells #[.int .i64 a.k, .int .i64 a.n, .slice A2 a.l.length cap2] 24)) 24 #[.int .i64 0, .int .i64 0, .slice none 0 0] (g := w.heap.size + 2) (by simp)).below hV (by simp <;> omega)))
  have CC0 := Lib.hid (fun (V : World) (hV : Below w.heap.size w V) => refShaped_any t lo hi A cap V (h.kept hV hhi) (by have := hV.size; omega))
  obtain ⟨b1, hb1⟩ : ∃ b1, shapedB t = b1 := ⟨_, rfl⟩
  have CC1 := Lib.hid (fun (V : World) (hV : Below w.heap.size w V) => refShaped_any a lo2 hi2 A2 cap2 V (h2.kept hV hhi2) (by have := hV.size; omega))
  obtain ⟨b2, hb2⟩ : ∃ b2, shapedB a = b2 := ⟨_, rfl⟩
  have CC2 := Lib.hid (fun (V : World) (hV : Below w.heap.size w V) => rfits_any N V)
  obtain ⟨b3, hb3⟩ : ∃ b3, fitsB N = b3 := ⟨_, rfl⟩
  have HX0 := Lib.hid (fun (hb : (b1 && (b2 && b3)) = false) => (show atX t a N = (.node 0 0 [], 5) by unfold atX; rw [hb1, hb2, hb3, hb]; rfl))
  have CDN := Lib.hid (fun (hb : (b1 && (b2 && b3)) = true) (p : GP) (V : World) (lo : Nat) (hg : GotIs (putT (atP a N) t 0) p.1 p.2.2.2) (h : IsTerm V lo V.heap.size p.1 p.2.1 p.2.2.1) => (show Calls Tryd.prog 34 #[gotV p] V (GivesAt (atX t a N) lo V) from by
    have e : atX t a N = gotX (putT (atP a N) t 0) := by unfold atX; rw [hb1, hb2, hb3, hb]; rfl
    rw [e]
    exact done_any _ p lo V hg h))
  have CF0 := Lib.hid (fun (hb : (b1 && (b2 && b3)) = true) => (show ∀ V, Below (((w.alloc (.cells #[.int .i64 t.k, .int .i64 t.n, .slice A t.l.length cap] 24)).alloc (.cells #[.int .i64 a.k, .int .i64 a.n, .slice A2 a.l.length cap2] 24)).alloc (.cells #[.int .i64 0, .int .i64 0, .slice none 0 0] 24)).heap.size (((w.alloc (.cells #[.int .i64 t.k, .int .i64 t.n, .slice A t.l.length cap] 24)).alloc (.cells #[.int .i64 a.k, .int .i64 a.n, .slice A2 a.l.length cap2] 24)).alloc (.cells #[.int .i64 0, .int .i64 0, .slice none 0 0] 24)) V → Calls Tryd.prog 40 #[termV t A cap, termV a A2 cap2, .int .i64 N] V (TellsGot (putT (atP a N) t 0) V.heap.size V) from by
    rw [hb1.symm, hb2.symm, hb3.symm] at hb
    simp only [Bool.and_eq_true] at hb
    obtain ⟨q1, q2, q3⟩ := hb
    obtain ⟨s1, s2, s3⟩ := shapedB_true.1 q1
    intro V hV
    have hV0 := HW.out.trans (hV.mono (by simp <;> omega))
    exact rat_any a N lo2 hi2 A2 cap2 q2 (fitsB_true.1 q3) t N 0 lo hi A cap V (by omega) (h.kept hV0 hhi) (by have := hV0.size; omega) (h2.kept hV0 hhi2) (by have := hV0.size; omega) s3 (by omega) (by omega)))
  rw [hb1] at CC0
  rw [hb2] at CC1
  rw [hb3] at CC2
  unfold termV at CC0 CC1 CF0 ⊢
  obtain ⟨RR, hRR⟩ : ∃ RR, atX t a N = RR := ⟨_, rfl⟩
  rw [hRR] at HX0 CDN ⊢
  clear h h2 hb1 hb2 hb3 hRR hhi hhi2
  go_enter Tryd.func17, Tryd.ntmps17
  go_wp2_with fail
  refine (CC0.out _ HW.out).mono ?_
  rintro e w0 ⟨rfl, hc0⟩
  have hb0 := Lib.hid ((Below.refl _ _).trans (hc0.mono (Nat.le_refl _)))
  clear hc0
  have b00 : w0.cell? ⟨w.heap.size, 0, none⟩ = some (.int .i64 t.k) := (KB0.out _ hb0.out).cell 0
  have b01 : w0.cell? ⟨w.heap.size, 1, none⟩ = some (.int .i64 t.n) := (KB0.out _ hb0.out).cell 1
  have b02 : w0.cell? ⟨w.heap.size, 2, none⟩ = some (.slice A t.l.length cap) := (KB0.out _ hb0.out).cell 2
  have b10 : w0.cell? ⟨w.heap.size + 1, 0, none⟩ = some (.int .i64 a.k) := (KB1.out _ hb0.out).cell 0
  have b11 : w0.cell? ⟨w.heap.size + 1, 1, none⟩ = some (.int .i64 a.n) := (KB1.out _ hb0.out).cell 1
  have b12 : w0.cell? ⟨w.heap.size + 1, 2, none⟩ = some (.slice A2 a.l.length cap2) := (KB1.out _ hb0.out).cell 2
  have b20 : w0.cell? ⟨w.heap.size + 2, 0, none⟩ = some (.int .i64 0) := (KB2.out _ hb0.out).cell 0
  have b21 : w0.cell? ⟨w.heap.size + 2, 1, none⟩ = some (.int .i64 0) := (KB2.out _ hb0.out).cell 1
  have b22 : w0.cell? ⟨w.heap.size + 2, 2, none⟩ = some (.slice none 0 0) := (KB2.out _ hb0.out).cell 2
  have hfz : ∀ o, w0.frozen? ⟨w.heap.size + 2, o, none⟩ = false := fun o => (KB2.out _ hb0.out).cold o
  cases b1 with
  | false =>
    have HE := Lib.hid (HX0.out (by simp))
    have B5 := (((KB2.out _ hb0.out).at_ 0 (.int .i64 0)).at_ 1 (.int .i64 0)).at_ 2 (.slice none 0 0)
    have HS0 := Lib.hid (B5.cell 0)
    have HS1 := Lib.hid (B5.cell 1)
    have HS2 := Lib.hid (B5.cell 2)
    have HBF := Lib.hid (HW.out.trans (hb0.out.mono (by simp <;> omega)))
    clear B5
    go_wp2_with fail
    refine bodyPost_ret (v := .tuple #[.agg #[.int .i64 0, .int .i64 0, .slice none 0 0], .int .i64 5]) (by simp [results, Tryd.results17, go_sem, HS0.out, HS1.out, HS2.out]) rfl ?_
    rw [HE.out]
    exact give_zero HBF.out (by omega)
  | true =>
    go_wp2_with fail
    refine (CC1.out _ (HW.out.trans (hb0.out.mono (by simp <;> omega)))).mono ?_
    rintro e w1 ⟨rfl, hc1⟩
    have hb1 := Lib.hid (hb0.out.trans (hc1.mono hb0.out.size))
    clear hc1
    clear b00 b01 b02 b10 b11 b12 b20 b21 b22 hfz
    have b00 : w1.cell? ⟨w.heap.size, 0, none⟩ = some (.int .i64 t.k) := (KB0.out _ hb1.out).cell 0
    have b01 : w1.cell? ⟨w.heap.size, 1, none⟩ = some (.int .i64 t.n) := (KB0.out _ hb1.out).cell 1
    have b02 : w1.cell? ⟨w.heap.size, 2, none⟩ = some (.slice A t.l.length cap) := (KB0.out _ hb1.out).cell 2
    have b10 : w1.cell? ⟨w.heap.size + 1, 0, none⟩ = some (.int .i64 a.k) := (KB1.out _ hb1.out).cell 0
    have b11 : w1.cell? ⟨w.heap.size + 1, 1, none⟩ = some (.int .i64 a.n) := (KB1.out _ hb1.out).cell 1
    have b12 : w1.cell? ⟨w.heap.size + 1, 2, none⟩ = some (.slice A2 a.l.length cap2) := (KB1.out _ hb1.out).cell 2
    have b20 : w1.cell? ⟨w.heap.size + 2, 0, none⟩ = some (.int .i64 0) := (KB2.out _ hb1.out).cell 0
    have b21 : w1.cell? ⟨w.heap.size + 2, 1, none⟩ = some (.int .i64 0) := (KB2.out _ hb1.out).cell 1
    have b22 : w1.cell? ⟨w.heap.size + 2, 2, none⟩ = some (.slice none 0 0) := (KB2.out _ hb1.out).cell 2
    have hfz : ∀ o, w1.frozen? ⟨w.heap.size + 2, o, none⟩ = false := fun o => (KB2.out _ hb1.out).cold o
    cases b2 with
    | false =>
      have HE := Lib.hid (HX0.out (by simp))
      have B5 := (((KB2.out _ hb1.out).at_ 0 (.int .i64 0)).at_ 1 (.int .i64 0)).at_ 2 (.slice none 0 0)
      have HS0 := Lib.hid (B5.cell 0)
      have HS1 := Lib.hid (B5.cell 1)
      have HS2 := Lib.hid (B5.cell 2)
      have HBF := Lib.hid (HW.out.trans (hb1.out.mono (by simp <;> omega)))
      clear B5
      go_wp2_with fail
      refine bodyPost_ret (v := .tuple #[.agg #[.int .i64 0, .int .i64 0, .slice none 0 0], .int .i64 5]) (by simp [results, Tryd.results17, go_sem, HS0.out, HS1.out, HS2.out]) rfl ?_
      rw [HE.out]
      exact give_zero HBF.out (by omega)
    | true =>
      go_wp2_with fail
      refine (CC2.out _ (HW.out.trans (hb1.out.mono (by simp <;> omega)))).mono ?_
      rintro e w2 ⟨rfl, hc2⟩
      have hb2 := Lib.hid (hb1.out.trans (hc2.mono hb1.out.size))
      clear hc2
      clear b00 b01 b02 b10 b11 b12 b20 b21 b22 hfz
      have b00 : w2.cell? ⟨w.heap.size, 0, none⟩ = some (.int .i64 t.k) := (KB0.out _ hb2.out).cell 0
      have b01 : w2.cell? ⟨w.heap.size, 1, none⟩ = some (.int .i64 t.n) := (KB0.out _ hb2.out).cell 1
      have b02 : w2.cell? ⟨w.heap.size, 2, none⟩ = some (.slice A t.l.length cap) := (KB0.out _ hb2.out).cell 2
      have b10 : w2.cell? ⟨w.heap.size + 1, 0, none⟩ = some (.int .i64 a.k) := (KB1.out _ hb2.out).cell 0
      have b11 : w2.cell? ⟨w.heap.size + 1, 1, none⟩ = some (.int .i64 a.n) := (KB1.out _ hb2.out).cell 1
      have b12 : w2.cell? ⟨w.heap.size + 1, 2, none⟩ = some (.slice A2 a.l.length cap2) := (KB1.out _ hb2.out).cell 2
      have b20 : w2.cell? ⟨w.heap.size + 2, 0, none⟩ = some (.int .i64 0) := (KB2.out _ hb2.out).cell 0
      have b21 : w2.cell? ⟨w.heap.size + 2, 1, none⟩ = some (.int .i64 0) := (KB2.out _ hb2.out).cell 1
      have b22 : w2.cell? ⟨w.heap.size + 2, 2, none⟩ = some (.slice none 0 0) := (KB2.out _ hb2.out).cell 2
      have hfz : ∀ o, w2.frozen? ⟨w.heap.size + 2, o, none⟩ = false := fun o => (KB2.out _ hb2.out).cold o
      cases b3 with
      | false =>
        have HE := Lib.hid (HX0.out (by simp))
        have B5 := (((KB2.out _ hb2.out).at_ 0 (.int .i64 0)).at_ 1 (.int .i64 0)).at_ 2 (.slice none 0 0)
        have HS0 := Lib.hid (B5.cell 0)
        have HS1 := Lib.hid (B5.cell 1)
        have HS2 := Lib.hid (B5.cell 2)
        have HBF := Lib.hid (HW.out.trans (hb2.out.mono (by simp <;> omega)))
        clear B5
        go_wp2_with fail
        refine bodyPost_ret (v := .tuple #[.agg #[.int .i64 0, .int .i64 0, .slice none 0 0], .int .i64 5]) (by simp [results, Tryd.results17, go_sem, HS0.out, HS1.out, HS2.out]) rfl ?_
        rw [HE.out]
        exact give_zero HBF.out (by omega)
      | true =>
        have CF := Lib.hid (CF0.out rfl)
        have CDN := Lib.hid (CDN.out rfl)
        clear CF0 HX0 CC0 CC1 CC2
        obtain ⟨x, c⟩ := RR
        go_wp2_with fail
        refine (CF.out _ hb2.out).mono ?_
        rintro e wf ⟨p5, rfl, hx5, hcf, hg5⟩
        have hbf := Lib.hid (hb2.out.trans (hcf.mono hb2.out.size))
        have CD := Lib.hid (CDN.out p5 wf _ hg5 hx5)
        have hzf := hcf.size
        clear hx5 hcf hg5 b00 b01 b02 b10 b11 b12 b20 b21 b22 hfz
        unfold GivesAt at CD
        go_wp2_with fail
        refine CD.out.mono ?_
        rintro e wd ⟨A4, c4, rfl, hx4, hcd⟩
        have hbd := Lib.hid (hbf.out.trans (hcd.mono hbf.out.size))
        have HBD := Lib.hid (HW.out.trans (hbd.out.mono (by simp <;> omega)))
        have HX4 := Lib.hid hx4
        have HLO : Hid (w.heap.size + 2 < w2.heap.size) := Lib.hid (by have := hb2.out.size; simp at this; omega)
        have K2 := KB2.out _ hbd.out
        have hfz : ∀ o, wd.frozen? ⟨w.heap.size + 2, o, none⟩ = false := fun o => K2.cold o
        have d0 : wd.cell? ⟨w.heap.size + 2, 0, none⟩ = some (.int .i64 0) := K2.cell 0
        have d1 : wd.cell? ⟨w.heap.size + 2, 1, none⟩ = some (.int .i64 0) := K2.cell 1
        have d2 : wd.cell? ⟨w.heap.size + 2, 2, none⟩ = some (.slice none 0 0) := K2.cell 2
        have B5 := ((K2.at_ 0 (.int .i64 x.k)).at_ 1 (.int .i64 x.n)).at_ 2 (.slice A4 x.l.length c4)
        have HS0 := Lib.hid (B5.cell 0)
        have HS1 := Lib.hid (B5.cell 1)
        have HS2 := Lib.hid (B5.cell 2)
        clear B5 K2 hcd hx4
        go_wp2_with fail
        refine bodyPost_ret (v := .tuple #[.agg #[.int .i64 x.k, .int .i64 x.n, .slice A4 x.l.length c4], .int .i64 c]) (by simp [results, Tryd.results17, go_sem, HS0.out, HS1.out, HS2.out]) rfl ?_
        exact give_term HBD.out (by omega) HX4.out HLO.out

set_option maxHeartbeats 2000000 in
theorem rNamed_any (t : TM) (lo hi : Nat) (A : Option Addr) (cap : Nat) (a : TM) (lo2 hi2 : Nat) (A2 : Option Addr) (cap2 : Nat) (N : Int) (w : World) (h : IsTerm w lo hi t A cap) (hhi : hi ≤ w.heap.size) (h2 : IsTerm w lo2 hi2 a A2 cap2) (hhi2 : hi2 ≤ w.heap.size) :
    Calls Tryd.prog 19 #[termV t A cap, termV a A2 cap2, .int .i64 N] w (GivesT (namedX t a N) w) := by
  have HW := Lib.hid (show Below w.heap.size w (((w.alloc (.cells #[.int .i64 t.k, .int .i64 t.n, .slice A t.l.length cap] 24)).alloc (.cells #[.int .i64 a.k, .int .i64 a.n, .slice A2 a.l.length cap2] 24)).alloc (.cells #[.int .i64 0, .int .i64 0, .slice none 0 0] 24)) from (((Below.refl w.heap.size w).alloc (by simp <;> omega) (.cells #[.int .i64 t.k, .int .i64 t.n, .slice A t.l.length cap] 24)).alloc (by simp <;> omega) (.cells #[.int .i64 a.k, .int .i64 a.n, .slice A2 a.l.length cap2] 24)).alloc (by simp <;> omega) (.cells #[.int .i64 0, .int .i64 0, .slice none 0 0] 24))
  have KB0 := Lib.hid (fun (V : World) (hV : Below (((w.alloc (.cells #[.int .i64 t.k, .int .i64 t.n, .slice A t.l.length cap] 24)).alloc (.cells #[.int .i64 a.k, .int .i64 a.n, .slice A2 a.l.length cap2] 24)).alloc (.cells #[.int .i64 0, .int .i64 0, .slice none 0 0] 24)).heap.size (((w.alloc (.cells #[.int .i64 t.k, .int .i64 t.n, .slice A t.l.length cap] 24)).alloc (.cells #[.int .i64 a.k, .int .i64 a.n, .slice A2 a.l.length cap2] 24)).alloc (.cells #[.int .i64 0, .int .i64 0, .slice none 0 0] 24)) V) => (show Bk V (w.heap.size + 0) 24 #[.int .i64 t.k, .int .i64 t.n, .slice A t.l.length cap] from (((Bk.new w 24 #[.int .i64 t.k, .int .i64 t.n, .slice A t.l.length cap]).alloc (.cells #[.int .i64 a.k, .int .i64 a.n, .slice A2 a.l.length cap2] 24)).alloc (.cells #[.int .i64 0, .int .i64 0, .slice none 0 0] 24)).below hV (by simp <;> omega)))
  have KB1 := Lib.hid (fun (V : World) (hV : Below (((w.alloc (.cells #[.int .i64 t.k, .int .i64 t.n, .slice A t.l.length cap] 24)).alloc (.cells #[.int .i64 a.k, .int .i64 a.n, .slice A2 a.l.length cap2] 24)).alloc (.cells #[.int .i64 0, .int .i64 0, .slice none 0 0] 24)).heap.size (((w.alloc (.cells #[.int .i64 t.k, .int .i64 t.n, .slice A t.l.length cap] 24)).alloc (.cells #[.int .i64 a.k, .int .i64 a.n, .slice A2 a.l.length cap2] 24)).alloc (.cells #[.int .i64 0, .int .i64 0, .slice none 0 0] 24)) V) => (show Bk V (w.heap.size + 1) 24 #[.int .i64 a.k, .int .i64 a.n, .slice A2 a.l.length cap2] from ((Bk.last (w.alloc (.cells #[.int .i64 t.k, .int .i64 t.n, .slice A t.l.length cap] 24)) 24 #[.int .i64 a.k, .int .i64 a.n, .slice A2 a.l.length cap2] (g := w.heap.size + 1) (by simp)).alloc (.cells #[.int .i64 0, .int .i64 0, .slice none 0 0] 24)).below hV (by simp <;> omega)))
  have KB2 := Lib.hid (fun (V : World) (hV : Below (((w.alloc (.cells #[.int .i64 t.k, .int .i64 t.n, .slice A t.l.length cap] 24)).alloc (.cells #[.int .i64 a.k, .int .i64 a.n, .slice A2 a.l.length cap2] 24)).alloc (.cells #[.int .i64 0, .int .i64 0, .slice none 0 0] 24)).heap.size (((w.alloc (.cells #[.int .i64 t.k, .int .i64 t.n, .slice A t.l.length cap] 24)).alloc (.cells #[.int .i64 a.k, .int .i64 a.n, .slice A2 a.l.length cap2] 24)).alloc (.cells #[.int .i64 0, .int .i64 0, .slice none 0 0] 24)) V) => (show Bk V (w.heap.size + 2) 24 #[.int .i64 0, .int .i64 0, .slice none 0 0] from (Bk.last ((w.alloc (.cells #[.int .i64 t.k, .int .i64 t.n, .slice A t.l.length cap] 24)).alloc (.cells #[.int .i64 a.k, .int .i64 a.n, .slice A2 a.l.length cap2] 24)) 24 #[.int .i64 0, .int .i64 0, .slice none 0 0] (g := w.heap.size + 2) (by simp)).below hV (by simp <;> omega)))
  have CC0 := Lib.hid (fun (V : World) (hV : Below w.heap.size w V) => refShaped_any t lo hi A cap V (h.kept hV hhi) (by have := hV.size; omega))
  obtain ⟨b1, hb1⟩ : ∃ b1, shapedB t = b1 := ⟨_, rfl⟩
  have CC1 := Lib.hid (fun (V : World) (hV : Below w.heap.size w V) => refShaped_any a lo2 hi2 A2 cap2 V (h2.kept hV hhi2) (by have := hV.size; omega))
  obtain ⟨b2, hb2⟩ : ∃ b2, shapedB a = b2 := ⟨_, rfl⟩
  have CC2 := Lib.hid (fun (V : World) (hV : Below w.heap.size w V) => rfits_any N V)
  obtain ⟨b3, hb3⟩ : ∃ b3, fitsB N = b3 := ⟨_, rfl⟩
  have HX0 := Lib.hid (fun (hb : (b1 && (b2 && b3)) = false) => (show namedX t a N = (.node 0 0 [], 5) by unfold namedX; rw [hb1, hb2, hb3, hb]; rfl))
  have CDN := Lib.hid (fun (hb : (b1 && (b2 && b3)) = true) (p : GP) (V : World) (lo : Nat) (hg : GotIs (putT (namedP a N) t 0) p.1 p.2.2.2) (h : IsTerm V lo V.heap.size p.1 p.2.1 p.2.2.1) => (show Calls Tryd.prog 34 #[gotV p] V (GivesAt (namedX t a N) lo V) from by
    have e : namedX t a N = gotX (putT (namedP a N) t 0) := by unfold namedX; rw [hb1, hb2, hb3, hb]; rfl
    rw [e]
    exact done_any _ p lo V hg h))
  have CF0 := Lib.hid (fun (hb : (b1 && (b2 && b3)) = true) => (show ∀ V, Below (((w.alloc (.cells #[.int .i64 t.k, .int .i64 t.n, .slice A t.l.length cap] 24)).alloc (.cells #[.int .i64 a.k, .int .i64 a.n, .slice A2 a.l.length cap2] 24)).alloc (.cells #[.int .i64 0, .int .i64 0, .slice none 0 0] 24)).heap.size (((w.alloc (.cells #[.int .i64 t.k, .int .i64 t.n, .slice A t.l.length cap] 24)).alloc (.cells #[.int .i64 a.k, .int .i64 a.n, .slice A2 a.l.length cap2] 24)).alloc (.cells #[.int .i64 0, .int .i64 0, .slice none 0 0] 24)) V → Calls Tryd.prog 42 #[termV t A cap, termV a A2 cap2, .int .i64 N, .int .i64 0] V (TellsGot (putT (namedP a N) t 0) V.heap.size V) from by
    rw [hb1.symm, hb2.symm, hb3.symm] at hb
    simp only [Bool.and_eq_true] at hb
    obtain ⟨q1, q2, q3⟩ := hb
    obtain ⟨s1, s2, s3⟩ := shapedB_true.1 q1
    intro V hV
    have hV0 := HW.out.trans (hV.mono (by simp <;> omega))
    exact rnamed_any a N lo2 hi2 A2 cap2 q2 (fitsB_true.1 q3) t 0 lo hi A cap V (h.kept hV0 hhi) (by have := hV0.size; omega) (h2.kept hV0 hhi2) (by have := hV0.size; omega) s3 (by omega) (by omega)))
  rw [hb1] at CC0
  rw [hb2] at CC1
  rw [hb3] at CC2
  unfold termV at CC0 CC1 CF0 ⊢
  obtain ⟨RR, hRR⟩ : ∃ RR, namedX t a N = RR := ⟨_, rfl⟩
  rw [hRR] at HX0 CDN ⊢
  clear h h2 hb1 hb2 hb3 hRR hhi hhi2
  go_enter Tryd.func19, Tryd.ntmps19
  go_wp2_with fail
  refine (CC0.out _ HW.out).mono ?_
  rintro e w0 ⟨rfl, hc0⟩
  have hb0 := Lib.hid ((Below.refl _ _).trans (hc0.mono (Nat.le_refl _)))
  clear hc0
  have b00 : w0.cell? ⟨w.heap.size, 0, none⟩ = some (.int .i64 t.k) := (KB0.out _ hb0.out).cell 0
  have b01 : w0.cell? ⟨w.heap.size, 1, none⟩ = some (.int .i64 t.n) := (KB0.out _ hb0.out).cell 1
  have b02 : w0.cell? ⟨w.heap.size, 2, none⟩ = some (.slice A t.l.length cap) := (KB0.out _ hb0.out).cell 2
  have b10 : w0.cell? ⟨w.heap.size + 1, 0, none⟩ = some (.int .i64 a.k) := (KB1.out _ hb0.out).cell 0
  have b11 : w0.cell? ⟨w.heap.size + 1, 1, none⟩ = some (.int .i64 a.n) := (KB1.out _ hb0.out).cell 1
  have b12 : w0.cell? ⟨w.heap.size + 1, 2, none⟩ = some (.slice A2 a.l.length cap2) := (KB1.out _ hb0.out).cell 2
  have b20 : w0.cell? ⟨w.heap.size + 2, 0, none⟩ = some (.int .i64 0) := (KB2.out _ hb0.out).cell 0
  have b21 : w0.cell? ⟨w.heap.size + 2, 1, none⟩ = some (.int .i64 0) := (KB2.out _ hb0.out).cell 1
  have b22 : w0.cell? ⟨w.heap.size + 2, 2, none⟩ = some (.slice none 0 0) := (KB2.out _ hb0.out).cell 2
  have hfz : ∀ o, w0.frozen? ⟨w.heap.size + 2, o, none⟩ = false := fun o => (KB2.out _ hb0.out).cold o
  cases b1 with
  | false =>
    have HE := Lib.hid (HX0.out (by simp))
    have B5 := (((KB2.out _ hb0.out).at_ 0 (.int .i64 0)).at_ 1 (.int .i64 0)).at_ 2 (.slice none 0 0)
    have HS0 := Lib.hid (B5.cell 0)
    have HS1 := Lib.hid (B5.cell 1)
    have HS2 := Lib.hid (B5.cell 2)
    have HBF := Lib.hid (HW.out.trans (hb0.out.mono (by simp <;> omega)))
    clear B5
    go_wp2_with fail
    refine bodyPost_ret (v := .tuple #[.agg #[.int .i64 0, .int .i64 0, .slice none 0 0], .int .i64 5]) (by simp [results, Tryd.results19, go_sem, HS0.out, HS1.out, HS2.out]) rfl ?_
    rw [HE.out]
    exact give_zero HBF.out (by omega)
  | true =>
    go_wp2_with fail
    refine (CC1.out _ (HW.out.trans (hb0.out.mono (by simp <;> omega)))).mono ?_
    rintro e w1 ⟨rfl, hc1⟩
    have hb1 := Lib.hid (hb0.out.trans (hc1.mono hb0.out.size))
    clear hc1
    clear b00 b01 b02 b10 b11 b12 b20 b21 b22 hfz
    have b00 : w1.cell? ⟨w.heap.size, 0, none⟩ = some (.int .i64 t.k) := (KB0.out _ hb1.out).cell 0
    have b01 : w1.cell? ⟨w.heap.size, 1, none⟩ = some (.int .i64 t.n) := (KB0.out _ hb1.out).cell 1
    have b02 : w1.cell? ⟨w.heap.size, 2, none⟩ = some (.slice A t.l.length cap) := (KB0.out _ hb1.out).cell 2
    have b10 : w1.cell? ⟨w.heap.size + 1, 0, none⟩ = some (.int .i64 a.k) := (KB1.out _ hb1.out).cell 0
    have b11 : w1.cell? ⟨w.heap.size + 1, 1, none⟩ = some (.int .i64 a.n) := (KB1.out _ hb1.out).cell 1
    have b12 : w1.cell? ⟨w.heap.size + 1, 2, none⟩ = some (.slice A2 a.l.length cap2) := (KB1.out _ hb1.out).cell 2
    have b20 : w1.cell? ⟨w.heap.size + 2, 0, none⟩ = some (.int .i64 0) := (KB2.out _ hb1.out).cell 0
    have b21 : w1.cell? ⟨w.heap.size + 2, 1, none⟩ = some (.int .i64 0) := (KB2.out _ hb1.out).cell 1
    have b22 : w1.cell? ⟨w.heap.size + 2, 2, none⟩ = some (.slice none 0 0) := (KB2.out _ hb1.out).cell 2
    have hfz : ∀ o, w1.frozen? ⟨w.heap.size + 2, o, none⟩ = false := fun o => (KB2.out _ hb1.out).cold o
    cases b2 with
    | false =>
      have HE := Lib.hid (HX0.out (by simp))
      have B5 := (((KB2.out _ hb1.out).at_ 0 (.int .i64 0)).at_ 1 (.int .i64 0)).at_ 2 (.slice none 0 0)
      have HS0 := Lib.hid (B5.cell 0)
      have HS1 := Lib.hid (B5.cell 1)
      have HS2 := Lib.hid (B5.cell 2)
      have HBF := Lib.hid (HW.out.trans (hb1.out.mono (by simp <;> omega)))
      clear B5
      go_wp2_with fail
      refine bodyPost_ret (v := .tuple #[.agg #[.int .i64 0, .int .i64 0, .slice none 0 0], .int .i64 5]) (by simp [results, Tryd.results19, go_sem, HS0.out, HS1.out, HS2.out]) rfl ?_
      rw [HE.out]
      exact give_zero HBF.out (by omega)
    | true =>
      go_wp2_with fail
      refine (CC2.out _ (HW.out.trans (hb1.out.mono (by simp <;> omega)))).mono ?_
      rintro e w2 ⟨rfl, hc2⟩
      have hb2 := Lib.hid (hb1.out.trans (hc2.mono hb1.out.size))
      clear hc2
      clear b00 b01 b02 b10 b11 b12 b20 b21 b22 hfz
      have b00 : w2.cell? ⟨w.heap.size, 0, none⟩ = some (.int .i64 t.k) := (KB0.out _ hb2.out).cell 0
      have b01 : w2.cell? ⟨w.heap.size, 1, none⟩ = some (.int .i64 t.n) := (KB0.out _ hb2.out).cell 1
      have b02 : w2.cell? ⟨w.heap.size, 2, none⟩ = some (.slice A t.l.length cap) := (KB0.out _ hb2.out).cell 2
      have b10 : w2.cell? ⟨w.heap.size + 1, 0, none⟩ = some (.int .i64 a.k) := (KB1.out _ hb2.out).cell 0
      have b11 : w2.cell? ⟨w.heap.size + 1, 1, none⟩ = some (.int .i64 a.n) := (KB1.out _ hb2.out).cell 1
      have b12 : w2.cell? ⟨w.heap.size + 1, 2, none⟩ = some (.slice A2 a.l.length cap2) := (KB1.out _ hb2.out).cell 2
      have b20 : w2.cell? ⟨w.heap.size + 2, 0, none⟩ = some (.int .i64 0) := (KB2.out _ hb2.out).cell 0
      have b21 : w2.cell? ⟨w.heap.size + 2, 1, none⟩ = some (.int .i64 0) := (KB2.out _ hb2.out).cell 1
      have b22 : w2.cell? ⟨w.heap.size + 2, 2, none⟩ = some (.slice none 0 0) := (KB2.out _ hb2.out).cell 2
      have hfz : ∀ o, w2.frozen? ⟨w.heap.size + 2, o, none⟩ = false := fun o => (KB2.out _ hb2.out).cold o
      cases b3 with
      | false =>
        have HE := Lib.hid (HX0.out (by simp))
        have B5 := (((KB2.out _ hb2.out).at_ 0 (.int .i64 0)).at_ 1 (.int .i64 0)).at_ 2 (.slice none 0 0)
        have HS0 := Lib.hid (B5.cell 0)
        have HS1 := Lib.hid (B5.cell 1)
        have HS2 := Lib.hid (B5.cell 2)
        have HBF := Lib.hid (HW.out.trans (hb2.out.mono (by simp <;> omega)))
        clear B5
        go_wp2_with fail
        refine bodyPost_ret (v := .tuple #[.agg #[.int .i64 0, .int .i64 0, .slice none 0 0], .int .i64 5]) (by simp [results, Tryd.results19, go_sem, HS0.out, HS1.out, HS2.out]) rfl ?_
        rw [HE.out]
        exact give_zero HBF.out (by omega)
      | true =>
        have CF := Lib.hid (CF0.out rfl)
        have CDN := Lib.hid (CDN.out rfl)
        clear CF0 HX0 CC0 CC1 CC2
        obtain ⟨x, c⟩ := RR
        go_wp2_with fail
        refine (CF.out _ hb2.out).mono ?_
        rintro e wf ⟨p5, rfl, hx5, hcf, hg5⟩
        have hbf := Lib.hid (hb2.out.trans (hcf.mono hb2.out.size))
        have CD := Lib.hid (CDN.out p5 wf _ hg5 hx5)
        have hzf := hcf.size
        clear hx5 hcf hg5 b00 b01 b02 b10 b11 b12 b20 b21 b22 hfz
        unfold GivesAt at CD
        go_wp2_with fail
        refine CD.out.mono ?_
        rintro e wd ⟨A4, c4, rfl, hx4, hcd⟩
        have hbd := Lib.hid (hbf.out.trans (hcd.mono hbf.out.size))
        have HBD := Lib.hid (HW.out.trans (hbd.out.mono (by simp <;> omega)))
        have HX4 := Lib.hid hx4
        have HLO : Hid (w.heap.size + 2 < w2.heap.size) := Lib.hid (by have := hb2.out.size; simp at this; omega)
        have K2 := KB2.out _ hbd.out
        have hfz : ∀ o, wd.frozen? ⟨w.heap.size + 2, o, none⟩ = false := fun o => K2.cold o
        have d0 : wd.cell? ⟨w.heap.size + 2, 0, none⟩ = some (.int .i64 0) := K2.cell 0
        have d1 : wd.cell? ⟨w.heap.size + 2, 1, none⟩ = some (.int .i64 0) := K2.cell 1
        have d2 : wd.cell? ⟨w.heap.size + 2, 2, none⟩ = some (.slice none 0 0) := K2.cell 2
        have B5 := ((K2.at_ 0 (.int .i64 x.k)).at_ 1 (.int .i64 x.n)).at_ 2 (.slice A4 x.l.length c4)
        have HS0 := Lib.hid (B5.cell 0)
        have HS1 := Lib.hid (B5.cell 1)
        have HS2 := Lib.hid (B5.cell 2)
        clear B5 K2 hcd hx4
        go_wp2_with fail
        refine bodyPost_ret (v := .tuple #[.agg #[.int .i64 x.k, .int .i64 x.n, .slice A4 x.l.length c4], .int .i64 c]) (by simp [results, Tryd.results19, go_sem, HS0.out, HS1.out, HS2.out]) rfl ?_
        exact give_term HBD.out (by omega) HX4.out HLO.out

def RManyRel (w : World) (bx : Bool) (ls : List TM) (W0 : World) (ok iv : Value) (wr : World) : Prop := ∃ i : Nat, i ≤ ls.length ∧ iv = .int .i64 i ∧ ok = .bool (bx && (ls.take i).all shapedB) ∧ Below W0.heap.size W0 wr
set_option maxHeartbeats 2000000 in
theorem rMany_any (t : TM) (lo hi : Nat) (A : Option Addr) (cap : Nat) (ls : List TM) (lo2 hi2 : Nat) (L : Option Addr) (capL : Nat) (w : World) (h : IsTerm w lo hi t A cap) (hhi : hi ≤ w.heap.size) (h2 : IsTerm w lo2 hi2 (.node 0 0 ls) L capL) (hhi2 : hi2 ≤ w.heap.size) (hl4 : ls.length ≤ 4000000000) :
    Calls Tryd.prog 13 #[termV t A cap, .slice L ls.length capL] w (GivesT (manyX t ls) w) := by
  have HW := Lib.hid (show Below w.heap.size w ((w.alloc (.cells #[.int .i64 t.k, .int .i64 t.n, .slice A t.l.length cap] 24)).alloc (.cells #[.int .i64 0, .int .i64 0, .slice none 0 0] 24)) from ((Below.refl w.heap.size w).alloc (Nat.le_refl _) (.cells #[.int .i64 t.k, .int .i64 t.n, .slice A t.l.length cap] 24)).alloc (by simp <;> omega) (.cells #[.int .i64 0, .int .i64 0, .slice none 0 0] 24))
  have KB0 := Lib.hid (fun (V : World) (hV : Below ((w.alloc (.cells #[.int .i64 t.k, .int .i64 t.n, .slice A t.l.length cap] 24)).alloc (.cells #[.int .i64 0, .int .i64 0, .slice none 0 0] 24)).heap.size ((w.alloc (.cells #[.int .i64 t.k, .int .i64 t.n, .slice A t.l.length cap] 24)).alloc (.cells #[.int .i64 0, .int .i64 0, .slice none 0 0] 24)) V) => (show Bk V w.heap.size 24 #[.int .i64 t.k, .int .i64 t.n, .slice A t.l.length cap] from ((Bk.new w 24 _).alloc _).below hV (by simp <;> omega)))
  have KB1 := Lib.hid (fun (V : World) (hV : Below ((w.alloc (.cells #[.int .i64 t.k, .int .i64 t.n, .slice A t.l.length cap] 24)).alloc (.cells #[.int .i64 0, .int .i64 0, .slice none 0 0] 24)).heap.size ((w.alloc (.cells #[.int .i64 t.k, .int .i64 t.n, .slice A t.l.length cap] 24)).alloc (.cells #[.int .i64 0, .int .i64 0, .slice none 0 0] 24)) V) => (show Bk V (w.heap.size + 1) 24 #[.int .i64 0, .int .i64 0, .slice none 0 0] from (Bk.last (w.alloc (.cells #[.int .i64 t.k, .int .i64 t.n, .slice A t.l.length cap] 24)) 24 #[.int .i64 0, .int .i64 0, .slice none 0 0] (g := w.heap.size + 1) (by simp)).below hV (by simp <;> omega)))
  have CC0 := Lib.hid (refShaped_any t lo hi A cap ((w.alloc (.cells #[.int .i64 t.k, .int .i64 t.n, .slice A t.l.length cap] 24)).alloc (.cells #[.int .i64 0, .int .i64 0, .slice none 0 0] 24)) (h.kept HW.out hhi) (by simp; omega))
  have HN := Lib.hid h2.sub
  have HLT2 := Lib.hid hhi2
  have CSH := Lib.hid (fun (u : TM) (lo hi : Nat) (A : Option Addr) (cap : Nat) (V : World) (h : IsTerm V lo hi u A cap) (hhi : hi ≤ V.heap.size) => refShaped_any u lo hi A cap V h hhi)
  obtain ⟨b1, hb1⟩ : ∃ b1, shapedB t = b1 := ⟨_, rfl⟩
  obtain ⟨b2, hb2⟩ : ∃ b2, ls.all shapedB = b2 := ⟨_, rfl⟩
  have HX0 := Lib.hid (fun (hb : (b1 && b2) = false) => (show manyX t ls = (.node 0 0 [], 5) by unfold manyX; rw [hb1, hb2, hb]; rfl))
  have CDN := Lib.hid (fun (hb : (b1 && b2) = true) (p : GP) (V : World) (lo : Nat) (hg : GotIs (putT (firstP ls) t 0) p.1 p.2.2.2) (h : IsTerm V lo V.heap.size p.1 p.2.1 p.2.2.1) => (show Calls Tryd.prog 34 #[gotV p] V (GivesAt (manyX t ls) lo V) from by
    have e : manyX t ls = gotX (putT (firstP ls) t 0) := by unfold manyX; rw [hb1, hb2, hb]; rfl
    rw [e]
    exact done_any _ p lo V hg h))
  have CF0 := Lib.hid (fun (hb : (b1 && b2) = true) => (show ∀ V, Below ((w.alloc (.cells #[.int .i64 t.k, .int .i64 t.n, .slice A t.l.length cap] 24)).alloc (.cells #[.int .i64 0, .int .i64 0, .slice none 0 0] 24)).heap.size ((w.alloc (.cells #[.int .i64 t.k, .int .i64 t.n, .slice A t.l.length cap] 24)).alloc (.cells #[.int .i64 0, .int .i64 0, .slice none 0 0] 24)) V → Calls Tryd.prog 35 #[termV t A cap, .slice L ls.length capL, .int .i64 0] V (TellsGot (putT (firstP ls) t 0) V.heap.size V) from by
    rw [hb1.symm, hb2.symm] at hb
    simp only [Bool.and_eq_true] at hb
    obtain ⟨q1, q2⟩ := hb
    obtain ⟨s1, s2, s3⟩ := shapedB_true.1 q1
    intro V hV
    have hV0 := HW.out.trans (hV.mono (by simp <;> omega))
    exact rmany_any ls lo2 hi2 L capL q2 hl4 t 0 lo hi A cap V (h.kept hV0 hhi) (by have := hV0.size; omega) (h2.kept hV0 hhi2) (by have := hV0.size; omega) s3 (by omega) (by omega)))
  rw [hb1] at CC0
  have HB2 := Lib.hid hb2
  unfold termV at CC0 CF0 CSH ⊢
  obtain ⟨RR, hRR⟩ : ∃ RR, manyX t ls = RR := ⟨_, rfl⟩
  rw [hRR] at HX0 CDN ⊢
  have HHI := Lib.hid hhi
  clear h h2 hb1 hb2 hRR hhi hhi2
  go_enter Tryd.func13, Tryd.ntmps13
  go_wp2_with fail
  refine CC0.out.mono ?_
  rintro e w1 ⟨rfl, hc0⟩
  have HC0 := Lib.hid hc0
  clear hc0
  go_wp2_with fail
  go_loopw [6, 7] (RManyRel w b1 ls ((w.alloc (.cells #[.int .i64 t.k, .int .i64 t.n, .slice A t.l.length cap] 24)).alloc (.cells #[.int .i64 0, .int .i64 0, .slice none 0 0] 24))) (fun _ iv _ => ls.length - (intOf iv).toNat)
  case atStart => exact ⟨0, Nat.zero_le _, rfl, by simp, HC0.out⟩
  case round =>
    obtain ⟨i, hi1, rfl, rfl, hB⟩ := hrel
    have hz := hB.size
    simp at hz
    have hbw := Lib.hid (HW.out.trans (hB.mono (by simp <;> omega)))
    have b00 : wr.cell? ⟨w.heap.size, 0, none⟩ = some (.int .i64 t.k) := (KB0.out _ hB).cell 0
    have b01 : wr.cell? ⟨w.heap.size, 1, none⟩ = some (.int .i64 t.n) := (KB0.out _ hB).cell 1
    have b02 : wr.cell? ⟨w.heap.size, 2, none⟩ = some (.slice A t.l.length cap) := (KB0.out _ hB).cell 2
    have b10 : wr.cell? ⟨w.heap.size + 1, 0, none⟩ = some (.int .i64 0) := (KB1.out _ hB).cell 0
    have b11 : wr.cell? ⟨w.heap.size + 1, 1, none⟩ = some (.int .i64 0) := (KB1.out _ hB).cell 1
    have b12 : wr.cell? ⟨w.heap.size + 1, 2, none⟩ = some (.slice none 0 0) := (KB1.out _ hB).cell 2
    have hfz : ∀ o, wr.frozen? ⟨w.heap.size + 1, o, none⟩ = false := fun o => (KB1.out _ hB).cold o
    have HBB := Lib.hid hB
    by_cases hil : i < ls.length
    · have hi1' : (i : Int) < (ls.length : Int) := by omega
      have hi0' : (0 : Int) ≤ (i : Int) := by omega
      have hst : (ls.take (i + 1)).all shapedB = ((ls.take i).all shapedB && shapedB ls[i]) := by
        rw [List.take_succ_eq_append_getElem hil, List.all_append]; simp
      obtain ⟨ob, hob⟩ : ∃ ob, (b1 && (ls.take i).all shapedB) = ob := ⟨_, rfl⟩
      have hst2 : (b1 && (ls.take (i + 1)).all shapedB) = (ob && shapedB ls[i]) := by rw [hst, ← hob, Bool.and_assoc]
      have HST := Lib.hid hst2
      rw [hob]
      clear hst hst2 hob
      cases ob with
      | false =>
        go_wp2_with fail
        go_roundw
        case rel => exact ⟨i + 1, by omega, rfl, by rw [HST.out]; rfl, HBB.out⟩
        case measure => simp [intOf]; omega
      | true =>
        obtain ⟨gb, go, F, C, hL, hb1', hb2', ⟨y0, y1, y2⟩, hnode⟩ := (HN.out i hil).kept hbw.out HLT2.out
        subst hL
        obtain ⟨u, hu⟩ : ∃ u, ls[i] = u := ⟨_, rfl⟩
        rw [hu] at y0 y1 y2 hnode HST
        have CU := Lib.hid (CSH.out u lo2 hi2 F C wr hnode (by have := HLT2.out; omega))
        obtain ⟨bu, hbu⟩ : ∃ bu, shapedB u = bu := ⟨_, rfl⟩
        rw [hbu] at CU HST
        clear hnode hu hbu
        go_wp2_with fail
        refine CU.out.mono ?_
        rintro e w2 ⟨rfl, hb2⟩
        have HB2' := Lib.hid (HBB.out.trans (hb2.mono HBB.out.size))
        clear hb2
        go_wp2_with fail
        go_roundw
        case rel => exact ⟨i + 1, by omega, rfl, by rw [HST.out]; rfl, HB2'.out⟩
        case measure => simp [intOf]; omega
    · obtain rfl : i = ls.length := by omega
      have hok : (b1 && (ls.take ls.length).all shapedB) = (b1 && b2) := by rw [List.take_length, HB2.out]
      rw [hok]
      obtain ⟨bo, hbo⟩ : ∃ bo, (b1 && b2) = bo := ⟨_, rfl⟩
      rw [hbo] at HX0 CDN CF0 ⊢
      clear hok hbo CSH HN
      cases bo with
      | false =>
        have HE := Lib.hid (HX0.out rfl)
        have B5 := (((KB1.out _ HBB.out).at_ 0 (.int .i64 0)).at_ 1 (.int .i64 0)).at_ 2 (.slice none 0 0)
        have HS0 := Lib.hid (B5.cell 0)
        have HS1 := Lib.hid (B5.cell 1)
        have HS2 := Lib.hid (B5.cell 2)
        have HBF := Lib.hid (HW.out.trans (HBB.out.mono (by simp <;> omega)))
        clear B5
        go_wp2_with fail
        refine bodyPost_ret (v := .tuple #[.agg #[.int .i64 0, .int .i64 0, .slice none 0 0], .int .i64 5]) (by simp [results, Tryd.results13, go_sem, HS0.out, HS1.out, HS2.out]) rfl ?_
        rw [HE.out]
        exact give_zero HBF.out (by omega)
      | true =>
        have CF := Lib.hid (CF0.out rfl)
        have CDM := CDN.out rfl
        clear CDN
        have CDN := Lib.hid CDM
        clear CF0 HX0 CC0 CDM
        obtain ⟨x, c⟩ := RR
        go_wp2_with fail
        refine (CF.out _ HBB.out).mono ?_
        rintro e wf ⟨p5, rfl, hx5, hcf, hg5⟩
        have hbf := Lib.hid (HBB.out.trans (hcf.mono HBB.out.size))
        have CD := Lib.hid (CDN.out p5 wf _ hg5 hx5)
        have hzf := hcf.size
        clear hx5 hcf hg5 b00 b01 b02 b10 b11 b12 hfz
        unfold GivesAt at CD
        go_wp2_with fail
        refine CD.out.mono ?_
        rintro e wd ⟨A4, c4, rfl, hx4, hcd⟩
        have hbd := Lib.hid (hbf.out.trans (hcd.mono hbf.out.size))
        have HBD := Lib.hid (HW.out.trans (hbd.out.mono (by simp <;> omega)))
        have HX4 := Lib.hid hx4
        have HLO : Hid (w.heap.size + 1 < wr.heap.size) := Lib.hid (by omega)
        have K2 := KB1.out _ hbd.out
        have hfz : ∀ o, wd.frozen? ⟨w.heap.size + 1, o, none⟩ = false := fun o => K2.cold o
        have d0 : wd.cell? ⟨w.heap.size + 1, 0, none⟩ = some (.int .i64 0) := K2.cell 0
        have d1 : wd.cell? ⟨w.heap.size + 1, 1, none⟩ = some (.int .i64 0) := K2.cell 1
        have d2 : wd.cell? ⟨w.heap.size + 1, 2, none⟩ = some (.slice none 0 0) := K2.cell 2
        have B5 := ((K2.at_ 0 (.int .i64 x.k)).at_ 1 (.int .i64 x.n)).at_ 2 (.slice A4 x.l.length c4)
        have HS0 := Lib.hid (B5.cell 0)
        have HS1 := Lib.hid (B5.cell 1)
        have HS2 := Lib.hid (B5.cell 2)
        clear B5 K2 hcd hx4
        go_wp2_with fail
        refine bodyPost_ret (v := .tuple #[.agg #[.int .i64 x.k, .int .i64 x.n, .slice A4 x.l.length c4], .int .i64 c]) (by simp [results, Tryd.results13, go_sem, HS0.out, HS1.out, HS2.out]) rfl ?_
        exact give_term HBD.out (by omega) HX4.out HLO.out

end Go.Proofs.YtcobionbgiaomaaDoor
