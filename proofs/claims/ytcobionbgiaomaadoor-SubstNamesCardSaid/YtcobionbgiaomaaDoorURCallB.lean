/- The document's Bind. -/
import Derived.Test.YtcobionbgiaomaaDoorURCalls
import Derived.Test.YtcobionbgiaomaaDoorURbind
namespace Go.Proofs.YtcobionbgiaomaaDoor
open Go.RowKit
set_option linter.unusedVariables false
set_option maxRecDepth 100000

set_option maxHeartbeats 2000000 in
theorem rBind_any (t : TM) (lo hi : Nat) (A : Option Addr) (cap : Nat) (N : Int) (w : World) (h : IsTerm w lo hi t A cap) (hhi : hi ≤ w.heap.size) :
    Calls Tryd.prog 21 #[termV t A cap, .int .i64 N] w (GivesT (bindX t N) w) := by
  have HW := Lib.hid (show Below w.heap.size w ((w.alloc (.cells #[.int .i64 t.k, .int .i64 t.n, .slice A t.l.length cap] 24)).alloc (.cells #[.int .i64 0, .int .i64 0, .slice none 0 0] 24)) from ((Below.refl w.heap.size w).alloc (by simp <;> omega) (.cells #[.int .i64 t.k, .int .i64 t.n, .slice A t.l.length cap] 24)).alloc (by simp <;> omega) (.cells #[.int .i64 0, .int .i64 0, .slice none 0 0] 24))
  have KB0 := Lib.hid (fun (V : World) (hV : Below ((w.alloc (.cells #[.int .i64 t.k, .int .i64 t.n, .slice A t.l.length cap] 24)).alloc (.cells #[.int .i64 0, .int .i64 0, .slice none 0 0] 24)).heap.size ((w.alloc (.cells #[.int .i64 t.k, .int .i64 t.n, .slice A t.l.length cap] 24)).alloc (.cells #[.int .i64 0, .int .i64 0, .slice none 0 0] 24)) V) => (show Bk V (w.heap.size + 0) 24 #[.int .i64 t.k, .int .i64 t.n, .slice A t.l.length cap] from ((Bk.new w 24 #[.int .i64 t.k, .int .i64 t.n, .slice A t.l.length cap]).alloc (.cells #[.int .i64 0, .int .i64 0, .slice none 0 0] 24)).below hV (by simp <;> omega)))
  have KB1 := Lib.hid (fun (V : World) (hV : Below ((w.alloc (.cells #[.int .i64 t.k, .int .i64 t.n, .slice A t.l.length cap] 24)).alloc (.cells #[.int .i64 0, .int .i64 0, .slice none 0 0] 24)).heap.size ((w.alloc (.cells #[.int .i64 t.k, .int .i64 t.n, .slice A t.l.length cap] 24)).alloc (.cells #[.int .i64 0, .int .i64 0, .slice none 0 0] 24)) V) => (show Bk V (w.heap.size + 1) 24 #[.int .i64 0, .int .i64 0, .slice none 0 0] from (Bk.last (w.alloc (.cells #[.int .i64 t.k, .int .i64 t.n, .slice A t.l.length cap] 24)) 24 #[.int .i64 0, .int .i64 0, .slice none 0 0] (g := w.heap.size + 1) (by simp)).below hV (by simp <;> omega)))
  have CC0 := Lib.hid (fun (V : World) (hV : Below w.heap.size w V) => refShaped_any t lo hi A cap V (h.kept hV hhi) (by have := hV.size; omega))
  obtain ⟨b1, hb1⟩ : ∃ b1, shapedB t = b1 := ⟨_, rfl⟩
  have CC1 := Lib.hid (fun (V : World) (hV : Below w.heap.size w V) => rfits_any N V)
  obtain ⟨b2, hb2⟩ : ∃ b2, fitsB N = b2 := ⟨_, rfl⟩
  have HX0 := Lib.hid (fun (hb : (b1 && b2) = false) => (show bindX t N = (.node 0 0 [], 5) by unfold bindX; rw [hb1, hb2, hb]; rfl))
  have CDN := Lib.hid (fun (hb : (b1 && b2) = true) (p : GP) (V : World) (lo : Nat) (hg : GotIs (putT (bindP N) t 0) p.1 p.2.2.2) (h : IsTerm V lo V.heap.size p.1 p.2.1 p.2.2.1) => (show Calls Tryd.prog 34 #[gotV p] V (GivesAt (bindX t N) lo V) from by
    have e : bindX t N = gotX (putT (bindP N) t 0) := by unfold bindX; rw [hb1, hb2, hb]; rfl
    rw [e]
    exact done_any _ p lo V hg h))
  have CF0 := Lib.hid (fun (hb : (b1 && b2) = true) => (show ∀ V, Below ((w.alloc (.cells #[.int .i64 t.k, .int .i64 t.n, .slice A t.l.length cap] 24)).alloc (.cells #[.int .i64 0, .int .i64 0, .slice none 0 0] 24)).heap.size ((w.alloc (.cells #[.int .i64 t.k, .int .i64 t.n, .slice A t.l.length cap] 24)).alloc (.cells #[.int .i64 0, .int .i64 0, .slice none 0 0] 24)) V → Calls Tryd.prog 44 #[termV t A cap, .int .i64 N, .int .i64 0] V (GivesM (putT (bindP N) t 0) V) from by
    rw [hb1.symm, hb2.symm] at hb
    simp only [Bool.and_eq_true] at hb
    obtain ⟨q1, q2⟩ := hb
    obtain ⟨s1, s2, s3⟩ := shapedB_true.1 q1
    have hN := fitsB_true.1 q2
    intro V hV
    have hV0 := HW.out.trans (hV.mono (by simp <;> omega))
    exact rbind_any N t 0 lo hi A cap V (h.kept hV0 hhi) (by have := hV0.size; omega) s3 (by omega) (by omega)))
  rw [hb1] at CC0
  rw [hb2] at CC1
  obtain ⟨UU, hUU⟩ : ∃ UU, putT (bindP N) t 0 = UU := ⟨_, rfl⟩
  rw [hUU] at CF0 CDN
  unfold GivesM at CF0
  unfold termV at CC0 CF0 ⊢
  obtain ⟨RR, hRR⟩ : ∃ RR, bindX t N = RR := ⟨_, rfl⟩
  rw [hRR] at HX0 CDN ⊢
  clear h hb1 hb2 hRR hhi hUU
  go_enter Tryd.func21, Tryd.ntmps21
  go_wp2_with fail
  refine (CC0.out _ HW.out).mono ?_
  rintro e w0 ⟨rfl, hc0⟩
  have hb0 := Lib.hid ((Below.refl _ _).trans (hc0.mono (Nat.le_refl _)))
  clear hc0
  have b00 : w0.cell? ⟨w.heap.size, 0, none⟩ = some (.int .i64 t.k) := (KB0.out _ hb0.out).cell 0
  have b01 : w0.cell? ⟨w.heap.size, 1, none⟩ = some (.int .i64 t.n) := (KB0.out _ hb0.out).cell 1
  have b02 : w0.cell? ⟨w.heap.size, 2, none⟩ = some (.slice A t.l.length cap) := (KB0.out _ hb0.out).cell 2
  have b10 : w0.cell? ⟨w.heap.size + 1, 0, none⟩ = some (.int .i64 0) := (KB1.out _ hb0.out).cell 0
  have b11 : w0.cell? ⟨w.heap.size + 1, 1, none⟩ = some (.int .i64 0) := (KB1.out _ hb0.out).cell 1
  have b12 : w0.cell? ⟨w.heap.size + 1, 2, none⟩ = some (.slice none 0 0) := (KB1.out _ hb0.out).cell 2
  have hfz : ∀ o, w0.frozen? ⟨w.heap.size + 1, o, none⟩ = false := fun o => (KB1.out _ hb0.out).cold o
  cases b1 with
  | false =>
    have HE := Lib.hid (HX0.out (by simp))
    have B5 := (((KB1.out _ hb0.out).at_ 0 (.int .i64 0)).at_ 1 (.int .i64 0)).at_ 2 (.slice none 0 0)
    have HS0 := Lib.hid (B5.cell 0)
    have HS1 := Lib.hid (B5.cell 1)
    have HS2 := Lib.hid (B5.cell 2)
    have HBF := Lib.hid (HW.out.trans (hb0.out.mono (by simp <;> omega)))
    clear B5
    go_wp2_with fail
    refine bodyPost_ret (v := .tuple #[.agg #[.int .i64 0, .int .i64 0, .slice none 0 0], .int .i64 5]) (by simp [results, Tryd.results21, go_sem, HS0.out, HS1.out, HS2.out]) rfl ?_
    rw [HE.out]
    exact give_zero HBF.out (by omega)
  | true =>
    go_wp2_with fail
    refine (CC1.out _ (HW.out.trans (hb0.out.mono (by simp <;> omega)))).mono ?_
    rintro e w1 ⟨rfl, hc1⟩
    have hb1 := Lib.hid (hb0.out.trans (hc1.mono hb0.out.size))
    clear hc1
    clear b00 b01 b02 b10 b11 b12 hfz
    have b00 : w1.cell? ⟨w.heap.size, 0, none⟩ = some (.int .i64 t.k) := (KB0.out _ hb1.out).cell 0
    have b01 : w1.cell? ⟨w.heap.size, 1, none⟩ = some (.int .i64 t.n) := (KB0.out _ hb1.out).cell 1
    have b02 : w1.cell? ⟨w.heap.size, 2, none⟩ = some (.slice A t.l.length cap) := (KB0.out _ hb1.out).cell 2
    have b10 : w1.cell? ⟨w.heap.size + 1, 0, none⟩ = some (.int .i64 0) := (KB1.out _ hb1.out).cell 0
    have b11 : w1.cell? ⟨w.heap.size + 1, 1, none⟩ = some (.int .i64 0) := (KB1.out _ hb1.out).cell 1
    have b12 : w1.cell? ⟨w.heap.size + 1, 2, none⟩ = some (.slice none 0 0) := (KB1.out _ hb1.out).cell 2
    have hfz : ∀ o, w1.frozen? ⟨w.heap.size + 1, o, none⟩ = false := fun o => (KB1.out _ hb1.out).cold o
    cases b2 with
    | false =>
      have HE := Lib.hid (HX0.out (by simp))
      have B5 := (((KB1.out _ hb1.out).at_ 0 (.int .i64 0)).at_ 1 (.int .i64 0)).at_ 2 (.slice none 0 0)
      have HS0 := Lib.hid (B5.cell 0)
      have HS1 := Lib.hid (B5.cell 1)
      have HS2 := Lib.hid (B5.cell 2)
      have HBF := Lib.hid (HW.out.trans (hb1.out.mono (by simp <;> omega)))
      clear B5
      go_wp2_with fail
      refine bodyPost_ret (v := .tuple #[.agg #[.int .i64 0, .int .i64 0, .slice none 0 0], .int .i64 5]) (by simp [results, Tryd.results21, go_sem, HS0.out, HS1.out, HS2.out]) rfl ?_
      rw [HE.out]
      exact give_zero HBF.out (by omega)
    | true =>
      have CF := Lib.hid (CF0.out rfl)
      have CDN := Lib.hid (CDN.out rfl)
      clear CF0 HX0 CC0 CC1
      obtain ⟨x, c⟩ := RR
      go_wp2_with fail
      refine (CF.out _ hb1.out).mono ?_
      rintro e wf ⟨A5, c5, rfl, hx5, hcf⟩
      have hbf := Lib.hid (hb1.out.trans (hcf.mono hb1.out.size))
      have CD := Lib.hid (CDN.out (UU, A5, c5, false) wf _ (got_self _) hx5)
      have hzf := hcf.size
      clear hx5 hcf b00 b01 b02 b10 b11 b12 hfz
      unfold GivesAt gotV at CD
      go_wp2_with fail
      refine CD.out.mono ?_
      rintro e wd ⟨A4, c4, rfl, hx4, hcd⟩
      have hbd := Lib.hid (hbf.out.trans (hcd.mono hbf.out.size))
      have HBD := Lib.hid (HW.out.trans (hbd.out.mono (by simp <;> omega)))
      have HX4 := Lib.hid hx4
      have HLO : Hid (w.heap.size + 1 < w1.heap.size) := Lib.hid (by have := hb1.out.size; simp at this; omega)
      have K2 := KB1.out _ hbd.out
      have hfz : ∀ o, wd.frozen? ⟨w.heap.size + 1, o, none⟩ = false := fun o => K2.cold o
      have d0 : wd.cell? ⟨w.heap.size + 1, 0, none⟩ = some (.int .i64 0) := K2.cell 0
      have d1 : wd.cell? ⟨w.heap.size + 1, 1, none⟩ = some (.int .i64 0) := K2.cell 1
      have d2 : wd.cell? ⟨w.heap.size + 1, 2, none⟩ = some (.slice none 0 0) := K2.cell 2
      have B5 := ((K2.at_ 0 (.int .i64 x.k)).at_ 1 (.int .i64 x.n)).at_ 2 (.slice A4 x.l.length c4)
      have HS0 := Lib.hid (B5.cell 0)
      have HS1 := Lib.hid (B5.cell 1)
      have HS2 := Lib.hid (B5.cell 2)
      clear B5 K2 hcd hx4
      go_wp2_with fail
      refine bodyPost_ret (v := .tuple #[.agg #[.int .i64 x.k, .int .i64 x.n, .slice A4 x.l.length c4], .int .i64 c]) (by simp [results, Tryd.results21, go_sem, HS0.out, HS1.out, HS2.out]) rfl ?_
      exact give_term HBD.out (by omega) HX4.out HLO.out

end Go.Proofs.YtcobionbgiaomaaDoor
