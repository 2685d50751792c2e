/- The document's own Lift over any term. -/
import Derived.Test.YtodmnollgejgeaaDoorLFacts
import Derived.Test.YtodmnollgejgeaaDoorLMove
import Derived.Test.YtodmnollgejgeaaDoorLBetween
namespace Go.Proofs.YtodmnollgejgeaaDoor
open Go.RowKit
set_option linter.unusedVariables false
set_option maxRecDepth 100000

set_option maxHeartbeats 2000000 in
theorem rlift_any (t : TM) (k n : Int) (lo hi : Nat) (A : Option Addr) (cap : Nat) (w : World) (h : IsTerm w lo hi t A cap) (hhi : hi ≤ w.heap.size) :
    Calls Tryd.prog 29 #[termV t A cap, .int .i64 k, .int .i64 n] w (GivesT (liftX t k n) w) := by
  have HT := Lib.hid (fun (V : World) (hV : Below w.heap.size w V) => h.kept hV hhi)
  have HHI := Lib.hid hhi
  have HW2 := Lib.hid (fun o1 o2 => ((Below.refl w.heap.size w).alloc (Nat.le_refl _) o1).alloc (by simp) o2)
  have HBT := Lib.hid (fun (V : World) (hV : Below ((w.alloc (.cells #[.int .i64 t.k, .int .i64 t.n, .slice A t.l.length cap] 24)).alloc (.cells #[.int .i64 0, .int .i64 0, .slice none 0 0] 24)).heap.size ((w.alloc (.cells #[.int .i64 t.k, .int .i64 t.n, .slice A t.l.length cap] 24)).alloc (.cells #[.int .i64 0, .int .i64 0, .slice none 0 0] 24)) V) => (show TBox V w.heap.size t.k t.n (.slice A t.l.length cap) from TBox.of (((Bk.new w 24 _).alloc (.cells #[.int .i64 0, .int .i64 0, .slice none 0 0] 24)).below hV (by simp <;> omega))))
  have HBZ := Lib.hid (fun (V : World) (hV : Below ((w.alloc (.cells #[.int .i64 t.k, .int .i64 t.n, .slice A t.l.length cap] 24)).alloc (.cells #[.int .i64 0, .int .i64 0, .slice none 0 0] 24)).heap.size ((w.alloc (.cells #[.int .i64 t.k, .int .i64 t.n, .slice A t.l.length cap] 24)).alloc (.cells #[.int .i64 0, .int .i64 0, .slice none 0 0] 24)) V) => (show Bk V (w.heap.size + 1) 24 #[.int .i64 0, .int .i64 0, .slice none 0 0] from (Bk.last (w.alloc (.cells #[.int .i64 t.k, .int .i64 t.n, .slice A t.l.length cap] 24)) 24 #[.int .i64 0, .int .i64 0, .slice none 0 0] (by simp)).below hV (by simp)))
  have SH := Lib.hid (fun (V : World) (hV : Below w.heap.size w V) => refShaped_any t lo hi A cap V (HT.out V hV) (by have := hV.size; have := HHI.out; omega))
  cases hs : shapedB t with
  | false =>
    have SH := Lib.hid (fun (V : World) (hV : Below w.heap.size w V) => (show Calls Tryd.prog 11 #[termV t A cap] V fun e w' => e = .returned (.bool false) ∧ Below V.heap.size V w' from by have := SH.out V hV; rw [hs] at this; exact this))
    have HE := Lib.hid (show liftX t k n = (.node 0 0 [], 5) by rw [liftX_eq, hs]; simp)
    clear h hhi hs
    unfold termV at SH ⊢
    go_enter Tryd.func29, Tryd.ntmps29
    go_wp2_with fail
    refine (SH.out _ (HW2.out _ _)).mono ?_
    rintro e w1 ⟨rfl, hb⟩
    have hz1 := hb.size
    simp at hz1
    have HB := Lib.hid ((HW2.out _ _).trans (hb.mono (by simp <;> omega)))
    have BT := Lib.hid (HBT.out _ hb)
    have BZ := Lib.hid (HBZ.out _ hb)
    clear hb
    have hfz : ∀ o, w1.frozen? ⟨w.heap.size + 1, o, none⟩ = false := fun o => BZ.out.cold o
    have d0 : w1.cell? ⟨w.heap.size + 1, 0, none⟩ = some (.int .i64 0) := BZ.out.cell 0
    have d1 : w1.cell? ⟨w.heap.size + 1, 1, none⟩ = some (.int .i64 0) := BZ.out.cell 1
    have d2 : w1.cell? ⟨w.heap.size + 1, 2, none⟩ = some (.slice none 0 0) := BZ.out.cell 2
    have B5 := ((BZ.out.at_ 0 (.int .i64 0)).at_ 1 (.int .i64 0)).at_ 2 (.slice none 0 0)
    have HS0 := Lib.hid (B5.cell 0)
    have HS1 := Lib.hid (B5.cell 1)
    have HS2 := Lib.hid (B5.cell 2)
    clear B5
    go_wp2_with fail
    refine bodyPost_ret (v := .tuple #[.agg #[.int .i64 0, .int .i64 0, .slice none 0 0], .int .i64 5]) (by simp [results, Tryd.results29, go_sem, HS0.out, HS1.out, HS2.out]) rfl ?_
    rw [HE.out]
    exact give_zero HB.out (by omega)
  | true =>
    have SH := Lib.hid (fun (V : World) (hV : Below w.heap.size w V) => (show Calls Tryd.prog 11 #[termV t A cap] V fun e w' => e = .returned (.bool true) ∧ Below V.heap.size V w' from by have := SH.out V hV; rw [hs] at this; exact this))
    cases hk : fitsB k with
    | false =>
      have Fk := Lib.hid (fun (V : World) => (show Calls Tryd.prog 61 #[.int .i64 k] V fun e w' => e = .returned (.bool false) ∧ Below V.heap.size V w' from by have h1 : (decide (0 ≤ k) && decide (k ≤ 1048576)) = false := hk; have h2 := rfits_any k V; rw [h1] at h2; exact h2))
      have HE := Lib.hid (show liftX t k n = (.node 0 0 [], 5) by rw [liftX_eq, hk]; rfl)
      clear h hhi hs hk
      unfold termV at SH ⊢
      go_enter Tryd.func29, Tryd.ntmps29
      go_wp2_with fail
      refine (SH.out _ (HW2.out _ _)).mono ?_
      rintro e w1 ⟨rfl, hb⟩
      have hz1 := hb.size
      simp at hz1
      have HB := Lib.hid ((HW2.out _ _).trans (hb.mono (by simp <;> omega)))
      have BT := Lib.hid (HBT.out _ hb)
      have BZ := Lib.hid (HBZ.out _ hb)
      clear hb
      go_wp2_with fail
      refine (Fk.out _).mono ?_
      rintro e w2 ⟨rfl, hb⟩
      have hj := hb
      have hz2 := hj.size
      have HB := Lib.hid (HB.out.trans (hj.mono HB.out.size))
      have BT := Lib.hid (BT.out.kept hj BT.out.lt)
      have BZ := Lib.hid (BZ.out.below hj BZ.out.lt)
      clear hj
      clear hb
      have hfz : ∀ o, w2.frozen? ⟨w.heap.size + 1, o, none⟩ = false := fun o => BZ.out.cold o
      have d0 : w2.cell? ⟨w.heap.size + 1, 0, none⟩ = some (.int .i64 0) := BZ.out.cell 0
      have d1 : w2.cell? ⟨w.heap.size + 1, 1, none⟩ = some (.int .i64 0) := BZ.out.cell 1
      have d2 : w2.cell? ⟨w.heap.size + 1, 2, none⟩ = some (.slice none 0 0) := BZ.out.cell 2
      have B5 := ((BZ.out.at_ 0 (.int .i64 0)).at_ 1 (.int .i64 0)).at_ 2 (.slice none 0 0)
      have HS0 := Lib.hid (B5.cell 0)
      have HS1 := Lib.hid (B5.cell 1)
      have HS2 := Lib.hid (B5.cell 2)
      clear B5
      go_wp2_with fail
      refine bodyPost_ret (v := .tuple #[.agg #[.int .i64 0, .int .i64 0, .slice none 0 0], .int .i64 5]) (by simp [results, Tryd.results29, go_sem, HS0.out, HS1.out, HS2.out]) rfl ?_
      rw [HE.out]
      exact give_zero HB.out (by omega)
    | true =>
      have Fk := Lib.hid (fun (V : World) => (show Calls Tryd.prog 61 #[.int .i64 k] V fun e w' => e = .returned (.bool true) ∧ Below V.heap.size V w' from by have h1 : (decide (0 ≤ k) && decide (k ≤ 1048576)) = true := hk; have h2 := rfits_any k V; rw [h1] at h2; exact h2))
      cases hn : fitsB n with
      | false =>
        have Fn := Lib.hid (fun (V : World) => (show Calls Tryd.prog 61 #[.int .i64 n] V fun e w' => e = .returned (.bool false) ∧ Below V.heap.size V w' from by have h1 : (decide (0 ≤ n) && decide (n ≤ 1048576)) = false := hn; have h2 := rfits_any n V; rw [h1] at h2; exact h2))
        have HE := Lib.hid (show liftX t k n = (.node 0 0 [], 5) by rw [liftX_eq, hk, hn]; rfl)
        clear h hhi hs hk hn
        unfold termV at SH ⊢
        go_enter Tryd.func29, Tryd.ntmps29
        go_wp2_with fail
        refine (SH.out _ (HW2.out _ _)).mono ?_
        rintro e w1 ⟨rfl, hb⟩
        have hz1 := hb.size
        simp at hz1
        have HB := Lib.hid ((HW2.out _ _).trans (hb.mono (by simp <;> omega)))
        have BT := Lib.hid (HBT.out _ hb)
        have BZ := Lib.hid (HBZ.out _ hb)
        clear hb
        go_wp2_with fail
        refine (Fk.out _).mono ?_
        rintro e w2 ⟨rfl, hb⟩
        have hj := hb
        have hz2 := hj.size
        have HB := Lib.hid (HB.out.trans (hj.mono HB.out.size))
        have BT := Lib.hid (BT.out.kept hj BT.out.lt)
        have BZ := Lib.hid (BZ.out.below hj BZ.out.lt)
        clear hj
        clear hb
        go_wp2_with fail
        refine (Fn.out _).mono ?_
        rintro e w3 ⟨rfl, hb⟩
        have hj := hb
        have hz3 := hj.size
        have HB := Lib.hid (HB.out.trans (hj.mono HB.out.size))
        have BT := Lib.hid (BT.out.kept hj BT.out.lt)
        have BZ := Lib.hid (BZ.out.below hj BZ.out.lt)
        clear hj
        clear hb
        have hfz : ∀ o, w3.frozen? ⟨w.heap.size + 1, o, none⟩ = false := fun o => BZ.out.cold o
        have d0 : w3.cell? ⟨w.heap.size + 1, 0, none⟩ = some (.int .i64 0) := BZ.out.cell 0
        have d1 : w3.cell? ⟨w.heap.size + 1, 1, none⟩ = some (.int .i64 0) := BZ.out.cell 1
        have d2 : w3.cell? ⟨w.heap.size + 1, 2, none⟩ = some (.slice none 0 0) := BZ.out.cell 2
        have B5 := ((BZ.out.at_ 0 (.int .i64 0)).at_ 1 (.int .i64 0)).at_ 2 (.slice none 0 0)
        have HS0 := Lib.hid (B5.cell 0)
        have HS1 := Lib.hid (B5.cell 1)
        have HS2 := Lib.hid (B5.cell 2)
        clear B5
        go_wp2_with fail
        refine bodyPost_ret (v := .tuple #[.agg #[.int .i64 0, .int .i64 0, .slice none 0 0], .int .i64 5]) (by simp [results, Tryd.results29, go_sem, HS0.out, HS1.out, HS2.out]) rfl ?_
        rw [HE.out]
        exact give_zero HB.out (by omega)
      | true =>
        have Fn := Lib.hid (fun (V : World) => (show Calls Tryd.prog 61 #[.int .i64 n] V fun e w' => e = .returned (.bool true) ∧ Below V.heap.size V w' from by have h1 : (decide (0 ≤ n) && decide (n ≤ 1048576)) = true := hn; have h2 := rfits_any n V; rw [h1] at h2; exact h2))
        obtain ⟨s1, s2, s3⟩ := shapedB_true.1 hs
        obtain ⟨k1, k2⟩ := fitsB_true.1 hk
        obtain ⟨n1, n2⟩ := fitsB_true.1 hn
        have CM := Lib.hid (fun (V : World) (hV : Below w.heap.size w V) => move_any k (by omega) (by omega) t n lo hi A cap V (HT.out V hV) (by have := hV.size; have := HHI.out; omega) s3 n1 (by omega))
        have hms := moveT_shaped (y := k) (m := n) hs
        have hLX := liftX_eq t k n
        rw [hk, hn, hs, ← hms] at hLX
        obtain ⟨x, hx⟩ : ∃ x, moveT k t n = x := ⟨_, rfl⟩
        rw [hx] at CM hLX
        have SX := Lib.hid (fun (V : World) (lo hi : Nat) (A' : Option Addr) (cap' : Nat) (h1 : IsTerm V lo hi x A' cap') (h2 : hi ≤ V.heap.size) => refShaped_any x lo hi A' cap' V h1 h2)
        cases hg : shapedB x with
        | false =>
          have HE := Lib.hid (show liftX t k n = (.node 0 0 [], 2) by rw [hLX, hg]; rfl)
          rw [hg] at SX
          clear h hhi hs hk hn s1 s2 s3 k1 k2 n1 n2 hms hLX hx hg
          unfold termV at SH CM SX ⊢
          go_enter Tryd.func29, Tryd.ntmps29
          go_wp2_with fail
          refine (SH.out _ (HW2.out _ _)).mono ?_
          rintro e w1 ⟨rfl, hb⟩
          have hz1 := hb.size
          simp at hz1
          have HB := Lib.hid ((HW2.out _ _).trans (hb.mono (by simp <;> omega)))
          have BT := Lib.hid (HBT.out _ hb)
          have BZ := Lib.hid (HBZ.out _ hb)
          clear hb
          go_wp2_with fail
          refine (Fk.out _).mono ?_
          rintro e w2 ⟨rfl, hb⟩
          have hj := hb
          have hz2 := hj.size
          have HB := Lib.hid (HB.out.trans (hj.mono HB.out.size))
          have BT := Lib.hid (BT.out.kept hj BT.out.lt)
          have BZ := Lib.hid (BZ.out.below hj BZ.out.lt)
          clear hj
          clear hb
          go_wp2_with fail
          refine (Fn.out _).mono ?_
          rintro e w3 ⟨rfl, hb⟩
          have hj := hb
          have hz3 := hj.size
          have HB := Lib.hid (HB.out.trans (hj.mono HB.out.size))
          have BT := Lib.hid (BT.out.kept hj BT.out.lt)
          have BZ := Lib.hid (BZ.out.below hj BZ.out.lt)
          clear hj
          clear hb
          obtain ⟨x0, x1, x2, xl⟩ := BT.out
          go_wp2_with fail
          refine (CM.out _ HB.out).mono ?_
          rintro e w4 ⟨A', cap', rfl, hx, hb⟩
          rw [termV]
          have hj := hb
          have hz4 := hj.size
          have HB := Lib.hid (HB.out.trans (hj.mono HB.out.size))
          have BT := Lib.hid (BT.out.kept hj BT.out.lt)
          have BZ := Lib.hid (BZ.out.below hj BZ.out.lt)
          clear hj
          have HX := Lib.hid hx
          clear hx
          clear hb x0 x1 x2 xl
          go_wp2_with fail
          refine (SX.out _ _ _ A' cap' (HX.out.kept ((Below.refl w4.heap.size w4).alloc (Nat.le_refl _) _) (Nat.le_refl _)) (by simp)).mono ?_
          rintro e w5 ⟨rfl, hb⟩
          have hj := ((Below.refl w4.heap.size w4).alloc (Nat.le_refl _) (.cells #[.int .i64 x.k, .int .i64 x.n, .slice A' x.l.length cap'] 24)).trans (hb.mono (by simp))
          have XB := Lib.hid (show TBox w5 w4.heap.size x.k x.n (.slice A' x.l.length cap') from TBox.of ((Bk.new w4 24 _).below hb (by simp)))
          have HX := Lib.hid (HX.out.kept hj (Nat.le_refl _))
          have hz5 := hj.size
          have HB := Lib.hid (HB.out.trans (hj.mono HB.out.size))
          have BT := Lib.hid (BT.out.kept hj BT.out.lt)
          have BZ := Lib.hid (BZ.out.below hj BZ.out.lt)
          clear hj
          clear hb
          have hfz : ∀ o, w5.frozen? ⟨w.heap.size + 1, o, none⟩ = false := fun o => BZ.out.cold o
          have d0 : w5.cell? ⟨w.heap.size + 1, 0, none⟩ = some (.int .i64 0) := BZ.out.cell 0
          have d1 : w5.cell? ⟨w.heap.size + 1, 1, none⟩ = some (.int .i64 0) := BZ.out.cell 1
          have d2 : w5.cell? ⟨w.heap.size + 1, 2, none⟩ = some (.slice none 0 0) := BZ.out.cell 2
          have B5 := ((BZ.out.at_ 0 (.int .i64 0)).at_ 1 (.int .i64 0)).at_ 2 (.slice none 0 0)
          have HS0 := Lib.hid (B5.cell 0)
          have HS1 := Lib.hid (B5.cell 1)
          have HS2 := Lib.hid (B5.cell 2)
          clear B5
          go_wp2_with fail
          refine bodyPost_ret (v := .tuple #[.agg #[.int .i64 0, .int .i64 0, .slice none 0 0], .int .i64 2]) (by simp [results, Tryd.results29, go_sem, HS0.out, HS1.out, HS2.out]) rfl ?_
          rw [HE.out]
          exact give_zero HB.out (by omega)
        | true =>
          have HE := Lib.hid (show liftX t k n = (x, 0) by rw [hLX, hg]; rfl)
          rw [hg] at SX
          clear h hhi hs hk hn s1 s2 s3 k1 k2 n1 n2 hms hLX hx hg
          unfold termV at SH CM SX ⊢
          go_enter Tryd.func29, Tryd.ntmps29
          go_wp2_with fail
          refine (SH.out _ (HW2.out _ _)).mono ?_
          rintro e w1 ⟨rfl, hb⟩
          have hz1 := hb.size
          simp at hz1
          have HB := Lib.hid ((HW2.out _ _).trans (hb.mono (by simp <;> omega)))
          have BT := Lib.hid (HBT.out _ hb)
          have BZ := Lib.hid (HBZ.out _ hb)
          clear hb
          go_wp2_with fail
          refine (Fk.out _).mono ?_
          rintro e w2 ⟨rfl, hb⟩
          have hj := hb
          have hz2 := hj.size
          have HB := Lib.hid (HB.out.trans (hj.mono HB.out.size))
          have BT := Lib.hid (BT.out.kept hj BT.out.lt)
          have BZ := Lib.hid (BZ.out.below hj BZ.out.lt)
          clear hj
          clear hb
          go_wp2_with fail
          refine (Fn.out _).mono ?_
          rintro e w3 ⟨rfl, hb⟩
          have hj := hb
          have hz3 := hj.size
          have HB := Lib.hid (HB.out.trans (hj.mono HB.out.size))
          have BT := Lib.hid (BT.out.kept hj BT.out.lt)
          have BZ := Lib.hid (BZ.out.below hj BZ.out.lt)
          clear hj
          clear hb
          obtain ⟨x0, x1, x2, xl⟩ := BT.out
          go_wp2_with fail
          refine (CM.out _ HB.out).mono ?_
          rintro e w4 ⟨A', cap', rfl, hx, hb⟩
          rw [termV]
          have hj := hb
          have hz4 := hj.size
          have HB := Lib.hid (HB.out.trans (hj.mono HB.out.size))
          have BT := Lib.hid (BT.out.kept hj BT.out.lt)
          have BZ := Lib.hid (BZ.out.below hj BZ.out.lt)
          clear hj
          have HX := Lib.hid hx
          clear hx
          clear hb x0 x1 x2 xl
          go_wp2_with fail
          refine (SX.out _ _ _ A' cap' (HX.out.kept ((Below.refl w4.heap.size w4).alloc (Nat.le_refl _) _) (Nat.le_refl _)) (by simp)).mono ?_
          rintro e w5 ⟨rfl, hb⟩
          have hj := ((Below.refl w4.heap.size w4).alloc (Nat.le_refl _) (.cells #[.int .i64 x.k, .int .i64 x.n, .slice A' x.l.length cap'] 24)).trans (hb.mono (by simp))
          have XB := Lib.hid (show TBox w5 w4.heap.size x.k x.n (.slice A' x.l.length cap') from TBox.of ((Bk.new w4 24 _).below hb (by simp)))
          have HX := Lib.hid (HX.out.kept hj (Nat.le_refl _))
          have hz5 := hj.size
          have HB := Lib.hid (HB.out.trans (hj.mono HB.out.size))
          have BT := Lib.hid (BT.out.kept hj BT.out.lt)
          have BZ := Lib.hid (BZ.out.below hj BZ.out.lt)
          clear hj
          clear hb
          obtain ⟨y0, y1, y2, yl⟩ := XB.out
          have hfz : ∀ o, w5.frozen? ⟨w.heap.size + 1, o, none⟩ = false := fun o => BZ.out.cold o
          have d0 : w5.cell? ⟨w.heap.size + 1, 0, none⟩ = some (.int .i64 0) := BZ.out.cell 0
          have d1 : w5.cell? ⟨w.heap.size + 1, 1, none⟩ = some (.int .i64 0) := BZ.out.cell 1
          have d2 : w5.cell? ⟨w.heap.size + 1, 2, none⟩ = some (.slice none 0 0) := BZ.out.cell 2
          have B5 := ((BZ.out.at_ 0 (.int .i64 x.k)).at_ 1 (.int .i64 x.n)).at_ 2 (.slice A' x.l.length cap')
          have HS0 := Lib.hid (B5.cell 0)
          have HS1 := Lib.hid (B5.cell 1)
          have HS2 := Lib.hid (B5.cell 2)
          clear B5
          go_wp2_with fail
          refine bodyPost_ret (v := .tuple #[.agg #[.int .i64 x.k, .int .i64 x.n, .slice A' x.l.length cap'], .int .i64 0]) (by simp [results, Tryd.results29, go_sem, HS0.out, HS1.out, HS2.out]) rfl ?_
          rw [HE.out]
          exact give_term HB.out (by omega) (HX.out.wide (Nat.le_refl _) (by omega)) (by omega)

end Go.Proofs.YtodmnollgejgeaaDoor
