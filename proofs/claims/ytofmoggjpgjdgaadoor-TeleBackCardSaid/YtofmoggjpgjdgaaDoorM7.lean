/- subst.shaped, subst.first. -/
import Derived.Test.YtofmoggjpgjdgaaDoorUChg
import Derived.Test.YtofmoggjpgjdgaaDoorUFair
import Derived.Deep.RegionLaw
namespace Go.Proofs.YtofmoggjpgjdgaaDoor
open Go.RowKit
set_option linter.unusedVariables false
set_option maxRecDepth 100000

def ShpRel (w : World) (ls : List TM) (iv : Value) (wr : World) : Prop := ∃ i : Nat, i ≤ ls.length ∧ iv = .int .i64 i ∧ Below w.heap.size w wr ∧ (ls.take i).all shapedB = true
set_option maxHeartbeats 1000000 in
theorem sshaped_any (ls : List TM) (lo hi : Nat) (A : Option Addr) (cap : Nat) (w : World) (h : IsTerm w lo hi (.node 0 0 ls) A cap) (hhi : hi ≤ w.heap.size) (hS : ShapesM w) :
    Calls Tryd.prog 56 #[.slice A ls.length cap] w fun e w' => e = .returned (.bool (ls.all shapedB)) ∧ Below w.heap.size w w' := by
  have HN := Lib.hid h.sub
  have HSS := Lib.hid hS
  obtain ⟨hl, hm⟩ := h.bounds
  unfold maxLen at hm
  clear h hS
  go_enter Tryd.func56, Tryd.ntmps56
  go_wp2_with fail
  go_loopw [7] (ShpRel w ls) (fun iv _ => ls.length - (intOf iv).toNat)
  case atStart => exact ⟨0, Nat.zero_le _, rfl, Below.refl _ _, rfl⟩
  case round =>
    obtain ⟨i, hi1, rfl, hB, hall⟩ := hrel
    have hz := hB.size
    by_cases hil : i < ls.length
    · obtain ⟨b, o, F, C, rfl, hb1, hb2, hx, hnode⟩ := (HN.out i hil).kept hB hhi
      obtain ⟨x0, x1, x2⟩ := hx
      have hst : (ls.take (i + 1)).all shapedB = shapedB ls[i] := by
        rw [List.take_succ_eq_append_getElem hil, List.all_append, hall]; simp
      have hno : shapedB ls[i] = false → ls.all shapedB = false := fun h => by
        cases e : ls.all shapedB with
        | false => rfl
        | true =>
          rw [List.all_eq_true] at e
          have := e _ (List.getElem_mem hil)
          rw [h] at this; cases this
      obtain ⟨u, hu⟩ : ∃ u, ls[i] = u := ⟨_, rfl⟩
      rw [hu] at hst hno hnode x0 x1 x2
      have HC := Lib.hid (shaped_any u lo hi F C (wr.alloc (.cells #[.int .i64 u.k, .int .i64 u.n, .slice F u.l.length C] 24)) (hnode.alloc (by omega) _) (by simp; omega) (HSS.out.kept (hB.alloc hz _)))
      obtain ⟨bx, hbx⟩ : ∃ bx, shapedB u = bx := ⟨_, rfl⟩
      rw [hbx] at hst hno HC
      have HST := Lib.hid hst
      have HNO := Lib.hid hno
      have HBW := Lib.hid (hB.alloc hz (.cells #[.int .i64 u.k, .int .i64 u.n, .slice F u.l.length C] 24))
      have hi1' : (i : Int) < (ls.length : Int) := by omega
      unfold termV at HC
      clear hst hno hbx hu hall hnode
      go_wp2_with fail
      refine HC.out.mono ?_
      rintro e w1 ⟨rfl, hb1⟩
      have HB1 := Lib.hid (HBW.out.trans (hb1.mono (by simp; omega)))
      clear hb1
      cases bx with
      | false =>
        have HF := Lib.hid (HNO.out rfl)
        go_wp2_with fail
        go_ret
        exact ⟨by rw [HF.out]; rfl, HB1.out⟩
      | true =>
        go_wp2_with fail
        go_roundw
        case rel => exact ⟨i + 1, by omega, rfl, HB1.out, HST.out⟩
        case measure => simp [intOf]; omega
    · obtain rfl : i = ls.length := by omega
      rw [List.take_length] at hall
      have HA := Lib.hid hall
      clear hall
      go_wp2_with fail
      go_ret
      exact ⟨by rw [HA.out]; rfl, hB⟩

theorem sfirst_any (A : Option Addr) (n cap : Nat) (w : World) : Calls Tryd.prog 58 #[.slice A n cap] w fun e w' => e = .returned (.func (.func 72) #[] #[.pointer (some ⟨w.heap.size, 0, none⟩)]) ∧ w' = w.alloc (.cells #[.slice A n cap] 22) := by
  go_enter Tryd.func58, Tryd.ntmps58
  go_wp2_with fail
  go_ret
  exact ⟨rfl, rfl⟩

end Go.Proofs.YtofmoggjpgjdgaaDoor

/- subst.At, Named, Bind: the guards, and what becomes of the variables. -/
namespace Go.Proofs.YtofmoggjpgjdgaaDoor
open Go.RowKit
set_option linter.unusedVariables false
set_option maxRecDepth 100000

end Go.Proofs.YtofmoggjpgjdgaaDoor

/- subst.Many: the guards, and what becomes of the variables. -/
namespace Go.Proofs.YtofmoggjpgjdgaaDoor
open Go.RowKit
set_option linter.unusedVariables false
set_option maxRecDepth 100000

/-- The rows of terms that go on being so, with the closure that holds them. -/
theorem bec_first (gb : Nat) (ls : List TM) (lo2 hi2 : Nat) (L : Option Addr) (capL : Nat) (w : World) (h2 : IsTerm w lo2 hi2 (.node 0 0 ls) L capL) (hhi2 : hi2 ≤ w.heap.size) (hl4 : ls.length ≤ 4000000000) (hS : ShapesM w)
    (hc : w.cell? ⟨gb, 0, none⟩ = some (.slice L ls.length capL)) : BecCalls 72 #[.pointer (some ⟨gb, 0, none⟩)] (firstG ls) w := fun k n b V hV hv => by
  have hgb : gb < w.heap.size := World.block_lt_of_cell? w _ hc
  exact cl_first gb ls k n b lo2 hi2 L capL V ((hV.cell (p := ⟨gb, 0, none⟩) hgb).trans hc) (h2.kept hV hhi2) (by have := hV.size; omega) (hS.kept hV) hl4 hv

set_option maxHeartbeats 2000000 in
theorem manyc_any (t : TM) (lo hi : Nat) (A : Option Addr) (cap : Nat) (ls : List TM) (lo2 hi2 : Nat) (L : Option Addr) (capL : Nat) (w : World) (h : IsTerm w lo hi t A cap) (hhi : hi ≤ w.heap.size) (h2 : IsTerm w lo2 hi2 (.node 0 0 ls) L capL) (hhi2 : hi2 ≤ w.heap.size) (hl4 : ls.length ≤ 4000000000) (hS : ShapesM w) :
    Calls Tryd.prog 38 #[termV t A cap, .slice L ls.length capL] w (GivesT (manyX t ls) w) := by
  have HW := Lib.hid (show Below w.heap.size w ((w.alloc (.cells #[.int .i64 t.k, .int .i64 t.n, .slice A t.l.length cap] 24)).alloc (.cells #[.int .i64 0, .int .i64 0, .slice none 0 0] 24)) from ((Below.refl w.heap.size w).alloc (by simp <;> omega) (.cells #[.int .i64 t.k, .int .i64 t.n, .slice A t.l.length cap] 24)).alloc (by simp <;> omega) (.cells #[.int .i64 0, .int .i64 0, .slice none 0 0] 24))
  have KB0 := Lib.hid (fun (V : World) (hV : Below ((w.alloc (.cells #[.int .i64 t.k, .int .i64 t.n, .slice A t.l.length cap] 24)).alloc (.cells #[.int .i64 0, .int .i64 0, .slice none 0 0] 24)).heap.size ((w.alloc (.cells #[.int .i64 t.k, .int .i64 t.n, .slice A t.l.length cap] 24)).alloc (.cells #[.int .i64 0, .int .i64 0, .slice none 0 0] 24)) V) => (show Bk V (w.heap.size + 0) 24 #[.int .i64 t.k, .int .i64 t.n, .slice A t.l.length cap] from ((Bk.new w 24 #[.int .i64 t.k, .int .i64 t.n, .slice A t.l.length cap]).alloc (.cells #[.int .i64 0, .int .i64 0, .slice none 0 0] 24)).below hV (by simp <;> omega)))
  have KB1 := Lib.hid (fun (V : World) (hV : Below ((w.alloc (.cells #[.int .i64 t.k, .int .i64 t.n, .slice A t.l.length cap] 24)).alloc (.cells #[.int .i64 0, .int .i64 0, .slice none 0 0] 24)).heap.size ((w.alloc (.cells #[.int .i64 t.k, .int .i64 t.n, .slice A t.l.length cap] 24)).alloc (.cells #[.int .i64 0, .int .i64 0, .slice none 0 0] 24)) V) => (show Bk V (w.heap.size + 1) 24 #[.int .i64 0, .int .i64 0, .slice none 0 0] from (Bk.last (w.alloc (.cells #[.int .i64 t.k, .int .i64 t.n, .slice A t.l.length cap] 24)) 24 #[.int .i64 0, .int .i64 0, .slice none 0 0] (g := w.heap.size + 1) (by simp)).below hV (by simp <;> omega)))
  have CC0 := Lib.hid (fun (V : World) (hV : Below w.heap.size w V) => shaped_any t lo hi A cap V (h.kept hV hhi) (by have := hV.size; omega) (hS.kept hV))
  obtain ⟨b1, hb1⟩ : ∃ b1, shapedB t = b1 := ⟨_, rfl⟩
  have CC1 := Lib.hid (fun (V : World) (hV : Below w.heap.size w V) => sshaped_any ls lo2 hi2 L capL V (h2.kept hV hhi2) (by have := hV.size; omega) (hS.kept hV))
  obtain ⟨b2, hb2⟩ : ∃ b2, ls.all shapedB = b2 := ⟨_, rfl⟩
  have HX0 := Lib.hid (fun (hb : (b1 && b2) = false) => (show manyX t ls = (.node 0 0 [], 5) by unfold manyX; rw [hb1, hb2, hb]; rfl))
  have CF0 := Lib.hid (fun (hb : (b1 && b2) = true) => (show ∀ V gb, Below ((w.alloc (.cells #[.int .i64 t.k, .int .i64 t.n, .slice A t.l.length cap] 24)).alloc (.cells #[.int .i64 0, .int .i64 0, .slice none 0 0] 24)).heap.size ((w.alloc (.cells #[.int .i64 t.k, .int .i64 t.n, .slice A t.l.length cap] 24)).alloc (.cells #[.int .i64 0, .int .i64 0, .slice none 0 0] 24)) V → V.cell? ⟨gb, 0, none⟩ = some (.slice L ls.length capL) → Calls Tryd.prog 57 #[termV t A cap, .func (.func 72) #[] #[.pointer (some ⟨gb, 0, none⟩)]] V (GivesT (manyX t ls) V) from by
    rw [hb1.symm, hb2.symm] at hb
    have hc := hb
    simp only [Bool.and_eq_true] at hb
    obtain ⟨q1, q2⟩ := hb
    have e : manyX t ls = changedX (firstG ls) t := by unfold manyX; rw [hc, if_pos rfl, changedX_eq (fair_first q2) q1]
    rw [e]
    intro V gb hV hgb
    have hV0 := HW.out.trans (hV.mono (by simp <;> omega))
    exact changed_first gb _ t lo hi A cap V (h.kept hV0 hhi) (by have := hV0.size; omega) (hS.kept hV0) q1 (bec_first gb ls lo2 hi2 L capL V (h2.kept hV0 hhi2) (by have := hV0.size; omega) hl4 (hS.kept hV0) hgb)))
  rw [hb1] at CC0
  rw [hb2] at CC1
  unfold termV at CC0 CF0 ⊢
  obtain ⟨RR, hRR⟩ : ∃ RR, manyX t ls = RR := ⟨_, rfl⟩
  rw [hRR] at HX0 CF0 ⊢
  clear h h2 hS hb1 hb2 hRR hhi hhi2 hl4
  go_enter Tryd.func38, Tryd.ntmps38
  go_wp2_with fail
  refine (CC0.out _ HW.out).mono ?_
  rintro e w0 ⟨rfl, hc0⟩
  have hb0 := Lib.hid ((Below.refl _ _).trans (hc0.mono (Nat.le_refl _)))
  clear hc0
  have b00 : w0.cell? ⟨w.heap.size, 0, none⟩ = some (.int .i64 t.k) := (KB0.out _ hb0.out).cell 0
  have b01 : w0.cell? ⟨w.heap.size, 1, none⟩ = some (.int .i64 t.n) := (KB0.out _ hb0.out).cell 1
  have b02 : w0.cell? ⟨w.heap.size, 2, none⟩ = some (.slice A t.l.length cap) := (KB0.out _ hb0.out).cell 2
  have b10 : w0.cell? ⟨w.heap.size + 1, 0, none⟩ = some (.int .i64 0) := (KB1.out _ hb0.out).cell 0
  have b11 : w0.cell? ⟨w.heap.size + 1, 1, none⟩ = some (.int .i64 0) := (KB1.out _ hb0.out).cell 1
  have b12 : w0.cell? ⟨w.heap.size + 1, 2, none⟩ = some (.slice none 0 0) := (KB1.out _ hb0.out).cell 2
  have hfz : ∀ o, w0.frozen? ⟨w.heap.size + 1, o, none⟩ = false := fun o => (KB1.out _ hb0.out).cold o
  cases b1 with
  | false =>
    have HE := Lib.hid (HX0.out (by simp))
    have B5 := (((KB1.out _ hb0.out).at_ 0 (.int .i64 0)).at_ 1 (.int .i64 0)).at_ 2 (.slice none 0 0)
    have HS0 := Lib.hid (B5.cell 0)
    have HS1 := Lib.hid (B5.cell 1)
    have HS2 := Lib.hid (B5.cell 2)
    have HBF := Lib.hid (HW.out.trans (hb0.out.mono (by simp <;> omega)))
    clear B5
    go_wp2_with fail
    refine bodyPost_ret (v := .tuple #[.agg #[.int .i64 0, .int .i64 0, .slice none 0 0], .int .i64 5]) (by simp [results, Tryd.results38, go_sem, HS0.out, HS1.out, HS2.out]) rfl ?_
    rw [HE.out]
    exact give_zero HBF.out (by omega)
  | true =>
    go_wp2_with fail
    refine (CC1.out _ (HW.out.trans (hb0.out.mono (by simp <;> omega)))).mono ?_
    rintro e w1 ⟨rfl, hc1⟩
    have hb1 := Lib.hid (hb0.out.trans (hc1.mono hb0.out.size))
    clear hc1
    clear b00 b01 b02 b10 b11 b12 hfz
    have b00 : w1.cell? ⟨w.heap.size, 0, none⟩ = some (.int .i64 t.k) := (KB0.out _ hb1.out).cell 0
    have b01 : w1.cell? ⟨w.heap.size, 1, none⟩ = some (.int .i64 t.n) := (KB0.out _ hb1.out).cell 1
    have b02 : w1.cell? ⟨w.heap.size, 2, none⟩ = some (.slice A t.l.length cap) := (KB0.out _ hb1.out).cell 2
    have b10 : w1.cell? ⟨w.heap.size + 1, 0, none⟩ = some (.int .i64 0) := (KB1.out _ hb1.out).cell 0
    have b11 : w1.cell? ⟨w.heap.size + 1, 1, none⟩ = some (.int .i64 0) := (KB1.out _ hb1.out).cell 1
    have b12 : w1.cell? ⟨w.heap.size + 1, 2, none⟩ = some (.slice none 0 0) := (KB1.out _ hb1.out).cell 2
    have hfz : ∀ o, w1.frozen? ⟨w.heap.size + 1, o, none⟩ = false := fun o => (KB1.out _ hb1.out).cold o
    cases b2 with
    | false =>
      have HE := Lib.hid (HX0.out (by simp))
      have B5 := (((KB1.out _ hb1.out).at_ 0 (.int .i64 0)).at_ 1 (.int .i64 0)).at_ 2 (.slice none 0 0)
      have HS0 := Lib.hid (B5.cell 0)
      have HS1 := Lib.hid (B5.cell 1)
      have HS2 := Lib.hid (B5.cell 2)
      have HBF := Lib.hid (HW.out.trans (hb1.out.mono (by simp <;> omega)))
      clear B5
      go_wp2_with fail
      refine bodyPost_ret (v := .tuple #[.agg #[.int .i64 0, .int .i64 0, .slice none 0 0], .int .i64 5]) (by simp [results, Tryd.results38, go_sem, HS0.out, HS1.out, HS2.out]) rfl ?_
      rw [HE.out]
      exact give_zero HBF.out (by omega)
    | true =>
      have CF := Lib.hid (CF0.out rfl)
      obtain ⟨x, c⟩ := RR
      unfold GivesT termV at CF
      have CFI := Lib.hid (fun V => sfirst_any L ls.length capL V)
      have HBV1 := Lib.hid (show Below ((w.alloc (.cells #[.int .i64 t.k, .int .i64 t.n, .slice A t.l.length cap] 24)).alloc (.cells #[.int .i64 0, .int .i64 0, .slice none 0 0] 24)).heap.size ((w.alloc (.cells #[.int .i64 t.k, .int .i64 t.n, .slice A t.l.length cap] 24)).alloc (.cells #[.int .i64 0, .int .i64 0, .slice none 0 0] 24)) (w1.drew.alloc (.cells #[.slice L ls.length capL] 22)) from (hb1.out.drew).alloc hb1.out.size _)
      have HBV2 := Lib.hid (show Below ((w.alloc (.cells #[.int .i64 t.k, .int .i64 t.n, .slice A t.l.length cap] 24)).alloc (.cells #[.int .i64 0, .int .i64 0, .slice none 0 0] 24)).heap.size ((w.alloc (.cells #[.int .i64 t.k, .int .i64 t.n, .slice A t.l.length cap] 24)).alloc (.cells #[.int .i64 0, .int .i64 0, .slice none 0 0] 24)) (w1.alloc (.cells #[.slice L ls.length capL] 22)).drew from (hb1.out.alloc hb1.out.size _).drew)
      have HBC1 := Lib.hid (show (w1.drew.alloc (.cells #[.slice L ls.length capL] 22)).cell? ⟨w1.heap.size, 0, none⟩ = some (.slice L ls.length capL) from (Bk.last w1.drew 22 #[.slice L ls.length capL] rfl).cell 0)
      have HBC2 := Lib.hid (show (w1.alloc (.cells #[.slice L ls.length capL] 22)).drew.cell? ⟨w1.heap.size, 0, none⟩ = some (.slice L ls.length capL) from (Bk.last w1 22 #[.slice L ls.length capL] rfl).cell 0)
      have hz1 := hb1.out.size
      simp at hz1
      have hq0 : w.heap.size < w1.heap.size := by omega
      have hq1 : w.heap.size + 1 < w1.heap.size := by omega
      have HLO : Hid (w.heap.size + 1 < w1.heap.size + 1) := Lib.hid (by omega)
      clear CF0 HX0 CC0 CC1
      go_wp2_with fail
      go_region_law
        (first
         | (go_simp; go_at_call 58; refine (CFI.out _).mono ?_; rintro e wg ⟨rfl, rfl⟩)
         | (go_simp; go_at_call 57; (first | (have hbv := HBV1; refine (CF.out _ _ HBV1.out HBC1.out).mono ?_) | (have hbv := HBV2; refine (CF.out _ _ HBV2.out HBC2.out).mono ?_)); rintro e wf ⟨A', cap', rfl, hxf, hcf⟩; have hbf := Lib.hid (hbv.out.trans (hcf.mono hbv.out.size)); have HXF := Lib.hid (hxf.wide (lo' := w1.heap.size + 1) (hi' := wf.heap.size) (by simp) (Nat.le_refl _)); clear hbv hxf hcf hfz b10 b11 b12; have hfz : ∀ o, wf.frozen? ⟨w.heap.size + 1, o, none⟩ = false := fun o => (KB1.out _ hbf.out).cold o; have d0 : wf.cell? ⟨w.heap.size + 1, 0, none⟩ = some (.int .i64 0) := (KB1.out _ hbf.out).cell 0; have d1 : wf.cell? ⟨w.heap.size + 1, 1, none⟩ = some (.int .i64 0) := (KB1.out _ hbf.out).cell 1; have d2 : wf.cell? ⟨w.heap.size + 1, 2, none⟩ = some (.slice none 0 0) := (KB1.out _ hbf.out).cell 2))
      all_goals
        have HBF := Lib.hid (HW.out.trans (hbf.out.mono (by simp <;> omega)))
        have B5 := (((KB1.out _ hbf.out).at_ 0 (.int .i64 x.k)).at_ 1 (.int .i64 x.n)).at_ 2 (.slice A' x.l.length cap')
        have HS0 := Lib.hid (B5.cell 0)
        have HS1 := Lib.hid (B5.cell 1)
        have HS2 := Lib.hid (B5.cell 2)
        clear B5
        go_wp2_with fail
        refine bodyPost_ret (v := .tuple #[.agg #[.int .i64 x.k, .int .i64 x.n, .slice A' x.l.length cap'], .int .i64 c]) (by simp [results, Tryd.results38, go_sem, HS0.out, HS1.out, HS2.out]) rfl ?_
        exact give_term HBF.out (by omega) HXF.out HLO.out

set_option maxHeartbeats 1000000 in
theorem onec_any (t : TM) (lo hi : Nat) (A : Option Addr) (cap : Nat) (a : TM) (lo2 hi2 : Nat) (A2 : Option Addr) (cap2 : Nat) (w : World) (h : IsTerm w lo hi t A cap) (hhi : hi ≤ w.heap.size) (h2 : IsTerm w lo2 hi2 a A2 cap2) (hhi2 : hi2 ≤ w.heap.size) (hS : ShapesM w) :
    Calls Tryd.prog 44 #[termV t A cap, termV a A2 cap2] w (GivesT (manyX t [a]) w) := by
  have HW := Lib.hid (show Below w.heap.size w ((((w.alloc (.cells #[.int .i64 t.k, .int .i64 t.n, .slice A t.l.length cap] 24)).alloc (.cells #[.int .i64 a.k, .int .i64 a.n, .slice A2 a.l.length cap2] 24)).alloc (.cells #[.int .i64 0, .int .i64 0, .slice none 0 0] 24)).alloc (.cells #[.int .i64 a.k, .int .i64 a.n, .slice A2 a.l.length cap2] 24)) from ((((Below.refl w.heap.size w).alloc (Nat.le_refl _) (.cells #[.int .i64 t.k, .int .i64 t.n, .slice A t.l.length cap] 24)).alloc (by simp <;> omega) (.cells #[.int .i64 a.k, .int .i64 a.n, .slice A2 a.l.length cap2] 24)).alloc (by simp <;> omega) (.cells #[.int .i64 0, .int .i64 0, .slice none 0 0] 24)).alloc (by simp <;> omega) (.cells #[.int .i64 a.k, .int .i64 a.n, .slice A2 a.l.length cap2] 24))
  have KB := Lib.hid (fun (V : World) (hV : Below ((((w.alloc (.cells #[.int .i64 t.k, .int .i64 t.n, .slice A t.l.length cap] 24)).alloc (.cells #[.int .i64 a.k, .int .i64 a.n, .slice A2 a.l.length cap2] 24)).alloc (.cells #[.int .i64 0, .int .i64 0, .slice none 0 0] 24)).alloc (.cells #[.int .i64 a.k, .int .i64 a.n, .slice A2 a.l.length cap2] 24)).heap.size ((((w.alloc (.cells #[.int .i64 t.k, .int .i64 t.n, .slice A t.l.length cap] 24)).alloc (.cells #[.int .i64 a.k, .int .i64 a.n, .slice A2 a.l.length cap2] 24)).alloc (.cells #[.int .i64 0, .int .i64 0, .slice none 0 0] 24)).alloc (.cells #[.int .i64 a.k, .int .i64 a.n, .slice A2 a.l.length cap2] 24)) V) => (show Bk V (w.heap.size + 2) 24 #[.int .i64 0, .int .i64 0, .slice none 0 0] from ((Bk.last ((w.alloc (.cells #[.int .i64 t.k, .int .i64 t.n, .slice A t.l.length cap] 24)).alloc (.cells #[.int .i64 a.k, .int .i64 a.n, .slice A2 a.l.length cap2] 24)) 24 #[.int .i64 0, .int .i64 0, .slice none 0 0] (g := w.heap.size + 2) (by simp)).alloc (.cells #[.int .i64 a.k, .int .i64 a.n, .slice A2 a.l.length cap2] 24)).below hV (by simp <;> omega)))
  have KL := Bk.last (((w.alloc (.cells #[.int .i64 t.k, .int .i64 t.n, .slice A t.l.length cap] 24)).alloc (.cells #[.int .i64 a.k, .int .i64 a.n, .slice A2 a.l.length cap2] 24)).alloc (.cells #[.int .i64 0, .int .i64 0, .slice none 0 0] 24)) 24 #[.int .i64 a.k, .int .i64 a.n, .slice A2 a.l.length cap2] (g := w.heap.size + 3) (by simp)
  have CM := Lib.hid (manyc_any t lo hi A cap [a] 0 (((((w.alloc (.cells #[.int .i64 t.k, .int .i64 t.n, .slice A t.l.length cap] 24)).alloc (.cells #[.int .i64 a.k, .int .i64 a.n, .slice A2 a.l.length cap2] 24)).alloc (.cells #[.int .i64 0, .int .i64 0, .slice none 0 0] 24)).alloc (.cells #[.int .i64 a.k, .int .i64 a.n, .slice A2 a.l.length cap2] 24)).heap.size) (some ⟨w.heap.size + 3, 0, none⟩) 1 ((((w.alloc (.cells #[.int .i64 t.k, .int .i64 t.n, .slice A t.l.length cap] 24)).alloc (.cells #[.int .i64 a.k, .int .i64 a.n, .slice A2 a.l.length cap2] 24)).alloc (.cells #[.int .i64 0, .int .i64 0, .slice none 0 0] 24)).alloc (.cells #[.int .i64 a.k, .int .i64 a.n, .slice A2 a.l.length cap2] 24)) (h.kept HW.out hhi) (by simp; omega) (one_in ((h2.kept HW.out hhi2).wide (Nat.zero_le _) (by simp; omega)) KL ⟨by omega, by simp⟩ 0 0) (Nat.le_refl _) (by simp) (hS.kept HW.out))
  obtain ⟨x, c, hxc⟩ : ∃ x c, manyX t [a] = (x, c) := ⟨_, _, rfl⟩
  rw [hxc] at CM ⊢
  unfold GivesT termV at CM
  unfold termV
  clear h h2 hS hxc KL
  go_enter Tryd.func44, Tryd.ntmps44
  go_wp2_with fail
  refine CM.out.mono ?_
  rintro e wf ⟨A', cap', rfl, hxf, hcf⟩
  have HBF := Lib.hid (HW.out.trans (hcf.mono (by simp <;> omega)))
  have HXF := Lib.hid hxf
  have K2 := KB.out _ hcf
  have hfz : ∀ o, wf.frozen? ⟨w.heap.size + 2, o, none⟩ = false := fun o => K2.cold o
  have d0 : wf.cell? ⟨w.heap.size + 2, 0, none⟩ = some (.int .i64 0) := K2.cell 0
  have d1 : wf.cell? ⟨w.heap.size + 2, 1, none⟩ = some (.int .i64 0) := K2.cell 1
  have d2 : wf.cell? ⟨w.heap.size + 2, 2, none⟩ = some (.slice none 0 0) := K2.cell 2
  have B5 := ((K2.at_ 0 (.int .i64 x.k)).at_ 1 (.int .i64 x.n)).at_ 2 (.slice A' x.l.length cap')
  have HS0 := Lib.hid (B5.cell 0)
  have HS1 := Lib.hid (B5.cell 1)
  have HS2 := Lib.hid (B5.cell 2)
  clear B5 K2 hcf hxf
  go_wp2_with fail
  refine bodyPost_ret (v := .tuple #[.agg #[.int .i64 x.k, .int .i64 x.n, .slice A' x.l.length cap'], .int .i64 c]) (by simp [results, Tryd.results44, go_sem, HS0.out, HS1.out, HS2.out]) rfl ?_
  exact give_term HBF.out (by omega) HXF.out (by simp)

end Go.Proofs.YtofmoggjpgjdgaaDoor
