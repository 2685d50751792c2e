/- subst.changed: a shaped term with its variables as a closure says, or that it would not be shaped. -/
import Derived.Test.YtofmoggjpgjdgaaDoorUWith
namespace Go.Proofs.YtofmoggjpgjdgaaDoor
open Go.RowKit
set_option linter.unusedVariables false
set_option maxRecDepth 100000

/-- What a closure does with a variable, in every world that has what the first one had. -/
def BecCalls (f : FuncId) (cs : Array Value) (G : Bec) (w0 : World) : Prop := ∀ (k n b : Int) (V : World), Below w0.heap.size w0 V → varOk k n b → Calls Tryd.prog f (⟨.agg #[.int .i64 k, .int .i64 n, .slice none 0 0] :: .int .i64 b :: cs.toList⟩ : Array Value) V (GivesT (G k n b) V)
theorem changedX_of {G : Bec} {t x : TM} {c : Int} (h : outX G t 0 8192 = (x, c)) : changedX G t = if c = 0 then (if shapedB x then (x, 0) else (.node 0 0 [], 2)) else (.node 0 0 [], c) := by
  have hr := wit_room G t 0 8192 (by omega)
  unfold changedX
  cases e : witT G t 0 8192 with
  | error d =>
    have h1 := out_err e
    rw [h] at h1
    have h2 := hr.2 d e
    subst h1
    rw [if_neg h2]
  | ok p =>
    obtain ⟨u, q⟩ := p
    have h1 := out_ok e
    rw [h] at h1
    injection h1 with h2 h3
    subst h2; subst h3
    rw [if_pos rfl]

set_option maxHeartbeats 2000000 in
theorem changed_first (a0 : Nat) (G : Bec) (t : TM) (lo hi : Nat) (A : Option Addr) (cap : Nat) (w : World) (h : IsTerm w lo hi t A cap) (hhi : hi ≤ w.heap.size) (hS : ShapesM w) (hsh : shapedB t = true)
    (HC0 : BecCalls 72 #[.pointer (some ⟨a0, 0, none⟩)] G w) :
    Calls Tryd.prog 57 #[termV t A cap, .func (.func 72) #[] #[.pointer (some ⟨a0, 0, none⟩)]] w (GivesT (changedX G t) w) := by
  obtain ⟨s1, s2, s3⟩ := shapedB_true.1 hsh
  have HSS := Lib.hid hS
  have HW4 := Lib.hid (show Below w.heap.size w ((((w.alloc (.cells #[.int .i64 t.k, .int .i64 t.n, .slice A t.l.length cap] 24)).alloc (.cells #[.func (.func 72) #[] #[.pointer (some ⟨a0, 0, none⟩)]] 70)).alloc (.cells #[.int .i64 0, .int .i64 0, .slice none 0 0] 24)).alloc (.cells #[.int .i64 8192] 3)) from ((((Below.refl w.heap.size w).alloc (Nat.le_refl _) (.cells #[.int .i64 t.k, .int .i64 t.n, .slice A t.l.length cap] 24)).alloc (by simp <;> omega) (.cells #[.func (.func 72) #[] #[.pointer (some ⟨a0, 0, none⟩)]] 70)).alloc (by simp <;> omega) (.cells #[.int .i64 0, .int .i64 0, .slice none 0 0] 24)).alloc (by simp <;> omega) (.cells #[.int .i64 8192] 3))
  have KT := Lib.hid (fun (V : World) (hV : Near (w.heap.size + 3) ((((w.alloc (.cells #[.int .i64 t.k, .int .i64 t.n, .slice A t.l.length cap] 24)).alloc (.cells #[.func (.func 72) #[] #[.pointer (some ⟨a0, 0, none⟩)]] 70)).alloc (.cells #[.int .i64 0, .int .i64 0, .slice none 0 0] 24)).alloc (.cells #[.int .i64 8192] 3)).heap.size ((((w.alloc (.cells #[.int .i64 t.k, .int .i64 t.n, .slice A t.l.length cap] 24)).alloc (.cells #[.func (.func 72) #[] #[.pointer (some ⟨a0, 0, none⟩)]] 70)).alloc (.cells #[.int .i64 0, .int .i64 0, .slice none 0 0] 24)).alloc (.cells #[.int .i64 8192] 3)) V) => (show Bk V w.heap.size 24 #[.int .i64 t.k, .int .i64 t.n, .slice A t.l.length cap] from (((((Bk.new w 24 #[.int .i64 t.k, .int .i64 t.n, .slice A t.l.length cap]).alloc (.cells #[.func (.func 72) #[] #[.pointer (some ⟨a0, 0, none⟩)]] 70)).alloc (.cells #[.int .i64 0, .int .i64 0, .slice none 0 0] 24)).alloc (.cells #[.int .i64 8192] 3)).near hV (by simp <;> omega) (by omega))))
  have KF := Lib.hid (fun (V : World) (hV : Near (w.heap.size + 3) ((((w.alloc (.cells #[.int .i64 t.k, .int .i64 t.n, .slice A t.l.length cap] 24)).alloc (.cells #[.func (.func 72) #[] #[.pointer (some ⟨a0, 0, none⟩)]] 70)).alloc (.cells #[.int .i64 0, .int .i64 0, .slice none 0 0] 24)).alloc (.cells #[.int .i64 8192] 3)).heap.size ((((w.alloc (.cells #[.int .i64 t.k, .int .i64 t.n, .slice A t.l.length cap] 24)).alloc (.cells #[.func (.func 72) #[] #[.pointer (some ⟨a0, 0, none⟩)]] 70)).alloc (.cells #[.int .i64 0, .int .i64 0, .slice none 0 0] 24)).alloc (.cells #[.int .i64 8192] 3)) V) => (show Bk V (w.heap.size + 1) 70 #[.func (.func 72) #[] #[.pointer (some ⟨a0, 0, none⟩)]] from ((((Bk.last (w.alloc (.cells #[.int .i64 t.k, .int .i64 t.n, .slice A t.l.length cap] 24)) 70 #[.func (.func 72) #[] #[.pointer (some ⟨a0, 0, none⟩)]] (g := w.heap.size + 1) (by simp)).alloc (.cells #[.int .i64 0, .int .i64 0, .slice none 0 0] 24)).alloc (.cells #[.int .i64 8192] 3)).near hV (by simp <;> omega) (by omega))))
  have KZ := Lib.hid (fun (V : World) (hV : Near (w.heap.size + 3) ((((w.alloc (.cells #[.int .i64 t.k, .int .i64 t.n, .slice A t.l.length cap] 24)).alloc (.cells #[.func (.func 72) #[] #[.pointer (some ⟨a0, 0, none⟩)]] 70)).alloc (.cells #[.int .i64 0, .int .i64 0, .slice none 0 0] 24)).alloc (.cells #[.int .i64 8192] 3)).heap.size ((((w.alloc (.cells #[.int .i64 t.k, .int .i64 t.n, .slice A t.l.length cap] 24)).alloc (.cells #[.func (.func 72) #[] #[.pointer (some ⟨a0, 0, none⟩)]] 70)).alloc (.cells #[.int .i64 0, .int .i64 0, .slice none 0 0] 24)).alloc (.cells #[.int .i64 8192] 3)) V) => (show Bk V (w.heap.size + 2) 24 #[.int .i64 0, .int .i64 0, .slice none 0 0] from (((Bk.last ((w.alloc (.cells #[.int .i64 t.k, .int .i64 t.n, .slice A t.l.length cap] 24)).alloc (.cells #[.func (.func 72) #[] #[.pointer (some ⟨a0, 0, none⟩)]] 70)) 24 #[.int .i64 0, .int .i64 0, .slice none 0 0] (g := w.heap.size + 2) (by simp)).alloc (.cells #[.int .i64 8192] 3)).near hV (by simp <;> omega) (by omega))))
  have KR := Lib.hid (show Bk ((((w.alloc (.cells #[.int .i64 t.k, .int .i64 t.n, .slice A t.l.length cap] 24)).alloc (.cells #[.func (.func 72) #[] #[.pointer (some ⟨a0, 0, none⟩)]] 70)).alloc (.cells #[.int .i64 0, .int .i64 0, .slice none 0 0] 24)).alloc (.cells #[.int .i64 8192] 3)) (w.heap.size + 3) 3 #[.int .i64 8192] from Bk.last (((w.alloc (.cells #[.int .i64 t.k, .int .i64 t.n, .slice A t.l.length cap] 24)).alloc (.cells #[.func (.func 72) #[] #[.pointer (some ⟨a0, 0, none⟩)]] 70)).alloc (.cells #[.int .i64 0, .int .i64 0, .slice none 0 0] 24)) 3 #[.int .i64 8192] (by simp))
  have HOC := Lib.hid (show OutCalls (w.heap.size + 1) (w.heap.size + 3) G ((((w.alloc (.cells #[.int .i64 t.k, .int .i64 t.n, .slice A t.l.length cap] 24)).alloc (.cells #[.func (.func 72) #[] #[.pointer (some ⟨a0, 0, none⟩)]] 70)).alloc (.cells #[.int .i64 0, .int .i64 0, .slice none 0 0] 24)).alloc (.cells #[.int .i64 8192] 3)) from fun k n b r V hV hB hv h0 h1 =>
    ch_first a0 (w.heap.size + 1) (w.heap.size + 3) (G k n b) k n b r V ((KF.out V hV).cell 0) hB ⟨h0, h1⟩ (by omega) (fun V2 hV2 => HC0 k n b V2 ((HW4.out.trans (Near.below (A := w.heap.size) (Below.refl _ _) hV (by omega) (by simp <;> omega))).trans (hV2.mono (by have := hV.size; simp at this; omega))) hv))
  have CW := Lib.hid (within_any (w.heap.size + 1) (w.heap.size + 3) G ((((w.alloc (.cells #[.int .i64 t.k, .int .i64 t.n, .slice A t.l.length cap] 24)).alloc (.cells #[.func (.func 72) #[] #[.pointer (some ⟨a0, 0, none⟩)]] 70)).alloc (.cells #[.int .i64 0, .int .i64 0, .slice none 0 0] 24)).alloc (.cells #[.int .i64 8192] 3)) (by simp) HOC.out t 0 8192 lo hi A cap ((((w.alloc (.cells #[.int .i64 t.k, .int .i64 t.n, .slice A t.l.length cap] 24)).alloc (.cells #[.func (.func 72) #[] #[.pointer (some ⟨a0, 0, none⟩)]] 70)).alloc (.cells #[.int .i64 0, .int .i64 0, .slice none 0 0] 24)).alloc (.cells #[.int .i64 8192] 3)) (h.kept HW4.out hhi) (by omega) (Near.refl _ _ _) KR.out (by omega) (by omega) s3 s1 (by omega) (by omega))
  obtain ⟨x, c, hxc⟩ : ∃ x c, outX G t 0 8192 = (x, c) := ⟨_, _, rfl⟩
  unfold WithIs at CW
  rw [hxc] at CW
  have HE := Lib.hid (changedX_of hxc)
  have HSH := Lib.hid (fun (lo hi : Nat) (A : Option Addr) (cap : Nat) (V : World) (h : IsTerm V lo hi x A cap) (hhi : hi ≤ V.heap.size) (hS : ShapesM V) => shaped_any x lo hi A cap V h hhi hS)
  obtain ⟨bx, hbx⟩ : ∃ bx, shapedB x = bx := ⟨_, rfl⟩
  rw [hbx] at HE HSH
  obtain ⟨RR, hRR⟩ : ∃ RR, changedX G t = RR := ⟨_, rfl⟩
  rw [hRR] at HE ⊢
  clear hxc hsh s1 s2 s3 hS HC0 h hbx hRR HOC KR KF
  unfold termV at CW ⊢
  go_enter Tryd.func57, Tryd.ntmps57
  go_wp2_with fail
  refine CW.out.mono ?_
  rintro e w1 ⟨A', cap', q, rfl, hx1, hb1, hbq, hrm⟩
  have hz1 := hb1.size
  simp at hz1
  have K1 := KT.out _ hb1
  have K2 := KZ.out _ hb1
  have HB1 := Lib.hid (HW4.out.trans (Near.below (A := w.heap.size) (Below.refl _ _) hb1 (by omega) (by simp <;> omega)))
  have B1 := ((K1.at_ 0 (.int .i64 x.k)).at_ 1 (.int .i64 x.n)).at_ 2 (.slice A' x.l.length cap')
  have B2 := ((K2.far (a := ⟨w.heap.size, 0, none⟩) (by simp) (.int .i64 x.k)).far (a := ⟨w.heap.size, 1, none⟩) (by simp) (.int .i64 x.n)).far (a := ⟨w.heap.size, 2, none⟩) (by simp) (.slice A' x.l.length cap')
  simp only [World.size_alloc] at hx1
  have HX1 := Lib.hid ((hx1.far3 (g := w.heap.size) (by omega) (.int .i64 x.k) (.int .i64 x.n) (.slice A' x.l.length cap')).wide (lo' := w.heap.size + 4) (hi' := w1.heap.size) (by omega) (Nat.le_refl _))
  have HN1 := Lib.hid (((HB1.out.setCell (p := ⟨w.heap.size, 0, none⟩) (Nat.le_refl _) (.int .i64 x.k)).setCell (p := ⟨w.heap.size, 1, none⟩) (Nat.le_refl _) (.int .i64 x.n)).setCell (p := ⟨w.heap.size, 2, none⟩) (Nat.le_refl _) (.slice A' x.l.length cap'))
  have c0 : w1.cell? ⟨w.heap.size, 0, none⟩ = some (.int .i64 t.k) := K1.cell 0
  have c1 : w1.cell? ⟨w.heap.size, 1, none⟩ = some (.int .i64 t.n) := K1.cell 1
  have c2 : w1.cell? ⟨w.heap.size, 2, none⟩ = some (.slice A t.l.length cap) := K1.cell 2
  have hfz0 : ∀ o, w1.frozen? ⟨w.heap.size, o, none⟩ = false := fun o => K1.cold o
  obtain ⟨X, hX⟩ : ∃ X, ((w1.setCell ⟨w.heap.size, 0, none⟩ (.int .i64 x.k)).setCell ⟨w.heap.size, 1, none⟩ (.int .i64 x.n)).setCell ⟨w.heap.size, 2, none⟩ (.slice A' x.l.length cap') = X := ⟨_, rfl⟩
  have hXz : X.heap.size = w1.heap.size := by rw [← hX]; simp [World.setCell]
  rw [hX] at B1 B2 HX1 HN1
  have HT1 := Lib.hid B1
  have HT2 := Lib.hid B2
  clear K1 K2 B1 B2 hb1 hx1 hbq hrm KT KZ
  subst hX
  by_cases h0 : c = 0
  · have t0 : (c == 0) = true := by rw [h0]; rfl
    have t0' : (c != 0) = false := by rw [h0]; rfl
    have HE2 := Lib.hid (HE.out.trans (if_pos h0))
    clear HE
    have CS := Lib.hid (HSH.out (w.heap.size + 4) w1.heap.size A' cap' _ HX1.out (by rw [hXz]; omega) (HSS.out.kept HN1.out))
    rw [termV] at CS
    have t0v := h0
    clear h0 HSH
    go_wp2_with fail
    refine CS.out.mono ?_
    rintro e w2 ⟨rfl, hb2⟩
    have hz2 := hb2.size
    have K1 := HT1.out.below hb2 (by omega)
    have K2 := HT2.out.below hb2 (by omega)
    have HB2 := Lib.hid (HN1.out.trans (hb2.mono (by omega)))
    have HX2 := Lib.hid ((HX1.out.kept hb2 (by omega)).wide (lo' := w.heap.size + 4) (hi' := w2.heap.size) (Nat.le_refl _) (by omega))
    have HZ2 : Hid (w.heap.size + 4 ≤ w2.heap.size) := Lib.hid (by omega)
    have e0 : w2.cell? ⟨w.heap.size, 0, none⟩ = some (.int .i64 x.k) := K1.cell 0
    have e1 : w2.cell? ⟨w.heap.size, 1, none⟩ = some (.int .i64 x.n) := K1.cell 1
    have e2 : w2.cell? ⟨w.heap.size, 2, none⟩ = some (.slice A' x.l.length cap') := K1.cell 2
    have hfz : ∀ o, w2.frozen? ⟨w.heap.size + 2, o, none⟩ = false := fun o => K2.cold o
    have d0 : w2.cell? ⟨w.heap.size + 2, 0, none⟩ = some (.int .i64 0) := K2.cell 0
    have d1 : w2.cell? ⟨w.heap.size + 2, 1, none⟩ = some (.int .i64 0) := K2.cell 1
    have d2 : w2.cell? ⟨w.heap.size + 2, 2, none⟩ = some (.slice none 0 0) := K2.cell 2
    have HK2 := Lib.hid K2
    clear hb2 hz2 K1 K2 HX1 HN1 HT1 HT2 CS hXz c0 c1 c2 hfz0
    cases bx with
    | true =>
      have B5 := ((HK2.out.at_ 0 (.int .i64 x.k)).at_ 1 (.int .i64 x.n)).at_ 2 (.slice A' x.l.length cap')
      have HS0 := Lib.hid (B5.cell 0)
      have HS1 := Lib.hid (B5.cell 1)
      have HS2 := Lib.hid (B5.cell 2)
      clear B5
      go_wp2_with fail
      refine bodyPost_ret (v := .tuple #[.agg #[.int .i64 x.k, .int .i64 x.n, .slice A' x.l.length cap'], .int .i64 0]) (by simp [results, Tryd.results57, go_sem, HS0.out, HS1.out, HS2.out]) rfl ?_
      rw [HE2.out]
      exact give_term (c := 0) HB2.out (by omega) HX2.out (by omega)
    | false =>
      have B5 := ((HK2.out.at_ 0 (.int .i64 0)).at_ 1 (.int .i64 0)).at_ 2 (.slice none 0 0)
      have HS0 := Lib.hid (B5.cell 0)
      have HS1 := Lib.hid (B5.cell 1)
      have HS2 := Lib.hid (B5.cell 2)
      clear B5
      go_wp2_with fail
      refine bodyPost_ret (v := .tuple #[.agg #[.int .i64 0, .int .i64 0, .slice none 0 0], .int .i64 2]) (by simp [results, Tryd.results57, go_sem, HS0.out, HS1.out, HS2.out]) rfl ?_
      rw [HE2.out]
      exact give_zero HB2.out (by omega)
  · have t0 : (c == 0) = false := by simpa using h0
    have t0' : (c != 0) = true := by simpa using h0
    have HE2 := Lib.hid (HE.out.trans (if_neg h0))
    have d0 := HT2.out.cell 0
    have d1 := HT2.out.cell 1
    have d2 := HT2.out.cell 2
    have hfz : ∀ o, (((w1.setCell ⟨w.heap.size, 0, none⟩ (.int .i64 x.k)).setCell ⟨w.heap.size, 1, none⟩ (.int .i64 x.n)).setCell ⟨w.heap.size, 2, none⟩ (.slice A' x.l.length cap')).frozen? ⟨w.heap.size + 2, o, none⟩ = false := fun o => HT2.out.cold o
    have B5 := ((HT2.out.at_ 0 (.int .i64 0)).at_ 1 (.int .i64 0)).at_ 2 (.slice none 0 0)
    have HS0 := Lib.hid (B5.cell 0)
    have HS1 := Lib.hid (B5.cell 1)
    have HS2 := Lib.hid (B5.cell 2)
    clear B5 HE HSH h0 HX1
    simp at d0 d1 d2
    go_wp2_with fail
    refine bodyPost_ret (v := .tuple #[.agg #[.int .i64 0, .int .i64 0, .slice none 0 0], .int .i64 c]) (by simp [results, Tryd.results57, go_sem, HS0.out, HS1.out, HS2.out]) rfl ?_
    rw [HE2.out]
    exact give_zero HN1.out (by omega)

end Go.Proofs.YtofmoggjpgjdgaaDoor
