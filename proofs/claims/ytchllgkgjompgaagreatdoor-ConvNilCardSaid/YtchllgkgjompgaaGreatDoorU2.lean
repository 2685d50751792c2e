import Derived.Test.YtchllgkgjompgaaGreatDoorU1
import Derived.Test.YtchllgkgjompgaaGreatDoorM8
import Derived.Deep.RegionLaw
namespace Go.Proofs.YtchllgkgjompgaaGreatDoor
open Go.RowKit
set_option linter.unusedVariables false
set_option maxRecDepth 100000

/-- What a closure does with a variable, in every world that has what the first one had. -/
def BecCalls (f : FuncId) (cs : Array Value) (G : Bec) (w0 : World) : Prop := ∀ (k n b : Int) (V : World), Below w0.heap.size w0 V → varOk k n b → Calls Tryz.prog f (⟨.agg #[.int .i64 k, .int .i64 n, .slice none 0 0] :: .int .i64 b :: cs.toList⟩ : Array Value) V (GivesT (G k n b) V)
theorem changedX_of {G : Bec} {t x : TM} {c : Int} (h : outX G t 0 8192 = (x, c)) : changedX G t = if c = 0 then (if shapedB x then (x, 0) else (.node 0 0 [], 2)) else (.node 0 0 [], c) := by
  have hr := wit_room G t 0 8192 (by omega)
  unfold changedX
  cases e : witT G t 0 8192 with
  | error d =>
    have h1 := out_err e
    rw [h] at h1
    have h2 := hr.2 d e
    subst h1
    rw [if_neg h2]
  | ok p =>
    obtain ⟨u, q⟩ := p
    have h1 := out_ok e
    rw [h] at h1
    injection h1 with h2 h3
    subst h2; subst h3
    rw [if_pos rfl]

set_option maxHeartbeats 2000000 in
theorem changed_first (a0 : Nat) (G : Bec) (t : TM) (lo hi : Nat) (A : Option Addr) (cap : Nat) (w : World) (h : IsTerm w lo hi t A cap) (hhi : hi ≤ w.heap.size) (hS : ShapesM w) (hsh : shapedB t = true)
    (HC0 : BecCalls 195 #[.pointer (some ⟨a0, 0, none⟩)] G w) :
    Calls Tryz.prog 169 #[termV t A cap, .func (.func 195) #[] #[.pointer (some ⟨a0, 0, none⟩)]] w (GivesT (changedX G t) w) := by
  obtain ⟨s1, s2, s3⟩ := shapedB_true.1 hsh
  have HSS := Lib.hid hS
  have HW4 := Lib.hid (show Below w.heap.size w ((((w.alloc (.cells #[.int .i64 t.k, .int .i64 t.n, .slice A t.l.length cap] 25)).alloc (.cells #[.func (.func 195) #[] #[.pointer (some ⟨a0, 0, none⟩)]] 208)).alloc (.cells #[.int .i64 0, .int .i64 0, .slice none 0 0] 25)).alloc (.cells #[.int .i64 8192] 3)) from ((((Below.refl w.heap.size w).alloc (Nat.le_refl _) (.cells #[.int .i64 t.k, .int .i64 t.n, .slice A t.l.length cap] 25)).alloc (by simp <;> omega) (.cells #[.func (.func 195) #[] #[.pointer (some ⟨a0, 0, none⟩)]] 208)).alloc (by simp <;> omega) (.cells #[.int .i64 0, .int .i64 0, .slice none 0 0] 25)).alloc (by simp <;> omega) (.cells #[.int .i64 8192] 3))
  have KT := Lib.hid (fun (V : World) (hV : Near (w.heap.size + 3) ((((w.alloc (.cells #[.int .i64 t.k, .int .i64 t.n, .slice A t.l.length cap] 25)).alloc (.cells #[.func (.func 195) #[] #[.pointer (some ⟨a0, 0, none⟩)]] 208)).alloc (.cells #[.int .i64 0, .int .i64 0, .slice none 0 0] 25)).alloc (.cells #[.int .i64 8192] 3)).heap.size ((((w.alloc (.cells #[.int .i64 t.k, .int .i64 t.n, .slice A t.l.length cap] 25)).alloc (.cells #[.func (.func 195) #[] #[.pointer (some ⟨a0, 0, none⟩)]] 208)).alloc (.cells #[.int .i64 0, .int .i64 0, .slice none 0 0] 25)).alloc (.cells #[.int .i64 8192] 3)) V) => (show Bk V w.heap.size 25 #[.int .i64 t.k, .int .i64 t.n, .slice A t.l.length cap] from (((((Bk.new w 25 #[.int .i64 t.k, .int .i64 t.n, .slice A t.l.length cap]).alloc (.cells #[.func (.func 195) #[] #[.pointer (some ⟨a0, 0, none⟩)]] 208)).alloc (.cells #[.int .i64 0, .int .i64 0, .slice none 0 0] 25)).alloc (.cells #[.int .i64 8192] 3)).near hV (by simp <;> omega) (by omega))))
  have KF := Lib.hid (fun (V : World) (hV : Near (w.heap.size + 3) ((((w.alloc (.cells #[.int .i64 t.k, .int .i64 t.n, .slice A t.l.length cap] 25)).alloc (.cells #[.func (.func 195) #[] #[.pointer (some ⟨a0, 0, none⟩)]] 208)).alloc (.cells #[.int .i64 0, .int .i64 0, .slice none 0 0] 25)).alloc (.cells #[.int .i64 8192] 3)).heap.size ((((w.alloc (.cells #[.int .i64 t.k, .int .i64 t.n, .slice A t.l.length cap] 25)).alloc (.cells #[.func (.func 195) #[] #[.pointer (some ⟨a0, 0, none⟩)]] 208)).alloc (.cells #[.int .i64 0, .int .i64 0, .slice none 0 0] 25)).alloc (.cells #[.int .i64 8192] 3)) V) => (show Bk V (w.heap.size + 1) 208 #[.func (.func 195) #[] #[.pointer (some ⟨a0, 0, none⟩)]] from ((((Bk.last (w.alloc (.cells #[.int .i64 t.k, .int .i64 t.n, .slice A t.l.length cap] 25)) 208 #[.func (.func 195) #[] #[.pointer (some ⟨a0, 0, none⟩)]] (g := w.heap.size + 1) (by simp)).alloc (.cells #[.int .i64 0, .int .i64 0, .slice none 0 0] 25)).alloc (.cells #[.int .i64 8192] 3)).near hV (by simp <;> omega) (by omega))))
  have KZ := Lib.hid (fun (V : World) (hV : Near (w.heap.size + 3) ((((w.alloc (.cells #[.int .i64 t.k, .int .i64 t.n, .slice A t.l.length cap] 25)).alloc (.cells #[.func (.func 195) #[] #[.pointer (some ⟨a0, 0, none⟩)]] 208)).alloc (.cells #[.int .i64 0, .int .i64 0, .slice none 0 0] 25)).alloc (.cells #[.int .i64 8192] 3)).heap.size ((((w.alloc (.cells #[.int .i64 t.k, .int .i64 t.n, .slice A t.l.length cap] 25)).alloc (.cells #[.func (.func 195) #[] #[.pointer (some ⟨a0, 0, none⟩)]] 208)).alloc (.cells #[.int .i64 0, .int .i64 0, .slice none 0 0] 25)).alloc (.cells #[.int .i64 8192] 3)) V) => (show Bk V (w.heap.size + 2) 25 #[.int .i64 0, .int .i64 0, .slice none 0 0] from (((Bk.last ((w.alloc (.cells #[.int .i64 t.k, .int .i64 t.n, .slice A t.l.length cap] 25)).alloc (.cells #[.func (.func 195) #[] #[.pointer (some ⟨a0, 0, none⟩)]] 208)) 25 #[.int .i64 0, .int .i64 0, .slice none 0 0] (g := w.heap.size + 2) (by simp)).alloc (.cells #[.int .i64 8192] 3)).near hV (by simp <;> omega) (by omega))))
  have KR := Lib.hid (show Bk ((((w.alloc (.cells #[.int .i64 t.k, .int .i64 t.n, .slice A t.l.length cap] 25)).alloc (.cells #[.func (.func 195) #[] #[.pointer (some ⟨a0, 0, none⟩)]] 208)).alloc (.cells #[.int .i64 0, .int .i64 0, .slice none 0 0] 25)).alloc (.cells #[.int .i64 8192] 3)) (w.heap.size + 3) 3 #[.int .i64 8192] from Bk.last (((w.alloc (.cells #[.int .i64 t.k, .int .i64 t.n, .slice A t.l.length cap] 25)).alloc (.cells #[.func (.func 195) #[] #[.pointer (some ⟨a0, 0, none⟩)]] 208)).alloc (.cells #[.int .i64 0, .int .i64 0, .slice none 0 0] 25)) 3 #[.int .i64 8192] (by simp))
  have HOC := Lib.hid (show OutCalls (w.heap.size + 1) (w.heap.size + 3) G ((((w.alloc (.cells #[.int .i64 t.k, .int .i64 t.n, .slice A t.l.length cap] 25)).alloc (.cells #[.func (.func 195) #[] #[.pointer (some ⟨a0, 0, none⟩)]] 208)).alloc (.cells #[.int .i64 0, .int .i64 0, .slice none 0 0] 25)).alloc (.cells #[.int .i64 8192] 3)) from fun k n b r V hV hB hv h0 h1 =>
    ch_first a0 (w.heap.size + 1) (w.heap.size + 3) (G k n b) k n b r V ((KF.out V hV).cell 0) hB ⟨h0, h1⟩ (by omega) (fun V2 hV2 => HC0 k n b V2 ((HW4.out.trans (Near.below (A := w.heap.size) (Below.refl _ _) hV (by omega) (by simp <;> omega))).trans (hV2.mono (by have := hV.size; simp at this; omega))) hv))
  have CW := Lib.hid (withinS_any (w.heap.size + 1) (w.heap.size + 3) G ((((w.alloc (.cells #[.int .i64 t.k, .int .i64 t.n, .slice A t.l.length cap] 25)).alloc (.cells #[.func (.func 195) #[] #[.pointer (some ⟨a0, 0, none⟩)]] 208)).alloc (.cells #[.int .i64 0, .int .i64 0, .slice none 0 0] 25)).alloc (.cells #[.int .i64 8192] 3)) (by simp) HOC.out t 0 8192 lo hi A cap ((((w.alloc (.cells #[.int .i64 t.k, .int .i64 t.n, .slice A t.l.length cap] 25)).alloc (.cells #[.func (.func 195) #[] #[.pointer (some ⟨a0, 0, none⟩)]] 208)).alloc (.cells #[.int .i64 0, .int .i64 0, .slice none 0 0] 25)).alloc (.cells #[.int .i64 8192] 3)) (h.kept HW4.out hhi) (by omega) (Near.refl _ _ _) KR.out (by omega) (by omega) s3 s1 (by omega) (by omega))
  obtain ⟨x, c, hxc⟩ : ∃ x c, outX G t 0 8192 = (x, c) := ⟨_, _, rfl⟩
  unfold WithIs at CW
  rw [hxc] at CW
  have HE := Lib.hid (changedX_of hxc)
  have HSH := Lib.hid (fun (lo hi : Nat) (A : Option Addr) (cap : Nat) (V : World) (h : IsTerm V lo hi x A cap) (hhi : hi ≤ V.heap.size) (hS : ShapesM V) => shaped_any x lo hi A cap V h hhi hS)
  obtain ⟨bx, hbx⟩ : ∃ bx, shapedB x = bx := ⟨_, rfl⟩
  rw [hbx] at HE HSH
  obtain ⟨RR, hRR⟩ : ∃ RR, changedX G t = RR := ⟨_, rfl⟩
  rw [hRR] at HE ⊢
  clear hxc hsh s1 s2 s3 hS HC0 h hbx hRR HOC KR KF
  unfold termV at CW ⊢
  go_enter Tryz.func169, Tryz.ntmps169
  go_wp2_with fail
  refine CW.out.mono ?_
  rintro e w1 ⟨A', cap', q, rfl, hx1, hb1, hbq, hrm⟩
  have hz1 := hb1.size
  simp at hz1
  have K1 := KT.out _ hb1
  have K2 := KZ.out _ hb1
  have HB1 := Lib.hid (HW4.out.trans (Near.below (A := w.heap.size) (Below.refl _ _) hb1 (by omega) (by simp <;> omega)))
  have B1 := ((K1.at_ 0 (.int .i64 x.k)).at_ 1 (.int .i64 x.n)).at_ 2 (.slice A' x.l.length cap')
  have B2 := ((K2.far (a := ⟨w.heap.size, 0, none⟩) (by simp) (.int .i64 x.k)).far (a := ⟨w.heap.size, 1, none⟩) (by simp) (.int .i64 x.n)).far (a := ⟨w.heap.size, 2, none⟩) (by simp) (.slice A' x.l.length cap')
  simp only [World.size_alloc] at hx1
  have HX1 := Lib.hid ((hx1.far3 (g := w.heap.size) (by omega) (.int .i64 x.k) (.int .i64 x.n) (.slice A' x.l.length cap')).wide (lo' := w.heap.size + 4) (hi' := w1.heap.size) (by omega) (Nat.le_refl _))
  have HN1 := Lib.hid (((HB1.out.setCell (p := ⟨w.heap.size, 0, none⟩) (Nat.le_refl _) (.int .i64 x.k)).setCell (p := ⟨w.heap.size, 1, none⟩) (Nat.le_refl _) (.int .i64 x.n)).setCell (p := ⟨w.heap.size, 2, none⟩) (Nat.le_refl _) (.slice A' x.l.length cap'))
  have c0 : w1.cell? ⟨w.heap.size, 0, none⟩ = some (.int .i64 t.k) := K1.cell 0
  have c1 : w1.cell? ⟨w.heap.size, 1, none⟩ = some (.int .i64 t.n) := K1.cell 1
  have c2 : w1.cell? ⟨w.heap.size, 2, none⟩ = some (.slice A t.l.length cap) := K1.cell 2
  have hfz0 : ∀ o, w1.frozen? ⟨w.heap.size, o, none⟩ = false := fun o => K1.cold o
  obtain ⟨X, hX⟩ : ∃ X, ((w1.setCell ⟨w.heap.size, 0, none⟩ (.int .i64 x.k)).setCell ⟨w.heap.size, 1, none⟩ (.int .i64 x.n)).setCell ⟨w.heap.size, 2, none⟩ (.slice A' x.l.length cap') = X := ⟨_, rfl⟩
  have hXz : X.heap.size = w1.heap.size := by rw [← hX]; simp [World.setCell]
  rw [hX] at B1 B2 HX1 HN1
  have HT1 := Lib.hid B1
  have HT2 := Lib.hid B2
  clear K1 K2 B1 B2 hb1 hx1 hbq hrm KT KZ
  subst hX
  by_cases h0 : c = 0
  · have t0 : (c == 0) = true := by rw [h0]; rfl
    have t0' : (c != 0) = false := by rw [h0]; rfl
    have HE2 := Lib.hid (HE.out.trans (if_pos h0))
    clear HE
    have CS := Lib.hid (HSH.out (w.heap.size + 4) w1.heap.size A' cap' _ HX1.out (by rw [hXz]; omega) (HSS.out.kept HN1.out))
    rw [termV] at CS
    have t0v := h0
    clear h0 HSH
    go_wp2_with fail
    refine CS.out.mono ?_
    rintro e w2 ⟨rfl, hb2⟩
    have hz2 := hb2.size
    have K1 := HT1.out.below hb2 (by omega)
    have K2 := HT2.out.below hb2 (by omega)
    have HB2 := Lib.hid (HN1.out.trans (hb2.mono (by omega)))
    have HX2 := Lib.hid ((HX1.out.kept hb2 (by omega)).wide (lo' := w.heap.size + 4) (hi' := w2.heap.size) (Nat.le_refl _) (by omega))
    have HZ2 : Hid (w.heap.size + 4 ≤ w2.heap.size) := Lib.hid (by omega)
    have e0 : w2.cell? ⟨w.heap.size, 0, none⟩ = some (.int .i64 x.k) := K1.cell 0
    have e1 : w2.cell? ⟨w.heap.size, 1, none⟩ = some (.int .i64 x.n) := K1.cell 1
    have e2 : w2.cell? ⟨w.heap.size, 2, none⟩ = some (.slice A' x.l.length cap') := K1.cell 2
    have hfz : ∀ o, w2.frozen? ⟨w.heap.size + 2, o, none⟩ = false := fun o => K2.cold o
    have d0 : w2.cell? ⟨w.heap.size + 2, 0, none⟩ = some (.int .i64 0) := K2.cell 0
    have d1 : w2.cell? ⟨w.heap.size + 2, 1, none⟩ = some (.int .i64 0) := K2.cell 1
    have d2 : w2.cell? ⟨w.heap.size + 2, 2, none⟩ = some (.slice none 0 0) := K2.cell 2
    have HK2 := Lib.hid K2
    clear hb2 hz2 K1 K2 HX1 HN1 HT1 HT2 CS hXz c0 c1 c2 hfz0
    cases bx with
    | true =>
      have B5 := ((HK2.out.at_ 0 (.int .i64 x.k)).at_ 1 (.int .i64 x.n)).at_ 2 (.slice A' x.l.length cap')
      have HS0 := Lib.hid (B5.cell 0)
      have HS1 := Lib.hid (B5.cell 1)
      have HS2 := Lib.hid (B5.cell 2)
      clear B5
      go_wp2_with fail
      refine bodyPost_ret (v := .tuple #[.agg #[.int .i64 x.k, .int .i64 x.n, .slice A' x.l.length cap'], .int .i64 0]) (by simp [results, Tryz.results169, go_sem, HS0.out, HS1.out, HS2.out]) rfl ?_
      rw [HE2.out]
      exact give_term (c := 0) HB2.out (by omega) HX2.out (by omega)
    | false =>
      have B5 := ((HK2.out.at_ 0 (.int .i64 0)).at_ 1 (.int .i64 0)).at_ 2 (.slice none 0 0)
      have HS0 := Lib.hid (B5.cell 0)
      have HS1 := Lib.hid (B5.cell 1)
      have HS2 := Lib.hid (B5.cell 2)
      clear B5
      go_wp2_with fail
      refine bodyPost_ret (v := .tuple #[.agg #[.int .i64 0, .int .i64 0, .slice none 0 0], .int .i64 2]) (by simp [results, Tryz.results169, go_sem, HS0.out, HS1.out, HS2.out]) rfl ?_
      rw [HE2.out]
      exact give_zero HB2.out (by omega)
  · have t0 : (c == 0) = false := by simpa using h0
    have t0' : (c != 0) = true := by simpa using h0
    have HE2 := Lib.hid (HE.out.trans (if_neg h0))
    have d0 := HT2.out.cell 0
    have d1 := HT2.out.cell 1
    have d2 := HT2.out.cell 2
    have hfz : ∀ o, (((w1.setCell ⟨w.heap.size, 0, none⟩ (.int .i64 x.k)).setCell ⟨w.heap.size, 1, none⟩ (.int .i64 x.n)).setCell ⟨w.heap.size, 2, none⟩ (.slice A' x.l.length cap')).frozen? ⟨w.heap.size + 2, o, none⟩ = false := fun o => HT2.out.cold o
    have B5 := ((HT2.out.at_ 0 (.int .i64 0)).at_ 1 (.int .i64 0)).at_ 2 (.slice none 0 0)
    have HS0 := Lib.hid (B5.cell 0)
    have HS1 := Lib.hid (B5.cell 1)
    have HS2 := Lib.hid (B5.cell 2)
    clear B5 HE HSH h0 HX1
    simp at d0 d1 d2
    go_wp2_with fail
    refine bodyPost_ret (v := .tuple #[.agg #[.int .i64 0, .int .i64 0, .slice none 0 0], .int .i64 c]) (by simp [results, Tryz.results169, go_sem, HS0.out, HS1.out, HS2.out]) rfl ?_
    rw [HE2.out]
    exact give_zero HN1.out (by omega)



def ShpRel (w : World) (ls : List TM) (iv : Value) (wr : World) : Prop := ∃ i : Nat, i ≤ ls.length ∧ iv = .int .i64 i ∧ Below w.heap.size w wr ∧ (ls.take i).all shapedB = true
set_option maxHeartbeats 1000000 in
theorem sshaped_any (ls : List TM) (lo hi : Nat) (A : Option Addr) (cap : Nat) (w : World) (h : IsTerm w lo hi (.node 0 0 ls) A cap) (hhi : hi ≤ w.heap.size) (hS : ShapesM w) :
    Calls Tryz.prog 168 #[.slice A ls.length cap] w fun e w' => e = .returned (.bool (ls.all shapedB)) ∧ Below w.heap.size w w' := by
  have HN := Lib.hid h.sub
  have HSS := Lib.hid hS
  obtain ⟨hl, hm⟩ := h.bounds
  unfold maxLen at hm
  clear h hS
  go_enter Tryz.func168, Tryz.ntmps168
  go_wp2_with fail
  go_loopw [7] (ShpRel w ls) (fun iv _ => ls.length - (intOf iv).toNat)
  case atStart => exact ⟨0, Nat.zero_le _, rfl, Below.refl _ _, rfl⟩
  case round =>
    obtain ⟨i, hi1, rfl, hB, hall⟩ := hrel
    have hz := hB.size
    by_cases hil : i < ls.length
    · obtain ⟨b, o, F, C, rfl, hb1, hb2, hx, hnode⟩ := (HN.out i hil).kept hB hhi
      obtain ⟨x0, x1, x2⟩ := hx
      have hst : (ls.take (i + 1)).all shapedB = shapedB ls[i] := by
        rw [List.take_succ_eq_append_getElem hil, List.all_append, hall]; simp
      have hno : shapedB ls[i] = false → ls.all shapedB = false := fun h => by
        cases e : ls.all shapedB with
        | false => rfl
        | true =>
          rw [List.all_eq_true] at e
          have := e _ (List.getElem_mem hil)
          rw [h] at this; cases this
      obtain ⟨u, hu⟩ : ∃ u, ls[i] = u := ⟨_, rfl⟩
      rw [hu] at hst hno hnode x0 x1 x2
      have HC := Lib.hid (shaped_any u lo hi F C (wr.alloc (.cells #[.int .i64 u.k, .int .i64 u.n, .slice F u.l.length C] 25)) (hnode.alloc (by omega) _) (by simp; omega) (HSS.out.kept (hB.alloc hz _)))
      obtain ⟨bx, hbx⟩ : ∃ bx, shapedB u = bx := ⟨_, rfl⟩
      rw [hbx] at hst hno HC
      have HST := Lib.hid hst
      have HNO := Lib.hid hno
      have HBW := Lib.hid (hB.alloc hz (.cells #[.int .i64 u.k, .int .i64 u.n, .slice F u.l.length C] 25))
      have hi1' : (i : Int) < (ls.length : Int) := by omega
      unfold termV at HC
      clear hst hno hbx hu hall hnode
      go_wp2_with fail
      refine HC.out.mono ?_
      rintro e w1 ⟨rfl, hb1⟩
      have HB1 := Lib.hid (HBW.out.trans (hb1.mono (by simp; omega)))
      clear hb1
      cases bx with
      | false =>
        have HF := Lib.hid (HNO.out rfl)
        go_wp2_with fail
        go_ret
        exact ⟨by rw [HF.out]; rfl, HB1.out⟩
      | true =>
        go_wp2_with fail
        go_roundw
        case rel => exact ⟨i + 1, by omega, rfl, HB1.out, HST.out⟩
        case measure => simp [intOf]; omega
    · obtain rfl : i = ls.length := by omega
      rw [List.take_length] at hall
      have HA := Lib.hid hall
      clear hall
      go_wp2_with fail
      go_ret
      exact ⟨by rw [HA.out]; rfl, hB⟩

theorem sfirst_any (A : Option Addr) (n cap : Nat) (w : World) : Calls Tryz.prog 170 #[.slice A n cap] w fun e w' => e = .returned (.func (.func 195) #[] #[.pointer (some ⟨w.heap.size, 0, none⟩)]) ∧ w' = w.alloc (.cells #[.slice A n cap] 23) := by
  go_enter Tryz.func170, Tryz.ntmps170
  go_wp2_with fail
  go_ret
  exact ⟨rfl, rfl⟩





/-- The rows of terms that go on being so, with the closure that holds them. -/
theorem bec_first (gb : Nat) (ls : List TM) (lo2 hi2 : Nat) (L : Option Addr) (capL : Nat) (w : World) (h2 : IsTerm w lo2 hi2 (.node 0 0 ls) L capL) (hhi2 : hi2 ≤ w.heap.size) (hl4 : ls.length ≤ 4000000000) (hS : ShapesM w)
    (hc : w.cell? ⟨gb, 0, none⟩ = some (.slice L ls.length capL)) : BecCalls 195 #[.pointer (some ⟨gb, 0, none⟩)] (firstG ls) w := fun k n b V hV hv => by
  have hgb : gb < w.heap.size := World.block_lt_of_cell? w _ hc
  exact cl_first gb ls k n b lo2 hi2 L capL V ((hV.cell (p := ⟨gb, 0, none⟩) hgb).trans hc) (h2.kept hV hhi2) (by have := hV.size; omega) (hS.kept hV) hl4 hv

set_option maxHeartbeats 2000000 in
theorem manyc_any (t : TM) (lo hi : Nat) (A : Option Addr) (cap : Nat) (ls : List TM) (lo2 hi2 : Nat) (L : Option Addr) (capL : Nat) (w : World) (h : IsTerm w lo hi t A cap) (hhi : hi ≤ w.heap.size) (h2 : IsTerm w lo2 hi2 (.node 0 0 ls) L capL) (hhi2 : hi2 ≤ w.heap.size) (hl4 : ls.length ≤ 4000000000) (hS : ShapesM w) :
    Calls Tryz.prog 139 #[termV t A cap, .slice L ls.length capL] w (GivesT (manyX t ls) w) := by
  have HW := Lib.hid (show Below w.heap.size w ((w.alloc (.cells #[.int .i64 t.k, .int .i64 t.n, .slice A t.l.length cap] 25)).alloc (.cells #[.int .i64 0, .int .i64 0, .slice none 0 0] 25)) from ((Below.refl w.heap.size w).alloc (by simp <;> omega) (.cells #[.int .i64 t.k, .int .i64 t.n, .slice A t.l.length cap] 25)).alloc (by simp <;> omega) (.cells #[.int .i64 0, .int .i64 0, .slice none 0 0] 25))
  have KB0 := Lib.hid (fun (V : World) (hV : Below ((w.alloc (.cells #[.int .i64 t.k, .int .i64 t.n, .slice A t.l.length cap] 25)).alloc (.cells #[.int .i64 0, .int .i64 0, .slice none 0 0] 25)).heap.size ((w.alloc (.cells #[.int .i64 t.k, .int .i64 t.n, .slice A t.l.length cap] 25)).alloc (.cells #[.int .i64 0, .int .i64 0, .slice none 0 0] 25)) V) => (show Bk V (w.heap.size + 0) 25 #[.int .i64 t.k, .int .i64 t.n, .slice A t.l.length cap] from ((Bk.new w 25 #[.int .i64 t.k, .int .i64 t.n, .slice A t.l.length cap]).alloc (.cells #[.int .i64 0, .int .i64 0, .slice none 0 0] 25)).below hV (by simp <;> omega)))
  have KB1 := Lib.hid (fun (V : World) (hV : Below ((w.alloc (.cells #[.int .i64 t.k, .int .i64 t.n, .slice A t.l.length cap] 25)).alloc (.cells #[.int .i64 0, .int .i64 0, .slice none 0 0] 25)).heap.size ((w.alloc (.cells #[.int .i64 t.k, .int .i64 t.n, .slice A t.l.length cap] 25)).alloc (.cells #[.int .i64 0, .int .i64 0, .slice none 0 0] 25)) V) => (show Bk V (w.heap.size + 1) 25 #[.int .i64 0, .int .i64 0, .slice none 0 0] from (Bk.last (w.alloc (.cells #[.int .i64 t.k, .int .i64 t.n, .slice A t.l.length cap] 25)) 25 #[.int .i64 0, .int .i64 0, .slice none 0 0] (g := w.heap.size + 1) (by simp)).below hV (by simp <;> omega)))
  have CC0 := Lib.hid (fun (V : World) (hV : Below w.heap.size w V) => shaped_any t lo hi A cap V (h.kept hV hhi) (by have := hV.size; omega) (hS.kept hV))
  obtain ⟨b1, hb1⟩ : ∃ b1, shapedB t = b1 := ⟨_, rfl⟩
  have CC1 := Lib.hid (fun (V : World) (hV : Below w.heap.size w V) => sshaped_any ls lo2 hi2 L capL V (h2.kept hV hhi2) (by have := hV.size; omega) (hS.kept hV))
  obtain ⟨b2, hb2⟩ : ∃ b2, ls.all shapedB = b2 := ⟨_, rfl⟩
  have HX0 := Lib.hid (fun (hb : (b1 && b2) = false) => (show manyX t ls = (.node 0 0 [], 5) by unfold manyX; rw [hb1, hb2, hb]; rfl))
  have CF0 := Lib.hid (fun (hb : (b1 && b2) = true) => (show ∀ V gb, Below ((w.alloc (.cells #[.int .i64 t.k, .int .i64 t.n, .slice A t.l.length cap] 25)).alloc (.cells #[.int .i64 0, .int .i64 0, .slice none 0 0] 25)).heap.size ((w.alloc (.cells #[.int .i64 t.k, .int .i64 t.n, .slice A t.l.length cap] 25)).alloc (.cells #[.int .i64 0, .int .i64 0, .slice none 0 0] 25)) V → V.cell? ⟨gb, 0, none⟩ = some (.slice L ls.length capL) → Calls Tryz.prog 169 #[termV t A cap, .func (.func 195) #[] #[.pointer (some ⟨gb, 0, none⟩)]] V (GivesT (manyX t ls) V) from by
    rw [hb1.symm, hb2.symm] at hb
    have hc := hb
    simp only [Bool.and_eq_true] at hb
    obtain ⟨q1, q2⟩ := hb
    have e : manyX t ls = changedX (firstG ls) t := by unfold manyX; rw [hc, if_pos rfl, changedX_eq (fair_first q2) q1]
    rw [e]
    intro V gb hV hgb
    have hV0 := HW.out.trans (hV.mono (by simp <;> omega))
    exact changed_first gb _ t lo hi A cap V (h.kept hV0 hhi) (by have := hV0.size; omega) (hS.kept hV0) q1 (bec_first gb ls lo2 hi2 L capL V (h2.kept hV0 hhi2) (by have := hV0.size; omega) hl4 (hS.kept hV0) hgb)))
  rw [hb1] at CC0
  rw [hb2] at CC1
  unfold termV at CC0 CF0 ⊢
  obtain ⟨RR, hRR⟩ : ∃ RR, manyX t ls = RR := ⟨_, rfl⟩
  rw [hRR] at HX0 CF0 ⊢
  clear h h2 hS hb1 hb2 hRR hhi hhi2 hl4
  go_enter Tryz.func139, Tryz.ntmps139
  go_wp2_with fail
  refine (CC0.out _ HW.out).mono ?_
  rintro e w0 ⟨rfl, hc0⟩
  have hb0 := Lib.hid ((Below.refl _ _).trans (hc0.mono (Nat.le_refl _)))
  clear hc0
  have b00 : w0.cell? ⟨w.heap.size, 0, none⟩ = some (.int .i64 t.k) := (KB0.out _ hb0.out).cell 0
  have b01 : w0.cell? ⟨w.heap.size, 1, none⟩ = some (.int .i64 t.n) := (KB0.out _ hb0.out).cell 1
  have b02 : w0.cell? ⟨w.heap.size, 2, none⟩ = some (.slice A t.l.length cap) := (KB0.out _ hb0.out).cell 2
  have b10 : w0.cell? ⟨w.heap.size + 1, 0, none⟩ = some (.int .i64 0) := (KB1.out _ hb0.out).cell 0
  have b11 : w0.cell? ⟨w.heap.size + 1, 1, none⟩ = some (.int .i64 0) := (KB1.out _ hb0.out).cell 1
  have b12 : w0.cell? ⟨w.heap.size + 1, 2, none⟩ = some (.slice none 0 0) := (KB1.out _ hb0.out).cell 2
  have hfz : ∀ o, w0.frozen? ⟨w.heap.size + 1, o, none⟩ = false := fun o => (KB1.out _ hb0.out).cold o
  cases b1 with
  | false =>
    have HE := Lib.hid (HX0.out (by simp))
    have B5 := (((KB1.out _ hb0.out).at_ 0 (.int .i64 0)).at_ 1 (.int .i64 0)).at_ 2 (.slice none 0 0)
    have HS0 := Lib.hid (B5.cell 0)
    have HS1 := Lib.hid (B5.cell 1)
    have HS2 := Lib.hid (B5.cell 2)
    have HBF := Lib.hid (HW.out.trans (hb0.out.mono (by simp <;> omega)))
    clear B5
    go_wp2_with fail
    refine bodyPost_ret (v := .tuple #[.agg #[.int .i64 0, .int .i64 0, .slice none 0 0], .int .i64 5]) (by simp [results, Tryz.results139, go_sem, HS0.out, HS1.out, HS2.out]) rfl ?_
    rw [HE.out]
    exact give_zero HBF.out (by omega)
  | true =>
    go_wp2_with fail
    refine (CC1.out _ (HW.out.trans (hb0.out.mono (by simp <;> omega)))).mono ?_
    rintro e w1 ⟨rfl, hc1⟩
    have hb1 := Lib.hid (hb0.out.trans (hc1.mono hb0.out.size))
    clear hc1
    clear b00 b01 b02 b10 b11 b12 hfz
    have b00 : w1.cell? ⟨w.heap.size, 0, none⟩ = some (.int .i64 t.k) := (KB0.out _ hb1.out).cell 0
    have b01 : w1.cell? ⟨w.heap.size, 1, none⟩ = some (.int .i64 t.n) := (KB0.out _ hb1.out).cell 1
    have b02 : w1.cell? ⟨w.heap.size, 2, none⟩ = some (.slice A t.l.length cap) := (KB0.out _ hb1.out).cell 2
    have b10 : w1.cell? ⟨w.heap.size + 1, 0, none⟩ = some (.int .i64 0) := (KB1.out _ hb1.out).cell 0
    have b11 : w1.cell? ⟨w.heap.size + 1, 1, none⟩ = some (.int .i64 0) := (KB1.out _ hb1.out).cell 1
    have b12 : w1.cell? ⟨w.heap.size + 1, 2, none⟩ = some (.slice none 0 0) := (KB1.out _ hb1.out).cell 2
    have hfz : ∀ o, w1.frozen? ⟨w.heap.size + 1, o, none⟩ = false := fun o => (KB1.out _ hb1.out).cold o
    cases b2 with
    | false =>
      have HE := Lib.hid (HX0.out (by simp))
      have B5 := (((KB1.out _ hb1.out).at_ 0 (.int .i64 0)).at_ 1 (.int .i64 0)).at_ 2 (.slice none 0 0)
      have HS0 := Lib.hid (B5.cell 0)
      have HS1 := Lib.hid (B5.cell 1)
      have HS2 := Lib.hid (B5.cell 2)
      have HBF := Lib.hid (HW.out.trans (hb1.out.mono (by simp <;> omega)))
      clear B5
      go_wp2_with fail
      refine bodyPost_ret (v := .tuple #[.agg #[.int .i64 0, .int .i64 0, .slice none 0 0], .int .i64 5]) (by simp [results, Tryz.results139, go_sem, HS0.out, HS1.out, HS2.out]) rfl ?_
      rw [HE.out]
      exact give_zero HBF.out (by omega)
    | true =>
      have CF := Lib.hid (CF0.out rfl)
      obtain ⟨x, c⟩ := RR
      unfold GivesT termV at CF
      have CFI := Lib.hid (fun V => sfirst_any L ls.length capL V)
      have HBV1 := Lib.hid (show Below ((w.alloc (.cells #[.int .i64 t.k, .int .i64 t.n, .slice A t.l.length cap] 25)).alloc (.cells #[.int .i64 0, .int .i64 0, .slice none 0 0] 25)).heap.size ((w.alloc (.cells #[.int .i64 t.k, .int .i64 t.n, .slice A t.l.length cap] 25)).alloc (.cells #[.int .i64 0, .int .i64 0, .slice none 0 0] 25)) (w1.drew.alloc (.cells #[.slice L ls.length capL] 23)) from (hb1.out.drew).alloc hb1.out.size _)
      have HBV2 := Lib.hid (show Below ((w.alloc (.cells #[.int .i64 t.k, .int .i64 t.n, .slice A t.l.length cap] 25)).alloc (.cells #[.int .i64 0, .int .i64 0, .slice none 0 0] 25)).heap.size ((w.alloc (.cells #[.int .i64 t.k, .int .i64 t.n, .slice A t.l.length cap] 25)).alloc (.cells #[.int .i64 0, .int .i64 0, .slice none 0 0] 25)) (w1.alloc (.cells #[.slice L ls.length capL] 23)).drew from (hb1.out.alloc hb1.out.size _).drew)
      have HBC1 := Lib.hid (show (w1.drew.alloc (.cells #[.slice L ls.length capL] 23)).cell? ⟨w1.heap.size, 0, none⟩ = some (.slice L ls.length capL) from (Bk.last w1.drew 23 #[.slice L ls.length capL] rfl).cell 0)
      have HBC2 := Lib.hid (show (w1.alloc (.cells #[.slice L ls.length capL] 23)).drew.cell? ⟨w1.heap.size, 0, none⟩ = some (.slice L ls.length capL) from (Bk.last w1 23 #[.slice L ls.length capL] rfl).cell 0)
      have hz1 := hb1.out.size
      simp at hz1
      have hq0 : w.heap.size < w1.heap.size := by omega
      have hq1 : w.heap.size + 1 < w1.heap.size := by omega
      have HLO : Hid (w.heap.size + 1 < w1.heap.size + 1) := Lib.hid (by omega)
      clear CF0 HX0 CC0 CC1
      go_wp2_with fail
      go_region_law
        (first
         | (go_simp; go_at_call 170; refine (CFI.out _).mono ?_; rintro e wg ⟨rfl, rfl⟩)
         | (go_simp; go_at_call 169; (first | (have hbv := HBV1; refine (CF.out _ _ HBV1.out HBC1.out).mono ?_) | (have hbv := HBV2; refine (CF.out _ _ HBV2.out HBC2.out).mono ?_)); rintro e wf ⟨A', cap', rfl, hxf, hcf⟩; have hbf := Lib.hid (hbv.out.trans (hcf.mono hbv.out.size)); have HXF := Lib.hid (hxf.wide (lo' := w1.heap.size + 1) (hi' := wf.heap.size) (by simp) (Nat.le_refl _)); clear hbv hxf hcf hfz b10 b11 b12; have hfz : ∀ o, wf.frozen? ⟨w.heap.size + 1, o, none⟩ = false := fun o => (KB1.out _ hbf.out).cold o; have d0 : wf.cell? ⟨w.heap.size + 1, 0, none⟩ = some (.int .i64 0) := (KB1.out _ hbf.out).cell 0; have d1 : wf.cell? ⟨w.heap.size + 1, 1, none⟩ = some (.int .i64 0) := (KB1.out _ hbf.out).cell 1; have d2 : wf.cell? ⟨w.heap.size + 1, 2, none⟩ = some (.slice none 0 0) := (KB1.out _ hbf.out).cell 2))
      all_goals
        have HBF := Lib.hid (HW.out.trans (hbf.out.mono (by simp <;> omega)))
        have B5 := (((KB1.out _ hbf.out).at_ 0 (.int .i64 x.k)).at_ 1 (.int .i64 x.n)).at_ 2 (.slice A' x.l.length cap')
        have HS0 := Lib.hid (B5.cell 0)
        have HS1 := Lib.hid (B5.cell 1)
        have HS2 := Lib.hid (B5.cell 2)
        clear B5
        go_wp2_with fail
        refine bodyPost_ret (v := .tuple #[.agg #[.int .i64 x.k, .int .i64 x.n, .slice A' x.l.length cap'], .int .i64 c]) (by simp [results, Tryz.results139, go_sem, HS0.out, HS1.out, HS2.out]) rfl ?_
        exact give_term HBF.out (by omega) HXF.out HLO.out

set_option maxHeartbeats 1000000 in
theorem onec_any (t : TM) (lo hi : Nat) (A : Option Addr) (cap : Nat) (a : TM) (lo2 hi2 : Nat) (A2 : Option Addr) (cap2 : Nat) (w : World) (h : IsTerm w lo hi t A cap) (hhi : hi ≤ w.heap.size) (h2 : IsTerm w lo2 hi2 a A2 cap2) (hhi2 : hi2 ≤ w.heap.size) (hS : ShapesM w) :
    Calls Tryz.prog 114 #[termV t A cap, termV a A2 cap2] w (GivesT (manyX t [a]) w) := by
  have HW := Lib.hid (show Below w.heap.size w ((((w.alloc (.cells #[.int .i64 t.k, .int .i64 t.n, .slice A t.l.length cap] 25)).alloc (.cells #[.int .i64 a.k, .int .i64 a.n, .slice A2 a.l.length cap2] 25)).alloc (.cells #[.int .i64 0, .int .i64 0, .slice none 0 0] 25)).alloc (.cells #[.int .i64 a.k, .int .i64 a.n, .slice A2 a.l.length cap2] 25)) from ((((Below.refl w.heap.size w).alloc (Nat.le_refl _) (.cells #[.int .i64 t.k, .int .i64 t.n, .slice A t.l.length cap] 25)).alloc (by simp <;> omega) (.cells #[.int .i64 a.k, .int .i64 a.n, .slice A2 a.l.length cap2] 25)).alloc (by simp <;> omega) (.cells #[.int .i64 0, .int .i64 0, .slice none 0 0] 25)).alloc (by simp <;> omega) (.cells #[.int .i64 a.k, .int .i64 a.n, .slice A2 a.l.length cap2] 25))
  have KB := Lib.hid (fun (V : World) (hV : Below ((((w.alloc (.cells #[.int .i64 t.k, .int .i64 t.n, .slice A t.l.length cap] 25)).alloc (.cells #[.int .i64 a.k, .int .i64 a.n, .slice A2 a.l.length cap2] 25)).alloc (.cells #[.int .i64 0, .int .i64 0, .slice none 0 0] 25)).alloc (.cells #[.int .i64 a.k, .int .i64 a.n, .slice A2 a.l.length cap2] 25)).heap.size ((((w.alloc (.cells #[.int .i64 t.k, .int .i64 t.n, .slice A t.l.length cap] 25)).alloc (.cells #[.int .i64 a.k, .int .i64 a.n, .slice A2 a.l.length cap2] 25)).alloc (.cells #[.int .i64 0, .int .i64 0, .slice none 0 0] 25)).alloc (.cells #[.int .i64 a.k, .int .i64 a.n, .slice A2 a.l.length cap2] 25)) V) => (show Bk V (w.heap.size + 2) 25 #[.int .i64 0, .int .i64 0, .slice none 0 0] from ((Bk.last ((w.alloc (.cells #[.int .i64 t.k, .int .i64 t.n, .slice A t.l.length cap] 25)).alloc (.cells #[.int .i64 a.k, .int .i64 a.n, .slice A2 a.l.length cap2] 25)) 25 #[.int .i64 0, .int .i64 0, .slice none 0 0] (g := w.heap.size + 2) (by simp)).alloc (.cells #[.int .i64 a.k, .int .i64 a.n, .slice A2 a.l.length cap2] 25)).below hV (by simp <;> omega)))
  have KL := Bk.last (((w.alloc (.cells #[.int .i64 t.k, .int .i64 t.n, .slice A t.l.length cap] 25)).alloc (.cells #[.int .i64 a.k, .int .i64 a.n, .slice A2 a.l.length cap2] 25)).alloc (.cells #[.int .i64 0, .int .i64 0, .slice none 0 0] 25)) 25 #[.int .i64 a.k, .int .i64 a.n, .slice A2 a.l.length cap2] (g := w.heap.size + 3) (by simp)
  have CM := Lib.hid (manyc_any t lo hi A cap [a] 0 (((((w.alloc (.cells #[.int .i64 t.k, .int .i64 t.n, .slice A t.l.length cap] 25)).alloc (.cells #[.int .i64 a.k, .int .i64 a.n, .slice A2 a.l.length cap2] 25)).alloc (.cells #[.int .i64 0, .int .i64 0, .slice none 0 0] 25)).alloc (.cells #[.int .i64 a.k, .int .i64 a.n, .slice A2 a.l.length cap2] 25)).heap.size) (some ⟨w.heap.size + 3, 0, none⟩) 1 ((((w.alloc (.cells #[.int .i64 t.k, .int .i64 t.n, .slice A t.l.length cap] 25)).alloc (.cells #[.int .i64 a.k, .int .i64 a.n, .slice A2 a.l.length cap2] 25)).alloc (.cells #[.int .i64 0, .int .i64 0, .slice none 0 0] 25)).alloc (.cells #[.int .i64 a.k, .int .i64 a.n, .slice A2 a.l.length cap2] 25)) (h.kept HW.out hhi) (by simp; omega) (one_in ((h2.kept HW.out hhi2).wide (Nat.zero_le _) (by simp; omega)) KL ⟨by omega, by simp⟩ 0 0) (Nat.le_refl _) (by simp) (hS.kept HW.out))
  obtain ⟨x, c, hxc⟩ : ∃ x c, manyX t [a] = (x, c) := ⟨_, _, rfl⟩
  rw [hxc] at CM ⊢
  unfold GivesT termV at CM
  unfold termV
  clear h h2 hS hxc KL
  go_enter Tryz.func114, Tryz.ntmps114
  go_wp2_with fail
  refine CM.out.mono ?_
  rintro e wf ⟨A', cap', rfl, hxf, hcf⟩
  have HBF := Lib.hid (HW.out.trans (hcf.mono (by simp <;> omega)))
  have HXF := Lib.hid hxf
  have K2 := KB.out _ hcf
  have hfz : ∀ o, wf.frozen? ⟨w.heap.size + 2, o, none⟩ = false := fun o => K2.cold o
  have d0 : wf.cell? ⟨w.heap.size + 2, 0, none⟩ = some (.int .i64 0) := K2.cell 0
  have d1 : wf.cell? ⟨w.heap.size + 2, 1, none⟩ = some (.int .i64 0) := K2.cell 1
  have d2 : wf.cell? ⟨w.heap.size + 2, 2, none⟩ = some (.slice none 0 0) := K2.cell 2
  have B5 := ((K2.at_ 0 (.int .i64 x.k)).at_ 1 (.int .i64 x.n)).at_ 2 (.slice A' x.l.length cap')
  have HS0 := Lib.hid (B5.cell 0)
  have HS1 := Lib.hid (B5.cell 1)
  have HS2 := Lib.hid (B5.cell 2)
  clear B5 K2 hcf hxf
  go_wp2_with fail
  refine bodyPost_ret (v := .tuple #[.agg #[.int .i64 x.k, .int .i64 x.n, .slice A' x.l.length cap'], .int .i64 c]) (by simp [results, Tryz.results114, go_sem, HS0.out, HS1.out, HS2.out]) rfl ?_
  exact give_term HBF.out (by omega) HXF.out (by simp)


end Go.Proofs.YtchllgkgjompgaaGreatDoor
