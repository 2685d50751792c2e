/- The document's entry. -/
import Derived.Test.YtcbbaognomddkaaGreatDoorSgTake
import Derived.Test.YtcbbaognomddkaaGreatDoorSgRFam
import Derived.Test.YtcbbaognomddkaaGreatDoorSgROwn
import Derived.Test.YtcbbaognomddkaaGreatDoorSgMath
import Derived.Test.YtcbbaognomddkaaGreatDoorS6
namespace Go.Proofs.YtcbbaognomddkaaGreatDoor
open Go.RowKit
set_option linter.unusedVariables false
set_option maxRecDepth 100000

theorem famOk_ofE {l : List ET} {n : Nat} (h : allB (entE l) n = true) : FamOk l n := by
  intro j hj hjn hk
  have h1 := allB_true.1 h j hjn
  rw [entE_at hj] at h1
  unfold entD at h1
  rw [if_pos hk] at h1
  simp only [Bool.and_eq_true] at h1
  have h2 := h1.2.2
  unfold famR at h2
  simp only [Bool.and_eq_true, decide_eq_true_eq] at h2
  exact ⟨h2.1, h2.2.1, h2.2.2.1⟩
theorem own_facts {l : List ET} {i : Nat} {x : ET} (h : ownR l i x = true) : ∃ j : Nat, x.f = (j : Int) ∧ j < i ∧ ∃ hj : j < l.length, l[j].k = 1 ∧ x.a = l[j].a := by
  unfold ownR at h
  simp only [Bool.and_eq_true, decide_eq_true_eq] at h
  obtain ⟨hb, hlt, _, _, _, _, _, hm⟩ := h
  obtain ⟨j, hf, hj, hjk⟩ := isB_true hb
  rw [famAt_nat hf hj] at hm
  simp only [Bool.and_eq_true, decide_eq_true_eq] at hm
  exact ⟨j, hf, by omega, hj, hjk, hm.1⟩

set_option maxHeartbeats 16000000 in
theorem rent_any (l : List ET) (A : Option Addr) (cap i : Nat) (hi : i < l.length) (lo hh : Nat) (w : World) (hl : l.length ≤ 600) (hn : EntsAt w lo hh A l) (hhh : hh ≤ w.heap.size) (hS : ShapesM w) (hfo : FamOk l i) :
    Calls Tryz.prog 23 #[.slice A l.length cap, .int .i64 i] w fun e w' => e = .returned (.bool (entD l i l[i])) ∧ Below w.heap.size w w' := by
  obtain ⟨b, o, p, hA, hb1, hb2, hx, hent⟩ := hn i hi
  have HN := Lib.hid hn
  have HFO := Lib.hid hfo
  have CF := Lib.hid (fun (V : World) (hV : Below w.heap.size w V) => rfam_any l A cap i hi lo hh V hl (hn.kept hV hhh) (by have := hV.size; omega))
  have CO := Lib.hid (fun (V : World) (hV : Below w.heap.size w V) => rown_any l A cap i hi lo hh V hl (hn.kept hV hhh) (by have := hV.size; omega))
  have HOF := Lib.hid (fun (h : ownR l i l[i] = true) => own_facts h)
  have hcl := Nat.le_trans hent.lc hent.mc
  have hdl := Nat.le_trans hent.ld hent.md
  have hll6 : (l.length : Int) ≤ 600 := by omega
  obtain ⟨z, hz⟩ : ∃ z, entD l i l[i] = z := ⟨_, rfl⟩
  rw [hz]
  unfold entD at hz
  obtain ⟨rf, hrf⟩ : ∃ r, famR l i l[i] = r := ⟨_, rfl⟩
  obtain ⟨ro, hro⟩ : ∃ r, ownR l i l[i] = r := ⟨_, rfl⟩
  rw [hrf, hro] at hz
  rw [hrf] at CF
  rw [hro] at CO HOF
  clear hrf hro
  obtain ⟨x, hxx⟩ : ∃ x, l[i] = x := ⟨_, rfl⟩
  rw [hxx] at hx hent hz hcl hdl HOF
  obtain ⟨x0, x1, x2, x3, x4, x5, x6, x7, x8, x9, x10, x11, x12, x13, x14⟩ := hx
  subst hA
  have hbw : b < w.heap.size := by omega
  have hi0' : (i : Int) < (l.length : Int) := by omega
  have hi1 : (i : Int) < 600 := by omega
  have HZ := Lib.hid hz
  have HB1 := Lib.hid (show Below w.heap.size w (w.alloc (.cells (entC x p) 34)) from (Below.refl _ _).alloc (Nat.le_refl _) _)
  have KB := Lib.hid (fun (V : World) (hV : Below (w.alloc (.cells (entC x p) 34)).heap.size (w.alloc (.cells (entC x p) 34)) V) => (show BoxE V w.heap.size x p from ((Bk.new w 34 (entC x p)).below hV (by simp)).boxE))
  have HENT := Lib.hid (fun (V : World) (hV : Below w.heap.size w V) => hent.kept hV hhh)
  have HSS := Lib.hid (fun (V : World) (hV : Below w.heap.size w V) => hS.kept hV)
  have hs9 := hent.hs
  have CN := Lib.hid (fun (V : World) => refNameRight_any x.s V (by unfold maxLen at hs9; omega))
  have CL := Lib.hid (fun (V : World) (hV : Below w.heap.size w V) => rclosed_any x.t (i : Int) lo hh p.T p.tc V (hent.ht.kept hV hhh) (by have := hV.size; omega) (hS.kept hV))
  have CB := Lib.hid (fun (V : World) (hV : Below w.heap.size w V) => rclosed_any x.b (i : Int) lo hh p.B p.bc V (hent.hb.kept hV hhh) (by have := hV.size; omega) (hS.kept hV))
  have CTE : Hid (∀ (hs : shapedB x.t = true) (V : World) (hV : Below w.heap.size w V), Calls Tryz.prog 34 #[termV x.t p.T p.tc] V (GivesR (telT x.t) V)) := Lib.hid (fun hs V hV => (tele_any x.t lo hh p.T p.tc V (hent.ht.kept hV hhh) (by have := hV.size; omega) hs).mono fun e w' ⟨a, c, ps, he, hr, hp, hb⟩ => row_gives he hr hp hb)
  have CBE := Lib.hid (fun (hs : shapedB x.t = true) (V : World) (hV : Below w.heap.size w V) => beneath_any12 x.t lo hh p.T p.tc V (hent.ht.kept hV hhh) (by have := hV.size; omega) (shapedB_true.1 hs).2.2)
  have HCS := Lib.hid (fun (q : closedE x.t (i : Int) = true) => closed_shaped q)
  have HTF := Lib.hid (fun (hs : shapedB x.t = true) => tel_facts hs)
  have HPD := Lib.hid (fun (hs : shapedB x.t = true) => Nat.le_trans (pisN_depth x.t) (shapedB_true.1 hs).2.1)
  obtain ⟨bn, hbn⟩ : ∃ r, nmB x.s = r := ⟨_, rfl⟩
  obtain ⟨bl, hbl⟩ : ∃ r, closedE x.t (i : Int) = r := ⟨_, rfl⟩
  obtain ⟨bb, hbb⟩ : ∃ r, closedE x.b (i : Int) = r := ⟨_, rfl⟩
  rw [hbn] at CN
  rw [hbl] at CL HCS
  rw [hbb] at CB
  have HZ1 : Hid ((bn && (bl && (if x.k = 1 then rf else if x.k = 3 then (bb && (decide (x.f = 0) && (decide (x.p = 0) && (decide (x.a = 0) && (decide (x.i = 0) && (decide (x.v = 0) && (decide (x.c.length = 0) && decide (x.d.length = 0)))))))) else if x.k = 2 then ro && conR l x else if x.k = 4 then ro && fldR l x else false))) = z) := Lib.hid (by
    have := HZ.out
    unfold defR at this
    rw [hbn, hbl, hbb] at this
    exact this)
  unfold maxLen at hcl hdl
  have hcl' : (x.c.length : Int) ≤ 9223372036854775807 := by omega
  have hdl' : (x.d.length : Int) ≤ 9223372036854775807 := by omega
  unfold entC at HB1 KB
  unfold termV at CL CB CTE CBE
  clear hz hxx hent hn hS hl hb1 hb2 hs9 hbn hbl hbb hfo HZ hcl hdl
  go_enter Tryz.func23, Tryz.ntmps23
  go_wp2_with fail
  refine (CN.out _).mono ?_
  rintro e w1 ⟨rfl, hb1⟩
  have HB2 := Lib.hid (HB1.out.trans (hb1.mono (by simp)))
  have HK2 := Lib.hid hb1
  have hs1 : w.heap.size < w1.heap.size := by have := hb1.size; simp at this; omega
  obtain ⟨z0, z1, z2, z3, z4, z5, z6, z7, z8, z9, z10, z11, z12, z13, z14⟩ := KB.out _ hb1
  clear hb1 x0 x1 x2 x3 x4 x5 x6 x7 x8 x9 x10 x11 x12 x13 x14
  cases bn with
  | false =>
    obtain rfl : z = false := by rw [← HZ1.out]; rfl
    go_wp2_with fail
    go_ret
    exact ⟨rfl, HB2.out⟩
  | true =>
  go_wp2_with fail
  refine (CL.out _ HB2.out).mono ?_
  rintro e w2 ⟨rfl, hb2⟩
  have HB3 := Lib.hid (HB2.out.trans (hb2.mono HB2.out.size))
  have HK3 := Lib.hid (HK2.out.trans (hb2.mono HK2.out.size))
  have hs2 : w.heap.size < w2.heap.size := by have := hb2.size; omega
  clear hb2 z0 z1 z2 z3 z4 z5 z6 z7 z8 z9 z10 z11 z12 z13 z14 hs1
  obtain ⟨z0, z1, z2, z3, z4, z5, z6, z7, z8, z9, z10, z11, z12, z13, z14⟩ := KB.out _ HK3.out
  cases bl with
  | false =>
    obtain rfl : z = false := by rw [← HZ1.out]; rfl
    go_wp2_with fail
    go_ret
    exact ⟨rfl, HB3.out⟩
  | true =>
  have hsh := HCS.out rfl
  have CT2 := Lib.hid (CTE.out hsh)
  have CBE2 := Lib.hid (CBE.out hsh)
  have HTF2 := Lib.hid (HTF.out hsh)
  have hpd := HPD.out hsh
  obtain ⟨ts, hts⟩ : ∃ ts, telT x.t = ts := ⟨_, rfl⟩
  have HTL := Lib.hid (show ts.length = pisN x.t from by rw [← hts]; exact HTF2.out.1)
  rw [hts] at CT2
  have hpl : (ts.length : Int) ≤ 128 := by have := HTL.out; omega
  have HTS := Lib.hid hts
  unfold GivesR at CT2
  clear hsh HCS CTE CBE HTF HPD hpd hts
  go_wp2_with fail
  refine (CT2.out _ HB3.out).mono ?_
  rintro e w3 ⟨A3, c3, rfl, -, hb3⟩
  have HB4 := Lib.hid (HB3.out.trans (hb3.mono HB3.out.size))
  have HK4 := Lib.hid (HK3.out.trans (hb3.mono HK3.out.size))
  have hs3 : w.heap.size < w3.heap.size := by have := hb3.size; omega
  clear hb3 z0 z1 z2 z3 z4 z5 z6 z7 z8 z9 z10 z11 z12 z13 z14 hs2
  obtain ⟨z0, z1, z2, z3, z4, z5, z6, z7, z8, z9, z10, z11, z12, z13, z14⟩ := KB.out _ HK4.out
  by_cases k1 : x.k = 1
  · have t1 : (x.k == 1) = true := by simpa using k1
    obtain rfl : rf = z := by rw [← HZ1.out, if_pos k1]; rfl
    clear k1 CL CB CN CO
    go_wp2_with fail
    refine (CF.out _ HB4.out).mono ?_
    rintro e w4 ⟨rfl, hb4⟩
    go_wp2_with fail
    go_ret
    exact ⟨rfl, HB4.out.trans (hb4.mono HB4.out.size)⟩
  have t1 : (x.k == 1) = false := by simpa using k1
  by_cases k3 : x.k = 3
  · have t3 : (x.k == 3) = true := by simpa using k3
    have HZ2 : Hid ((bb && (decide (x.f = 0) && (decide (x.p = 0) && (decide (x.a = 0) && (decide (x.i = 0) && (decide (x.v = 0) && (decide (x.c.length = 0) && decide (x.d.length = 0)))))))) = z) := Lib.hid (by have := HZ1.out; rw [if_neg k1, if_pos k3] at this; exact this)
    have HZ3 := HZ2
    clear k1 k3 CL CF CN CO HZ2 HZ1
    go_wp2_with fail
    refine (CB.out _ HB4.out).mono ?_
    rintro e w4 ⟨rfl, hb4⟩
    have HB5 := Lib.hid (HB4.out.trans (hb4.mono HB4.out.size))
    have HK5 := Lib.hid (HK4.out.trans (hb4.mono HK4.out.size))
    have hs4 : w.heap.size < w4.heap.size := by have := hb4.size; omega
    clear hb4 z0 z1 z2 z3 z4 z5 z6 z7 z8 z9 z10 z11 z12 z13 z14 hs3
    obtain ⟨z0, z1, z2, z3, z4, z5, z6, z7, z8, z9, z10, z11, z12, z13, z14⟩ := KB.out _ HK5.out
    have HZ4 := HZ3
    cases bb with
    | false =>
      obtain rfl : z = false := by rw [← HZ3.out]; rfl
      go_wp2_with fail
      go_ret
      exact ⟨rfl, HB5.out⟩
    | true =>
    by_cases ef : x.f = 0
    case neg =>
      have qf : (x.f == 0) = false := by rw [beq_eq_false_iff_ne]; omega
      obtain rfl : z = false := by rw [← HZ3.out, decide_eq_false ef]; simp
      clear ef
      go_wp2_with fail
      go_ret
      exact ⟨rfl, HB5.out⟩
    have qf : (x.f == 0) = true := by rw [beq_iff_eq]; omega
    by_cases ep : x.p = 0
    case neg =>
      have qp : (x.p == 0) = false := by rw [beq_eq_false_iff_ne]; omega
      obtain rfl : z = false := by rw [← HZ3.out, decide_eq_false ep]; simp
      clear ef ep
      go_wp2_with fail
      go_ret
      exact ⟨rfl, HB5.out⟩
    have qp : (x.p == 0) = true := by rw [beq_iff_eq]; omega
    by_cases ea : x.a = 0
    case neg =>
      have qa : (x.a == 0) = false := by rw [beq_eq_false_iff_ne]; omega
      obtain rfl : z = false := by rw [← HZ3.out, decide_eq_false ea]; simp
      clear ef ep ea
      go_wp2_with fail
      go_ret
      exact ⟨rfl, HB5.out⟩
    have qa : (x.a == 0) = true := by rw [beq_iff_eq]; omega
    by_cases ei : x.i = 0
    case neg =>
      have qi : (x.i == 0) = false := by rw [beq_eq_false_iff_ne]; omega
      obtain rfl : z = false := by rw [← HZ3.out, decide_eq_false ei]; simp
      clear ef ep ea ei
      go_wp2_with fail
      go_ret
      exact ⟨rfl, HB5.out⟩
    have qi : (x.i == 0) = true := by rw [beq_iff_eq]; omega
    by_cases ev : x.v = 0
    case neg =>
      have qv : (x.v == 0) = false := by rw [beq_eq_false_iff_ne]; omega
      obtain rfl : z = false := by rw [← HZ3.out, decide_eq_false ev]; simp
      clear ef ep ea ei ev
      go_wp2_with fail
      go_ret
      exact ⟨rfl, HB5.out⟩
    have qv : (x.v == 0) = true := by rw [beq_iff_eq]; omega
    by_cases ec : x.c.length = 0
    case neg =>
      have qc : ((x.c.length : Int) == 0) = false := by rw [beq_eq_false_iff_ne]; omega
      obtain rfl : z = false := by rw [← HZ3.out, decide_eq_false ec]; simp
      clear ef ep ea ei ev ec
      go_wp2_with fail
      go_ret
      exact ⟨rfl, HB5.out⟩
    have qc : ((x.c.length : Int) == 0) = true := by rw [beq_iff_eq]; omega
    by_cases ed : x.d.length = 0
    case neg =>
      have qd : ((x.d.length : Int) == 0) = false := by rw [beq_eq_false_iff_ne]; omega
      obtain rfl : z = false := by rw [← HZ3.out, decide_eq_false ed]; simp
      clear ef ep ea ei ev ec ed
      go_wp2_with fail
      go_ret
      exact ⟨rfl, HB5.out⟩
    have qd : ((x.d.length : Int) == 0) = true := by rw [beq_iff_eq]; omega
    obtain rfl : z = true := by rw [← HZ3.out, decide_eq_true ef, decide_eq_true ep, decide_eq_true ea, decide_eq_true ei, decide_eq_true ev, decide_eq_true ec, decide_eq_true ed]; rfl
    clear ef ep ea ei ev ec ed HZ3 HZ4
    go_wp2_with fail
    go_ret
    exact ⟨rfl, HB5.out⟩
  have t3 : (x.k == 3) = false := by simpa using k3
  by_cases k24 : x.k = 2 ∨ x.k = 4
  case neg =>
    have t2 : (x.k != 2) = true := by rw [bne_iff_ne]; omega
    have t4 : (x.k != 4) = true := by rw [bne_iff_ne]; omega
    obtain rfl : z = false := by rw [← HZ1.out, if_neg k1, if_neg k3, if_neg (by omega), if_neg (by omega)]; rfl
    clear k24 k1 k3 CL CB CF CN CO
    go_wp2_with fail
    go_ret
    exact ⟨rfl, HB4.out⟩
  have HZ2 : Hid ((ro && (if x.k = 2 then conR l x else fldR l x)) = z) := Lib.hid (by
    have := HZ1.out
    rw [if_neg k1, if_neg k3] at this
    rcases k24 with h | h
    · rw [if_pos h] at this; rw [if_pos h]; exact this
    · rw [if_neg (show ¬ x.k = 2 by omega), if_pos h] at this; rw [if_neg (show ¬ x.k = 2 by omega)]; exact this)
  clear CL CB CF CN k1 k3 HZ1
  have HK24 := Lib.hid k24
  cases ro with
  | false =>
    obtain rfl : z = false := by rw [← HZ2.out]; rfl
    rcases k24 with h | h
    · have t2 : (x.k != 2) = false := by rw [bne_eq_false_iff_eq]; exact h
      clear h
      go_wp2_with fail
      refine (CO.out _ HB4.out).mono ?_
      rintro e w4 ⟨rfl, hb4⟩
      go_wp2_with fail
      go_ret
      exact ⟨rfl, HB4.out.trans (hb4.mono HB4.out.size)⟩
    · have t2 : (x.k != 2) = true := by rw [bne_iff_ne]; omega
      have t4 : (x.k != 4) = false := by rw [bne_eq_false_iff_eq]; exact h
      clear h
      go_wp2_with fail
      refine (CO.out _ HB4.out).mono ?_
      rintro e w4 ⟨rfl, hb4⟩
      go_wp2_with fail
      go_ret
      exact ⟨rfl, HB4.out.trans (hb4.mono HB4.out.size)⟩
  | true =>
  obtain ⟨j, hf, hji, hj, hjk, hxa⟩ := HOF.out (by first | rfl | trivial)
  have hfo := HFO.out j hj hji hjk
  obtain ⟨ps, hps⟩ : ∃ n : Nat, x.a = (n : Int) := ⟨x.a.toNat, by omega⟩
  obtain ⟨b', o', q, hA', -, hbh, hy, henty⟩ := HN.out j hj
  obtain ⟨rfl, rfl⟩ : b = b' ∧ o = o' := by
    injection hA' with r
    injection r with r1 r2
    exact ⟨r1, r2⟩
  obtain ⟨mo, hmo⟩ : ∃ n : Nat, l[j].i = (n : Int) := ⟨l[j].i.toNat, by omega⟩
  have HCR : Hid (conR l x = (decide (ts.length ≤ 24) && (decide (ps ≤ ts.length) && appB (benT x.t) (j : Int) ps mo ts.length))) := Lib.hid (by
    unfold conR
    rw [famAt_nat hf hj, ← HTL.out, hps, hf]
    dsimp only
    rw [hmo, Int.toNat_natCast, Int.toNat_natCast]
    have e : decide (ps ≤ ts.length) = decide ((ps : Int) ≤ (ts.length : Int)) := by congr 1; apply propext; omega
    rw [e])
  have HFR : Hid (fldR l x = (decide (ps + 1 ≤ 24) && (decide (ps + 1 ≤ ts.length) && appB (fldT x) (j : Int) ps 0 ps))) := Lib.hid (by
    unfold fldR
    rw [← HTL.out, hps, hf, Int.toNat_natCast]
    have e : decide (ps + 1 ≤ ts.length) = decide ((ps : Int) + 1 ≤ (ts.length : Int)) := by congr 1; apply propext; omega
    have e2 : decide (ps + 1 ≤ 24) = decide ((ps : Int) + 1 ≤ 24) := by congr 1; apply propext; omega
    rw [e, e2])
  have hps24 : (ps : Int) ≤ 24 := by omega
  have hmo24 : (mo : Int) ≤ 24 := by omega
  have HFT := Lib.hid (fun (h : ps < ts.length) => (show ts[ps] = fldT x ∧ shapedB (fldT x) = true from by
    have e := HTS.out
    subst e
    unfold fldT
    rw [hps, Int.toNat_natCast, List.getElem?_eq_getElem h]
    exact ⟨rfl, HTF2.out.2.2.2 _ (List.getElem_mem h)⟩))
  have HUS := Lib.hid HTF2.out.2.2.1
  have HF := Lib.hid hf
  have HPS := Lib.hid hps
  have HYC := Lib.hid (fun (V : World) (hV : Below w.heap.size w V) => (show V.cell? ⟨b, o + j * 15 + 11, none⟩ = some (.int .i64 mo) from by rw [(hy.kept hV hbw).c11, hmo]))
  have hj0 : (j : Int) < (l.length : Int) := by omega
  have hj1 : (j : Int) < 600 := by omega
  clear henty hA' hy hfo hjk hxa HOF HFO HTF2 HN k24 hf hps hmo HTS
  by_cases h : x.k = 2
  · have HZ3 : Hid (conR l x = z) := Lib.hid (by have := HZ2.out; rw [if_pos h] at this; exact this)
    rw [HCR.out] at HZ3
    have t2 : (x.k != 2) = false := by rw [bne_eq_false_iff_eq]; exact h
    have t22 : (x.k == 2) = true := by rw [beq_iff_eq]; exact h
    clear h
    go_wp2_with fail
    refine (CO.out _ HB4.out).mono ?_
    rintro e X ⟨rfl, hb4⟩
    have HBX := Lib.hid (HB4.out.trans (hb4.mono HB4.out.size))
    have HKX := Lib.hid (HK4.out.trans (hb4.mono HK4.out.size))
    have HXS := Lib.hid (show w.heap.size < X.heap.size by have := hb4.size; omega)
    clear hb4 z0 z1 z2 z3 z4 z5 z6 z7 z8 z9 z10 z11 z12 z13 z14 hs3
    obtain ⟨z0, z1, z2, z3, z4, z5, z6, z7, z8, z9, z10, z11, z12, z13, z14⟩ := KB.out _ HKX.out
    have hbk := Lib.hid ((Below.refl X.heap.size X).drew)
    have HK := Lib.hid (fun (V : World) (hV : Below X.heap.size X V) => (show V.cell? ⟨w.heap.size, 2, none⟩ = some (.int .i64 x.t.k) ∧ V.cell? ⟨w.heap.size, 3, none⟩ = some (.int .i64 x.t.n) ∧ V.cell? ⟨w.heap.size, 4, none⟩ = some (.slice p.T x.t.l.length p.tc) ∧ V.cell? ⟨w.heap.size, 8, none⟩ = some (.int .i64 j) ∧ V.cell? ⟨w.heap.size, 10, none⟩ = some (.int .i64 ps) ∧ V.cell? ⟨b, o + j * 15 + 11, none⟩ = some (.int .i64 mo) from by
      have k := KB.out V (HKX.out.trans (hV.mono HKX.out.size))
      exact ⟨k.c2, k.c3, k.c4, by rw [k.c8, HF.out], by rw [k.c10, HPS.out], HYC.out V (HBX.out.trans (hV.mono HBX.out.size))⟩))
    go_wp2_with fail
    clear z0 z1 z2 z3 z4 z5 z6 z7 z8 z9 z10 z11 z12 z13 z14
    have CBN := Lib.hid (fun (V : World) (hV : Below X.heap.size X V) => CBE2.out V (HBX.out.trans (hV.mono HBX.out.size)))
    unfold GivesB at CBN
    obtain ⟨u, hu⟩ : ∃ u, benT x.t = u := ⟨_, rfl⟩
    rw [hu] at CBN HZ3 HUS
    unfold termV at CBN
    have CAP : Hid (∀ (V : World) (T7 : Option Addr) (c7 : Nat), IsTerm V lo hh u T7 c7 → hh ≤ V.heap.size → ts.length ≤ 24 → Calls Tryz.prog 37 #[.agg #[.int .i64 u.k, .int .i64 u.n, .slice T7 u.l.length c7], .int .i64 j, .int .i64 ps, .int .i64 mo, .int .i64 ts.length] V fun e w' => e = .returned (.bool (appB u (j : Int) ps mo ts.length)) ∧ Below V.heap.size V w') := Lib.hid (fun V T7 c7 h1 h2 h3 => app12_any u (j : Int) ps mo ts.length lo hh T7 c7 V h1 h2 HUS.out (by omega) (by omega) (by omega))
    obtain ⟨ra, hra⟩ : ∃ r, appB u (j : Int) ps mo ts.length = r := ⟨_, rfl⟩
    rw [hra] at CAP HZ3
    clear hu hra CBE2 HCR HFR HFT
    by_cases e1 : ts.length ≤ 24
    case neg =>
      have q1 : decide ((ts.length : Int) ≤ 24) = false := decide_eq_false (by omega)
      have q1' : decide (ts.length ≤ 24) = false := decide_eq_false e1
      obtain rfl : z = false := by rw [← HZ3.out, decide_eq_false e1]; rfl
      clear e1
      refine wp_region_held_drew (S := fun w' => w'.cell? ⟨w.heap.size, 2, none⟩ = some (.int .i64 x.t.k) ∧ w'.cell? ⟨w.heap.size, 3, none⟩ = some (.int .i64 x.t.n) ∧ w'.cell? ⟨w.heap.size, 4, none⟩ = some (.slice p.T x.t.l.length p.tc) ∧ w'.cell? ⟨w.heap.size, 8, none⟩ = some (.int .i64 j) ∧ w'.cell? ⟨w.heap.size, 10, none⟩ = some (.int .i64 ps) ∧ w'.cell? ⟨b, o + j * 15 + 11, none⟩ = some (.int .i64 mo)) (by kernel_rfl) ?_ (fun hHeld => ?_)
      · exact HK.out _ hbk.out
      refine tkp [0, 1, 2] ?_
      iterate 3 (refine tkq (v := ?_) (by rfl) (by kernel_rfl) (by exact fun _ _ _ h => h) (by rfl) (HK.out _ hbk.out) ?_ ?_; rotate_left; (intro w hSw; (try dsimp only at hSw); go_simp; (try with_reducible rfl)); simp only [Act.put, List.setIfInBounds_toArray, List.set_cons_zero, List.set_cons_succ])
      refine tke ?_
      refine tko (by kernel_rfl) (fun _ _ _ _ h => h) (HK.out _ hbk.out) [(3, 96), (4, 97), (5, 98), (6, 99)] 4 rfl _ _ (by kernel_rfl) ?_
      simp only [offA, offL, Act.put, List.setIfInBounds_toArray, List.set_cons_zero, List.set_cons_succ]
      refine tkp [7, 8] ?_
      iterate 2 (refine tkq (v := ?_) (by rfl) (by kernel_rfl) (by exact fun _ _ _ h => h) (by rfl) (HK.out _ hbk.out) ?_ ?_; rotate_left; (intro w hSw; (try dsimp only at hSw); go_simp; (try with_reducible rfl)); simp only [Act.put, List.setIfInBounds_toArray, List.set_cons_zero, List.set_cons_succ])
      refine tke ?_
      refine tko (by kernel_rfl) (fun _ _ _ _ h => h) (HK.out _ hbk.out) [(9, 102), (10, 103), (11, 104), (12, 105), (13, 106), (14, 107), (15, 108), (16, 109), (17, 110), (18, 111), (19, 112), (20, 113), (21, 114), (22, 115), (23, 116)] 15 rfl _ _ (by kernel_rfl) ?_
      simp only [offA, offL, Act.put, List.setIfInBounds_toArray, List.set_cons_zero, List.set_cons_succ]
      refine tkp [24, 25] ?_
      iterate 2 (refine tkq (v := ?_) (by rfl) (by kernel_rfl) (by exact fun _ _ _ h => h) (by rfl) (HK.out _ hbk.out) ?_ ?_; rotate_left; (intro w hSw; (try dsimp only at hSw); go_simp; (try with_reducible rfl)); simp only [Act.put, List.setIfInBounds_toArray, List.set_cons_zero, List.set_cons_succ])
      refine tke ?_
      refine wpAnyH_done (by kernel_rfl) ?_ _
      go_wp2_with fail
      go_ret
      exact ⟨rfl, HBX.out.trans (hbk.out.mono HBX.out.size)⟩
    have q1 : decide ((ts.length : Int) ≤ 24) = true := decide_eq_true (by omega)
    have q1' : decide (ts.length ≤ 24) = true := decide_eq_true e1
    have HE1 := Lib.hid e1
    by_cases e2 : ps ≤ ts.length
    case neg =>
      have q2 : decide ((ps : Int) ≤ (ts.length : Int)) = false := decide_eq_false (by omega)
      have q2' : decide (ps ≤ ts.length) = false := decide_eq_false e2
      have q2'' : decide ((ts.length : Int) ≥ (ps : Int)) = false := decide_eq_false (by omega)
      obtain rfl : z = false := by rw [← HZ3.out, decide_eq_false e2]; simp
      clear e1 e2
      refine wp_region_held_drew (S := fun w' => w'.cell? ⟨w.heap.size, 2, none⟩ = some (.int .i64 x.t.k) ∧ w'.cell? ⟨w.heap.size, 3, none⟩ = some (.int .i64 x.t.n) ∧ w'.cell? ⟨w.heap.size, 4, none⟩ = some (.slice p.T x.t.l.length p.tc) ∧ w'.cell? ⟨w.heap.size, 8, none⟩ = some (.int .i64 j) ∧ w'.cell? ⟨w.heap.size, 10, none⟩ = some (.int .i64 ps) ∧ w'.cell? ⟨b, o + j * 15 + 11, none⟩ = some (.int .i64 mo)) (by kernel_rfl) ?_ (fun hHeld => ?_)
      · exact HK.out _ hbk.out
      refine tkp [0, 1, 2, 3, 4, 5, 6, 7, 8] ?_
      iterate 9 (refine tkq (v := ?_) (by rfl) (by kernel_rfl) (by exact fun _ _ _ h => h) (by rfl) (HK.out _ hbk.out) ?_ ?_; rotate_left; (intro w hSw; (try dsimp only at hSw); go_simp; (try with_reducible rfl)); simp only [Act.put, List.setIfInBounds_toArray, List.set_cons_zero, List.set_cons_succ])
      refine tke ?_
      refine tko (by kernel_rfl) (fun _ _ _ _ h => h) (HK.out _ hbk.out) [(9, 102), (10, 103), (11, 104), (12, 105), (13, 106), (14, 107), (15, 108), (16, 109), (17, 110), (18, 111), (19, 112), (20, 113), (21, 114), (22, 115), (23, 116)] 15 rfl _ _ (by kernel_rfl) ?_
      simp only [offA, offL, Act.put, List.setIfInBounds_toArray, List.set_cons_zero, List.set_cons_succ]
      refine tkp [24, 25] ?_
      iterate 2 (refine tkq (v := ?_) (by rfl) (by kernel_rfl) (by exact fun _ _ _ h => h) (by rfl) (HK.out _ hbk.out) ?_ ?_; rotate_left; (intro w hSw; (try dsimp only at hSw); go_simp; (try with_reducible rfl)); simp only [Act.put, List.setIfInBounds_toArray, List.set_cons_zero, List.set_cons_succ])
      refine tke ?_
      refine wpAnyH_done (by kernel_rfl) ?_ _
      go_wp2_with fail
      go_ret
      exact ⟨rfl, HBX.out.trans (hbk.out.mono HBX.out.size)⟩
    have q2 : decide ((ps : Int) ≤ (ts.length : Int)) = true := decide_eq_true (by omega)
    have q2' : decide (ps ≤ ts.length) = true := decide_eq_true e2
    have q2'' : decide ((ts.length : Int) ≥ (ps : Int)) = true := decide_eq_true (by omega)
    obtain rfl : ra = z := by rw [← HZ3.out, decide_eq_true e1, decide_eq_true e2]; rfl
    clear e1 e2 HZ3
    refine wp_region_held_drew (S := fun w' => w'.cell? ⟨w.heap.size, 2, none⟩ = some (.int .i64 x.t.k) ∧ w'.cell? ⟨w.heap.size, 3, none⟩ = some (.int .i64 x.t.n) ∧ w'.cell? ⟨w.heap.size, 4, none⟩ = some (.slice p.T x.t.l.length p.tc) ∧ w'.cell? ⟨w.heap.size, 8, none⟩ = some (.int .i64 j) ∧ w'.cell? ⟨w.heap.size, 10, none⟩ = some (.int .i64 ps) ∧ w'.cell? ⟨b, o + j * 15 + 11, none⟩ = some (.int .i64 mo)) (by kernel_rfl) ?_ (fun hHeld => ?_)
    · exact HK.out _ hbk.out
    refine tkp [0, 1, 2, 3, 4, 5, 6, 7, 8, 9, 10, 12, 13, 14, 15, 16, 17, 18, 19, 20, 21, 22] ?_
    iterate 22 (refine tkq (v := ?_) (by rfl) (by kernel_rfl) (by exact fun _ _ _ h => h) (by rfl) (HK.out _ hbk.out) ?_ ?_; rotate_left; (intro w hSw; (try dsimp only at hSw); go_simp; (try with_reducible rfl)); simp only [Act.put, List.setIfInBounds_toArray, List.set_cons_zero, List.set_cons_succ])
    refine tke ?_
    refine wpAnyH_ready (rs := [11]) (by kernel_rfl) (by simp) ?_
    refine AllReadyH.cons (o := ({ dst := some 104, op := Op.call { callee := Callee.value (Operand.func 38), args := #[Operand.tmp 103], argTypes := #[31] }, type := 31, pos := "ref.go:116", after := #[{ on := 10, ground := Ground.data }, { on := 8, ground := Ground.chain }, { on := 8, ground := Ground.guard }], guard := some (8, true) } : Oper)) rfl (fun K hK => ?_) AllReadyH.nil
    go_simp
    refine (CBN.out _ hbk.out).mono ?_; rintro e w5 ⟨T7, c7, rfl, hu7, hbn⟩
    have hbk := Lib.hid (hbk.out.trans (hbn.mono hbk.out.size))
    have HU7 := Lib.hid hu7
    have HH7 := Lib.hid (show hh ≤ w5.heap.size by have := HBX.out.size; have := hbk.out.size; omega)
    clear hbn hu7
    try (dsimp only)
    try go_wp2_with fail
    refine hK.out _ _ (HK.out _ hbk.out) (fun hHeld => ?_)
    clear hK K
    try simp only [Act.put, List.setIfInBounds_toArray, List.set_cons_zero, List.set_cons_succ]
    refine wpAnyH_ready (rs := [23]) (by kernel_rfl) (by simp) ?_
    refine AllReadyH.cons (o := ({ dst := some 116, op := Op.call { callee := Callee.value (Operand.func 37), args := #[Operand.tmp 104, Operand.tmp 106, Operand.tmp 108, Operand.tmp 114, Operand.tmp 115], argTypes := #[31, 3, 3, 3, 3] }, type := 4, pos := "ref.go:116", after := #[{ on := 11, ground := Ground.data }, { on := 13, ground := Ground.data }, { on := 15, ground := Ground.data }, { on := 21, ground := Ground.data }, { on := 22, ground := Ground.data }, { on := 11, ground := Ground.chain }, { on := 8, ground := Ground.guard }], guard := some (8, true) } : Oper)) rfl (fun K hK => ?_) AllReadyH.nil
    go_simp
    refine (CAP.out _ T7 c7 HU7.out HH7.out HE1.out).mono ?_; rintro e w6 ⟨rfl, hbn⟩
    have hbk := Lib.hid (hbk.out.trans (hbn.mono hbk.out.size))
    clear hbn
    try (dsimp only)
    try go_wp2_with fail
    refine hK.out _ _ (HK.out _ hbk.out) (fun hHeld => ?_)
    clear hK K
    try simp only [Act.put, List.setIfInBounds_toArray, List.set_cons_zero, List.set_cons_succ]
    refine tkp [24, 25] ?_
    iterate 2 (refine tkq (v := ?_) (by rfl) (by kernel_rfl) (by exact fun _ _ _ h => h) (by rfl) (HK.out _ hbk.out) ?_ ?_; rotate_left; (intro w hSw; (try dsimp only at hSw); go_simp; (try with_reducible rfl)); simp only [Act.put, List.setIfInBounds_toArray, List.set_cons_zero, List.set_cons_succ])
    refine tke ?_
    refine wpAnyH_done (by kernel_rfl) ?_ _
    go_wp2_with fail
    go_ret
    exact ⟨rfl, HBX.out.trans (hbk.out.mono HBX.out.size)⟩
  · have HZ3 : Hid (fldR l x = z) := Lib.hid (by have := HZ2.out; rw [if_neg h] at this; exact this)
    rw [HFR.out] at HZ3
    have t2 : (x.k != 2) = true := by rw [bne_iff_ne]; exact h
    have t4 : (x.k != 4) = false := by rw [bne_eq_false_iff_eq]; have := HK24.out; omega
    have t22 : (x.k == 2) = false := by rw [beq_eq_false_iff_ne]; exact h
    clear h
    go_wp2_with fail
    refine (CO.out _ HB4.out).mono ?_
    rintro e X ⟨rfl, hb4⟩
    have HBX := Lib.hid (HB4.out.trans (hb4.mono HB4.out.size))
    have HKX := Lib.hid (HK4.out.trans (hb4.mono HK4.out.size))
    have HXS := Lib.hid (show w.heap.size < X.heap.size by have := hb4.size; omega)
    clear hb4 z0 z1 z2 z3 z4 z5 z6 z7 z8 z9 z10 z11 z12 z13 z14 hs3
    obtain ⟨z0, z1, z2, z3, z4, z5, z6, z7, z8, z9, z10, z11, z12, z13, z14⟩ := KB.out _ HKX.out
    have hbk := Lib.hid ((Below.refl X.heap.size X).drew)
    have HK := Lib.hid (fun (V : World) (hV : Below X.heap.size X V) => (show V.cell? ⟨w.heap.size, 2, none⟩ = some (.int .i64 x.t.k) ∧ V.cell? ⟨w.heap.size, 3, none⟩ = some (.int .i64 x.t.n) ∧ V.cell? ⟨w.heap.size, 4, none⟩ = some (.slice p.T x.t.l.length p.tc) ∧ V.cell? ⟨w.heap.size, 8, none⟩ = some (.int .i64 j) ∧ V.cell? ⟨w.heap.size, 10, none⟩ = some (.int .i64 ps) ∧ V.cell? ⟨b, o + j * 15 + 11, none⟩ = some (.int .i64 mo) from by
      have k := KB.out V (HKX.out.trans (hV.mono HKX.out.size))
      exact ⟨k.c2, k.c3, k.c4, by rw [k.c8, HF.out], by rw [k.c10, HPS.out], HYC.out V (HBX.out.trans (hV.mono HBX.out.size))⟩))
    go_wp2_with fail
    clear z0 z1 z2 z3 z4 z5 z6 z7 z8 z9 z10 z11 z12 z13 z14
    have CTN := Lib.hid (fun (V : World) (hV : Below X.heap.size X V) => CT2.out V (HBX.out.trans (hV.mono HBX.out.size)))
    have wr1 : IntKind.i64.wrap ((ps : Int) + 1) = (ps : Int) + 1 := IntWalk.i64_in _ (by omega)
    clear CT2 CBE2 HCR HFR
    by_cases e1 : ps + 1 ≤ 24
    case neg =>
      have q1 : decide ((ps : Int) + 1 ≤ 24) = false := decide_eq_false (by omega)
      obtain rfl : z = false := by rw [← HZ3.out, decide_eq_false e1]; rfl
      clear e1
      refine wp_region_held_drew (S := fun w' => w'.cell? ⟨w.heap.size, 2, none⟩ = some (.int .i64 x.t.k) ∧ w'.cell? ⟨w.heap.size, 3, none⟩ = some (.int .i64 x.t.n) ∧ w'.cell? ⟨w.heap.size, 4, none⟩ = some (.slice p.T x.t.l.length p.tc) ∧ w'.cell? ⟨w.heap.size, 8, none⟩ = some (.int .i64 j) ∧ w'.cell? ⟨w.heap.size, 10, none⟩ = some (.int .i64 ps) ∧ w'.cell? ⟨b, o + j * 15 + 11, none⟩ = some (.int .i64 mo)) (by kernel_rfl) ?_ (fun hHeld => ?_)
      · exact HK.out _ hbk.out
      refine tkp [0, 1, 2, 3, 4] ?_
      iterate 5 (refine tkq (v := ?_) (by rfl) (by kernel_rfl) (by exact fun _ _ _ h => h) (by rfl) (HK.out _ hbk.out) ?_ ?_; rotate_left; (intro w hSw; (try dsimp only at hSw); go_simp; (try with_reducible rfl)); simp only [Act.put, List.setIfInBounds_toArray, List.set_cons_zero, List.set_cons_succ])
      refine tke ?_
      refine tko (by kernel_rfl) (fun _ _ _ _ h => h) (HK.out _ hbk.out) [(5, 123), (6, 124), (7, 125), (8, 126), (9, 127)] 5 rfl _ _ (by kernel_rfl) ?_
      simp only [offA, offL, Act.put, List.setIfInBounds_toArray, List.set_cons_zero, List.set_cons_succ]
      refine tkp [10, 11] ?_
      iterate 2 (refine tkq (v := ?_) (by rfl) (by kernel_rfl) (by exact fun _ _ _ h => h) (by rfl) (HK.out _ hbk.out) ?_ ?_; rotate_left; (intro w hSw; (try dsimp only at hSw); go_simp; (try with_reducible rfl)); simp only [Act.put, List.setIfInBounds_toArray, List.set_cons_zero, List.set_cons_succ])
      refine tke ?_
      refine tko (by kernel_rfl) (fun _ _ _ _ h => h) (HK.out _ hbk.out) [(12, 130), (13, 131), (14, 132), (15, 133), (16, 134), (17, 135), (18, 136), (19, 137), (20, 138), (21, 139), (22, 140), (23, 141), (24, 142), (25, 143)] 14 rfl _ _ (by kernel_rfl) ?_
      simp only [offA, offL, Act.put, List.setIfInBounds_toArray, List.set_cons_zero, List.set_cons_succ]
      refine tkp [26, 27] ?_
      iterate 2 (refine tkq (v := ?_) (by rfl) (by kernel_rfl) (by exact fun _ _ _ h => h) (by rfl) (HK.out _ hbk.out) ?_ ?_; rotate_left; (intro w hSw; (try dsimp only at hSw); go_simp; (try with_reducible rfl)); simp only [Act.put, List.setIfInBounds_toArray, List.set_cons_zero, List.set_cons_succ])
      refine tke ?_
      refine wpAnyH_done (by kernel_rfl) ?_ _
      go_wp2_with fail
      go_ret
      exact ⟨rfl, HBX.out.trans (hbk.out.mono HBX.out.size)⟩
    have q1 : decide ((ps : Int) + 1 ≤ 24) = true := decide_eq_true (by omega)
    by_cases e2 : ps + 1 ≤ ts.length
    case neg =>
      have q2 : decide ((ps : Int) + 1 ≤ (ts.length : Int)) = false := decide_eq_false (by omega)
      have q2' : decide ((ts.length : Int) ≥ (ps : Int) + 1) = false := decide_eq_false (by omega)
      obtain rfl : z = false := by rw [← HZ3.out, decide_eq_false e2]; simp
      clear e1 e2
      refine wp_region_held_drew (S := fun w' => w'.cell? ⟨w.heap.size, 2, none⟩ = some (.int .i64 x.t.k) ∧ w'.cell? ⟨w.heap.size, 3, none⟩ = some (.int .i64 x.t.n) ∧ w'.cell? ⟨w.heap.size, 4, none⟩ = some (.slice p.T x.t.l.length p.tc) ∧ w'.cell? ⟨w.heap.size, 8, none⟩ = some (.int .i64 j) ∧ w'.cell? ⟨w.heap.size, 10, none⟩ = some (.int .i64 ps) ∧ w'.cell? ⟨b, o + j * 15 + 11, none⟩ = some (.int .i64 mo)) (by kernel_rfl) ?_ (fun hHeld => ?_)
      · exact HK.out _ hbk.out
      refine tkp [0, 1, 2, 3, 4, 5, 6, 7, 8, 9, 10, 11] ?_
      iterate 12 (refine tkq (v := ?_) (by rfl) (by kernel_rfl) (by exact fun _ _ _ h => h) (by rfl) (HK.out _ hbk.out) ?_ ?_; rotate_left; (intro w hSw; (try dsimp only at hSw); go_simp; (try with_reducible rfl)); simp only [Act.put, List.setIfInBounds_toArray, List.set_cons_zero, List.set_cons_succ])
      refine tke ?_
      refine tko (by kernel_rfl) (fun _ _ _ _ h => h) (HK.out _ hbk.out) [(12, 130), (13, 131), (14, 132), (15, 133), (16, 134), (17, 135), (18, 136), (19, 137), (20, 138), (21, 139), (22, 140), (23, 141), (24, 142), (25, 143)] 14 rfl _ _ (by kernel_rfl) ?_
      simp only [offA, offL, Act.put, List.setIfInBounds_toArray, List.set_cons_zero, List.set_cons_succ]
      refine tkp [26, 27] ?_
      iterate 2 (refine tkq (v := ?_) (by rfl) (by kernel_rfl) (by exact fun _ _ _ h => h) (by rfl) (HK.out _ hbk.out) ?_ ?_; rotate_left; (intro w hSw; (try dsimp only at hSw); go_simp; (try with_reducible rfl)); simp only [Act.put, List.setIfInBounds_toArray, List.set_cons_zero, List.set_cons_succ])
      refine tke ?_
      refine wpAnyH_done (by kernel_rfl) ?_ _
      go_wp2_with fail
      go_ret
      exact ⟨rfl, HBX.out.trans (hbk.out.mono HBX.out.size)⟩
    have q2 : decide ((ps : Int) + 1 ≤ (ts.length : Int)) = true := decide_eq_true (by omega)
    have q2' : decide ((ts.length : Int) ≥ (ps : Int) + 1) = true := decide_eq_true (by omega)
    have hpt : (ps : Int) < (ts.length : Int) := by omega
    have hpt' : ps < ts.length := by omega
    obtain ⟨hel, hsf⟩ := HFT.out hpt'
    obtain ⟨f, hff⟩ : ∃ f, fldT x = f := ⟨_, rfl⟩
    rw [hff] at hel hsf HZ3
    have HEL := Lib.hid hel
    have HSF := Lib.hid hsf
    have CAP : Hid (∀ (V : World) (T7 : Option Addr) (c7 hi7 : Nat), IsTerm V 0 hi7 f T7 c7 → hi7 ≤ V.heap.size → Calls Tryz.prog 37 #[.agg #[.int .i64 f.k, .int .i64 f.n, .slice T7 f.l.length c7], .int .i64 j, .int .i64 ps, .int .i64 0, .int .i64 ps] V fun e w' => e = .returned (.bool (appB f (j : Int) ps 0 ps)) ∧ Below V.heap.size V w') := Lib.hid (fun V T7 c7 hi7 h1 h2 => app12_any f (j : Int) ps 0 ps 0 hi7 T7 c7 V h1 h2 HSF.out (by omega) (by omega) (by omega))
    obtain ⟨ra, hra⟩ : ∃ r, appB f (j : Int) ps 0 ps = r := ⟨_, rfl⟩
    rw [hra] at CAP HZ3
    obtain rfl : ra = z := by rw [← HZ3.out, decide_eq_true e1, decide_eq_true e2]; rfl
    clear e1 e2 HZ3 hel hsf hff hra HFT
    refine wp_region_held_drew (S := fun w' => w'.cell? ⟨w.heap.size, 2, none⟩ = some (.int .i64 x.t.k) ∧ w'.cell? ⟨w.heap.size, 3, none⟩ = some (.int .i64 x.t.n) ∧ w'.cell? ⟨w.heap.size, 4, none⟩ = some (.slice p.T x.t.l.length p.tc) ∧ w'.cell? ⟨w.heap.size, 8, none⟩ = some (.int .i64 j) ∧ w'.cell? ⟨w.heap.size, 10, none⟩ = some (.int .i64 ps) ∧ w'.cell? ⟨b, o + j * 15 + 11, none⟩ = some (.int .i64 mo)) (by kernel_rfl) ?_ (fun hHeld => ?_)
    · exact HK.out _ hbk.out
    refine tkp [0, 1, 2, 3, 4, 5, 6, 7, 8, 9, 10, 11, 12, 13, 15, 16, 19, 20, 21, 22, 23, 24] ?_
    iterate 22 (refine tkq (v := ?_) (by rfl) (by kernel_rfl) (by exact fun _ _ _ h => h) (by rfl) (HK.out _ hbk.out) ?_ ?_; rotate_left; (intro w hSw; (try dsimp only at hSw); go_simp; (try with_reducible rfl)); simp only [Act.put, List.setIfInBounds_toArray, List.set_cons_zero, List.set_cons_succ])
    refine tke ?_
    refine wpAnyH_ready (rs := [14]) (by kernel_rfl) (by simp) ?_
    refine AllReadyH.cons (o := ({ dst := some 132, op := Op.call { callee := Callee.value (Operand.func 34), args := #[Operand.tmp 131], argTypes := #[31] }, type := 29, pos := "ref.go:118", after := #[{ on := 13, ground := Ground.data }, { on := 11, ground := Ground.chain }, { on := 11, ground := Ground.guard }], guard := some (11, true) } : Oper)) rfl (fun K hK => ?_) AllReadyH.nil
    go_simp
    refine (CTN.out _ hbk.out).mono ?_; rintro e w5 ⟨A7, c7, rfl, ht7, hbn⟩
    have hbk := Lib.hid (hbk.out.trans (hbn.mono hbk.out.size))
    obtain ⟨bt, ot, FT, CT, hAt, -, hbt, hxt, hnt⟩ := ht7.sub ps hpt'
    subst hAt
    rw [HEL.out] at hxt hnt
    obtain ⟨y0, y1, y2⟩ := hxt
    have hbt5 : bt < w5.heap.size := hbt
    have HNT := Lib.hid hnt
    clear hbn ht7 hnt
    try (dsimp only)
    try go_wp2_with fail
    refine hK.out _ _ (HK.out _ hbk.out) (fun hHeld => ?_)
    clear hK K
    try simp only [Act.put, List.setIfInBounds_toArray, List.set_cons_zero, List.set_cons_succ]
    refine tkp [17] ?_
    iterate 1 (refine tkq (v := ?_) (by rfl) (by kernel_rfl) (by exact fun _ _ _ h => h) (by rfl) (HK.out _ hbk.out) ?_ ?_; rotate_left; (intro w hSw; (try dsimp only at hSw); go_simp; (try with_reducible rfl)); simp only [Act.put, List.setIfInBounds_toArray, List.set_cons_zero, List.set_cons_succ])
    refine tke ?_
    refine wpAnyH_ready (rs := [18]) (by kernel_rfl) (by simp) ?_
    refine AllReadyH.cons (o := ({ dst := some 136, op := Op.load 31 (Operand.tmp 135), type := 31, pos := "ref.go:118", after := #[{ on := 17, ground := Ground.data }, { on := 11, ground := Ground.guard }], guard := some (11, true) } : Oper)) rfl (fun K hK => ?_) AllReadyH.nil
    go_simp
    clear y0 y1 y2
    try (dsimp only)
    try go_wp2_with fail
    refine hK.out _ _ (HK.out _ hbk.out) (fun hHeld => ?_)
    clear hK K
    try simp only [Act.put, List.setIfInBounds_toArray, List.set_cons_zero, List.set_cons_succ]
    refine wpAnyH_ready (rs := [25]) (by kernel_rfl) (by simp) ?_
    refine AllReadyH.cons (o := ({ dst := some 143, op := Op.call { callee := Callee.value (Operand.func 37), args := #[Operand.tmp 136, Operand.tmp 138, Operand.tmp 140, Operand.const (Value.int IntKind.i64 0), Operand.tmp 142], argTypes := #[31, 3, 3, 3, 3] }, type := 4, pos := "ref.go:118", after := #[{ on := 18, ground := Ground.data }, { on := 20, ground := Ground.data }, { on := 22, ground := Ground.data }, { on := 24, ground := Ground.data }, { on := 14, ground := Ground.chain }, { on := 11, ground := Ground.guard }], guard := some (11, true) } : Oper)) rfl (fun K hK => ?_) AllReadyH.nil
    go_simp
    refine (CAP.out _ FT CT w5.heap.size HNT.out (Nat.le_refl _)).mono ?_; rintro e w6 ⟨rfl, hbn⟩
    have hbk := Lib.hid (hbk.out.trans (hbn.mono hbk.out.size))
    clear hbn
    try (dsimp only)
    try go_wp2_with fail
    refine hK.out _ _ (HK.out _ hbk.out) (fun hHeld => ?_)
    clear hK K
    try simp only [Act.put, List.setIfInBounds_toArray, List.set_cons_zero, List.set_cons_succ]
    refine tkp [26, 27] ?_
    iterate 2 (refine tkq (v := ?_) (by rfl) (by kernel_rfl) (by exact fun _ _ _ h => h) (by rfl) (HK.out _ hbk.out) ?_ ?_; rotate_left; (intro w hSw; (try dsimp only at hSw); go_simp; (try with_reducible rfl)); simp only [Act.put, List.setIfInBounds_toArray, List.set_cons_zero, List.set_cons_succ])
    refine tke ?_
    refine wpAnyH_done (by kernel_rfl) ?_ _
    go_wp2_with fail
    go_ret
    exact ⟨rfl, HBX.out.trans (hbk.out.mono HBX.out.size)⟩

end Go.Proofs.YtcbbaognomddkaaGreatDoor
