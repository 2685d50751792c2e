/- scholiumref04.SameDecl. -/
import Derived.Test.YtpahohbpilgdnaaDoorRSameB
namespace Go.Proofs.YtpahohbpilgdnaaDoor
open Go.RowKit
set_option linter.unusedVariables false
set_option maxRecDepth 100000

set_option maxHeartbeats 16000000 in
theorem rSameDecl_any (x y : DT) (lo hi lo' hi' : Nat) (p q : DP) (w : World) (h : IsDecl w lo hi x p) (h' : IsDecl w lo' hi' y q) (hhi : hi ≤ w.heap.size) (hhi' : hi' ≤ w.heap.size) :
    Calls Tryd.prog 31 #[declV x p, declV y q] w fun e w' => e = .returned (.bool (sameDc x y)) ∧ Below w.heap.size w w' := by
  have hW2 : ∀ o1 o2, Below w.heap.size w ((w.alloc o1).alloc o2) := fun o1 o2 => ((Below.refl _ _).alloc (Nat.le_refl _) _).alloc (by simp) _
  have HW2 := Lib.hid hW2
  have HI := Lib.hid (fun o1 o2 => h.kept (hW2 o1 o2) hhi)
  have HI' := Lib.hid (fun o1 o2 => h'.kept (hW2 o1 o2) hhi')
  have HJ := Lib.hid (fun W h1 => h.kept (B := w.heap.size) (w' := W) h1 hhi)
  have HJ' := Lib.hid (fun W h1 => h'.kept (B := w.heap.size) (w' := W) h1 hhi')
  have hro := Nat.le_trans h.ld h.md
  have hro' := Nat.le_trans h'.ld h'.md
  unfold maxLen at hro hro'
  have H1 := Lib.hid (fun W h1 h2 h3 h4 => rSameBinds_any x.te y.te p.A q.A p.a q.a lo hi lo' hi' W (Nat.le_trans h.la h.ma) (Nat.le_trans h'.la h'.ma) h1 h2 h3 h4)
  have H2 := Lib.hid (fun W h1 h2 h3 h4 => rSame_any x.t y.t lo hi lo' hi' p.F q.F p.C q.C W h1 h2 h3 h4)
  have H3 := Lib.hid (fun W h1 h2 h3 h4 => rSameBinds_any x.co y.co p.B q.B p.b q.b lo hi lo' hi' W (Nat.le_trans h.lb h.mb) (Nat.le_trans h'.lb h'.mb) h1 h2 h3 h4)
  have HS := Lib.hid (fun (t u : RT) F F' C C' W h1 h2 h3 h4 => rSame_any t u lo hi lo' hi' F F' C C' W h1 h2 h3 h4)
  clear h h' hW2
  obtain ⟨z, hz⟩ : ∃ z, sameDc x y = z := ⟨_, rfl⟩
  rw [hz]
  unfold sameDc at hz
  obtain ⟨b1, e1⟩ : ∃ b, pairsX sameBd x.te y.te = b := ⟨_, rfl⟩
  obtain ⟨b2, e2⟩ : ∃ b, sameB x.t y.t = b := ⟨_, rfl⟩
  obtain ⟨b3, e3⟩ : ∃ b, pairsX sameBd x.co y.co = b := ⟨_, rfl⟩
  rw [e1] at H1 hz
  rw [e2] at H2 hz
  rw [e3] at H3 hz
  clear e1 e2 e3
  unfold nodeV at H2
  unfold declV
  by_cases hk : x.k = y.k
  case neg =>
    obtain rfl : z = false := by rw [← hz, decide_eq_false hk]; rfl
    have t0 : (x.k != y.k) = true := by simpa using hk
    clear hk hz H1 H2 H3 HS HJ HJ'
    go_enter Tryd.func31, Tryd.ntmps31
    go_wp2_with fail
    go_ret
    exact ⟨rfl, HW2.out _ _⟩
  rw [decide_eq_true hk, Bool.true_and] at hz
  have t0 : (x.k != y.k) = false := by simpa using hk
  clear hk
  by_cases hss : x.s = y.s
  case neg =>
    obtain rfl : z = false := by rw [← hz, decide_eq_false hss]; rfl
    have t1 := ne_list hss
    have t1' : (x.s.toList != y.s.toList) = true := by unfold bne; rw [t1]; rfl
    clear hss hz H1 H2 H3 HS HJ HJ'
    go_enter Tryd.func31, Tryd.ntmps31
    go_wp2_with fail
    go_ret
    exact ⟨rfl, HW2.out _ _⟩
  rw [decide_eq_true hss, Bool.true_and] at hz
  have t1 := eq_list hss
  have t1' : (x.s.toList != y.s.toList) = false := by unfold bne; rw [t1]; rfl
  have HZ := Lib.hid hz
  clear hss hz
  cases b2 with
  | false =>
    obtain rfl : z = false := by rw [← HZ.out]; simp
    clear HZ H1 H3 HS HJ HJ'
    go_enter Tryd.func31, Tryd.ntmps31
    go_wp2_with fail
    refine (H2.out _ (HI.out _ _).t (HI'.out _ _).t (by simp; omega) (by simp; omega)).mono ?_
    rintro e w1 ⟨rfl, hb1⟩
    go_wp2_with fail
    go_ret
    exact ⟨rfl, (HW2.out _ _).trans (hb1.mono (by simp; omega))⟩
  | true =>
  cases b1 with
  | false =>
    obtain rfl : z = false := by rw [← HZ.out]; simp
    clear HZ H3 HS HJ HJ'
    go_enter Tryd.func31, Tryd.ntmps31
    go_wp2_with fail
    refine (H2.out _ (HI.out _ _).t (HI'.out _ _).t (by simp; omega) (by simp; omega)).mono ?_
    rintro e w1 ⟨rfl, hb1⟩
    have hz1 := hb1.size
    simp at hz1
    have hB1 := (HW2.out _ _).trans (hb1.mono (by simp; omega))
    have hcell := fun p hp => hb1.cell (p := p) hp
    go_wp2_with fail
    refine (H1.out _ ((HI.out _ _).te.kept hb1 (by simp; omega)) ((HI'.out _ _).te.kept hb1 (by simp; omega)) (by omega) (by omega)).mono ?_
    rintro e w2 ⟨rfl, hb2⟩
    go_wp2_with fail
    go_ret
    exact ⟨rfl, hB1.trans (hb2.mono (by omega))⟩
  | true =>
  cases b3 with
  | false =>
    obtain rfl : z = false := by rw [← HZ.out]; simp
    clear HZ HS HJ HJ'
    go_enter Tryd.func31, Tryd.ntmps31
    go_wp2_with fail
    refine (H2.out _ (HI.out _ _).t (HI'.out _ _).t (by simp; omega) (by simp; omega)).mono ?_
    rintro e w1 ⟨rfl, hb1⟩
    have hz1 := hb1.size
    simp at hz1
    have hB1 := (HW2.out _ _).trans (hb1.mono (by simp; omega))
    have hcell := fun p hp => hb1.cell (p := p) hp
    go_wp2_with fail
    refine (H1.out _ ((HI.out _ _).te.kept hb1 (by simp; omega)) ((HI'.out _ _).te.kept hb1 (by simp; omega)) (by omega) (by omega)).mono ?_
    rintro e w2 ⟨rfl, hb2⟩
    have hz2 := hb2.size
    have hB2 := hb1.trans (hb2.mono (by simp; omega))
    have hcell2 := fun p hp => hB2.cell (p := p) hp
    clear hcell
    go_wp2_with fail
    refine (H3.out _ ((HI.out _ _).co.kept hB2 (by simp; omega)) ((HI'.out _ _).co.kept hB2 (by simp; omega)) (by omega) (by omega)).mono ?_
    rintro e w3 ⟨rfl, hb3⟩
    go_wp2_with fail
    go_ret
    exact ⟨rfl, hB1.trans ((hb2.mono (by omega)).trans (hb3.mono (by omega)))⟩
  | true =>
  replace HZ : Hid (pairsX sameRw x.ro y.ro = z) := Lib.hid (by have := HZ.out; simpa using this)
  by_cases hlen : x.ro.length = y.ro.length
  case neg =>
    obtain rfl : z = false := by rw [← HZ.out, pairsX_len hlen]
    have t2 : ((x.ro.length : Int) != (y.ro.length : Int)) = true := by simp; omega
    clear HZ HS HJ HJ' hlen
    go_enter Tryd.func31, Tryd.ntmps31
    go_wp2_with fail
    refine (H2.out _ (HI.out _ _).t (HI'.out _ _).t (by simp; omega) (by simp; omega)).mono ?_
    rintro e w1 ⟨rfl, hb1⟩
    have hz1 := hb1.size
    simp at hz1
    have hB1 := (HW2.out _ _).trans (hb1.mono (by simp; omega))
    have hcell := fun p hp => hb1.cell (p := p) hp
    go_wp2_with fail
    refine (H1.out _ ((HI.out _ _).te.kept hb1 (by simp; omega)) ((HI'.out _ _).te.kept hb1 (by simp; omega)) (by omega) (by omega)).mono ?_
    rintro e w2 ⟨rfl, hb2⟩
    have hz2 := hb2.size
    have hB2 := hb1.trans (hb2.mono (by simp; omega))
    have hcell2 := fun p hp => hB2.cell (p := p) hp
    clear hcell
    go_wp2_with fail
    refine (H3.out _ ((HI.out _ _).co.kept hB2 (by simp; omega)) ((HI'.out _ _).co.kept hB2 (by simp; omega)) (by omega) (by omega)).mono ?_
    rintro e w3 ⟨rfl, hb3⟩
    have hz3 := hb3.size
    have hB3 := hB2.trans (hb3.mono (by simp; omega))
    have hcell3 := fun p hp => hB3.cell (p := p) hp
    clear hcell2
    go_wp2_with fail
    go_ret
    exact ⟨rfl, hB1.trans ((hb2.mono (by omega)).trans (hb3.mono (by omega)))⟩
  replace HZ : Hid (allB (pairAtX sameRw x.ro y.ro) x.ro.length = z) := Lib.hid (by have := HZ.out; rwa [pairsX_eq hlen] at this)
  have t2 : ((x.ro.length : Int) != (y.ro.length : Int)) = false := by simp; omega
  have HLEN := Lib.hid hlen
  clear hlen
  go_enter Tryd.func31, Tryd.ntmps31
  go_wp2_with fail
  refine (H2.out _ (HI.out _ _).t (HI'.out _ _).t (by simp; omega) (by simp; omega)).mono ?_
  rintro e w1 ⟨rfl, hb1⟩
  have hz1 := hb1.size
  simp at hz1
  have hB1 := (HW2.out _ _).trans (hb1.mono (by simp; omega))
  have hcell := fun p hp => hb1.cell (p := p) hp
  go_wp2_with fail
  refine (H1.out _ ((HI.out _ _).te.kept hb1 (by simp; omega)) ((HI'.out _ _).te.kept hb1 (by simp; omega)) (by omega) (by omega)).mono ?_
  rintro e w2 ⟨rfl, hb2⟩
  have hz2 := hb2.size
  have hB2 := hb1.trans (hb2.mono (by simp; omega))
  have hcell2 := fun p hp => hB2.cell (p := p) hp
  clear hcell
  go_wp2_with fail
  refine (H3.out _ ((HI.out _ _).co.kept hB2 (by simp; omega)) ((HI'.out _ _).co.kept hB2 (by simp; omega)) (by omega) (by omega)).mono ?_
  rintro e w3 ⟨rfl, hb3⟩
  have hz3 := hb3.size
  have hB3 := hB2.trans (hb3.mono (by simp; omega))
  have hcell3 := fun p hp => hB3.cell (p := p) hp
  have HBX := Lib.hid (((Bk.new w 52 #[.int .i64 x.k, .int .i64 x.a, .string x.s, .slice p.A x.te.length p.a, .int .i64 x.t.k, .int .i64 x.t.a, .string x.t.s, .int .i64 x.t.n, .slice p.F x.t.l.length p.C, .slice p.B x.co.length p.b, .slice p.D x.ro.length p.d]).alloc (.cells #[.int .i64 y.k, .int .i64 y.a, .string y.s, .slice q.A y.te.length q.a, .int .i64 y.t.k, .int .i64 y.t.a, .string y.t.s, .int .i64 y.t.n, .slice q.F y.t.l.length q.C, .slice q.B y.co.length q.b, .slice q.D y.ro.length q.d] 52)).below hB3 (by simp; omega))
  have HBY : Hid (Bk w3 (w.heap.size + 1) 52 #[.int .i64 y.k, .int .i64 y.a, .string y.s, .slice q.A y.te.length q.a, .int .i64 y.t.k, .int .i64 y.t.a, .string y.t.s, .int .i64 y.t.n, .slice q.F y.t.l.length q.C, .slice q.B y.co.length q.b, .slice q.D y.ro.length q.d]) := Lib.hid (by
    have := (Bk.new (w.alloc (.cells #[.int .i64 x.k, .int .i64 x.a, .string x.s, .slice p.A x.te.length p.a, .int .i64 x.t.k, .int .i64 x.t.a, .string x.t.s, .int .i64 x.t.n, .slice p.F x.t.l.length p.C, .slice p.B x.co.length p.b, .slice p.D x.ro.length p.d] 52)) 52 #[.int .i64 y.k, .int .i64 y.a, .string y.s, .slice q.A y.te.length q.a, .int .i64 y.t.k, .int .i64 y.t.a, .string y.t.s, .int .i64 y.t.n, .slice q.F y.t.l.length q.C, .slice q.B y.co.length q.b, .slice q.D y.ro.length q.d]).below hB3 (by simp)
    simpa using this)
  have HB := Lib.hid (hB1.trans ((hb2.mono (by omega)).trans (hb3.mono (by omega))))
  clear hcell2
  go_wp2_with fail
  clear hcell3 hB1 hB2 hB3 hb1 hb2 hb3 hz1 hz2 hz3 t0 t1 t1' t2 H1 H2 H3 HI HI'
  go_loopw [5] (fun iv wr => ∃ i : Nat, i ≤ x.ro.length ∧ iv = .int .i64 i ∧ Below w.heap.size w wr ∧ Bk wr w.heap.size 52 #[.int .i64 x.k, .int .i64 x.a, .string x.s, .slice p.A x.te.length p.a, .int .i64 x.t.k, .int .i64 x.t.a, .string x.t.s, .int .i64 x.t.n, .slice p.F x.t.l.length p.C, .slice p.B x.co.length p.b, .slice p.D x.ro.length p.d] ∧ Bk wr (w.heap.size + 1) 52 #[.int .i64 y.k, .int .i64 y.a, .string y.s, .slice q.A y.te.length q.a, .int .i64 y.t.k, .int .i64 y.t.a, .string y.t.s, .int .i64 y.t.n, .slice q.F y.t.l.length q.C, .slice q.B y.co.length q.b, .slice q.D y.ro.length q.d] ∧ Hid (allB (pairAtX sameRw x.ro y.ro) i = true)) (fun iv _ => x.ro.length - (intOf iv).toNat)
  case atStart => exact ⟨0, Nat.zero_le _, rfl, HB.out, HBX.out, HBY.out, Lib.hid rfl⟩
  case round =>
    clear HB HBX HBY
    obtain ⟨i, hi1, rfl, hB, hBX, hBY, HQ⟩ := hrel
    have hz := hB.size
    have hltX := hBX.lt
    have hltY := hBY.lt
    have HBX := Lib.hid hBX
    have HBY := Lib.hid hBY
    have kx : wr.cell? ⟨w.heap.size, 10, none⟩ = some (.slice p.D x.ro.length p.d) := hBX.cell 10
    have ky : wr.cell? ⟨w.heap.size + 1, 10, none⟩ = some (.slice q.D y.ro.length q.d) := hBY.cell 10
    clear hBX hBY
    by_cases hil : i < x.ro.length
    case neg =>
      obtain rfl : i = x.ro.length := by omega
      have hzt : z = true := by rw [← HZ.out]; exact HQ.out
      clear HS HJ HJ' HZ
      go_wp2_with fail
      go_ret
      exact ⟨by subst hzt; rfl, hB⟩
    have hil' : i < y.ro.length := by have := HLEN.out; omega
    obtain ⟨b, o, D, c, F, C, hA, hb1, hb2, hx, hrow⟩ := (HJ.out wr hB).ro i hil
    obtain ⟨x0, x1, x2, x3, x4, x5, x6, x7⟩ := hx
    obtain ⟨b', o', D', c', F', C', hA', hb1', hb2', hx', hrow'⟩ := (HJ'.out wr hB).ro i hil'
    obtain ⟨y0, y1, y2, y3, y4, y5, y6, y7⟩ := hx'
    rw [hA] at kx
    rw [hA'] at ky
    have hlb : b < wr.heap.size := by omega
    have hlb' : b' < wr.heap.size := by omega
    have hno : Hid (sameRw x.ro[i] y.ro[i] = false → z = false) := Lib.hid (fun h => by rw [← HZ.out]; exact allB_no hil (by rw [pairAtX_of sameRw hil hil']; exact h))
    have hyes : Hid (sameRw x.ro[i] y.ro[i] = true → allB (pairAtX sameRw x.ro y.ro) (i + 1) = true) := Lib.hid (fun h => by rw [allB, HQ.out, pairAtX_of sameRw hil hil', h]; rfl)
    obtain ⟨r, hxx⟩ : ∃ r, x.ro[i] = r := ⟨_, rfl⟩
    obtain ⟨s, hyy⟩ : ∃ s, y.ro[i] = s := ⟨_, rfl⟩
    rw [hxx] at x0 x1 x2 x3 x4 x5 x6 x7 hrow hno hyes
    rw [hyy] at y0 y1 y2 y3 y4 y5 y6 y7 hrow' hno hyes
    have hi0' : (i : Int) < (x.ro.length : Int) := by omega
    have hi0'' : (i : Int) < (y.ro.length : Int) := by omega
    have hi00 : (0 : Int) ≤ (i : Int) := by omega
    unfold sameRw at hno hyes
    have HRX := Lib.hid hrow
    have HRY := Lib.hid hrow'
    have HR := Lib.hid (HS.out r.t s.t F F' C C')
    have HWr := Lib.hid (fun o1 o2 => ((Below.refl wr.heap.size wr).alloc (Nat.le_refl _) o1).alloc (by simp) o2)
    have HBr := Lib.hid hB
    clear hA hA' hxx hyy hrow hrow' HZ HJ HJ' hB
    unfold nodeV at HR
    obtain ⟨ha, eha⟩ : ∃ a, r.h = a := ⟨_, rfl⟩
    obtain ⟨hb, ehb⟩ : ∃ a, s.h = a := ⟨_, rfl⟩
    rw [eha] at x2 hno hyes
    rw [ehb] at y2 hno hyes
    clear eha ehb
    by_cases hab : ha = hb
    case neg =>
      have hzf := hno.out (by cases ha <;> cases hb <;> simp_all)
      clear hno hyes HS HR
      cases ha <;> cases hb <;> first | (exact absurd rfl hab) | skip
      all_goals
        clear hab
        go_wp2_with fail
        go_ret
        exact ⟨by subst hzf; rfl, HBr.out.trans ((HWr.out _ _).mono hz)⟩
    subst hab
    have hhh : (ha == ha) = true := by cases ha <;> rfl
    rw [hhh, Bool.true_and] at hno hyes
    clear hhh
    have hlp : r.ps.length ≤ c := HRX.out.hl
    have hlc : c ≤ maxLen := HRX.out.hc
    have hlp' : s.ps.length ≤ c' := HRY.out.hl
    have hlc' : c' ≤ maxLen := HRY.out.hc
    unfold maxLen at hlc hlc'
    by_cases hpl : r.ps.length = s.ps.length
    case neg =>
      have hzf := hno.out (by rw [pairsB_len hpl]; rfl)
      have t3 : ((r.ps.length : Int) != (s.ps.length : Int)) = true := by simp; omega
      clear hno hyes HS HR hpl
      cases ha
      all_goals
        go_wp2_with fail
        go_ret
        exact ⟨by subst hzf; rfl, HBr.out.trans ((HWr.out _ _).mono hz)⟩
    have t3 : ((r.ps.length : Int) != (s.ps.length : Int)) = false := by simp; omega
    have HPL := Lib.hid hpl
    rw [pairsB_eq hpl] at hno hyes
    clear hpl
    obtain ⟨v, hv⟩ : ∃ v, sameB r.t s.t = v := ⟨_, rfl⟩
    rw [hv] at HR hno hyes
    clear hv
    obtain ⟨H, hH⟩ : ∃ H : Value, Value.bool ha = H := ⟨_, rfl⟩
    have hHne : Hid (H = .bool ha) := Lib.hid hH.symm
    clear hH H hHne
    cases v with
    | false =>
      have hzf := hno.out (by rw [Bool.and_false])
      clear hno hyes HS
      cases ha
      all_goals
        go_wp2_with fail
        refine (HR.out _ (HRX.out.hn.kept ((HWr.out _ _).mono hz) (by omega)) (HRY.out.hn.kept ((HWr.out _ _).mono hz) (by omega)) (by simp; omega) (by simp; omega)).mono ?_
        rintro e w4 ⟨rfl, hb4⟩
        go_wp2_with fail
        go_ret
        exact ⟨by subst hzf; rfl, HBr.out.trans (((HWr.out _ _).trans (hb4.mono (by simp; omega))).mono hz)⟩
    | true =>
      rw [Bool.and_true] at hno hyes
      have HNO := Lib.hid hno.out
      have HYES := Lib.hid hyes.out
      clear hno hyes
      cases ha
      all_goals
        go_wp2_with fail
        refine (HR.out _ (HRX.out.hn.kept ((HWr.out _ _).mono hz) (by omega)) (HRY.out.hn.kept ((HWr.out _ _).mono hz) (by omega)) (by simp; omega) (by simp; omega)).mono ?_
        rintro e w4 ⟨rfl, hb4⟩
        have HB4 := Lib.hid ((HWr.out _ _).trans (hb4.mono (by simp; omega)))
        have HKX := Lib.hid (((Bk.new wr 73 _).alloc _).below hb4 (by simp; omega))
        have HKY := Lib.hid ((Bk.new (wr.alloc _) 73 _).below hb4 (by simp))
        have hsz := hb4.size
        simp at hsz
        have HKY2 := HKY.out
        rw [World.size_alloc] at HKY2
        replace HKY := Lib.hid HKY2
        clear HKY2 hb4 HR x0 x1 x2 x3 x4 x5 x6 x7 y0 y1 y2 y3 y4 y5 y6 y7 kx ky
        go_wp2_with fail
        go_loopw [8] (fun jv wq => ∃ j : Nat, j ≤ r.ps.length ∧ jv = .int .i64 j ∧ Below wr.heap.size wr wq ∧ Bk wq wr.heap.size 73 _ ∧ Bk wq (wr.heap.size + 1) 73 _ ∧ Hid (allB (pairAt sameB r.ps s.ps) j = true)) (fun jv _ => r.ps.length - (intOf jv).toNat)
        case atStart => exact ⟨0, Nat.zero_le _, rfl, HB4.out, HKX.out, HKY.out, Lib.hid rfl⟩
        case round =>
          rename World => wq
          clear HB4 HKX HKY
          obtain ⟨j, hj1, rfl, hQ, hKX, hKY, HJQ⟩ := hrel
          have hzq := hQ.size
          have kr : wq.cell? ⟨wr.heap.size, 1, none⟩ = some (.slice D r.ps.length c) := hKX.cell 1
          have ks : wq.cell? ⟨wr.heap.size + 1, 1, none⟩ = some (.slice D' s.ps.length c') := hKY.cell 1
          have hlX := hKX.lt
          have hlY := hKY.lt
          have HKX := Lib.hid hKX
          have HKY := Lib.hid hKY
          clear hKX hKY
          by_cases hjl : j < r.ps.length
          case neg =>
            obtain rfl : j = r.ps.length := by omega
            have hzt := Lib.hid (HYES.out HJQ.out)
            have HQB := Lib.hid hQ
            clear HNO HYES HS hQ
            go_wp2_with fail
            go_roundw
            case rel => exact ⟨i + 1, by omega, rfl, HBr.out.trans (HQB.out.mono hz), HBX.out.below HQB.out hltX, HBY.out.below HQB.out hltY, hzt⟩
            case measure => simp [intOf]; omega
          have hjl' : j < s.ps.length := by have := HPL.out; omega
          obtain ⟨g, o2, G, E, hA2, hg1, hg2, hx2, hnode⟩ := (HRX.out.hp.kept hQ (by omega)) j hjl
          obtain ⟨x0, x1, x2, x3, x4⟩ := hx2
          obtain ⟨g', o2', G', E', hA2', hg1', hg2', hx2', hnode'⟩ := (HRY.out.hp.kept hQ (by omega)) j hjl'
          obtain ⟨y0, y1, y2, y3, y4⟩ := hx2'
          subst hA2
          subst hA2'
          have hno2 : Hid (sameB r.ps[j] s.ps[j] = false → z = false) := Lib.hid (fun h => HNO.out (allB_no hjl (by rw [pairAt_of sameB hjl hjl']; exact h)))
          have hyes2 : Hid (sameB r.ps[j] s.ps[j] = true → allB (pairAt sameB r.ps s.ps) (j + 1) = true) := Lib.hid (fun h => by rw [allB, HJQ.out, pairAt_of sameB hjl hjl', h]; rfl)
          have HR2 := Lib.hid (HS.out r.ps[j] s.ps[j] G G' E E')
          obtain ⟨v2, hv2⟩ : ∃ v2, sameB r.ps[j] s.ps[j] = v2 := ⟨_, rfl⟩
          rw [hv2] at HR2 hno2 hyes2
          obtain ⟨t1, ht1⟩ : ∃ t1, r.ps[j] = t1 := ⟨_, rfl⟩
          obtain ⟨t2, ht2⟩ : ∃ t2, s.ps[j] = t2 := ⟨_, rfl⟩
          rw [ht1] at HR2 x0 x1 x2 x3 x4 hnode
          rw [ht2] at HR2 y0 y1 y2 y3 y4 hnode'
          have hj0' : (j : Int) < (r.ps.length : Int) := by omega
          have hj0'' : (j : Int) < (s.ps.length : Int) := by omega
          have hj00 : (0 : Int) ≤ (j : Int) := by omega
          have HQB := Lib.hid hQ
          have hlg : g < wq.heap.size := by omega
          have hlg' : g' < wq.heap.size := by omega
          clear hv2 ht1 ht2 HNO HYES hQ HS
          unfold nodeV at HR2
          go_wp2_with fail
          go_region_held3 (fun w' => w'.cell? ⟨wr.heap.size, 1, none⟩ = some (.slice (some ⟨g, o2, none⟩) r.ps.length c) ∧ w'.cell? ⟨wr.heap.size + 1, 1, none⟩ = some (.slice (some ⟨g', o2', none⟩) s.ps.length c') ∧
                w'.cell? ⟨g, o2 + j * 5, none⟩ = some (.int .i64 t1.k) ∧ w'.cell? ⟨g, o2 + j * 5 + 1, none⟩ = some (.int .i64 t1.a) ∧ w'.cell? ⟨g, o2 + j * 5 + 2, none⟩ = some (.string t1.s) ∧ w'.cell? ⟨g, o2 + j * 5 + 3, none⟩ = some (.int .i64 t1.n) ∧ w'.cell? ⟨g, o2 + j * 5 + 4, none⟩ = some (.slice G t1.l.length E) ∧
                w'.cell? ⟨g', o2' + j * 5, none⟩ = some (.int .i64 t2.k) ∧ w'.cell? ⟨g', o2' + j * 5 + 1, none⟩ = some (.int .i64 t2.a) ∧ w'.cell? ⟨g', o2' + j * 5 + 2, none⟩ = some (.string t2.s) ∧ w'.cell? ⟨g', o2' + j * 5 + 3, none⟩ = some (.int .i64 t2.n) ∧ w'.cell? ⟨g', o2' + j * 5 + 4, none⟩ = some (.slice G' t2.l.length E'))
              (first | go_keep | (refine ⟨?_, ?_, ?_, ?_, ?_, ?_, ?_, ?_, ?_, ?_, ?_, ?_⟩ <;> ((rw [hb3.cell (by show _ < _; simp; omega)]; assumption))))
              (first | (go_at_call 20; refine (HR2.out _ (hnode.kept ((Below.refl _ _).drew) (by omega)) (hnode'.kept ((Below.refl _ _).drew) (by omega)) (by simp; omega) (by simp; omega)).mono ?_; rintro e w3 ⟨rfl, hb3⟩))
          have HB3 := Lib.hid (HQB.out.drew.trans (hb3.mono hzq))
          have HKX3 := Lib.hid ((hb3.block _ (by show _ < _; simp; omega)).trans HKX.out)
          have HKY3 := Lib.hid ((hb3.block _ (by show _ < _; simp; omega)).trans HKY.out)
          clear hb3
          cases v2 with
          | true =>
            have hzt := Lib.hid (hyes2.out rfl)
            clear hno2 hyes2
            go_wp2_with fail
            go_roundw
            case rel => exact ⟨j + 1, by omega, rfl, HB3.out, HKX3.out, HKY3.out, hzt⟩
            case measure => simp [intOf]; omega
          | false =>
            have hzf := hno2.out rfl
            clear hno2 hyes2
            go_wp2_with fail
            go_ret
            exact ⟨by subst hzf; rfl, HBr.out.trans (HB3.out.mono hz)⟩

end Go.Proofs.YtpahohbpilgdnaaDoor
