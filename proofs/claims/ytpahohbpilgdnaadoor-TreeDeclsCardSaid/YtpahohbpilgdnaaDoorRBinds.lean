/- scholiumref04.binds, scholiumref04.row. -/
import Derived.Test.YtpahohbpilgdnaaDoorDecV
import Derived.Test.YtpahohbpilgdnaaDoorRDepth
namespace Go.Proofs.YtpahohbpilgdnaaDoor
open Go.RowKit
set_option linter.unusedVariables false
set_option maxRecDepth 100000

set_option maxHeartbeats 2000000 in
theorem rBinds_any (l : List BT) (A : Option Addr) (cap lo hi : Nat) (m : Int) (w : World) (hl : l.length ≤ maxLen) (hn : BindsAt w lo hi A l) (hhi : hi ≤ w.heap.size) :
    Calls Tryd.prog 50 #[.slice A l.length cap, .int .i64 m] w fun e w' => e = .returned (.bool (!decide (m < (l.length : Int)) && bindsB l)) ∧ Below w.heap.size w w' := by
  have HN := Lib.hid hn
  have HRN := Lib.hid (fun s W hs => refNameRight_any s W hs)
  have HRE := Lib.hid (fun t lo hi F C W h1 h2 => refExpr_any t lo hi F C W h1 h2)
  unfold maxLen at hl
  clear hn
  by_cases hm : m < (l.length : Int)
  case pos =>
    have t0 : decide (m < (l.length : Int)) = true := decide_eq_true hm
    rw [t0]
    show Calls _ _ _ _ fun e w' => e = .returned (.bool false) ∧ _
    clear hm HN HRN HRE
    go_enter Tryd.func50, Tryd.ntmps50
    go_wp2_with fail
    go_ret
    exact ⟨rfl, Below.refl _ _⟩
  have t0 : decide (m < (l.length : Int)) = false := decide_eq_false hm
  rw [t0, Bool.not_false, Bool.true_and]
  clear hm
  obtain ⟨z, hz⟩ : ∃ z, bindsB l = z := ⟨_, rfl⟩
  have HZ : Hid (allB (fun i => (l[i]?.map bindB).getD true) l.length = z) := Lib.hid hz
  rw [hz]
  clear hz
  go_enter Tryd.func50, Tryd.ntmps50
  go_wp2_with fail
  go_loopw [5] (fun iv wr => ∃ i : Nat, i ≤ l.length ∧ iv = .int .i64 i ∧ Below w.heap.size w wr ∧ Hid (allB (fun i => (l[i]?.map bindB).getD true) i = true)) (fun iv _ => l.length - (intOf iv).toNat)
  case atStart => exact ⟨0, Nat.zero_le _, rfl, Below.refl _ _, Lib.hid rfl⟩
  case round =>
    obtain ⟨i, hi1, rfl, hB, HQ⟩ := hrel
    have hz := hB.size
    by_cases hil : i < l.length
    · obtain ⟨b, o, F, C, rfl, hb1, hb2, hx, hbind⟩ := (HN.out i hil).kept hB hhi
      have HX := Lib.hid hx
      have HBN := Lib.hid hbind.hn
      have hs := hbind.hs
      unfold maxLen at hs
      have hno : Hid (bindB l[i] = false → z = false) := Lib.hid (fun h => by rw [← HZ.out]; exact allB_no hil (by rw [mapAt bindB hil]; exact h))
      have hyes : Hid (bindB l[i] = true → allB (fun i => (l[i]?.map bindB).getD true) (i + 1) = true) := Lib.hid (fun h => by rw [allB, HQ.out, mapAt bindB hil, h]; rfl)
      obtain ⟨y, hy⟩ : ∃ y, l[i] = y := ⟨_, rfl⟩
      rw [hy] at HX HBN hs hno hyes
      have HRN2 := Lib.hid (fun W => HRN.out y.s W hs)
      have HRE2 := Lib.hid (fun W h1 h2 => HRE.out y.t lo hi F C W h1 h2)
      unfold bindB exprB at hno hyes
      obtain ⟨r, hr⟩ : ∃ r, (fitB y.t && goodB y.t false) = r := ⟨_, rfl⟩
      obtain ⟨q, hq⟩ : ∃ q, nmB y.s = q := ⟨_, rfl⟩
      rw [hr] at HRE2 hno hyes
      rw [hq] at HRN2 hno hyes
      clear hy hr hq hs hx hbind HN HRN HRE HZ
      unfold nodeV at HRE2
      have hil' : (i : Int) < (l.length : Int) := by omega
      have x0 := HX.out.c0
      cases q with
      | false =>
        have hzf := hno.out rfl
        clear hno hyes
        go_wp2_with fail
        refine (HRN2.out _).mono ?_
        rintro e w1 ⟨rfl, hb1'⟩
        go_wp2_with fail
        go_ret
        exact ⟨by subst hzf; rfl, hB.trans (hb1'.mono hz)⟩
      | true =>
        go_wp2_with fail
        refine (HRN2.out _).mono ?_
        rintro e w1 ⟨rfl, hb1'⟩
        have hz1 := hb1'.size
        have hB1 := hB.trans (hb1'.mono hz)
        obtain ⟨-, -, y2, y3, y4, y5, y6⟩ := HX.out.kept hb1' (by omega)
        clear x0
        cases r with
        | false =>
          have hzf := hno.out rfl
          clear hno hyes
          go_wp2_with fail
          refine (HRE2.out _ (HBN.out.kept hb1' (by omega)) (by omega)).mono ?_
          rintro e w2 ⟨rfl, hb2'⟩
          go_wp2_with fail
          go_ret
          exact ⟨by subst hzf; rfl, hB1.trans (hb2'.mono (by omega))⟩
        | true =>
          have hzt := Lib.hid (hyes.out rfl)
          clear hno hyes
          go_wp2_with fail
          refine (HRE2.out _ (HBN.out.kept hb1' (by omega)) (by omega)).mono ?_
          rintro e w2 ⟨rfl, hb2'⟩
          go_wp2_with fail
          go_roundw
          case rel => exact ⟨i + 1, by omega, rfl, hB1.trans (hb2'.mono (by omega)), hzt⟩
          case measure => simp [intOf]; omega
    · obtain rfl : i = l.length := by omega
      have hzt : z = true := by rw [← HZ.out]; exact HQ.out
      clear HN HRN HRE HZ
      go_wp2_with fail
      go_ret
      exact ⟨by subst hzt; rfl, hB⟩

set_option maxHeartbeats 4000000 in
theorem rRow_any (x : CT) (lo hi : Nat) (D : Option Addr) (c : Nat) (F : Option Addr) (C : Nat) (w : World) (h : IsRow w lo hi x D c F C) (hhi : hi ≤ w.heap.size) :
    Calls Tryd.prog 51 #[rowV x D c F C] w fun e w' => e = .returned (.bool (rowB x)) ∧ Below w.heap.size w w' := by
  obtain ⟨hl, hc, hp, hn⟩ := h
  have HP := Lib.hid hp
  have HN := Lib.hid hn
  have HRP := Lib.hid (fun t lo hi F C W h1 h2 => refPattern_any t lo hi F C W h1 h2)
  have HRE := Lib.hid (fun W h1 h2 => refExpr_any x.t lo hi F C W h1 h2)
  unfold maxLen at hc
  clear hp hn
  obtain ⟨z, hz⟩ : ∃ z, rowB x = z := ⟨_, rfl⟩
  have HZ : Hid ((decide (x.ps.length ≤ 24) && (patsB x.ps && if x.h then exprB x.t else zeroB x.t)) = z) := Lib.hid hz
  rw [hz]
  clear hz
  unfold rowV
  unfold nodeV at HRE
  go_enter Tryd.func51, Tryd.ntmps51
  go_wp2_with fail
  go_loopw [3] (fun iv wr => ∃ i : Nat, i ≤ x.ps.length ∧ i ≤ 24 ∧ iv = .int .i64 i ∧ Below w.heap.size w wr ∧ Bk wr w.heap.size 73 #[.int .i64 x.a, .slice D x.ps.length c, .bool x.h, .int .i64 x.t.k, .int .i64 x.t.a, .string x.t.s, .int .i64 x.t.n, .slice F x.t.l.length C] ∧ Hid (allB (fun i => (x.ps[i]?.map patB).getD true) i = true)) (fun iv _ => x.ps.length - (intOf iv).toNat)
  case atStart => exact ⟨0, Nat.zero_le _, by omega, rfl, (Below.refl _ _).alloc (Nat.le_refl _) _, Bk.new w 73 _, Lib.hid rfl⟩
  case round =>
    obtain ⟨i, hi1, hi24, rfl, hB, hBK, HQ⟩ := hrel
    have hz := hB.size
    have hlt := hBK.lt
    have HBK := Lib.hid hBK
    have k1 : wr.cell? ⟨w.heap.size, 1, none⟩ = some (.slice D x.ps.length c) := hBK.cell 1
    clear hBK
    by_cases hil : i < x.ps.length
    · have hil' : (i : Int) < (x.ps.length : Int) := by omega
      by_cases h24 : i = 24
      · have hzf : z = false := by rw [← HZ.out, decide_eq_false (by omega)]; rfl
        have t0 : decide ((24 : Int) ≤ (i : Int)) = true := decide_eq_true (by omega)
        clear HP HN HRP HRE HZ
        go_wp2_with fail
        go_ret
        exact ⟨by subst hzf; rfl, hB⟩
      have t0 : decide ((24 : Int) ≤ (i : Int)) = false := decide_eq_false (by omega)
      obtain ⟨b, o, F', C', rfl, hb1, hb2, hx, hnode⟩ := (HP.out i hil).kept hB hhi
      obtain ⟨x0, x1, x2, x3, x4⟩ := hx
      have hlb : b < wr.heap.size := by omega
      have HR := Lib.hid (HRP.out x.ps[i] lo hi F' C' wr hnode (by omega))
      have hno : Hid (patB x.ps[i] = false → z = false) := Lib.hid (fun h => by
        have e : patsB x.ps = false := allB_no hil (by rw [mapAt patB hil]; exact h)
        rw [← HZ.out, e, Bool.false_and, Bool.and_false])
      have hyes : Hid (patB x.ps[i] = true → allB (fun i => (x.ps[i]?.map patB).getD true) (i + 1) = true) := Lib.hid (fun h => by rw [allB, HQ.out, mapAt patB hil, h]; rfl)
      unfold patB at hno hyes
      obtain ⟨r, hr⟩ : ∃ r, (fitB x.ps[i] && goodB x.ps[i] true) = r := ⟨_, rfl⟩
      rw [hr] at HR hno hyes
      clear hr hnode HP HN HRP HRE HZ
      cases r with
      | false =>
        have hzf := hno.out rfl
        clear hno hyes
        go_wp2_with fail
        refine HR.out.mono ?_
        rintro e w1 ⟨rfl, hb1'⟩
        go_wp2_with fail
        go_ret
        exact ⟨by subst hzf; rfl, hB.trans (hb1'.mono hz)⟩
      | true =>
        have hzt := Lib.hid (hyes.out rfl)
        clear hno hyes
        go_wp2_with fail
        refine HR.out.mono ?_
        rintro e w1 ⟨rfl, hb1'⟩
        go_wp2_with fail
        go_roundw
        case rel => exact ⟨i + 1, by omega, by omega, rfl, hB.trans (hb1'.mono hz), HBK.out.below hb1' hlt, hzt⟩
        case measure => simp [intOf]; omega
    · obtain rfl : i = x.ps.length := by omega
      have HZ2 : Hid ((if x.h then exprB x.t else zeroB x.t) = z) := Lib.hid (by
        have e : patsB x.ps = true := HQ.out
        have := HZ.out
        rwa [decide_eq_true hi24, e, Bool.true_and, Bool.true_and] at this)
      have k2 : wr.cell? ⟨w.heap.size, 2, none⟩ = some (.bool x.h) := HBK.out.cell 2
      have k3 : wr.cell? ⟨w.heap.size, 3, none⟩ = some (.int .i64 x.t.k) := HBK.out.cell 3
      have k4 : wr.cell? ⟨w.heap.size, 4, none⟩ = some (.int .i64 x.t.a) := HBK.out.cell 4
      have k5 : wr.cell? ⟨w.heap.size, 5, none⟩ = some (.string x.t.s) := HBK.out.cell 5
      have k6 : wr.cell? ⟨w.heap.size, 6, none⟩ = some (.int .i64 x.t.n) := HBK.out.cell 6
      have k7 : wr.cell? ⟨w.heap.size, 7, none⟩ = some (.slice F x.t.l.length C) := HBK.out.cell 7
      have HNW := Lib.hid (HN.out.kept hB hhi)
      clear HP HN HRP HZ HBK HQ
      obtain ⟨hh, ehh⟩ : ∃ hh, x.h = hh := ⟨_, rfl⟩
      rw [ehh] at HZ2 k2
      clear ehh
      cases hh with
      | true =>
        have HZ3 : Hid ((fitB x.t && goodB x.t false) = z) := HZ2
        obtain ⟨r, hr⟩ : ∃ r, (fitB x.t && goodB x.t false) = r := ⟨_, rfl⟩
        rw [hr] at HRE HZ3
        clear hr HZ2
        go_wp2_with fail
        refine (HRE.out _ HNW.out (by omega)).mono ?_
        rintro e w1 ⟨rfl, hb1'⟩
        go_wp2_with fail
        go_ret
        exact ⟨by have h := HZ3.out; subst h; rfl, hB.trans (hb1'.mono hz)⟩
      | false =>
        have HZ3 : Hid (zeroB x.t = z) := HZ2
        clear HZ2 HRE HNW
        obtain ⟨⟨k, a, s, n, l⟩, ht⟩ : ∃ t, x.t = t := ⟨_, rfl⟩
        have HZ4 := HZ3.out
        rw [ht] at k3 k4 k5 k6 k7 HZ4
        replace HZ3 : Hid ((decide (k = 0) && (decide (a = 0) && (noneB s && (decide (n = 0) && decide (l.length = 0))))) = z) := HZ4
        clear HZ4
        replace k3 : wr.cell? ⟨w.heap.size, 3, none⟩ = some (.int .i64 k) := k3
        replace k4 : wr.cell? ⟨w.heap.size, 4, none⟩ = some (.int .i64 a) := k4
        replace k5 : wr.cell? ⟨w.heap.size, 5, none⟩ = some (.string s) := k5
        replace k6 : wr.cell? ⟨w.heap.size, 6, none⟩ = some (.int .i64 n) := k6
        replace k7 : wr.cell? ⟨w.heap.size, 7, none⟩ = some (.slice F l.length C) := k7
        obtain ⟨b0, h0⟩ : ∃ b, decide (k = 0) = b := ⟨_, rfl⟩
        obtain ⟨b1, h1⟩ : ∃ b, decide (a = 0) = b := ⟨_, rfl⟩
        obtain ⟨b2, h2⟩ : ∃ b, noneB s = b := ⟨_, rfl⟩
        obtain ⟨b3, h3⟩ : ∃ b, decide (n = 0) = b := ⟨_, rfl⟩
        obtain ⟨b4, h4⟩ : ∃ b, decide (l.length = 0) = b := ⟨_, rfl⟩
        have t0 : (k == 0) = b0 := by rw [← h0]; rfl
        have t1 : (a == 0) = b1 := by rw [← h1]; rfl
        have t2 : (s.toList == []) = b2 := h2
        have t3 : (n == 0) = b3 := by rw [← h3]; rfl
        have t4 : ((l.length : Int) == 0) = b4 := by rw [← h4]; show decide ((l.length : Int) = 0) = _; congr 1; apply propext; omega
        rw [h0, h1, h2, h3, h4] at HZ3
        clear h0 h1 h2 h3 h4 ht
        cases b0 <;> cases b1 <;> cases b2 <;> cases b3
        all_goals
          go_wp2_with fail
          go_ret
          exact ⟨by rw [← HZ3.out]; simp, hB⟩

end Go.Proofs.YtpahohbpilgdnaaDoor
