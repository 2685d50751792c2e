/- scholiumref04.binds, scholiumref04.row. -/
import Derived.Test.YteaojmcfppbgiaaGreatDoorC4
import Derived.Test.YteaojmcfppbgiaaGreatDoorC5
namespace Go.Proofs.YteaojmcfppbgiaaGreatDoor
open Go.RowKit
set_option linter.unusedVariables false
set_option maxRecDepth 100000

set_option maxHeartbeats 2000000 in
theorem rBinds_any (l : List BT) (A : Option Addr) (cap lo hi : Nat) (m : Int) (w : World) (hl : l.length ≤ maxLen) (hn : BindsAt w lo hi A l) (hhi : hi ≤ w.heap.size) :
    Calls Tryz.prog 68 #[.slice A l.length cap, .int .i64 m] w fun e w' => e = .returned (.bool (!decide (m < (l.length : Int)) && bindsB l)) ∧ Below w.heap.size w w' := by
  have HN := Lib.hid hn
  have HRN := Lib.hid (fun s W hs => refNameRight_any s W hs)
  have HRE := Lib.hid (fun t lo hi F C W h1 h2 => refExpr_any t lo hi F C W h1 h2)
  unfold maxLen at hl
  clear hn
  by_cases hm : m < (l.length : Int)
  case pos =>
    have t0 : decide (m < (l.length : Int)) = true := decide_eq_true hm
    rw [t0]
    show Calls _ _ _ _ fun e w' => e = .returned (.bool false) ∧ _
    clear hm HN HRN HRE
    go_enter Tryz.func68, Tryz.ntmps68
    go_wp2_with fail
    go_ret
    exact ⟨rfl, Below.refl _ _⟩
  have t0 : decide (m < (l.length : Int)) = false := decide_eq_false hm
  rw [t0, Bool.not_false, Bool.true_and]
  clear hm
  obtain ⟨z, hz⟩ : ∃ z, bindsB l = z := ⟨_, rfl⟩
  have HZ : Hid (allB (fun i => (l[i]?.map bindB).getD true) l.length = z) := Lib.hid hz
  rw [hz]
  clear hz
  go_enter Tryz.func68, Tryz.ntmps68
  go_wp2_with fail
  go_loopw [5] (fun iv wr => ∃ i : Nat, i ≤ l.length ∧ iv = .int .i64 i ∧ Below w.heap.size w wr ∧ Hid (allB (fun i => (l[i]?.map bindB).getD true) i = true)) (fun iv _ => l.length - (intOf iv).toNat)
  case atStart => exact ⟨0, Nat.zero_le _, rfl, Below.refl _ _, Lib.hid rfl⟩
  case round =>
    obtain ⟨i, hi1, rfl, hB, HQ⟩ := hrel
    have hz := hB.size
    by_cases hil : i < l.length
    · obtain ⟨b, o, F, C, rfl, hb1, hb2, hx, hbind⟩ := (HN.out i hil).kept hB hhi
      have HX := Lib.hid hx
      have HBN := Lib.hid hbind.hn
      have hs := hbind.hs
      unfold maxLen at hs
      have hno : Hid (bindB l[i] = false → z = false) := Lib.hid (fun h => by rw [← HZ.out]; exact allB_no hil (by rw [mapAt bindB hil]; exact h))
      have hyes : Hid (bindB l[i] = true → allB (fun i => (l[i]?.map bindB).getD true) (i + 1) = true) := Lib.hid (fun h => by rw [allB, HQ.out, mapAt bindB hil, h]; rfl)
      obtain ⟨y, hy⟩ : ∃ y, l[i] = y := ⟨_, rfl⟩
      rw [hy] at HX HBN hs hno hyes
      have HRN2 := Lib.hid (fun W => HRN.out y.s W hs)
      have HRE2 := Lib.hid (fun W h1 h2 => HRE.out y.t lo hi F C W h1 h2)
      unfold bindB exprB at hno hyes
      obtain ⟨r, hr⟩ : ∃ r, (fitB y.t && goodB y.t false) = r := ⟨_, rfl⟩
      obtain ⟨q, hq⟩ : ∃ q, nmB y.s = q := ⟨_, rfl⟩
      rw [hr] at HRE2 hno hyes
      rw [hq] at HRN2 hno hyes
      clear hy hr hq hs hx hbind HN HRN HRE HZ
      unfold nodeV at HRE2
      have hil' : (i : Int) < (l.length : Int) := by omega
      have x0 := HX.out.c0
      cases q with
      | false =>
        have hzf := hno.out rfl
        clear hno hyes
        go_wp2_with fail
        refine (HRN2.out _).mono ?_
        rintro e w1 ⟨rfl, hb1'⟩
        go_wp2_with fail
        go_ret
        exact ⟨by subst hzf; rfl, hB.trans (hb1'.mono hz)⟩
      | true =>
        go_wp2_with fail
        refine (HRN2.out _).mono ?_
        rintro e w1 ⟨rfl, hb1'⟩
        have hz1 := hb1'.size
        have hB1 := hB.trans (hb1'.mono hz)
        obtain ⟨-, -, y2, y3, y4, y5, y6⟩ := HX.out.kept hb1' (by omega)
        clear x0
        cases r with
        | false =>
          have hzf := hno.out rfl
          clear hno hyes
          go_wp2_with fail
          refine (HRE2.out _ (HBN.out.kept hb1' (by omega)) (by omega)).mono ?_
          rintro e w2 ⟨rfl, hb2'⟩
          go_wp2_with fail
          go_ret
          exact ⟨by subst hzf; rfl, hB1.trans (hb2'.mono (by omega))⟩
        | true =>
          have hzt := Lib.hid (hyes.out rfl)
          clear hno hyes
          go_wp2_with fail
          refine (HRE2.out _ (HBN.out.kept hb1' (by omega)) (by omega)).mono ?_
          rintro e w2 ⟨rfl, hb2'⟩
          go_wp2_with fail
          go_roundw
          case rel => exact ⟨i + 1, by omega, rfl, hB1.trans (hb2'.mono (by omega)), hzt⟩
          case measure => simp [intOf]; omega
    · obtain rfl : i = l.length := by omega
      have hzt : z = true := by rw [← HZ.out]; exact HQ.out
      clear HN HRN HRE HZ
      go_wp2_with fail
      go_ret
      exact ⟨by subst hzt; rfl, hB⟩

set_option maxHeartbeats 4000000 in
theorem rRow_any (x : CT) (lo hi : Nat) (D : Option Addr) (c : Nat) (F : Option Addr) (C : Nat) (w : World) (h : IsRow w lo hi x D c F C) (hhi : hi ≤ w.heap.size) :
    Calls Tryz.prog 69 #[rowV x D c F C] w fun e w' => e = .returned (.bool (rowB x)) ∧ Below w.heap.size w w' := by
  obtain ⟨hl, hc, hp, hn⟩ := h
  have HP := Lib.hid hp
  have HN := Lib.hid hn
  have HRP := Lib.hid (fun t lo hi F C W h1 h2 => refPattern_any t lo hi F C W h1 h2)
  have HRE := Lib.hid (fun W h1 h2 => refExpr_any x.t lo hi F C W h1 h2)
  unfold maxLen at hc
  clear hp hn
  obtain ⟨z, hz⟩ : ∃ z, rowB x = z := ⟨_, rfl⟩
  have HZ : Hid ((decide (x.ps.length ≤ 24) && (patsB x.ps && if x.h then exprB x.t else zeroB x.t)) = z) := Lib.hid hz
  rw [hz]
  clear hz
  unfold rowV
  unfold nodeV at HRE
  go_enter Tryz.func69, Tryz.ntmps69
  go_wp2_with fail
  go_loopw [3] (fun iv wr => ∃ i : Nat, i ≤ x.ps.length ∧ i ≤ 24 ∧ iv = .int .i64 i ∧ Below w.heap.size w wr ∧ Bk wr w.heap.size 66 #[.int .i64 x.a, .slice D x.ps.length c, .bool x.h, .int .i64 x.t.k, .int .i64 x.t.a, .string x.t.s, .int .i64 x.t.n, .slice F x.t.l.length C] ∧ Hid (allB (fun i => (x.ps[i]?.map patB).getD true) i = true)) (fun iv _ => x.ps.length - (intOf iv).toNat)
  case atStart => exact ⟨0, Nat.zero_le _, by omega, rfl, (Below.refl _ _).alloc (Nat.le_refl _) _, Bk.new w 66 _, Lib.hid rfl⟩
  case round =>
    obtain ⟨i, hi1, hi24, rfl, hB, hBK, HQ⟩ := hrel
    have hz := hB.size
    have hlt := hBK.lt
    have HBK := Lib.hid hBK
    have k1 : wr.cell? ⟨w.heap.size, 1, none⟩ = some (.slice D x.ps.length c) := hBK.cell 1
    clear hBK
    by_cases hil : i < x.ps.length
    · have hil' : (i : Int) < (x.ps.length : Int) := by omega
      by_cases h24 : i = 24
      · have hzf : z = false := by rw [← HZ.out, decide_eq_false (by omega)]; rfl
        have t0 : decide ((24 : Int) ≤ (i : Int)) = true := decide_eq_true (by omega)
        clear HP HN HRP HRE HZ
        go_wp2_with fail
        go_ret
        exact ⟨by subst hzf; rfl, hB⟩
      have t0 : decide ((24 : Int) ≤ (i : Int)) = false := decide_eq_false (by omega)
      obtain ⟨b, o, F', C', rfl, hb1, hb2, hx, hnode⟩ := (HP.out i hil).kept hB hhi
      obtain ⟨x0, x1, x2, x3, x4⟩ := hx
      have hlb : b < wr.heap.size := by omega
      have HR := Lib.hid (HRP.out x.ps[i] lo hi F' C' wr hnode (by omega))
      have hno : Hid (patB x.ps[i] = false → z = false) := Lib.hid (fun h => by
        have e : patsB x.ps = false := allB_no hil (by rw [mapAt patB hil]; exact h)
        rw [← HZ.out, e, Bool.false_and, Bool.and_false])
      have hyes : Hid (patB x.ps[i] = true → allB (fun i => (x.ps[i]?.map patB).getD true) (i + 1) = true) := Lib.hid (fun h => by rw [allB, HQ.out, mapAt patB hil, h]; rfl)
      unfold patB at hno hyes
      obtain ⟨r, hr⟩ : ∃ r, (fitB x.ps[i] && goodB x.ps[i] true) = r := ⟨_, rfl⟩
      rw [hr] at HR hno hyes
      clear hr hnode HP HN HRP HRE HZ
      cases r with
      | false =>
        have hzf := hno.out rfl
        clear hno hyes
        go_wp2_with fail
        refine HR.out.mono ?_
        rintro e w1 ⟨rfl, hb1'⟩
        go_wp2_with fail
        go_ret
        exact ⟨by subst hzf; rfl, hB.trans (hb1'.mono hz)⟩
      | true =>
        have hzt := Lib.hid (hyes.out rfl)
        clear hno hyes
        go_wp2_with fail
        refine HR.out.mono ?_
        rintro e w1 ⟨rfl, hb1'⟩
        go_wp2_with fail
        go_roundw
        case rel => exact ⟨i + 1, by omega, by omega, rfl, hB.trans (hb1'.mono hz), HBK.out.below hb1' hlt, hzt⟩
        case measure => simp [intOf]; omega
    · obtain rfl : i = x.ps.length := by omega
      have HZ2 : Hid ((if x.h then exprB x.t else zeroB x.t) = z) := Lib.hid (by
        have e : patsB x.ps = true := HQ.out
        have := HZ.out
        rwa [decide_eq_true hi24, e, Bool.true_and, Bool.true_and] at this)
      have k2 : wr.cell? ⟨w.heap.size, 2, none⟩ = some (.bool x.h) := HBK.out.cell 2
      have k3 : wr.cell? ⟨w.heap.size, 3, none⟩ = some (.int .i64 x.t.k) := HBK.out.cell 3
      have k4 : wr.cell? ⟨w.heap.size, 4, none⟩ = some (.int .i64 x.t.a) := HBK.out.cell 4
      have k5 : wr.cell? ⟨w.heap.size, 5, none⟩ = some (.string x.t.s) := HBK.out.cell 5
      have k6 : wr.cell? ⟨w.heap.size, 6, none⟩ = some (.int .i64 x.t.n) := HBK.out.cell 6
      have k7 : wr.cell? ⟨w.heap.size, 7, none⟩ = some (.slice F x.t.l.length C) := HBK.out.cell 7
      have HNW := Lib.hid (HN.out.kept hB hhi)
      clear HP HN HRP HZ HBK HQ
      obtain ⟨hh, ehh⟩ : ∃ hh, x.h = hh := ⟨_, rfl⟩
      rw [ehh] at HZ2 k2
      clear ehh
      cases hh with
      | true =>
        have HZ3 : Hid ((fitB x.t && goodB x.t false) = z) := HZ2
        obtain ⟨r, hr⟩ : ∃ r, (fitB x.t && goodB x.t false) = r := ⟨_, rfl⟩
        rw [hr] at HRE HZ3
        clear hr HZ2
        go_wp2_with fail
        refine (HRE.out _ HNW.out (by omega)).mono ?_
        rintro e w1 ⟨rfl, hb1'⟩
        go_wp2_with fail
        go_ret
        exact ⟨by have h := HZ3.out; subst h; rfl, hB.trans (hb1'.mono hz)⟩
      | false =>
        have HZ3 : Hid (zeroB x.t = z) := HZ2
        clear HZ2 HRE HNW
        obtain ⟨⟨k, a, s, n, l⟩, ht⟩ : ∃ t, x.t = t := ⟨_, rfl⟩
        have HZ4 := HZ3.out
        rw [ht] at k3 k4 k5 k6 k7 HZ4
        replace HZ3 : Hid ((decide (k = 0) && (decide (a = 0) && (noneB s && (decide (n = 0) && decide (l.length = 0))))) = z) := HZ4
        clear HZ4
        replace k3 : wr.cell? ⟨w.heap.size, 3, none⟩ = some (.int .i64 k) := k3
        replace k4 : wr.cell? ⟨w.heap.size, 4, none⟩ = some (.int .i64 a) := k4
        replace k5 : wr.cell? ⟨w.heap.size, 5, none⟩ = some (.string s) := k5
        replace k6 : wr.cell? ⟨w.heap.size, 6, none⟩ = some (.int .i64 n) := k6
        replace k7 : wr.cell? ⟨w.heap.size, 7, none⟩ = some (.slice F l.length C) := k7
        obtain ⟨b0, h0⟩ : ∃ b, decide (k = 0) = b := ⟨_, rfl⟩
        obtain ⟨b1, h1⟩ : ∃ b, decide (a = 0) = b := ⟨_, rfl⟩
        obtain ⟨b2, h2⟩ : ∃ b, noneB s = b := ⟨_, rfl⟩
        obtain ⟨b3, h3⟩ : ∃ b, decide (n = 0) = b := ⟨_, rfl⟩
        obtain ⟨b4, h4⟩ : ∃ b, decide (l.length = 0) = b := ⟨_, rfl⟩
        have t0 : (k == 0) = b0 := by rw [← h0]; rfl
        have t1 : (a == 0) = b1 := by rw [← h1]; rfl
        have t2 : (s.toList == []) = b2 := h2
        have t3 : (n == 0) = b3 := by rw [← h3]; rfl
        have t4 : ((l.length : Int) == 0) = b4 := by rw [← h4]; show decide ((l.length : Int) = 0) = _; congr 1; apply propext; omega
        rw [h0, h1, h2, h3, h4] at HZ3
        clear h0 h1 h2 h3 h4 ht
        cases b0 <;> cases b1 <;> cases b2 <;> cases b3
        all_goals
          go_wp2_with fail
          go_ret
          exact ⟨by rw [← HZ3.out]; simp, hB⟩

end Go.Proofs.YteaojmcfppbgiaaGreatDoor

/- scholiumref04.Right. -/
namespace Go.Proofs.YteaojmcfppbgiaaGreatDoor
open Go.RowKit
set_option linter.unusedVariables false
set_option maxRecDepth 100000

/-- declB, in the order in which it is asked here. -/
def roomR (k : Int) (x y z : Nat) : Bool := (decide (k = 3) && (decide (0 < (x : Int)) || decide (0 < (y : Int)))) || (decide (k < 3) && decide (0 < (z : Int)))
theorem room_ref {k : Int} (h1 : 1 ≤ k) (h2 : k ≤ 3) (x y z : Nat) : roomB k x y z = (!decide ((32 : Int) < (z : Int)) && (!decide ((24 : Int) < (x : Int)) && (!decide ((16 : Int) < (y : Int)) && !roomR k x y z))) := by
  unfold roomB roomR
  have no : ∀ (n m : Nat) (q : Int), q = (m : Int) → decide (n ≤ m) = !decide (q < (n : Int)) := fun n m q hq => by
    subst hq
    by_cases h : n ≤ m
    · rw [decide_eq_true h, decide_eq_false (by omega)]; rfl
    · rw [decide_eq_false h, decide_eq_true (by omega)]; rfl
  by_cases h3 : k = 3
  · subst h3
    rw [if_pos rfl, no x 0 0 rfl, no y 0 0 rfl, no z 32 32 rfl]
    have fin : ∀ a b c d e : Bool, (a = false → c = false) → (b = false → d = false) → (!a && (!b && !e)) = (!e && (!c && (!d && !((true && (a || b)) || (false && true))))) := by
      intro a b c d e h1 h2
      cases a <;> cases b <;> cases c <;> cases d <;> cases e <;> simp_all
    have := fin (decide ((0 : Int) < (x : Int))) (decide ((0 : Int) < (y : Int))) (decide ((24 : Int) < (x : Int))) (decide ((16 : Int) < (y : Int))) (decide ((32 : Int) < (z : Int)))
      (fun h => decide_eq_false (by have := of_decide_eq_false h; omega)) (fun h => decide_eq_false (by have := of_decide_eq_false h; omega))
    rw [this]
    have e1 : decide ((3 : Int) = 3) = true := rfl
    have e2 : decide ((3 : Int) < 3) = false := rfl
    rw [e1, e2, Bool.false_and, Bool.false_and]
  · have hlt : k < 3 := by omega
    rw [if_neg h3, no x 24 24 rfl, no y 16 16 rfl, no z 0 0 rfl, decide_eq_false h3, decide_eq_true hlt]
    have fin : ∀ a b c d e : Bool, (a = false → e = false) → (!c && (!d && !a)) = (!e && (!c && (!d && !((false && b) || (true && a))))) := by
      intro a b c d e h1
      cases a <;> cases b <;> cases c <;> cases d <;> cases e <;> simp_all
    exact fin _ _ _ _ _ (fun h => decide_eq_false (by have := of_decide_eq_false h; omega))

set_option maxHeartbeats 8000000 in
theorem rDeclRight_any (x : DT) (lo hi : Nat) (p : DP) (w : World) (h : IsDecl w lo hi x p) (hhi : hi ≤ w.heap.size) :
    Calls Tryz.prog 30 #[declV x p] w fun e w' => e = .returned (.bool (declB x)) ∧ Below w.heap.size w w' := by
  have hs := h.hs
  have hro := Nat.le_trans h.ld h.md
  unfold maxLen at hs hro
  have HN := Lib.hid (fun W => refNameRight_any x.s W hs)
  have H2 := Lib.hid (fun W h1 h2 => refExpr_any x.t lo hi p.F p.C W h1 h2)
  have H1 := Lib.hid (fun W h1 h2 => rBinds_any x.te p.A p.a lo hi 24 W (Nat.le_trans h.la h.ma) h1 h2)
  have H3 := Lib.hid (fun W h1 h2 => rBinds_any x.co p.B p.b lo hi 16 W (Nat.le_trans h.lb h.mb) h1 h2)
  have HRW := Lib.hid (fun y D c F C W h1 h2 => rRow_any y lo hi D c F C W h1 h2)
  have HI := Lib.hid (fun W h1 => h.kept (B := w.heap.size) (w' := W) h1 hhi)
  clear h hs
  obtain ⟨z, hz⟩ : ∃ z, declB x = z := ⟨_, rfl⟩
  rw [hz]
  unfold declB exprB at hz
  obtain ⟨b1, e1⟩ : ∃ b, bindsB x.te = b := ⟨_, rfl⟩
  obtain ⟨b2, e2⟩ : ∃ b, (fitB x.t && goodB x.t false) = b := ⟨_, rfl⟩
  obtain ⟨b3, e3⟩ : ∃ b, bindsB x.co = b := ⟨_, rfl⟩
  obtain ⟨b0, e0⟩ : ∃ b, nmB x.s = b := ⟨_, rfl⟩
  rw [e0] at HN hz
  rw [e1] at H1 hz
  rw [e2] at H2 hz
  rw [e3] at H3 hz
  clear e0 e1 e2 e3
  unfold nodeV at H2
  have hW1 : ∀ o, Below w.heap.size w (w.alloc o) := fun o => (Below.refl _ _).alloc (Nat.le_refl _) _
  have HW1 := Lib.hid hW1
  clear hW1
  unfold declV
  obtain ⟨k, hk⟩ : ∃ k, x.k = k := ⟨_, rfl⟩
  rw [hk] at hz ⊢
  clear hk
  by_cases hk1 : k < 1
  · obtain rfl : z = false := by rw [← hz, decide_eq_false (by omega : ¬ 1 ≤ k)]; rfl
    clear HN H1 H2 H3 HRW hz
    go_enter Tryz.func30, Tryz.ntmps30
    go_wp2_with fail
    go_ret
    exact ⟨rfl, HW1.out _⟩
  by_cases hk2 : 3 < k
  · obtain rfl : z = false := by rw [← hz, decide_eq_false (by omega : ¬ k ≤ 3)]; simp
    clear HN H1 H2 H3 HRW hz
    go_enter Tryz.func30, Tryz.ntmps30
    go_wp2_with fail
    go_ret
    exact ⟨rfl, HW1.out _⟩
  rw [decide_eq_true (by omega : 1 ≤ k), decide_eq_true (by omega : k ≤ 3), Bool.true_and, Bool.true_and, room_ref (by omega) (by omega)] at hz
  have d1 : decide (k < 1) = false := decide_eq_false hk1
  have d2 : decide ((3 : Int) < k) = false := decide_eq_false hk2
  obtain ⟨r0, t0⟩ : ∃ b, decide ((24 : Int) < (x.te.length : Int)) = b := ⟨_, rfl⟩
  obtain ⟨r1, t1⟩ : ∃ b, decide ((16 : Int) < (x.co.length : Int)) = b := ⟨_, rfl⟩
  obtain ⟨r2, t2⟩ : ∃ b, decide ((32 : Int) < (x.ro.length : Int)) = b := ⟨_, rfl⟩
  rw [t0, t1, t2] at hz
  rw [t0] at H1
  rw [t1] at H3
  have hk1' : 1 ≤ k := by omega
  have HK := Lib.hid (And.intro hk1 hk2)
  clear hk1 hk2 hk1' t0 t1
  have HZ := Lib.hid hz
  clear hz
  cases b0 with
  | false =>
    obtain rfl : z = false := by rw [← HZ.out]; simp
    clear H1 H2 H3 HRW HZ
    go_enter Tryz.func30, Tryz.ntmps30
    go_wp2_with fail
    refine (HN.out _).mono ?_
    rintro e w1 ⟨rfl, hb1⟩
    go_wp2_with fail
    go_ret
    exact ⟨rfl, (HW1.out _).trans (hb1.mono (by simp))⟩
  | true =>
  cases b2 with
  | false =>
    obtain rfl : z = false := by rw [← HZ.out]; simp
    clear H1 H3 HRW HZ
    go_enter Tryz.func30, Tryz.ntmps30
    go_wp2_with fail
    refine (HN.out _).mono ?_
    rintro e w1 ⟨rfl, hb1⟩
    have hz1 := hb1.size
    simp at hz1
    have hB1 := (HW1.out _).trans (hb1.mono (by simp))
    have hcell := fun o => hb1.cell (p := ⟨w.heap.size, o, none⟩) (by simp)
    have hlt1 : w.heap.size < w1.heap.size := by omega
    go_wp2_with fail
    refine (H2.out _ (HI.out _ hB1).t (by omega)).mono ?_
    rintro e w2 ⟨rfl, hb2⟩
    go_wp2_with fail
    go_ret
    exact ⟨rfl, hB1.trans (hb2.mono (by omega))⟩
  | true =>
  cases r2 with
  | true =>
    obtain rfl : z = false := by rw [← HZ.out]; simp
    clear H1 H3 HRW HZ
    go_enter Tryz.func30, Tryz.ntmps30
    go_wp2_with fail
    refine (HN.out _).mono ?_
    rintro e w1 ⟨rfl, hb1⟩
    have hz1 := hb1.size
    simp at hz1
    have hB1 := (HW1.out _).trans (hb1.mono (by simp))
    have hcell := fun o => hb1.cell (p := ⟨w.heap.size, o, none⟩) (by simp)
    have hlt1 : w.heap.size < w1.heap.size := by omega
    go_wp2_with fail
    refine (H2.out _ (HI.out _ hB1).t (by omega)).mono ?_
    rintro e w2 ⟨rfl, hb2⟩
    have hcell2 := fun o => (hb1.trans (hb2.mono (by simp; omega))).cell (p := ⟨w.heap.size, o, none⟩) (by simp)
    clear hcell
    go_wp2_with fail
    go_ret
    exact ⟨rfl, hB1.trans (hb2.mono (by omega))⟩
  | false =>
  cases h1 : (!r0 && b1) with
  | false =>
    obtain rfl : z = false := by rw [← HZ.out]; cases r0 <;> cases b1 <;> simp_all
    rw [h1] at H1
    clear H3 HRW HZ h1
    go_enter Tryz.func30, Tryz.ntmps30
    go_wp2_with fail
    refine (HN.out _).mono ?_
    rintro e w1 ⟨rfl, hb1⟩
    have hz1 := hb1.size
    simp at hz1
    have hB1 := (HW1.out _).trans (hb1.mono (by simp))
    have hcell := fun o => hb1.cell (p := ⟨w.heap.size, o, none⟩) (by simp)
    have hlt1 : w.heap.size < w1.heap.size := by omega
    go_wp2_with fail
    refine (H2.out _ (HI.out _ hB1).t (by omega)).mono ?_
    rintro e w2 ⟨rfl, hb2⟩
    have hz2 := hb2.size
    have hB2 := hB1.trans (hb2.mono (by omega))
    have hcell2 := fun o => (hb1.trans (hb2.mono (by simp; omega))).cell (p := ⟨w.heap.size, o, none⟩) (by simp)
    clear hcell
    go_wp2_with fail
    refine (H1.out _ (HI.out _ hB2).te (by omega)).mono ?_
    rintro e w3 ⟨rfl, hb3⟩
    go_wp2_with fail
    go_ret
    exact ⟨rfl, hB2.trans (hb3.mono (by omega))⟩
  | true =>
  obtain ⟨rfl, rfl⟩ : r0 = false ∧ b1 = true := by cases r0 <;> cases b1 <;> simp_all
  rw [h1] at H1
  clear h1
  cases h3 : (!r1 && b3) with
  | false =>
    obtain rfl : z = false := by rw [← HZ.out]; cases r1 <;> cases b3 <;> simp_all
    rw [h3] at H3
    clear HRW HZ h3
    go_enter Tryz.func30, Tryz.ntmps30
    go_wp2_with fail
    refine (HN.out _).mono ?_
    rintro e w1 ⟨rfl, hb1⟩
    have hz1 := hb1.size
    simp at hz1
    have hB1 := (HW1.out _).trans (hb1.mono (by simp))
    have hcell := fun o => hb1.cell (p := ⟨w.heap.size, o, none⟩) (by simp)
    have hlt1 : w.heap.size < w1.heap.size := by omega
    go_wp2_with fail
    refine (H2.out _ (HI.out _ hB1).t (by omega)).mono ?_
    rintro e w2 ⟨rfl, hb2⟩
    have hz2 := hb2.size
    have hB2 := hB1.trans (hb2.mono (by omega))
    have hc2 := hb1.trans (hb2.mono (by simp; omega))
    have hcell2 := fun o => hc2.cell (p := ⟨w.heap.size, o, none⟩) (by simp)
    clear hcell
    go_wp2_with fail
    refine (H1.out _ (HI.out _ hB2).te (by omega)).mono ?_
    rintro e w3 ⟨rfl, hb3⟩
    have hz3 := hb3.size
    have hB3 := hB2.trans (hb3.mono (by omega))
    have hcell3 := fun o => (hc2.trans (hb3.mono (by simp; omega))).cell (p := ⟨w.heap.size, o, none⟩) (by simp)
    clear hcell2
    go_wp2_with fail
    refine (H3.out _ (HI.out _ hB3).co (by omega)).mono ?_
    rintro e w4 ⟨rfl, hb4⟩
    go_wp2_with fail
    go_ret
    exact ⟨rfl, hB3.trans (hb4.mono (by omega))⟩
  | true =>
    obtain ⟨rfl, rfl⟩ : r1 = false ∧ b3 = true := by cases r1 <;> cases b3 <;> simp_all
    rw [h3] at H3
    clear h3
    have HZ2 : Hid ((!roomR k x.te.length x.co.length x.ro.length && rowsB x.ro) = z) := Lib.hid (by have := HZ.out; simpa using this)
    clear HZ
    go_enter Tryz.func30, Tryz.ntmps30
    go_wp2_with fail
    refine (HN.out _).mono ?_
    rintro e w1 ⟨rfl, hb1⟩
    have hz1 := hb1.size
    simp at hz1
    have hB1 := (HW1.out _).trans (hb1.mono (by simp))
    have hcell := fun o => hb1.cell (p := ⟨w.heap.size, o, none⟩) (by simp)
    have hlt1 : w.heap.size < w1.heap.size := by omega
    go_wp2_with fail
    refine (H2.out _ (HI.out _ hB1).t (by omega)).mono ?_
    rintro e w2 ⟨rfl, hb2⟩
    have hz2 := hb2.size
    have hB2 := hB1.trans (hb2.mono (by omega))
    have hc2 := hb1.trans (hb2.mono (by simp; omega))
    have hcell2 := fun o => hc2.cell (p := ⟨w.heap.size, o, none⟩) (by simp)
    clear hcell
    go_wp2_with fail
    refine (H1.out _ (HI.out _ hB2).te (by omega)).mono ?_
    rintro e w3 ⟨rfl, hb3⟩
    have hz3 := hb3.size
    have hB3 := hB2.trans (hb3.mono (by omega))
    have hc3 := hc2.trans (hb3.mono (by simp; omega))
    have hcell3 := fun o => hc3.cell (p := ⟨w.heap.size, o, none⟩) (by simp)
    clear hcell2
    go_wp2_with fail
    refine (H3.out _ (HI.out _ hB3).co (by omega)).mono ?_
    rintro e w4 ⟨rfl, hb4⟩
    have hz4 := hb4.size
    have hB4 := hB3.trans (hb4.mono (by omega))
    have hc4 := hc3.trans (hb4.mono (by simp; omega))
    have BK4 : Bk w4 w.heap.size 39 #[] ∨ True := .inr trivial
    have hcell4 := fun o => hc4.cell (p := ⟨w.heap.size, o, none⟩) (by simp)
    have HBK := Lib.hid ((Bk.new w 30 #[.int .i64 k, .int .i64 x.a, .string x.s, .slice p.A x.te.length p.a, .int .i64 x.t.k, .int .i64 x.t.a, .string x.t.s, .int .i64 x.t.n, .slice p.F x.t.l.length p.C, .slice p.B x.co.length p.b, .slice p.D x.ro.length p.d]).below hc4 (by simp))
    have HB4 := Lib.hid hB4
    clear hcell3 BK4 hc2 hc3 hc4 hb1 hb2 hb3 hb4 hB1 hB2 hB3 hB4
    have hlt4 : w.heap.size < w4.heap.size := HBK.out.lt
    cases hrm : roomR k x.te.length x.co.length x.ro.length with
    | true =>
      obtain rfl : z = false := by rw [← HZ2.out, hrm]; rfl
      clear HZ2 HRW
      unfold roomR at hrm
      by_cases h3 : k = 3
      · subst h3
        rw [decide_eq_false (by decide : ¬ (3 : Int) < 3), Bool.false_and, Bool.or_false, decide_eq_true rfl, Bool.true_and] at hrm
        by_cases ha : 0 < x.te.length
        · clear hrm
          go_wp2_with fail
          go_ret
          exact ⟨rfl, HB4.out⟩
        · have hb : 0 < x.co.length := by
            rw [decide_eq_false (by omega), Bool.false_or] at hrm
            have := of_decide_eq_true hrm
            omega
          clear hrm
          go_wp2_with fail
          go_ret
          exact ⟨rfl, HB4.out⟩
      · have tk : (k == 3) = false := by simpa using h3
        have hlt : decide (k < 3) = true := decide_eq_true (by have := HK.out; omega)
        rw [decide_eq_false h3, Bool.false_and, Bool.false_or, hlt, Bool.true_and] at hrm
        have hb : 0 < x.ro.length := by have := of_decide_eq_true hrm; omega
        clear h3 hrm
        go_wp2_with fail
        go_ret
        exact ⟨rfl, HB4.out⟩
    | false =>
      have HZ3 : Hid (allB (fun i => (x.ro[i]?.map rowB).getD true) x.ro.length = z) := Lib.hid (by have := HZ2.out; rw [hrm] at this; exact (by simpa using this : rowsB x.ro = z))
      clear HZ2
      unfold roomR at hrm
      by_cases h3 : k = 3
      · subst h3
        rw [decide_eq_false (by decide : ¬ (3 : Int) < 3), Bool.false_and, Bool.or_false, decide_eq_true rfl, Bool.true_and, Bool.or_eq_false_iff] at hrm
        have ha : ¬ 0 < x.te.length := by have := of_decide_eq_false hrm.1; omega
        have hb : ¬ 0 < x.co.length := by have := of_decide_eq_false hrm.2; omega
        clear hrm
        go_wp2_with fail
        clear ha hb
        go_loopw [3] (fun iv wr => ∃ i : Nat, i ≤ x.ro.length ∧ iv = .int .i64 i ∧ Below w.heap.size w wr ∧ Bk wr w.heap.size 30 #[.int .i64 3, .int .i64 x.a, .string x.s, .slice p.A x.te.length p.a, .int .i64 x.t.k, .int .i64 x.t.a, .string x.t.s, .int .i64 x.t.n, .slice p.F x.t.l.length p.C, .slice p.B x.co.length p.b, .slice p.D x.ro.length p.d] ∧ Hid (allB (fun i => (x.ro[i]?.map rowB).getD true) i = true)) (fun iv _ => x.ro.length - (intOf iv).toNat)
        case atStart => exact ⟨0, Nat.zero_le _, rfl, HB4.out, HBK.out, Lib.hid rfl⟩
        case round =>
          obtain ⟨i, hi1, rfl, hB, hBK, HQ⟩ := hrel
          have hz := hB.size
          have hlt := hBK.lt
          have HBK2 := Lib.hid hBK
          have k10 : wr.cell? ⟨w.heap.size, 10, none⟩ = some (.slice p.D x.ro.length p.d) := hBK.cell 10
          clear hBK
          by_cases hil : i < x.ro.length
          · have hil' : (i : Int) < (x.ro.length : Int) := by omega
            obtain ⟨b, o, D, c, F, C, hA, hb1, hb2, hx, hrow⟩ := (HI.out wr hB).ro i hil
            rw [hA] at k10
            obtain ⟨x0, x1, x2, x3, x4, x5, x6, x7⟩ := hx
            have hlb : b < wr.heap.size := by omega
            have HR := Lib.hid (HRW.out x.ro[i] D c F C wr hrow (by omega))
            have hno : Hid (rowB x.ro[i] = false → z = false) := Lib.hid (fun h => by rw [← HZ3.out]; exact allB_no hil (by rw [mapAt rowB hil]; exact h))
            have hyes : Hid (rowB x.ro[i] = true → allB (fun i => (x.ro[i]?.map rowB).getD true) (i + 1) = true) := Lib.hid (fun h => by rw [allB, HQ.out, mapAt rowB hil, h]; rfl)
            obtain ⟨r, hr⟩ : ∃ r, rowB x.ro[i] = r := ⟨_, rfl⟩
            rw [hr] at HR hno hyes
            clear hr hrow HRW HI HZ3 hA
            cases r with
            | false =>
              have hzf := hno.out rfl
              clear hno hyes
              go_wp2_with fail
              refine HR.out.mono ?_
              rintro e w1 ⟨rfl, hb1'⟩
              go_wp2_with fail
              go_ret
              exact ⟨by subst hzf; rfl, hB.trans (hb1'.mono hz)⟩
            | true =>
              have hzt := Lib.hid (hyes.out rfl)
              clear hno hyes
              go_wp2_with fail
              refine HR.out.mono ?_
              rintro e w1 ⟨rfl, hb1'⟩
              go_wp2_with fail
              go_roundw
              case rel => exact ⟨i + 1, by omega, rfl, hB.trans (hb1'.mono hz), HBK2.out.below hb1' hlt, hzt⟩
              case measure => simp [intOf]; omega
          · obtain rfl : i = x.ro.length := by omega
            have hzt : z = true := by rw [← HZ3.out]; exact HQ.out
            clear HRW HI HZ3
            go_wp2_with fail
            go_ret
            exact ⟨by subst hzt; rfl, hB⟩
      · have tk : (k == 3) = false := by simpa using h3
        have hlt : decide (k < 3) = true := decide_eq_true (by have := HK.out; omega)
        rw [decide_eq_false h3, Bool.false_and, Bool.false_or, hlt, Bool.true_and] at hrm
        have hb : ¬ 0 < x.ro.length := by have := of_decide_eq_false hrm; omega
        clear h3 hrm
        go_wp2_with fail
        clear tk hlt hb
        go_loopw [3] (fun iv wr => ∃ i : Nat, i ≤ x.ro.length ∧ iv = .int .i64 i ∧ Below w.heap.size w wr ∧ Bk wr w.heap.size 30 #[.int .i64 k, .int .i64 x.a, .string x.s, .slice p.A x.te.length p.a, .int .i64 x.t.k, .int .i64 x.t.a, .string x.t.s, .int .i64 x.t.n, .slice p.F x.t.l.length p.C, .slice p.B x.co.length p.b, .slice p.D x.ro.length p.d] ∧ Hid (allB (fun i => (x.ro[i]?.map rowB).getD true) i = true)) (fun iv _ => x.ro.length - (intOf iv).toNat)
        case atStart => exact ⟨0, Nat.zero_le _, rfl, HB4.out, HBK.out, Lib.hid rfl⟩
        case round =>
          obtain ⟨i, hi1, rfl, hB, hBK, HQ⟩ := hrel
          have hz := hB.size
          have hlt := hBK.lt
          have HBK2 := Lib.hid hBK
          have k10 : wr.cell? ⟨w.heap.size, 10, none⟩ = some (.slice p.D x.ro.length p.d) := hBK.cell 10
          clear hBK
          by_cases hil : i < x.ro.length
          · have hil' : (i : Int) < (x.ro.length : Int) := by omega
            obtain ⟨b, o, D, c, F, C, hA, hb1, hb2, hx, hrow⟩ := (HI.out wr hB).ro i hil
            rw [hA] at k10
            obtain ⟨x0, x1, x2, x3, x4, x5, x6, x7⟩ := hx
            have hlb : b < wr.heap.size := by omega
            have HR := Lib.hid (HRW.out x.ro[i] D c F C wr hrow (by omega))
            have hno : Hid (rowB x.ro[i] = false → z = false) := Lib.hid (fun h => by rw [← HZ3.out]; exact allB_no hil (by rw [mapAt rowB hil]; exact h))
            have hyes : Hid (rowB x.ro[i] = true → allB (fun i => (x.ro[i]?.map rowB).getD true) (i + 1) = true) := Lib.hid (fun h => by rw [allB, HQ.out, mapAt rowB hil, h]; rfl)
            obtain ⟨r, hr⟩ : ∃ r, rowB x.ro[i] = r := ⟨_, rfl⟩
            rw [hr] at HR hno hyes
            clear hr hrow HRW HI HZ3 hA
            cases r with
            | false =>
              have hzf := hno.out rfl
              clear hno hyes
              go_wp2_with fail
              refine HR.out.mono ?_
              rintro e w1 ⟨rfl, hb1'⟩
              go_wp2_with fail
              go_ret
              exact ⟨by subst hzf; rfl, hB.trans (hb1'.mono hz)⟩
            | true =>
              have hzt := Lib.hid (hyes.out rfl)
              clear hno hyes
              go_wp2_with fail
              refine HR.out.mono ?_
              rintro e w1 ⟨rfl, hb1'⟩
              go_wp2_with fail
              go_roundw
              case rel => exact ⟨i + 1, by omega, rfl, hB.trans (hb1'.mono hz), HBK2.out.below hb1' hlt, hzt⟩
              case measure => simp [intOf]; omega
          · obtain rfl : i = x.ro.length := by omega
            have hzt : z = true := by rw [← HZ3.out]; exact HQ.out
            clear HRW HI HZ3
            go_wp2_with fail
            go_ret
            exact ⟨by subst hzt; rfl, hB⟩

end Go.Proofs.YteaojmcfppbgiaaGreatDoor
