/- The document's Same of signatures that are the same: it answers true. -/
import Derived.Test.YtcbbaognomddkaaGreatDoorS6
import Derived.Test.YtcbbaognomddkaaGreatDoorR2
import Derived.Test.YtcbbaognomddkaaGreatDoorTRGood
import Derived.Test.YtcbbaognomddkaaGreatDoorA3
import Derived.Deep.RegionHeld3
import Derived.RegionTactic
import Derived.LoopTactic
import Derived.Test.YtcbbaognomddkaaGreatDoorS4
import Derived.Test.YtcbbaognomddkaaGreatDoorSgMath
import Derived.Test.YtcbbaognomddkaaGreatDoorS7
namespace Go.Proofs.YtcbbaognomddkaaGreatDoor
open Go.RowKit
set_option linter.unusedVariables false
set_option maxRecDepth 100000

theorem rsameInts_yes (l : List Int) (a1 a2 : Option Addr) (c1 c2 lo hi lo' hi' : Nat) (w : World) (hl : l.length ≤ 9223372036854775807) (h1 : IntRow w lo hi a1 l) (h2 : IntRow w lo' hi' a2 l) (hhi : hi ≤ w.heap.size) (hhi' : hi' ≤ w.heap.size) :
    Calls Tryz.prog 20 #[.slice a1 l.length c1, .slice a2 l.length c2] w fun e w' => e = .returned (.bool true) ∧ Below w.heap.size w w' := by
  have H1 := Lib.hid h1
  have H2 := Lib.hid h2
  clear h1 h2
  obtain ⟨n, hn⟩ : ∃ n, l.length = n := ⟨_, rfl⟩
  rw [hn] at hl ⊢
  have HN := Lib.hid hn
  have hn9 : (n : Int) ≤ 9223372036854775807 := by omega
  clear hn
  go_enter Tryz.func20, Tryz.ntmps20
  go_wp2_with fail
  go_loopw [5] (fun i wr => ∃ j : Nat, j ≤ n ∧ i = .int .i64 j ∧ Below w.heap.size w wr) (fun i _ => n - (intOf i).toNat)
  case atStart => exact ⟨0, Nat.zero_le _, rfl, Below.refl _ _⟩
  case round =>
    obtain ⟨j, hj, rfl, hB⟩ := hrel
    by_cases hlt : j < n
    · have hjl : j < l.length := by have := HN.out; omega
      obtain ⟨b1, o1, e1, _, q1, k1⟩ := H1.out j hjl
      obtain ⟨b2, o2, e2, _, q2, k2⟩ := H2.out j hjl
      subst e1
      subst e2
      obtain ⟨x, hx⟩ : ∃ x, l[j] = x := ⟨_, rfl⟩
      have g1 := (hB.cell (p := ⟨b1, o1 + j, none⟩) (by show b1 < _; omega)).trans k1
      have g2 := (hB.cell (p := ⟨b2, o2 + j, none⟩) (by show b2 < _; omega)).trans k2
      rw [hx] at g1 g2
      clear k1 k2 hx hjl
      go_wp2_with fail
      go_region
      all_goals
        go_wp2_with fail
        go_roundw
        case rel => exact ⟨j + 1, by omega, by go_num, hB.drew⟩
        case measure => simp [intOf]; omega
    · go_wp2_with fail
      go_ret
      exact ⟨rfl, hB⟩

/-- Two terms that are the same, or both none. -/
def SameTX (t u : TM) : Prop := t = u ∨ (shapedB t = false ∧ shapedB u = false)
theorem SameTX.shaped {t u : TM} (h : SameTX t u) : shapedB u = shapedB t := by
  rcases h with rfl | ⟨h1, h2⟩
  · rfl
  · rw [h1, h2]
set_option maxHeartbeats 4000000 in
theorem rsameTerm_yes (t u : TM) (lo hi lo' hi' : Nat) (A A' : Option Addr) (cap cap' : Nat) (w : World) (h : IsTerm w lo hi t A cap) (h' : IsTerm w lo' hi' u A' cap') (hhi : hi ≤ w.heap.size) (hhi' : hi' ≤ w.heap.size) (hs : SameTX t u) :
    Calls Tryz.prog 19 #[termV t A cap, termV u A' cap'] w fun e w' => e = .returned (.bool true) ∧ Below w.heap.size w w' := by
  have HW2 := Lib.hid (show Below w.heap.size w ((w.alloc (.cells #[.int .i64 t.k, .int .i64 t.n, .slice A t.l.length cap] 31)).alloc (.cells #[.int .i64 u.k, .int .i64 u.n, .slice A' u.l.length cap'] 31)) from ((Below.refl w.heap.size w).alloc (Nat.le_refl _) _).alloc (by simp) _)
  have CA := Lib.hid (fun (V : World) (hV : Below w.heap.size w V) => refShaped_any t lo hi A cap V (h.kept hV hhi) (by have := hV.size; omega))
  have CB := Lib.hid (fun (V : World) (hV : Below w.heap.size w V) => refShaped_any u lo' hi' A' cap' V (h'.kept hV hhi') (by have := hV.size; omega))
  have CE := Lib.hid (fun (V : World) (hV : Below w.heap.size w V) => refEqual_any t u lo hi lo' hi' A A' cap cap' V (h.kept hV hhi) (h'.kept hV hhi') (by have := hV.size; omega) (by have := hV.size; omega))
  rw [hs.shaped] at CB
  have HAL := Lib.hid (fun (q : shapedB t = true) => (show alikeT t u = true from by
    rcases hs with rfl | ⟨h1, _⟩
    · exact alikeT_refl _
    · rw [h1] at q; cases q))
  obtain ⟨r, hr⟩ : ∃ r, shapedB t = r := ⟨_, rfl⟩
  rw [hr] at CA CB HAL
  have KB := Lib.hid (fun (V : World) (hV : Below ((w.alloc (.cells #[.int .i64 t.k, .int .i64 t.n, .slice A t.l.length cap] 31)).alloc (.cells #[.int .i64 u.k, .int .i64 u.n, .slice A' u.l.length cap'] 31)).heap.size ((w.alloc (.cells #[.int .i64 t.k, .int .i64 t.n, .slice A t.l.length cap] 31)).alloc (.cells #[.int .i64 u.k, .int .i64 u.n, .slice A' u.l.length cap'] 31)) V) => (show V.cell? ⟨w.heap.size, 0, none⟩ = some (.int .i64 t.k) ∧ V.cell? ⟨w.heap.size, 1, none⟩ = some (.int .i64 t.n) ∧ V.cell? ⟨w.heap.size, 2, none⟩ = some (.slice A t.l.length cap) ∧ V.cell? ⟨w.heap.size + 1, 0, none⟩ = some (.int .i64 u.k) ∧ V.cell? ⟨w.heap.size + 1, 1, none⟩ = some (.int .i64 u.n) ∧ V.cell? ⟨w.heap.size + 1, 2, none⟩ = some (.slice A' u.l.length cap') from by
    have j1 := ((Bk.new w 31 #[.int .i64 t.k, .int .i64 t.n, .slice A t.l.length cap]).alloc (.cells #[.int .i64 u.k, .int .i64 u.n, .slice A' u.l.length cap'] 31)).below hV (by simp; omega)
    have j2 := (Bk.last (w.alloc (.cells #[.int .i64 t.k, .int .i64 t.n, .slice A t.l.length cap] 31)) 31 #[.int .i64 u.k, .int .i64 u.n, .slice A' u.l.length cap'] (g := w.heap.size + 1) (by simp)).below hV (by simp)
    exact ⟨j1.cell 0, j1.cell 1, j1.cell 2, j2.cell 0, j2.cell 1, j2.cell 2⟩))
  clear hs hr h h'
  obtain ⟨tk, htk⟩ : ∃ k, t.k = k := ⟨_, rfl⟩
  obtain ⟨tn, htn⟩ : ∃ k, t.n = k := ⟨_, rfl⟩
  obtain ⟨tl, htl⟩ : ∃ k, t.l.length = k := ⟨_, rfl⟩
  obtain ⟨uk, huk⟩ : ∃ k, u.k = k := ⟨_, rfl⟩
  obtain ⟨un, hun⟩ : ∃ k, u.n = k := ⟨_, rfl⟩
  obtain ⟨ul, hul⟩ : ∃ k, u.l.length = k := ⟨_, rfl⟩
  unfold termV at CA CB CE ⊢
  rw [htk, htn, htl] at CA
  rw [huk, hun, hul] at CB
  rw [htk, htn, htl, huk, hun, hul] at CE HW2 KB ⊢
  clear htk htn htl huk hun hul
  obtain ⟨X, hX⟩ : ∃ X, (w.alloc (.cells #[.int .i64 tk, .int .i64 tn, .slice A tl cap] 31)).alloc (.cells #[.int .i64 uk, .int .i64 un, .slice A' ul cap'] 31) = X := ⟨_, rfl⟩
  rw [hX] at HW2 KB
  have hbk := Lib.hid ((Below.refl X.heap.size X).drew)
  go_enter Tryz.func19, Tryz.ntmps19
  go_wp2_with fail
  clear hX
  go_region_held3 (fun w' => w'.cell? ⟨w.heap.size, 0, none⟩ = some (.int .i64 tk) ∧ w'.cell? ⟨w.heap.size, 1, none⟩ = some (.int .i64 tn) ∧ w'.cell? ⟨w.heap.size, 2, none⟩ = some (.slice A tl cap) ∧ w'.cell? ⟨w.heap.size + 1, 0, none⟩ = some (.int .i64 uk) ∧ w'.cell? ⟨w.heap.size + 1, 1, none⟩ = some (.int .i64 un) ∧ w'.cell? ⟨w.heap.size + 1, 2, none⟩ = some (.slice A' ul cap'))
    (exact KB.out _ hbk.out)
    (first
     | (go_at_call_of 29 A
        refine (CA.out _ (HW2.out.trans (hbk.out.mono HW2.out.size))).mono ?_
        rintro e wn ⟨rfl, hbn⟩
        have hbk := Lib.hid (hbk.out.trans (hbn.mono hbk.out.size))
        clear hbn)
     | (go_at_call_of 29 A'
        refine (CB.out _ (HW2.out.trans (hbk.out.mono HW2.out.size))).mono ?_
        rintro e wn ⟨rfl, hbn⟩
        have hbk := Lib.hid (hbk.out.trans (hbn.mono hbk.out.size))
        clear hbn))
  all_goals
    have HB2 := Lib.hid (HW2.out.trans (hbk.out.mono HW2.out.size))
    obtain ⟨x0, x1, x2, y0, y1, y2⟩ := KB.out _ hbk.out
    have tb : (r != r) = false := by cases r <;> rfl
    go_wp2_with fail
    refine (CA.out _ HB2.out).mono ?_
    rintro e w4 ⟨rfl, hb4⟩
    have HB4 := Lib.hid (HB2.out.trans (hb4.mono HB2.out.size))
    have HBK4 := Lib.hid (hbk.out.trans (hb4.mono hbk.out.size))
    clear x0 x1 x2 y0 y1 y2 hb4
    obtain ⟨x0, x1, x2, y0, y1, y2⟩ := KB.out _ HBK4.out
    cases r
    · go_wp2_with fail
      go_ret
      exact ⟨rfl, HB4.out⟩
    · have hal := HAL.out rfl
      have CE2 := Lib.hid (CE.out _ HB4.out)
      rw [hal] at CE2
      clear hal
      go_wp2_with fail
      refine CE2.out.mono ?_
      rintro e w5 ⟨rfl, hb5⟩
      go_wp2_with fail
      go_ret
      exact ⟨rfl, HB4.out.trans (hb5.mono HB4.out.size)⟩

end Go.Proofs.YtcbbaognomddkaaGreatDoor

/- The document's Same of signatures that are the same: the lists. -/
namespace Go.Proofs.YtcbbaognomddkaaGreatDoor
open Go.RowKit
set_option linter.unusedVariables false
set_option maxRecDepth 100000

/-- Two entries that are the same, but for terms that are none. -/
structure SameE (x y : ET) : Prop where
  k : y.k = x.k
  s : y.s = x.s
  t : SameTX x.t y.t
  b : SameTX x.b y.b
  f : y.f = x.f
  p : y.p = x.p
  a : y.a = x.a
  i : y.i = x.i
  v : y.v = x.v
  c : y.c = x.c
  d : y.d = x.d

set_option maxHeartbeats 8000000 in
theorem rsame_yes (l l' : List ET) (A A' : Option Addr) (cap cap' lo hi lo' hi' : Nat) (w : World) (hl : l.length ≤ 700) (hll' : l'.length = l.length) (hn : EntsAt w lo hi A l) (hn' : EntsAt w lo' hi' A' l') (hhi : hi ≤ w.heap.size) (hhi' : hi' ≤ w.heap.size)
    (hs : ∀ i (h : i < l.length) (h' : i < l'.length), SameE l[i] l'[i]) :
    Calls Tryz.prog 9 #[.slice A l.length cap, .slice A' l'.length cap'] w fun e w' => e = .returned (.bool true) ∧ Below w.heap.size w w' := by
  have HN := Lib.hid hn
  have HN' := Lib.hid hn'
  have HS := Lib.hid hs
  rw [hll']
  have HLL := Lib.hid hll'
  obtain ⟨n, hnn⟩ : ∃ n, l.length = n := ⟨_, rfl⟩
  rw [hnn] at hl ⊢
  have HNN := Lib.hid hnn
  have hll : (n : Int) ≤ 700 := by omega
  clear hn hn' hs hl hll' hnn
  go_enter Tryz.func9, Tryz.ntmps9
  go_wp2_with fail
  go_loopw [5] (fun iv wr => ∃ i : Nat, i ≤ n ∧ iv = .int .i64 i ∧ Below w.heap.size w wr) (fun iv _ => n - (intOf iv).toNat)
  case atStart => exact ⟨0, Nat.zero_le _, rfl, Below.refl _ _⟩
  case round =>
    obtain ⟨i, hi1, rfl, hB⟩ := hrel
    have hz := hB.size
    by_cases hin : i < n
    · have hil : i < l.length := by have := HNN.out; omega
      have hil' : i < l'.length := by have := HNN.out; have := HLL.out; omega
      obtain ⟨b, o, p, hA, q1, q2, hx, hex⟩ := (HN.out i hil).kept hB hhi
      obtain ⟨b', o', p', hA', q1', q2', hy, hey⟩ := (HN'.out i hil').kept hB hhi'
      have hse := HS.out i hil hil'
      subst hA
      subst hA'
      obtain ⟨x, hxx⟩ : ∃ x, l[i] = x := ⟨_, rfl⟩
      obtain ⟨y, hyy⟩ : ∃ y, l'[i] = y := ⟨_, rfl⟩
      rw [hxx] at hx hex hse
      rw [hyy] at hy hey hse
      obtain ⟨x0, x1, x2, x3, x4, x5, x6, x7, x8, x9, x10, x11, x12, x13, x14⟩ := hx
      obtain ⟨y0, y1, y2, y3, y4, y5, y6, y7, y8, y9, y10, y11, y12, y13, y14⟩ := hy
      rw [hse.k] at y0
      rw [hse.s] at y1
      rw [hse.f] at y8
      rw [hse.p] at y9
      rw [hse.a] at y10
      rw [hse.i] at y11
      rw [hse.v] at y12
      rw [hse.c] at y13
      rw [hse.d] at y14
      have hbw : b < wr.heap.size := by omega
      have hbw' : b' < wr.heap.size := by omega
      have hi0' : (i : Int) < (n : Int) := by omega
      have hi9 : (i : Int) < 700 := by omega
      obtain ⟨cx, hcx⟩ : ∃ c, entC x p = c := ⟨_, rfl⟩
      have HW2 := Lib.hid (show Below wr.heap.size wr ((wr.alloc (.cells (entC x p) 34)).alloc (.cells #[.int .i64 x.k, .string x.s, .int .i64 y.t.k, .int .i64 y.t.n, .slice p'.T y.t.l.length p'.tc, .int .i64 y.b.k, .int .i64 y.b.n, .slice p'.B y.b.l.length p'.bc, .int .i64 x.f, .int .i64 x.p, .int .i64 x.a, .int .i64 x.i, .int .i64 x.v, .slice p'.C x.c.length p'.cc, .slice p'.D x.d.length p'.dc] 34)) from ((Below.refl wr.heap.size wr).alloc (Nat.le_refl _) _).alloc (by simp) _)
      obtain ⟨X, hX⟩ : ∃ X, (wr.alloc (.cells (entC x p) 34)).alloc (.cells #[.int .i64 x.k, .string x.s, .int .i64 y.t.k, .int .i64 y.t.n, .slice p'.T y.t.l.length p'.tc, .int .i64 y.b.k, .int .i64 y.b.n, .slice p'.B y.b.l.length p'.bc, .int .i64 x.f, .int .i64 x.p, .int .i64 x.a, .int .i64 x.i, .int .i64 x.v, .slice p'.C x.c.length p'.cc, .slice p'.D x.d.length p'.dc] 34) = X := ⟨_, rfl⟩
      rw [hX] at HW2
      have KX := Lib.hid (fun (V : World) (hV : Below X.heap.size X V) => (show BoxE V wr.heap.size x p from ((show Bk X wr.heap.size 34 (entC x p) from by rw [← hX]; exact (Bk.new wr _ _).alloc _).below hV (by rw [← hX]; simp; omega)).boxE))
      have KY := Lib.hid (fun (V : World) (hV : Below X.heap.size X V) => (show V.cell? ⟨wr.heap.size + 1, 0, none⟩ = some (.int .i64 x.k) ∧ V.cell? ⟨wr.heap.size + 1, 1, none⟩ = some (.string x.s) ∧ V.cell? ⟨wr.heap.size + 1, 2, none⟩ = some (.int .i64 y.t.k) ∧ V.cell? ⟨wr.heap.size + 1, 3, none⟩ = some (.int .i64 y.t.n) ∧ V.cell? ⟨wr.heap.size + 1, 4, none⟩ = some (.slice p'.T y.t.l.length p'.tc) ∧ V.cell? ⟨wr.heap.size + 1, 5, none⟩ = some (.int .i64 y.b.k) ∧ V.cell? ⟨wr.heap.size + 1, 6, none⟩ = some (.int .i64 y.b.n) ∧ V.cell? ⟨wr.heap.size + 1, 7, none⟩ = some (.slice p'.B y.b.l.length p'.bc) ∧
        V.cell? ⟨wr.heap.size + 1, 8, none⟩ = some (.int .i64 x.f) ∧ V.cell? ⟨wr.heap.size + 1, 9, none⟩ = some (.int .i64 x.p) ∧ V.cell? ⟨wr.heap.size + 1, 10, none⟩ = some (.int .i64 x.a) ∧ V.cell? ⟨wr.heap.size + 1, 11, none⟩ = some (.int .i64 x.i) ∧ V.cell? ⟨wr.heap.size + 1, 12, none⟩ = some (.int .i64 x.v) ∧ V.cell? ⟨wr.heap.size + 1, 13, none⟩ = some (.slice p'.C x.c.length p'.cc) ∧ V.cell? ⟨wr.heap.size + 1, 14, none⟩ = some (.slice p'.D x.d.length p'.dc) from by
        have j := (show Bk X (wr.heap.size + 1) 34 _ from by rw [← hX]; exact Bk.last _ _ _ (by simp)).below hV (by rw [← hX]; simp)
        exact ⟨j.cell 0, j.cell 1, j.cell 2, j.cell 3, j.cell 4, j.cell 5, j.cell 6, j.cell 7, j.cell 8, j.cell 9, j.cell 10, j.cell 11, j.cell 12, j.cell 13, j.cell 14⟩))
      have HBX := Lib.hid (hB.trans (HW2.out.mono hz))
      have HXZ := Lib.hid (show wr.heap.size + 1 < X.heap.size from by rw [← hX]; simp)
      have CT := Lib.hid (fun (V : World) (hV : Below wr.heap.size wr V) => rsameTerm_yes x.t y.t lo hi lo' hi' p.T p'.T p.tc p'.tc V (hex.ht.kept hV (by omega)) (hey.ht.kept hV (by omega)) (by have := hV.size; omega) (by have := hV.size; omega) hse.t)
      have CB := Lib.hid (fun (V : World) (hV : Below wr.heap.size wr V) => rsameTerm_yes x.b y.b lo hi lo' hi' p.B p'.B p.bc p'.bc V (hex.hb.kept hV (by omega)) (hey.hb.kept hV (by omega)) (by have := hV.size; omega) (by have := hV.size; omega) hse.b)
      have hcl := Nat.le_trans hex.lc hex.mc
      have hdl := Nat.le_trans hex.ld hex.md
      have CI := Lib.hid (fun (V : World) (hV : Below wr.heap.size wr V) => rsameInts_yes x.c p.C p'.C p.cc p'.cc lo hi lo' hi' V (by unfold maxLen at hcl; omega) (hex.hc.kept hV (by omega)) (by have h1 := hey.hc; rw [hse.c] at h1; exact h1.kept hV (by omega)) (by have := hV.size; omega) (by have := hV.size; omega))
      have CD := Lib.hid (fun (V : World) (hV : Below wr.heap.size wr V) => rsameInts_yes x.d p.D p'.D p.dc p'.dc lo hi lo' hi' V (by unfold maxLen at hdl; omega) (hex.hd.kept hV (by omega)) (by have h1 := hey.hd; rw [hse.d] at h1; exact h1.kept hV (by omega)) (by have := hV.size; omega) (by have := hV.size; omega))
      have HBB := Lib.hid hB
      have ts := eq_list (rfl : x.s = x.s)
      have ts' : (x.s.toList != x.s.toList) = false := by unfold bne; rw [ts]; rfl
      have n0 : ∀ z : Int, (z != z) = false := fun z => by simp
      unfold termV at CT CB
      unfold entC at hX
      clear hxx hyy hse hex hey hcl hdl hB hcx q1 q2 q1' q2'
      obtain ⟨z0, z1, z2, z3, z4, z5, z6, z7, z8, z9, z10, z11, z12, z13, z14⟩ := KX.out _ (Below.refl _ _)
      obtain ⟨v0, v1, v2, v3, v4, v5, v6, v7, v8, v9, v10, v11, v12, v13, v14⟩ := KY.out _ (Below.refl _ _)
      have hsX : wr.heap.size + 1 < X.heap.size := HXZ.out
      go_wp2_with fail
      refine (CT.out _ HW2.out).mono ?_
      rintro e w3 ⟨rfl, hb3⟩
      clear z0 z1 z2 z3 z4 z5 z6 z7 z8 z9 z10 z11 z12 z13 z14 v0 v1 v2 v3 v4 v5 v6 v7 v8 v9 v10 v11 v12 v13 v14 hsX x0 x1 x2 x3 x4 x5 x6 x7 x8 x9 x10 x11 x12 x13 x14 y0 y1 y2 y3 y4 y5 y6 y7 y8 y9 y10 y11 y12 y13 y14
      have HK3 := Lib.hid (show Below X.heap.size X w3 from hb3.mono (by first | exact Nat.le_refl _ | (rw [← hX]; exact Nat.le_refl _)))
      clear hb3 hX
      obtain ⟨z0, z1, z2, z3, z4, z5, z6, z7, z8, z9, z10, z11, z12, z13, z14⟩ := KX.out _ HK3.out
      obtain ⟨v0, v1, v2, v3, v4, v5, v6, v7, v8, v9, v10, v11, v12, v13, v14⟩ := KY.out _ HK3.out
      have hs3 : wr.heap.size + 1 < w3.heap.size := by have := HXZ.out; have := HK3.out.size; omega
      go_wp2_with fail
      refine (CB.out _ (HW2.out.trans (HK3.out.mono HW2.out.size))).mono ?_
      rintro e w4 ⟨rfl, hb4⟩
      have HK4 := Lib.hid (HK3.out.trans (hb4.mono HK3.out.size))
      clear z0 z1 z2 z3 z4 z5 z6 z7 z8 z9 z10 z11 z12 z13 z14 v0 v1 v2 v3 v4 v5 v6 v7 v8 v9 v10 v11 v12 v13 v14 hb4 hs3
      obtain ⟨z0, z1, z2, z3, z4, z5, z6, z7, z8, z9, z10, z11, z12, z13, z14⟩ := KX.out _ HK4.out
      obtain ⟨v0, v1, v2, v3, v4, v5, v6, v7, v8, v9, v10, v11, v12, v13, v14⟩ := KY.out _ HK4.out
      have hs4 : wr.heap.size + 1 < w4.heap.size := by have := HXZ.out; have := HK4.out.size; omega
      go_wp2_with fail
      refine (CI.out _ (HW2.out.trans (HK4.out.mono HW2.out.size))).mono ?_
      rintro e w5 ⟨rfl, hb5⟩
      have HK5 := Lib.hid (HK4.out.trans (hb5.mono HK4.out.size))
      clear z0 z1 z2 z3 z4 z5 z6 z7 z8 z9 z10 z11 z12 z13 z14 v0 v1 v2 v3 v4 v5 v6 v7 v8 v9 v10 v11 v12 v13 v14 hb5 hs4
      obtain ⟨z0, z1, z2, z3, z4, z5, z6, z7, z8, z9, z10, z11, z12, z13, z14⟩ := KX.out _ HK5.out
      obtain ⟨v0, v1, v2, v3, v4, v5, v6, v7, v8, v9, v10, v11, v12, v13, v14⟩ := KY.out _ HK5.out
      have hs5 : wr.heap.size + 1 < w5.heap.size := by have := HXZ.out; have := HK5.out.size; omega
      go_wp2_with fail
      refine (CD.out _ (HW2.out.trans (HK5.out.mono HW2.out.size))).mono ?_
      rintro e w6 ⟨rfl, hb6⟩
      have HB6 := Lib.hid (HBX.out.trans ((HK5.out.trans (hb6.mono HK5.out.size)).mono HBX.out.size))
      clear z0 z1 z2 z3 z4 z5 z6 z7 z8 z9 z10 z11 z12 z13 z14 v0 v1 v2 v3 v4 v5 v6 v7 v8 v9 v10 v11 v12 v13 v14 hb6 hs5
      go_wp2_with fail
      go_roundw
      case rel => exact ⟨i + 1, by omega, by go_num, HB6.out⟩
      case measure => simp [intOf]; omega
    · obtain rfl : i = n := by omega
      go_wp2_with fail
      go_ret
      exact ⟨rfl, hB⟩

end Go.Proofs.YtcbbaognomddkaaGreatDoor

/- What Add gives. No program. -/
namespace Go.Proofs.YtcbbaognomddkaaGreatDoor
open Go.RowKit
set_option linter.unusedVariables false
set_option maxRecDepth 100000

def twiceB (l more : List ET) : Bool := more.any fun y => inB (namesE l) y.s
noncomputable def errA (l more : List ET) : Int := if formedB l then (if l.length + more.length ≤ 256 then (if twiceB l more then 4 else if formedB (l ++ more) then 0 else 5) else 2) else 5
theorem twice_yes {l more : List ET} {i : Nat} (h : i < more.length) (hi : inB (namesE l) more[i].s = true) : twiceB l more = true := List.any_eq_true.2 ⟨_, List.getElem_mem h, hi⟩
theorem twice_no {l more : List ET} (h : ∀ i (h : i < more.length), inB (namesE l) more[i].s = false) : twiceB l more = false := by
  cases e : twiceB l more with
  | false => rfl
  | true =>
    obtain ⟨y, hy, hi⟩ := List.any_eq_true.1 e
    obtain ⟨i, hi', rfl⟩ := List.getElem_of_mem hy
    rw [h i hi'] at hi; cases hi
theorem inB_find {l : List ET} {s : ByteArray} {r : Int} (h : FindIs l s r) : (0 ≤ r ↔ inB (namesE l) s = true) := by
  unfold inB namesE
  rw [List.any_map, List.any_eq_true]
  constructor
  · intro h0
    rcases h with ⟨h1, _⟩ | ⟨n, h1, h2, h3, _⟩
    · omega
    · exact ⟨_, List.getElem_mem h2, eq_list h3⟩
  · rintro ⟨x, hx, he⟩
    obtain ⟨i, hi, rfl⟩ := List.getElem_of_mem hx
    rcases h with ⟨h1, h2⟩ | ⟨n, h1, _⟩
    · have := ne_list (h2 i hi)
      simp only [Function.comp] at he
      rw [this] at he; cases he
    · omega
/-- How long the lists of a formed signature's entries are. -/
theorem formed_lens {l : List ET} (h : formedB l = true) : l.length ≤ 256 ∧ ∀ x ∈ l, x.c.length ≤ 600 ∧ x.d.length ≤ 600 := by
  unfold formedB at h
  simp only [Bool.and_eq_true, decide_eq_true_eq] at h
  obtain ⟨h1, _, h2⟩ := h
  refine ⟨h1, fun x hx => ?_⟩
  obtain ⟨i, hi, rfl⟩ := List.getElem_of_mem hx
  have h3 := allB_true.1 h2 i hi
  rw [entQ_at hi] at h3
  unfold entP at h3
  simp only [Bool.and_eq_true] at h3
  obtain ⟨_, _, hid, hk⟩ := h3
  obtain ⟨i1, i2, i3⟩ := idle_split hid
  by_cases k1 : l[i].k = 1
  · rw [if_pos k1] at hk
    have hf := hk
    unfold famB at hf
    simp only [Bool.and_eq_true, decide_eq_true_eq] at hf
    refine ⟨by omega, ?_⟩
    rcases (fam_con hk).2 with h0 | ⟨_, hb⟩
    · omega
    · rcases Nat.lt_or_ge 600 l[i].d.length with hlt | hge
      · exfalso
        obtain ⟨p1, m, p2, p3, _⟩ := beh_place hb (q := 600) hlt
        rw [p2] at p1
        omega
      · exact hge
  rw [if_neg k1] at hk
  by_cases k2 : l[i].k = 2
  · have := i2 (.inl k2); omega
  rw [if_neg k2] at hk
  by_cases k4 : l[i].k = 4
  · have := i2 (.inr k4); omega
  rw [if_neg k4] at hk
  by_cases k3 : l[i].k = 3
  · have := i3 k3; omega
  · rw [if_neg k3] at hk; cases hk
theorem same_copyT (t : TM) : SameTX t (copyT t) := by
  unfold SameTX copyT
  cases hs : shapedB t with
  | true => rw [if_pos rfl]; exact .inl rfl
  | false => rw [if_neg (by decide)]; exact .inr ⟨rfl, rfl⟩
theorem same_copyE (x : ET) : SameE x (copyE x) := ⟨rfl, rfl, same_copyT _, same_copyT _, rfl, rfl, rfl, rfl, rfl, rfl, rfl⟩
theorem sameT_symm {t u : TM} (h : SameTX t u) : SameTX u t := h.elim (fun e => .inl e.symm) (fun ⟨a, b⟩ => .inr ⟨b, a⟩)
theorem same_symm {x y : ET} (h : SameE x y) : SameE y x := ⟨h.k.symm, h.s.symm, sameT_symm h.t, sameT_symm h.b, h.f.symm, h.p.symm, h.a.symm, h.i.symm, h.v.symm, h.c.symm, h.d.symm⟩
/-- A call that gives a list of entries and an error. -/
def GivesA (out : List ET) (err : Int) (w : World) (e : Ending) (w' : World) : Prop := ∃ A c, e = .returned (.tuple #[.slice A out.length c, .int .i64 err]) ∧ EntsAt w' 0 w'.heap.size A out ∧ out.length ≤ c ∧ Below w.heap.size w w'

end Go.Proofs.YtcbbaognomddkaaGreatDoor

/- sign.Add. -/
namespace Go.Proofs.YtcbbaognomddkaaGreatDoor
open Go.RowKit Go.Maps Go.WideMaps
set_option linter.unusedVariables false
set_option maxRecDepth 100000

noncomputable def outS (l more : List ET) : List ET := if errA l more = 0 then (l ++ more).map copyE else []
set_option maxHeartbeats 8000000 in
theorem sadd_any (l more : List ET) (A A' : Option Addr) (cap cap' lo hi lo' hi' : Nat) (w : World) (hl : l.length ≤ 600) (hm : more.length ≤ 600) (hlc : l.length ≤ cap) (hn : EntsAt w lo hi A l) (hn' : EntsAt w lo' hi' A' more) (hhi : hi ≤ w.heap.size) (hhi' : hi' ≤ w.heap.size) (hS : ShapesM w) :
    Calls Tryz.prog 7 #[.slice A l.length cap, .slice A' more.length cap'] w (GivesA (outS l more) (errA l more) w) := by
  have HN := Lib.hid hn
  have HN' := Lib.hid hn'
  have HS := Lib.hid hS
  have CF := Lib.hid (SFormed_any l A cap lo hi w hl hlc hn hhi hS)
  have CN := Lib.hid (fun (V : World) (hV : Below w.heap.size w V) => snamed_any l A cap lo hi V hl (hn.kept hV hhi) (by have := hV.size; omega))
  obtain ⟨eA, heA⟩ : ∃ e, errA l more = e := ⟨_, rfl⟩
  obtain ⟨oA, hoA⟩ : ∃ e, outS l more = e := ⟨_, rfl⟩
  have HE := Lib.hid heA
  have HO : Hid (oA = if eA = 0 then (l ++ more).map copyE else []) := Lib.hid (by rw [← hoA, outS, heA])
  rw [heA, hoA]
  unfold errA at HE
  obtain ⟨F, hF⟩ : ∃ F, formedB l = F := ⟨_, rfl⟩
  have HLE : Hid (F = true → l.length ≤ 256) := Lib.hid (fun e => (formed_lens (hF.trans e)).1)
  rw [hF] at CF HE
  have hll : (l.length : Int) ≤ 600 := by omega
  have hmm : (more.length : Int) ≤ 600 := by omega
  have HML := Lib.hid hm
  have HLL := Lib.hid hl
  clear heA hoA hF hn hn' hS hl hm hlc
  unfold GivesA
  cases F with
  | false =>
    obtain rfl : eA = 5 := by rw [← HE.out]; rfl
    obtain rfl : oA = [] := HO.out
    go_enter Tryz.func7, Tryz.ntmps7
    go_wp2_with fail
    refine CF.out.mono ?_
    rintro e w1 ⟨rfl, hb⟩
    go_wp2_with fail
    refine bodyPost_ret (v := .tuple #[.slice none 0 0, .int .i64 5]) (by simp [results, Tryz.results7, go_sem]) rfl ?_
    exact ⟨none, 0, rfl, fun i h => by (cases h), Nat.le_refl _, hb⟩
  | true =>
  have HL256 := Lib.hid (HLE.out rfl)
  have wr0 : IntKind.i64.wrap ((256 : Int) - (l.length : Int)) = 256 - (l.length : Int) := IntWalk.i64_in _ (by omega)
  by_cases hlong : l.length + more.length ≤ 256
  case neg =>
    have t0 : decide ((256 : Int) - (l.length : Int) < (more.length : Int)) = true := decide_eq_true (by omega)
    obtain rfl : eA = 2 := by rw [← HE.out, if_pos rfl, if_neg hlong]
    obtain rfl : oA = [] := HO.out
    clear hlong
    go_enter Tryz.func7, Tryz.ntmps7
    go_wp2_with fail
    refine CF.out.mono ?_
    rintro e w1 ⟨rfl, hb⟩
    go_wp2_with fail
    refine bodyPost_ret (v := .tuple #[.slice none 0 0, .int .i64 2]) (by simp [results, Tryz.results7, go_sem]) rfl ?_
    exact ⟨none, 0, rfl, fun i h => by (cases h), Nat.le_refl _, hb⟩
  have t0 : decide ((256 : Int) - (l.length : Int) < (more.length : Int)) = false := decide_eq_false (by omega)
  have HE2 : Hid ((if twiceB l more then 4 else if formedB (l ++ more) then 0 else 5) = eA) := Lib.hid (by have := HE.out; rwa [if_pos rfl, if_pos hlong] at this)
  have HLO := Lib.hid hlong
  clear hlong HE
  go_enter Tryz.func7, Tryz.ntmps7
  go_wp2_with fail
  refine CF.out.mono ?_
  rintro e w1 ⟨rfl, hb1⟩
  have HB1 := Lib.hid hb1
  clear hb1
  go_wp2_with fail
  refine (CN.out _ HB1.out).mono ?_
  rintro e w2 ⟨rfl, hset, hb2⟩
  have HB2 := Lib.hid (HB1.out.trans (hb2.mono HB1.out.size))
  have HSET := Lib.hid hset
  have HLT := Lib.hid (show w1.heap.size < w2.heap.size from by
    obtain ⟨es, clock, he, _⟩ := hset
    rcases Nat.lt_or_ge w1.heap.size w2.heap.size with h | h
    · exact h
    · rw [Array.getElem?_eq_none h] at he; cases he)
  clear hset hb2 CN CF
  obtain ⟨m, hmn⟩ : ∃ m, more.length = m := ⟨_, rfl⟩
  have HMN := Lib.hid hmn
  rw [hmn] at hmm t0 ⊢
  clear hmn
  go_wp2_with fail
  go_loopw [24] (fun iv wr => ∃ i : Nat, i ≤ m ∧ iv = .int .i64 i ∧ Below w2.heap.size w2 wr ∧ Hid (∀ j (h : j < more.length), j < i → inB (namesE l) more[j].s = false)) (fun iv _ => m - (intOf iv).toNat)
  case atStart => exact ⟨0, Nat.zero_le _, rfl, Below.refl _ _, Lib.hid (fun j h hj => by omega)⟩
  case round =>
    obtain ⟨i, hi1, rfl, hB, HQ⟩ := hrel
    have hz := hB.size
    have hz2 := HB2.out.size
    by_cases hin : i < m
    · have hil : i < more.length := by rw [HMN.out]; exact hin
      obtain ⟨b, o, p, hA, q1, q2, hx, hent⟩ := (HN'.out i hil).kept (HB2.out.trans (hB.mono hz2)) hhi'
      subst hA
      have x1 := hx.c1
      have hsz := hent.hs
      have hbw : b < wr.heap.size := by omega
      have hi0' : (i : Int) < (m : Int) := by omega
      have HY := Lib.hid (fun (h : inB (namesE l) more[i].s = true) => twice_yes hil h)
      have HNX := Lib.hid (fun (h : inB (namesE l) more[i].s = false) j (hj : j < more.length) (h2 : j < i + 1) => (show inB (namesE l) more[j].s = false from by
        rcases Nat.lt_or_eq_of_le (Nat.le_of_lt_succ h2) with h3 | h3
        · exact HQ.out j hj h3
        · subst h3; exact h))
      obtain ⟨s, hs⟩ : ∃ s, more[i].s = s := ⟨_, rfl⟩
      rw [hs] at x1 hsz HY HNX
      have hkey := key_ok hsz
      have h := HSET.out.below hB
      have HBB := Lib.hid hB
      unfold IsSet at h
      obtain ⟨r, hr⟩ : ∃ r, inB (namesE l) s = r := ⟨_, rfl⟩
      have HR := Lib.hid ((has_all (namesE l) s).trans hr)
      rw [hr] at HY HNX
      clear hr hs hx hent hB
      cases r with
      | true =>
        obtain rfl : eA = 4 := by rw [← HE2.out, if_pos (HY.out rfl)]
        obtain rfl : oA = [] := HO.out
        clear HY HNX
        go_wp2_with (at_lookup; (refine wpList_lookup_own_unit _ rfl _ _ 46 rfl 9 48 law9 Tryz.underlying46 (zeroU _) w1.heap.size _ _ rfl h _ _ rfl hkey ?_; rw [HR.out]))
        try go_wp2_with fail
        refine bodyPost_ret (v := .tuple #[.slice none 0 0, .int .i64 4]) (by simp [results, Tryz.results7, go_sem]) rfl ?_
        exact ⟨none, 0, rfl, fun i h => by (cases h), Nat.le_refl _, (HB2.out.trans (HBB.out.mono hz2)).alloc (by omega) _⟩
      | false =>
        have HNY := Lib.hid (HNX.out rfl)
        clear HY HNX
        go_wp2_with (at_lookup; (refine wpList_lookup_own_unit _ rfl _ _ 46 rfl 9 48 law9 Tryz.underlying46 (zeroU _) w1.heap.size _ _ rfl h _ _ rfl hkey ?_; rw [HR.out]))
        try go_wp2_with fail
        go_roundw
        case rel => exact ⟨i + 1, by omega, by go_num, HBB.out.alloc hz _, Lib.hid HNY.out⟩
        case measure => simp [intOf]; omega
    · obtain rfl : i = m := by omega
      have HTW := Lib.hid (twice_no (l := l) (more := more) (fun j h => HQ.out j h (by rw [HMN.out] at h; exact h)))
      have HE3 : Hid ((if formedB (l ++ more) then 0 else 5) = eA) := Lib.hid (by have := HE2.out; rw [HTW.out] at this; exact this)
      have HBW := Lib.hid (HB2.out.trans (hB.mono hz2))
      obtain ⟨X, hX⟩ : ∃ X, wr.alloc (.cells #[.slice A l.length cap, .slice A' i cap'] 22) = X := ⟨_, rfl⟩
      have HKX := Lib.hid (show Bk X wr.heap.size 22 #[.slice A l.length cap, .slice A' i cap'] from by rw [← hX]; exact Bk.new wr _ _)
      have HBX := Lib.hid (show Below w.heap.size w X from by rw [← hX]; exact HBW.out.alloc (by omega) _)
      have CC := Lib.hid (concat_any l more A A' cap cap' lo hi lo' hi' wr.heap.size 22 X HLL.out HML.out (HN.out.kept HBX.out hhi) (HN'.out.kept HBX.out hhi') (by have := HBX.out.size; omega) (by have := HBX.out.size; omega) (by rw [HMN.out]; exact HKX.out))
      have HLA := Lib.hid (show (l ++ more).length ≤ 600 from by have := HLO.out; simp; omega)
      obtain ⟨F2, hF2⟩ : ∃ F, formedB (l ++ more) = F := ⟨_, rfl⟩
      have HLEN : Hid (F2 = true → ∀ x ∈ l ++ more, x.c.length ≤ 600 ∧ x.d.length ≤ 600) := Lib.hid (fun e => (formed_lens (hF2.trans e)).2)
      have CF2 := Lib.hid (fun (B : Option Addr) (c : Nat) (V : World) (hn : EntsAt V 0 V.heap.size B (l ++ more)) (hc : (l ++ more).length ≤ c) (hV : Below w.heap.size w V) => SFormed_any (l ++ more) B c 0 V.heap.size V HLA.out hc hn (Nat.le_refl _) (HS.out.kept hV))
      have CP2 := Lib.hid (fun (e : F2 = true) (B : Option Addr) (c : Nat) (b : Nat) (V : World) (hn : EntsAt V 0 b B (l ++ more)) (hb : b ≤ V.heap.size) (hV : Below w.heap.size w V) => scopy_any (l ++ more) B c 0 b V HLA.out (HLEN.out e) hn hb (HS.out.kept hV))
      rw [hF2] at CF2 HE3
      obtain ⟨L, hL⟩ : ∃ L, l ++ more = L := ⟨_, rfl⟩
      rw [hL] at CC CF2 CP2 HO
      unfold GivesE at CC CP2
      clear hF2 hL hB HE2 HQ HTW HLEN
      go_wp2_with fail
      refine CC.out.mono ?_
      rintro e w3 ⟨A3, c3, rfl, he3, hc3, hb3⟩
      have HB3 := Lib.hid (HBX.out.trans (hb3.mono HBX.out.size))
      have HE3' := Lib.hid he3
      have HC3 := Lib.hid hc3
      clear he3 hc3 hb3 CC hX
      go_wp2_with fail
      refine (CF2.out _ _ _ HE3'.out HC3.out HB3.out).mono ?_
      rintro e w4 ⟨rfl, hb4⟩
      have HB4 := Lib.hid (HB3.out.trans (hb4.mono HB3.out.size))
      have HE4 := Lib.hid (HE3'.out.kept hb4 (Nat.le_refl _))
      have HZ4 := Lib.hid hb4.size
      clear hb4
      cases F2 with
      | false =>
        obtain rfl : eA = 5 := by rw [← HE3.out]; rfl
        obtain rfl : oA = [] := HO.out
        go_wp2_with fail
        refine bodyPost_ret (v := .tuple #[.slice none 0 0, .int .i64 5]) (by simp [results, Tryz.results7, go_sem]) rfl ?_
        exact ⟨none, 0, rfl, fun i h => by (cases h), Nat.le_refl _, HB4.out⟩
      | true =>
        obtain rfl : eA = 0 := by rw [← HE3.out]; rfl
        obtain rfl : oA = L.map copyE := HO.out
        go_wp2_with fail
        refine (CP2.out (by first | trivial | rfl) _ _ _ _ HE4.out HZ4.out HB4.out).mono ?_
        rintro e w5 ⟨A5, c5, rfl, he5, hc5, hb5⟩
        have HB5 := Lib.hid (HB4.out.trans (hb5.mono HB4.out.size))
        have HE5 := Lib.hid he5
        have HC5 := Lib.hid hc5
        clear he5 hc5 hb5
        obtain ⟨n5, hn5⟩ : ∃ n, (L.map copyE).length = n := ⟨_, rfl⟩
        rw [hn5] at HC5 ⊢
        have HN5 := Lib.hid hn5
        clear hn5
        go_wp2_with fail
        refine bodyPost_ret (v := .tuple #[.slice A5 n5 c5, .int .i64 0]) (by simp [results, Tryz.results7, go_sem]) rfl ?_
        exact ⟨A5, c5, by rw [HN5.out], HE5.out, by rw [HN5.out]; exact HC5.out, HB5.out⟩

end Go.Proofs.YtcbbaognomddkaaGreatDoor
