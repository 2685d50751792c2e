/- The walk of the law TreeDecls. -/
import Derived.Test.YtpahohbpilgdnaaDoorLawE
import Derived.Test.YtpahohbpilgdnaaDoorDRight
import Derived.Test.YtpahohbpilgdnaaDoorRDRight
import Derived.Test.YtpahohbpilgdnaaDoorDSame
import Derived.Test.YtpahohbpilgdnaaDoorRDSame
import Derived.Test.YtpahohbpilgdnaaDoorSamesN
namespace Go.Proofs.YtpahohbpilgdnaaDoor
open Go.RowKit
set_option linter.unusedVariables false
set_option maxRecDepth 100000

theorem decl_any (x : DT) (q : DP) (lo hi : Nat) (w : World) (h : IsDecl w lo hi x q) (hhi : hi ≤ w.heap.size) : Calls Tryd.prog 27 #[declV x q] w (DeclIs x w) := by
  by_cases hb : 30 < x.te.length ∨ 30 < x.co.length ∨ 40 < x.ro.length
  · exact decl_big x q w hb
  · obtain ⟨xk, xa, xs, te, t, co, ro⟩ := x
    obtain ⟨A1, a1, F1, C1, B1, b1, D1, d1⟩ := q
    have hb' : ¬ (30 < te.length ∨ 30 < co.length ∨ 40 < ro.length) := hb
    exact decl_small xk xa xs te t co ro A1 a1 F1 C1 B1 b1 D1 d1 lo hi w (by omega) (by omega) (by omega) h hhi

theorem pairsX_symm {α : Type} {f : α → α → Bool} (hf : ∀ a b, f a b = f b a) (l l' : List α) : pairsX f l l' = pairsX f l' l := by
  by_cases hl : l.length = l'.length
  · rw [pairsX_eq hl, pairsX_eq hl.symm, ← hl]
    refine allB_congr fun i hi => ?_
    rw [pairAtX_of f hi (by omega), pairAtX_of f (by omega) hi]
    exact hf _ _
  · rw [pairsX_len hl, pairsX_len (fun e => hl e.symm)]
theorem pairsB_symm {f : RT → RT → Bool} (hf : ∀ a b, f a b = f b a) (l l' : List RT) : pairsB f l l' = pairsB f l' l := by
  by_cases hl : l.length = l'.length
  · rw [pairsB_eq hl, pairsB_eq hl.symm, ← hl]
    refine allB_congr fun i hi => ?_
    rw [pairAt_of f hi (by omega), pairAt_of f (by omega) hi]
    exact hf _ _
  · rw [pairsB_len hl, pairsB_len (fun e => hl e.symm)]
theorem dec_symm {α : Type} [DecidableEq α] (a b : α) : decide (a = b) = decide (b = a) := by congr 1; exact propext ⟨Eq.symm, Eq.symm⟩
theorem sameBd_symm (x y : BT) : sameBd x y = sameBd y x := by unfold sameBd; rw [dec_symm x.s y.s, sameB_symm]
theorem sameRw_symm (x y : CT) : sameRw x y = sameRw y x := by
  unfold sameRw
  rw [pairsB_symm sameB_symm, sameB_symm x.t y.t, show (x.h == y.h) = (y.h == x.h) by cases x.h <;> cases y.h <;> rfl]
theorem sameDc_symm (x y : DT) : sameDc x y = sameDc y x := by
  unfold sameDc
  rw [dec_symm x.k y.k, dec_symm x.s y.s, pairsX_symm sameBd_symm x.te y.te, sameB_symm x.t y.t, pairsX_symm sameBd_symm x.co y.co, pairsX_symm sameRw_symm x.ro y.ro]

set_option maxHeartbeats 8000000 in
theorem decls_walk (x y : DT) (q r : DP) (w : World) (hx : IsDecl w 0 w.heap.size x q) (hy : IsDecl w 0 w.heap.size y r) (hS : Shapes w) (hR : Rooms w) :
    Calls Tryd.prog 7 #[declV x q, declV y r] w fun e w' => e = .returned (.bool true) ∧ Below w.heap.size w w' := by
  have HX := Lib.hid (fun (V : World) (hV : Below w.heap.size w V) => hx.kept hV (Nat.le_refl _))
  have HY := Lib.hid (fun (V : World) (hV : Below w.heap.size w V) => hy.kept hV (Nat.le_refl _))
  have HO := Lib.hid (fun (V : World) (hV : Below w.heap.size w V) => decl_any x q 0 w.heap.size V (hx.kept hV (Nat.le_refl _)) hV.size)
  have HP := Lib.hid (fun (V : World) (hV : Below w.heap.size w V) => decl_any y r 0 w.heap.size V (hy.kept hV (Nat.le_refl _)) hV.size)
  have e1 := fun V (hV : Below w.heap.size w V) => declRight_any x 0 w.heap.size q V (hx.kept hV (Nat.le_refl _)) hV.size (hS.below hV) (hR.below hV)
  have e2 := fun V (hV : Below w.heap.size w V) => sameDecl_any x y 0 w.heap.size 0 w.heap.size q r V (hx.kept hV (Nat.le_refl _)) (hy.kept hV (Nat.le_refl _)) hV.size hV.size
  have e3 := fun V (hV : Below w.heap.size w V) => sameDecl_any y x 0 w.heap.size 0 w.heap.size r q V (hy.kept hV (Nat.le_refl _)) (hx.kept hV (Nat.le_refl _)) hV.size hV.size
  have e5 := fun V (hV : Below w.heap.size w V) => awake_any V (hS.below hV)
  simp only [← sameDc_symm x y] at e3
  have e4 := fun (lo1 hi1 : Nat) (q' : DP) V (h1 : IsDecl V lo1 hi1 x q') (h2 : hi1 ≤ V.heap.size) => rDeclRight_any x lo1 hi1 q' V h1 h2
  have e6 := fun (lo1 hi1 lo2 hi2 : Nat) (q' r' : DP) V (h1 : IsDecl V lo1 hi1 x q') (h2 : IsDecl V lo2 hi2 y r') (h3 : hi1 ≤ V.heap.size) (h4 : hi2 ≤ V.heap.size) => rSameDecl_any x y lo1 hi1 lo2 hi2 q' r' V h1 h2 h3 h4
  obtain ⟨bx, hbx⟩ : ∃ b, declB x = b := ⟨_, rfl⟩
  obtain ⟨sx, hsx⟩ : ∃ b, sameDc x y = b := ⟨_, rfl⟩
  simp only [hbx] at e1 e4
  simp only [hsx] at e2 e3 e6
  have E1 := Lib.hid e1
  have E2 := Lib.hid e2
  have E3 := Lib.hid e3
  have E4 := Lib.hid e4
  have E5 := Lib.hid e5
  have E6 := Lib.hid e6
  clear hx hy hS hR e1 e2 e3 e4 e5 e6 hbx hsx
  have HW2 : Hid (Below w.heap.size w ((w.alloc (.cells #[.int .i64 x.k, .int .i64 x.a, .string x.s, .slice q.A x.te.length q.a, .int .i64 x.t.k, .int .i64 x.t.a, .string x.t.s, .int .i64 x.t.n, .slice q.F x.t.l.length q.C, .slice q.B x.co.length q.b, .slice q.D x.ro.length q.d] 48)).alloc (.cells #[.int .i64 y.k, .int .i64 y.a, .string y.s, .slice r.A y.te.length r.a, .int .i64 y.t.k, .int .i64 y.t.a, .string y.t.s, .int .i64 y.t.n, .slice r.F y.t.l.length r.C, .slice r.B y.co.length r.b, .slice r.D y.ro.length r.d] 48))) := Lib.hid (((Below.refl w.heap.size w).alloc (Nat.le_refl _) _).alloc (by simp) _)
  unfold DeclIs at HO HP
  unfold declV at HO HP E1 E2 E3 E4 E6 ⊢
  go_enter Tryd.func7, Tryd.ntmps7
  go_wp2_with fail
  refine (HO.out _ HW2.out).mono ?_
  rintro e w1 ⟨ok1, x', q', rfl, hc1, hd1⟩
  have hz1 := hd1.size
  simp at hz1
  have HB1 := Lib.hid (HW2.out.trans (hd1.mono (by simp; omega)))
  have BK1 : Bk w1 w.heap.size 48 #[.int .i64 x.k, .int .i64 x.a, .string x.s, .slice q.A x.te.length q.a, .int .i64 x.t.k, .int .i64 x.t.a, .string x.t.s, .int .i64 x.t.n, .slice q.F x.t.l.length q.C, .slice q.B x.co.length q.b, .slice q.D x.ro.length q.d] := ((Bk.new w 48 _).alloc _).below hd1 (by simp; omega)
  have BK2 : Bk w1 (w.heap.size + 1) 48 #[.int .i64 y.k, .int .i64 y.a, .string y.s, .slice r.A y.te.length r.a, .int .i64 y.t.k, .int .i64 y.t.a, .string y.t.s, .int .i64 y.t.n, .slice r.F y.t.l.length r.C, .slice r.B y.co.length r.b, .slice r.D y.ro.length r.d] := by
    have := (Bk.new (w.alloc (.cells #[.int .i64 x.k, .int .i64 x.a, .string x.s, .slice q.A x.te.length q.a, .int .i64 x.t.k, .int .i64 x.t.a, .string x.t.s, .int .i64 x.t.n, .slice q.F x.t.l.length q.C, .slice q.B x.co.length q.b, .slice q.D x.ro.length q.d] 48)) 48 #[.int .i64 y.k, .int .i64 y.a, .string y.s, .slice r.A y.te.length r.a, .int .i64 y.t.k, .int .i64 y.t.a, .string y.t.s, .int .i64 y.t.n, .slice r.F y.t.l.length r.C, .slice r.B y.co.length r.b, .slice r.D y.ro.length r.d]).below hd1 (by simp)
    simpa using this
  obtain ⟨k0, k1, k2, k3, k4, k5, k6, k7, k8, k9, k10⟩ := BK2.c11
  have hlt : w.heap.size + 1 < w1.heap.size := by omega
  have hb1a := HB1.out.alloc (by omega) (.cells #[.int .i64 x'.k, .int .i64 x'.a, .string x'.s, .slice q'.A x'.te.length q'.a, .int .i64 x'.t.k, .int .i64 x'.t.a, .string x'.t.s, .int .i64 x'.t.n, .slice q'.F x'.t.l.length q'.C, .slice q'.B x'.co.length q'.b, .slice q'.D x'.ro.length q'.d] 52)
  have HB1a := Lib.hid hb1a
  have HBK1 := Lib.hid (BK1.alloc (.cells #[.int .i64 x'.k, .int .i64 x'.a, .string x'.s, .slice q'.A x'.te.length q'.a, .int .i64 x'.t.k, .int .i64 x'.t.a, .string x'.t.s, .int .i64 x'.t.n, .slice q'.F x'.t.l.length q'.C, .slice q'.B x'.co.length q'.b, .slice q'.D x'.ro.length q'.d] 52))
  have HBK2 := Lib.hid (BK2.alloc (.cells #[.int .i64 x'.k, .int .i64 x'.a, .string x'.s, .slice q'.A x'.te.length q'.a, .int .i64 x'.t.k, .int .i64 x'.t.a, .string x'.t.s, .int .i64 x'.t.n, .slice q'.F x'.t.l.length q'.C, .slice q'.B x'.co.length q'.b, .slice q'.D x'.ro.length q'.d] 52))
  have HBK3 := Lib.hid (Bk.new w1 52 #[.int .i64 x'.k, .int .i64 x'.a, .string x'.s, .slice q'.A x'.te.length q'.a, .int .i64 x'.t.k, .int .i64 x'.t.a, .string x'.t.s, .int .i64 x'.t.n, .slice q'.F x'.t.l.length q'.C, .slice q'.B x'.co.length q'.b, .slice q'.D x'.ro.length q'.d])
  have HC1 := Lib.hid hc1
  have HA1 : Hid (Below w1.heap.size w1 (w1.alloc (.cells #[.int .i64 x'.k, .int .i64 x'.a, .string x'.s, .slice q'.A x'.te.length q'.a, .int .i64 x'.t.k, .int .i64 x'.t.a, .string x'.t.s, .int .i64 x'.t.n, .slice q'.F x'.t.l.length q'.C, .slice q'.B x'.co.length q'.b, .slice q'.D x'.ro.length q'.d] 52))) := Lib.hid ((Below.refl _ _).alloc (Nat.le_refl _) _)
  clear hd1 BK1 BK2 hc1 hb1a
  go_wp2_with fail
  refine (HP.out _ HB1a.out).mono ?_
  rintro e w2 ⟨ok2, y', r', rfl, hc2, hd2⟩
  have hz2 := hd2.size
  simp at hz2
  have HB2 := Lib.hid (HB1a.out.trans (hd2.mono (by simp; omega)))
  have HBL1 := Lib.hid (HBK1.out.below hd2 (by simp; omega))
  have HBL2 := Lib.hid (HBK2.out.below hd2 (by simp; omega))
  have HBL3 := Lib.hid (HBK3.out.below hd2 (by simp))
  have HD2 := Lib.hid hd2
  have HC2 := Lib.hid hc2
  obtain ⟨W, hW⟩ : ∃ W, w2.alloc (.cells #[.int .i64 y'.k, .int .i64 y'.a, .string y'.s, .slice r'.A y'.te.length r'.a, .int .i64 y'.t.k, .int .i64 y'.t.a, .string y'.t.s, .int .i64 y'.t.n, .slice r'.F y'.t.l.length r'.C, .slice r'.B y'.co.length r'.b, .slice r'.D y'.ro.length r'.d] 52) = W := ⟨_, rfl⟩
  have hBW : Below w.heap.size w W := by rw [← hW]; exact HB2.out.alloc (by omega) _
  have hA2 : Below w2.heap.size w2 W := by rw [← hW]; exact (Below.refl _ _).alloc (Nat.le_refl _) _
  have hWz : W.heap.size = w2.heap.size + 1 := by rw [← hW]; simp
  have BW1 : Bk W w.heap.size 48 #[.int .i64 x.k, .int .i64 x.a, .string x.s, .slice q.A x.te.length q.a, .int .i64 x.t.k, .int .i64 x.t.a, .string x.t.s, .int .i64 x.t.n, .slice q.F x.t.l.length q.C, .slice q.B x.co.length q.b, .slice q.D x.ro.length q.d] := by rw [← hW]; exact HBL1.out.alloc _
  have BW2 : Bk W (w.heap.size + 1) 48 #[.int .i64 y.k, .int .i64 y.a, .string y.s, .slice r.A y.te.length r.a, .int .i64 y.t.k, .int .i64 y.t.a, .string y.t.s, .int .i64 y.t.n, .slice r.F y.t.l.length r.C, .slice r.B y.co.length r.b, .slice r.D y.ro.length r.d] := by rw [← hW]; exact HBL2.out.alloc _
  have BW3 : Bk W w1.heap.size 52 #[.int .i64 x'.k, .int .i64 x'.a, .string x'.s, .slice q'.A x'.te.length q'.a, .int .i64 x'.t.k, .int .i64 x'.t.a, .string x'.t.s, .int .i64 x'.t.n, .slice q'.F x'.t.l.length q'.C, .slice q'.B x'.co.length q'.b, .slice q'.D x'.ro.length q'.d] := by rw [← hW]; exact HBL3.out.alloc _
  have BW4 : Bk W w2.heap.size 52 #[.int .i64 y'.k, .int .i64 y'.a, .string y'.s, .slice r'.A y'.te.length r'.a, .int .i64 y'.t.k, .int .i64 y'.t.a, .string y'.t.s, .int .i64 y'.t.n, .slice r'.F y'.t.l.length r'.C, .slice r'.B y'.co.length r'.b, .slice r'.D y'.ro.length r'.d] := by rw [← hW]; exact Bk.new _ _ _
  have HBW := Lib.hid hBW
  have HW := Lib.hid hW
  have HWZ := Lib.hid hWz
  have G5 := Lib.hid (fun V (hV : Below W.heap.size W V) => E5.out V (hBW.trans (hV.mono hBW.size)))
  clear hW hd2 hc2 k0 k1 k2 k3 k4 k5 k6 k7 k8 k9 k10
  by_cases hok : ok1 = true ∧ ok2 = true
  · obtain ⟨hk1, hk2⟩ := hok
    subst hk1 hk2
    obtain ⟨rfl, hi1⟩ := HC1.out rfl
    obtain ⟨rfl, hi2⟩ := HC2.out rfl
    have hj1 : IsDecl W _ w1.heap.size x' q' := ((hi1.kept HA1.out (Nat.le_refl _)).kept HD2.out (by simp)).kept hA2 (by omega)
    have hj2 : IsDecl W _ w2.heap.size y' r' := hi2.kept hA2 (Nat.le_refl _)
    have G1 := Lib.hid (fun V (hV : Below W.heap.size W V) => E1.out V (hBW.trans (hV.mono hBW.size)))
    have G2 := Lib.hid (fun V (hV : Below W.heap.size W V) => E2.out V (hBW.trans (hV.mono hBW.size)))
    have G3 := Lib.hid (fun V (hV : Below W.heap.size W V) => E3.out V (hBW.trans (hV.mono hBW.size)))
    have G4 := Lib.hid (fun V (hV : Below W.heap.size W V) => E4.out _ _ q' V (hj1.kept hV (by omega)) (by have := hV.size; omega))
    have G6 := Lib.hid (fun V (hV : Below W.heap.size W V) => E6.out _ _ _ _ q' r' V (hj1.kept hV (by omega)) (hj2.kept hV (by omega)) (by have := hV.size; omega) (by have := hV.size; omega))
    have KEEP := Lib.hid (fun V (hV : Below W.heap.size W V) => And.intro (BW1.below hV (by omega)).c11 (And.intro (BW2.below hV (by omega)).c11 (And.intro (BW3.below hV (by omega)).c11 (BW4.below hV (by omega)).c11)))
    obtain ⟨⟨p0, p1, p2, p3, p4, p5, p6, p7, p8, p9, p10⟩, ⟨c0, c1, c2, c3, c4, c5, c6, c7, c8, c9, c10⟩, ⟨d0, d1, d2, d3, d4, d5, d6, d7, d8, d9, d10⟩, f0, f1, f2, f3, f4, f5, f6, f7, f8, f9, f10⟩ := KEEP.out W (Below.refl _ _)
    have hbk := Lib.hid ((Below.refl W.heap.size W).drew)
    clear HO HP E1 E2 E3 E4 E5 E6 HX HY BW1 BW2 BW3 BW4 HBL1 HBL2 HBL3 HBK1 HBK2 HBK3 hi1 hi2 hj1 hj2 HC1 HC2 HD2 HA1 hA2 hBW
    go_wp2_with fail
    rw [HW.out]
    go_region_held3 (fun w' => Below W.heap.size W w' ∧ (w'.cell? ⟨w.heap.size, 0, none⟩ = some (.int .i64 x'.k) ∧ w'.cell? ⟨w.heap.size, 1, none⟩ = some (.int .i64 x'.a) ∧ w'.cell? ⟨w.heap.size, 2, none⟩ = some (.string x'.s) ∧ w'.cell? ⟨w.heap.size, 3, none⟩ = some (.slice q.A x'.te.length q.a) ∧ w'.cell? ⟨w.heap.size, 4, none⟩ = some (.int .i64 x'.t.k) ∧ w'.cell? ⟨w.heap.size, 5, none⟩ = some (.int .i64 x'.t.a) ∧ w'.cell? ⟨w.heap.size, 6, none⟩ = some (.string x'.t.s) ∧ w'.cell? ⟨w.heap.size, 7, none⟩ = some (.int .i64 x'.t.n) ∧ w'.cell? ⟨w.heap.size, 8, none⟩ = some (.slice q.F x'.t.l.length q.C) ∧ w'.cell? ⟨w.heap.size, 9, none⟩ = some (.slice q.B x'.co.length q.b) ∧ w'.cell? ⟨w.heap.size, 10, none⟩ = some (.slice q.D x'.ro.length q.d)) ∧ (w'.cell? ⟨(w.heap.size + 1), 0, none⟩ = some (.int .i64 y'.k) ∧ w'.cell? ⟨(w.heap.size + 1), 1, none⟩ = some (.int .i64 y'.a) ∧ w'.cell? ⟨(w.heap.size + 1), 2, none⟩ = some (.string y'.s) ∧ w'.cell? ⟨(w.heap.size + 1), 3, none⟩ = some (.slice r.A y'.te.length r.a) ∧ w'.cell? ⟨(w.heap.size + 1), 4, none⟩ = some (.int .i64 y'.t.k) ∧ w'.cell? ⟨(w.heap.size + 1), 5, none⟩ = some (.int .i64 y'.t.a) ∧ w'.cell? ⟨(w.heap.size + 1), 6, none⟩ = some (.string y'.t.s) ∧ w'.cell? ⟨(w.heap.size + 1), 7, none⟩ = some (.int .i64 y'.t.n) ∧ w'.cell? ⟨(w.heap.size + 1), 8, none⟩ = some (.slice r.F y'.t.l.length r.C) ∧ w'.cell? ⟨(w.heap.size + 1), 9, none⟩ = some (.slice r.B y'.co.length r.b) ∧ w'.cell? ⟨(w.heap.size + 1), 10, none⟩ = some (.slice r.D y'.ro.length r.d)) ∧ (w'.cell? ⟨w1.heap.size, 0, none⟩ = some (.int .i64 x'.k) ∧ w'.cell? ⟨w1.heap.size, 1, none⟩ = some (.int .i64 x'.a) ∧ w'.cell? ⟨w1.heap.size, 2, none⟩ = some (.string x'.s) ∧ w'.cell? ⟨w1.heap.size, 3, none⟩ = some (.slice q'.A x'.te.length q'.a) ∧ w'.cell? ⟨w1.heap.size, 4, none⟩ = some (.int .i64 x'.t.k) ∧ w'.cell? ⟨w1.heap.size, 5, none⟩ = some (.int .i64 x'.t.a) ∧ w'.cell? ⟨w1.heap.size, 6, none⟩ = some (.string x'.t.s) ∧ w'.cell? ⟨w1.heap.size, 7, none⟩ = some (.int .i64 x'.t.n) ∧ w'.cell? ⟨w1.heap.size, 8, none⟩ = some (.slice q'.F x'.t.l.length q'.C) ∧ w'.cell? ⟨w1.heap.size, 9, none⟩ = some (.slice q'.B x'.co.length q'.b) ∧ w'.cell? ⟨w1.heap.size, 10, none⟩ = some (.slice q'.D x'.ro.length q'.d)) ∧ (w'.cell? ⟨w2.heap.size, 0, none⟩ = some (.int .i64 y'.k) ∧ w'.cell? ⟨w2.heap.size, 1, none⟩ = some (.int .i64 y'.a) ∧ w'.cell? ⟨w2.heap.size, 2, none⟩ = some (.string y'.s) ∧ w'.cell? ⟨w2.heap.size, 3, none⟩ = some (.slice r'.A y'.te.length r'.a) ∧ w'.cell? ⟨w2.heap.size, 4, none⟩ = some (.int .i64 y'.t.k) ∧ w'.cell? ⟨w2.heap.size, 5, none⟩ = some (.int .i64 y'.t.a) ∧ w'.cell? ⟨w2.heap.size, 6, none⟩ = some (.string y'.t.s) ∧ w'.cell? ⟨w2.heap.size, 7, none⟩ = some (.int .i64 y'.t.n) ∧ w'.cell? ⟨w2.heap.size, 8, none⟩ = some (.slice r'.F y'.t.l.length r'.C) ∧ w'.cell? ⟨w2.heap.size, 9, none⟩ = some (.slice r'.B y'.co.length r'.b) ∧ w'.cell? ⟨w2.heap.size, 10, none⟩ = some (.slice r'.D y'.ro.length r'.d)))
      (first | exact ⟨hbk.out, KEEP.out _ hbk.out⟩)
      (first
        | (go_at_call 28; (with_reducible refine (G1.out _ hbk.out).mono ?_); rintro e w3 ⟨rfl, hb3⟩; have hbk := Lib.hid (hbk.out.trans (hb3.mono hbk.out.size)); clear hb3)
        | (go_at_call 29; (with_reducible refine (G4.out _ hbk.out).mono ?_); rintro e w3 ⟨rfl, hb3⟩; have hbk := Lib.hid (hbk.out.trans (hb3.mono hbk.out.size)); clear hb3)
        | (go_at_call 30; (with_reducible refine (G2.out _ hbk.out).mono ?_); rintro e w3 ⟨rfl, hb3⟩; have hbk := Lib.hid (hbk.out.trans (hb3.mono hbk.out.size)); clear hb3)
        | (go_at_call 30; (with_reducible refine (G3.out _ hbk.out).mono ?_); rintro e w3 ⟨rfl, hb3⟩; have hbk := Lib.hid (hbk.out.trans (hb3.mono hbk.out.size)); clear hb3)
        | (go_at_call 31; (with_reducible refine (G6.out _ hbk.out).mono ?_); rintro e w3 ⟨rfl, hb3⟩; have hbk := Lib.hid (hbk.out.trans (hb3.mono hbk.out.size)); clear hb3)
        | (go_at_call 14; (with_reducible refine (G5.out _ hbk.out).mono ?_); rintro e w3 ⟨rfl, hb3⟩; have hbk := Lib.hid (hbk.out.trans (hb3.mono hbk.out.size)); clear hb3))
    all_goals
      go_wp2_with fail
      go_ret
      exact ⟨rfl, HBW.out.trans (hbk.out.mono HBW.out.size)⟩
  · have hk : ok1 = false ∨ (ok1 = true ∧ ok2 = false) := by cases ok1 <;> cases ok2 <;> simp_all
    clear hok HO HP E1 E2 E3 E4 E5 E6 HX HY BW1 BW2 BW3 BW4 HBL1 HBL2 HBL3 HBK1 HBK2 HBK3 HC1 HC2 HD2 HA1 hA2 hBW
    rcases hk with rfl | ⟨rfl, rfl⟩
    · go_wp2_with fail
      rw [HW.out]
      refine (G5.out _ (Below.refl _ _)).mono ?_
      rintro e w4 ⟨rfl, hb4⟩
      go_wp2_with fail
      go_ret
      exact ⟨rfl, HBW.out.trans (hb4.mono HBW.out.size)⟩
    · go_wp2_with fail
      rw [HW.out]
      refine (G5.out _ (Below.refl _ _)).mono ?_
      rintro e w4 ⟨rfl, hb4⟩
      go_wp2_with fail
      go_ret
      exact ⟨rfl, HBW.out.trans (hb4.mono HBW.out.size)⟩

end Go.Proofs.YtpahohbpilgdnaaDoor
