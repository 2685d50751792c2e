import Derived.Test.YtchllgkgjompgaaGreatDoorW3
import Derived.Deep.RegionHeld3
import Derived.Laws.Tables
import Derived.Deep.CutRange
import Derived.Great.BuildSlice
namespace Go.Proofs.YtchllgkgjompgaaGreatDoor
open Go.RowKit
set_option linter.unusedVariables false
set_option maxRecDepth 100000

/-- A pair's value. -/
def pairV (a : TM) (A : Option Addr) (ca : Nat) (b : TM) (B : Option Addr) (cb : Nat) (h : Value) : Value := .agg #[.int .i64 a.k, .int .i64 a.n, .slice A a.l.length ca, .int .i64 b.k, .int .i64 b.n, .slice B b.l.length cb, h]
def sameF : Value := .func (.func 73) #[] #[]
def mostF : Value := .func (.func 74) #[] #[]
theorem holds_same (n m : Int) (w : World) : Calls Tryz.prog 73 #[.int .i64 n, .int .i64 m] w fun e w' => e = .returned (.bool (n == m)) ∧ w = w' := by
  go_enter Tryz.func73, Tryz.ntmps73
  go_wp2_with fail
  go_ret
  exact ⟨rfl, rfl⟩

/-- Without a machine nothing may come. -/
theorem cmay_none (F : Option Addr) (k n : Int) (A : Option Addr) (m cap : Nat) (w : World) : Calls Tryz.prog 71 #[.agg #[.pointer none, .pointer F], .agg #[.int .i64 k, .int .i64 n, .slice A m cap]] w fun e w' => e = .returned (.bool false) ∧ Below w.heap.size w w' := by
  obtain ⟨X, hX⟩ : ∃ X, (w.alloc (.cells #[.pointer none, .pointer F] 84)).alloc (.cells #[.int .i64 k, .int .i64 n, .slice A m cap] 25) = X := ⟨_, rfl⟩
  have HBX := Lib.hid (show Below w.heap.size w X from by rw [← hX]; exact ((Below.refl _ _).alloc (Nat.le_refl _) _).alloc (by simp) _)
  have HKq := Lib.hid (show Bk X w.heap.size 84 #[.pointer none, .pointer F] from by rw [← hX]; exact (Bk.new _ _ _).alloc _)
  have q0 : X.cell? ⟨w.heap.size, 0, none⟩ = some (.pointer none) := HKq.out.cell 0
  have HXE := Lib.hid hX
  clear hX
  go_enter Tryz.func71, Tryz.ntmps71
  go_wp2_with fail
  rw [HXE.out]
  go_region
  all_goals
    go_wp2_with fail
    go_ret
    exact ⟨rfl, by first | exact HBX.out.drew | exact HBX.out⟩
set_option maxHeartbeats 1000000 in
/-- What may come to a machine without entries: what names none. -/
theorem cmay_zero (t : TM) (F : Option Addr) (A : Option Addr) (cap g : Nat) (w : World) (h : NilM w g) (ht : IsTerm w 0 w.heap.size t A cap) (hS : ShapesM w) : Calls Tryz.prog 71 #[.agg #[.pointer (some ⟨g, 0, none⟩), .pointer F], termV t A cap] w fun e w' => e = .returned (.bool (trightB t 1048577 0)) ∧ Below w.heap.size w w' := by
  obtain ⟨X, hX⟩ : ∃ X, (w.alloc (.cells #[.pointer (some ⟨g, 0, none⟩), .pointer F] 84)).alloc (.cells #[.int .i64 t.k, .int .i64 t.n, .slice A t.l.length cap] 25) = X := ⟨_, rfl⟩
  have HBX := Lib.hid (show Below w.heap.size w X from by rw [← hX]; exact ((Below.refl _ _).alloc (Nat.le_refl _) _).alloc (by simp) _)
  have HKq := Lib.hid (show Bk X w.heap.size 84 #[.pointer (some ⟨g, 0, none⟩), .pointer F] from by rw [← hX]; exact (Bk.new _ _ _).alloc _)
  have HKt := Lib.hid (show Bk X (w.heap.size + 1) 25 #[.int .i64 t.k, .int .i64 t.n, .slice A t.l.length cap] from by rw [← hX]; exact Bk.last _ _ _ (by simp))
  have HKK := Lib.hid (fun (V : World) (hV : Below X.heap.size X V) => (show V.cell? ⟨w.heap.size, 0, none⟩ = some (.pointer (some ⟨g, 0, none⟩)) ∧ V.cell? ⟨w.heap.size + 1, 0, none⟩ = some (.int .i64 t.k) ∧ V.cell? ⟨w.heap.size + 1, 1, none⟩ = some (.int .i64 t.n) ∧ V.cell? ⟨w.heap.size + 1, 2, none⟩ = some (.slice A t.l.length cap) from by
    have k := HKt.out.below hV HKt.out.lt
    exact ⟨(HKq.out.below hV HKq.out.lt).cell 0, k.cell 0, k.cell 1, k.cell 2⟩))
  have CL := Lib.hid (fun (V : World) (hV : Below X.heap.size X V) => wlen_zero g V (h.over (HBX.out.trans (hV.mono HBX.out.size))))
  have CR := Lib.hid (fun (V : World) (hV : Below X.heap.size X V) => tRight_any t 1048577 0 0 w.heap.size A cap V (ht.kept (HBX.out.trans (hV.mono HBX.out.size)) (Nat.le_refl _)) (HBX.out.trans (hV.mono HBX.out.size)).size (hS.kept (HBX.out.trans (hV.mono HBX.out.size))))
  obtain ⟨z, hz⟩ : ∃ z, trightB t 1048577 0 = z := ⟨_, rfl⟩
  rw [hz] at CR ⊢
  unfold termV at CR
  unfold termV
  obtain ⟨s0, s1, s2, s3⟩ := HKK.out X (Below.refl _ _)
  have hlX := HKt.out.lt
  have hbk0 := Lib.hid (show Below X.heap.size X X.drew from (Below.refl _ _).drew)
  have HXE := Lib.hid hX
  clear ht hS h hz hX
  go_enter Tryz.func71, Tryz.ntmps71
  go_wp2_with fail
  rw [HXE.out]
  go_region_held3 (fun w' => w'.cell? ⟨w.heap.size, 0, none⟩ = some (.pointer (some ⟨g, 0, none⟩)) ∧ w'.cell? ⟨w.heap.size + 1, 0, none⟩ = some (.int .i64 t.k) ∧ w'.cell? ⟨w.heap.size + 1, 1, none⟩ = some (.int .i64 t.n) ∧ w'.cell? ⟨w.heap.size + 1, 2, none⟩ = some (.slice A t.l.length cap))
    ((refine (HKK.out _ ?_); repeat (first | with_reducible exact hbk0.out | with_reducible exact hbC.out | with_reducible exact Below.refl _ _ | with_reducible refine Below.al ?_ _ | with_reducible refine Below.dr ?_ | with_reducible refine Below.st ?_ (by first | omega | (simp <;> omega)) _)))
    (first
    | (go_at_call 102
       refine (CL.out _ (by first | with_reducible exact hbk0.out | with_reducible exact Below.refl _ _)).mono ?_
       rintro e w3 ⟨rfl, rfl⟩)
    | (go_at_call 77
       refine (CR.out _ (by repeat (first | with_reducible exact hbk0.out | with_reducible exact Below.refl _ _ | with_reducible refine Below.al ?_ _ | with_reducible refine Below.dr ?_ | with_reducible refine Below.st ?_ (by first | omega | (simp <;> omega)) _))).mono ?_
       rintro e w3 ⟨rfl, hb3⟩
       have hbC := Lib.hid (by first | exact hbk0.out.trans (hb3.mono hbk0.out.size))
       clear hb3))
  all_goals
    go_wp2_with fail
    go_ret
    exact ⟨rfl, HBX.out.trans (hbC.out.mono HBX.out.size)⟩

set_option maxHeartbeats 1000000 in
/-- No record's constructor, where there are no entries. -/
theorem crecord_no (M F : Option Addr) (t : TM) (A : Option Addr) (cap : Nat) (w : World) (hN : NoEnt w M) (ht : IsTerm w 0 w.heap.size t A cap) (hS : ShapesM w) :
    Calls Tryz.prog 132 #[.agg #[.pointer M, .pointer F], termV t A cap] w fun e w' => e = .returned (.tuple #[.agg #[.int .i64 0, .slice none 0 0, .slice none 0 0], .bool false]) ∧ Below w.heap.size w w' := by
  have CC := Lib.hid (fun (V : World) (hV : Below w.heap.size w V) => wCon_no M t A cap V (hN.over hV) ((ht.kept hV (Nat.le_refl _)).wide (Nat.le_refl _) hV.size) (hS.kept hV))
  unfold termV at CC
  unfold termV
  obtain ⟨X, hX⟩ : ∃ X, ((w.alloc (.cells #[.pointer M, .pointer F] 84)).alloc (.cells #[.int .i64 t.k, .int .i64 t.n, .slice A t.l.length cap] 25)).alloc (.cells #[.int .i64 0, .slice none 0 0, .slice none 0 0] 169) = X := ⟨_, rfl⟩
  have HBX := Lib.hid (show Below w.heap.size w X from by rw [← hX]; exact (((Below.refl _ _).alloc (Nat.le_refl _) _).alloc (by simp) _).alloc (by simp; omega) _)
  have HKq := Lib.hid (show Bk X w.heap.size 84 #[.pointer M, .pointer F] from by rw [← hX]; exact ((Bk.new _ _ _).alloc _).alloc _)
  have HKt := Lib.hid (show Bk X (w.heap.size + 1) 25 #[.int .i64 t.k, .int .i64 t.n, .slice A t.l.length cap] from by rw [← hX]; exact (Bk.last _ _ _ (by simp)).alloc _)
  have HKr := Lib.hid (show Bk X (w.heap.size + 1 + 1) 169 #[.int .i64 0, .slice none 0 0, .slice none 0 0] from by rw [← hX]; exact Bk.last _ _ _ (by simp))
  have q0 : X.cell? ⟨w.heap.size, 0, none⟩ = some (.pointer M) := HKq.out.cell 0
  have x0 : X.cell? ⟨w.heap.size + 1, 0, none⟩ = some (.int .i64 t.k) := HKt.out.cell 0
  have x1 : X.cell? ⟨w.heap.size + 1, 1, none⟩ = some (.int .i64 t.n) := HKt.out.cell 1
  have x2 : X.cell? ⟨w.heap.size + 1, 2, none⟩ = some (.slice A t.l.length cap) := HKt.out.cell 2
  clear hN ht hS
  go_enter Tryz.func132, Tryz.ntmps132
  go_wp2_with fail
  refine (CC.out _ HBX.out).mono ?_
  rintro e w1 ⟨rfl, hb1⟩
  have HB1 := Lib.hid (HBX.out.trans (hb1.mono HBX.out.size))
  have Hr1 := Lib.hid (HKr.out.below hb1 HKr.out.lt)
  have hlr := Hr1.out.lt
  have hfz : ∀ q, w1.frozen? ⟨w.heap.size + 1 + 1, q, none⟩ = false := fun q => Hr1.out.cold q
  have r0 : w1.cell? ⟨w.heap.size + 1 + 1, 0, none⟩ = some (.int .i64 0) := Hr1.out.cell 0
  have r1 : w1.cell? ⟨w.heap.size + 1 + 1, 1, none⟩ = some (.slice none 0 0) := Hr1.out.cell 1
  have r2 : w1.cell? ⟨w.heap.size + 1 + 1, 2, none⟩ = some (.slice none 0 0) := Hr1.out.cell 2
  have B5 := ((Hr1.out.at_ 0 (.int .i64 0)).at_ 1 (.slice none 0 0)).at_ 2 (.slice none 0 0)
  have HS0 := Lib.hid (B5.cell 0)
  have HS1 := Lib.hid (B5.cell 1)
  have HS2 := Lib.hid (B5.cell 2)
  clear B5 hb1 hX q0 x0 x1 x2
  go_wp2_with fail
  refine bodyPost_ret (v := .tuple #[.agg #[.int .i64 0, .slice none 0 0, .slice none 0 0], .bool false]) (by simp [results, Tryz.results132, go_sem, HS0.out, HS1.out, HS2.out]) rfl ?_
  exact ⟨rfl, Below.st (Below.st (Below.st HB1.out (by omega) _) (by omega) _) (by omega) _⟩



theorem Bk.upC {b g : Nat} {w w' : World} {e : TypeId} {cs : Array Value} (h : Bk w g e cs) (hu : Up b w w') (h1 : g ≠ b) : Bk w' g e cs := (hu.block g h.lt (fun e => h1 (by injection e))).trans h
/-- The first one errs. -/
theorem cparts_few (g : Nat) (F : Option Addr) (a b : TM) (A B : Option Addr) (ca cb : Nat) (h : Value) (w : World) (hA : ∀ V, Below w.heap.size w V → Calls Tryz.prog 35 #[.pointer (some ⟨g, 0, none⟩), termV a A ca, .pointer F] V fun e w' => ∃ G c, e = .returned (.tuple #[.agg #[.int .i64 0, .int .i64 0, .slice G 0 c], .int .i64 8]) ∧ Below V.heap.size V w') :
    Calls Tryz.prog 103 #[.agg #[.pointer (some ⟨g, 0, none⟩), .pointer F], pairV a A ca b B cb h] w fun e w' => e = .returned (.tuple #[.slice none 0 0, .bool false, .int .i64 8]) ∧ Below w.heap.size w w' := by
  have CA := Lib.hid hA
  unfold termV at CA
  unfold pairV
  obtain ⟨X, hX⟩ : ∃ X, (w.alloc (.cells #[.pointer (some ⟨g, 0, none⟩), .pointer F] 84)).alloc (.cells #[.int .i64 a.k, .int .i64 a.n, .slice A a.l.length ca, .int .i64 b.k, .int .i64 b.n, .slice B b.l.length cb, h] 88) = X := ⟨_, rfl⟩
  have HBX := Lib.hid (show Below w.heap.size w X from by rw [← hX]; exact ((Below.refl _ _).alloc (Nat.le_refl _) _).alloc (by simp) _)
  have HKq := Lib.hid (show Bk X w.heap.size 84 #[.pointer (some ⟨g, 0, none⟩), .pointer F] from by rw [← hX]; exact (Bk.new _ _ _).alloc _)
  have HKp := Lib.hid (show Bk X (w.heap.size + 1) 88 #[.int .i64 a.k, .int .i64 a.n, .slice A a.l.length ca, .int .i64 b.k, .int .i64 b.n, .slice B b.l.length cb, h] from by rw [← hX]; exact Bk.last _ _ _ (by simp))
  have q0 : X.cell? ⟨w.heap.size, 0, none⟩ = some (.pointer (some ⟨g, 0, none⟩)) := HKq.out.cell 0
  have q1 : X.cell? ⟨w.heap.size, 1, none⟩ = some (.pointer F) := HKq.out.cell 1
  have p0 : X.cell? ⟨w.heap.size + 1, 0, none⟩ = some (.int .i64 a.k) := HKp.out.cell 0
  have p1 : X.cell? ⟨w.heap.size + 1, 1, none⟩ = some (.int .i64 a.n) := HKp.out.cell 1
  have p2 : X.cell? ⟨w.heap.size + 1, 2, none⟩ = some (.slice A a.l.length ca) := HKp.out.cell 2
  clear hA
  go_enter Tryz.func103, Tryz.ntmps103
  go_wp2_with fail
  refine (CA.out _ HBX.out).mono ?_
  rintro e w1 ⟨G, c, rfl, hb1⟩
  have HB1 := Lib.hid (HBX.out.trans (hb1.mono HBX.out.size))
  clear hb1 hX q0 q1 p0 p1 p2
  go_wp2_with fail
  refine bodyPost_ret (v := .tuple #[.slice none 0 0, .bool false, .int .i64 8]) (by simp [results, Tryz.results103, go_sem]) rfl ?_
  exact ⟨rfl, HB1.out.alloc HB1.out.size _⟩

set_option maxHeartbeats 1000000 in
/-- Both come to one universe: they are one. -/
theorem cparts_yes (g gf : Nat) (f lf' : Int) (a b : TM) (A B : Option Addr) (ca cb : Nat) (w : World) (hgf : gf < w.heap.size)
    (hA : ∀ V, Below w.heap.size w V → Calls Tryz.prog 35 #[.pointer (some ⟨g, 0, none⟩), termV a A ca, .pointer (some ⟨gf, 0, none⟩)] V fun e w' => ∃ G c, e = .returned (.tuple #[.agg #[.int .i64 2, .int .i64 2, .slice G 0 c], .int .i64 0]) ∧ c ≤ maxLen ∧ Mt w' gf f lf' ∧ Up gf V w')
    (hB : ∀ V, Up gf w V → Calls Tryz.prog 35 #[.pointer (some ⟨g, 0, none⟩), termV b B cb, .pointer (some ⟨gf, 0, none⟩)] V fun e w' => ∃ G c, e = .returned (.tuple #[.agg #[.int .i64 2, .int .i64 2, .slice G 0 c], .int .i64 0]) ∧ c ≤ maxLen ∧ Below V.heap.size V w')
    (hC : ∀ k n G c V, Up gf w V → c ≤ maxLen → Calls Tryz.prog 132 #[.agg #[.pointer (some ⟨g, 0, none⟩), .pointer (some ⟨gf, 0, none⟩)], .agg #[.int .i64 k, .int .i64 n, .slice G 0 c]] V fun e w' => e = .returned (.tuple #[.agg #[.int .i64 0, .slice none 0 0, .slice none 0 0], .bool false]) ∧ Below V.heap.size V w') :
    Calls Tryz.prog 103 #[.agg #[.pointer (some ⟨g, 0, none⟩), .pointer (some ⟨gf, 0, none⟩)], pairV a A ca b B cb sameF] w fun e w' => e = .returned (.tuple #[.slice none 0 0, .bool true, .int .i64 0]) ∧ Mt w' gf f lf' ∧ Up gf w w' := by
  have CA := Lib.hid hA
  have CB := Lib.hid hB
  have CC := Lib.hid hC
  unfold termV at CA CB
  unfold pairV sameF
  obtain ⟨h, hh⟩ : ∃ h : Value, h = .func (.func 73) #[] #[] := ⟨_, rfl⟩
  rw [← hh]
  have HH := Lib.hid hh
  obtain ⟨F, hF⟩ : ∃ F : Option Addr, F = some ⟨gf, 0, none⟩ := ⟨_, rfl⟩
  rw [← hF] at CA CB CC ⊢
  obtain ⟨X, hX⟩ : ∃ X, (w.alloc (.cells #[.pointer (some ⟨g, 0, none⟩), .pointer F] 84)).alloc (.cells #[.int .i64 a.k, .int .i64 a.n, .slice A a.l.length ca, .int .i64 b.k, .int .i64 b.n, .slice B b.l.length cb, h] 88) = X := ⟨_, rfl⟩
  have HBX := Lib.hid (show Below w.heap.size w X from by rw [← hX]; exact ((Below.refl _ _).alloc (Nat.le_refl _) _).alloc (by simp) _)
  have HKq := Lib.hid (show Bk X w.heap.size 84 #[.pointer (some ⟨g, 0, none⟩), .pointer F] from by rw [← hX]; exact (Bk.new _ _ _).alloc _)
  have HKp := Lib.hid (show Bk X (w.heap.size + 1) 88 #[.int .i64 a.k, .int .i64 a.n, .slice A a.l.length ca, .int .i64 b.k, .int .i64 b.n, .slice B b.l.length cb, h] from by rw [← hX]; exact Bk.last _ _ _ (by simp))
  have q0 : X.cell? ⟨w.heap.size, 0, none⟩ = some (.pointer (some ⟨g, 0, none⟩)) := HKq.out.cell 0
  have q1 : X.cell? ⟨w.heap.size, 1, none⟩ = some (.pointer F) := HKq.out.cell 1
  have p0 : X.cell? ⟨w.heap.size + 1, 0, none⟩ = some (.int .i64 a.k) := HKp.out.cell 0
  have p1 : X.cell? ⟨w.heap.size + 1, 1, none⟩ = some (.int .i64 a.n) := HKp.out.cell 1
  have p2 : X.cell? ⟨w.heap.size + 1, 2, none⟩ = some (.slice A a.l.length ca) := HKp.out.cell 2
  have HK := Lib.hid (fun (V : World) (hV : Up gf X V) => (show V.cell? ⟨w.heap.size, 0, none⟩ = some (.pointer (some ⟨g, 0, none⟩)) ∧ V.cell? ⟨w.heap.size, 1, none⟩ = some (.pointer F) ∧ V.cell? ⟨w.heap.size + 1, 3, none⟩ = some (.int .i64 b.k) ∧ V.cell? ⟨w.heap.size + 1, 4, none⟩ = some (.int .i64 b.n) ∧ V.cell? ⟨w.heap.size + 1, 5, none⟩ = some (.slice B b.l.length cb) ∧ V.cell? ⟨w.heap.size + 1, 6, none⟩ = some h from by
    have k1 := HKq.out.upC hV (by omega)
    have k2 := HKp.out.upC hV (by omega)
    exact ⟨k1.cell 0, k1.cell 1, k2.cell 3, k2.cell 4, k2.cell 5, k2.cell 6⟩))
  have HUX := Lib.hid (show Up gf w X from Up.of HBX.out)
  clear hA hB hC hh hF
  go_enter Tryz.func103, Tryz.ntmps103
  go_wp2_with fail
  refine (CA.out _ HBX.out).mono ?_
  rintro e w1 ⟨G1, c1, rfl, hc1, hm1, hu1⟩
  have HU1 := Lib.hid hu1
  have HM1 := Lib.hid hm1
  have HC1 := Lib.hid hc1
  have hz1 := hu1.size
  have hzX := HKp.out.lt
  clear hc1 hm1 hu1 hX q0 q1 p0 p1 p2
  obtain ⟨Y, hY⟩ : ∃ Y, w1.alloc (.cells #[.int .i64 2, .int .i64 2, .slice G1 0 c1] 25) = Y := ⟨_, rfl⟩
  have HBY := Lib.hid (show Below w1.heap.size w1 Y from by rw [← hY]; exact (Below.refl _ _).alloc (Nat.le_refl _) _)
  have HKx := Lib.hid (show Bk Y w1.heap.size 25 #[.int .i64 2, .int .i64 2, .slice G1 0 c1] from by rw [← hY]; exact Bk.new _ _ _)
  have HUY := Lib.hid (HU1.out.trans (Up.of HBY.out))
  have HYE := Lib.hid hY
  obtain ⟨q0, q1, p3, p4, p5, p6⟩ := HK.out _ HUY.out
  clear hY
  go_upto_region 4 with fail
  rw [HYE.out]
  go_wp2_with fail
  refine (CB.out _ (HUX.out.trans HUY.out)).mono ?_
  rintro e w2 ⟨G2, c2, rfl, hc2, hb2⟩
  have HC2 := Lib.hid hc2
  have HB2 := Lib.hid (HBY.out.trans (hb2.mono HBY.out.size))
  have HKx2 := Lib.hid (HKx.out.below hb2 HKx.out.lt)
  clear hc2 hb2 q0 q1 p3 p4 p5 p6
  obtain ⟨Z, hZ⟩ : ∃ Z, w2.alloc (.cells #[.int .i64 2, .int .i64 2, .slice G2 0 c2] 25) = Z := ⟨_, rfl⟩
  have HBZ0 := Lib.hid (show Below w2.heap.size w2 Z from by rw [← hZ]; exact (Below.refl _ _).alloc (Nat.le_refl _) _)
  have HBZ := Lib.hid (HB2.out.trans (HBZ0.out.mono HB2.out.size))
  have HKy := Lib.hid (show Bk Z w2.heap.size 25 #[.int .i64 2, .int .i64 2, .slice G2 0 c2] from by rw [← hZ]; exact Bk.new _ _ _)
  have HKxZ := Lib.hid (HKx2.out.below HBZ0.out HKx2.out.lt)
  have HZE := Lib.hid hZ
  clear hZ
  have HKZ := Lib.hid (fun (V : World) (hV : Below Z.heap.size Z V) => (show (V.cell? ⟨w1.heap.size, 0, none⟩ = some (.int .i64 2) ∧ V.cell? ⟨w1.heap.size, 1, none⟩ = some (.int .i64 2) ∧ V.cell? ⟨w1.heap.size, 2, none⟩ = some (.slice G1 0 c1)) ∧ (V.cell? ⟨w2.heap.size, 0, none⟩ = some (.int .i64 2) ∧ V.cell? ⟨w2.heap.size, 1, none⟩ = some (.int .i64 2) ∧ V.cell? ⟨w2.heap.size, 2, none⟩ = some (.slice G2 0 c2)) ∧ V.cell? ⟨w.heap.size, 0, none⟩ = some (.pointer (some ⟨g, 0, none⟩)) ∧ V.cell? ⟨w.heap.size, 1, none⟩ = some (.pointer F) ∧ V.cell? ⟨w.heap.size + 1, 6, none⟩ = some h from by
    have k1 := HKxZ.out.below hV HKxZ.out.lt
    have k2 := HKy.out.below hV HKy.out.lt
    obtain ⟨a0, a1, -, -, -, a6⟩ := HK.out V (HU1.out.trans (Up.of (HBZ.out.trans (hV.mono HBZ.out.size))))
    exact ⟨⟨k1.cell 0, k1.cell 1, k1.cell 2⟩, ⟨k2.cell 0, k2.cell 1, k2.cell 2⟩, a0, a1, a6⟩))
  obtain ⟨⟨x0, x1, x2⟩, ⟨y0, y1, y2⟩, q0, q1, p6⟩ := HKZ.out Z (Below.refl _ _)
  have HUZ := Lib.hid (fun (V : World) (hV : Below Z.heap.size Z V) => (show Up gf w V from HUX.out.trans (HU1.out.trans (Up.of (HBZ.out.trans (hV.mono HBZ.out.size))))))
  go_upto_region 7 with fail
  rw [HZE.out]
  go_wp2_with fail
  refine (CC.out _ _ _ _ _ (HUZ.out _ (Below.refl _ _)) HC1.out).mono ?_
  rintro e w3 ⟨rfl, hb3⟩
  have HB3 := Lib.hid hb3
  clear hb3 x0 x1 x2 y0 y1 y2 q0 q1 p6
  have HB3a := Lib.hid (HB3.out.alloc HB3.out.size (.cells #[.int .i64 0, .slice none 0 0, .slice none 0 0] 169))
  obtain ⟨⟨x0, x1, x2⟩, ⟨y0, y1, y2⟩, q0, q1, p6⟩ := HKZ.out _ HB3a.out
  go_wp2_with fail
  refine (CC.out _ _ _ _ _ (HUZ.out _ HB3a.out) HC2.out).mono ?_
  rintro e w4 ⟨rfl, hb4⟩
  have HB4 := Lib.hid (HB3a.out.trans (hb4.mono HB3a.out.size))
  clear hb4 x0 x1 x2 y0 y1 y2 q0 q1 p6
  have HB4a := Lib.hid (HB4.out.alloc HB4.out.size (.cells #[.int .i64 0, .slice none 0 0, .slice none 0 0] 169))
  obtain ⟨⟨x0, x1, x2⟩, ⟨y0, y1, y2⟩, q0, q1, p6⟩ := HKZ.out _ HB4a.out
  rw [HH.out] at p6
  go_wp2_with fail
  refine (holds_same 2 2 _).mono ?_
  rintro e w5 ⟨rfl, rfl⟩
  go_wp2_with fail
  refine bodyPost_ret (v := .tuple #[.slice none 0 0, .bool true, .int .i64 0]) (by simp [results, Tryz.results103, go_sem]) rfl ?_
  exact ⟨rfl, HM1.out.over (HBZ.out.trans (HB4a.out.mono HBZ.out.size)), HUZ.out _ HB4a.out⟩

set_option maxHeartbeats 1000000 in
/-- A universe and a variable are not one. -/
theorem cparts_no (g gf : Nat) (f lf' : Int) (a b : TM) (A B : Option Addr) (ca cb : Nat) (w : World) (hgf : gf < w.heap.size)
    (hA : ∀ V, Below w.heap.size w V → Calls Tryz.prog 35 #[.pointer (some ⟨g, 0, none⟩), termV a A ca, .pointer (some ⟨gf, 0, none⟩)] V fun e w' => ∃ G c, e = .returned (.tuple #[.agg #[.int .i64 2, .int .i64 2, .slice G 0 c], .int .i64 0]) ∧ c ≤ maxLen ∧ Mt w' gf f lf' ∧ Up gf V w')
    (hB : ∀ V, Up gf w V → Calls Tryz.prog 35 #[.pointer (some ⟨g, 0, none⟩), termV b B cb, .pointer (some ⟨gf, 0, none⟩)] V fun e w' => ∃ G c, e = .returned (.tuple #[.agg #[.int .i64 1, .int .i64 0, .slice G 0 c], .int .i64 0]) ∧ c ≤ maxLen ∧ Below V.heap.size V w')
    (hC : ∀ k n G c V, Up gf w V → c ≤ maxLen → Calls Tryz.prog 132 #[.agg #[.pointer (some ⟨g, 0, none⟩), .pointer (some ⟨gf, 0, none⟩)], .agg #[.int .i64 k, .int .i64 n, .slice G 0 c]] V fun e w' => e = .returned (.tuple #[.agg #[.int .i64 0, .slice none 0 0, .slice none 0 0], .bool false]) ∧ Below V.heap.size V w') :
    Calls Tryz.prog 103 #[.agg #[.pointer (some ⟨g, 0, none⟩), .pointer (some ⟨gf, 0, none⟩)], pairV a A ca b B cb sameF] w fun e w' => e = .returned (.tuple #[.slice none 0 0, .bool false, .int .i64 0]) ∧ Mt w' gf f lf' ∧ Up gf w w' := by
  have CA := Lib.hid hA
  have CB := Lib.hid hB
  have CC := Lib.hid hC
  unfold termV at CA CB
  unfold pairV sameF
  obtain ⟨h, hh⟩ : ∃ h : Value, h = .func (.func 73) #[] #[] := ⟨_, rfl⟩
  rw [← hh]
  have HH := Lib.hid hh
  obtain ⟨F, hF⟩ : ∃ F : Option Addr, F = some ⟨gf, 0, none⟩ := ⟨_, rfl⟩
  rw [← hF] at CA CB CC ⊢
  obtain ⟨X, hX⟩ : ∃ X, (w.alloc (.cells #[.pointer (some ⟨g, 0, none⟩), .pointer F] 84)).alloc (.cells #[.int .i64 a.k, .int .i64 a.n, .slice A a.l.length ca, .int .i64 b.k, .int .i64 b.n, .slice B b.l.length cb, h] 88) = X := ⟨_, rfl⟩
  have HBX := Lib.hid (show Below w.heap.size w X from by rw [← hX]; exact ((Below.refl _ _).alloc (Nat.le_refl _) _).alloc (by simp) _)
  have HKq := Lib.hid (show Bk X w.heap.size 84 #[.pointer (some ⟨g, 0, none⟩), .pointer F] from by rw [← hX]; exact (Bk.new _ _ _).alloc _)
  have HKp := Lib.hid (show Bk X (w.heap.size + 1) 88 #[.int .i64 a.k, .int .i64 a.n, .slice A a.l.length ca, .int .i64 b.k, .int .i64 b.n, .slice B b.l.length cb, h] from by rw [← hX]; exact Bk.last _ _ _ (by simp))
  have q0 : X.cell? ⟨w.heap.size, 0, none⟩ = some (.pointer (some ⟨g, 0, none⟩)) := HKq.out.cell 0
  have q1 : X.cell? ⟨w.heap.size, 1, none⟩ = some (.pointer F) := HKq.out.cell 1
  have p0 : X.cell? ⟨w.heap.size + 1, 0, none⟩ = some (.int .i64 a.k) := HKp.out.cell 0
  have p1 : X.cell? ⟨w.heap.size + 1, 1, none⟩ = some (.int .i64 a.n) := HKp.out.cell 1
  have p2 : X.cell? ⟨w.heap.size + 1, 2, none⟩ = some (.slice A a.l.length ca) := HKp.out.cell 2
  have HK := Lib.hid (fun (V : World) (hV : Up gf X V) => (show V.cell? ⟨w.heap.size, 0, none⟩ = some (.pointer (some ⟨g, 0, none⟩)) ∧ V.cell? ⟨w.heap.size, 1, none⟩ = some (.pointer F) ∧ V.cell? ⟨w.heap.size + 1, 3, none⟩ = some (.int .i64 b.k) ∧ V.cell? ⟨w.heap.size + 1, 4, none⟩ = some (.int .i64 b.n) ∧ V.cell? ⟨w.heap.size + 1, 5, none⟩ = some (.slice B b.l.length cb) ∧ V.cell? ⟨w.heap.size + 1, 6, none⟩ = some h from by
    have k1 := HKq.out.upC hV (by omega)
    have k2 := HKp.out.upC hV (by omega)
    exact ⟨k1.cell 0, k1.cell 1, k2.cell 3, k2.cell 4, k2.cell 5, k2.cell 6⟩))
  have HUX := Lib.hid (show Up gf w X from Up.of HBX.out)
  clear hA hB hC hh hF
  go_enter Tryz.func103, Tryz.ntmps103
  go_wp2_with fail
  refine (CA.out _ HBX.out).mono ?_
  rintro e w1 ⟨G1, c1, rfl, hc1, hm1, hu1⟩
  have HU1 := Lib.hid hu1
  have HM1 := Lib.hid hm1
  have HC1 := Lib.hid hc1
  have hz1 := hu1.size
  have hzX := HKp.out.lt
  clear hc1 hm1 hu1 hX q0 q1 p0 p1 p2
  obtain ⟨Y, hY⟩ : ∃ Y, w1.alloc (.cells #[.int .i64 2, .int .i64 2, .slice G1 0 c1] 25) = Y := ⟨_, rfl⟩
  have HBY := Lib.hid (show Below w1.heap.size w1 Y from by rw [← hY]; exact (Below.refl _ _).alloc (Nat.le_refl _) _)
  have HKx := Lib.hid (show Bk Y w1.heap.size 25 #[.int .i64 2, .int .i64 2, .slice G1 0 c1] from by rw [← hY]; exact Bk.new _ _ _)
  have HUY := Lib.hid (HU1.out.trans (Up.of HBY.out))
  have HYE := Lib.hid hY
  obtain ⟨q0, q1, p3, p4, p5, p6⟩ := HK.out _ HUY.out
  clear hY
  go_upto_region 4 with fail
  rw [HYE.out]
  go_wp2_with fail
  refine (CB.out _ (HUX.out.trans HUY.out)).mono ?_
  rintro e w2 ⟨G2, c2, rfl, hc2, hb2⟩
  have HC2 := Lib.hid hc2
  have HB2 := Lib.hid (HBY.out.trans (hb2.mono HBY.out.size))
  have HKx2 := Lib.hid (HKx.out.below hb2 HKx.out.lt)
  clear hc2 hb2 q0 q1 p3 p4 p5 p6
  obtain ⟨Z, hZ⟩ : ∃ Z, w2.alloc (.cells #[.int .i64 1, .int .i64 0, .slice G2 0 c2] 25) = Z := ⟨_, rfl⟩
  have HBZ0 := Lib.hid (show Below w2.heap.size w2 Z from by rw [← hZ]; exact (Below.refl _ _).alloc (Nat.le_refl _) _)
  have HBZ := Lib.hid (HB2.out.trans (HBZ0.out.mono HB2.out.size))
  have HKy := Lib.hid (show Bk Z w2.heap.size 25 #[.int .i64 1, .int .i64 0, .slice G2 0 c2] from by rw [← hZ]; exact Bk.new _ _ _)
  have HKxZ := Lib.hid (HKx2.out.below HBZ0.out HKx2.out.lt)
  have HZE := Lib.hid hZ
  clear hZ
  have HKZ := Lib.hid (fun (V : World) (hV : Below Z.heap.size Z V) => (show (V.cell? ⟨w1.heap.size, 0, none⟩ = some (.int .i64 2) ∧ V.cell? ⟨w1.heap.size, 1, none⟩ = some (.int .i64 2) ∧ V.cell? ⟨w1.heap.size, 2, none⟩ = some (.slice G1 0 c1)) ∧ (V.cell? ⟨w2.heap.size, 0, none⟩ = some (.int .i64 1) ∧ V.cell? ⟨w2.heap.size, 1, none⟩ = some (.int .i64 0) ∧ V.cell? ⟨w2.heap.size, 2, none⟩ = some (.slice G2 0 c2)) ∧ V.cell? ⟨w.heap.size, 0, none⟩ = some (.pointer (some ⟨g, 0, none⟩)) ∧ V.cell? ⟨w.heap.size, 1, none⟩ = some (.pointer F) ∧ V.cell? ⟨w.heap.size + 1, 6, none⟩ = some h from by
    have k1 := HKxZ.out.below hV HKxZ.out.lt
    have k2 := HKy.out.below hV HKy.out.lt
    obtain ⟨a0, a1, -, -, -, a6⟩ := HK.out V (HU1.out.trans (Up.of (HBZ.out.trans (hV.mono HBZ.out.size))))
    exact ⟨⟨k1.cell 0, k1.cell 1, k1.cell 2⟩, ⟨k2.cell 0, k2.cell 1, k2.cell 2⟩, a0, a1, a6⟩))
  obtain ⟨⟨x0, x1, x2⟩, ⟨y0, y1, y2⟩, q0, q1, p6⟩ := HKZ.out Z (Below.refl _ _)
  have HUZ := Lib.hid (fun (V : World) (hV : Below Z.heap.size Z V) => (show Up gf w V from HUX.out.trans (HU1.out.trans (Up.of (HBZ.out.trans (hV.mono HBZ.out.size))))))
  go_upto_region 7 with fail
  rw [HZE.out]
  go_wp2_with fail
  refine (CC.out _ _ _ _ _ (HUZ.out _ (Below.refl _ _)) HC1.out).mono ?_
  rintro e w3 ⟨rfl, hb3⟩
  have HB3 := Lib.hid hb3
  clear hb3 x0 x1 x2 y0 y1 y2 q0 q1 p6
  have HB3a := Lib.hid (HB3.out.alloc HB3.out.size (.cells #[.int .i64 0, .slice none 0 0, .slice none 0 0] 169))
  obtain ⟨⟨x0, x1, x2⟩, ⟨y0, y1, y2⟩, q0, q1, p6⟩ := HKZ.out _ HB3a.out
  go_wp2_with fail
  refine (CC.out _ _ _ _ _ (HUZ.out _ HB3a.out) HC2.out).mono ?_
  rintro e w4 ⟨rfl, hb4⟩
  have HB4 := Lib.hid (HB3a.out.trans (hb4.mono HB3a.out.size))
  clear hb4 x0 x1 x2 y0 y1 y2 q0 q1 p6
  have HB4a := Lib.hid (HB4.out.alloc HB4.out.size (.cells #[.int .i64 0, .slice none 0 0, .slice none 0 0] 169))
  obtain ⟨⟨x0, x1, x2⟩, ⟨y0, y1, y2⟩, q0, q1, p6⟩ := HKZ.out _ HB4a.out
  go_wp2_with fail
  refine bodyPost_ret (v := .tuple #[.slice none 0 0, .bool false, .int .i64 0]) (by simp [results, Tryz.results103, go_sem]) rfl ?_
  exact ⟨rfl, HM1.out.over (HBZ.out.trans (HB4a.out.mono HBZ.out.size)), HUZ.out _ HB4a.out⟩



theorem _root_.Go.RowKit.Below.sr {B : Nat} {w V : World} (h : Below B w V) {g : Nat} (hg : B ≤ g) (cs : Array Value) : Below B w (V.setRow g cs) :=
  ⟨h.os, h.tape, h.output, by rw [setRow_size]; exact h.size, fun k hk => (setRow_other V g k cs (by omega)).trans (h.block k hk)⟩
theorem Bk.sr {w : World} {g : Nat} {e : TypeId} {cs : Array Value} (h : Bk w g e cs) (ds : Array Value) : Bk (w.setRow g ds) g e ds := setRow_heap w g cs ds e (0, 0) h
set_option maxHeartbeats 1000000 in
theorem csame_any (x y : TM) (A B : Option Addr) (ca cb : Nat) (w : World) : Calls Tryz.prog 48 #[termV x A ca, termV y B cb] w fun e w' => e = .returned (pairV x A ca y B cb sameF) ∧ Below w.heap.size w w' := by
  unfold termV pairV sameF
  go_enter Tryz.func48, Tryz.ntmps48
  go_upto_region 1 with fail
  obtain ⟨X, hX⟩ : ∃ X, ((w.alloc (.cells #[.int .i64 x.k, .int .i64 x.n, .slice A x.l.length ca] 25)).alloc (.cells #[.int .i64 y.k, .int .i64 y.n, .slice B y.l.length cb] 25)).alloc (.cells #[.int .i64 0, .int .i64 0, .slice none 0 0, .int .i64 0, .int .i64 0, .slice none 0 0, .nilFunc] 88) = X := ⟨_, rfl⟩
  have HBX := Lib.hid (show Below w.heap.size w X from by rw [← hX]; exact (((Below.refl _ _).alloc (Nat.le_refl _) _).alloc (by simp) _).alloc (by simp; omega) _)
  have HKa := Lib.hid (show Bk X w.heap.size 25 #[.int .i64 x.k, .int .i64 x.n, .slice A x.l.length ca] from by rw [← hX]; exact ((Bk.new _ _ _).alloc _).alloc _)
  have HKb := Lib.hid (show Bk X (w.heap.size + 1) 25 #[.int .i64 y.k, .int .i64 y.n, .slice B y.l.length cb] from by rw [← hX]; exact (Bk.last _ _ _ (by simp)).alloc _)
  have HKr := Lib.hid (show Bk X (w.heap.size + 1 + 1) 88 #[.int .i64 0, .int .i64 0, .slice none 0 0, .int .i64 0, .int .i64 0, .slice none 0 0, .nilFunc] from by rw [← hX]; exact Bk.last _ _ _ (by simp))
  rw [hX]
  have a0 : X.cell? ⟨w.heap.size, 0, none⟩ = some (.int .i64 x.k) := HKa.out.cell 0
  have a1 : X.cell? ⟨w.heap.size, 1, none⟩ = some (.int .i64 x.n) := HKa.out.cell 1
  have a2 : X.cell? ⟨w.heap.size, 2, none⟩ = some (.slice A x.l.length ca) := HKa.out.cell 2
  have b0 : X.cell? ⟨w.heap.size + 1, 0, none⟩ = some (.int .i64 y.k) := HKb.out.cell 0
  have b1 : X.cell? ⟨w.heap.size + 1, 1, none⟩ = some (.int .i64 y.n) := HKb.out.cell 1
  have b2 : X.cell? ⟨w.heap.size + 1, 2, none⟩ = some (.slice B y.l.length cb) := HKb.out.cell 2
  clear hX
  apply wp_region_lit
  refine wpList_load_row rfl 25 (.tmp 2) rfl w.heap.size rfl 25 _ _ _ HKa.out Tryz.underlying25 rfl (by kernel_rfl) ?_
  refine wpList_load_row rfl 25 (.tmp 3) rfl (w.heap.size + 1) rfl 25 _ _ _ HKb.out Tryz.underlying25 rfl (by kernel_rfl) ?_
  refine wpList_buildTo rfl 88 _ rfl (some 7) rfl #[.int .i64 x.k, .int .i64 x.n, .slice A x.l.length ca, .int .i64 y.k, .int .i64 y.n, .slice B y.l.length cb, .func (.func 73) #[] #[]] (by kernel_rfl) ?_
  refine wpList_store_row rfl 88 (.tmp 4) (.tmp 7) rfl (w.heap.size + 1 + 1) #[.int .i64 x.k, .int .i64 x.n, .slice A x.l.length ca, .int .i64 y.k, .int .i64 y.n, .slice B y.l.length cb, .func (.func 73) #[] #[]] rfl rfl 88 _ HKr.out (by kernel_rfl) rfl (by first | kernel_rfl | simp [Value.oneCell'] | decide) ?_
  have B5 := HKr.out.sr #[.int .i64 x.k, .int .i64 x.n, .slice A x.l.length ca, .int .i64 y.k, .int .i64 y.n, .slice B y.l.length cb, .func (.func 73) #[] #[]]
  have HBF := Lib.hid (HBX.out.sr (g := w.heap.size + 1 + 1) (by omega) #[.int .i64 x.k, .int .i64 x.n, .slice A x.l.length ca, .int .i64 y.k, .int .i64 y.n, .slice B y.l.length cb, .func (.func 73) #[] #[]])
  obtain ⟨V, hV⟩ : ∃ V, X.setRow (w.heap.size + 1 + 1) #[.int .i64 x.k, .int .i64 x.n, .slice A x.l.length ca, .int .i64 y.k, .int .i64 y.n, .slice B y.l.length cb, .func (.func 73) #[] #[]] = V := ⟨_, rfl⟩
  rw [hV] at B5 HBF ⊢
  have HS0 := Lib.hid (show V.cell? ⟨w.heap.size + 1 + 1, 0, none⟩ = some (.int .i64 x.k) from B5.cell 0)
  have HS1 := Lib.hid (show V.cell? ⟨w.heap.size + 1 + 1, 1, none⟩ = some (.int .i64 x.n) from B5.cell 1)
  have HS2 := Lib.hid (show V.cell? ⟨w.heap.size + 1 + 1, 2, none⟩ = some (.slice A x.l.length ca) from B5.cell 2)
  have HS3 := Lib.hid (show V.cell? ⟨w.heap.size + 1 + 1, 3, none⟩ = some (.int .i64 y.k) from B5.cell 3)
  have HS4 := Lib.hid (show V.cell? ⟨w.heap.size + 1 + 1, 4, none⟩ = some (.int .i64 y.n) from B5.cell 4)
  have HS5 := Lib.hid (show V.cell? ⟨w.heap.size + 1 + 1, 5, none⟩ = some (.slice B y.l.length cb) from B5.cell 5)
  have HS6 := Lib.hid (show V.cell? ⟨w.heap.size + 1 + 1, 6, none⟩ = some (.func (.func 73) #[] #[]) from B5.cell 6)
  clear B5 hV
  go_wp2_with fail
  refine bodyPost_ret (v := .agg #[.int .i64 x.k, .int .i64 x.n, .slice A x.l.length ca, .int .i64 y.k, .int .i64 y.n, .slice B y.l.length cb, .func (.func 73) #[] #[]]) (by simp [results, Tryz.results48, go_sem, HS0.out, HS1.out, HS2.out, HS3.out, HS4.out, HS5.out, HS6.out]) rfl ?_
  exact ⟨rfl, HBF.out⟩
set_option maxHeartbeats 1000000 in
theorem cmost_any (x y : TM) (A B : Option Addr) (ca cb : Nat) (w : World) : Calls Tryz.prog 49 #[termV x A ca, termV y B cb] w fun e w' => e = .returned (pairV x A ca y B cb mostF) ∧ Below w.heap.size w w' := by
  unfold termV pairV mostF
  go_enter Tryz.func49, Tryz.ntmps49
  go_upto_region 1 with fail
  obtain ⟨X, hX⟩ : ∃ X, ((w.alloc (.cells #[.int .i64 x.k, .int .i64 x.n, .slice A x.l.length ca] 25)).alloc (.cells #[.int .i64 y.k, .int .i64 y.n, .slice B y.l.length cb] 25)).alloc (.cells #[.int .i64 0, .int .i64 0, .slice none 0 0, .int .i64 0, .int .i64 0, .slice none 0 0, .nilFunc] 88) = X := ⟨_, rfl⟩
  have HBX := Lib.hid (show Below w.heap.size w X from by rw [← hX]; exact (((Below.refl _ _).alloc (Nat.le_refl _) _).alloc (by simp) _).alloc (by simp; omega) _)
  have HKa := Lib.hid (show Bk X w.heap.size 25 #[.int .i64 x.k, .int .i64 x.n, .slice A x.l.length ca] from by rw [← hX]; exact ((Bk.new _ _ _).alloc _).alloc _)
  have HKb := Lib.hid (show Bk X (w.heap.size + 1) 25 #[.int .i64 y.k, .int .i64 y.n, .slice B y.l.length cb] from by rw [← hX]; exact (Bk.last _ _ _ (by simp)).alloc _)
  have HKr := Lib.hid (show Bk X (w.heap.size + 1 + 1) 88 #[.int .i64 0, .int .i64 0, .slice none 0 0, .int .i64 0, .int .i64 0, .slice none 0 0, .nilFunc] from by rw [← hX]; exact Bk.last _ _ _ (by simp))
  rw [hX]
  have a0 : X.cell? ⟨w.heap.size, 0, none⟩ = some (.int .i64 x.k) := HKa.out.cell 0
  have a1 : X.cell? ⟨w.heap.size, 1, none⟩ = some (.int .i64 x.n) := HKa.out.cell 1
  have a2 : X.cell? ⟨w.heap.size, 2, none⟩ = some (.slice A x.l.length ca) := HKa.out.cell 2
  have b0 : X.cell? ⟨w.heap.size + 1, 0, none⟩ = some (.int .i64 y.k) := HKb.out.cell 0
  have b1 : X.cell? ⟨w.heap.size + 1, 1, none⟩ = some (.int .i64 y.n) := HKb.out.cell 1
  have b2 : X.cell? ⟨w.heap.size + 1, 2, none⟩ = some (.slice B y.l.length cb) := HKb.out.cell 2
  clear hX
  apply wp_region_lit
  refine wpList_load_row rfl 25 (.tmp 2) rfl w.heap.size rfl 25 _ _ _ HKa.out Tryz.underlying25 rfl (by kernel_rfl) ?_
  refine wpList_load_row rfl 25 (.tmp 3) rfl (w.heap.size + 1) rfl 25 _ _ _ HKb.out Tryz.underlying25 rfl (by kernel_rfl) ?_
  refine wpList_buildTo rfl 88 _ rfl (some 7) rfl #[.int .i64 x.k, .int .i64 x.n, .slice A x.l.length ca, .int .i64 y.k, .int .i64 y.n, .slice B y.l.length cb, .func (.func 74) #[] #[]] (by kernel_rfl) ?_
  refine wpList_store_row rfl 88 (.tmp 4) (.tmp 7) rfl (w.heap.size + 1 + 1) #[.int .i64 x.k, .int .i64 x.n, .slice A x.l.length ca, .int .i64 y.k, .int .i64 y.n, .slice B y.l.length cb, .func (.func 74) #[] #[]] rfl rfl 88 _ HKr.out (by kernel_rfl) rfl (by first | kernel_rfl | simp [Value.oneCell'] | decide) ?_
  have B5 := HKr.out.sr #[.int .i64 x.k, .int .i64 x.n, .slice A x.l.length ca, .int .i64 y.k, .int .i64 y.n, .slice B y.l.length cb, .func (.func 74) #[] #[]]
  have HBF := Lib.hid (HBX.out.sr (g := w.heap.size + 1 + 1) (by omega) #[.int .i64 x.k, .int .i64 x.n, .slice A x.l.length ca, .int .i64 y.k, .int .i64 y.n, .slice B y.l.length cb, .func (.func 74) #[] #[]])
  obtain ⟨V, hV⟩ : ∃ V, X.setRow (w.heap.size + 1 + 1) #[.int .i64 x.k, .int .i64 x.n, .slice A x.l.length ca, .int .i64 y.k, .int .i64 y.n, .slice B y.l.length cb, .func (.func 74) #[] #[]] = V := ⟨_, rfl⟩
  rw [hV] at B5 HBF ⊢
  have HS0 := Lib.hid (show V.cell? ⟨w.heap.size + 1 + 1, 0, none⟩ = some (.int .i64 x.k) from B5.cell 0)
  have HS1 := Lib.hid (show V.cell? ⟨w.heap.size + 1 + 1, 1, none⟩ = some (.int .i64 x.n) from B5.cell 1)
  have HS2 := Lib.hid (show V.cell? ⟨w.heap.size + 1 + 1, 2, none⟩ = some (.slice A x.l.length ca) from B5.cell 2)
  have HS3 := Lib.hid (show V.cell? ⟨w.heap.size + 1 + 1, 3, none⟩ = some (.int .i64 y.k) from B5.cell 3)
  have HS4 := Lib.hid (show V.cell? ⟨w.heap.size + 1 + 1, 4, none⟩ = some (.int .i64 y.n) from B5.cell 4)
  have HS5 := Lib.hid (show V.cell? ⟨w.heap.size + 1 + 1, 5, none⟩ = some (.slice B y.l.length cb) from B5.cell 5)
  have HS6 := Lib.hid (show V.cell? ⟨w.heap.size + 1 + 1, 6, none⟩ = some (.func (.func 74) #[] #[]) from B5.cell 6)
  clear B5 hV
  go_wp2_with fail
  refine bodyPost_ret (v := .agg #[.int .i64 x.k, .int .i64 x.n, .slice A x.l.length ca, .int .i64 y.k, .int .i64 y.n, .slice B y.l.length cb, .func (.func 74) #[] #[]]) (by simp [results, Tryz.results49, go_sem, HS0.out, HS1.out, HS2.out, HS3.out, HS4.out, HS5.out, HS6.out]) rfl ?_
  exact ⟨rfl, HBF.out⟩

end Go.Proofs.YtchllgkgjompgaaGreatDoor
