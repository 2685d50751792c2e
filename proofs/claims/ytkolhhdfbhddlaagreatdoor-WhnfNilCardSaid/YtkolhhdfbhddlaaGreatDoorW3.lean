/- whnf: a nil machine; what may come to a machine without entries. -/
import Derived.Test.YtkolhhdfbhddlaaGreatDoorW2
import Derived.Deep.RegionHeld3
import Derived.Test.YtkolhhdfbhddlaaGreatDoorI2
import Derived.Test.YtkolhhdfbhddlaaGreatDoorMe
import Derived.Test.YtkolhhdfbhddlaaGreatDoorR2
namespace Go.Proofs.YtkolhhdfbhddlaaGreatDoor
open Go.RowKit
set_option linter.unusedVariables false
set_option maxRecDepth 100000

theorem wmay_none (k n : Int) (A : Option Addr) (m cap : Nat) (w : World) : Calls Tryz.prog 79 #[.pointer none, .agg #[.int .i64 k, .int .i64 n, .slice A m cap]] w fun e w' => e = .returned (.bool false) ∧ Below w.heap.size w w' := by
  have HB := Lib.hid (Below.refl w.heap.size w)
  go_enter Tryz.func79, Tryz.ntmps79
  go_wp2_with fail
  go_region
  all_goals
    go_wp2_with fail
    go_ret
    exact ⟨rfl, by first | exact (HB.out.alloc (Nat.le_refl _) _).drew | exact HB.out.alloc (Nat.le_refl _) _⟩
theorem wEntries_none (w : World) : Calls Tryz.prog 42 #[.pointer none] w fun e w' => e = .returned (.slice none 0 0) ∧ w = w' := by
  go_enter Tryz.func42, Tryz.ntmps42
  go_wp2_with fail
  go_ret
  exact ⟨rfl, rfl⟩
/-- Bring of a nil machine. -/
theorem wBring_none (k n : Int) (A : Option Addr) (m cap : Nat) (f : Option Addr) (w : World) : Calls Tryz.prog 39 #[.pointer none, .agg #[.int .i64 k, .int .i64 n, .slice A m cap], .pointer f] w fun e w' => e = .returned (.tuple #[.agg #[.int .i64 0, .int .i64 0, .slice none 0 0], .int .i64 5]) ∧ Below w.heap.size w w' := by
  obtain ⟨X, hX⟩ : ∃ X, (w.alloc (.cells #[.int .i64 k, .int .i64 n, .slice A m cap] 27)).alloc (.cells #[.int .i64 0, .int .i64 0, .slice none 0 0] 27) = X := ⟨_, rfl⟩
  have HBX := Lib.hid (show Below w.heap.size w X from by rw [← hX]; exact ((Below.refl _ _).alloc (Nat.le_refl _) _).alloc (by simp) _)
  have HKt := Lib.hid (show Bk X w.heap.size 27 #[.int .i64 k, .int .i64 n, .slice A m cap] from by rw [← hX]; exact (Bk.new _ _ _).alloc _)
  have HKr := Lib.hid (show Bk X (w.heap.size + 1) 27 #[.int .i64 0, .int .i64 0, .slice none 0 0] from by rw [← hX]; exact Bk.last _ _ _ (by simp))
  have x0 : X.cell? ⟨w.heap.size, 0, none⟩ = some (.int .i64 k) := HKt.out.cell 0
  have x1 : X.cell? ⟨w.heap.size, 1, none⟩ = some (.int .i64 n) := HKt.out.cell 1
  have x2 : X.cell? ⟨w.heap.size, 2, none⟩ = some (.slice A m cap) := HKt.out.cell 2
  go_enter Tryz.func39, Tryz.ntmps39
  go_wp2_with fail
  refine (wmay_none k n A m cap _).mono ?_
  rintro e w1 ⟨rfl, hb1⟩
  have HB1 := Lib.hid (HBX.out.trans (hb1.mono HBX.out.size))
  have Hr1 := Lib.hid (HKr.out.below hb1 HKr.out.lt)
  have hlt1 := Hr1.out.lt
  have hfr : ∀ q, w1.frozen? ⟨w.heap.size + 1, q, none⟩ = false := fun q => Hr1.out.cold q
  have r0 : w1.cell? ⟨w.heap.size + 1, 0, none⟩ = some (.int .i64 0) := Hr1.out.cell 0
  have r1 : w1.cell? ⟨w.heap.size + 1, 1, none⟩ = some (.int .i64 0) := Hr1.out.cell 1
  have r2 : w1.cell? ⟨w.heap.size + 1, 2, none⟩ = some (.slice none 0 0) := Hr1.out.cell 2
  have B5 := ((Hr1.out.at_ 0 (.int .i64 0)).at_ 1 (.int .i64 0)).at_ 2 (.slice none 0 0)
  have HS0 := Lib.hid (B5.cell 0)
  have HS1 := Lib.hid (B5.cell 1)
  have HS2 := Lib.hid (B5.cell 2)
  clear B5 hb1 hX x0 x1 x2
  go_wp2_with fail
  refine bodyPost_ret (v := .tuple #[.agg #[.int .i64 0, .int .i64 0, .slice none 0 0], .int .i64 5]) (by simp [results, Tryz.results39, go_sem, HS0.out, HS1.out, HS2.out]) rfl ?_
  exact ⟨rfl, Below.st (g := w.heap.size + 1) (q := 2) (Below.st (g := w.heap.size + 1) (q := 1) (Below.st (g := w.heap.size + 1) (q := 0) HB1.out (by omega) _) (by omega) _) (by omega) _⟩
/-- Once of a nil machine. -/
theorem wOnce_none (k n : Int) (A : Option Addr) (m cap : Nat) (f : Option Addr) (w : World) : Calls Tryz.prog 36 #[.pointer none, .agg #[.int .i64 k, .int .i64 n, .slice A m cap], .pointer f] w fun e w' => e = .returned (.tuple #[.agg #[.int .i64 0, .int .i64 0, .slice none 0 0], .bool false, .int .i64 5]) ∧ Below w.heap.size w w' := by
  obtain ⟨X, hX⟩ : ∃ X, (w.alloc (.cells #[.int .i64 k, .int .i64 n, .slice A m cap] 27)).alloc (.cells #[.int .i64 0, .int .i64 0, .slice none 0 0] 27) = X := ⟨_, rfl⟩
  have HBX := Lib.hid (show Below w.heap.size w X from by rw [← hX]; exact ((Below.refl _ _).alloc (Nat.le_refl _) _).alloc (by simp) _)
  have HKt := Lib.hid (show Bk X w.heap.size 27 #[.int .i64 k, .int .i64 n, .slice A m cap] from by rw [← hX]; exact (Bk.new _ _ _).alloc _)
  have HKr := Lib.hid (show Bk X (w.heap.size + 1) 27 #[.int .i64 0, .int .i64 0, .slice none 0 0] from by rw [← hX]; exact Bk.last _ _ _ (by simp))
  have x0 : X.cell? ⟨w.heap.size, 0, none⟩ = some (.int .i64 k) := HKt.out.cell 0
  have x1 : X.cell? ⟨w.heap.size, 1, none⟩ = some (.int .i64 n) := HKt.out.cell 1
  have x2 : X.cell? ⟨w.heap.size, 2, none⟩ = some (.slice A m cap) := HKt.out.cell 2
  go_enter Tryz.func36, Tryz.ntmps36
  go_wp2_with fail
  refine (wmay_none k n A m cap _).mono ?_
  rintro e w1 ⟨rfl, hb1⟩
  have HB1 := Lib.hid (HBX.out.trans (hb1.mono HBX.out.size))
  have Hr1 := Lib.hid (HKr.out.below hb1 HKr.out.lt)
  have hlt1 := Hr1.out.lt
  have hfr : ∀ q, w1.frozen? ⟨w.heap.size + 1, q, none⟩ = false := fun q => Hr1.out.cold q
  have r0 : w1.cell? ⟨w.heap.size + 1, 0, none⟩ = some (.int .i64 0) := Hr1.out.cell 0
  have r1 : w1.cell? ⟨w.heap.size + 1, 1, none⟩ = some (.int .i64 0) := Hr1.out.cell 1
  have r2 : w1.cell? ⟨w.heap.size + 1, 2, none⟩ = some (.slice none 0 0) := Hr1.out.cell 2
  have B5 := ((Hr1.out.at_ 0 (.int .i64 0)).at_ 1 (.int .i64 0)).at_ 2 (.slice none 0 0)
  have HS0 := Lib.hid (B5.cell 0)
  have HS1 := Lib.hid (B5.cell 1)
  have HS2 := Lib.hid (B5.cell 2)
  clear B5 hb1 hX x0 x1 x2
  go_wp2_with fail
  refine bodyPost_ret (v := .tuple #[.agg #[.int .i64 0, .int .i64 0, .slice none 0 0], .bool false, .int .i64 5]) (by simp [results, Tryz.results36, go_sem, HS0.out, HS1.out, HS2.out]) rfl ?_
  exact ⟨rfl, Below.st (g := w.heap.size + 1) (q := 2) (Below.st (g := w.heap.size + 1) (q := 1) (Below.st (g := w.heap.size + 1) (q := 0) HB1.out (by omega) _) (by omega) _) (by omega) _⟩
set_option maxHeartbeats 1000000 in
/-- What may come to a machine without entries: what names none. -/
theorem wmay_zero (t : TM) (A : Option Addr) (cap g : Nat) (w : World) (h : NilM w g) (ht : IsTerm w 0 w.heap.size t A cap) (hS : ShapesM w) : Calls Tryz.prog 79 #[.pointer (some ⟨g, 0, none⟩), termV t A cap] w fun e w' => e = .returned (.bool (trightB t 1048577 0)) ∧ Below w.heap.size w w' := by
  obtain ⟨X, hX⟩ : ∃ X, w.alloc (.cells #[.int .i64 t.k, .int .i64 t.n, .slice A t.l.length cap] 27) = X := ⟨_, rfl⟩
  have HBX := Lib.hid (show Below w.heap.size w X from by rw [← hX]; exact (Below.refl _ _).alloc (Nat.le_refl _) _)
  have HKt := Lib.hid (show Bk X w.heap.size 27 #[.int .i64 t.k, .int .i64 t.n, .slice A t.l.length cap] from by rw [← hX]; exact Bk.new _ _ _)
  obtain ⟨E, ce, R, hk⟩ := h
  have hgl := hk.lt
  have HM := Lib.hid (hk.below HBX.out hgl)
  have HKK := Lib.hid (fun (V : World) (hV : Below X.heap.size X V) => (show V.cell? ⟨w.heap.size, 0, none⟩ = some (.int .i64 t.k) ∧ V.cell? ⟨w.heap.size, 1, none⟩ = some (.int .i64 t.n) ∧ V.cell? ⟨w.heap.size, 2, none⟩ = some (.slice A t.l.length cap) ∧ V.cell? ⟨g, 0, none⟩ = some (.slice E 0 ce) from by
    have k := HKt.out.below hV HKt.out.lt
    exact ⟨k.cell 0, k.cell 1, k.cell 2, (HM.out.below hV HM.out.lt).cell 0⟩))
  have CR := Lib.hid (fun (V : World) (hV : Below X.heap.size X V) => tRight_any t 1048577 0 0 w.heap.size A cap V (ht.kept (HBX.out.trans (hV.mono HBX.out.size)) (Nat.le_refl _)) (HBX.out.trans (hV.mono HBX.out.size)).size (hS.kept (HBX.out.trans (hV.mono HBX.out.size))))
  obtain ⟨z, hz⟩ : ∃ z, trightB t 1048577 0 = z := ⟨_, rfl⟩
  rw [hz] at CR ⊢
  unfold termV at CR
  unfold termV
  obtain ⟨s0, s1, s2, s3⟩ := HKK.out X (Below.refl _ _)
  have hgX : g < X.heap.size := by have := HBX.out.size; omega
  have hlX := HKt.out.lt
  have hbk0 := Lib.hid (show Below X.heap.size X X.drew from (Below.refl _ _).drew)
  clear ht hS hk hz
  go_enter Tryz.func79, Tryz.ntmps79
  go_wp2_with fail
  go_region_held3 (fun w' => w'.cell? ⟨w.heap.size, 0, none⟩ = some (.int .i64 t.k) ∧ w'.cell? ⟨w.heap.size, 1, none⟩ = some (.int .i64 t.n) ∧ w'.cell? ⟨w.heap.size, 2, none⟩ = some (.slice A t.l.length cap) ∧ w'.cell? ⟨g, 0, none⟩ = some (.slice E 0 ce))
    ((refine (HKK.out _ ?_); repeat (first | with_reducible exact hbk0.out | with_reducible exact hbC.out | with_reducible exact Below.refl _ _ | with_reducible refine Below.al ?_ _ | with_reducible refine Below.dr ?_ | with_reducible refine Below.st ?_ (by first | omega | (simp <;> omega)) _)))
    (first
    | (go_at_call 124
       refine (CR.out _ (by repeat (first | with_reducible exact hbk0.out | with_reducible exact Below.refl _ _ | with_reducible refine Below.al ?_ _ | with_reducible refine Below.dr ?_ | with_reducible refine Below.st ?_ (by first | omega | (simp <;> omega)) _))).mono ?_
       rintro e w3 ⟨rfl, hb3⟩
       have hbC := Lib.hid (by first | exact hbk0.out.trans (hb3.mono hbk0.out.size))
       clear hb3))
  all_goals
    go_wp2_with fail
    go_ret
    exact ⟨rfl, HBX.out.trans (hbC.out.mono HBX.out.size)⟩

end Go.Proofs.YtkolhhdfbhddlaaGreatDoor

/- whnf: Bring of a machine without entries, at a function with one argument. -/
namespace Go.Proofs.YtkolhhdfbhddlaaGreatDoor
open Go.RowKit
set_option linter.unusedVariables false
set_option maxRecDepth 100000

set_option maxHeartbeats 1000000 in
theorem wBring_few {t a b x u : TM} {n : Int} (hbt : Beta t n a b x u) (hr : trightB t 1048577 0 = true) (g : Nat) (A : Option Addr) (cap : Nat) (w : World) (h : NilM w g) (ht : IsTerm w 0 w.heap.size t A cap) (hS : ShapesM w) :
    Calls Tryz.prog 39 #[.pointer (some ⟨g, 0, none⟩), termV t A cap, .pointer none] w fun e w' => ∃ G c, e = .returned (.tuple #[.agg #[.int .i64 0, .int .i64 0, .slice G 0 c], .int .i64 8]) ∧ Below w.heap.size w w' := by
  obtain ⟨X, hX⟩ : ∃ X, (w.alloc (.cells #[.int .i64 t.k, .int .i64 t.n, .slice A t.l.length cap] 27)).alloc (.cells #[.int .i64 0, .int .i64 0, .slice none 0 0] 27) = X := ⟨_, rfl⟩
  have HBX := Lib.hid (show Below w.heap.size w X from by rw [← hX]; exact ((Below.refl _ _).alloc (Nat.le_refl _) _).alloc (by simp) _)
  have HKt := Lib.hid (show Bk X w.heap.size 27 #[.int .i64 t.k, .int .i64 t.n, .slice A t.l.length cap] from by rw [← hX]; exact (Bk.new _ _ _).alloc _)
  have HKr := Lib.hid (show Bk X (w.heap.size + 1) 27 #[.int .i64 0, .int .i64 0, .slice none 0 0] from by rw [← hX]; exact Bk.last _ _ _ (by simp))
  have x0 : X.cell? ⟨w.heap.size, 0, none⟩ = some (.int .i64 t.k) := HKt.out.cell 0
  have x1 : X.cell? ⟨w.heap.size, 1, none⟩ = some (.int .i64 t.n) := HKt.out.cell 1
  have x2 : X.cell? ⟨w.heap.size, 2, none⟩ = some (.slice A t.l.length cap) := HKt.out.cell 2
  have CM := Lib.hid (wmay_zero t A cap g X (h.over HBX.out) ((ht.kept HBX.out (Nat.le_refl _)).wide (Nat.le_refl _) HBX.out.size) (hS.kept HBX.out))
  rw [hr] at CM
  have CB := Lib.hid (fun (V : World) (hV : Below w.heap.size w V) => wbrought_none hbt (some ⟨g, 0, none⟩) A cap V (.inr ⟨g, rfl, h.over hV⟩) ((ht.kept hV (Nat.le_refl _)).wide (Nat.le_refl _) hV.size) (hS.kept hV))
  have CC := Lib.hid (fun (V : World) (hV : Below w.heap.size w V) => copy_to (.node 0 0 []) 0 V.heap.size none 0 V (leaf_in _ _ 0 0) (Nat.le_refl _) (hS.kept hV))
  unfold CopyTo at CC
  rw [copyT_zero] at CC
  unfold termV at CB CC
  simp only [TM.k, TM.n, TM.l, List.length_nil] at CC
  unfold termV
  clear h ht hS hbt hr
  go_enter Tryz.func39, Tryz.ntmps39
  go_wp2_with fail
  refine CM.out.mono ?_
  rintro e w1 ⟨rfl, hb1⟩
  have HB1 := Lib.hid (HBX.out.trans (hb1.mono HBX.out.size))
  have Ht1 := Lib.hid (HKt.out.below hb1 HKt.out.lt)
  have Hr1 := Lib.hid (HKr.out.below hb1 HKr.out.lt)
  have t0 : w1.cell? ⟨w.heap.size, 0, none⟩ = some (.int .i64 t.k) := Ht1.out.cell 0
  have t1 : w1.cell? ⟨w.heap.size, 1, none⟩ = some (.int .i64 t.n) := Ht1.out.cell 1
  have t2 : w1.cell? ⟨w.heap.size, 2, none⟩ = some (.slice A t.l.length cap) := Ht1.out.cell 2
  clear hb1 hX x0 x1 x2
  go_wp2_with fail
  refine (CB.out _ HB1.out).mono ?_
  rintro e w2 ⟨rfl, hb2⟩
  have HB2 := Lib.hid (HB1.out.trans (hb2.mono HB1.out.size))
  have Ht2 := Lib.hid (Ht1.out.below hb2 Ht1.out.lt)
  have Hr2 := Lib.hid (Hr1.out.below hb2 Hr1.out.lt)
  have hlt2 := Ht2.out.lt
  have hlr2 := Hr2.out.lt
  have hft : ∀ q, w2.frozen? ⟨w.heap.size, q, none⟩ = false := fun q => Ht2.out.cold q
  have u0 : w2.cell? ⟨w.heap.size, 0, none⟩ = some (.int .i64 t.k) := Ht2.out.cell 0
  have u1 : w2.cell? ⟨w.heap.size, 1, none⟩ = some (.int .i64 t.n) := Ht2.out.cell 1
  have u2 : w2.cell? ⟨w.heap.size, 2, none⟩ = some (.slice A t.l.length cap) := Ht2.out.cell 2
  clear hb2 t0 t1 t2
  go_wp2_with fail
  have HrV := Lib.hid (((Hr2.out.far (a := ⟨w.heap.size, 0, none⟩) (by show w.heap.size + 1 ≠ w.heap.size; omega) (.int .i64 0)).far (a := ⟨w.heap.size, 1, none⟩) (by show w.heap.size + 1 ≠ w.heap.size; omega) (.int .i64 0)).far (a := ⟨w.heap.size, 2, none⟩) (by show w.heap.size + 1 ≠ w.heap.size; omega) (.slice none 0 0))
  have HBV := Lib.hid (Below.st (g := w.heap.size) (q := 2) (Below.st (g := w.heap.size) (q := 1) (Below.st (g := w.heap.size) (q := 0) HB2.out (by omega) (.int .i64 0)) (by omega) (.int .i64 0)) (by omega) (.slice none 0 0))
  obtain ⟨V, hV⟩ : ∃ V, ((w2.setCell ⟨w.heap.size, 0, none⟩ (.int .i64 0)).setCell ⟨w.heap.size, 1, none⟩ (.int .i64 0)).setCell ⟨w.heap.size, 2, none⟩ (.slice none 0 0) = V := ⟨_, rfl⟩
  rw [hV] at HrV HBV ⊢
  clear hV u0 u1 u2 hft
  refine (CC.out V HBV.out).mono ?_
  rintro e w3 ⟨F3, c3, rfl, hc3, hb3⟩
  have hl3 : IsTerm w3 V.heap.size w3.heap.size (.node 0 0 []) F3 c3 := hc3
  have HB3 := Lib.hid (HBV.out.trans (hb3.mono HBV.out.size))
  have Hr3 := Lib.hid (HrV.out.below hb3 HrV.out.lt)
  have hlr3 := Hr3.out.lt
  have hfr : ∀ q, w3.frozen? ⟨w.heap.size + 1, q, none⟩ = false := fun q => Hr3.out.cold q
  have r0 : w3.cell? ⟨w.heap.size + 1, 0, none⟩ = some (.int .i64 0) := Hr3.out.cell 0
  have r1 : w3.cell? ⟨w.heap.size + 1, 1, none⟩ = some (.int .i64 0) := Hr3.out.cell 1
  have r2 : w3.cell? ⟨w.heap.size + 1, 2, none⟩ = some (.slice none 0 0) := Hr3.out.cell 2
  have B5 := ((Hr3.out.at_ 0 (.int .i64 0)).at_ 1 (.int .i64 0)).at_ 2 (.slice F3 0 c3)
  have HS0 := Lib.hid (B5.cell 0)
  have HS1 := Lib.hid (B5.cell 1)
  have HS2 := Lib.hid (B5.cell 2)
  clear B5 hb3 hc3 hl3
  go_wp2_with fail
  refine bodyPost_ret (v := .tuple #[.agg #[.int .i64 0, .int .i64 0, .slice F3 0 c3], .int .i64 8]) (by simp [results, Tryz.results39, go_sem, HS0.out, HS1.out, HS2.out]) rfl ?_
  exact ⟨F3, c3, rfl, Below.st (g := w.heap.size + 1) (q := 2) (Below.st (g := w.heap.size + 1) (q := 1) (Below.st (g := w.heap.size + 1) (q := 0) HB3.out (by omega) _) (by omega) _) (by omega) _⟩

set_option maxHeartbeats 1000000 in
theorem wBring_ok {t a b x u : TM} {n : Int} (hbt : Beta t n a b x u) (hr : trightB t 1048577 0 = true) (g : Nat) (A : Option Addr) (cap : Nat) (w : World) (ht : IsTerm w 0 w.heap.size t A cap) (gf : Nat) (f lf : Int) (hm : Mt w gf f lf) (hlf : 1 ≤ lf ∧ lf ≤ 1048576) (w0 : World) (h0 : Below w0.heap.size w0 w) (hw0 : w0.heap.size ≤ gf) (hS0 : ShapesM w0) (hP0 : NilM w0 g) :
    Calls Tryz.prog 39 #[.pointer (some ⟨g, 0, none⟩), termV t A cap, .pointer (some ⟨gf, 0, none⟩)] w fun e w' => ∃ G c, e = .returned (.tuple #[.agg #[.int .i64 u.k, .int .i64 u.n, .slice G u.l.length c], .int .i64 0]) ∧ IsTerm w' w.heap.size w'.heap.size u G c ∧ Mt w' gf f (lf - 1) ∧ Up gf w w' := by
  have h : NilM w g := hP0.below h0 hP0.lt
  have hS : ShapesM w := hS0.kept h0
  have hgf := hm.lt
  have HM := Lib.hid hm
  have HH0 := Lib.hid h0
  have HS00 := Lib.hid hS0
  have hus := hbt.us
  obtain ⟨X, hX⟩ : ∃ X, (w.alloc (.cells #[.int .i64 t.k, .int .i64 t.n, .slice A t.l.length cap] 27)).alloc (.cells #[.int .i64 0, .int .i64 0, .slice none 0 0] 27) = X := ⟨_, rfl⟩
  have HBX := Lib.hid (show Below w.heap.size w X from by rw [← hX]; exact ((Below.refl _ _).alloc (Nat.le_refl _) _).alloc (by simp) _)
  have HKt := Lib.hid (show Bk X w.heap.size 27 #[.int .i64 t.k, .int .i64 t.n, .slice A t.l.length cap] from by rw [← hX]; exact (Bk.new _ _ _).alloc _)
  have HKr := Lib.hid (show Bk X (w.heap.size + 1) 27 #[.int .i64 0, .int .i64 0, .slice none 0 0] from by rw [← hX]; exact Bk.last _ _ _ (by simp))
  have x0 : X.cell? ⟨w.heap.size, 0, none⟩ = some (.int .i64 t.k) := HKt.out.cell 0
  have x1 : X.cell? ⟨w.heap.size, 1, none⟩ = some (.int .i64 t.n) := HKt.out.cell 1
  have x2 : X.cell? ⟨w.heap.size, 2, none⟩ = some (.slice A t.l.length cap) := HKt.out.cell 2
  have CM := Lib.hid (wmay_zero t A cap g X (h.over HBX.out) ((ht.kept HBX.out (Nat.le_refl _)).wide (Nat.le_refl _) HBX.out.size) (hS.kept HBX.out))
  rw [hr] at CM
  have CB := Lib.hid (fun (V : World) (hV : Below w.heap.size w V) => wbrought_ok hbt (some ⟨g, 0, none⟩) A cap V ((ht.kept hV (Nat.le_refl _)).wide (Nat.le_refl _) hV.size) gf f lf (hm.below hV hgf) hlf w0 (h0.trans (hV.mono h0.size)) hw0 hS0 (.inr ⟨g, rfl, hP0⟩))
  have CC := Lib.hid (fun (F : Option Addr) (cF : Nat) (V : World) (hV : Below w0.heap.size w0 V) (hu : IsTerm V 0 V.heap.size u F cF) => copy_to u 0 V.heap.size F cF V hu (Nat.le_refl _) (hS0.kept hV))
  unfold CopyTo at CC
  rw [copyT_shaped hus] at CC
  unfold termV at CB CC
  unfold termV
  clear h ht hS hbt hr hm hlf h0 hS0 hP0 hus
  go_enter Tryz.func39, Tryz.ntmps39
  go_wp2_with fail
  refine CM.out.mono ?_
  rintro e w1 ⟨rfl, hb1⟩
  have HB1 := Lib.hid (HBX.out.trans (hb1.mono HBX.out.size))
  have Ht1 := Lib.hid (HKt.out.below hb1 HKt.out.lt)
  have Hr1 := Lib.hid (HKr.out.below hb1 HKr.out.lt)
  have t0 : w1.cell? ⟨w.heap.size, 0, none⟩ = some (.int .i64 t.k) := Ht1.out.cell 0
  have t1 : w1.cell? ⟨w.heap.size, 1, none⟩ = some (.int .i64 t.n) := Ht1.out.cell 1
  have t2 : w1.cell? ⟨w.heap.size, 2, none⟩ = some (.slice A t.l.length cap) := Ht1.out.cell 2
  clear hb1 hX x0 x1 x2
  go_wp2_with fail
  refine (CB.out _ HB1.out).mono ?_
  rintro e w2 ⟨F2, c2, rfl, hu2, hm2, hup2⟩
  have hz1 := HB1.out.size
  have hl1 := Hr1.out.lt
  have HUP := Lib.hid ((Up.of HB1.out : Up gf w w1).trans hup2)
  have HM2 := Lib.hid hm2
  have Ht2 := Lib.hid (show Bk w2 w.heap.size 27 #[.int .i64 t.k, .int .i64 t.n, .slice A t.l.length cap] from (hup2.block _ Ht1.out.lt (fun e => by injection e with e; omega)).trans Ht1.out)
  have Hr2 := Lib.hid (show Bk w2 (w.heap.size + 1) 27 #[.int .i64 0, .int .i64 0, .slice none 0 0] from (hup2.block _ Hr1.out.lt (fun e => by injection e with e; omega)).trans Hr1.out)
  have HU2 := Lib.hid (show TermIn w2 (fun b => w1.heap.size ≤ b ∧ b < w2.heap.size) u F2 c2 from hu2)
  have hlt2 := Ht2.out.lt
  have hlr2 := Hr2.out.lt
  have hft : ∀ q, w2.frozen? ⟨w.heap.size, q, none⟩ = false := fun q => Ht2.out.cold q
  have u0 : w2.cell? ⟨w.heap.size, 0, none⟩ = some (.int .i64 t.k) := Ht2.out.cell 0
  have u1 : w2.cell? ⟨w.heap.size, 1, none⟩ = some (.int .i64 t.n) := Ht2.out.cell 1
  have u2 : w2.cell? ⟨w.heap.size, 2, none⟩ = some (.slice A t.l.length cap) := Ht2.out.cell 2
  clear hu2 hm2 hup2 t0 t1 t2
  go_wp2_with fail
  have HrV := Lib.hid (((Hr2.out.far (a := ⟨w.heap.size, 0, none⟩) (by show w.heap.size + 1 ≠ w.heap.size; omega) (.int .i64 u.k)).far (a := ⟨w.heap.size, 1, none⟩) (by show w.heap.size + 1 ≠ w.heap.size; omega) (.int .i64 u.n)).far (a := ⟨w.heap.size, 2, none⟩) (by show w.heap.size + 1 ≠ w.heap.size; omega) (.slice F2 u.l.length c2))
  have HMV := Lib.hid (((HM2.out.far (a := ⟨w.heap.size, 0, none⟩) (by show gf ≠ w.heap.size; omega) (.int .i64 u.k)).far (a := ⟨w.heap.size, 1, none⟩) (by show gf ≠ w.heap.size; omega) (.int .i64 u.n)).far (a := ⟨w.heap.size, 2, none⟩) (by show gf ≠ w.heap.size; omega) (.slice F2 u.l.length c2))
  have HUV := Lib.hid (TermIn.three (g := w.heap.size) HU2.out (fun b hb => by have := hb.1; omega) (.int .i64 u.k) (.int .i64 u.n) (.slice F2 u.l.length c2))
  have HPV := Lib.hid (Up.st (g := w.heap.size) (q := 2) (Up.st (g := w.heap.size) (q := 1) (Up.st (g := w.heap.size) (q := 0) HUP.out (by omega) (.int .i64 u.k)) (by omega) (.int .i64 u.n)) (by omega) (.slice F2 u.l.length c2))
  have hzV : (((w2.setCell ⟨w.heap.size, 0, none⟩ (.int .i64 u.k)).setCell ⟨w.heap.size, 1, none⟩ (.int .i64 u.n)).setCell ⟨w.heap.size, 2, none⟩ (.slice F2 u.l.length c2)).heap.size = w2.heap.size := size_three _ _ _ _ _
  obtain ⟨V, hV⟩ : ∃ V, ((w2.setCell ⟨w.heap.size, 0, none⟩ (.int .i64 u.k)).setCell ⟨w.heap.size, 1, none⟩ (.int .i64 u.n)).setCell ⟨w.heap.size, 2, none⟩ (.slice F2 u.l.length c2) = V := ⟨_, rfl⟩
  rw [hV] at HrV HMV HUV HPV hzV ⊢
  clear hV u0 u1 u2 hft
  have H0V := Lib.hid (HH0.out.trans (HPV.out.below hw0 HH0.out.size))
  refine (CC.out F2 c2 V H0V.out (TermIn.imp (fun _ _ _ => rfl) (fun b hb => ⟨Nat.zero_le _, by have := hb.2; omega⟩) HUV.out)).mono ?_
  rintro e w3 ⟨F3, c3, rfl, hc3, hb3⟩
  have HC3 := Lib.hid hc3
  have Hr3 := Lib.hid (HrV.out.below hb3 HrV.out.lt)
  have HM3 := Lib.hid (HMV.out.over hb3)
  have HP3 := Lib.hid (HPV.out.trans (Up.of hb3))
  have hlr3 := Hr3.out.lt
  have hlrV := HrV.out.lt
  have hfr : ∀ q, w3.frozen? ⟨w.heap.size + 1, q, none⟩ = false := fun q => Hr3.out.cold q
  have r0 : w3.cell? ⟨w.heap.size + 1, 0, none⟩ = some (.int .i64 0) := Hr3.out.cell 0
  have r1 : w3.cell? ⟨w.heap.size + 1, 1, none⟩ = some (.int .i64 0) := Hr3.out.cell 1
  have r2 : w3.cell? ⟨w.heap.size + 1, 2, none⟩ = some (.slice none 0 0) := Hr3.out.cell 2
  have B5 := ((Hr3.out.at_ 0 (.int .i64 u.k)).at_ 1 (.int .i64 u.n)).at_ 2 (.slice F3 u.l.length c3)
  have HS0 := Lib.hid (B5.cell 0)
  have HS1 := Lib.hid (B5.cell 1)
  have HS2 := Lib.hid (B5.cell 2)
  clear B5 hb3 hc3
  go_wp2_with fail
  refine bodyPost_ret (v := .tuple #[.agg #[.int .i64 u.k, .int .i64 u.n, .slice F3 u.l.length c3], .int .i64 0]) (by simp [results, Tryz.results39, go_sem, HS0.out, HS1.out, HS2.out]) rfl ?_
  refine ⟨F3, c3, rfl, ?_, ((HM3.out.far (a := ⟨w.heap.size + 1, 0, none⟩) (by show gf ≠ w.heap.size + 1; omega) _).far (a := ⟨w.heap.size + 1, 1, none⟩) (by show gf ≠ w.heap.size + 1; omega) _).far (a := ⟨w.heap.size + 1, 2, none⟩) (by show gf ≠ w.heap.size + 1; omega) _, Up.st (q := 2) (Up.st (q := 1) (Up.st (q := 0) HP3.out (g := w.heap.size + 1) (by omega) _) (g := w.heap.size + 1) (by omega) _) (g := w.heap.size + 1) (by omega) _⟩
  exact (TermIn.three (g := w.heap.size + 1) HC3.out (fun b hb => by have := hb.1; omega) _ _ _).imp (fun _ _ _ => rfl) (fun b hb => ⟨by have := hb.1; omega, by rw [size_three]; exact hb.2⟩)

end Go.Proofs.YtkolhhdfbhddlaaGreatDoor

/- whnf: Con of a nil machine. -/
namespace Go.Proofs.YtkolhhdfbhddlaaGreatDoor
open Go.RowKit
set_option linter.unusedVariables false
set_option maxRecDepth 100000

set_option maxHeartbeats 1000000 in
theorem wcon_none (t : TM) (A : Option Addr) (cap : Nat) (w : World) (ht : IsTerm w 0 w.heap.size t A cap) (hs : shapedB t = true) (hS : ShapesM w) :
    Calls Tryz.prog 88 #[.pointer none, termV t A cap] w fun e w' => e = .returned (.tuple #[.int .i64 0, .slice none 0 0, .bool false]) ∧ Below w.heap.size w w' := by
  obtain ⟨q1, q2, q3⟩ := shapedB_true.1 hs
  have HBW := Lib.hid (Below.refl w.heap.size w)
  have CS := Lib.hid (fun (V : World) (hV : Below w.heap.size w V) => spine_any t 0 w.heap.size A cap V (ht.kept hV (Nat.le_refl _)) hV.size (hS.kept hV) q3 q1 (by omega))
  obtain ⟨H, hH⟩ : ∃ H, headT t = H := ⟨_, rfl⟩
  unfold GivesSp termV at CS
  rw [hH] at CS
  have CE := Lib.hid (fun (q : Int) (V : World) => wentry_no none q V (.inl rfl))
  unfold zEnt at CE
  unfold termV
  clear ht hs hS q1 q2 q3 hH
  go_enter Tryz.func88, Tryz.ntmps88
  go_wp2_with fail
  refine (CS.out _ (HBW.out.alloc (Nat.le_refl _) _)).mono ?_
  rintro e w1 ⟨A1, c1, B1, d1, rfl, ht1, ha1, hb1⟩
  have HB1 := Lib.hid ((HBW.out.alloc (Nat.le_refl _) (.cells #[.int .i64 t.k, .int .i64 t.n, .slice A t.l.length cap] 27)).trans (hb1.mono (HBW.out.alloc (Nat.le_refl _) (.cells #[.int .i64 t.k, .int .i64 t.n, .slice A t.l.length cap] 27)).size))
  clear ht1 ha1 hb1
  go_wp2_with fail
  obtain ⟨Y, hY⟩ : ∃ Y, w1.alloc (.cells #[.int .i64 H.k, .int .i64 H.n, .slice A1 H.l.length c1] 27) = Y := ⟨_, rfl⟩
  have HBY0 := Lib.hid (show Below w1.heap.size w1 Y from by rw [← hY]; exact (Below.refl _ _).alloc (Nat.le_refl _) _)
  have HBY := Lib.hid (HB1.out.trans (HBY0.out.mono HB1.out.size))
  have HKY := Lib.hid (show Bk Y w1.heap.size 27 #[.int .i64 H.k, .int .i64 H.n, .slice A1 H.l.length c1] from by rw [← hY]; exact Bk.new _ _ _)
  rw [hY]
  refine (CE.out _ _).mono ?_
  rintro e w2 ⟨rfl, hb2⟩
  have HB2 := Lib.hid (HBY.out.trans (hb2.mono HBY.out.size))
  have HK2 := Lib.hid (HKY.out.below hb2 HKY.out.lt)
  have hl2 := HK2.out.lt
  have h0 : w2.cell? ⟨w1.heap.size, 0, none⟩ = some (.int .i64 H.k) := HK2.out.cell 0
  clear hY hb2
  by_cases h6 : H.k = 6
  · have t6 : (H.k != 6) = false := by simpa using h6
    clear h6
    go_wp2_with fail
    refine bodyPost_ret (v := .tuple #[.int .i64 0, .slice none 0 0, .bool false]) (by simp [results, Tryz.results88, go_sem]) rfl ?_
    exact ⟨rfl, HB2.out.alloc HB2.out.size _⟩
  · have t6 : (H.k != 6) = true := by simpa using h6
    clear h6
    go_wp2_with fail
    refine bodyPost_ret (v := .tuple #[.int .i64 0, .slice none 0 0, .bool false]) (by simp [results, Tryz.results88, go_sem]) rfl ?_
    exact ⟨rfl, HB2.out.alloc HB2.out.size _⟩

theorem wCon_none (t : TM) (A : Option Addr) (cap : Nat) (w : World) (ht : IsTerm w 0 w.heap.size t A cap) (hS : ShapesM w) :
    Calls Tryz.prog 40 #[.pointer none, termV t A cap] w fun e w' => e = .returned (.tuple #[.int .i64 0, .slice none 0 0, .bool false]) ∧ Below w.heap.size w w' := by
  have HBW := Lib.hid (Below.refl w.heap.size w)
  have CH := Lib.hid (fun (V : World) (hV : Below w.heap.size w V) => shaped_any t 0 w.heap.size A cap V (ht.kept hV (Nat.le_refl _)) hV.size (hS.kept hV))
  have CC := Lib.hid (fun (V : World) (hV : Below w.heap.size w V) (hs : shapedB t = true) => wcon_none t A cap V ((ht.kept hV (Nat.le_refl _)).wide (Nat.le_refl _) hV.size) hs (hS.kept hV))
  obtain ⟨z, hz⟩ : ∃ z, shapedB t = z := ⟨_, rfl⟩
  rw [hz] at CH CC
  unfold termV at CH CC
  unfold termV
  obtain ⟨X, hX⟩ : ∃ X, w.alloc (.cells #[.int .i64 t.k, .int .i64 t.n, .slice A t.l.length cap] 27) = X := ⟨_, rfl⟩
  have HBX := Lib.hid (show Below w.heap.size w X from by rw [← hX]; exact (Below.refl _ _).alloc (Nat.le_refl _) _)
  have HKt := Lib.hid (show Bk X w.heap.size 27 #[.int .i64 t.k, .int .i64 t.n, .slice A t.l.length cap] from by rw [← hX]; exact Bk.new _ _ _)
  have x0 : X.cell? ⟨w.heap.size, 0, none⟩ = some (.int .i64 t.k) := HKt.out.cell 0
  have x1 : X.cell? ⟨w.heap.size, 1, none⟩ = some (.int .i64 t.n) := HKt.out.cell 1
  have x2 : X.cell? ⟨w.heap.size, 2, none⟩ = some (.slice A t.l.length cap) := HKt.out.cell 2
  clear ht hS hz
  go_enter Tryz.func40, Tryz.ntmps40
  go_wp2_with fail
  refine (CH.out _ HBX.out).mono ?_
  rintro e w1 ⟨rfl, hb1⟩
  have HB1 := Lib.hid (HBX.out.trans (hb1.mono HBX.out.size))
  have HK1 := Lib.hid (HKt.out.below hb1 HKt.out.lt)
  have t0 : w1.cell? ⟨w.heap.size, 0, none⟩ = some (.int .i64 t.k) := HK1.out.cell 0
  have t1 : w1.cell? ⟨w.heap.size, 1, none⟩ = some (.int .i64 t.n) := HK1.out.cell 1
  have t2 : w1.cell? ⟨w.heap.size, 2, none⟩ = some (.slice A t.l.length cap) := HK1.out.cell 2
  clear hb1 hX x0 x1 x2
  cases z with
  | false =>
    go_wp2_with fail
    refine bodyPost_ret (v := .tuple #[.int .i64 0, .slice none 0 0, .bool false]) (by simp [results, Tryz.results40, go_sem]) rfl ?_
    exact ⟨rfl, HB1.out⟩
  | true =>
    go_wp2_with fail
    refine (CC.out _ HB1.out (by first | trivial | rfl)).mono ?_
    rintro e w2 ⟨rfl, hb2⟩
    have HB2 := Lib.hid (HB1.out.trans (hb2.mono HB1.out.size))
    clear hb2 t0 t1 t2
    go_wp2_with fail
    refine wp_loop_rounds 1 ?_
    rw [rounds_succ]
    go_wp2_with fail
    refine bodyPost_ret (v := .tuple #[.int .i64 0, .slice none 0 0, .bool false]) (by simp [results, Tryz.results40, go_sem]) rfl ?_
    exact ⟨rfl, HB2.out⟩

end Go.Proofs.YtkolhhdfbhddlaaGreatDoor

/- whnf: New of no entries; Bring of no entries. -/
namespace Go.Proofs.YtkolhhdfbhddlaaGreatDoor
open Go.RowKit
set_option linter.unusedVariables false
set_option maxRecDepth 100000

theorem formed_nil : formedB [] = true := by kernel_rfl
theorem no_ents (w : World) (lo hi : Nat) (A : Option Addr) : EntsAt w lo hi A [] := fun i h => absurd h (Nat.not_lt_zero i)
theorem iNew_nil (w : World) (hS : ShapesM w) : Calls Tryz.prog 19 #[.slice none 0 0] w fun e w' => ∃ g, e = .returned (.tuple #[.pointer (some ⟨g, 0, none⟩), .int .i64 0]) ∧ Below w.heap.size w w' :=
  (inew_any [] none 0 0 0 w (Nat.zero_le _) (Nat.le_refl _) (no_ents _ _ _ _) (Nat.zero_le _) hS).mono fun e w' h => by
    obtain ⟨g, A, B, cap, h1, _, h3⟩ := GivesNw.yes formed_nil h
    exact ⟨g, h1, h3⟩
theorem sCopy_nil (w : World) (hS : ShapesM w) : Calls Tryz.prog 52 #[.slice none 0 0] w fun e w' => ∃ A c, e = .returned (.slice A 0 c) ∧ Below w.heap.size w w' :=
  (scopyP_any [] none 0 0 0 w (Nat.zero_le _) (fun x hx => by cases hx) (no_ents _ _ _ _) (Nat.zero_le _) hS).mono fun e w' h => by
    obtain ⟨A, c, h1, _, _, h4⟩ := h
    exact ⟨A, c, h1, h4⟩
theorem wNew_nil (w : World) (hS : ShapesM w) : Calls Tryz.prog 43 #[.slice none 0 0] w fun e w' => ∃ g, e = .returned (.tuple #[.pointer (some ⟨g, 0, none⟩), .int .i64 0]) ∧ NilM w' g ∧ w.heap.size ≤ g ∧ Below w.heap.size w w' := by
  have CI := Lib.hid (iNew_nil w hS)
  have CC := Lib.hid (fun (V : World) (hV : Below w.heap.size w V) => sCopy_nil V (hS.kept hV))
  clear hS
  go_enter Tryz.func43, Tryz.ntmps43
  go_wp2_with fail
  refine CI.out.mono ?_
  rintro e w1 ⟨g, rfl, hb1⟩
  have HB1 := Lib.hid hb1
  clear hb1
  go_wp2_with fail
  refine (CC.out _ HB1.out).mono ?_
  rintro e w2 ⟨A2, c2, rfl, hb2⟩
  have HB2 := Lib.hid (HB1.out.trans (hb2.mono HB1.out.size))
  clear hb2
  go_wp2_with fail
  go_ret2
  exact ⟨_, rfl, ⟨_, _, _, Bk.last _ _ _ (by simp)⟩, HB2.out.size, HB2.out.alloc HB2.out.size _⟩

set_option maxHeartbeats 1000000 in
theorem wBringFn {t a b x u : TM} {n : Int} (hbt : Beta t n a b x u) (hr : trightB t 1048577 0 = true) (A : Option Addr) (cap : Nat) (w : World) (ht : IsTerm w 0 w.heap.size t A cap) (hS : ShapesM w) :
    Calls Tryz.prog 34 #[.slice none 0 0, termV t A cap, .int .i64 5] w fun e w' => ∃ G c, e = .returned (.tuple #[.agg #[.int .i64 u.k, .int .i64 u.n, .slice G u.l.length c], .int .i64 1, .int .i64 0]) ∧ IsTerm w' w.heap.size w'.heap.size u G c ∧ Below w.heap.size w w' := by
  obtain ⟨X, hX⟩ : ∃ X, (w.alloc (.cells #[.int .i64 t.k, .int .i64 t.n, .slice A t.l.length cap] 27)).alloc (.cells #[.int .i64 0, .int .i64 0, .slice none 0 0] 27) = X := ⟨_, rfl⟩
  have HBX := Lib.hid (show Below w.heap.size w X from by rw [← hX]; exact ((Below.refl _ _).alloc (Nat.le_refl _) _).alloc (by simp) _)
  have HKt := Lib.hid (show Bk X w.heap.size 27 #[.int .i64 t.k, .int .i64 t.n, .slice A t.l.length cap] from by rw [← hX]; exact (Bk.new _ _ _).alloc _)
  have HKr := Lib.hid (show Bk X (w.heap.size + 1) 27 #[.int .i64 0, .int .i64 0, .slice none 0 0] from by rw [← hX]; exact Bk.last _ _ _ (by simp))
  have CN := Lib.hid (wNew_nil X (hS.kept HBX.out))
  have CB := Lib.hid (fun (g : Nat) (V : World) (hV : Below w.heap.size w V) (gf : Nat) (f lf : Int) (hm : Mt V gf f lf) (hlf : 1 ≤ lf ∧ lf ≤ 1048576) (w0 : World) (h0 : Below w0.heap.size w0 V) (hw0 : w0.heap.size ≤ gf) (hw : Below w.heap.size w w0) (hP0 : NilM w0 g) => wBring_ok hbt hr g A cap V ((ht.kept hV (Nat.le_refl _)).wide (Nat.le_refl _) hV.size) gf f lf hm hlf w0 h0 hw0 (hS.kept hw) hP0)
  unfold termV at CB
  unfold termV
  clear ht hS hbt hr
  go_enter Tryz.func34, Tryz.ntmps34
  go_wp2_with fail
  refine CN.out.mono ?_
  rintro e w1 ⟨g, rfl, hN1, hg1, hb1⟩
  have HN1 := Lib.hid hN1
  have HB1 := Lib.hid (HBX.out.trans (hb1.mono HBX.out.size))
  have Ht1 := Lib.hid (HKt.out.below hb1 HKt.out.lt)
  have Hr1 := Lib.hid (HKr.out.below hb1 HKr.out.lt)
  clear hN1 hb1 hX CN
  go_wp2_with fail
  refine (new_ok 5 (by omega) (by omega) w1).mono ?_
  rintro e w2 ⟨rfl, hm2, hb2⟩
  have HM2 := Lib.hid hm2
  have HB12 := Lib.hid hb2
  have HB2 := Lib.hid (HB1.out.trans (hb2.mono HB1.out.size))
  have Ht2 := Lib.hid (Ht1.out.below hb2 Ht1.out.lt)
  have Hr2 := Lib.hid (Hr1.out.below hb2 Hr1.out.lt)
  have t0 : w2.cell? ⟨w.heap.size, 0, none⟩ = some (.int .i64 t.k) := Ht2.out.cell 0
  have t1 : w2.cell? ⟨w.heap.size, 1, none⟩ = some (.int .i64 t.n) := Ht2.out.cell 1
  have t2 : w2.cell? ⟨w.heap.size, 2, none⟩ = some (.slice A t.l.length cap) := Ht2.out.cell 2
  clear hm2 hb2
  go_wp2_with fail
  refine (CB.out g w2 HB2.out w1.heap.size 5 5 HM2.out (by omega) w1 HB12.out (Nat.le_refl _) HB1.out HN1.out).mono ?_
  rintro e w3 ⟨F3, c3, rfl, hu3, hm3, hup3⟩
  have hl1 := Hr1.out.lt
  have hz2 := HB12.out.size
  have hz1 := HB1.out.size
  have HU3 := Lib.hid hu3
  have HM3 := Lib.hid (show Mt w3 w1.heap.size 5 4 from hm3)
  have HB13 := Lib.hid (HB12.out.trans (hup3.below (Nat.le_refl _) hz2))
  have HB3 := Lib.hid (HB1.out.trans (HB13.out.mono hz1))
  have Ht3 := Lib.hid (Ht1.out.below HB13.out Ht1.out.lt)
  have Hr3 := Lib.hid (Hr1.out.below HB13.out Hr1.out.lt)
  have hlt3 := Ht3.out.lt
  have hft : ∀ q, w3.frozen? ⟨w.heap.size, q, none⟩ = false := fun q => Ht3.out.cold q
  have u0 : w3.cell? ⟨w.heap.size, 0, none⟩ = some (.int .i64 t.k) := Ht3.out.cell 0
  have u1 : w3.cell? ⟨w.heap.size, 1, none⟩ = some (.int .i64 t.n) := Ht3.out.cell 1
  have u2 : w3.cell? ⟨w.heap.size, 2, none⟩ = some (.slice A t.l.length cap) := Ht3.out.cell 2
  clear hu3 hm3 hup3 t0 t1 t2
  go_wp2_with fail
  have HrV := Lib.hid (((Hr3.out.far (a := ⟨w.heap.size, 0, none⟩) (by show w.heap.size + 1 ≠ w.heap.size; omega) (.int .i64 u.k)).far (a := ⟨w.heap.size, 1, none⟩) (by show w.heap.size + 1 ≠ w.heap.size; omega) (.int .i64 u.n)).far (a := ⟨w.heap.size, 2, none⟩) (by show w.heap.size + 1 ≠ w.heap.size; omega) (.slice F3 u.l.length c3))
  have HMV := Lib.hid (((HM3.out.far (a := ⟨w.heap.size, 0, none⟩) (by show w1.heap.size ≠ w.heap.size; omega) (.int .i64 u.k)).far (a := ⟨w.heap.size, 1, none⟩) (by show w1.heap.size ≠ w.heap.size; omega) (.int .i64 u.n)).far (a := ⟨w.heap.size, 2, none⟩) (by show w1.heap.size ≠ w.heap.size; omega) (.slice F3 u.l.length c3))
  have HtV := Lib.hid (((Ht3.out.at_ 0 (.int .i64 u.k)).at_ 1 (.int .i64 u.n)).at_ 2 (.slice F3 u.l.length c3))
  have HUV := Lib.hid (TermIn.three (g := w.heap.size) HU3.out (fun b hb => by have := hb.1; omega) (.int .i64 u.k) (.int .i64 u.n) (.slice F3 u.l.length c3))
  have HBV := Lib.hid (Below.st (g := w.heap.size) (q := 2) (Below.st (g := w.heap.size) (q := 1) (Below.st (g := w.heap.size) (q := 0) HB3.out (by omega) (.int .i64 u.k)) (by omega) (.int .i64 u.n)) (by omega) (.slice F3 u.l.length c3))
  have hzV : (((w3.setCell ⟨w.heap.size, 0, none⟩ (.int .i64 u.k)).setCell ⟨w.heap.size, 1, none⟩ (.int .i64 u.n)).setCell ⟨w.heap.size, 2, none⟩ (.slice F3 u.l.length c3)).heap.size = w3.heap.size := size_three _ _ _ _ _
  obtain ⟨V, hV⟩ : ∃ V, ((w3.setCell ⟨w.heap.size, 0, none⟩ (.int .i64 u.k)).setCell ⟨w.heap.size, 1, none⟩ (.int .i64 u.n)).setCell ⟨w.heap.size, 2, none⟩ (.slice F3 u.l.length c3) = V := ⟨_, rfl⟩
  rw [hV] at HrV HMV HUV HtV HBV hzV ⊢
  clear hV u0 u1 u2 hft
  have HKK := Lib.hid (fun (V' : World) (hV' : Below V.heap.size V V') => (show V'.cell? ⟨w.heap.size, 0, none⟩ = some (.int .i64 u.k) ∧ V'.cell? ⟨w.heap.size, 1, none⟩ = some (.int .i64 u.n) ∧ V'.cell? ⟨w.heap.size, 2, none⟩ = some (.slice F3 u.l.length c3) from by
    have k := HtV.out.below hV' HtV.out.lt
    exact ⟨k.cell 0, k.cell 1, k.cell 2⟩))
  have CU := Lib.hid (fun (V' : World) (hV' : Below V.heap.size V V') => (show Calls Tryz.prog 78 #[.pointer (some ⟨w1.heap.size, 0, none⟩)] V' (fun e w' => e = .returned (.int .i64 1) ∧ Below V'.heap.size V' w') from used_any (HMV.out.over hV') (by omega)))
  obtain ⟨s0, s1, s2⟩ := HKK.out V (Below.refl _ _)
  have hltV := HtV.out.lt
  have hlrV := HrV.out.lt
  have hbk0 := Lib.hid (show Below V.heap.size V V.drew from (Below.refl _ _).drew)
  go_region_held3 (fun w' => w'.cell? ⟨w.heap.size, 0, none⟩ = some (.int .i64 u.k) ∧ w'.cell? ⟨w.heap.size, 1, none⟩ = some (.int .i64 u.n) ∧ w'.cell? ⟨w.heap.size, 2, none⟩ = some (.slice F3 u.l.length c3))
    ((first
      | with_reducible exact HKS.out
      | (refine HKK.out _ ?_; repeat (first | with_reducible exact hbC.out | with_reducible exact hbk0.out | with_reducible exact Below.refl _ _ | with_reducible refine Below.al ?_ _ | with_reducible refine Below.dr ?_))))
    (first
    | (go_at_call 78
       refine (CU.out _ (by repeat (first | with_reducible exact hbk0.out | with_reducible exact Below.refl _ _ | with_reducible refine Below.al ?_ _ | with_reducible refine Below.dr ?_ | with_reducible refine Below.st ?_ (by first | omega | (simp <;> omega)) _))).mono ?_
       rintro e w5 ⟨rfl, hb5⟩
       have hbC := Lib.hid (by first | exact hbk0.out.trans (hb5.mono hbk0.out.size))
       have Hr5 := Lib.hid (HrV.out.below hbC.out HrV.out.lt)
       have hfr : ∀ q, w5.frozen? ⟨w.heap.size + 1, q, none⟩ = false := fun q => Hr5.out.cold q
       have r0 : w5.cell? ⟨w.heap.size + 1, 0, none⟩ = some (.int .i64 0) := Hr5.out.cell 0
       have r1 : w5.cell? ⟨w.heap.size + 1, 1, none⟩ = some (.int .i64 0) := Hr5.out.cell 1
       have r2 : w5.cell? ⟨w.heap.size + 1, 2, none⟩ = some (.slice none 0 0) := Hr5.out.cell 2
       have HKS := Lib.hid (show (((w5.setCell ⟨w.heap.size + 1, 0, none⟩ (.int .i64 u.k)).setCell ⟨w.heap.size + 1, 1, none⟩ (.int .i64 u.n)).setCell ⟨w.heap.size + 1, 2, none⟩ (.slice F3 u.l.length c3)).cell? ⟨w.heap.size, 0, none⟩ = some (.int .i64 u.k) ∧ (((w5.setCell ⟨w.heap.size + 1, 0, none⟩ (.int .i64 u.k)).setCell ⟨w.heap.size + 1, 1, none⟩ (.int .i64 u.n)).setCell ⟨w.heap.size + 1, 2, none⟩ (.slice F3 u.l.length c3)).cell? ⟨w.heap.size, 1, none⟩ = some (.int .i64 u.n) ∧ (((w5.setCell ⟨w.heap.size + 1, 0, none⟩ (.int .i64 u.k)).setCell ⟨w.heap.size + 1, 1, none⟩ (.int .i64 u.n)).setCell ⟨w.heap.size + 1, 2, none⟩ (.slice F3 u.l.length c3)).cell? ⟨w.heap.size, 2, none⟩ = some (.slice F3 u.l.length c3) from by
         obtain ⟨z0, z1, z2⟩ := HKK.out _ hbC.out
         exact ⟨(cells_three (by omega)).trans z0, (cells_three (by omega)).trans z1, (cells_three (by omega)).trans z2⟩)
       clear hb5))
  all_goals
    have B5 := ((Hr5.out.at_ 0 (.int .i64 u.k)).at_ 1 (.int .i64 u.n)).at_ 2 (.slice F3 u.l.length c3)
    have HS0 := Lib.hid (B5.cell 0)
    have HS1 := Lib.hid (B5.cell 1)
    have HS2 := Lib.hid (B5.cell 2)
    clear B5
    go_wp2_with fail
    refine bodyPost_ret (v := .tuple #[.agg #[.int .i64 u.k, .int .i64 u.n, .slice F3 u.l.length c3], .int .i64 1, .int .i64 0]) (by simp [results, Tryz.results34, go_sem, HS0.out, HS1.out, HS2.out]) rfl ?_
    have q0 := TermIn.imp (P' := fun b => w2.heap.size ≤ b ∧ b < w5.heap.size) (fun b o hb => hbC.out.cell (p := ⟨b, o, none⟩) (by show b < V.heap.size; have := hb.2; omega)) (fun b hb => ⟨hb.1, by have h1 := hb.2; have h2 := hbC.out.size; omega⟩) HUV.out
    have q := TermIn.three (g := w.heap.size + 1) q0 (fun b hb => by have := hb.1; omega) (.int .i64 u.k) (.int .i64 u.n) (.slice F3 u.l.length c3)
    refine ⟨F3, c3, rfl, TermIn.imp (fun _ _ _ => rfl) (fun b hb => ⟨by have := hb.1; omega, by rw [size_three]; exact hb.2⟩) q, ?_⟩
    exact Below.st (g := w.heap.size + 1) (q := 2) (Below.st (g := w.heap.size + 1) (q := 1) (Below.st (g := w.heap.size + 1) (q := 0) (HBV.out.trans (hbC.out.mono HBV.out.size)) (by omega) _) (by omega) _) (by omega) _

end Go.Proofs.YtkolhhdfbhddlaaGreatDoor

/- The laws of layer 14: does the program answer at all? It does. -/
namespace Go.Proofs.YtkolhhdfbhddlaaGreatDoor
open Go.RowKit
set_option linter.unusedVariables false
set_option maxRecDepth 100000

def aS : TM := .node 2 2 []
def aT : TM := .node 5 0 [.node 4 0 [aS, .node 1 0 []], aS]
def bS : TM := .node 2 0 []
def bT : TM := .node 5 0 [.node 4 0 [bS, bS], bS]
theorem aBeta : Beta aT 0 aS (.node 1 0 []) aS aS where
  sh := by kernel_rfl
  hd := by kernel_rfl
  ar := by kernel_rfl
  ga := by kernel_rfl
  gb := by kernel_rfl
  gx := by kernel_rfl
  mu := by kernel_rfl
  us := by kernel_rfl
  uk := by rw [show headT aS = aS from by kernel_rfl]; decide
theorem bBeta : Beta bT 0 bS bS bS bS where
  sh := by kernel_rfl
  hd := by kernel_rfl
  ar := by kernel_rfl
  ga := by kernel_rfl
  gb := by kernel_rfl
  gx := by kernel_rfl
  mu := by kernel_rfl
  us := by kernel_rfl
  uk := by rw [show headT bS = bS from by kernel_rfl]; decide
theorem aRight : trightB aT 1048577 0 = true := by kernel_rfl
theorem bRight : trightB bT 1048577 0 = true := by kernel_rfl
theorem aAlike : alikeT aS aS = true := by kernel_rfl

theorem leafAt (w : World) (P : Nat → Prop) (k n : Int) (A : Option Addr) {cap : Nat} (h : cap ≤ maxLen) : TermIn w P (.node k n []) A cap :=
  TermIn.mk k n [] A cap (fun _ => none) (fun _ => 0) (Nat.zero_le _) h (fun h => by simp at h) (fun i h => by simp at h)
/-- A node of two terms. -/
theorem ttwo_any (kk : Int) (x y : TM) (A A' : Option Addr) (cap cap' : Nat) (w : World) (hx : IsTerm w 0 w.heap.size x A cap) (hy : IsTerm w 0 w.heap.size y A' cap') :
    Calls Tryz.prog 44 #[.int .i64 kk, termV x A cap, termV y A' cap'] w fun e w' => ∃ g, e = .returned (.agg #[.int .i64 kk, .int .i64 0, .slice (some ⟨g, 0, none⟩) 2 2]) ∧ IsTerm w' 0 w'.heap.size (.node kk 0 [x, y]) (some ⟨g, 0, none⟩) 2 ∧ Below w.heap.size w w' :=
  (mk_two kk x.k y.k x.n y.n A A' x.l.length y.l.length cap cap' w).mono fun e w' h => by
    obtain ⟨g, h1, h2, h3, h4⟩ := h
    exact ⟨g, h1, two_in ((hx.kept h4 (Nat.le_refl _)).wide (Nat.le_refl _) h4.size) ((hy.kept h4 (Nat.le_refl _)).wide (Nat.le_refl _) h4.size) h3 ⟨Nat.zero_le _, h3.lt⟩ kk 0, h4⟩

set_option maxHeartbeats 4000000 in
theorem awake14_any (w : World) (hS : ShapesM w) : Calls Tryz.prog 33 #[] w fun e w' => e = .returned (.bool true) ∧ Below w.heap.size w w' := by
  obtain ⟨X, hX⟩ : ∃ X, w.alloc (.cells #[.int .i64 2, .int .i64 2, .slice none 0 0] 27) = X := ⟨_, rfl⟩
  have HBX := Lib.hid (show Below w.heap.size w X from by rw [← hX]; exact (Below.refl _ _).alloc (Nat.le_refl _) _)
  have HKX := Lib.hid (show Bk X w.heap.size 27 #[.int .i64 2, .int .i64 2, .slice none 0 0] from by rw [← hX]; exact Bk.new _ _ _)
  have HKK := Lib.hid (fun (V : World) (hV : Below X.heap.size X V) => (show V.cell? ⟨w.heap.size, 0, none⟩ = some (.int .i64 2) ∧ V.cell? ⟨w.heap.size, 1, none⟩ = some (.int .i64 2) ∧ V.cell? ⟨w.heap.size, 2, none⟩ = some (.slice none 0 0) from by
    have k := HKX.out.below hV HKX.out.lt
    exact ⟨k.cell 0, k.cell 1, k.cell 2⟩))
  have C1 := Lib.hid (fun (V : World) => (show Calls Tryz.prog 44 #[.int .i64 4, .agg #[.int .i64 2, .int .i64 2, .slice none 0 0], .agg #[.int .i64 1, .int .i64 0, .slice none 0 0]] V (fun e w' => ∃ g, e = .returned (.agg #[.int .i64 4, .int .i64 0, .slice (some ⟨g, 0, none⟩) 2 2]) ∧ IsTerm w' 0 w'.heap.size (.node 4 0 [aS, .node 1 0 []]) (some ⟨g, 0, none⟩) 2 ∧ Below V.heap.size V w') from ttwo_any 4 aS (.node 1 0 []) none none 0 0 V (leaf_in _ _ 2 2) (leaf_in _ _ 1 0)))
  have C2 := Lib.hid (fun (g : Nat) (V : World) (hg : IsTerm V 0 V.heap.size (.node 4 0 [aS, .node 1 0 []]) (some ⟨g, 0, none⟩) 2) => (show Calls Tryz.prog 44 #[.int .i64 5, .agg #[.int .i64 4, .int .i64 0, .slice (some ⟨g, 0, none⟩) 2 2], .agg #[.int .i64 2, .int .i64 2, .slice none 0 0]] V (fun e w' => ∃ g, e = .returned (.agg #[.int .i64 5, .int .i64 0, .slice (some ⟨g, 0, none⟩) 2 2]) ∧ IsTerm w' 0 w'.heap.size aT (some ⟨g, 0, none⟩) 2 ∧ Below V.heap.size V w') from ttwo_any 5 (.node 4 0 [aS, .node 1 0 []]) aS (some ⟨g, 0, none⟩) none 2 0 V hg (leaf_in _ _ 2 2)))
  have C3 := Lib.hid (fun (g : Nat) (V : World) (hV : Below w.heap.size w V) (hg : IsTerm V 0 V.heap.size aT (some ⟨g, 0, none⟩) 2) => (show Calls Tryz.prog 34 #[.slice none 0 0, .agg #[.int .i64 5, .int .i64 0, .slice (some ⟨g, 0, none⟩) 2 2], .int .i64 5] V (fun e w' => ∃ G c, e = .returned (.tuple #[.agg #[.int .i64 2, .int .i64 2, .slice G 0 c], .int .i64 1, .int .i64 0]) ∧ IsTerm w' V.heap.size w'.heap.size aS G c ∧ Below V.heap.size V w') from wBringFn aBeta aRight (some ⟨g, 0, none⟩) 2 V hg (hS.kept hV)))
  have C4 := Lib.hid (fun (G : Option Addr) (c : Nat) (V : World) (hg : IsTerm V 0 V.heap.size aS G c) => (show Calls Tryz.prog 21 #[.agg #[.int .i64 2, .int .i64 2, .slice G 0 c], .agg #[.int .i64 2, .int .i64 2, .slice none 0 0]] V (fun e w' => e = .returned (.bool true) ∧ Below V.heap.size V w') from by
    have := refEqual_any aS aS 0 V.heap.size 0 V.heap.size G none c 0 V hg (leaf_in _ _ 2 2) (Nat.le_refl _) (Nat.le_refl _)
    rw [aAlike] at this
    exact this))
  have hbk0 := Lib.hid (show Below X.heap.size X X.drew from (Below.refl _ _).drew)
  have HXE := Lib.hid hX
  clear hS hX
  go_enter Tryz.func33, Tryz.ntmps33
  go_wp2_with fail
  rw [HXE.out]
  obtain ⟨s0, s1, s2⟩ := HKK.out X (Below.refl _ _)
  have hltX := HKX.out.lt
  go_cut [2, 3, 4] from 6 to 15 (fun s2 s3 s4 wx => ∃ gv Ax cx, s2 = .pointer (some ⟨gv, 0, none⟩) ∧ s3 = .int .i64 1 ∧ s4 = .int .i64 0 ∧ TBox wx gv 2 2 (.slice Ax 0 cx) ∧ Below X.heap.size X wx ∧ cx ≤ maxLen)
  case first =>
    go_region_held3 (fun w' => w'.cell? ⟨w.heap.size, 0, none⟩ = some (.int .i64 2) ∧ w'.cell? ⟨w.heap.size, 1, none⟩ = some (.int .i64 2) ∧ w'.cell? ⟨w.heap.size, 2, none⟩ = some (.slice none 0 0))
      ((refine (HKK.out _ ?_); repeat (first | with_reducible exact hbk0.out | with_reducible exact hbC.out | with_reducible exact hbP.out | with_reducible exact hbQ.out | with_reducible exact Below.refl _ _ | with_reducible refine Below.al ?_ _ | with_reducible refine Below.dr ?_ | with_reducible refine Below.st ?_ (by first | omega | (simp <;> omega)) _)))
      (first
      | (go_at_call 34
         refine (C3.out g2 _ (HBX.out.trans (Below.mono (by repeat (first | with_reducible exact hbP.out | with_reducible exact Below.refl _ _ | with_reducible refine Below.al ?_ _ | with_reducible refine Below.dr ?_ | with_reducible refine Below.st ?_ (by first | omega | (simp <;> omega)) _)) HBX.out.size)) (by first | exact HT2.out | exact (HT2.out.kept ((Below.refl _ _).alloc (Nat.le_refl _) _) (Nat.le_refl _)).wide (Nat.le_refl _) (by simp))).mono ?_
         rintro e w5 ⟨G, c, rfl, ht5, hb5⟩
         have hbQ := Lib.hid (by first | exact hbP.out.trans (hb5.mono hbP.out.size) | exact (hbP.out.alloc hbP.out.size _).trans (hb5.mono (hbP.out.alloc hbP.out.size _).size))
         have hzQ := hbQ.out.size
         first
         | (have hbz2 := Lib.hid (Bk.below hbz.out hb5 (by have := hbz.out.lt; simp <;> omega)); have hbz := hbz2; clear hbz2)
         | (have hbz2 := Lib.hid (Bk.below (hbz.out.alloc _) hb5 (by have := hbz.out.lt; simp <;> omega)); have hbz := hbz2; clear hbz2)
         | (have hbz : Hid (Bk w5 (w4.heap.size) 27 #[.int .i64 0, .int .i64 0, .slice none 0 0]) := Lib.hid (Bk.below (show Bk _ (w4.heap.size) 27 #[.int .i64 0, .int .i64 0, .slice none 0 0] from (Bk.last w4 27 #[.int .i64 0, .int .i64 0, .slice none 0 0] (by simp))) hb5 (by simp <;> omega)))
         | (have hbz : Hid (Bk w5 (w4.heap.size) 27 #[.int .i64 0, .int .i64 0, .slice none 0 0]) := Lib.hid (Bk.below (show Bk _ (w4.heap.size) 27 #[.int .i64 0, .int .i64 0, .slice none 0 0] from ((Bk.last w4 27 #[.int .i64 0, .int .i64 0, .slice none 0 0] (by simp)).alloc _)) hb5 (by simp <;> omega)))
         | (have hbz : Hid (Bk w5 (w4.heap.size + 1) 27 #[.int .i64 0, .int .i64 0, .slice none 0 0]) := Lib.hid (Bk.below (show Bk _ (w4.heap.size + 1) 27 #[.int .i64 0, .int .i64 0, .slice none 0 0] from (Bk.last (w4.alloc _) 27 #[.int .i64 0, .int .i64 0, .slice none 0 0] (by simp))) hb5 (by simp <;> omega)))
         | skip
         have HT5 := Lib.hid ht5.bounds.2
         first
         | (have hfz : ∀ q, w5.frozen? ⟨_, q, none⟩ = false := fun q => hbz.out.cold q
            have d0 := hbz.out.cell 0
            have d1 := hbz.out.cell 1
            have d2 := hbz.out.cell 2
            simp at d0 d1 d2)
         | skip
         clear hb5 ht5)
      | (go_at_call 44
         refine (C2.out g1 _ (by first | exact HT1.out | exact (HT1.out.kept ((Below.refl _ _).alloc (Nat.le_refl _) _) (Nat.le_refl _)).wide (Nat.le_refl _) (by simp))).mono ?_
         rintro e w4 ⟨g2, rfl, ht2, hb4⟩
         have hbP := Lib.hid (by first | exact hbC.out.trans (hb4.mono hbC.out.size) | exact (hbC.out.alloc hbC.out.size _).trans (hb4.mono (hbC.out.alloc hbC.out.size _).size))
         have hzP := hbP.out.size
         first
         | (have hbz2 := Lib.hid (Bk.below hbz.out hb4 (by have := hbz.out.lt; simp <;> omega)); have hbz := hbz2; clear hbz2)
         | (have hbz2 := Lib.hid (Bk.below (hbz.out.alloc _) hb4 (by have := hbz.out.lt; simp <;> omega)); have hbz := hbz2; clear hbz2)
         | (have hbz : Hid (Bk w4 (w3.heap.size) 27 #[.int .i64 0, .int .i64 0, .slice none 0 0]) := Lib.hid (Bk.below (show Bk _ (w3.heap.size) 27 #[.int .i64 0, .int .i64 0, .slice none 0 0] from (Bk.last w3 27 #[.int .i64 0, .int .i64 0, .slice none 0 0] (by simp))) hb4 (by simp <;> omega)))
         | (have hbz : Hid (Bk w4 (w3.heap.size) 27 #[.int .i64 0, .int .i64 0, .slice none 0 0]) := Lib.hid (Bk.below (show Bk _ (w3.heap.size) 27 #[.int .i64 0, .int .i64 0, .slice none 0 0] from ((Bk.last w3 27 #[.int .i64 0, .int .i64 0, .slice none 0 0] (by simp)).alloc _)) hb4 (by simp <;> omega)))
         | (have hbz : Hid (Bk w4 (w3.heap.size + 1) 27 #[.int .i64 0, .int .i64 0, .slice none 0 0]) := Lib.hid (Bk.below (show Bk _ (w3.heap.size + 1) 27 #[.int .i64 0, .int .i64 0, .slice none 0 0] from (Bk.last (w3.alloc _) 27 #[.int .i64 0, .int .i64 0, .slice none 0 0] (by simp))) hb4 (by simp <;> omega)))
         | skip
         have HT2 := Lib.hid ht2
         clear hb4 ht2)
      | (go_at_call 44
         refine (C1.out _).mono ?_
         rintro e w3 ⟨g1, rfl, ht1, hb3⟩
         have hbC := Lib.hid (by first | exact hbk0.out.trans (hb3.mono hbk0.out.size) | exact (hbk0.out.alloc hbk0.out.size _).trans (hb3.mono (hbk0.out.alloc hbk0.out.size _).size))
         have hzC := hbC.out.size
         first
         | (have hbz2 := Lib.hid (Bk.below hbz.out hb3 (by have := hbz.out.lt; simp <;> omega)); have hbz := hbz2; clear hbz2)
         | (have hbz2 := Lib.hid (Bk.below (hbz.out.alloc _) hb3 (by have := hbz.out.lt; simp <;> omega)); have hbz := hbz2; clear hbz2)
         | (have hbz : Hid (Bk w3 (X.heap.size) 27 #[.int .i64 0, .int .i64 0, .slice none 0 0]) := Lib.hid (Bk.below (show Bk _ (X.heap.size) 27 #[.int .i64 0, .int .i64 0, .slice none 0 0] from (Bk.last X.drew 27 #[.int .i64 0, .int .i64 0, .slice none 0 0] (by simp))) hb3 (by simp <;> omega)))
         | (have hbz : Hid (Bk w3 (X.heap.size) 27 #[.int .i64 0, .int .i64 0, .slice none 0 0]) := Lib.hid (Bk.below (show Bk _ (X.heap.size) 27 #[.int .i64 0, .int .i64 0, .slice none 0 0] from ((Bk.last X.drew 27 #[.int .i64 0, .int .i64 0, .slice none 0 0] (by simp)).alloc _)) hb3 (by simp <;> omega)))
         | (have hbz : Hid (Bk w3 (X.heap.size + 1) 27 #[.int .i64 0, .int .i64 0, .slice none 0 0]) := Lib.hid (Bk.below (show Bk _ (X.heap.size + 1) 27 #[.int .i64 0, .int .i64 0, .slice none 0 0] from (Bk.last (X.drew.alloc _) 27 #[.int .i64 0, .int .i64 0, .slice none 0 0] (by simp))) hb3 (by simp <;> omega)))
         | skip
         have HT1 := Lib.hid ht1
         clear hb3 ht1))
    all_goals
      go_wp2_with fail
      go_meet
      case rel =>
        first
        | exact ⟨_, G, c, rfl, rfl, rfl, TBox.of (((hbz.out.at_ 0 (.int .i64 2)).at_ 1 (.int .i64 2)).at_ 2 (.slice G 0 c)), (by repeat (first | with_reducible exact hbQ.out | with_reducible exact Below.refl _ _ | with_reducible refine Below.al ?_ _ | with_reducible refine Below.dr ?_ | with_reducible refine Below.st ?_ (by first | omega | (simp <;> omega)) _)), HT5.out⟩
        | exact ⟨_, G, c, rfl, rfl, rfl, TBox.of (Bk.new w5 _ _), (by repeat (first | with_reducible exact hbQ.out | with_reducible exact Below.refl _ _ | with_reducible refine Below.al ?_ _ | with_reducible refine Below.dr ?_ | with_reducible refine Below.st ?_ (by first | omega | (simp <;> omega)) _)), HT5.out⟩
  case rest =>
    obtain ⟨wg, rfl⟩ : ∃ wg : World, wg = wc := ⟨_, rfl⟩
    obtain ⟨gv, Ax, cx, rfl, rfl, rfl, htb, hbg, hcx⟩ := hcut
    have HTB := Lib.hid htb
    have HBG := Lib.hid hbg
    have HCX := Lib.hid hcx
    have HKG := Lib.hid (fun (V : World) (hV : Below wg.heap.size wg V) => (show V.cell? ⟨w.heap.size, 0, none⟩ = some (.int .i64 2) ∧ V.cell? ⟨w.heap.size, 1, none⟩ = some (.int .i64 2) ∧ V.cell? ⟨w.heap.size, 2, none⟩ = some (.slice none 0 0) ∧ V.cell? ⟨gv, 0, none⟩ = some (.int .i64 2) ∧ V.cell? ⟨gv, 1, none⟩ = some (.int .i64 2) ∧ V.cell? ⟨gv, 2, none⟩ = some (.slice Ax 0 cx) from by
      obtain ⟨k0, k1, k2⟩ := HKK.out V (HBG.out.trans (hV.mono HBG.out.size))
      obtain ⟨z0, z1, z2, _⟩ := HTB.out.kept hV HTB.out.lt
      exact ⟨k0, k1, k2, z0, z1, z2⟩))
    have hgvl := htb.lt
    have hwg : w.heap.size < wg.heap.size := by have := hbg.size; omega
    have hbk1 := Lib.hid (show Below wg.heap.size wg wg.drew from (Below.refl _ _).drew)
    clear htb hbg hcx s0 s1 s2
    obtain ⟨s0, s1, s2, v0, v1, v2⟩ := HKG.out wg (Below.refl _ _)
    go_wp2_with fail
    refine (C4.out Ax cx _ (leafAt _ _ 2 2 Ax HCX.out)).mono ?_
    rintro e w6 ⟨rfl, hb6⟩
    have hbE := Lib.hid hb6
    clear hb6
    go_wp2_with fail
    go_ret
    exact ⟨rfl, HBX.out.trans ((HBG.out.trans (hbE.out.mono HBG.out.size)).mono HBX.out.size)⟩

end Go.Proofs.YtkolhhdfbhddlaaGreatDoor

/- The walk of WhnfNil. -/
namespace Go.Proofs.YtkolhhdfbhddlaaGreatDoor
open Go.RowKit
set_option linter.unusedVariables false
set_option maxRecDepth 100000

set_option maxHeartbeats 4000000 in
theorem nil_walk (t : TM) (A : Option Addr) (cap : Nat) (w : World) (ht : IsTerm w 0 w.heap.size t A cap) (hS : ShapesM w) : Calls Tryz.prog 10 #[termV t A cap] w fun e w' => e = .returned (.bool true) ∧ Below w.heap.size w w' := by
  have HB0 := Lib.hid (Below.refl w.heap.size w)
  have HT := Lib.hid (fun (V : World) (hV : Below w.heap.size w V) => (show IsTerm V 0 V.heap.size t A cap from (ht.kept hV (Nat.le_refl _)).wide (Nat.le_refl _) hV.size))
  have HSS := Lib.hid (fun (V : World) (hV : Below w.heap.size w V) => hS.kept hV)
  have CCon := Lib.hid (fun (V : World) (hV : Below w.heap.size w V) => wCon_none t A cap V (HT.out V hV) (HSS.out V hV))
  have CA := Lib.hid (fun (V : World) (hV : Below w.heap.size w V) => awake14_any V (HSS.out V hV))
  unfold termV at CCon
  unfold termV
  obtain ⟨X, hX⟩ : ∃ X, w.alloc (.cells #[.int .i64 t.k, .int .i64 t.n, .slice A t.l.length cap] 27) = X := ⟨_, rfl⟩
  have HBX := Lib.hid (show Below w.heap.size w X from by rw [← hX]; exact (Below.refl _ _).alloc (Nat.le_refl _) _)
  have HKt := Lib.hid (show Bk X w.heap.size 27 #[.int .i64 t.k, .int .i64 t.n, .slice A t.l.length cap] from by rw [← hX]; exact Bk.new _ _ _)
  have HKX := Lib.hid (fun (V : World) (hV : Below X.heap.size X V) => (show V.cell? ⟨w.heap.size, 0, none⟩ = some (.int .i64 t.k) ∧ V.cell? ⟨w.heap.size, 1, none⟩ = some (.int .i64 t.n) ∧ V.cell? ⟨w.heap.size, 2, none⟩ = some (.slice A t.l.length cap) from by
    have k := HKt.out.below hV HKt.out.lt
    exact ⟨k.cell 0, k.cell 1, k.cell 2⟩))
  have HW := Lib.hid (fun (V : World) (hV : Below X.heap.size X V) => (show Below w.heap.size w V from HBX.out.trans (hV.mono HBX.out.size)))
  have HB0' := Lib.hid (Below.refl X.heap.size X)
  obtain ⟨x0, x1, x2⟩ := HKX.out _ HB0'.out
  clear ht hS
  go_enter Tryz.func10, Tryz.ntmps10
  go_wp2_with fail
  refine (new_ok 5 (by omega) (by omega) X).mono ?_
  rintro e w1 ⟨rfl, -, hb1⟩
  have HB1 := Lib.hid hb1
  clear hb1 x0 x1 x2 hX
  obtain ⟨x0, x1, x2⟩ := HKX.out _ HB1.out
  go_wp2_with fail
  refine (wBring_none t.k t.n A t.l.length cap _ _).mono ?_
  rintro e w2 ⟨rfl, hb2⟩
  have HB2 := Lib.hid (HB1.out.trans (hb2.mono HB1.out.size))
  clear hb2 x0 x1 x2
  obtain ⟨x0, x1, x2⟩ := HKX.out _ HB2.out
  have hlx2 : w.heap.size < w2.heap.size := by have := HB2.out.size; have := HKt.out.lt; omega
  go_wp2_with fail
  have HB2a := Lib.hid (HB2.out.alloc HB2.out.size (.cells #[.int .i64 0, .int .i64 0, .slice none 0 0] 27))
  refine (wOnce_none t.k t.n A t.l.length cap _ _).mono ?_
  rintro e w3 ⟨rfl, hb3⟩
  have HB3 := Lib.hid (HB2a.out.trans (hb3.mono HB2a.out.size))
  clear hb3 x0 x1 x2
  obtain ⟨x0, x1, x2⟩ := HKX.out _ HB3.out
  have hlx3 : w.heap.size < w3.heap.size := by have := HB3.out.size; have := HKt.out.lt; omega
  go_wp2_with fail
  have HB3a := Lib.hid (HB3.out.alloc HB3.out.size (.cells #[.int .i64 0, .int .i64 0, .slice none 0 0] 27))
  refine (CCon.out _ (HW.out _ HB3a.out)).mono ?_
  rintro e w4 ⟨rfl, hb4⟩
  have HB4 := Lib.hid (HB3a.out.trans (hb4.mono HB3a.out.size))
  clear hb4 x0 x1 x2
  go_wp2_with fail
  refine (wlen_none _).mono ?_
  rintro e w4' ⟨rfl, rfl⟩
  go_wp2_with fail
  refine (wEntries_none _).mono ?_
  rintro e w4' ⟨rfl, rfl⟩
  go_wp2_with fail
  refine (wNew_nil w4 (HSS.out _ (HW.out _ HB4.out))).mono ?_
  rintro e w5 ⟨gn, rfl, hN, -, hb5⟩
  have HN := Lib.hid hN
  have HB5 := Lib.hid (HB4.out.trans (hb5.mono HB4.out.size))
  clear hN hb5
  obtain ⟨Y, hY⟩ : ∃ Y, w5.alloc (.cells #[.int .i64 2, .int .i64 0, .slice none 0 0] 27) = Y := ⟨_, rfl⟩
  have HYE := Lib.hid hY
  have HBY := Lib.hid (show Below X.heap.size X Y from by rw [← hY]; exact HB5.out.alloc HB5.out.size _)
  have HKY := Lib.hid (show Bk Y w5.heap.size 27 #[.int .i64 2, .int .i64 0, .slice none 0 0] from by rw [← hY]; exact Bk.new _ _ _)
  have HNY := Lib.hid (show NilM Y gn from by rw [← hY]; exact HN.out.over ((Below.refl _ _).alloc (Nat.le_refl _) _))
  have HKK := Lib.hid (fun (V : World) (hV : Below Y.heap.size Y V) => (show V.cell? ⟨w5.heap.size, 0, none⟩ = some (.int .i64 2) ∧ V.cell? ⟨w5.heap.size, 1, none⟩ = some (.int .i64 0) ∧ V.cell? ⟨w5.heap.size, 2, none⟩ = some (.slice none 0 0) from by
    have k := HKY.out.below hV HKY.out.lt
    exact ⟨k.cell 0, k.cell 1, k.cell 2⟩))
  have C1 := Lib.hid (fun (V : World) => (show Calls Tryz.prog 44 #[.int .i64 4, .agg #[.int .i64 2, .int .i64 0, .slice none 0 0], .agg #[.int .i64 2, .int .i64 0, .slice none 0 0]] V (fun e w' => ∃ g, e = .returned (.agg #[.int .i64 4, .int .i64 0, .slice (some ⟨g, 0, none⟩) 2 2]) ∧ IsTerm w' 0 w'.heap.size (.node 4 0 [bS, bS]) (some ⟨g, 0, none⟩) 2 ∧ Below V.heap.size V w') from ttwo_any 4 bS bS none none 0 0 V (leaf_in _ _ 2 0) (leaf_in _ _ 2 0)))
  have C2 := Lib.hid (fun (g : Nat) (V : World) (hg : IsTerm V 0 V.heap.size (.node 4 0 [bS, bS]) (some ⟨g, 0, none⟩) 2) => (show Calls Tryz.prog 44 #[.int .i64 5, .agg #[.int .i64 4, .int .i64 0, .slice (some ⟨g, 0, none⟩) 2 2], .agg #[.int .i64 2, .int .i64 0, .slice none 0 0]] V (fun e w' => ∃ g, e = .returned (.agg #[.int .i64 5, .int .i64 0, .slice (some ⟨g, 0, none⟩) 2 2]) ∧ IsTerm w' 0 w'.heap.size bT (some ⟨g, 0, none⟩) 2 ∧ Below V.heap.size V w') from ttwo_any 5 (.node 4 0 [bS, bS]) bS (some ⟨g, 0, none⟩) none 2 0 V hg (leaf_in _ _ 2 0)))
  have C3 := Lib.hid (fun (g : Nat) (V : World) (hV : Below Y.heap.size Y V) (hg : IsTerm V 0 V.heap.size bT (some ⟨g, 0, none⟩) 2) => (show Calls Tryz.prog 39 #[.pointer (some ⟨gn, 0, none⟩), .agg #[.int .i64 5, .int .i64 0, .slice (some ⟨g, 0, none⟩) 2 2], .pointer none] V (fun e w' => ∃ G c, e = .returned (.tuple #[.agg #[.int .i64 0, .int .i64 0, .slice G 0 c], .int .i64 8]) ∧ Below V.heap.size V w') from wBring_few bBeta bRight gn (some ⟨g, 0, none⟩) 2 V (HNY.out.over hV) hg (HSS.out _ (HW.out _ (HBY.out.trans (hV.mono HBY.out.size))))))
  clear hY
  go_wp2_with fail
  rw [HYE.out]
  have hltY := HKY.out.lt
  have hbk0 := Lib.hid (show Below Y.heap.size Y Y.drew from (Below.refl _ _).drew)
  obtain ⟨s0, s1, s2⟩ := HKK.out Y (Below.refl _ _)
  go_cut [17, 18] from 73 to 82 (fun s17 s18 wx => ∃ gv, s17 = .pointer (some ⟨gv, 0, none⟩) ∧ s18 = .int .i64 8 ∧ Below Y.heap.size Y wx)
  case first =>
    go_region_held3 (fun w' => w'.cell? ⟨w5.heap.size, 0, none⟩ = some (.int .i64 2) ∧ w'.cell? ⟨w5.heap.size, 1, none⟩ = some (.int .i64 0) ∧ w'.cell? ⟨w5.heap.size, 2, none⟩ = some (.slice none 0 0))
      ((refine (HKK.out _ ?_); repeat (first | with_reducible exact hbk0.out | with_reducible exact hbC.out | with_reducible exact hbP.out | with_reducible exact hbQ.out | with_reducible exact Below.refl _ _ | with_reducible refine Below.al ?_ _ | with_reducible refine Below.dr ?_ | with_reducible refine Below.st ?_ (by first | omega | (simp <;> omega)) _)))
      (first
      | (go_at_call 39
         refine (C3.out g2 _ (by repeat (first | with_reducible exact hbP.out | with_reducible exact Below.refl _ _ | with_reducible refine Below.al ?_ _ | with_reducible refine Below.dr ?_ | with_reducible refine Below.st ?_ (by first | omega | (simp <;> omega)) _)) (by first | exact HT2.out | exact (HT2.out.kept ((Below.refl _ _).alloc (Nat.le_refl _) _) (Nat.le_refl _)).wide (Nat.le_refl _) (by simp))).mono ?_
         rintro e v5 ⟨G, c, rfl, hb5⟩
         have hbQ := Lib.hid (by first | exact hbP.out.trans (hb5.mono hbP.out.size) | exact (hbP.out.alloc hbP.out.size _).trans (hb5.mono (hbP.out.alloc hbP.out.size _).size))
         have hzQ := hbQ.out.size
         first
         | (have hbz2 := Lib.hid (Bk.below hbz.out hb5 (by have := hbz.out.lt; simp <;> omega)); have hbz := hbz2; clear hbz2)
         | (have hbz2 := Lib.hid (Bk.below (hbz.out.alloc _) hb5 (by have := hbz.out.lt; simp <;> omega)); have hbz := hbz2; clear hbz2)
         | (have hbz : Hid (Bk v5 (v4.heap.size) 27 #[.int .i64 0, .int .i64 0, .slice none 0 0]) := Lib.hid (Bk.below (show Bk _ (v4.heap.size) 27 #[.int .i64 0, .int .i64 0, .slice none 0 0] from (Bk.last v4 27 #[.int .i64 0, .int .i64 0, .slice none 0 0] (by simp))) hb5 (by simp <;> omega)))
         | (have hbz : Hid (Bk v5 (v4.heap.size) 27 #[.int .i64 0, .int .i64 0, .slice none 0 0]) := Lib.hid (Bk.below (show Bk _ (v4.heap.size) 27 #[.int .i64 0, .int .i64 0, .slice none 0 0] from ((Bk.last v4 27 #[.int .i64 0, .int .i64 0, .slice none 0 0] (by simp)).alloc _)) hb5 (by simp <;> omega)))
         | (have hbz : Hid (Bk v5 (v4.heap.size + 1) 27 #[.int .i64 0, .int .i64 0, .slice none 0 0]) := Lib.hid (Bk.below (show Bk _ (v4.heap.size + 1) 27 #[.int .i64 0, .int .i64 0, .slice none 0 0] from (Bk.last (v4.alloc _) 27 #[.int .i64 0, .int .i64 0, .slice none 0 0] (by simp))) hb5 (by simp <;> omega)))
         | skip
         first
         | (have hfz : ∀ q, v5.frozen? ⟨_, q, none⟩ = false := fun q => hbz.out.cold q
            have d0 := hbz.out.cell 0
            have d1 := hbz.out.cell 1
            have d2 := hbz.out.cell 2
            simp at d0 d1 d2)
         | skip
         clear hb5)
      | (go_at_call 44
         refine (C2.out g1 _ (by first | exact HT1.out | exact (HT1.out.kept ((Below.refl _ _).alloc (Nat.le_refl _) _) (Nat.le_refl _)).wide (Nat.le_refl _) (by simp))).mono ?_
         rintro e v4 ⟨g2, rfl, ht2, hb4⟩
         have hbP := Lib.hid (by first | exact hbC.out.trans (hb4.mono hbC.out.size) | exact (hbC.out.alloc hbC.out.size _).trans (hb4.mono (hbC.out.alloc hbC.out.size _).size))
         have hzP := hbP.out.size
         first
         | (have hbz2 := Lib.hid (Bk.below hbz.out hb4 (by have := hbz.out.lt; simp <;> omega)); have hbz := hbz2; clear hbz2)
         | (have hbz2 := Lib.hid (Bk.below (hbz.out.alloc _) hb4 (by have := hbz.out.lt; simp <;> omega)); have hbz := hbz2; clear hbz2)
         | (have hbz : Hid (Bk v4 (v3.heap.size) 27 #[.int .i64 0, .int .i64 0, .slice none 0 0]) := Lib.hid (Bk.below (show Bk _ (v3.heap.size) 27 #[.int .i64 0, .int .i64 0, .slice none 0 0] from (Bk.last v3 27 #[.int .i64 0, .int .i64 0, .slice none 0 0] (by simp))) hb4 (by simp <;> omega)))
         | (have hbz : Hid (Bk v4 (v3.heap.size) 27 #[.int .i64 0, .int .i64 0, .slice none 0 0]) := Lib.hid (Bk.below (show Bk _ (v3.heap.size) 27 #[.int .i64 0, .int .i64 0, .slice none 0 0] from ((Bk.last v3 27 #[.int .i64 0, .int .i64 0, .slice none 0 0] (by simp)).alloc _)) hb4 (by simp <;> omega)))
         | (have hbz : Hid (Bk v4 (v3.heap.size + 1) 27 #[.int .i64 0, .int .i64 0, .slice none 0 0]) := Lib.hid (Bk.below (show Bk _ (v3.heap.size + 1) 27 #[.int .i64 0, .int .i64 0, .slice none 0 0] from (Bk.last (v3.alloc _) 27 #[.int .i64 0, .int .i64 0, .slice none 0 0] (by simp))) hb4 (by simp <;> omega)))
         | skip
         have HT2 := Lib.hid ht2
         clear hb4 ht2)
      | (go_at_call 44
         refine (C1.out _).mono ?_
         rintro e v3 ⟨g1, rfl, ht1, hb3⟩
         have hbC := Lib.hid (by first | exact hbk0.out.trans (hb3.mono hbk0.out.size) | exact (hbk0.out.alloc hbk0.out.size _).trans (hb3.mono (hbk0.out.alloc hbk0.out.size _).size))
         have hzC := hbC.out.size
         first
         | (have hbz2 := Lib.hid (Bk.below hbz.out hb3 (by have := hbz.out.lt; simp <;> omega)); have hbz := hbz2; clear hbz2)
         | (have hbz2 := Lib.hid (Bk.below (hbz.out.alloc _) hb3 (by have := hbz.out.lt; simp <;> omega)); have hbz := hbz2; clear hbz2)
         | (have hbz : Hid (Bk v3 (Y.heap.size) 27 #[.int .i64 0, .int .i64 0, .slice none 0 0]) := Lib.hid (Bk.below (show Bk _ (Y.heap.size) 27 #[.int .i64 0, .int .i64 0, .slice none 0 0] from (Bk.last Y.drew 27 #[.int .i64 0, .int .i64 0, .slice none 0 0] (by simp))) hb3 (by simp <;> omega)))
         | (have hbz : Hid (Bk v3 (Y.heap.size) 27 #[.int .i64 0, .int .i64 0, .slice none 0 0]) := Lib.hid (Bk.below (show Bk _ (Y.heap.size) 27 #[.int .i64 0, .int .i64 0, .slice none 0 0] from ((Bk.last Y.drew 27 #[.int .i64 0, .int .i64 0, .slice none 0 0] (by simp)).alloc _)) hb3 (by simp <;> omega)))
         | (have hbz : Hid (Bk v3 (Y.heap.size + 1) 27 #[.int .i64 0, .int .i64 0, .slice none 0 0]) := Lib.hid (Bk.below (show Bk _ (Y.heap.size + 1) 27 #[.int .i64 0, .int .i64 0, .slice none 0 0] from (Bk.last (Y.drew.alloc _) 27 #[.int .i64 0, .int .i64 0, .slice none 0 0] (by simp))) hb3 (by simp <;> omega)))
         | skip
         have HT1 := Lib.hid ht1
         clear hb3 ht1))
    all_goals
      go_wp2_with fail
      go_meet
      case rel => exact ⟨_, rfl, rfl, (by repeat (first | with_reducible exact hbQ.out | with_reducible exact Below.refl _ _ | with_reducible refine Below.al ?_ _ | with_reducible refine Below.dr ?_ | with_reducible refine Below.st ?_ (by first | omega | (simp <;> omega)) _))⟩
  case rest =>
    obtain ⟨wg, rfl⟩ : ∃ wg : World, wg = wc := ⟨_, rfl⟩
    obtain ⟨gv, rfl, rfl, hbg⟩ := hcut
    have HBG := Lib.hid (HBY.out.trans (hbg.mono HBY.out.size))
    clear hbg s0 s1 s2
    go_wp2_with fail
    refine (CA.out _ (HW.out _ HBG.out)).mono ?_
    rintro e w9 ⟨rfl, hb9⟩
    have HB9 := Lib.hid (HBG.out.trans (hb9.mono HBG.out.size))
    clear hb9
    go_wp2_with fail
    go_ret
    exact ⟨rfl, HW.out _ HB9.out⟩

end Go.Proofs.YtkolhhdfbhddlaaGreatDoor
