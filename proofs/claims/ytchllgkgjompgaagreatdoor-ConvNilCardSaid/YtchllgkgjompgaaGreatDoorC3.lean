import Derived.Test.YtchllgkgjompgaaGreatDoorC2
import Derived.Test.YtchllgkgjompgaaGreatDoorW3
import Derived.Deep.RegionHeld3
import Derived.Test.YtchllgkgjompgaaGreatDoorM4
namespace Go.Proofs.YtchllgkgjompgaaGreatDoor
open Go.RowKit
set_option linter.unusedVariables false
set_option maxRecDepth 100000

def vT : TM := .node 1 0 []
theorem leaf_shapedC : shapedB aS = true := by kernel_rfl
theorem leaf_rightC : trightB aS 1048577 0 = true := by kernel_rfl
theorem var_shaped : shapedB vT = true := by kernel_rfl
theorem var_right : trightB vT 1048577 0 = true := by kernel_rfl
theorem cap0 : (0 : Nat) ≤ maxLen := by decide

/-- What holds around the calls of Same: a machine without entries, a meter behind it. -/
structure Env16 (w0 w : World) (g gf : Nat) (lf : Int) : Prop where
  b : Below w0.heap.size w0 w
  l : w0.heap.size ≤ gf
  s : ShapesM w0
  m : NilM w0 g
  t : Mt w gf 5 lf
theorem Env16.below {w0 w V : World} {g gf : Nat} {lf : Int} (h : Env16 w0 w g gf lf) (hb : Below w.heap.size w V) : Env16 w0 V g gf lf := ⟨h.b.trans (hb.mono h.b.size), h.l, h.s, h.m, h.t.over hb⟩
theorem Env16.nil {w0 w : World} {g gf : Nat} {lf : Int} (h : Env16 w0 w g gf lf) : NilM w g := h.m.below h.b h.m.lt
theorem Env16.shp {w0 w : World} {g gf : Nat} {lf : Int} (h : Env16 w0 w g gf lf) : ShapesM w := h.s.kept h.b
theorem stay16 {t : TM} (hs : shapedB t = true) (hr : trightB t 1048577 0 = true) (hl : t = .node t.k t.n []) (hk : (headT t).k ≠ 4) (A : Option Addr) (ca : Nat) (hc : ca ≤ maxLen) (g gf : Nat) (V : World) (hM : NilM V g) (hS : ShapesM V) :
    Calls Tryz.prog 35 #[.pointer (some ⟨g, 0, none⟩), termV t A ca, .pointer (some ⟨gf, 0, none⟩)] V fun e w' => ∃ G c, e = .returned (.tuple #[.agg #[.int .i64 t.k, .int .i64 t.n, .slice G 0 c], .int .i64 0]) ∧ c ≤ maxLen ∧ Below V.heap.size V w' := by
  have hin : ∀ W : World, IsTerm W 0 W.heap.size t A ca := fun W => by rw [hl]; exact leafAt W _ t.k t.n A hc
  have hll : t.l.length = 0 := by rw [hl]; rfl
  refine (wBring_stay t (some ⟨gf, 0, none⟩) hs hr g A ca V hM (hin V) hS (fun W hW => wredex_no (some ⟨g, 0, none⟩) t A ca W (.inr ⟨g, rfl, hM.over hW⟩) (hin W) hs (hS.kept hW) hk)).mono ?_
  rintro e w' ⟨G, c, rfl, h1, h2⟩
  rw [hll]
  exact ⟨G, c, rfl, (by rw [hl] at h1; exact h1.bounds.2), h2⟩
theorem rec16 (g gf : Nat) (k n : Int) (G : Option Addr) (c : Nat) (V : World) (hc : c ≤ maxLen) (hM : NilM V g) (hS : ShapesM V) :
    Calls Tryz.prog 132 #[.agg #[.pointer (some ⟨g, 0, none⟩), .pointer (some ⟨gf, 0, none⟩)], .agg #[.int .i64 k, .int .i64 n, .slice G 0 c]] V fun e w' => e = .returned (.tuple #[.agg #[.int .i64 0, .slice none 0 0, .slice none 0 0], .bool false]) ∧ Below V.heap.size V w' :=
  crecord_no (some ⟨g, 0, none⟩) (some ⟨gf, 0, none⟩) (.node k n []) G c V (.inr ⟨g, rfl, hM⟩) (leafAt V _ k n G hc) hS
theorem Env16.up {w0 w V : World} {g gf : Nat} {lf : Int} (h : Env16 w0 w g gf lf) (hu : Up gf w V) : Below w0.heap.size w0 V := h.b.trans (hu.below h.l h.b.size)

/-- A redex that comes to a universe, and this: one, in a step. -/
theorem same16_yes (A B : Option Addr) (ca cb g gf : Nat) (w0 w : World) (h : Env16 w0 w g gf 5) (ht : IsTerm w 0 w.heap.size aT A ca) (hc : cb ≤ maxLen) :
    Calls Tryz.prog 24 #[.pointer (some ⟨g, 0, none⟩), termV aT A ca, termV aS B cb, .pointer (some ⟨gf, 0, none⟩)] w fun e w' => e = .returned (.tuple #[.bool true, .int .i64 0]) ∧ Mt w' gf 5 4 ∧ Up gf w w' := by
  have hgf := h.t.lt
  have HT : ∀ V, Below w.heap.size w V → IsTerm V 0 V.heap.size aT A ca := fun V hV => (ht.kept hV (Nat.le_refl _)).wide (Nat.le_refl _) hV.size
  refine cSame_go (fun w' => Mt w' gf 5 4 ∧ Up gf w w') true 0 _ _ aT aS A B ca cb w (fun V1 b1 => ?_)
  refine cask_go _ true 0 _ _ aT aS A B ca cb sameF V1 (fun V b => ?_) (fun V b => ?_) (fun V2 gp b2 hk => ?_)
  · have hb := b1.trans (b.mono b1.size)
    have := cmay_zero aT (some ⟨gf, 0, none⟩) A ca g V (h.below hb).nil (HT V hb) (h.below hb).shp
    rwa [aRight] at this
  · have hb := b1.trans (b.mono b1.size)
    have := cmay_zero aS (some ⟨gf, 0, none⟩) B cb g V (h.below hb).nil (leafAt V _ 2 2 B hc) (h.below hb).shp
    rwa [leaf_rightC] at this
  have hb2 := b1.trans (b2.mono b1.size)
  refine call_yes _ _ _ gp aT aS A B ca cb sameF V2 hk (fun V3 b3 => ?_)
  have hb3 := hb2.trans (b3.mono hb2.size)
  have hz3 := hb3.size
  have e3 := h.below hb3
  refine (cparts_yes g gf 5 4 aT aS A B ca cb V3 (by omega) (fun V b => ?_) (fun V u => ?_) (fun k n G c V u hc' => ?_)).mono ?_
  · have e := e3.below b
    refine (wBring_ok aBeta aRight g A ca V (HT V (hb3.trans (b.mono hb3.size))) gf 5 5 e.t (by omega) w0 e.b e.l e.s e.m).mono ?_
    rintro e w' ⟨G, c, rfl, h1, h2, h3⟩
    exact ⟨G, c, rfl, h1.bounds.2, h2, h3⟩
  · have hb := e3.up u
    exact stay16 leaf_shapedC leaf_rightC rfl (by decide) B cb hc g gf V (h.m.below hb h.m.lt) (h.s.kept hb)
  · have hb := e3.up u
    exact rec16 g gf k n G c V hc' (h.m.below hb h.m.lt) (h.s.kept hb)
  · rintro e w' ⟨rfl, h1, h2⟩
    exact ⟨rfl, h1, (Up.of hb3).trans h2⟩

/-- A universe and a variable: not one, without a step. -/
theorem same16_no (A B : Option Addr) (ca cb g gf : Nat) (w0 w : World) (h : Env16 w0 w g gf 5) (hca : ca ≤ maxLen) (hc : cb ≤ maxLen) :
    Calls Tryz.prog 24 #[.pointer (some ⟨g, 0, none⟩), termV aS A ca, termV vT B cb, .pointer (some ⟨gf, 0, none⟩)] w fun e w' => e = .returned (.tuple #[.bool false, .int .i64 0]) ∧ Mt w' gf 5 5 ∧ Up gf w w' := by
  have hgf := h.t.lt
  refine cSame_go (fun w' => Mt w' gf 5 5 ∧ Up gf w w') false 0 _ _ aS vT A B ca cb w (fun V1 b1 => ?_)
  refine cask_go _ false 0 _ _ aS vT A B ca cb sameF V1 (fun V b => ?_) (fun V b => ?_) (fun V2 gp b2 hk => ?_)
  · have hb := b1.trans (b.mono b1.size)
    have := cmay_zero aS (some ⟨gf, 0, none⟩) A ca g V (h.below hb).nil (leafAt V _ 2 2 A hca) (h.below hb).shp
    rwa [leaf_rightC] at this
  · have hb := b1.trans (b.mono b1.size)
    have := cmay_zero vT (some ⟨gf, 0, none⟩) B cb g V (h.below hb).nil (leafAt V _ 1 0 B hc) (h.below hb).shp
    rwa [var_right] at this
  have hb2 := b1.trans (b2.mono b1.size)
  refine call_no _ _ _ gp aS vT A B ca cb sameF V2 hk (fun V3 b3 => ?_)
  have hb3 := hb2.trans (b3.mono hb2.size)
  have hz3 := hb3.size
  have e3 := h.below hb3
  refine (cparts_no g gf 5 5 aS vT A B ca cb V3 (by omega) (fun V b => ?_) (fun V u => ?_) (fun k n G c V u hc' => ?_)).mono ?_
  · have e := e3.below b
    refine (stay16 leaf_shapedC leaf_rightC rfl (by decide) A ca hca g gf V e.nil e.shp).mono ?_
    rintro e' w' ⟨G, c, rfl, h1, h2⟩
    exact ⟨G, c, rfl, h1, e.t.over h2, Up.of h2⟩
  · have hb := e3.up u
    exact stay16 var_shaped var_right rfl (by decide) B cb hc g gf V (h.m.below hb h.m.lt) (h.s.kept hb)
  · have hb := e3.up u
    exact rec16 g gf k n G c V hc' (h.m.below hb h.m.lt) (h.s.kept hb)
  · rintro e w' ⟨rfl, h1, h2⟩
    exact ⟨rfl, h1, (Up.of hb3).trans h2⟩

/-- Without a meter there is no step. -/
theorem same16_few (A B : Option Addr) (ca cb g : Nat) (w : World) (hM : NilM w g) (hS : ShapesM w) (ht : IsTerm w 0 w.heap.size bT A ca) (hc : cb ≤ maxLen) :
    Calls Tryz.prog 24 #[.pointer (some ⟨g, 0, none⟩), termV bT A ca, termV bS B cb, .pointer none] w fun e w' => e = .returned (.tuple #[.bool false, .int .i64 8]) ∧ Below w.heap.size w w' := by
  have HT : ∀ V, Below w.heap.size w V → IsTerm V 0 V.heap.size bT A ca := fun V hV => (ht.kept hV (Nat.le_refl _)).wide (Nat.le_refl _) hV.size
  refine cSame_go (fun w' => Below w.heap.size w w') false 8 _ _ bT bS A B ca cb w (fun V1 b1 => ?_)
  refine cask_go _ false 8 _ _ bT bS A B ca cb sameF V1 (fun V b => ?_) (fun V b => ?_) (fun V2 gp b2 hk => ?_)
  · have hb := b1.trans (b.mono b1.size)
    have := cmay_zero bT none A ca g V (hM.over hb) (HT V hb) (hS.kept hb)
    rwa [bRight] at this
  · have hb := b1.trans (b.mono b1.size)
    have := cmay_zero bS none B cb g V (hM.over hb) (leafAt V _ 2 0 B hc) (hS.kept hb)
    rwa [show trightB bS 1048577 0 = true from by kernel_rfl] at this
  have hb2 := b1.trans (b2.mono b1.size)
  refine call_few _ _ _ gp bT bS A B ca cb sameF V2 hk (fun V3 b3 => ?_)
  have hb3 := hb2.trans (b3.mono hb2.size)
  refine (cparts_few g none bT bS A B ca cb sameF V3 (fun V b => ?_)).mono ?_
  · have hb := hb3.trans (b.mono hb3.size)
    exact wBring_few bBeta bRight g A ca V (hM.over hb) (HT V hb) (hS.kept hb)
  · rintro e w' ⟨rfl, h2⟩
    exact ⟨rfl, hb3.trans (h2.mono hb3.size)⟩
/-- Without a machine: ErrShape. -/
theorem same16_none (a b : TM) (A B : Option Addr) (ca cb : Nat) (F : Option Addr) (w : World) :
    Calls Tryz.prog 24 #[.pointer none, termV a A ca, termV b B cb, .pointer F] w fun e w' => e = .returned (.tuple #[.bool false, .int .i64 5]) ∧ Below w.heap.size w w' :=
  cSame_go (fun w' => Below w.heap.size w w') false 5 none F a b A B ca cb w (fun V1 b1 => (cask_shape none F a b A B ca cb sameF V1 (fun V b => cmay_none F _ _ A _ ca V)).mono fun e w' h => ⟨h.1, b1.trans (h.2.mono b1.size)⟩)
theorem most16_none (a b : TM) (A B : Option Addr) (ca cb : Nat) (F : Option Addr) (w : World) :
    Calls Tryz.prog 25 #[.pointer none, termV a A ca, termV b B cb, .pointer F] w fun e w' => e = .returned (.tuple #[.bool false, .int .i64 5]) ∧ Below w.heap.size w w' :=
  cMost_go (fun w' => Below w.heap.size w w') false 5 none F a b A B ca cb w (fun V1 b1 => (cask_shape none F a b A B ca cb mostF V1 (fun V b => cmay_none F _ _ A _ ca V)).mono fun e w' h => ⟨h.1, b1.trans (h.2.mono b1.size)⟩)

set_option maxHeartbeats 1000000 in
theorem cOf_any (z : Bool) (lf : Int) (hlf : 0 ≤ lf ∧ lf ≤ 5) (a b : TM) (A B : Option Addr) (ca cb : Nat) (w : World) (hS : ShapesM w)
    (hs : ∀ w0 V g gf, Below w.heap.size w V → Below w.heap.size w w0 → Env16 w0 V g gf 5 → Calls Tryz.prog 24 #[.pointer (some ⟨g, 0, none⟩), termV a A ca, termV b B cb, .pointer (some ⟨gf, 0, none⟩)] V fun e w' => e = .returned (.tuple #[.bool z, .int .i64 0]) ∧ Mt w' gf 5 lf ∧ Up gf V w') :
    Calls Tryz.prog 13 #[.slice none 0 0, termV a A ca, termV b B cb, .int .i64 5] w fun e w' => e = .returned (.tuple #[.bool z, .int .i64 (5 - lf), .int .i64 0]) ∧ Below w.heap.size w w' := by
  have CS := Lib.hid hs
  have HSW := Lib.hid (fun (V : World) (hV : Below w.heap.size w V) => hS.kept hV)
  unfold termV at CS
  unfold termV
  obtain ⟨X, hX⟩ : ∃ X, (w.alloc (.cells #[.int .i64 a.k, .int .i64 a.n, .slice A a.l.length ca] 25)).alloc (.cells #[.int .i64 b.k, .int .i64 b.n, .slice B b.l.length cb] 25) = X := ⟨_, rfl⟩
  have HBX := Lib.hid (show Below w.heap.size w X from by rw [← hX]; exact ((Below.refl _ _).alloc (Nat.le_refl _) _).alloc (by simp) _)
  have HKa := Lib.hid (show Bk X w.heap.size 25 #[.int .i64 a.k, .int .i64 a.n, .slice A a.l.length ca] from by rw [← hX]; exact (Bk.new _ _ _).alloc _)
  have HKb := Lib.hid (show Bk X (w.heap.size + 1) 25 #[.int .i64 b.k, .int .i64 b.n, .slice B b.l.length cb] from by rw [← hX]; exact Bk.last _ _ _ (by simp))
  have CN := Lib.hid (wNew_nil X (hS.kept HBX.out))
  clear hS hs
  go_enter Tryz.func13, Tryz.ntmps13
  go_wp2_with fail
  refine CN.out.mono ?_
  rintro e w1 ⟨g, rfl, hN1, hg1, hb1⟩
  have HN1 := Lib.hid hN1
  have HB1 := Lib.hid (HBX.out.trans (hb1.mono HBX.out.size))
  have HX1 := Lib.hid hb1
  clear hN1 hb1 hX CN
  go_wp2_with fail
  refine (new_ok 5 (by omega) (by omega) w1).mono ?_
  rintro e w2 ⟨rfl, hm2, hb2⟩
  have HM2 := Lib.hid hm2
  have HB12 := Lib.hid hb2
  have HB2 := Lib.hid (HB1.out.trans (hb2.mono HB1.out.size))
  have HX2 := Lib.hid (HX1.out.trans (hb2.mono HX1.out.size))
  have Ka := Lib.hid (HKa.out.below HX2.out HKa.out.lt)
  have Kb := Lib.hid (HKb.out.below HX2.out HKb.out.lt)
  have a0 : w2.cell? ⟨w.heap.size, 0, none⟩ = some (.int .i64 a.k) := Ka.out.cell 0
  have a1 : w2.cell? ⟨w.heap.size, 1, none⟩ = some (.int .i64 a.n) := Ka.out.cell 1
  have a2 : w2.cell? ⟨w.heap.size, 2, none⟩ = some (.slice A a.l.length ca) := Ka.out.cell 2
  have b0 : w2.cell? ⟨w.heap.size + 1, 0, none⟩ = some (.int .i64 b.k) := Kb.out.cell 0
  have b1 : w2.cell? ⟨w.heap.size + 1, 1, none⟩ = some (.int .i64 b.n) := Kb.out.cell 1
  have b2 : w2.cell? ⟨w.heap.size + 1, 2, none⟩ = some (.slice B b.l.length cb) := Kb.out.cell 2
  clear hm2 hb2
  go_wp2_with fail
  refine (CS.out w1 w2 g w1.heap.size HB2.out HB1.out ⟨HB12.out, Nat.le_refl _, HSW.out _ HB1.out, HN1.out, HM2.out⟩).mono ?_
  rintro e w3 ⟨rfl, hm3, hu3⟩
  have HM3 := Lib.hid hm3
  have HB13 := Lib.hid (HB12.out.trans (hu3.below (Nat.le_refl _) HB12.out.size))
  have HLF := Lib.hid hlf
  clear hm3 hu3 a0 a1 a2 b0 b1 b2 hlf
  go_wp2_with fail
  refine (used_any HM3.out (by have := HLF.out; omega)).mono ?_
  rintro e w4 ⟨rfl, hb4⟩
  have HB4 := Lib.hid (HB13.out.trans (hb4.mono HB13.out.size))
  clear hb4
  go_wp2_with fail
  refine bodyPost_ret (v := .tuple #[.bool z, .int .i64 (5 - lf), .int .i64 0]) (by simp [results, Tryz.results13, go_sem]) rfl ?_
  exact ⟨rfl, HB1.out.trans (HB4.out.mono HB1.out.size)⟩

theorem of16_yes (A B : Option Addr) (ca cb : Nat) (w : World) (hS : ShapesM w) (ht : IsTerm w 0 w.heap.size aT A ca) (hc : cb ≤ maxLen) :
    Calls Tryz.prog 13 #[.slice none 0 0, termV aT A ca, termV aS B cb, .int .i64 5] w fun e w' => e = .returned (.tuple #[.bool true, .int .i64 1, .int .i64 0]) ∧ Below w.heap.size w w' :=
  cOf_any true 4 (by omega) aT aS A B ca cb w hS fun w0 V g gf hV _ he => same16_yes A B ca cb g gf w0 V he ((ht.kept hV (Nat.le_refl _)).wide (Nat.le_refl _) hV.size) hc
theorem of16_no (A B : Option Addr) (ca cb : Nat) (w : World) (hS : ShapesM w) (ha : ca ≤ maxLen) (hc : cb ≤ maxLen) :
    Calls Tryz.prog 13 #[.slice none 0 0, termV aS A ca, termV vT B cb, .int .i64 5] w fun e w' => e = .returned (.tuple #[.bool false, .int .i64 0, .int .i64 0]) ∧ Below w.heap.size w w' :=
  cOf_any false 5 (by omega) aS vT A B ca cb w hS fun w0 V g gf hV _ he => same16_no A B ca cb g gf w0 V he ha hc


set_option maxHeartbeats 4000000 in
theorem awake16_any (w : World) (hS : ShapesM w) : Calls Tryz.prog 10 #[] w fun e w' => e = .returned (.bool true) ∧ Below w.heap.size w w' := by
  obtain ⟨X, hX⟩ : ∃ X, (w.alloc (.cells #[.int .i64 2, .int .i64 2, .slice none 0 0] 25)).alloc (.cells #[.int .i64 1, .int .i64 0, .slice none 0 0] 25) = X := ⟨_, rfl⟩
  have HBX := Lib.hid (show Below w.heap.size w X from by rw [← hX]; exact ((Below.refl _ _).alloc (Nat.le_refl _) _).alloc (by simp) _)
  have HKs := Lib.hid (show Bk X w.heap.size 25 #[.int .i64 2, .int .i64 2, .slice none 0 0] from by rw [← hX]; exact (Bk.new _ _ _).alloc _)
  have HKv := Lib.hid (show Bk X (w.heap.size + 1) 25 #[.int .i64 1, .int .i64 0, .slice none 0 0] from by rw [← hX]; exact Bk.last _ _ _ (by simp))
  have HKK := Lib.hid (fun (V : World) (hV : Below X.heap.size X V) => (show V.cell? ⟨w.heap.size, 0, none⟩ = some (.int .i64 2) ∧ V.cell? ⟨w.heap.size, 1, none⟩ = some (.int .i64 2) ∧ V.cell? ⟨w.heap.size, 2, none⟩ = some (.slice none 0 0) ∧ V.cell? ⟨w.heap.size + 1, 0, none⟩ = some (.int .i64 1) ∧ V.cell? ⟨w.heap.size + 1, 1, none⟩ = some (.int .i64 0) ∧ V.cell? ⟨w.heap.size + 1, 2, none⟩ = some (.slice none 0 0) from by
    have k := HKs.out.below hV HKs.out.lt
    have k2 := HKv.out.below hV HKv.out.lt
    exact ⟨k.cell 0, k.cell 1, k.cell 2, k2.cell 0, k2.cell 1, k2.cell 2⟩))
  have C1 := Lib.hid (fun (V : World) => (show Calls Tryz.prog 17 #[.int .i64 4, .agg #[.int .i64 2, .int .i64 2, .slice none 0 0], .agg #[.int .i64 1, .int .i64 0, .slice none 0 0]] V (fun e w' => ∃ g, e = .returned (.agg #[.int .i64 4, .int .i64 0, .slice (some ⟨g, 0, none⟩) 2 2]) ∧ IsTerm w' 0 w'.heap.size (.node 4 0 [aS, .node 1 0 []]) (some ⟨g, 0, none⟩) 2 ∧ Below V.heap.size V w') from ttwo_any 4 aS (.node 1 0 []) none none 0 0 V (leaf_in _ _ 2 2) (leaf_in _ _ 1 0)))
  have C2 := Lib.hid (fun (g : Nat) (V : World) (hg : IsTerm V 0 V.heap.size (.node 4 0 [aS, .node 1 0 []]) (some ⟨g, 0, none⟩) 2) => (show Calls Tryz.prog 17 #[.int .i64 5, .agg #[.int .i64 4, .int .i64 0, .slice (some ⟨g, 0, none⟩) 2 2], .agg #[.int .i64 2, .int .i64 2, .slice none 0 0]] V (fun e w' => ∃ g, e = .returned (.agg #[.int .i64 5, .int .i64 0, .slice (some ⟨g, 0, none⟩) 2 2]) ∧ IsTerm w' 0 w'.heap.size aT (some ⟨g, 0, none⟩) 2 ∧ Below V.heap.size V w') from ttwo_any 5 (.node 4 0 [aS, .node 1 0 []]) aS (some ⟨g, 0, none⟩) none 2 0 V hg (leaf_in _ _ 2 2)))
  have C3 := Lib.hid (fun (g : Nat) (V : World) (hV : Below w.heap.size w V) (hg : IsTerm V 0 V.heap.size aT (some ⟨g, 0, none⟩) 2) => (show Calls Tryz.prog 13 #[.slice none 0 0, .agg #[.int .i64 5, .int .i64 0, .slice (some ⟨g, 0, none⟩) 2 2], .agg #[.int .i64 2, .int .i64 2, .slice none 0 0], .int .i64 5] V (fun e w' => e = .returned (.tuple #[.bool true, .int .i64 1, .int .i64 0]) ∧ Below V.heap.size V w') from of16_yes (some ⟨g, 0, none⟩) none 2 0 V (hS.kept hV) hg (Nat.zero_le _)))
  have C4 := Lib.hid (fun (V : World) (hV : Below w.heap.size w V) => (show Calls Tryz.prog 13 #[.slice none 0 0, .agg #[.int .i64 2, .int .i64 2, .slice none 0 0], .agg #[.int .i64 1, .int .i64 0, .slice none 0 0], .int .i64 5] V (fun e w' => e = .returned (.tuple #[.bool false, .int .i64 0, .int .i64 0]) ∧ Below V.heap.size V w') from of16_no none none 0 0 V (hS.kept hV) (Nat.zero_le _) (Nat.zero_le _)))
  have hbk0 := Lib.hid (show Below X.heap.size X X.drew from (Below.refl _ _).drew)
  have HXE := Lib.hid hX
  have hlx := HKv.out.lt
  clear hS hX
  go_enter Tryz.func10, Tryz.ntmps10
  go_wp2_with fail
  rw [HXE.out]
  obtain ⟨s0, s1, s2, v0, v1, v2⟩ := HKK.out X (Below.refl _ _)
  go_cut [3, 4, 5] from 12 to 21 (fun s3 s4 s5 wx => s3 = .bool true ∧ s4 = .int .i64 1 ∧ s5 = .int .i64 0 ∧ Below X.heap.size X wx)
  case first =>
    go_region_held3 (fun w' => w'.cell? ⟨w.heap.size, 0, none⟩ = some (.int .i64 2) ∧ w'.cell? ⟨w.heap.size, 1, none⟩ = some (.int .i64 2) ∧ w'.cell? ⟨w.heap.size, 2, none⟩ = some (.slice none 0 0) ∧ w'.cell? ⟨w.heap.size + 1, 0, none⟩ = some (.int .i64 1) ∧ w'.cell? ⟨w.heap.size + 1, 1, none⟩ = some (.int .i64 0) ∧ w'.cell? ⟨w.heap.size + 1, 2, none⟩ = some (.slice none 0 0))
      ((refine (HKK.out _ ?_); repeat (first | with_reducible exact hbQ.out | with_reducible exact hbP.out | with_reducible exact hbC.out | with_reducible exact hbk0.out | with_reducible exact Below.refl _ _ | with_reducible refine Below.al ?_ _ | with_reducible refine Below.dr ?_ | with_reducible refine Below.st ?_ (by first | omega | (simp <;> omega)) _)))
      (first
      | (go_at_call 13
         refine (C3.out g2 _ (HBX.out.trans (Below.mono hbP.out HBX.out.size)) HT2.out).mono ?_
         rintro e w6 ⟨rfl, hbn⟩
         have hbQ := Lib.hid (hbP.out.trans (hbn.mono hbP.out.size))
         clear hbn)
      | (go_at_call 17
         refine (C2.out g1 _ HT1.out).mono ?_
         rintro e w4 ⟨g2, rfl, ht2, hbn⟩
         have hbP := Lib.hid (hbC.out.trans (hbn.mono hbC.out.size))
         have HT2 := Lib.hid ht2
         clear hbn ht2)
      | (go_at_call 17
         refine (C1.out _).mono ?_
         rintro e w3 ⟨g1, rfl, ht1, hbn⟩
         have hbC := Lib.hid (hbk0.out.trans (hbn.mono hbk0.out.size))
         have HT1 := Lib.hid ht1
         clear hbn ht1))
    all_goals
      go_wp2_with fail
      go_meet
      case rel => exact ⟨rfl, rfl, rfl, hbQ.out⟩
  case rest =>
    obtain ⟨wg, rfl⟩ : ∃ wg : World, wg = wc := ⟨_, rfl⟩
    obtain ⟨rfl, rfl, rfl, hbg⟩ := hcut
    have HBG := Lib.hid hbg
    clear hbg s0 s1 s2 v0 v1 v2
    obtain ⟨s0, s1, s2, v0, v1, v2⟩ := HKK.out wg HBG.out
    go_wp2_with fail
    refine (C4.out _ (HBX.out.trans (HBG.out.mono HBX.out.size))).mono ?_
    rintro e w6 ⟨rfl, hb6⟩
    have hbE := Lib.hid (HBG.out.trans (hb6.mono HBG.out.size))
    clear hb6
    go_wp2_with fail
    go_ret
    exact ⟨rfl, HBX.out.trans (hbE.out.mono HBX.out.size)⟩



set_option maxHeartbeats 4000000 in
theorem cnil_walk (x y : TM) (A B : Option Addr) (ca cb : Nat) (w : World) (hS : ShapesM w) : Calls Tryz.prog 6 #[.agg #[.int .i64 x.k, .int .i64 x.n, .slice A x.l.length ca, .int .i64 y.k, .int .i64 y.n, .slice B y.l.length cb]] w fun e w' => e = .returned (.bool true) ∧ Below w.heap.size w w' := by
  have HSS := Lib.hid (fun (V : World) (hV : Below w.heap.size w V) => hS.kept hV)
  have CM := Lib.hid (fun (F : Option Addr) (V : World) => same16_none x y A B ca cb F V)
  have CT := Lib.hid (fun (F : Option Addr) (V : World) => most16_none x y A B ca cb F V)
  have CW := Lib.hid (fun (V : World) (hV : Below w.heap.size w V) => awake16_any V (HSS.out V hV))
  have CN := Lib.hid (fun (V : World) (hV : Below w.heap.size w V) => wNew_nil V (HSS.out V hV))
  have C1 := Lib.hid (fun (V : World) => (show Calls Tryz.prog 17 #[.int .i64 4, .agg #[.int .i64 2, .int .i64 0, .slice none 0 0], .agg #[.int .i64 2, .int .i64 0, .slice none 0 0]] V (fun e w' => ∃ g, e = .returned (.agg #[.int .i64 4, .int .i64 0, .slice (some ⟨g, 0, none⟩) 2 2]) ∧ IsTerm w' 0 w'.heap.size (.node 4 0 [bS, bS]) (some ⟨g, 0, none⟩) 2 ∧ Below V.heap.size V w') from ttwo_any 4 bS bS none none 0 0 V (leaf_in _ _ 2 0) (leaf_in _ _ 2 0)))
  have C2 := Lib.hid (fun (g : Nat) (V : World) (hg : IsTerm V 0 V.heap.size (.node 4 0 [bS, bS]) (some ⟨g, 0, none⟩) 2) => (show Calls Tryz.prog 17 #[.int .i64 5, .agg #[.int .i64 4, .int .i64 0, .slice (some ⟨g, 0, none⟩) 2 2], .agg #[.int .i64 2, .int .i64 0, .slice none 0 0]] V (fun e w' => ∃ g, e = .returned (.agg #[.int .i64 5, .int .i64 0, .slice (some ⟨g, 0, none⟩) 2 2]) ∧ IsTerm w' 0 w'.heap.size bT (some ⟨g, 0, none⟩) 2 ∧ Below V.heap.size V w') from ttwo_any 5 (.node 4 0 [bS, bS]) bS (some ⟨g, 0, none⟩) none 2 0 V hg (leaf_in _ _ 2 0)))
  have C3 := Lib.hid (fun (gm g : Nat) (V : World) (hV : Below w.heap.size w V) (hN : NilM V gm) (hg : IsTerm V 0 V.heap.size bT (some ⟨g, 0, none⟩) 2) => (show Calls Tryz.prog 24 #[.pointer (some ⟨gm, 0, none⟩), .agg #[.int .i64 5, .int .i64 0, .slice (some ⟨g, 0, none⟩) 2 2], .agg #[.int .i64 2, .int .i64 0, .slice none 0 0], .pointer none] V (fun e w' => e = .returned (.tuple #[.bool false, .int .i64 8]) ∧ Below V.heap.size V w') from same16_few (some ⟨g, 0, none⟩) none 2 0 gm V hN (HSS.out V hV) hg (Nat.zero_le _)))
  unfold termV at CM CT
  obtain ⟨X, hX⟩ : ∃ X, w.alloc (.cells #[.int .i64 x.k, .int .i64 x.n, .slice A x.l.length ca, .int .i64 y.k, .int .i64 y.n, .slice B y.l.length cb] 34) = X := ⟨_, rfl⟩
  have HBX := Lib.hid (show Below w.heap.size w X from by rw [← hX]; exact (Below.refl _ _).alloc (Nat.le_refl _) _)
  have HKt := Lib.hid (show Bk X w.heap.size 34 #[.int .i64 x.k, .int .i64 x.n, .slice A x.l.length ca, .int .i64 y.k, .int .i64 y.n, .slice B y.l.length cb] from by rw [← hX]; exact Bk.new _ _ _)
  have HKX := Lib.hid (fun (V : World) (hV : Below X.heap.size X V) => (show V.cell? ⟨w.heap.size, 0, none⟩ = some (.int .i64 x.k) ∧ V.cell? ⟨w.heap.size, 1, none⟩ = some (.int .i64 x.n) ∧ V.cell? ⟨w.heap.size, 2, none⟩ = some (.slice A x.l.length ca) ∧ V.cell? ⟨w.heap.size, 3, none⟩ = some (.int .i64 y.k) ∧ V.cell? ⟨w.heap.size, 4, none⟩ = some (.int .i64 y.n) ∧ V.cell? ⟨w.heap.size, 5, none⟩ = some (.slice B y.l.length cb) from by
    have k := HKt.out.below hV HKt.out.lt
    exact ⟨k.cell 0, k.cell 1, k.cell 2, k.cell 3, k.cell 4, k.cell 5⟩))
  have HW := Lib.hid (fun (V : World) (hV : Below X.heap.size X V) => (show Below w.heap.size w V from HBX.out.trans (hV.mono HBX.out.size)))
  clear hS
  go_enter Tryz.func6, Tryz.ntmps6
  go_wp2_with fail
  refine (new_ok 5 (by omega) (by omega) X).mono ?_
  rintro e w1 ⟨rfl, -, hb1⟩
  have HB1 := Lib.hid hb1
  clear hb1 hX
  obtain ⟨x0, x1, x2, x3, x4, x5⟩ := HKX.out _ HB1.out
  go_wp2_with fail
  refine (CM.out _ _).mono ?_
  rintro e w2 ⟨rfl, hb2⟩
  have HB2 := Lib.hid (HB1.out.trans (hb2.mono HB1.out.size))
  clear hb2 x0 x1 x2 x3 x4 x5
  obtain ⟨x0, x1, x2, x3, x4, x5⟩ := HKX.out _ HB2.out
  go_wp2_with fail
  refine (CT.out _ _).mono ?_
  rintro e w3 ⟨rfl, hb3⟩
  have HB3 := Lib.hid (HB2.out.trans (hb3.mono HB2.out.size))
  clear hb3 x0 x1 x2 x3 x4 x5
  go_wp2_with fail
  refine (CN.out _ (HW.out _ HB3.out)).mono ?_
  rintro e w4 ⟨gm, rfl, hn4, -, hb4⟩
  have HB4 := Lib.hid (HB3.out.trans (hb4.mono HB3.out.size))
  have HN4 := Lib.hid hn4
  clear hb4 hn4
  go_wp2_with fail
  obtain ⟨Y, hY⟩ : ∃ Y, w4.alloc (.cells #[.int .i64 2, .int .i64 0, .slice none 0 0] 25) = Y := ⟨_, rfl⟩
  have HBY := Lib.hid (show Below w4.heap.size w4 Y from by rw [← hY]; exact (Below.refl _ _).alloc (Nat.le_refl _) _)
  have HKs := Lib.hid (show Bk Y w4.heap.size 25 #[.int .i64 2, .int .i64 0, .slice none 0 0] from by rw [← hY]; exact Bk.new _ _ _)
  have HKK := Lib.hid (fun (V : World) (hV : Below Y.heap.size Y V) => (show V.cell? ⟨w4.heap.size, 0, none⟩ = some (.int .i64 2) ∧ V.cell? ⟨w4.heap.size, 1, none⟩ = some (.int .i64 0) ∧ V.cell? ⟨w4.heap.size, 2, none⟩ = some (.slice none 0 0) from by
    have k := HKs.out.below hV HKs.out.lt
    exact ⟨k.cell 0, k.cell 1, k.cell 2⟩))
  have HWY := Lib.hid (fun (V : World) (hV : Below Y.heap.size Y V) => (show Below w.heap.size w V from HW.out V (HB4.out.trans ((HBY.out.trans (hV.mono HBY.out.size)).mono HB4.out.size))))
  have HNY := Lib.hid (fun (V : World) (hV : Below Y.heap.size Y V) => (show NilM V gm from HN4.out.over (HBY.out.trans (hV.mono HBY.out.size))))
  have hbk0 := Lib.hid (show Below Y.heap.size Y Y.drew from (Below.refl _ _).drew)
  have HYE := Lib.hid hY
  have hls := HKs.out.lt
  clear hY
  rw [HYE.out]
  obtain ⟨s0, s1, s2⟩ := HKK.out Y (Below.refl _ _)
  go_cut [12, 13] from 42 to 51 (fun s12 s13 wx => s12 = .bool false ∧ s13 = .int .i64 8 ∧ Below Y.heap.size Y wx)
  case first =>
    go_region_held3 (fun w' => w'.cell? ⟨w4.heap.size, 0, none⟩ = some (.int .i64 2) ∧ w'.cell? ⟨w4.heap.size, 1, none⟩ = some (.int .i64 0) ∧ w'.cell? ⟨w4.heap.size, 2, none⟩ = some (.slice none 0 0))
      ((refine (HKK.out _ ?_); repeat (first | with_reducible exact hbQ.out | with_reducible exact hbP.out | with_reducible exact hbC.out | with_reducible exact hbk0.out | with_reducible exact Below.refl _ _ | with_reducible refine Below.al ?_ _ | with_reducible refine Below.dr ?_ | with_reducible refine Below.st ?_ (by first | omega | (simp <;> omega)) _)))
      (first
      | (go_at_call 24
         refine (C3.out gm g2 _ (HWY.out _ hbP.out) (HNY.out _ hbP.out) HT2.out).mono ?_
         rintro e w6 ⟨rfl, hbn⟩
         have hbQ := Lib.hid (hbP.out.trans (hbn.mono hbP.out.size))
         clear hbn)
      | (go_at_call 17
         refine (C2.out g1 _ HT1.out).mono ?_
         rintro e w5 ⟨g2, rfl, ht2, hbn⟩
         have hbP := Lib.hid (hbC.out.trans (hbn.mono hbC.out.size))
         have HT2 := Lib.hid ht2
         clear hbn ht2)
      | (go_at_call 17
         refine (C1.out _).mono ?_
         rintro e w3 ⟨g1, rfl, ht1, hbn⟩
         have hbC := Lib.hid (hbk0.out.trans (hbn.mono hbk0.out.size))
         have HT1 := Lib.hid ht1
         clear hbn ht1))
    all_goals
      go_wp2_with fail
      go_meet
      case rel => exact ⟨rfl, rfl, hbQ.out⟩
  case rest =>
    obtain ⟨wg, rfl⟩ : ∃ wg : World, wg = wc := ⟨_, rfl⟩
    obtain ⟨rfl, rfl, hbg⟩ := hcut
    have HBG := Lib.hid hbg
    clear hbg s0 s1 s2
    go_wp2_with fail
    refine (CW.out _ (HWY.out _ HBG.out)).mono ?_
    rintro e w6 ⟨rfl, hb6⟩
    have hbE := Lib.hid (HBG.out.trans (hb6.mono HBG.out.size))
    clear hb6
    go_wp2_with fail
    go_ret
    exact ⟨rfl, HWY.out _ hbE.out⟩


end Go.Proofs.YtchllgkgjompgaaGreatDoor
