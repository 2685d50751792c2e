/- The walk of the law TermSpines. -/
import Derived.Test.YtodmnollgejgeaaDoorSSpine
import Derived.Test.YtodmnollgejgeaaDoorSArgs
import Derived.Test.YtodmnollgejgeaaDoorSApply
import Derived.Test.YtodmnollgejgeaaDoorTRGood
import Derived.Test.YtodmnollgejgeaaDoorTREqual
import Derived.Test.YtodmnollgejgeaaDoorTAwake
import Derived.Test.YtodmnollgejgeaaDoorLSameAll
namespace Go.Proofs.YtodmnollgejgeaaDoor
open Go.RowKit
set_option linter.unusedVariables false
set_option maxRecDepth 100000

theorem IsTerm.grow {w w' : World} {t : TM} {A : Option Addr} {c : Nat} (h : IsTerm w 0 w.heap.size t A c) (hb : Below w.heap.size w w') : IsTerm w' 0 w'.heap.size t A c :=
  IsTerm.imp (fun _ _ _ _ => rfl) (Nat.le_refl _) hb.size (h.kept hb (Nat.le_refl _))
def OutT (u : TM) (w : World) (e : Ending) (w' : World) : Prop := ∃ a c, e = .returned (.agg #[.int .i64 u.k, .int .i64 u.n, .slice a u.l.length c]) ∧ IsTerm w' 0 w'.heap.size u a c ∧ Below w.heap.size w w'
def OutL (l : List TM) (w : World) (e : Ending) (w' : World) : Prop := ∃ a c, e = .returned (.slice a l.length c) ∧ IsTerms w' 0 w'.heap.size l a c ∧ Below w.heap.size w w'
def OutS (u : TM) (l : List TM) (w : World) (e : Ending) (w' : World) : Prop :=
  ∃ A c B d, e = .returned (.tuple #[.agg #[.int .i64 u.k, .int .i64 u.n, .slice A u.l.length c], .slice B l.length d]) ∧ IsTerm w' 0 w'.heap.size u A c ∧ IsTerms w' 0 w'.heap.size l B d ∧ Below w.heap.size w w'
theorem ArgsIs.out {t : TM} {lo hi : Nat} {w : World} {e : Ending} {w' : World} (h : ArgsIs t lo hi w e w') (hhi : hi ≤ w.heap.size) : OutL (argsT t) w e w' := by
  obtain ⟨a, c, ps, rfl, h1, h2, h3⟩ := h
  have hz := h3.size
  have hp := h1.parent (lo := 0) (Nat.zero_le _) (fun _ _ => Nat.zero_le _) 0 0
  rw [h2] at hp
  exact ⟨a, c, by rw [← h2, List.length_map], hp, h3⟩

set_option maxHeartbeats 16000000 in
theorem tspines_walk (t : TM) (A : Option Addr) (cap : Nat) (ts : List TM) (B : Option Addr) (cap2 : Nat) (w : World) (h : IsTerm w 0 w.heap.size t A cap) (h2 : IsTerms w 0 w.heap.size ts B cap2) (hS : ShapesM w) :
    Calls Tryd.prog 4 #[termV t A cap, .slice B ts.length cap2] w fun e w' => e = .returned (.bool true) ∧ Below w.heap.size w w' := by
  have HT := Lib.hid (fun (V : World) (hV : Below w.heap.size w V) => h.grow hV)
  have HL := Lib.hid (fun (V : World) (hV : Below w.heap.size w V) => IsTerm.grow h2 hV)
  obtain ⟨hl, hm⟩ := h2.bounds
  unfold maxLen at hm
  have HN := Lib.hid h2.sub
  have e1 := fun V (hV : Below w.heap.size w V) => refShaped_any t 0 V.heap.size A cap V (HT.out V hV) (Nat.le_refl _)
  have AW := Lib.hid (fun V (hV : Below w.heap.size w V) => awakeM_any V (hS.kept hV))
  have HW1 := Lib.hid (fun o1 => ((Below.refl w.heap.size w).alloc (Nat.le_refl _) o1))
  have HS := Lib.hid hS
  clear h h2 hS
  cases hx : shapedB t with
  | false =>
    rw [hx] at e1
    have E1 := Lib.hid e1
    clear e1 hx
    unfold termV at E1 ⊢
    go_enter Tryd.func4, Tryd.ntmps4
    go_wp2_with fail
    refine (E1.out _ (HW1.out _)).mono ?_
    rintro e w1 ⟨rfl, hb1⟩
    have hz1 := hb1.size
    simp at hz1
    have HB1 := Lib.hid ((HW1.out _).trans (hb1.mono (by simp)))
    have Xx1 := Lib.hid (show Bk w1 w.heap.size 24 #[.int .i64 t.k, .int .i64 t.n, .slice A t.l.length cap] from (Bk.new w 24 #[.int .i64 t.k, .int .i64 t.n, .slice A t.l.length cap]).below hb1 (by simp))
    clear hb1
    go_wp2_with fail
    refine (AW.out _ HB1.out).mono ?_
    rintro e wq ⟨rfl, hbq⟩
    go_wp2_with fail
    go_ret
    exact ⟨rfl, HB1.out.trans (hbq.mono HB1.out.size)⟩
  | true =>
    rw [hx] at e1
    obtain ⟨g1, g2, g3⟩ := shapedB_true.1 hx
    have hback := spine_back t g3
    have hlen := args_depth t g3
    have c1 := fun V (hV : Below w.heap.size w V) => spine_any t 0 V.heap.size A cap V (HT.out V hV) (Nat.le_refl _) (HS.out.kept hV) g3 g1 (by omega)
    have c2 := fun V (hV : Below w.heap.size w V) => tapply_any t ts A B cap cap2 V (HT.out V hV) (HL.out V hV)
    have c3 := fun V (hV : Below w.heap.size w V) => rapply_any t ts A B cap cap2 V (HT.out V hV) (HL.out V hV)
    have c4 := fun V (hV : Below w.heap.size w V) => head_any t 0 V.heap.size A cap V (HT.out V hV) (Nat.le_refl _) g3
    have c5 := fun V (hV : Below w.heap.size w V) => (args_any t 0 V.heap.size A cap V (HT.out V hV) (Nat.le_refl _) g3 (by omega)).mono fun e w' h => h.out (Nat.le_refl _)
    obtain ⟨H, hH⟩ : ∃ H, headT t = H := ⟨_, rfl⟩
    obtain ⟨R, hR⟩ : ∃ R, argsT t = R := ⟨_, rfl⟩
    obtain ⟨U, hU⟩ : ∃ U, applyT t ts = U := ⟨_, rfl⟩
    rw [hH, hR] at hback
    rw [hR] at hlen c5
    rw [hH] at c4
    rw [hU] at c2 c3
    have E1 := Lib.hid e1
    have C1 : Hid (∀ V, Below w.heap.size w V → Calls Tryd.prog 21 #[.agg #[.int .i64 t.k, .int .i64 t.n, .slice A t.l.length cap]] V (OutS H R V)) := Lib.hid (fun V hV => (c1 V hV).mono fun e w' h => by
      obtain ⟨a, c, b, d, q1, q2, q3, q4⟩ := h
      rw [hH, hR] at q1
      rw [hH] at q2
      rw [hR] at q3
      exact ⟨a, c, b, d, q1, q2, q3, q4⟩)
    have C2 : Hid (∀ V, Below w.heap.size w V → Calls Tryd.prog 22 #[.agg #[.int .i64 t.k, .int .i64 t.n, .slice A t.l.length cap], .slice B ts.length cap2] V (OutT U V)) := Lib.hid c2
    have C3 : Hid (∀ V, Below w.heap.size w V → Calls Tryd.prog 27 #[.agg #[.int .i64 t.k, .int .i64 t.n, .slice A t.l.length cap], .slice B ts.length cap2] V (OutT U V)) := Lib.hid c3
    have C4 : Hid (∀ V, Below w.heap.size w V → Calls Tryd.prog 24 #[.agg #[.int .i64 t.k, .int .i64 t.n, .slice A t.l.length cap]] V (OutT H V)) := Lib.hid (fun V hV => (c4 V hV).mono fun e w' h => by
      obtain ⟨a, c, q1, q2, q3⟩ := h
      exact ⟨a, c, q1, IsTerm.imp (fun _ _ _ _ => rfl) (Nat.le_refl _) q3.size q2, q3⟩)
    have C5 : Hid (∀ V, Below w.heap.size w V → Calls Tryd.prog 26 #[.agg #[.int .i64 t.k, .int .i64 t.n, .slice A t.l.length cap]] V (OutL R V)) := Lib.hid c5
    have C6 : Hid (∀ V a c b d, IsTerm V 0 V.heap.size H a c → IsTerms V 0 V.heap.size R b d → Calls Tryd.prog 22 #[.agg #[.int .i64 H.k, .int .i64 H.n, .slice a H.l.length c], .slice b R.length d] V (OutT t V)) := Lib.hid (fun V a c b d q1 q2 => by
      have hc := tapply_any H R a b c d V q1 q2
      rw [hback] at hc
      exact hc)
    have CE : Hid (∀ (u : TM) V a c b d, IsTerm V 0 V.heap.size u a c → IsTerm V 0 V.heap.size u b d → Calls Tryd.prog 23 #[.agg #[.int .i64 u.k, .int .i64 u.n, .slice a u.l.length c], .agg #[.int .i64 u.k, .int .i64 u.n, .slice b u.l.length d]] V fun e w' => e = .returned (.bool true) ∧ Below V.heap.size V w') := Lib.hid (fun u V a c b d q1 q2 =>
      (refEqual_any u u 0 V.heap.size 0 V.heap.size a b c d V q1 q2 (Nat.le_refl _) (Nat.le_refl _)).mono fun e w' h => And.intro (h.1.trans (by rw [alikeT_refl])) h.2)
    have CS : Hid (∀ V a c b d, IsTerms V 0 V.heap.size R a c → IsTerms V 0 V.heap.size R b d → Calls Tryd.prog 25 #[.slice a R.length c, .slice b R.length d] V fun e w' => e = .returned (.bool true) ∧ Below V.heap.size V w') := Lib.hid (fun V a c b d q1 q2 =>
      sameAll_refl R 0 V.heap.size 0 V.heap.size a b c d V q1 q2 (Nat.le_refl _) (Nat.le_refl _))
    clear e1 c1 c2 c3 c4 c5 hx hback hH hR hU g1 g2 g3 hlen
    unfold termV at E1 ⊢
    by_cases hlen : 20 < ts.length
    · have d1 : decide ((20 : Int) < (ts.length : Int)) = true := by simp; omega
      go_enter Tryd.func4, Tryd.ntmps4
      go_wp2_with fail
      refine (E1.out _ (HW1.out _)).mono ?_
      rintro e w1 ⟨rfl, hb1⟩
      have hz1 := hb1.size
      simp at hz1
      have HB1 := Lib.hid ((HW1.out _).trans (hb1.mono (by simp)))
      have Xx1 := Lib.hid (show Bk w1 w.heap.size 24 #[.int .i64 t.k, .int .i64 t.n, .slice A t.l.length cap] from (Bk.new w 24 #[.int .i64 t.k, .int .i64 t.n, .slice A t.l.length cap]).below hb1 (by simp))
      clear hb1
      go_wp2_with fail
      refine (AW.out _ HB1.out).mono ?_
      rintro e wq ⟨rfl, hbq⟩
      go_wp2_with fail
      go_ret
      exact ⟨rfl, HB1.out.trans (hbq.mono HB1.out.size)⟩
    · have d1 : decide ((20 : Int) < (ts.length : Int)) = false := by simp; omega
      go_enter Tryd.func4, Tryd.ntmps4
      go_wp2_with fail
      refine (E1.out _ (HW1.out _)).mono ?_
      rintro e w1 ⟨rfl, hb1⟩
      have hz1 := hb1.size
      simp at hz1
      have HB1 := Lib.hid ((HW1.out _).trans (hb1.mono (by simp)))
      have Xx1 := Lib.hid (show Bk w1 w.heap.size 24 #[.int .i64 t.k, .int .i64 t.n, .slice A t.l.length cap] from (Bk.new w 24 #[.int .i64 t.k, .int .i64 t.n, .slice A t.l.length cap]).below hb1 (by simp))
      clear hb1
      go_wp2_with fail
      go_loopw [5] (fun iv wr => ∃ i : Nat, i ≤ ts.length ∧ iv = .int .i64 i ∧ Below w.heap.size w wr ∧ Bk wr w.heap.size 24 #[.int .i64 t.k, .int .i64 t.n, .slice A t.l.length cap]) (fun iv _ => ts.length - (intOf iv).toNat)
      case atStart => exact ⟨0, Nat.zero_le _, rfl, HB1.out, Xx1.out⟩
      case round =>
        obtain ⟨i, hi1, rfl, hB, hbx⟩ := hrel
        have hz := hB.size
        have HB := Lib.hid hB
        have HBX := Lib.hid hbx
        have hgl := hbx.lt
        clear hB hbx
        by_cases hil : i < ts.length
        · obtain ⟨bk, o, F, C, hA, hb1, hb2, hx, hnode⟩ := (HN.out i hil).kept HB.out (Nat.le_refl _)
          subst hA
          obtain ⟨x0, x1, x2⟩ := hx
          have hi1' : (i : Int) < (ts.length : Int) := by omega
          have hi0' : (0 : Int) ≤ (i : Int) := by omega
          have hbw : bk < wr.heap.size := by omega
          obtain ⟨v, hv⟩ : ∃ v, ts[i] = v := ⟨_, rfl⟩
          rw [hv] at x0 x1 x2 hnode
          have e2 := fun V (hV : Below wr.heap.size wr V) => refShaped_any v 0 w.heap.size F C V (hnode.kept hV (by omega)) (by have := hV.size; omega)
          unfold termV at e2
          cases hxv : shapedB v with
          | false =>
            rw [hxv] at e2
            have E2 := Lib.hid e2
            clear e2 hnode hxv hv
            go_wp2_with fail
            refine (E2.out _ (Below.refl _ _)).mono ?_
            rintro e w2 ⟨rfl, hb2⟩
            have HBQ := Lib.hid (HB.out.trans (hb2.mono hz))
            go_wp2_with fail
            refine (AW.out _ HBQ.out).mono ?_
            rintro e wq ⟨rfl, hbq⟩
            go_wp2_with fail
            go_ret
            exact ⟨rfl, HBQ.out.trans (hbq.mono HBQ.out.size)⟩
          | true =>
            rw [hxv] at e2
            have E2 := Lib.hid e2
            clear e2 hnode hxv hv
            go_wp2_with fail
            refine (E2.out _ (Below.refl _ _)).mono ?_
            rintro e w2 ⟨rfl, hb2⟩
            have HBQ := Lib.hid (HB.out.trans (hb2.mono hz))
            have HBY := Lib.hid (HBX.out.below hb2 hgl)
            clear hb2
            go_wp2_with fail
            go_roundw
            case rel => exact ⟨i + 1, by omega, by go_num, HBQ.out, HBY.out⟩
            case measure => simp [intOf]; omega
        · obtain ⟨x0, x1, x2, xl⟩ := (TBox.of HBX.out : TBox wr w.heap.size t.k t.n (.slice A t.l.length cap))
          go_wp2_with fail
          refine (C1.out _ (by first | exact HB.out | exact HB.out.drew)).mono ?_
          rintro e w2 ⟨fA, fc, gA, gc, rfl, hf2, hg2, hb2⟩
          have HB2 := Lib.hid (HB.out.trans (hb2.mono hz))
          have HBX2 := Lib.hid (HBX.out.below hb2 hgl)
          have HF2 := Lib.hid hf2
          have HG2 := Lib.hid hg2
          clear x0 x1 x2 xl
          obtain ⟨x0, x1, x2, xl⟩ := (TBox.of HBX2.out : TBox w2 w.heap.size t.k t.n (.slice A t.l.length cap))
          have hz2 := hb2.size
          clear hb2 hf2 hg2
          go_wp2_with fail
          have HW2 := Lib.hid (show Below w2.heap.size w2 (w2.alloc (.cells #[.int .i64 H.k, .int .i64 H.n, .slice fA H.l.length fc] 24)) from (Below.refl w2.heap.size w2).alloc (Nat.le_refl _) _)
          have HB2' := Lib.hid (HB2.out.trans (HW2.out.mono HB2.out.size))
          refine (C2.out _ HB2'.out).mono ?_
          rintro e w3 ⟨uA, uc, rfl, hu3, hb3⟩
          have HW3 := Lib.hid (show Below w3.heap.size w3 (w3.alloc (.cells #[.int .i64 U.k, .int .i64 U.n, .slice uA U.l.length uc] 24)) from (Below.refl w3.heap.size w3).alloc (Nat.le_refl _) _)
          have hz3 := hb3.size
          simp at hz3
          have HB3 := Lib.hid ((HB2'.out.trans (hb3.mono HB2'.out.size)).trans (HW3.out.mono (by omega)))
          have HBX3 := Lib.hid (((HBX2.out.alloc (.cells #[.int .i64 H.k, .int .i64 H.n, .slice fA H.l.length fc] 24)).below hb3 (by simp; omega)).alloc (.cells #[.int .i64 U.k, .int .i64 U.n, .slice uA U.l.length uc] 24))
          have HFB := Lib.hid (((Bk.new w2 24 #[.int .i64 H.k, .int .i64 H.n, .slice fA H.l.length fc]).below hb3 (by simp)).alloc (.cells #[.int .i64 U.k, .int .i64 U.n, .slice uA U.l.length uc] 24))
          have HUB := Lib.hid (Bk.new w3 24 #[.int .i64 U.k, .int .i64 U.n, .slice uA U.l.length uc])
          have HF3 := Lib.hid (((HF2.out.grow HW2.out).grow hb3).grow HW3.out)
          have HG3 := Lib.hid (show IsTerms (w3.alloc (.cells #[.int .i64 U.k, .int .i64 U.n, .slice uA U.l.length uc] 24)) 0 (w3.alloc (.cells #[.int .i64 U.k, .int .i64 U.n, .slice uA U.l.length uc] 24)).heap.size R gA gc from IsTerm.grow (IsTerm.grow (IsTerm.grow HG2.out HW2.out) hb3) HW3.out)
          have HU3 := Lib.hid (hu3.grow HW3.out)
          clear x0 x1 x2 xl hb3 hu3
          obtain ⟨x0, x1, x2, xl⟩ := (TBox.of HBX3.out : TBox (w3.alloc (.cells #[.int .i64 U.k, .int .i64 U.n, .slice uA U.l.length uc] 24)) w.heap.size t.k t.n (.slice A t.l.length cap))
          have HK9 := Lib.hid (fun (V : World) (hV : Below (w3.alloc (.cells #[.int .i64 U.k, .int .i64 U.n, .slice uA U.l.length uc] 24)).heap.size (w3.alloc (.cells #[.int .i64 U.k, .int .i64 U.n, .slice uA U.l.length uc] 24)) V) => (show V.cell? ⟨w.heap.size, 0, none⟩ = some (.int .i64 t.k) ∧ V.cell? ⟨w.heap.size, 1, none⟩ = some (.int .i64 t.n) ∧ V.cell? ⟨w.heap.size, 2, none⟩ = some (.slice A t.l.length cap) ∧ V.cell? ⟨w2.heap.size, 0, none⟩ = some (.int .i64 H.k) ∧ V.cell? ⟨w2.heap.size, 1, none⟩ = some (.int .i64 H.n) ∧ V.cell? ⟨w2.heap.size, 2, none⟩ = some (.slice fA H.l.length fc) ∧ V.cell? ⟨w3.heap.size, 0, none⟩ = some (.int .i64 U.k) ∧ V.cell? ⟨w3.heap.size, 1, none⟩ = some (.int .i64 U.n) ∧ V.cell? ⟨w3.heap.size, 2, none⟩ = some (.slice uA U.l.length uc) from by
            have j1 := HBX3.out.below hV (by simp; omega)
            have j2 := HFB.out.below hV (by simp; omega)
            have j3 := HUB.out.below hV (by simp)
            exact ⟨j1.cell 0, j1.cell 1, j1.cell 2, j2.cell 0, j2.cell 1, j2.cell 2, j3.cell 0, j3.cell 1, j3.cell 2⟩))
          have HBV := Lib.hid (fun (V : World) (hV : Below (w3.alloc (.cells #[.int .i64 U.k, .int .i64 U.n, .slice uA U.l.length uc] 24)).heap.size (w3.alloc (.cells #[.int .i64 U.k, .int .i64 U.n, .slice uA U.l.length uc] 24)) V) => HB3.out.trans (hV.mono HB3.out.size))
          have hbk := Lib.hid ((Below.refl (w3.alloc (.cells #[.int .i64 U.k, .int .i64 U.n, .slice uA U.l.length uc] 24)).heap.size (w3.alloc (.cells #[.int .i64 U.k, .int .i64 U.n, .slice uA U.l.length uc] 24))).drew)
          clear HW2 HW3 HBX3 HFB HUB HBX2 HB2' HB2 HF2 HG2 C1 C2 E1 HN HL HS HB HBX hz3 hz2 hz hgl
          go_upto_region 10 with fail
          go_region_held3 (fun w' => w'.cell? ⟨w.heap.size, 0, none⟩ = some (.int .i64 t.k) ∧ w'.cell? ⟨w.heap.size, 1, none⟩ = some (.int .i64 t.n) ∧ w'.cell? ⟨w.heap.size, 2, none⟩ = some (.slice A t.l.length cap) ∧ w'.cell? ⟨w2.heap.size, 0, none⟩ = some (.int .i64 H.k) ∧ w'.cell? ⟨w2.heap.size, 1, none⟩ = some (.int .i64 H.n) ∧ w'.cell? ⟨w2.heap.size, 2, none⟩ = some (.slice fA H.l.length fc) ∧ w'.cell? ⟨w3.heap.size, 0, none⟩ = some (.int .i64 U.k) ∧ w'.cell? ⟨w3.heap.size, 1, none⟩ = some (.int .i64 U.n) ∧ w'.cell? ⟨w3.heap.size, 2, none⟩ = some (.slice uA U.l.length uc))
            (exact HK9.out _ hbk.out)
            (first
             | (go_at_call 24
                refine (C4.out _ (HBV.out _ hbk.out)).mono ?_
                rintro e wn ⟨an, cn, rfl, hrn, hbn⟩
                (try have rH := Lib.hid (IsTerm.grow rH.out hbn)); (try have rR := Lib.hid (IsTerm.grow rR.out hbn)); (try have rT := Lib.hid (IsTerm.grow rT.out hbn)); (try have rU := Lib.hid (IsTerm.grow rU.out hbn)); have rH := Lib.hid hrn
                have hbk := Lib.hid (hbk.out.trans (hbn.mono hbk.out.size))
                clear hrn hbn)
             | (go_at_call_of 23 H
                refine (CE.out H _ _ _ _ _ (HF3.out.grow hbk.out) rH.out).mono ?_
                rintro e wn ⟨rfl, hbn⟩
                (try have rH := Lib.hid (IsTerm.grow rH.out hbn)); (try have rR := Lib.hid (IsTerm.grow rR.out hbn)); (try have rT := Lib.hid (IsTerm.grow rT.out hbn)); (try have rU := Lib.hid (IsTerm.grow rU.out hbn)); have hbk := Lib.hid (hbk.out.trans (hbn.mono hbk.out.size))
                clear hbn)
             | (go_at_call 26
                refine (C5.out _ (HBV.out _ hbk.out)).mono ?_
                rintro e wn ⟨an, cn, rfl, hrn, hbn⟩
                (try have rH := Lib.hid (IsTerm.grow rH.out hbn)); (try have rR := Lib.hid (IsTerm.grow rR.out hbn)); (try have rT := Lib.hid (IsTerm.grow rT.out hbn)); (try have rU := Lib.hid (IsTerm.grow rU.out hbn)); have rR := Lib.hid hrn
                have hbk := Lib.hid (hbk.out.trans (hbn.mono hbk.out.size))
                clear hrn hbn)
             | (go_at_call 25
                refine (CS.out _ _ _ _ _ (IsTerm.grow HG3.out hbk.out) rR.out).mono ?_
                rintro e wn ⟨rfl, hbn⟩
                (try have rH := Lib.hid (IsTerm.grow rH.out hbn)); (try have rR := Lib.hid (IsTerm.grow rR.out hbn)); (try have rT := Lib.hid (IsTerm.grow rT.out hbn)); (try have rU := Lib.hid (IsTerm.grow rU.out hbn)); have hbk := Lib.hid (hbk.out.trans (hbn.mono hbk.out.size))
                clear hbn)
             | (go_at_call 22
                refine (C6.out _ _ _ _ _ (HF3.out.grow hbk.out) (IsTerm.grow HG3.out hbk.out)).mono ?_
                rintro e wn ⟨an, cn, rfl, hrn, hbn⟩
                (try have rH := Lib.hid (IsTerm.grow rH.out hbn)); (try have rR := Lib.hid (IsTerm.grow rR.out hbn)); (try have rT := Lib.hid (IsTerm.grow rT.out hbn)); (try have rU := Lib.hid (IsTerm.grow rU.out hbn)); have rT := Lib.hid hrn
                have hbk := Lib.hid (hbk.out.trans (hbn.mono hbk.out.size))
                clear hrn hbn)
             | (go_at_call_of 23 t
                refine (CE.out t _ _ _ _ _ rT.out (HT.out _ (HBV.out _ hbk.out))).mono ?_
                rintro e wn ⟨rfl, hbn⟩
                (try have rH := Lib.hid (IsTerm.grow rH.out hbn)); (try have rR := Lib.hid (IsTerm.grow rR.out hbn)); (try have rT := Lib.hid (IsTerm.grow rT.out hbn)); (try have rU := Lib.hid (IsTerm.grow rU.out hbn)); have hbk := Lib.hid (hbk.out.trans (hbn.mono hbk.out.size))
                clear hbn)
             | (go_at_call 27
                refine (C3.out _ (HBV.out _ hbk.out)).mono ?_
                rintro e wn ⟨an, cn, rfl, hrn, hbn⟩
                (try have rH := Lib.hid (IsTerm.grow rH.out hbn)); (try have rR := Lib.hid (IsTerm.grow rR.out hbn)); (try have rT := Lib.hid (IsTerm.grow rT.out hbn)); (try have rU := Lib.hid (IsTerm.grow rU.out hbn)); have rU := Lib.hid hrn
                have hbk := Lib.hid (hbk.out.trans (hbn.mono hbk.out.size))
                clear hrn hbn)
             | (go_at_call_of 23 U
                refine (CE.out U _ _ _ _ _ (HU3.out.grow hbk.out) rU.out).mono ?_
                rintro e wn ⟨rfl, hbn⟩
                (try have rH := Lib.hid (IsTerm.grow rH.out hbn)); (try have rR := Lib.hid (IsTerm.grow rR.out hbn)); (try have rT := Lib.hid (IsTerm.grow rT.out hbn)); (try have rU := Lib.hid (IsTerm.grow rU.out hbn)); have hbk := Lib.hid (hbk.out.trans (hbn.mono hbk.out.size))
                clear hbn)
             | (go_at_call 16
                refine (AW.out _ (HBV.out _ hbk.out)).mono ?_
                rintro e wn ⟨rfl, hbn⟩
                (try have rH := Lib.hid (IsTerm.grow rH.out hbn)); (try have rR := Lib.hid (IsTerm.grow rR.out hbn)); (try have rT := Lib.hid (IsTerm.grow rT.out hbn)); (try have rU := Lib.hid (IsTerm.grow rU.out hbn)); have hbk := Lib.hid (hbk.out.trans (hbn.mono hbk.out.size))
                clear hbn))
          all_goals
            go_wp2_with fail
            go_ret
            exact ⟨rfl, HBV.out _ hbk.out⟩

end Go.Proofs.YtodmnollgejgeaaDoor
