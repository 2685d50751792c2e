/- The document's Around: types of functions, functions, around a term. -/
import Derived.Test.YtofmoggjpgjdgaaDoorVLaid
import Derived.Test.YtofmoggjpgjdgaaDoorTRGood
namespace Go.Proofs.YtofmoggjpgjdgaaDoor
open Go.RowKit
set_option linter.unusedVariables false
set_option maxRecDepth 100000

def ROkRel (bx : Bool) (l : List TM) (W0 : World) (ok iv : Value) (wr : World) : Prop := ∃ i : Nat, i ≤ l.length ∧ iv = .int .i64 i ∧ ok = .bool (bx && (l.take i).all shapedB) ∧ Below W0.heap.size W0 wr
/-- Where the loop that counts down stands. -/
def RLaidRel (κ : Int) (l : List TM) (t : TM) (w : World) (iv : Value) (wr : World) : Prop :=
  ∃ (i : Nat) (u : TM) (A : Option Addr) (cap : Nat), i ≤ l.length ∧ iv = .int .i64 ((i : Int) - 1) ∧ Below w.heap.size w wr ∧ Bk wr w.heap.size 24 #[.int .i64 u.k, .int .i64 u.n, .slice A u.l.length cap] ∧
    Bk wr (w.heap.size + 1) 24 #[.int .i64 0, .int .i64 0, .slice none 0 0] ∧ TermIn wr (fun b => b < wr.heap.size ∧ b ≠ w.heap.size ∧ b ≠ w.heap.size + 1) u A cap ∧ u = aroundT κ (l.drop i) t

set_option maxHeartbeats 4000000 in
theorem raround_any (κ : Int) (l : List TM) (A_l : Option Addr) (c_l : Nat) (t : TM) (A_t : Option Addr) (c_t : Nat) (w : World) (hl : IsTerms w 0 w.heap.size l A_l c_l) (ht : IsTerm w 0 w.heap.size t A_t c_t) :
    Calls Tryd.prog 11 #[.int .i64 κ, .slice A_l l.length c_l, termV t A_t c_t] w (GivesL (aroundX κ l t) w) := by
  obtain ⟨hlb, hlm⟩ := hl.bounds
  have HW := Lib.hid (show Below w.heap.size w ((w.alloc (.cells #[.int .i64 t.k, .int .i64 t.n, .slice A_t t.l.length c_t] 24)).alloc (.cells #[.int .i64 0, .int .i64 0, .slice none 0 0] 24)) from ((Below.refl w.heap.size w).alloc (by simp <;> omega) (.cells #[.int .i64 t.k, .int .i64 t.n, .slice A_t t.l.length c_t] 24)).alloc (by simp <;> omega) (.cells #[.int .i64 0, .int .i64 0, .slice none 0 0] 24))
  have KB := Lib.hid (fun (V : World) (hV : Below ((w.alloc (.cells #[.int .i64 t.k, .int .i64 t.n, .slice A_t t.l.length c_t] 24)).alloc (.cells #[.int .i64 0, .int .i64 0, .slice none 0 0] 24)).heap.size ((w.alloc (.cells #[.int .i64 t.k, .int .i64 t.n, .slice A_t t.l.length c_t] 24)).alloc (.cells #[.int .i64 0, .int .i64 0, .slice none 0 0] 24)) V) => (show Bk V w.heap.size 24 #[.int .i64 t.k, .int .i64 t.n, .slice A_t t.l.length c_t] ∧ Bk V (w.heap.size + 1) 24 #[.int .i64 0, .int .i64 0, .slice none 0 0] from ⟨((Bk.new w 24 _).alloc _).below hV (by simp <;> omega), (Bk.last (w.alloc (.cells #[.int .i64 t.k, .int .i64 t.n, .slice A_t t.l.length c_t] 24)) 24 #[.int .i64 0, .int .i64 0, .slice none 0 0] (g := w.heap.size + 1) (by simp)).below hV (by simp <;> omega)⟩))
  have CC0 := Lib.hid (refShaped_any t 0 w.heap.size A_t c_t ((w.alloc (.cells #[.int .i64 t.k, .int .i64 t.n, .slice A_t t.l.length c_t] 24)).alloc (.cells #[.int .i64 0, .int .i64 0, .slice none 0 0] 24)) (ht.kept HW.out (Nat.le_refl _)) (by simp; omega))
  have CSH := Lib.hid (fun (u : TM) (lo hi : Nat) (A : Option Addr) (cap : Nat) (V : World) (h : IsTerm V lo hi u A cap) (hhi : hi ≤ V.heap.size) => refShaped_any u lo hi A cap V h hhi)
  have HT := Lib.hid ht
  have HN := Lib.hid hl.sub
  unfold maxLen at hlm
  obtain ⟨RR, hRR⟩ : ∃ RR, aroundX κ l t = RR := ⟨_, rfl⟩
  rw [hRR]
  obtain ⟨bt, hbt⟩ : ∃ b, shapedB t = b := ⟨_, rfl⟩
  rw [hbt] at CC0
  obtain ⟨bl, hbl⟩ : ∃ b, l.all shapedB = b := ⟨_, rfl⟩
  clear hl ht
  unfold termV at CC0 CSH ⊢
  by_cases h24 : 24 < l.length
  · have t0 : decide ((24 : Int) < (l.length : Int)) = true := decide_eq_true (by omega)
    have HE := Lib.hid (hRR.symm.trans (around_24 h24))
    clear h24 hRR hbt hbl
    go_enter Tryd.func11, Tryd.ntmps11
    have HBF := Lib.hid HW.out
    go_wp2_with fail
    refine bodyPost_ret (v := .tuple #[.agg #[.int .i64 0, .int .i64 0, .slice none 0 0], .int .i64 2]) (by simp [results, Tryd.results11, go_sem]) rfl ?_
    rw [HE.out]
    refine ⟨none, 0, rfl, leaf_in _ _ 0 0, ?_⟩
    first | exact HBF.out | exact ((HBF.out.setCell (by simp) _).setCell (by simp) _).setCell (by simp) _
  have t0 : decide ((24 : Int) < (l.length : Int)) = false := decide_eq_false (by omega)
  have HX0 := Lib.hid (fun (h : (bt && bl) = false) => hRR.symm.trans (around_no h24 (by rw [hbt, hbl]; exact h)))
  have HX1 := Lib.hid (fun (h : (bt && bl) = true) => hRR.symm.trans (around_yes h24 (by rw [hbt, hbl]; exact h)))
  have HL24 := Lib.hid (show l.length ≤ 24 by omega)
  have HB2 := Lib.hid hbl
  clear h24 hRR hbt hbl
  go_enter Tryd.func11, Tryd.ntmps11
  go_wp2_with fail
  refine CC0.out.mono ?_
  rintro e w0 ⟨rfl, hc0⟩
  have HC0 := Lib.hid hc0
  clear hc0 CC0
  go_wp2_with fail
  go_loopw [8, 9] (ROkRel bt l ((w.alloc (.cells #[.int .i64 t.k, .int .i64 t.n, .slice A_t t.l.length c_t] 24)).alloc (.cells #[.int .i64 0, .int .i64 0, .slice none 0 0] 24))) (fun _ iv _ => l.length - (intOf iv).toNat)
  case atStart => exact ⟨0, Nat.zero_le _, rfl, by simp, HC0.out⟩
  case round =>
    obtain ⟨i, hi1, rfl, rfl, hB⟩ := hrel
    have hz := hB.size
    simp at hz
    have hbw := Lib.hid (HW.out.trans (hB.mono (by simp <;> omega)))
    have HBB := Lib.hid hB
    have b00 : wr.cell? ⟨w.heap.size, 0, none⟩ = some (.int .i64 t.k) := (KB.out _ hB).1.cell 0
    have b01 : wr.cell? ⟨w.heap.size, 1, none⟩ = some (.int .i64 t.n) := (KB.out _ hB).1.cell 1
    have b02 : wr.cell? ⟨w.heap.size, 2, none⟩ = some (.slice A_t t.l.length c_t) := (KB.out _ hB).1.cell 2
    have b10 : wr.cell? ⟨w.heap.size + 1, 0, none⟩ = some (.int .i64 0) := (KB.out _ hB).2.cell 0
    have b11 : wr.cell? ⟨w.heap.size + 1, 1, none⟩ = some (.int .i64 0) := (KB.out _ hB).2.cell 1
    have b12 : wr.cell? ⟨w.heap.size + 1, 2, none⟩ = some (.slice none 0 0) := (KB.out _ hB).2.cell 2
    have hfz : ∀ o, wr.frozen? ⟨w.heap.size + 1, o, none⟩ = false := fun o => (KB.out _ hB).2.cold o
    by_cases hil : i < l.length
    · have hi1' : (i : Int) < (l.length : Int) := by omega
      have hi0' : (0 : Int) ≤ (i : Int) := by omega
      have hst : (l.take (i + 1)).all shapedB = ((l.take i).all shapedB && shapedB l[i]) := by
        rw [List.take_succ_eq_append_getElem hil, List.all_append]; simp
      obtain ⟨ob, hob⟩ : ∃ ob, (bt && (l.take i).all shapedB) = ob := ⟨_, rfl⟩
      have hst2 : (bt && (l.take (i + 1)).all shapedB) = (ob && shapedB l[i]) := by rw [hst, ← hob, Bool.and_assoc]
      have HST := Lib.hid hst2
      rw [hob]
      clear hst hst2 hob
      cases ob with
      | false =>
        go_wp2_with fail
        go_roundw
        case rel => exact ⟨i + 1, by omega, rfl, by rw [HST.out]; rfl, HBB.out⟩
        case measure => simp [intOf]; omega
      | true =>
        obtain ⟨gb, go, F, C, hL, hb1', hb2', ⟨y0, y1, y2⟩, hnode⟩ := (HN.out i hil).kept hbw.out (Nat.le_refl _)
        subst hL
        obtain ⟨u, hu⟩ : ∃ u, l[i] = u := ⟨_, rfl⟩
        rw [hu] at y0 y1 y2 hnode HST
        have CU := Lib.hid (CSH.out u 0 w.heap.size F C wr hnode (by omega))
        obtain ⟨bu, hbu⟩ : ∃ bu, shapedB u = bu := ⟨_, rfl⟩
        rw [hbu] at CU HST
        clear hnode hu hbu
        go_wp2_with fail
        refine CU.out.mono ?_
        rintro e w2 ⟨rfl, hb2⟩
        have HB2' := Lib.hid (HBB.out.trans (hb2.mono HBB.out.size))
        clear hb2
        go_wp2_with fail
        go_roundw
        case rel => exact ⟨i + 1, by omega, rfl, by rw [HST.out]; rfl, HB2'.out⟩
        case measure => simp [intOf]; omega
    · obtain rfl : i = l.length := by omega
      have hok : (bt && (l.take l.length).all shapedB) = (bt && bl) := by rw [List.take_length, HB2.out]
      rw [hok]
      obtain ⟨bo, hbo⟩ : ∃ bo, (bt && bl) = bo := ⟨_, rfl⟩
      rw [hbo] at HX0 HX1 ⊢
      clear hok hbo
      cases bo with
      | false =>
        have HE := Lib.hid (HX0.out rfl)
        have B5 := (((KB.out _ HBB.out).2.at_ 0 (.int .i64 0)).at_ 1 (.int .i64 0)).at_ 2 (.slice none 0 0)
        have HS0 := Lib.hid (B5.cell 0)
        have HS1 := Lib.hid (B5.cell 1)
        have HS2 := Lib.hid (B5.cell 2)
        have HBF := Lib.hid (HW.out.trans (HBB.out.mono (by simp <;> omega)))
        clear B5
        go_wp2_with fail
        refine bodyPost_ret (v := .tuple #[.agg #[.int .i64 0, .int .i64 0, .slice none 0 0], .int .i64 5]) (by simp [results, Tryd.results11, go_sem, HS0.out, HS1.out, HS2.out]) rfl ?_
        rw [HE.out]
        exact givel_zero HBF.out (by omega)
      | true =>
      have HE1 := Lib.hid (HX1.out rfl)
      have w1' : IntKind.i64.wrap ((l.length : Int) - 1) = (l.length : Int) - 1 := IntWalk.i64_in _ (by have := HL24.out; omega)
      clear HX0 HX1
      go_wp2_with fail
      go_loopw [10] (RLaidRel κ l t w) (fun iv _ => (intOf iv + 1).toNat)
      case atStart =>
        exact ⟨l.length, t, A_t, c_t, Nat.le_refl _, rfl, hbw.out, (KB.out _ HBB.out).1, (KB.out _ HBB.out).2, TermIn.imp (fun b o hb => hbw.out.cell (p := ⟨b, o, none⟩) hb.2) (fun b hb => ⟨by have := hb.2; omega, by have := hb.2; omega, by have := hb.2; omega⟩) HT.out, by rw [List.drop_length]; rfl⟩
      case round =>
        clear b00 b01 b02 b10 b11 b12 hfz hz hi1 hil w1'
        obtain ⟨i, u, A1, c1, hi1, rfl, hB, b1, b2, hu, hue⟩ := hrel
        have hz := hB.size
        have hlt2 := b2.lt
        have HB1 := Lib.hid b1
        have HB2 := Lib.hid b2
        have HU := Lib.hid hu
        have HUE := Lib.hid hue
        have HBB := Lib.hid hB
        have hfz1 : ∀ q, wr.frozen? ⟨w.heap.size, q, none⟩ = false := fun q => b1.cold q
        obtain ⟨y0, y1, y2, yl⟩ := (TBox.of b1 : TBox wr w.heap.size u.k u.n (.slice A1 u.l.length c1))
        clear b1 b2 hu hue
        match i with
        | q + 1 =>
          have hil : q < l.length := by omega
          have e0 : (((q + 1 : Nat) : Int) - 1) = (q : Int) := by omega
          rw [e0]
          obtain ⟨bk, o, F, C, hA, hb1, hb2, hx, hnode⟩ := (HN.out q hil).kept hB (Nat.le_refl _)
          subst hA
          obtain ⟨x0', x1', x2'⟩ := hx
          have hq1 : (q : Int) < (l.length : Int) := by omega
          have hq0 : (0 : Int) ≤ (q : Int) := by omega
          have hbw2 : bk < wr.heap.size := by omega
          have hq9 : (q : Int) ≤ 24 := by have := HL24.out; omega
          have hst : aroundT κ (l.drop q) t = .node κ 0 [l[q], u] := by rw [HUE.out, List.drop_eq_getElem_cons hil, aroundT_cons]
          obtain ⟨v, hv⟩ : ∃ v, l[q] = v := ⟨_, rfl⟩
          rw [hv] at hst hnode x0' x1' x2'
          have tq : decide ((q : Int) ≥ 0) = true := decide_eq_true (by omega)
          have w2' : IntKind.i64.wrap ((q : Int) - 1) = (q : Int) - 1 := IntWalk.i64_in _ (by omega)
          have HST := Lib.hid hst
          have HNO := Lib.hid hnode
          have HFIN : Hid (∀ (V w2 : World) (g : Nat), Below wr.heap.size wr V → V.heap.size ≤ g → Bk w2 g 24 #[.int .i64 v.k, .int .i64 v.n, .slice F v.l.length C, .int .i64 u.k, .int .i64 u.n, .slice A1 u.l.length c1] → Below V.heap.size V w2 →
              Bk w2 w.heap.size 24 #[.int .i64 u.k, .int .i64 u.n, .slice A1 u.l.length c1] ∧ Hid (RLaidRel κ l t w (.int .i64 ((q : Int) - 1)) (((w2.setCell ⟨w.heap.size, 0, none⟩ (.int .i64 κ)).setCell ⟨w.heap.size, 1, none⟩ (.int .i64 0)).setCell ⟨w.heap.size, 2, none⟩ (.slice (some ⟨g, 0, none⟩) 2 2)))) := Lib.hid (by
            intro V w2 g hV hg hb hb2
            have hbb := hV.trans (hb2.mono hV.size)
            have hgl := hb.lt
            have hVz := hV.size
            have hbz := hbb.size
            have K1 := HB1.out.below hbb (by omega)
            have K2 := HB2.out.below hbb (by omega)
            refine ⟨K1, ⟨q, .node κ 0 [v, u], some ⟨g, 0, none⟩, 2, by omega, rfl, ?_, ?_, ?_, ?_, HST.out.symm⟩⟩
            · exact (((HBB.out.trans (hbb.mono hz)).setCell (by simp) _).setCell (by simp) _).setCell (by simp) _
            · exact ((K1.at_ 0 (.int .i64 κ)).at_ 1 (.int .i64 0)).at_ 2 (.slice (some ⟨g, 0, none⟩) 2 2)
            · exact ((K2.far (by simp) _).far (by simp) _).far (by simp) _
            · have q1 : TermIn w2 (fun b => b < w2.heap.size ∧ b ≠ w.heap.size ∧ b ≠ w.heap.size + 1) u A1 c1 := HU.out.imp (fun b o hq => hbb.cell (p := ⟨b, o, none⟩) hq.1) (fun b hq => ⟨by omega, hq.2⟩)
              have q2 : TermIn w2 (fun b => b < w2.heap.size ∧ b ≠ w.heap.size ∧ b ≠ w.heap.size + 1) v F C := TermIn.imp (fun b o hq => hbb.cell (p := ⟨b, o, none⟩) (by show b < _; omega)) (fun b hq => ⟨by omega, by omega, by omega⟩) HNO.out
              have q3 := two_in q2 q1 hb (show g < w2.heap.size ∧ g ≠ w.heap.size ∧ g ≠ w.heap.size + 1 from ⟨hgl, by omega, by omega⟩) κ 0
              have q4 := q3.three (g := w.heap.size) (fun b hq => hq.2.1) (.int .i64 κ) (.int .i64 0) (.slice (some ⟨g, 0, none⟩) 2 2)
              refine q4.imp (fun _ _ _ => rfl) (fun b hq => ⟨by rw [size_three]; exact hq.1, hq.2⟩))
          have HD1 := Lib.hid ((Below.refl wr.heap.size wr).drew)
          clear hst hnode hv hi1 hil e0
          go_wp2_with fail
          go_region_with (first
            | (go_at_call 31
               refine (mk_two _ _ _ _ _ _ _ _ _ _ _ _).mono ?_
               rintro e w2 ⟨g, rfl, hg, hb, hb2'⟩
               obtain ⟨K1, HR⟩ := HFIN.out _ w2 g HD1.out hg hb hb2'
               have hfz : ∀ q, w2.frozen? ⟨w.heap.size, q, none⟩ = false := fun q => K1.cold q
               have d0 : w2.cell? ⟨w.heap.size, 0, none⟩ = some (.int .i64 u.k) := K1.cell 0
               have d1 : w2.cell? ⟨w.heap.size, 1, none⟩ = some (.int .i64 u.n) := K1.cell 1
               have d2 : w2.cell? ⟨w.heap.size, 2, none⟩ = some (.slice A1 u.l.length c1) := K1.cell 2
               clear K1 hb hb2' hg))
          all_goals
            go_wp2_with fail
            go_roundw
            case rel => exact HR.out
            case measure => simp [intOf]
        | 0 =>
          have e0 : (((0 : Nat) : Int) - 1) = -1 := rfl
          rw [e0]
          have hfull : u = aroundT κ l t := by rw [HUE.out, List.drop_zero]
          rw [← hfull] at HE1
          have HU2 := Lib.hid (show IsTerm wr 0 wr.heap.size u A1 c1 from HU.out.imp (fun _ _ _ => rfl) (fun b hb => ⟨Nat.zero_le _, hb.1⟩))
          have CF := Lib.hid (CSH.out u 0 wr.heap.size A1 c1 wr HU2.out (Nat.le_refl _))
          obtain ⟨bu, hbu⟩ : ∃ b, shapedB u = b := ⟨_, rfl⟩
          rw [hbu] at CF
          have HBU := Lib.hid hbu
          have hlt1 : w.heap.size < wr.heap.size := by omega
          clear hfull hbu e0 hi1
          go_wp2_with fail
          refine CF.out.mono ?_
          rintro e w2 ⟨rfl, hb2⟩
          have K1 := HB1.out.below hb2 hlt1
          have K2 := HB2.out.below hb2 hlt2
          have hz2 := hb2.size
          have HBF := Lib.hid (HBB.out.trans (hb2.mono hz))
          have HU3 := Lib.hid (show TermIn w2 (fun b => b < w2.heap.size ∧ b ≠ w.heap.size ∧ b ≠ w.heap.size + 1) u A1 c1 from HU.out.imp (fun b o hq => hb2.cell (p := ⟨b, o, none⟩) hq.1) (fun b hq => ⟨by omega, hq.2⟩))
          clear y0 y1 y2 yl hfz1 hb2
          have y0 : w2.cell? ⟨w.heap.size, 0, none⟩ = some (.int .i64 u.k) := K1.cell 0
          have y1 : w2.cell? ⟨w.heap.size, 1, none⟩ = some (.int .i64 u.n) := K1.cell 1
          have y2 : w2.cell? ⟨w.heap.size, 2, none⟩ = some (.slice A1 u.l.length c1) := K1.cell 2
          have hfz : ∀ q, w2.frozen? ⟨w.heap.size + 1, q, none⟩ = false := fun q => K2.cold q
          have d0 : w2.cell? ⟨w.heap.size + 1, 0, none⟩ = some (.int .i64 0) := K2.cell 0
          have d1 : w2.cell? ⟨w.heap.size + 1, 1, none⟩ = some (.int .i64 0) := K2.cell 1
          have d2 : w2.cell? ⟨w.heap.size + 1, 2, none⟩ = some (.slice none 0 0) := K2.cell 2
          clear K1
          cases bu with
          | false =>
            have HE := Lib.hid (HE1.out.trans (gotX_no HBU.out))
            have B5 := ((K2.at_ 0 (.int .i64 0)).at_ 1 (.int .i64 0)).at_ 2 (.slice none 0 0)
            have HS0 := Lib.hid (B5.cell 0)
            have HS1 := Lib.hid (B5.cell 1)
            have HS2 := Lib.hid (B5.cell 2)
            clear B5 K2
            go_wp2_with fail
            refine bodyPost_ret (v := .tuple #[.agg #[.int .i64 0, .int .i64 0, .slice none 0 0], .int .i64 2]) (by simp [results, Tryd.results11, go_sem, HS0.out, HS1.out, HS2.out]) rfl ?_
            rw [HE.out]
            exact givel_zero HBF.out (by omega)
          | true =>
            have HE := Lib.hid (HE1.out.trans (gotX_yes HBU.out))
            have B5 := ((K2.at_ 0 (.int .i64 u.k)).at_ 1 (.int .i64 u.n)).at_ 2 (.slice A1 u.l.length c1)
            have HS0 := Lib.hid (B5.cell 0)
            have HS1 := Lib.hid (B5.cell 1)
            have HS2 := Lib.hid (B5.cell 2)
            clear B5 K2
            go_wp2_with fail
            refine bodyPost_ret (v := .tuple #[.agg #[.int .i64 u.k, .int .i64 u.n, .slice A1 u.l.length c1], .int .i64 0]) (by simp [results, Tryd.results11, go_sem, HS0.out, HS1.out, HS2.out]) rfl ?_
            rw [HE.out]
            exact ⟨A1, c1, rfl, (HU3.out.three (g := w.heap.size + 1) (fun b hq => hq.2.2) _ _ _).imp (fun _ _ _ => rfl) (fun b hq => ⟨Nat.zero_le _, by rw [size_three]; exact hq.1⟩), ((HBF.out.setCell (by simp) _).setCell (by simp) _).setCell (by simp) _⟩

end Go.Proofs.YtofmoggjpgjdgaaDoor
