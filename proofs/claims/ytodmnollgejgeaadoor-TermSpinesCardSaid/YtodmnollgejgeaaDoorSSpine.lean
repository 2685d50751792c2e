/- term.Spine of a good term. -/
import Derived.Test.YtodmnollgejgeaaDoorSHead
import Derived.Test.YtodmnollgejgeaaDoorSRev
import Derived.Test.YtodmnollgejgeaaDoorTRDepth
import Derived.Test.YtodmnollgejgeaaDoorTDeep
import Derived.Test.YtodmnollgejgeaaDoorTNum
import Derived.Deep.RegionLaw
import Derived.Deep.RegionHeld3
namespace Go.Proofs.YtodmnollgejgeaaDoor
open Go.RowKit
set_option linter.unusedVariables false
set_option maxRecDepth 100000

def SpineRel (t : TM) (w : World) (lo hi : Nat) (sv : Value) (wr : World) : Prop :=
  ∃ (u : TM) (A : Option Addr) (c : Nat) (a3 : Option Addr) (c3 : Nat) (ps : List (TM × Option Addr × Nat)), sv = .slice a3 ps.length c3 ∧ Below w.heap.size w wr ∧ Bk wr w.heap.size 24 #[.int .i64 u.k, .int .i64 u.n, .slice A u.l.length c] ∧ Bk wr (w.heap.size + 1) 24 #[.int .i64 0, .int .i64 0, .slice none 0 0] ∧
    TermRow wr (w.heap.size + 2) 24 (.slice a3 ps.length c3) ps (fun b => lo ≤ b ∧ b < hi) ∧ IsTerm wr lo hi u A c ∧ tgoodB u = true ∧ headT u = headT t ∧ argsT t = argsT u ++ (ps.map (·.1)).reverse
def GivesS (t : TM) (w : World) (e : Ending) (w' : World) : Prop :=
  ∃ A c B d, e = .returned (.tuple #[termV (headT t) A c, .slice B (argsT t).length d]) ∧ IsTerm w' 0 w'.heap.size (headT t) A c ∧ IsTerms w' 0 w'.heap.size (argsT t) B d ∧ Below w.heap.size w w'

set_option maxHeartbeats 4000000 in
theorem spine_any (t : TM) (lo hi : Nat) (A : Option Addr) (cap : Nat) (w : World) (h : IsTerm w lo hi t A cap) (hhi : hi ≤ w.heap.size) (hS : ShapesM w) (hg : tgoodB t = true) (hsz : t.size ≤ 8192) (hdp : t.depth ≤ 1000) :
    Calls Tryd.prog 21 #[termV t A cap] w (GivesS t w) := by
  obtain ⟨i0, hi0, hz0, hz1, hz2⟩ := info_parts infoM
  have hc : topN t.size ≤ 8192 := by unfold topN; omega
  have HC := Lib.hid (fun (V : World) (hV : Below w.heap.size w V) => tsize_any t lo hi A cap V (h.kept hV hhi) (by have := hV.size; omega))
  have hcd : decide ((8192 : Int) < ((topN t.size : Nat) : Int)) = false := by simp; omega
  have HT := Lib.hid h
  have HG := Lib.hid hg
  have HHI := Lib.hid hhi
  have HS := Lib.hid hS
  have HLN := Lib.hid (Nat.le_trans (args_depth t hg) hdp)
  clear h hg hhi hS hsz hdp hc
  unfold termV
  unfold termV at HC
  have HWA := Lib.hid (fun o1 o2 => ((Below.refl w.heap.size w).alloc (Nat.le_refl _) o1).alloc (by simp) o2)
  go_enter Tryd.func21, Tryd.ntmps21
  go_wp2_with fail
  refine (HC.out _ (HWA.out _ _)).mono ?_
  rintro e w1 ⟨rfl, hb1⟩
  have hB1 := (HWA.out _ _).trans (hb1.mono (by simp; omega))
  have HB1 := Lib.hid hB1
  have HK1 := Lib.hid (show Bk w1 w.heap.size 24 #[.int .i64 t.k, .int .i64 t.n, .slice A t.l.length cap] from ((Bk.new w 24 _).alloc _).below hb1 (by simp; omega))
  have HK2 := Lib.hid (show Bk w1 (w.heap.size + 1) 24 #[.int .i64 0, .int .i64 0, .slice none 0 0] from (Bk.last (w.alloc (.cells #[.int .i64 t.k, .int .i64 t.n, .slice A t.l.length cap] 24)) 24 _ (by simp)).below hb1 (by simp))
  have HZ1 := Lib.hid (show w.heap.size + 2 ≤ w1.heap.size from by have := hb1.size; simp at this; omega)
  clear HWA HC hB1 hb1
  go_wp2_with fail
  go_loopw [4] (SpineRel t w lo hi) (fun _ wr => (@Classical.epsilon TM ⟨.node 0 0 []⟩ (fun u => ∃ A c, Bk wr w.heap.size 24 #[.int .i64 u.k, .int .i64 u.n, .slice A u.l.length c] ∧ IsTerm wr lo hi u A c)).depth)
  case atStart =>
    have hh := HHI.out
    have hz := HZ1.out
    exact ⟨t, A, cap, none, 0, [], rfl, HB1.out, HK1.out, HK2.out, ⟨World.ownsRow_nil _ _ _ _, fun b hb => ⟨by omega, by simp [Value.ownBlock]⟩, fun _ h => by cases h⟩, HT.out.kept HB1.out hh, HG.out, rfl, by simp⟩
  case round =>
    obtain ⟨u, A1, c1, a3, c3, ps, rfl, hB, b1, b2, hrow, hu, hgu, hhd, har⟩ := hrel
    have hz := hB.size
    have HB1 := Lib.hid b1
    have HB2 := Lib.hid b2
    have HU := Lib.hid hu
    have HBB := Lib.hid hB
    have HHD := Lib.hid hhd
    have HAR := Lib.hid har
    have HROW := Lib.hid hrow
    have hlt2 := b2.lt
    obtain ⟨k, n, l⟩ := u
    have CAP := Lib.hid (fun (V : World) (hV : Below wr.heap.size wr V) => applied_any k n l lo hi A1 c1 V (hu.kept hV (by have := HHI.out; omega)) (by have := hV.size; have := HHI.out; omega) ((HS.out.kept hB).kept hV) hgu)
    have hdep : ∀ (wr' : World) (v : TM) (B : Option Addr) (d : Nat), Bk wr' w.heap.size 24 #[.int .i64 v.k, .int .i64 v.n, .slice B v.l.length d] → IsTerm wr' lo hi v B d →
        (@Classical.epsilon TM ⟨.node 0 0 []⟩ (fun u => ∃ A c, Bk wr' w.heap.size 24 #[.int .i64 u.k, .int .i64 u.n, .slice A u.l.length c] ∧ IsTerm wr' lo hi u A c)) = v := fun wr' v B d h1 h2 => by
      obtain ⟨A', c', q1, q2⟩ := Classical.epsilon_spec (p := fun u => ∃ A c, Bk wr' w.heap.size 24 #[.int .i64 u.k, .int .i64 u.n, .slice A u.l.length c] ∧ IsTerm wr' lo hi u A c) ⟨v, B, d, h1, h2⟩
      exact box_term h1 h2 q1 q2
    have HDEP := Lib.hid hdep
    obtain ⟨y0, y1, y2, yl⟩ := (TBox.of b1 : TBox wr w.heap.size k n (.slice A1 l.length c1))
    clear b1 b2 hu hhd har hdep hrow
    by_cases hk : k = 5
    · subst hk
      obtain ⟨f, a, rfl, rfl, hf, ha⟩ := app_parts hgu
      obtain ⟨bk, o, F, C, hA, hb1, hb2, hx, hnode⟩ := HU.out.sub 0 (by simp)
      obtain ⟨bk2, o2, G, D, hA2, _, _, hy, hnode2⟩ := HU.out.sub 1 (by simp)
      subst hA
      obtain ⟨rfl, rfl⟩ : bk = bk2 ∧ o = o2 := by
        injection hA2 with q
        injection q with q1 q2
        exact ⟨q1, q2⟩
      simp only [List.getElem_cons_zero, List.getElem_cons_succ, Nat.zero_mul, Nat.add_zero, Nat.one_mul] at hx hy hnode hnode2
      have HX := Lib.hid hx
      have HY := Lib.hid hy
      have HF := Lib.hid hf
      have HNO := Lib.hid hnode
      have HNO2 := Lib.hid hnode2
      have e1 : ((5 : Int) == 5) = true := rfl
      simp only [List.length_cons, List.length_nil, Nat.zero_add, Nat.reduceAdd] at y2 CAP
      clear hx hy hnode hnode2 hgu hf ha hA2
      go_wp2_with fail
      refine (CAP.out _ (Below.refl _ _)).mono ?_
      rintro e w2 ⟨rfl, hb2⟩
      have hbw : bk < wr.heap.size := by have := HHI.out; omega
      have hbw2 : bk < w2.heap.size := by have := hb2.size; omega
      have K1 := HB1.out.below hb2 (by omega)
      have HK := Lib.hid K1
      have HK2' := Lib.hid (HB2.out.below hb2 (by omega))
      have HBW := Lib.hid (HBB.out.trans (hb2.mono hz))
      have HROW2 := Lib.hid (show TermRow w2 (w.heap.size + 2) 24 (.slice a3 ps.length c3) ps (fun b => lo ≤ b ∧ b < hi) from HROW.out.below hb2)
      have HNOA := Lib.hid (HNO.out.kept hb2 (by have := HHI.out; omega))
      have HNOB := Lib.hid (HNO2.out.kept hb2 (by have := HHI.out; omega))
      obtain ⟨x0, x1, x2⟩ := HX.out.kept hb2 hbw
      obtain ⟨z0, z1, z2⟩ := HY.out.kept hb2 hbw
      have HZA := Lib.hid (And.intro x0 (And.intro x1 (And.intro x2 (And.intro z0 (And.intro z1 z2)))))
      have d0 : w2.cell? ⟨w.heap.size, 0, none⟩ = some (.int .i64 5) := K1.cell 0
      have d1 : w2.cell? ⟨w.heap.size, 1, none⟩ = some (.int .i64 0) := K1.cell 1
      have d2 : w2.cell? ⟨w.heap.size, 2, none⟩ = some (.slice (some ⟨bk, o, none⟩) 2 c1) := K1.cell 2
      have HXX := Lib.hid (And.intro hbw2 (And.intro x0 (And.intro x1 (And.intro x2 HK2'.out))))
      have hpl : ps.length ≤ 1000 := by
        have h1 := congrArg List.length HAR.out
        rw [List.length_append, List.length_reverse, List.length_map] at h1
        have h2 := HLN.out
        omega
      have hz5 := hb2.size
      have HH2 := Lib.hid (show headT f = headT t by rw [← HHD.out, headT_app])
      have HA2 := Lib.hid (show argsT t = argsT f ++ ((ps ++ [(a, G, D)]).map (·.1)).reverse by rw [HAR.out, argsT_app]; simp)
      have HLESS := Lib.hid (show f.depth < (TM.node 5 0 [f, a]).depth by rw [tdepth_node, depthM_cons]; omega)
      have HU0 := Lib.hid (HDEP.out wr (.node 5 0 [f, a]) _ c1 HB1.out HU.out)
      have HFIN : Hid (∀ (v4 : Value) (w4 : World), AppTo (w2.alloc (.cells #[.int .i64 a.k, .int .i64 a.n, .slice G a.l.length D] 24)) (w.heap.size + 2) 24 3 (.slice a3 ps.length c3) (ps.length + 1) (flatM ps ++ cellsM (a, G, D)) v4 w4 →
          ∃ a4 c4, v4 = .slice a4 (ps ++ [(a, G, D)]).length c4 ∧ Bk w4 w.heap.size 24 #[.int .i64 5, .int .i64 0, .slice (some ⟨bk, o, none⟩) 2 c1] ∧
          (w4.cell? ⟨bk, o, none⟩ = some (.int .i64 f.k) ∧ w4.cell? ⟨bk, o + 1, none⟩ = some (.int .i64 f.n) ∧ w4.cell? ⟨bk, o + 2, none⟩ = some (.slice F f.l.length C)) ∧
          Hid (SpineRel t w lo hi (.slice a4 (ps ++ [(a, G, D)]).length c4) (((w4.setCell ⟨w.heap.size, 0, none⟩ (.int .i64 f.k)).setCell ⟨w.heap.size, 1, none⟩ (.int .i64 f.n)).setCell ⟨w.heap.size, 2, none⟩ (.slice F f.l.length C)) ∧ (@Classical.epsilon TM ⟨.node 0 0 []⟩ (fun u => ∃ A c, Bk (((w4.setCell ⟨w.heap.size, 0, none⟩ (.int .i64 f.k)).setCell ⟨w.heap.size, 1, none⟩ (.int .i64 f.n)).setCell ⟨w.heap.size, 2, none⟩ (.slice F f.l.length C)) w.heap.size 24 #[.int .i64 u.k, .int .i64 u.n, .slice A u.l.length c] ∧ IsTerm (((w4.setCell ⟨w.heap.size, 0, none⟩ (.int .i64 f.k)).setCell ⟨w.heap.size, 1, none⟩ (.int .i64 f.n)).setCell ⟨w.heap.size, 2, none⟩ (.slice F f.l.length C)) lo hi u A c)).depth < (@Classical.epsilon TM ⟨.node 0 0 []⟩ (fun u => ∃ A c, Bk wr w.heap.size 24 #[.int .i64 u.k, .int .i64 u.n, .slice A u.l.length c] ∧ IsTerm wr lo hi u A c)).depth)) := Lib.hid (by
        intro v4 w4 ha4
        have hrw := HROW2.out.alloc (.cells #[.int .i64 a.k, .int .i64 a.n, .slice G a.l.length D] 24)
        have hlt0 := hrw.row.lt
        have hfar := hrw.far
        have hhi := HHI.out
        have hne : ∀ g, g < w.heap.size + 2 → some g ≠ (Value.slice a3 ps.length c3).ownBlock := fun g hg e => by have := (hlt0 g e.symm).1; omega
        have hsa : (w2.alloc (.cells #[.int .i64 a.k, .int .i64 a.n, .slice G a.l.length D] 24)).heap.size = w2.heap.size + 1 := by simp
        have K1 : Bk w4 w.heap.size 24 _ := (HK.out.alloc (.cells #[.int .i64 a.k, .int .i64 a.n, .slice G a.l.length D] 24)).grown ha4.2.1 (hne _ (by omega))
        have K2 : Bk w4 (w.heap.size + 1) 24 _ := (HXX.out.2.2.2.2.alloc (.cells #[.int .i64 a.k, .int .i64 a.n, .slice G a.l.length D] 24)).grown ha4.2.1 (hne _ (by omega))
        have hbx := HXX.out
        have hB4 : Below w.heap.size w w4 := (HBW.out.alloc (by omega) (.cells #[.int .i64 a.k, .int .i64 a.n, .slice G a.l.length D] 24)).grown ha4.2.1 (by omega) (fun g e => by have := (hlt0 g e).1; omega)
        have hcell : ∀ b o, b < w2.heap.size → some b ≠ (Value.slice a3 ps.length c3).ownBlock → w4.cell? ⟨b, o, none⟩ = w2.cell? ⟨b, o, none⟩ := fun b o hb h1 =>
          (ha4.2.1.cell_far ⟨b, o, none⟩ (by show b < _; omega) h1).trans ((Below.refl w2.heap.size w2).alloc (Nat.le_refl _) (.cells #[.int .i64 a.k, .int .i64 a.n, .slice G a.l.length D] 24) |>.cell (p := ⟨b, o, none⟩) hb)
        obtain ⟨a4, c4, rfl⟩ := own_sliceM ha4.1
        have hf4 : IsTerm w4 lo hi f F C := HNOA.out.imp (fun b o h1 h2 => hcell b o (by omega) (hne b (by omega))) (Nat.le_refl _) (Nat.le_refl _)
        have hp := hrw.push (Pn := fun b => lo ≤ b ∧ b < hi) (p := (a, G, D)) (HNOB.out.kept ((Below.refl w2.heap.size w2).alloc (Nat.le_refl _) (.cells #[.int .i64 a.k, .int .i64 a.n, .slice G a.l.length D] 24)) (by omega)) (fun b hb => ⟨by omega, fun e => hne b (by omega) e.symm⟩) ha4.1 ha4.2.1 ha4.2.2
        have hp2 : TermRow w4 (w.heap.size + 2) 24 (.slice a4 (ps ++ [(a, G, D)]).length c4) (ps ++ [(a, G, D)]) (fun b => lo ≤ b ∧ b < hi) := by
          have e : (ps ++ [(a, G, D)]).length = ps.length + 1 := by simp
          rw [e]
          exact ⟨hp.row, fun b hb => hp.far b (.inl hb), fun p hp' => (hp.node p hp').imp (fun _ _ _ => rfl) (fun b hb => hb.elim id id)⟩
        have hlt4 := hp2.row.lt
        have hq : (Value.slice a4 (ps ++ [(a, G, D)]).length c4).ownBlock = none ∨ (Value.slice a4 (ps ++ [(a, G, D)]).length c4).ownBlock ≠ some w.heap.size := by
          refine .inr fun e => ?_
          have := (hlt4 _ e).1
          omega
        have hq2 : ∀ b, (lo ≤ b ∧ b < hi) → some b ≠ some w.heap.size := fun b hb e => by injection e with e; omega
        have hp3 := ((hp2.over (grown_set w4 w.heap.size 0 (.int .i64 f.k)) hq hq2).over (grown_set _ w.heap.size 1 (.int .i64 f.n)) hq hq2).over (grown_set _ w.heap.size 2 (.slice F f.l.length C)) hq hq2
        have KB : Bk (((w4.setCell ⟨w.heap.size, 0, none⟩ (.int .i64 f.k)).setCell ⟨w.heap.size, 1, none⟩ (.int .i64 f.n)).setCell ⟨w.heap.size, 2, none⟩ (.slice F f.l.length C)) w.heap.size 24 #[.int .i64 f.k, .int .i64 f.n, .slice F f.l.length C] := ((K1.at_ 0 (.int .i64 f.k)).at_ 1 (.int .i64 f.n)).at_ 2 (.slice F f.l.length C)
        have KT : IsTerm (((w4.setCell ⟨w.heap.size, 0, none⟩ (.int .i64 f.k)).setCell ⟨w.heap.size, 1, none⟩ (.int .i64 f.n)).setCell ⟨w.heap.size, 2, none⟩ (.slice F f.l.length C)) lo hi f F C := TermIn.three hf4 (fun b hb e => by omega) _ _ _
        refine ⟨a4, c4, by simp, K1, ⟨(hcell _ _ hbx.1 (hne _ (by omega))).trans hbx.2.1, (hcell _ _ hbx.1 (hne _ (by omega))).trans hbx.2.2.1, (hcell _ _ hbx.1 (hne _ (by omega))).trans hbx.2.2.2.1⟩, ⟨f, F, C, a4, c4, ps ++ [(a, G, D)], rfl, ?_, KB, ?_, hp3, KT, HF.out, HH2.out, HA2.out⟩, ?_⟩
        · exact ((hB4.setCell (by simp) _).setCell (by simp) _).setCell (by simp) _
        · exact ((K2.far (by simp) _).far (by simp) _).far (by simp) _
        · rw [HU0.out, HDEP.out (((w4.setCell ⟨w.heap.size, 0, none⟩ (.int .i64 f.k)).setCell ⟨w.heap.size, 1, none⟩ (.int .i64 f.n)).setCell ⟨w.heap.size, 2, none⟩ (.slice F f.l.length C)) f F C KB KT]
          exact HLESS.out)
      have HSRC := Lib.hid (show Src (w2.alloc (.cells #[.int .i64 a.k, .int .i64 a.n, .slice G a.l.length D] 24)) 3 (some ⟨w2.heap.size, 0, none⟩) 1 (cellsM (a, G, D)) from src_at _ _ _ rfl rfl)
      clear K1 HAR HHD HU HDEP HBB HX HY HB1 HB2 HU0 HLESS HNO HNO2 e1
      go_wp2_with (at_builtin; refine wpList_app rfl (.tmp 11) (.tmp 16) 22 rfl (w.heap.size + 2) 24 i0 (.agg #[.int .i64 0, .int .i64 0, .slice none 0 0]) 3 40 Tryd.underlying22 hi0 hz0 hz1 hz2 rfl (by decide) (.slice a3 ps.length c3) ps.length (flatM ps) rfl (HROW2.out.alloc _).row (some ⟨w2.heap.size, 0, none⟩) 1 1 (cellsM (a, G, D)) rfl HSRC.out (cellsM_one _) (by unfold maxLen; omega) (by omega) (by have := HBW.out.size; simp; omega) ?_)
      rintro v4 w4 ha4
      obtain ⟨a4, c4, rfl, K4, ⟨x0, x1, x2⟩, HR⟩ := HFIN.out _ _ ha4
      have hfz : ∀ q, w4.frozen? ⟨w.heap.size, q, none⟩ = false := fun q => K4.cold q
      have d0 : w4.cell? ⟨w.heap.size, 0, none⟩ = some (.int .i64 5) := K4.cell 0
      have d1 : w4.cell? ⟨w.heap.size, 1, none⟩ = some (.int .i64 0) := K4.cell 1
      have d2 : w4.cell? ⟨w.heap.size, 2, none⟩ = some (.slice (some ⟨bk, o, none⟩) 2 c1) := K4.cell 2
      clear ha4 K4 HFIN
      go_wp2_with fail
      go_roundw
      case rel => exact HR.out.1
      case measure => exact HR.out.2
    · have e1 : (k == 5) = false := by simpa using hk
      have hpl : ps.length ≤ 1000 := by
        have h1 := congrArg List.length HAR.out
        rw [List.length_append, List.length_reverse, List.length_map] at h1
        have h2 := HLN.out
        omega
      have HEQ := Lib.hid (show headT t = .node k n l by rw [← HHD.out, headT_not n l hk])
      have HAQ := Lib.hid (show argsT t = (ps.map (·.1)).reverse by rw [HAR.out, argsT_not n l hk]; rfl)
      have hlq : (argsT t).length = ps.length := by rw [HAQ.out]; simp
      have HLQ := Lib.hid hlq
      clear hk hgu HAR HHD HDEP hlq
      go_wp2_with fail
      refine (CAP.out _ (Below.refl _ _)).mono ?_
      rintro e w2 ⟨rfl, hb2⟩
      have hzz := hb2.size
      have K1 := HB1.out.below hb2 (by omega)
      have K2 := HB2.out.below hb2 (by omega)
      have HROW2 := Lib.hid (HROW.out.below hb2)
      have HCR := Lib.hid (fun V (hV : Below w2.heap.size w2 V) => rev_any (HROW2.out.below hV) (show w.heap.size + 2 ≤ V.heap.size from by have := hV.size; omega) (by omega))
      have HAF : Hid (∀ (V w3 : World), Below w2.heap.size w2 V → TermIn w3 (fun b => ((lo ≤ b ∧ b < hi) ∨ a3 = some ⟨b, 0, none⟩) ∧ b < w3.heap.size) (.node 0 0 (ps.map (·.1)).reverse) a3 c3 → Below (w.heap.size + 2) V w3 →
          Bk w3 w.heap.size 24 #[.int .i64 k, .int .i64 n, .slice A1 l.length c1] ∧ Bk w3 (w.heap.size + 1) 24 #[.int .i64 0, .int .i64 0, .slice none 0 0] ∧
          Hid (GivesS t w (.returned (.tuple #[.agg #[.int .i64 k, .int .i64 n, .slice A1 l.length c1], .slice a3 ps.length c3])) (((w3.setCell ⟨w.heap.size + 1, 0, none⟩ (.int .i64 k)).setCell ⟨w.heap.size + 1, 1, none⟩ (.int .i64 n)).setCell ⟨w.heap.size + 1, 2, none⟩ (.slice A1 l.length c1)))) := Lib.hid (by
        intro V w3 hV hl3 hb3
        have hhi := HHI.out
        have hVz := hV.size
        have hz3 := hb3.size
        have hlt0 := HROW2.out.row.lt
        have hbb : Below (w.heap.size + 2) wr w3 := (hb2.mono (by omega)).trans ((hV.mono (by omega)).trans hb3)
        have J1 : Bk w3 w.heap.size 24 _ := HB1.out.below hbb (by omega)
        have J2 : Bk w3 (w.heap.size + 1) 24 _ := HB2.out.below hbb (by omega)
        have hu3 : IsTerm w3 lo hi (.node k n l) A1 c1 := HU.out.kept hbb (by omega)
        refine ⟨J1, J2, ?_⟩
        have hlw : ∀ b, a3 = some ⟨b, 0, none⟩ → b ≠ w.heap.size + 1 := fun b e hb => by
          subst e
          have := (hlt0 b rfl).1
          omega
        refine ⟨A1, c1, a3, c3, by rw [HEQ.out, HLQ.out]; rfl, ?_, ?_, (((HBB.out.trans (hbb.mono (by omega))).setCell (by simp) _).setCell (by simp) _).setCell (by simp) _⟩
        · rw [HEQ.out]
          exact (TermIn.three hu3 (fun b hb e => by omega) _ _ _).imp (fun _ _ _ => rfl) (fun b hb => ⟨Nat.zero_le _, by rw [size_three]; omega⟩)
        · rw [HAQ.out]
          exact (TermIn.three hl3 (fun b hb e => by
            rcases hb.1 with h1 | h1
            · omega
            · exact hlw b h1 e) _ _ _).imp (fun _ _ _ => rfl) (fun b hb => ⟨Nat.zero_le _, by rw [size_three]; exact hb.2⟩))
      clear K1 K2 HB1 HB2 HU HBB hb2 HROW y0 y1 y2 yl CAP HEQ HAQ HLQ HHI HT HG HS HK1 HK2 HZ1
      go_wp2_with fail
      refine (HCR.out _ (by first | exact Below.refl _ _ | exact (Below.refl _ _).drew)).mono ?_
      rintro e w3 ⟨rfl, hl3, hb3⟩
      obtain ⟨J1, J2, HR⟩ := HAF.out _ w3 (by first | exact Below.refl _ _ | exact (Below.refl _ _).drew) hl3 hb3
      have hfz : ∀ q, w3.frozen? ⟨w.heap.size + 1, q, none⟩ = false := fun q => J2.cold q
      have d0 : w3.cell? ⟨w.heap.size + 1, 0, none⟩ = some (.int .i64 0) := J2.cell 0
      have d1 : w3.cell? ⟨w.heap.size + 1, 1, none⟩ = some (.int .i64 0) := J2.cell 1
      have d2 : w3.cell? ⟨w.heap.size + 1, 2, none⟩ = some (.slice none 0 0) := J2.cell 2
      have q0 : w3.cell? ⟨w.heap.size, 0, none⟩ = some (.int .i64 k) := J1.cell 0
      have q1 : w3.cell? ⟨w.heap.size, 1, none⟩ = some (.int .i64 n) := J1.cell 1
      have q2 : w3.cell? ⟨w.heap.size, 2, none⟩ = some (.slice A1 l.length c1) := J1.cell 2
      have B5 := ((J2.at_ 0 (.int .i64 k)).at_ 1 (.int .i64 n)).at_ 2 (.slice A1 l.length c1)
      have HS0 := Lib.hid (B5.cell 0)
      have HS1 := Lib.hid (B5.cell 1)
      have HS2 := Lib.hid (B5.cell 2)
      clear J1 J2 B5 HCR HAF hl3 hb3
      go_wp2_with fail
      refine bodyPost_ret (v := .tuple #[.agg #[.int .i64 k, .int .i64 n, .slice A1 l.length c1], .slice a3 ps.length c3]) (by simp [results, Tryd.results21, go_sem, HS0.out, HS1.out, HS2.out]) rfl ?_
      exact HR.out

end Go.Proofs.YtodmnollgejgeaaDoor
