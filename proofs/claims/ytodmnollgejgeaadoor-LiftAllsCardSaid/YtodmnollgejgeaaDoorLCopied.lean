/- The document's Copied over any term within the reach. -/
import Derived.Test.YtodmnollgejgeaaDoorLRowZ
namespace Go.Proofs.YtodmnollgejgeaaDoor
open Go.RowKit
set_option linter.unusedVariables false
set_option maxRecDepth 100000

def CopRel (w : World) (k n : Int) (l : List TM) (A : Option Addr) (cap : Nat) (iv : Value) (wr : World) : Prop :=
  ∃ (i : Nat) (ps : List (TM × Option Addr × Nat)) (a1 : Option Addr) (c1 : Nat), i ≤ l.length ∧ iv = .int .i64 i ∧ Below w.heap.size w wr ∧
    Bk wr w.heap.size 24 #[.int .i64 k, .int .i64 n, .slice A l.length cap] ∧ Bk wr (w.heap.size + 1) 24 #[.int .i64 0, .int .i64 0, .slice none 0 0] ∧
    Bk wr (w.heap.size + 2) 24 #[.int .i64 k, .int .i64 n, .slice a1 ps.length c1] ∧
    RowZ wr (w.heap.size + 3) (.slice a1 ps.length c1) ps ∧ ps.length = i ∧ ps.map (·.1) = (subsM (fun t i => t) 0 l).take i

set_option maxHeartbeats 4000000 in
theorem copied_any : ∀ (t : TM) (lo hi : Nat) (A : Option Addr) (cap : Nat) (w : World), IsTerm w lo hi t A cap → hi ≤ w.heap.size → sizedT t = true →
    Calls Tryd.prog 37 #[termV t A cap] w (GivesZ t w) := by
  intro t
  induction t using TM.ind with
  | h k n l ih =>
    obtain ⟨i0, hi0, hz0, hz1, hz2⟩ := info_parts infoM
    intro lo hi A cap w h hhi hl2
    obtain ⟨hl, hm⟩ := h.bounds
    rw [sizedT_node, Bool.and_eq_true, decide_eq_true_eq] at hl2
    obtain ⟨hl2, hall⟩ := hl2
    have hall := Lib.hid (List.all_eq_true.1 hall)
    have HEQ := Lib.hid (show (.node k n l : TM) = .node k n (subsM (fun t i => t) 0 l) by rw [self_subs])
    have IH := Lib.hid ih
    have HN := Lib.hid h.sub
    have HLT := Lib.hid hhi
    unfold maxLen at hm
    clear ih h
    rw [termV_node]
    go_enter Tryd.func37, Tryd.ntmps37
    go_wp2_with fail
    go_loopw [4] (CopRel w k n l A cap) (fun iv _ => l.length - (intOf iv).toNat)
    case atStart =>
      refine ⟨0, [], none, 0, Nat.zero_le _, rfl, (((Below.refl w.heap.size w).alloc (Nat.le_refl _) _).alloc (by simp) _).alloc (by simp <;> omega) _, ((Bk.new w 24 _).alloc _).alloc _, (Bk.last _ _ _ (by simp)).alloc _, Bk.last _ _ _ (by simp), RowZ.nil _ _, rfl, by rw [List.take_zero]; rfl⟩
    case round =>
      obtain ⟨i, ps, a1, c1, hi1, rfl, hB, b1, b2, b3, hrow, hps, hpl⟩ := hrel
      have hz := hB.size
      have hlt3 := b3.lt
      have HPS := Lib.hid hps
      have HB1 := Lib.hid b1
      have HB2 := Lib.hid b2
      have HB3 := Lib.hid b3
      have HROW := Lib.hid hrow
      have HPL := Lib.hid hpl
      have HBB := Lib.hid hB
      obtain ⟨y0, y1, y2, yl⟩ := (TBox.of b1 : TBox wr w.heap.size k n (.slice A l.length cap))
      clear b1 b2 hrow hpl hps
      by_cases hil : i < l.length
      · obtain ⟨bk, o, F, C, hA, hb1, hb2, hx, hnode⟩ := (HN.out i hil).kept hB HLT.out
        subst hA
        obtain ⟨x0', x1', x2'⟩ := hx
        have hi1' : (i : Int) < (l.length : Int) := by omega
        have hi0' : (0 : Int) ≤ (i : Int) := by omega
        have hst := subsM_take (fun t i => t) l 0 i hil
        try rw [Nat.zero_add] at hst
        have hl2i := hall.out _ (List.getElem_mem hil)
        have hih := fun (V : World) h1 h2 => IH.out (l[i]'hil) (List.getElem_mem hil) lo hi F C V h1 h2 hl2i
        have HNO := Lib.hid hnode
        obtain ⟨u, hu⟩ : ∃ u, l[i] = u := ⟨_, rfl⟩
        rw [hu] at hst hih hnode x0' x1' x2' HNO
        have HST := Lib.hid hst
        have HIH : Hid (∀ (V : World), Below wr.heap.size wr V → Calls Tryd.prog 37 #[.agg #[.int .i64 u.k, .int .i64 u.n, .slice F u.l.length C]] V fun e w' =>
            ∃ A' cap', e = .returned (.agg #[.int .i64 u.k, .int .i64 u.n, .slice A' u.l.length cap']) ∧ NewZ w' V.heap.size u A' cap' ∧ Below V.heap.size V w') := Lib.hid (fun V hV => hih V (HNO.out.kept hV (by have := HLT.out; omega)) (by have := hV.size; have := HLT.out; omega))
        have hbw : bk < wr.heap.size := by have := HLT.out; omega
        have HKS := Lib.hid (fun (V : World) (hV : Below wr.heap.size wr V) => (show V.cell? ⟨w.heap.size, 0, none⟩ = some (.int .i64 k) ∧ V.cell? ⟨w.heap.size, 1, none⟩ = some (.int .i64 n) ∧ V.cell? ⟨w.heap.size, 2, none⟩ = some (.slice (some ⟨bk, o, none⟩) l.length cap) ∧ V.cell? ⟨bk, o + i * 3, none⟩ = some (.int .i64 u.k) ∧ V.cell? ⟨bk, o + i * 3 + 1, none⟩ = some (.int .i64 u.n) ∧ V.cell? ⟨bk, o + i * 3 + 2, none⟩ = some (.slice F u.l.length C) from
          ⟨(hV.cell (p := ⟨w.heap.size, 0, none⟩) (by show w.heap.size < _; omega)).trans y0, (hV.cell (p := ⟨w.heap.size, 1, none⟩) (by show w.heap.size < _; omega)).trans y1, (hV.cell (p := ⟨w.heap.size, 2, none⟩) (by show w.heap.size < _; omega)).trans y2, (hV.cell (p := ⟨bk, o + i * 3, none⟩) hbw).trans x0', (hV.cell (p := ⟨bk, o + i * 3 + 1, none⟩) hbw).trans x1', (hV.cell (p := ⟨bk, o + i * 3 + 2, none⟩) hbw).trans x2'⟩))
        have HO := Lib.hid (fun (V : World) (hV : Below wr.heap.size wr V) => (show V.cell? ⟨w.heap.size + 1 + 1, 2, none⟩ = some (.slice a1 ps.length c1) from (HB3.out.below hV hlt3).cell 2))
        have d2 : wr.cell? ⟨w.heap.size + 1 + 1, 2, none⟩ = some (.slice a1 ps.length c1) := HB3.out.cell 2
        have hl9 : (ps.length + 1) * 40 ≤ 140737488351232 := by have := HPS.out; omega
        have HF : Hid (∀ (w3 : World) (A' : Option Addr) (cap' : Nat) (v2 : Value) (w4 : World), Below wr.heap.size wr w3 → NewZ w3 wr.heap.size u A' cap' →
            AppTo (w3.alloc (.cells #[.int .i64 u.k, .int .i64 u.n, .slice A' u.l.length cap'] 24)) (w.heap.size + 3) 24 3 (.slice a1 ps.length c1) (ps.length + 1) (flatM ps ++ cellsM (u, A', cap')) v2 w4 →
            (w4.cell? ⟨w.heap.size, 0, none⟩ = some (.int .i64 k) ∧ w4.cell? ⟨w.heap.size, 1, none⟩ = some (.int .i64 n) ∧ w4.cell? ⟨w.heap.size, 2, none⟩ = some (.slice (some ⟨bk, o, none⟩) l.length cap) ∧ w4.cell? ⟨bk, o + i * 3, none⟩ = some (.int .i64 u.k) ∧ w4.cell? ⟨bk, o + i * 3 + 1, none⟩ = some (.int .i64 u.n) ∧ w4.cell? ⟨bk, o + i * 3 + 2, none⟩ = some (.slice F u.l.length C)) ∧
            Hid (Bk w4 (w.heap.size + 2) 24 #[.int .i64 k, .int .i64 n, .slice a1 ps.length c1]) ∧ Hid (Bk w4 w.heap.size 24 #[.int .i64 k, .int .i64 n, .slice (some ⟨bk, o, none⟩) l.length cap]) ∧ Hid (Bk w4 (w.heap.size + 1) 24 #[.int .i64 0, .int .i64 0, .slice none 0 0]) ∧
            Hid (RowZ w4 (w.heap.size + 3) v2 (ps ++ [(u, A', cap')])) ∧ Hid (Below w.heap.size w w4) ∧ Hid (∃ a2 c2, v2 = .slice a2 (ps.length + 1) c2)) := Lib.hid (by
          intro w3 A' cap' v2 w4 hV hx ha
          have hVz := hV.size
          have hVa := hV.alloc hV.size (.cells #[.int .i64 u.k, .int .i64 u.n, .slice A' u.l.length cap'] 24)
          have hR := (HROW.out.below hV).alloc (.cells #[.int .i64 u.k, .int .i64 u.n, .slice A' u.l.length cap'] 24)
          have hlt0 := hR.row.lt
          have hne : ∀ g, g < w.heap.size + 3 → some g ≠ (Value.slice a1 ps.length c1).ownBlock := fun g hg e => by
            have := hlt0 g e.symm
            omega
          have hnb : some bk ≠ (Value.slice a1 ps.length c1).ownBlock := fun e => by
            have := hlt0 bk e.symm
            have := HLT.out
            omega
          have c1' := fun q => (ha.2.1.cell_far ⟨w.heap.size, q, none⟩ (by show w.heap.size < _; simp; omega) (hne w.heap.size (by omega))).trans (hVa.cell (p := ⟨w.heap.size, q, none⟩) (by show w.heap.size < _; omega))
          have c2' := fun q => (ha.2.1.cell_far ⟨bk, q, none⟩ (by show bk < _; simp; omega) hnb).trans (hVa.cell (p := ⟨bk, q, none⟩) hbw)
          refine ⟨⟨(c1' 0).trans y0, (c1' 1).trans y1, (c1' 2).trans y2, (c2' _).trans x0', (c2' _).trans x1', (c2' _).trans x2'⟩, (HB3.out.below hVa hlt3).grown ha.2.1 (hne _ (by omega)), (HB1.out.below hVa (by omega)).grown ha.2.1 (hne _ (by omega)), (HB2.out.below hVa (by omega)).grown ha.2.1 (hne _ (by omega)), ?_, ?_, own_sliceM ha.1⟩
          · exact hR.push (hx.kept ((Below.refl _ _).alloc (Nat.le_refl _) _)) (by omega) (fun b e => (HROW.out.row.lt b e).2) ha
          · exact (HBB.out.trans (hVa.mono hz)).grown ha.2.1 (by have := hVa.size; omega) (fun g e => by have := hlt0 g e; omega))
        have HOW := Lib.hid (fun (w3 : World) (A' : Option Addr) (cap' : Nat) (hV : Below wr.heap.size wr w3) => ((HROW.out.below hV).alloc (.cells #[.int .i64 u.k, .int .i64 u.n, .slice A' u.l.length cap'] 24)).row)
        have HZW := Lib.hid (fun (V : World) (hV : Below wr.heap.size wr V) => hV.size)
        have hbk := Lib.hid ((Below.refl wr.heap.size wr).drew)
        clear hst hih hnode hu y0 y1 y2 x0' x1' x2' b3
        obtain ⟨y0, y1, y2, x0', x1', x2'⟩ := HKS.out wr (Below.refl _ _)
        have hfz2 : ∀ q, wr.frozen? ⟨w.heap.size + 1 + 1, q, none⟩ = false := fun q => HB3.out.cold q
        go_wp2_with fail
        go_region_law
          (first
           | (go_simp; go_at_call 37; refine (HIH.out _ hbk.out).mono ?_; rintro e w3 ⟨A', cap', rfl, hx3, hbn⟩; have hx := Lib.hid (hx3.wide (HZW.out _ hbk.out)); have hbk := Lib.hid (hbk.out.trans (hbn.mono hbk.out.size)); clear d2; have d2 := HO.out _ hbk.out; have hz3 : w.heap.size + 1 + 1 < w3.heap.size := Nat.lt_of_lt_of_le hlt3 (HZW.out _ hbk.out); clear hx3 hbn y0 y1 y2 x0' x1' x2')
           | (refine step_app rfl (.tmp 18) (.tmp 25) 22 rfl (w.heap.size + 3) 24 i0 (.agg #[.int .i64 0, .int .i64 0, .slice none 0 0]) 3 40 Tryd.underlying22 hi0 hz0 hz1 hz2 rfl (by decide) (.slice a1 ps.length c1) ps.length (flatM ps) rfl (HOW.out _ A' cap' hbk.out) (some ⟨w3.heap.size, 0, none⟩) 1 1 (cellsM (u, A', cap')) rfl (src_at _ _ _ (by simp) rfl) (cellsM_one _) (by unfold maxLen; omega) (by omega) (by have := HZW.out _ hbk.out; simp; omega) ?_
              rintro v2 w4 ha4
              obtain ⟨a2, c2, rfl⟩ := own_sliceM ha4.1
              obtain ⟨hks, HO4, HT4, HR4, HROW4, HBL4, HSL4⟩ := HF.out _ _ _ _ w4 hbk.out hx.out ha4
              have d4 : w4.cell? ⟨w.heap.size + 1 + 1, 2, none⟩ = some (.slice a1 ps.length c1) := HO4.out.cell 2
              have hfz4 : ∀ q, w4.frozen? ⟨w.heap.size + 1 + 1, q, none⟩ = false := fun q => HO4.out.cold q
              clear ha4))
        all_goals
          have HQ1 := Lib.hid (HROW4.out.store (a := ⟨w.heap.size + 2, 2, none⟩) (by show w.heap.size + 2 < _; omega) (.slice a2 (ps.length + 1) c2))
          go_wp2_with fail
          go_roundw
          case rel =>
            refine ⟨i + 1, ps ++ [(u, A', cap')], a2, c2, by omega, rfl, HBL4.out.setCell (by simp <;> omega) _, HT4.out.far (by show w.heap.size ≠ w.heap.size + 1 + 1; omega) _, HR4.out.far (by show w.heap.size + 1 ≠ w.heap.size + 1 + 1; omega) _, ?_, ?_, by have := HPS.out; simp; omega, ?_⟩
            · have := HO4.out.at_ 2 (.slice a2 (ps.length + 1) c2)
              rw [List.length_append]
              exact this
            · rw [List.length_append]; exact HQ1.out
            · rw [List.map_append, HPL.out]; exact HST.out.symm
          case measure => simp [intOf]; omega
      · obtain rfl : i = l.length := by omega
        have HFULL : Hid ((.node k n l : TM) = .node k n (ps.map (·.1))) := Lib.hid (by
          have := HPL.out
          rw [List.take_of_length_le (by rw [subsM_len]; omega)] at this
          rw [this]; exact HEQ.out)
        have hpar := HROW.out.parent k n
        have HPAR := Lib.hid hpar
        have hfz : ∀ o, wr.frozen? ⟨w.heap.size + 1, o, none⟩ = false := fun o => HB2.out.cold o
        have d0 : wr.cell? ⟨w.heap.size + 1, 0, none⟩ = some (.int .i64 0) := HB2.out.cell 0
        have d1 : wr.cell? ⟨w.heap.size + 1, 1, none⟩ = some (.int .i64 0) := HB2.out.cell 1
        have d2 : wr.cell? ⟨w.heap.size + 1, 2, none⟩ = some (.slice none 0 0) := HB2.out.cell 2
        have f0 : wr.cell? ⟨w.heap.size + 1 + 1, 0, none⟩ = some (.int .i64 k) := HB3.out.cell 0
        have f1 : wr.cell? ⟨w.heap.size + 1 + 1, 1, none⟩ = some (.int .i64 n) := HB3.out.cell 1
        have f2 : wr.cell? ⟨w.heap.size + 1 + 1, 2, none⟩ = some (.slice a1 ps.length c1) := HB3.out.cell 2
        have B5 := ((HB2.out.at_ 0 (.int .i64 k)).at_ 1 (.int .i64 n)).at_ 2 (.slice a1 ps.length c1)
        have HS0 := Lib.hid (B5.cell 0)
        have HS1 := Lib.hid (B5.cell 1)
        have HS2 := Lib.hid (B5.cell 2)
        clear hpar B5 b3
        go_wp2_with fail
        refine bodyPost_ret (v := .agg #[.int .i64 k, .int .i64 n, .slice a1 ps.length c1]) (by simp [results, Tryd.results37, go_sem, HS0.out, HS1.out, HS2.out]) rfl ?_
        rw [HFULL.out]
        refine ⟨a1, c1, by rw [termV_node, List.length_map], ?_, ?_⟩
        · exact (((HPAR.out.set (by show w.heap.size + 1 < _; omega) _).set (by show w.heap.size + 1 < _; omega) _).set (by show w.heap.size + 1 < _; omega) _).wide (by omega)
        · exact ((HBB.out.setCell (by simp) _).setCell (by simp) _).setCell (by simp) _

end Go.Proofs.YtodmnollgejgeaaDoor
