/- The document's Move over good terms. -/
import Derived.Test.YtofmoggjpgjdgaaDoorLRef
namespace Go.Proofs.YtofmoggjpgjdgaaDoor
open Go.RowKit
set_option linter.unusedVariables false
set_option maxRecDepth 100000

set_option maxHeartbeats 4000000 in
theorem move_any (y : Int) (hy0 : -1048576 ≤ y) (hy1 : y ≤ 1048576) : ∀ (t : TM) (m : Int) (lo hi : Nat) (A : Option Addr) (cap : Nat) (w : World), IsTerm w lo hi t A cap → hi ≤ w.heap.size → tgoodB t = true → 0 ≤ m → m + t.depth ≤ 4000000 →
    Calls Tryd.prog 80 #[termV t A cap, .int .i64 y, .int .i64 m] w (GivesM (moveT y t m) w) := by
  intro t
  induction t using TM.ind with
  | h k n l ih =>
    obtain ⟨i0, hi0, hz0, hz1, hz2⟩ := info_parts infoM
    intro m lo hi A cap w h hhi hg hm0 hm1
    obtain ⟨hl, hm⟩ := h.bounds
    obtain ⟨g1, g2, g3, g4, g5, g6, g7⟩ := good_parts hg
    rw [tdepth_node] at hm1
    have hl2 : l.length ≤ 2 := by have := manyM_le k; omega
    by_cases hk : k = 1
    · obtain rfl := var_nil hg hk
      subst hk
      have hw1 : IntKind.i64.wrap (n + y) = n + y := IntWalk.i64_in _ (by omega)
      have CV := Lib.hid (fun (V : World) => (mk_leaf 1 (n + y) V).mono fun e w' (h : _ ∧ _) => And.intro h.1 (show Below V.heap.size V w' from by rw [h.2]; exact (Below.refl _ _).alloc (Nat.le_refl _) _))
      have HW2 := Lib.hid (fun o1 o2 => ((Below.refl w.heap.size w).alloc (Nat.le_refl _) o1).alloc (by simp) o2)
      have HMM := Lib.hid hm
      clear ih h hg g1 g2 g3 g4 g5 g6 g7 hl2
      rw [termV_node, moveT_node, if_pos rfl]
      by_cases hc : n < m
      · rw [if_pos hc]
        go_enter Tryd.func80, Tryd.ntmps80
        go_wp2_with fail
        refine bodyPost_ret (v := .agg #[.int .i64 1, .int .i64 n, .slice A 0 cap]) (by simp [results, Tryd.results80, go_sem]) rfl ?_
        exact ⟨A, cap, rfl, leaf_any _ _ _ _ HMM.out, HW2.out _ _⟩
      · rw [if_neg hc]
        have HBZ := Lib.hid (Bk.last (w.alloc (.cells #[.int .i64 1, .int .i64 n, .slice A 0 cap] 24)) 24 #[.int .i64 0, .int .i64 0, .slice none 0 0] (g := w.heap.size + 1) (by simp))
        go_enter Tryd.func80, Tryd.ntmps80
        go_wp2_with fail
        refine (CV.out _).mono ?_
        rintro e w2 ⟨rfl, hb2⟩
        have hz2 := hb2.size
        simp at hz2
        have HB2 := Lib.hid ((HW2.out _ _).trans (hb2.mono (by simp <;> omega)))
        have BK2 := HBZ.out.below hb2 (by simp)
        have B5 := ((BK2.at_ 0 (.int .i64 1)).at_ 1 (.int .i64 (n + y))).at_ 2 (.slice none 0 0)
        have HS0 := Lib.hid (B5.cell 0)
        have HS1 := Lib.hid (B5.cell 1)
        have HS2 := Lib.hid (B5.cell 2)
        have hfz2 : ∀ o, w2.frozen? ⟨w.heap.size + 1, o, none⟩ = false := fun o => BK2.cold o
        have d0 : w2.cell? ⟨w.heap.size + 1, 0, none⟩ = some (.int .i64 0) := BK2.cell 0
        have d1 : w2.cell? ⟨w.heap.size + 1, 1, none⟩ = some (.int .i64 0) := BK2.cell 1
        have d2 : w2.cell? ⟨w.heap.size + 1, 2, none⟩ = some (.slice none 0 0) := BK2.cell 2
        clear B5 BK2 hb2
        go_wp2_with fail
        refine bodyPost_ret (v := .agg #[.int .i64 1, .int .i64 (n + y), .slice none 0 0]) (by simp [results, Tryd.results80, go_sem, HS0.out, HS1.out, HS2.out]) rfl ?_
        exact ⟨none, 0, rfl, leaf_in _ _ _ _, ((HB2.out.setCell (by simp) _).setCell (by simp) _).setCell (by simp) _⟩
    have e1 : (k == 1) = false := by simpa using hk
    have HEQ := Lib.hid (show moveT y (.node k n l) m = .node k n (subsM (fun t i => moveT y t (m + bndR k i)) 0 l) by rw [moveT_node, if_neg hk, moveM_subs])
    have HFACT := Lib.hid (And.intro g7 hm1)
    clear hk hg g1 g2 g3 g4 g5 g6 g7
    have IH := Lib.hid ih
    have HN := Lib.hid h.sub
    have HLT := Lib.hid hhi
    unfold maxLen at hm
    clear ih h
    rw [termV_node]
    go_enter Tryd.func80, Tryd.ntmps80
    go_wp2_with fail
    go_loopw [8] (SubsRel (fun t i => moveT y t (m + bndR k i)) w k n l A cap) (fun iv _ => l.length - (intOf iv).toNat)
    case atStart =>
      refine ⟨0, [], fun _ => False, none, 0, Nat.zero_le _, rfl, (((Below.refl w.heap.size w).alloc (Nat.le_refl _) _).alloc (by simp) _).alloc (by simp <;> omega) _, ((Bk.new w 24 _).alloc _).alloc _, (Bk.last _ _ _ (by simp)).alloc _, Bk.last _ _ _ (by simp), TermRow.nil _ _ _, fun _ h => h.elim, rfl, by rw [List.take_zero]; rfl⟩
    case round =>
      obtain ⟨i, ps, P, a1, c1, hi1, rfl, hB, b1, b2, b3, hrow, hP, hps, hpl⟩ := hrel
      have hz := hB.size
      have hlt3 := b3.lt
      have HPS := Lib.hid hps
      have HB1 := Lib.hid b1
      have HB2 := Lib.hid b2
      have HB3 := Lib.hid b3
      have HROW := Lib.hid hrow
      have HPP := Lib.hid hP
      have HPL := Lib.hid hpl
      have HBB := Lib.hid hB
      obtain ⟨y0, y1, y2, yl⟩ := (TBox.of b1 : TBox wr w.heap.size k n (.slice A l.length cap))
      clear b1 b2 hrow hP hpl hps
      by_cases hil : i < l.length
      · obtain ⟨bk, o, F, C, hA, hb1, hb2, hx, hnode⟩ := (HN.out i hil).kept hB HLT.out
        subst hA
        obtain ⟨x0', x1', x2'⟩ := hx
        have hi1' : (i : Int) < (l.length : Int) := by omega
        have hi0' : (0 : Int) ≤ (i : Int) := by omega
        have hst := subsM_take (fun t i => moveT y t (m + bndR k i)) l 0 i hil
        try rw [Nat.zero_add] at hst
        have hb01 := bndR_01 k i
        have hdep : l[i].depth ≤ depthM l := by
          have h1 := depthM_append (l.take (i + 1)) (l.drop (i + 1))
          rw [List.take_append_drop, depthM_snoc hil] at h1
          omega
        have hm2 : m + bndR k i + (l[i].depth : Int) ≤ 4000000 := by have := HFACT.out.2; omega
        have hgi := HFACT.out.1 _ (List.getElem_mem hil)
        obtain ⟨bb, hbb⟩ : ∃ bb, bndR k i = bb := ⟨_, rfl⟩
        have CB := Lib.hid (fun V => beneath_any k n (some ⟨bk, o, none⟩) l.length cap i V)
        rw [hbb] at hb01 hst CB hm2
        clear hdep
        have hw1 : IntKind.i64.wrap (m + bb) = m + bb := IntWalk.i64_in _ (by omega)
        have hih := fun (V : World) h1 h2 => IH.out (l[i]'hil) (List.getElem_mem hil) (m + bb) lo hi F C V h1 h2 hgi (by omega) hm2
        obtain ⟨x, hxc⟩ : ∃ x, moveT y l[i] (m + bb) = x := ⟨_, rfl⟩
        rw [hxc] at hst hih
        have HST := Lib.hid hst
        have HNO := Lib.hid hnode
        obtain ⟨u, hu⟩ : ∃ u, l[i] = u := ⟨_, rfl⟩
        rw [hu] at hih hnode x0' x1' x2' HNO
        have HIH : Hid (∀ (V : World), Below wr.heap.size wr V → Calls Tryd.prog 80 #[.agg #[.int .i64 u.k, .int .i64 u.n, .slice F u.l.length C], .int .i64 y, .int .i64 (m + bb)] V fun e w' =>
            ∃ A' cap', e = .returned (.agg #[.int .i64 x.k, .int .i64 x.n, .slice A' x.l.length cap']) ∧ IsTerm w' V.heap.size w'.heap.size x A' cap' ∧ Below V.heap.size V w') := Lib.hid (fun V hV => hih V (HNO.out.kept hV (by have := HLT.out; omega)) (by have := hV.size; have := HLT.out; omega))
        have hbw : bk < wr.heap.size := by have := HLT.out; omega
        have HKS := Lib.hid (fun (V : World) (hV : Below wr.heap.size wr V) => (show V.cell? ⟨w.heap.size, 0, none⟩ = some (.int .i64 k) ∧ V.cell? ⟨w.heap.size, 1, none⟩ = some (.int .i64 n) ∧ V.cell? ⟨w.heap.size, 2, none⟩ = some (.slice (some ⟨bk, o, none⟩) l.length cap) ∧ V.cell? ⟨bk, o + i * 3, none⟩ = some (.int .i64 u.k) ∧ V.cell? ⟨bk, o + i * 3 + 1, none⟩ = some (.int .i64 u.n) ∧ V.cell? ⟨bk, o + i * 3 + 2, none⟩ = some (.slice F u.l.length C) from
          ⟨(hV.cell (p := ⟨w.heap.size, 0, none⟩) (by show w.heap.size < _; omega)).trans y0, (hV.cell (p := ⟨w.heap.size, 1, none⟩) (by show w.heap.size < _; omega)).trans y1, (hV.cell (p := ⟨w.heap.size, 2, none⟩) (by show w.heap.size < _; omega)).trans y2, (hV.cell (p := ⟨bk, o + i * 3, none⟩) hbw).trans x0', (hV.cell (p := ⟨bk, o + i * 3 + 1, none⟩) hbw).trans x1', (hV.cell (p := ⟨bk, o + i * 3 + 2, none⟩) hbw).trans x2'⟩))
        have HO := Lib.hid (fun (V : World) (hV : Below wr.heap.size wr V) => (show V.cell? ⟨w.heap.size + 1 + 1, 2, none⟩ = some (.slice a1 ps.length c1) from (HB3.out.below hV hlt3).cell 2))
        have d2 : wr.cell? ⟨w.heap.size + 1 + 1, 2, none⟩ = some (.slice a1 ps.length c1) := HB3.out.cell 2
        have hl9 : ps.length ≤ 2 := by have := HPS.out; omega
        have HF : Hid (∀ (w3 : World) (A' : Option Addr) (cap' : Nat) (v2 : Value) (w4 : World), Below wr.heap.size wr w3 → IsTerm w3 wr.heap.size w3.heap.size x A' cap' →
            AppTo (w3.alloc (.cells #[.int .i64 x.k, .int .i64 x.n, .slice A' x.l.length cap'] 24)) (w.heap.size + 3) 24 3 (.slice a1 ps.length c1) (ps.length + 1) (flatM ps ++ cellsM (x, A', cap')) v2 w4 →
            (w4.cell? ⟨w.heap.size, 0, none⟩ = some (.int .i64 k) ∧ w4.cell? ⟨w.heap.size, 1, none⟩ = some (.int .i64 n) ∧ w4.cell? ⟨w.heap.size, 2, none⟩ = some (.slice (some ⟨bk, o, none⟩) l.length cap) ∧ w4.cell? ⟨bk, o + i * 3, none⟩ = some (.int .i64 u.k) ∧ w4.cell? ⟨bk, o + i * 3 + 1, none⟩ = some (.int .i64 u.n) ∧ w4.cell? ⟨bk, o + i * 3 + 2, none⟩ = some (.slice F u.l.length C)) ∧
            Hid (Bk w4 (w.heap.size + 2) 24 #[.int .i64 k, .int .i64 n, .slice a1 ps.length c1]) ∧ Hid (Bk w4 w.heap.size 24 #[.int .i64 k, .int .i64 n, .slice (some ⟨bk, o, none⟩) l.length cap]) ∧ Hid (Bk w4 (w.heap.size + 1) 24 #[.int .i64 0, .int .i64 0, .slice none 0 0]) ∧
            Hid (∃ Q : Nat → Prop, TermRow w4 (w.heap.size + 3) 24 v2 (ps ++ [(x, A', cap')]) Q ∧ ∀ b, Q b → w.heap.size + 3 ≤ b) ∧ Hid (Below w.heap.size w w4) ∧ Hid (∃ a2 c2, v2 = .slice a2 (ps.length + 1) c2)) := Lib.hid (by
          intro w3 A' cap' v2 w4 hV hx ha
          have hVz := hV.size
          have hVa := hV.alloc hV.size (.cells #[.int .i64 x.k, .int .i64 x.n, .slice A' x.l.length cap'] 24)
          have hR := (HROW.out.below hV).alloc (.cells #[.int .i64 x.k, .int .i64 x.n, .slice A' x.l.length cap'] 24)
          have hlt0 := hR.row.lt
          have hne : ∀ g, g < w.heap.size + 3 → some g ≠ (Value.slice a1 ps.length c1).ownBlock := fun g hg e => by
            have := hlt0 g e.symm
            omega
          have hnb : some bk ≠ (Value.slice a1 ps.length c1).ownBlock := fun e => by
            have := hlt0 bk e.symm
            have := HLT.out
            omega
          have c1' := fun q => (ha.2.1.cell_far ⟨w.heap.size, q, none⟩ (by show w.heap.size < _; simp; omega) (hne w.heap.size (by omega))).trans (hVa.cell (p := ⟨w.heap.size, q, none⟩) (by show w.heap.size < _; omega))
          have c2' := fun q => (ha.2.1.cell_far ⟨bk, q, none⟩ (by show bk < _; simp; omega) hnb).trans (hVa.cell (p := ⟨bk, q, none⟩) hbw)
          refine ⟨⟨(c1' 0).trans y0, (c1' 1).trans y1, (c1' 2).trans y2, (c2' _).trans x0', (c2' _).trans x1', (c2' _).trans x2'⟩, (HB3.out.below hVa hlt3).grown ha.2.1 (hne _ (by omega)), (HB1.out.below hVa (by omega)).grown ha.2.1 (hne _ (by omega)), (HB2.out.below hVa (by omega)).grown ha.2.1 (hne _ (by omega)), ⟨fun b => P b ∨ (wr.heap.size ≤ b ∧ b < w3.heap.size), ?_, ?_⟩, ?_, own_sliceM ha.1⟩
          · exact hR.push (Pn := fun b => wr.heap.size ≤ b ∧ b < w3.heap.size) (p := (x, A', cap')) (hx.alloc (Nat.le_refl _) _) (fun b hb => ⟨by have := hb.2; simp; omega, fun e => by
              have h1 := HROW.out.row.lt b e
              omega⟩) ha.1 ha.2.1 ha.2.2
          · intro b hb
            rcases hb with hb | hb
            · exact HPP.out b hb
            · omega
          · exact (HBB.out.trans (hVa.mono hz)).grown ha.2.1 (by have := hVa.size; omega) (fun g e => by have := hlt0 g e; omega))
        have HOW := Lib.hid (fun (w3 : World) (A' : Option Addr) (cap' : Nat) (hV : Below wr.heap.size wr w3) => ((HROW.out.below hV).alloc (.cells #[.int .i64 x.k, .int .i64 x.n, .slice A' x.l.length cap'] 24)).row)
        have HZW := Lib.hid (fun (V : World) (hV : Below wr.heap.size wr V) => hV.size)
        have hbk := Lib.hid ((Below.refl wr.heap.size wr).drew)
        clear hst hih hnode hu hxc y0 y1 y2 x0' x1' x2' b3
        obtain ⟨y0, y1, y2, x0', x1', x2'⟩ := HKS.out wr (Below.refl _ _)
        have hfz2 : ∀ q, wr.frozen? ⟨w.heap.size + 1 + 1, q, none⟩ = false := fun q => HB3.out.cold q
        go_wp2_with fail
        go_region_law
          (first
           | (go_simp; go_at_call 63; refine (CB.out _).mono ?_; rintro e w2 ⟨rfl, hbn⟩; have hbk := Lib.hid (hbk.out.trans (hbn.mono hbk.out.size)); clear d2 y0 y1 y2 x0' x1' x2'; have d2 := HO.out _ hbk.out; obtain ⟨y0, y1, y2, x0', x1', x2'⟩ := HKS.out _ hbk.out; clear hbn)
           | (go_simp; go_at_call 80; refine (HIH.out _ hbk.out).mono ?_; rintro e w3 ⟨A', cap', rfl, hx3, hbn⟩; have hx := Lib.hid (hx3.wide (HZW.out _ hbk.out) (Nat.le_refl _)); have hbk := Lib.hid (hbk.out.trans (hbn.mono hbk.out.size)); clear d2; have d2 := HO.out _ hbk.out; have hz3 : w.heap.size + 1 + 1 < w3.heap.size := Nat.lt_of_lt_of_le hlt3 (HZW.out _ hbk.out); clear hx3 hbn y0 y1 y2 x0' x1' x2')
           | (refine step_app rfl (.tmp 35) (.tmp 48) 22 rfl (w.heap.size + 3) 24 i0 (.agg #[.int .i64 0, .int .i64 0, .slice none 0 0]) 3 40 Tryd.underlying22 hi0 hz0 hz1 hz2 rfl (by decide) (.slice a1 ps.length c1) ps.length (flatM ps) rfl (HOW.out _ A' cap' hbk.out) (some ⟨w3.heap.size, 0, none⟩) 1 1 (cellsM (x, A', cap')) rfl (src_at _ _ _ (by simp) rfl) (cellsM_one _) (by unfold maxLen; omega) (by omega) (by have := HZW.out _ hbk.out; simp; omega) ?_
              rintro v2 w4 ha4
              obtain ⟨a2, c2, rfl⟩ := own_sliceM ha4.1
              obtain ⟨hks, HO4, HT4, HR4, HROW4, HBL4, HSL4⟩ := HF.out _ _ _ _ w4 hbk.out hx.out ha4
              have d4 : w4.cell? ⟨w.heap.size + 1 + 1, 2, none⟩ = some (.slice a1 ps.length c1) := HO4.out.cell 2
              have hfz4 : ∀ q, w4.frozen? ⟨w.heap.size + 1 + 1, q, none⟩ = false := fun q => HO4.out.cold q
              clear ha4))
        all_goals
          obtain ⟨Q, hq1, hq2⟩ := HROW4.out
          have HQ1 := Lib.hid (hq1.store (a := ⟨w.heap.size + 2, 2, none⟩) (by show w.heap.size + 2 < _; omega) hq2 (.slice a2 (ps.length + 1) c2))
          have HQ2 := Lib.hid hq2
          clear hq1 hq2
          go_wp2_with fail
          go_roundw
          case rel =>
            refine ⟨i + 1, ps ++ [(x, A', cap')], Q, a2, c2, by omega, rfl, HBL4.out.setCell (by simp <;> omega) _, HT4.out.far (by show w.heap.size ≠ w.heap.size + 1 + 1; omega) _, HR4.out.far (by show w.heap.size + 1 ≠ w.heap.size + 1 + 1; omega) _, ?_, ?_, HQ2.out, by have := HPS.out; simp; omega, ?_⟩
            · have := HO4.out.at_ 2 (.slice a2 (ps.length + 1) c2)
              rw [List.length_append]
              exact this
            · rw [List.length_append]; exact HQ1.out
            · rw [List.map_append, HPL.out]; exact HST.out.symm
          case measure => simp [intOf]; omega
      · obtain rfl : i = l.length := by omega
        have HFULL : Hid (moveT y (.node k n l) m = .node k n (ps.map (·.1))) := Lib.hid (by
          have := HPL.out
          rw [List.take_of_length_le (by rw [subsM_len]; omega)] at this
          rw [this]; exact HEQ.out)
        have hpar := HROW.out.parent (lo := w.heap.size + 3) (Nat.le_refl _) (fun b hb => HPP.out b hb) k n
        have HPAR := Lib.hid hpar
        have hfz : ∀ o, wr.frozen? ⟨w.heap.size + 1, o, none⟩ = false := fun o => HB2.out.cold o
        have d0 : wr.cell? ⟨w.heap.size + 1, 0, none⟩ = some (.int .i64 0) := HB2.out.cell 0
        have d1 : wr.cell? ⟨w.heap.size + 1, 1, none⟩ = some (.int .i64 0) := HB2.out.cell 1
        have d2 : wr.cell? ⟨w.heap.size + 1, 2, none⟩ = some (.slice none 0 0) := HB2.out.cell 2
        have f0 : wr.cell? ⟨w.heap.size + 1 + 1, 0, none⟩ = some (.int .i64 k) := HB3.out.cell 0
        have f1 : wr.cell? ⟨w.heap.size + 1 + 1, 1, none⟩ = some (.int .i64 n) := HB3.out.cell 1
        have f2 : wr.cell? ⟨w.heap.size + 1 + 1, 2, none⟩ = some (.slice a1 ps.length c1) := HB3.out.cell 2
        have B5 := ((HB2.out.at_ 0 (.int .i64 k)).at_ 1 (.int .i64 n)).at_ 2 (.slice a1 ps.length c1)
        have HS0 := Lib.hid (B5.cell 0)
        have HS1 := Lib.hid (B5.cell 1)
        have HS2 := Lib.hid (B5.cell 2)
        clear hpar B5 b3
        go_wp2_with fail
        refine bodyPost_ret (v := .agg #[.int .i64 k, .int .i64 n, .slice a1 ps.length c1]) (by simp [results, Tryd.results80, go_sem, HS0.out, HS1.out, HS2.out]) rfl ?_
        rw [HFULL.out]
        refine ⟨a1, c1, by rw [termV_node, List.length_map], ?_, ?_⟩
        · exact (HPAR.out.far3 (by omega) _ _ _).wide (by omega) (by simp [World.setCell])
        · exact ((HBB.out.setCell (by simp) _).setCell (by simp) _).setCell (by simp) _

end Go.Proofs.YtofmoggjpgjdgaaDoor
