/- scholiumref04.Depth: level by level; the document's Expr, Pattern. -/
import Derived.Test.YtmaomnpanfdjeaaDoorRSize
import Derived.Test.YtmaomnpanfdjeaaDoorDeep
import Derived.Test.YtmaomnpanfdjeaaDoorRGood
namespace Go.Proofs.YtmaomnpanfdjeaaDoor
open Go.RowKit
set_option linter.unusedVariables false
set_option maxRecDepth 100000

theorem depthL_level : ∀ ts : List RT, 0 < ts.length → depthL ts = 1 + depthL (ts.flatMap RT.l)
  | [t], _ => by
    have e : t.depth = depthL t.l + 1 := by rw [t.eta, depth_node]; rfl
    rw [depthL_cons, depthL_nil, e]
    simp
    omega
  | t :: u :: r, _ => by
    have e : t.depth = depthL t.l + 1 := by rw [t.eta, depth_node]; rfl
    have e2 : (t :: u :: r).flatMap RT.l = t.l ++ (u :: r).flatMap RT.l := rfl
    rw [depthL_cons, depthL_level (u :: r) (by simp), e, e2, depthL_append]
    omega
theorem sizeL_level : ∀ ts : List RT, sizeL ts = ts.length + sizeL (ts.flatMap RT.l)
  | [] => by simp [sizeL_nil]
  | t :: r => by
    have e : t.size = sizeL t.l + 1 := by rw [t.eta, size_node]; rfl
    rw [sizeL_cons, sizeL_level r, e, List.flatMap_cons, sizeL_append, List.length_cons]
    omega
theorem sizeL_level_take (ts : List RT) (i : Nat) : sizeL ((ts.take i).flatMap RT.l) ≤ sizeL ts := by
  have h := sizeL_level (ts.take i)
  have := sizeL_take_le ts i
  omega

theorem NodeRow.base {w : World} {base base' : Nat} {e : TypeId} {v : Value} {ps : List (RT × Option Addr × Nat)} {P : Nat → Prop} (h : NodeRow w base e v ps P) (hb : base' ≤ base) : NodeRow w base' e v ps P := by
  refine ⟨⟨h.row.1, ?_⟩, h.far, h.node⟩
  rcases h.row.2 with h1 | ⟨g, cap, cur, h1, h2, h3⟩
  · exact .inl h1
  · exact .inr ⟨g, cap, cur, h1, by omega, h3⟩
/-- A row stays over an append to another one. -/
theorem NodeRow.over {w w' : World} {base : Nat} {e : TypeId} {v : Value} {ps : List (RT × Option Addr × Nat)} {P : Nat → Prop} {row : Option Nat} (h : NodeRow w base e v ps P) (hg : w.grownBy w' row) (h1 : v.ownBlock = none ∨ v.ownBlock ≠ row) (h2 : ∀ b, P b → some b ≠ row) : NodeRow w' base e v ps P :=
  h.kept hg.size (h.row.kept hg h1) (fun b hb => hg.block b (h.far b hb).1 (h2 b hb))
def DepRel (w : World) (t : RT) (lo hi : Nat) (lv dv : Value) (wr : World) : Prop :=
  ∃ (d : Nat) (ps : List (RT × Option Addr × Nat)), dv = .int .i64 d ∧ Below w.heap.size w wr ∧ NodeRow wr w.heap.size 27 lv ps (fun b => lo ≤ b ∧ b < hi) ∧
    d ≤ 129 ∧ d + depthL (ps.map (·.1)) = t.depth ∧ sizeL (ps.map (·.1)) ≤ 8192
def DepIn (w wq : World) (lv : Value) (ps : List (RT × Option Addr × Nat)) (lo hi : Nat) (nv iv : Value) (wr : World) : Prop :=
  ∃ (i : Nat) (qs : List (RT × Option Addr × Nat)), iv = .int .i64 i ∧ i ≤ ps.length ∧ Below w.heap.size w wr ∧ wq.heap.size ≤ wr.heap.size ∧ NodeRow wr w.heap.size 27 lv ps (fun b => lo ≤ b ∧ b < hi) ∧
    NodeRow wr wq.heap.size 27 nv qs (fun b => lo ≤ b ∧ b < hi) ∧ qs.map (·.1) = ((ps.map (·.1)).take i).flatMap RT.l

set_option maxHeartbeats 2000000 in
theorem refDepth_any (t : RT) (lo hi : Nat) (A : Option Addr) (cap : Nat) (w : World) (h : IsNode w lo hi t A cap) (hhi : hi ≤ w.heap.size) :
    Calls Tryd.prog 25 #[nodeV t A cap] w fun e w' => e = .returned (.int .i64 (deepN t : Int)) ∧ Below w.heap.size w w' := by
  obtain ⟨i0, hi0, hz0, hz1, hz2⟩ := info_parts infoR
  have HS := Lib.hid (refSize_any t lo hi A cap)
  have HH := Lib.hid h
  unfold deepN
  by_cases hs : 8192 < t.size
  · rw [if_pos hs]
    have hq := topN_hi hs
    rw [hq] at HS
    unfold nodeV at HS ⊢
    clear hs hq
    go_enter Tryd.func25, Tryd.ntmps25
    go_wp2_with fail
    refine (HS.out _ (h.alloc hhi _) (by simp; omega)).mono ?_
    rintro e w1 ⟨rfl, hb1⟩
    go_wp2_with fail
    go_ret
    exact ⟨rfl, ((Below.refl _ _).alloc (Nat.le_refl _) _).trans (hb1.mono (by simp))⟩
  · rw [if_neg hs]
    have hq := topN_lo (n := t.size) (by omega)
    rw [hq] at HS
    have hs' : t.size ≤ 8192 := by omega
    unfold nodeV at HS ⊢
    have HZ := Lib.hid hs'
    clear hs hq
    go_enter Tryd.func25, Tryd.ntmps25
    go_wp2_with fail
    refine (HS.out _ (h.alloc hhi _) (by simp; omega)).mono ?_
    rintro e w1 ⟨rfl, hb1⟩
    have hsz1 := hb1.size
    simp at hsz1
    have HB1 := Lib.hid (((Below.refl _ _).alloc (Nat.le_refl _) _).trans (hb1.mono (by simp)))
    have HN1 := Lib.hid ((h.alloc hhi _).kept hb1 (by simp; omega))
    have hcell := fun p hp => hb1.cell (p := p) hp
    go_wp2_with fail
    clear hs'
    go_loopw [3, 4] (DepRel w t lo hi) (fun _ dv _ => 130 - (intOf dv).toNat)
    case atStart =>
      refine ⟨0, [(t, A, cap)], rfl, HB1.out.alloc (by omega) _, ?_, by omega, ?_, ?_⟩
      · refine ⟨?_, fun b hb => ⟨by simp; omega, fun e => ?_⟩, fun p hp => ?_⟩
        · have := World.ownsRow_lit (base := w.heap.size) (e := 27) (size := 5) w1 #[.int .i64 t.k, .int .i64 t.a, .string t.s, .int .i64 t.n, .slice A t.l.length cap] 1 (by omega) (by decide) rfl
          simp at this
          exact this
        · have e' : w1.heap.size = b := by simpa [Value.ownBlock] using e
          omega
        · obtain rfl : p = (t, A, cap) := by simpa using hp
          exact HN1.out.alloc (by omega) _
      · show 0 + depthL [t] = _
        rw [depthL_cons, depthL_nil]; omega
      · show sizeL [t] ≤ _
        rw [sizeL_cons, sizeL_nil]; have := HZ.out; omega
    case round =>
      obtain ⟨d, ps, rfl, hB, hrow, hd, hdep, hsz⟩ := hrel
      have hz := hB.size
      obtain ⟨a1, c1, rfl⟩ := own_slice hrow.row
      clear hcell hb1
      by_cases h0 : 0 < ps.length
      · by_cases hd2 : d < 129
        · obtain ⟨g, c, hv, hg1, hg2⟩ := hrow.row.form h0
          injection hv with hv _ hv2
          subst hv
          subst hv2
          have HROW := Lib.hid hrow
          have HDEP := Lib.hid hdep
          have HSZ := Lib.hid hsz
          have HB := Lib.hid hB
          clear hrow hdep hsz hB
          go_wp2_with fail
          rename World => wq
          go_loopw [5, 6] (DepIn w wq (.slice (some ⟨g, 0, none⟩) ps.length c1) ps lo hi) (fun _ iv _ => ps.length - (intOf iv).toNat)
          case atStart =>
            refine ⟨0, [], rfl, Nat.zero_le _, HB.out.alloc hz _, by simp, HROW.out.alloc _, ?_, by rw [List.take_zero]; rfl⟩
            refine ⟨?_, fun b hb => ⟨by simp; omega, fun e => ?_⟩, fun p hp => by cases hp⟩
            · have := World.ownsRow_lit (base := wq.heap.size) (e := 27) (size := 5) wq #[] 0 (Nat.le_refl _) (by decide) rfl
              simp at this
              exact this
            · have e' : wq.heap.size = b := by simpa [Value.ownBlock] using e
              omega
          case round =>
            obtain ⟨i, qs, rfl, hi1, hB2, hwz, hrow2, hnrow, hqs⟩ := hrel
            obtain ⟨a2, c2, rfl⟩ := own_slice hnrow.row
            have HROW2 := Lib.hid hrow2
            have HNROW := Lib.hid hnrow
            have HQS := Lib.hid hqs
            have HB2 := Lib.hid hB2
            by_cases hil : i < ps.length
            · have hat : ∀ r, r < 5 → wr.cell? ⟨g, i * 5 + r, none⟩ = (cellsP ps[i])[r]? := fun r hr => by
                have h1 := hrow2.row.cellAt (i * 5 + r) (by omega)
                rw [h1, flatP_at ps i r hil hr]
              have x4 : wr.cell? ⟨g, i * 5 + 4, none⟩ = some (.slice ps[i].2.1 ps[i].1.l.length ps[i].2.2) := hat 4 (by omega)
              obtain ⟨ss, hs1, hs2, hs3, hs4⟩ := (hrow2.node ps[i] (List.getElem_mem hil)).first ps[i].1.l.length (Nat.le_refl _)
              rw [List.take_length] at hs1
              have hq1 : (qs ++ ss).map (·.1) = ((ps.map (·.1)).take (i + 1)).flatMap RT.l := by
                rw [List.map_append, HQS.out, hs1, List.take_succ_eq_append_getElem (by simpa using hil), List.flatMap_append]
                simp
              have hlq : qs.length + ps[i].1.l.length ≤ 8192 := by
                have h1 := sizeL_len ((qs ++ ss).map (·.1))
                have h2 := sizeL_level_take (ps.map (·.1)) (i + 1)
                rw [← hq1] at h2
                have h3 := HSZ.out
                rw [List.length_map, List.length_append, hs2] at h1
                omega
              have hne : ∀ k, (Value.slice a2 qs.length c2).ownBlock = some k → wq.heap.size ≤ k := fun k hk => (hnrow.row.lt k hk).1
              have HNE := Lib.hid hne
              have HSR := Lib.hid (hs3 wr (fun _ _ _ => rfl))
              have HS4 := Lib.hid hs4
              have HS2 := Lib.hid hs2
              have HQ1 := Lib.hid hq1
              obtain ⟨u, hu⟩ : ∃ u, ps[i] = u := ⟨_, rfl⟩
              rw [hu] at x4 HSR HS2 hlq
              have hi0' : (i : Int) < (ps.length : Int) := by omega
              have hi9 : (i : Int) ≤ 8192 := by
                have h1 := sizeL_len (ps.map (·.1))
                have h2 := HSZ.out
                rw [List.length_map] at h1
                omega
              clear hat hs1 hs2 hs3 hs4 hq1 hne hu hrow2 hnrow hqs hB2
              have HLQ := Lib.hid hlq
              clear hlq
              go_wp2_with (at_builtin; refine wpList_app rfl _ _ 25 rfl wq.heap.size 27 i0 (.agg #[.int .i64 0, .int .i64 0, .string ⟨#[]⟩, .int .i64 0, .slice none 0 0]) 5 64 Tryd.underlying25 hi0 hz0 hz1 hz2 rfl (by decide) _ _ _ rfl HNROW.out.row u.2.1 u.1.l.length u.2.2 (flatP ss) rfl HSR.out (flatP_one _) ?c3 ?c4 ?c5 ?_)
              case c3 => have := HLQ.out; unfold maxLen; omega
              case c4 => have := HLQ.out; omega
              rintro v2 w3 ha
              have hsz3 := ha.2.1.size
              have HR1 := Lib.hid (HROW2.out.over ha.2.1 (.inr (fun e => by
                have h1 := HNE.out g (e ▸ rfl)
                omega)) (fun b hb e => by have h1 := HNE.out b e.symm; omega))
              have HR2 := Lib.hid (HNROW.out.app rfl HS2.out HS4.out ha)
              have HB3 := Lib.hid (HB2.out.grown ha.2.1 (by omega) (fun k hk => by have := HNE.out k hk; omega))
              clear ha
              go_wp2_with fail
              go_roundw
              case rel => exact ⟨i + 1, qs ++ ss, rfl, by omega, HB3.out, by omega, HR1.out, HR2.out, HQ1.out⟩
              case measure => simp [intOf]; omega
            · obtain rfl : i = ps.length := by omega
              have HEND : Hid (qs.map (·.1) = (ps.map (·.1)).flatMap RT.l) := Lib.hid (by rw [HQS.out, List.take_of_length_le (by simp)])
              clear hrow2 hnrow hqs hB2 HQS
              go_wp2_with fail
              go_roundw
              case rel =>
                refine ⟨d + 1, qs, rfl, HB2.out, HNROW.out.base hz, by omega, ?_, ?_⟩
                · have h1 := depthL_level (ps.map (·.1)) (by simpa using h0)
                  rw [HEND.out]
                  have := HDEP.out
                  omega
                · have h1 := sizeL_level (ps.map (·.1))
                  rw [HEND.out]
                  have := HSZ.out
                  omega
              case measure => simp [intOf]; omega
        · have e : d = 129 := by omega
          have HR := Lib.hid (show (d : Nat) = dpN t.depth by rw [← hdep, e]; unfold dpN; omega)
          clear e hdep hrow hsz
          go_wp2_with fail
          go_ret
          exact ⟨ret_nat HR.out, hB⟩
      · have e : ps = [] := List.eq_nil_of_length_eq_zero (by omega)
        subst e
        have HR := Lib.hid (show (d : Nat) = dpN t.depth by rw [← hdep]; unfold dpN; simp [depthL_nil]; omega)
        clear hdep hrow hsz
        go_wp2_with fail
        go_ret
        exact ⟨ret_nat HR.out, hB⟩


theorem refExpr_any (t : RT) (lo hi : Nat) (A : Option Addr) (cap : Nat) (w : World) (h : IsNode w lo hi t A cap) (hhi : hi ≤ w.heap.size) :
    Calls Tryd.prog 9 #[nodeV t A cap] w fun e w' => e = .returned (.bool (fitB t && goodB t false)) ∧ Below w.heap.size w w' := by
  have HF := Lib.hid (refDepth_any t lo hi A cap)
  have HG := Lib.hid (good_any t false lo hi A cap)
  obtain ⟨r, hr⟩ : ∃ r, goodB t false = r := ⟨_, rfl⟩
  rw [hr] at HG ⊢
  unfold fitB
  obtain ⟨d, hd⟩ : ∃ d, deepN t = d := ⟨_, rfl⟩
  rw [hd] at HF ⊢
  clear hr hd
  unfold nodeV at HF HG ⊢
  by_cases hdd : d ≤ 128
  · have e : decide (d ≤ 128) = true := decide_eq_true hdd
    have e2 : (d : Int) ≤ 128 := by omega
    rw [e, Bool.true_and]
    clear e hdd
    go_enter Tryd.func9, Tryd.ntmps9
    go_wp2_with fail
    refine (HF.out _ (h.alloc hhi _) (by simp; omega)).mono ?_
    rintro e w1 ⟨rfl, hb1⟩
    have hz1 := hb1.size
    simp at hz1
    have hB1 := ((Below.refl _ _).alloc (Nat.le_refl _) _).trans (hb1.mono (by simp))
    have hcell := fun p hp => hb1.cell (p := p) hp
    go_wp2_with fail
    refine (HG.out _ ((h.alloc hhi _).kept hb1 (by simp; omega)) (by omega)).mono ?_
    rintro e w2 ⟨rfl, hb2⟩
    go_wp2_with fail
    go_ret
    exact ⟨rfl, hB1.trans (hb2.mono (by omega))⟩
  · have e : decide (d ≤ 128) = false := decide_eq_false hdd
    have e2 : ¬ (d : Int) ≤ 128 := by omega
    rw [e, Bool.false_and]
    clear e hdd HG
    go_enter Tryd.func9, Tryd.ntmps9
    go_wp2_with fail
    refine (HF.out _ (h.alloc hhi _) (by simp; omega)).mono ?_
    rintro e w1 ⟨rfl, hb1⟩
    go_wp2_with fail
    go_ret
    exact ⟨rfl, ((Below.refl _ _).alloc (Nat.le_refl _) _).trans (hb1.mono (by simp))⟩

theorem refPattern_any (t : RT) (lo hi : Nat) (A : Option Addr) (cap : Nat) (w : World) (h : IsNode w lo hi t A cap) (hhi : hi ≤ w.heap.size) :
    Calls Tryd.prog 10 #[nodeV t A cap] w fun e w' => e = .returned (.bool (fitB t && goodB t true)) ∧ Below w.heap.size w w' := by
  have HF := Lib.hid (refDepth_any t lo hi A cap)
  have HG := Lib.hid (good_any t true lo hi A cap)
  obtain ⟨r, hr⟩ : ∃ r, goodB t true = r := ⟨_, rfl⟩
  rw [hr] at HG ⊢
  unfold fitB
  obtain ⟨d, hd⟩ : ∃ d, deepN t = d := ⟨_, rfl⟩
  rw [hd] at HF ⊢
  clear hr hd
  unfold nodeV at HF HG ⊢
  by_cases hdd : d ≤ 128
  · have e : decide (d ≤ 128) = true := decide_eq_true hdd
    have e2 : (d : Int) ≤ 128 := by omega
    rw [e, Bool.true_and]
    clear e hdd
    go_enter Tryd.func10, Tryd.ntmps10
    go_wp2_with fail
    refine (HF.out _ (h.alloc hhi _) (by simp; omega)).mono ?_
    rintro e w1 ⟨rfl, hb1⟩
    have hz1 := hb1.size
    simp at hz1
    have hB1 := ((Below.refl _ _).alloc (Nat.le_refl _) _).trans (hb1.mono (by simp))
    have hcell := fun p hp => hb1.cell (p := p) hp
    go_wp2_with fail
    refine (HG.out _ ((h.alloc hhi _).kept hb1 (by simp; omega)) (by omega)).mono ?_
    rintro e w2 ⟨rfl, hb2⟩
    go_wp2_with fail
    go_ret
    exact ⟨rfl, hB1.trans (hb2.mono (by omega))⟩
  · have e : decide (d ≤ 128) = false := decide_eq_false hdd
    have e2 : ¬ (d : Int) ≤ 128 := by omega
    rw [e, Bool.false_and]
    clear e hdd HG
    go_enter Tryd.func10, Tryd.ntmps10
    go_wp2_with fail
    refine (HF.out _ (h.alloc hhi _) (by simp; omega)).mono ?_
    rintro e w1 ⟨rfl, hb1⟩
    go_wp2_with fail
    go_ret
    exact ⟨rfl, ((Below.refl _ _).alloc (Nat.le_refl _) _).trans (hb1.mono (by simp))⟩

end Go.Proofs.YtmaomnpanfdjeaaDoor
