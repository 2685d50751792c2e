/- scholiumref07.Depth: level by level. -/
import Derived.Test.YtofmoggjpgjdgaaDoorTRSize
import Derived.Test.YtofmoggjpgjdgaaDoorM1
namespace Go.Proofs.YtofmoggjpgjdgaaDoor
open Go.RowKit
set_option linter.unusedVariables false
set_option maxRecDepth 100000

theorem depthM_level : ∀ ts : List TM, 0 < ts.length → depthM ts = 1 + depthM (ts.flatMap TM.l)
  | [t], _ => by
    have e : t.depth = depthM t.l + 1 := by rw [t.eta, tdepth_node]; rfl
    rw [depthM_cons, depthM_nil, e]
    simp
    omega
  | t :: u :: r, _ => by
    have e : t.depth = depthM t.l + 1 := by rw [t.eta, tdepth_node]; rfl
    have e2 : (t :: u :: r).flatMap TM.l = t.l ++ (u :: r).flatMap TM.l := rfl
    rw [depthM_cons, depthM_level (u :: r) (by simp), e, e2, depthM_append]
    omega
theorem sizeM_level : ∀ ts : List TM, sizeM ts = ts.length + sizeM (ts.flatMap TM.l)
  | [] => by simp [sizeM_nil]
  | t :: r => by
    have e : t.size = sizeM t.l + 1 := by rw [t.eta, tsize_node]; rfl
    rw [sizeM_cons, sizeM_level r, e, List.flatMap_cons, sizeM_append, List.length_cons]
    omega
theorem sizeM_level_take (ts : List TM) (i : Nat) : sizeM ((ts.take i).flatMap TM.l) ≤ sizeM ts := by
  have h := sizeM_level (ts.take i)
  have := sizeM_take_le ts i
  omega

theorem TermRow.base {w : World} {base base' : Nat} {e : TypeId} {v : Value} {ps : List (TM × Option Addr × Nat)} {P : Nat → Prop} (h : TermRow w base e v ps P) (hb : base' ≤ base) : TermRow w base' e v ps P := by
  refine ⟨⟨h.row.1, ?_⟩, h.far, h.node⟩
  rcases h.row.2 with h1 | ⟨g, cap, cur, h1, h2, h3⟩
  · exact .inl h1
  · exact .inr ⟨g, cap, cur, h1, by omega, h3⟩
/-- A row stays over an append to another one. -/
theorem TermRow.over {w w' : World} {base : Nat} {e : TypeId} {v : Value} {ps : List (TM × Option Addr × Nat)} {P : Nat → Prop} {row : Option Nat} (h : TermRow w base e v ps P) (hg : w.grownBy w' row) (h1 : v.ownBlock = none ∨ v.ownBlock ≠ row) (h2 : ∀ b, P b → some b ≠ row) : TermRow w' base e v ps P :=
  h.kept hg.size (h.row.kept hg h1) (fun b hb => hg.block b (h.far b hb).1 (h2 b hb))
def TDepRel (w : World) (t : TM) (lo hi : Nat) (lv dv : Value) (wr : World) : Prop :=
  ∃ (d : Nat) (ps : List (TM × Option Addr × Nat)), dv = .int .i64 d ∧ Below w.heap.size w wr ∧ TermRow wr w.heap.size 24 lv ps (fun b => lo ≤ b ∧ b < hi) ∧
    d ≤ 129 ∧ d + depthM (ps.map (·.1)) = t.depth ∧ sizeM (ps.map (·.1)) ≤ 8192
def TDepIn (w wq : World) (lv : Value) (ps : List (TM × Option Addr × Nat)) (lo hi : Nat) (nv iv : Value) (wr : World) : Prop :=
  ∃ (i : Nat) (qs : List (TM × Option Addr × Nat)), iv = .int .i64 i ∧ i ≤ ps.length ∧ Below w.heap.size w wr ∧ wq.heap.size ≤ wr.heap.size ∧ TermRow wr w.heap.size 24 lv ps (fun b => lo ≤ b ∧ b < hi) ∧
    TermRow wr wq.heap.size 24 nv qs (fun b => lo ≤ b ∧ b < hi) ∧ qs.map (·.1) = ((ps.map (·.1)).take i).flatMap TM.l

set_option maxHeartbeats 2000000 in
theorem refTDepth_any (t : TM) (lo hi : Nat) (A : Option Addr) (cap : Nat) (w : World) (h : IsTerm w lo hi t A cap) (hhi : hi ≤ w.heap.size) :
    Calls Tryd.prog 36 #[termV t A cap] w fun e w' => e = .returned (.int .i64 (tdeepN t : Int)) ∧ Below w.heap.size w w' := by
  obtain ⟨i0, hi0, hz0, hz1, hz2⟩ := info_parts infoM
  have HS := Lib.hid (refTSize_any t lo hi A cap)
  have HH := Lib.hid h
  unfold tdeepN
  by_cases hs : 8192 < t.size
  · rw [if_pos hs]
    have hq := topN_hi hs
    rw [hq] at HS
    unfold termV at HS ⊢
    clear hs hq
    go_enter Tryd.func36, Tryd.ntmps36
    go_wp2_with fail
    refine (HS.out _ (h.alloc hhi _) (by simp; omega)).mono ?_
    rintro e w1 ⟨rfl, hb1⟩
    go_wp2_with fail
    go_ret
    exact ⟨rfl, ((Below.refl _ _).alloc (Nat.le_refl _) _).trans (hb1.mono (by simp))⟩
  · rw [if_neg hs]
    have hq := topN_lo (n := t.size) (by omega)
    rw [hq] at HS
    have hs' : t.size ≤ 8192 := by omega
    unfold termV at HS ⊢
    have HZ := Lib.hid hs'
    clear hs hq
    go_enter Tryd.func36, Tryd.ntmps36
    go_wp2_with fail
    refine (HS.out _ (h.alloc hhi _) (by simp; omega)).mono ?_
    rintro e w1 ⟨rfl, hb1⟩
    have hsz1 := hb1.size
    simp at hsz1
    have HB1 := Lib.hid (((Below.refl _ _).alloc (Nat.le_refl _) _).trans (hb1.mono (by simp)))
    have HN1 := Lib.hid ((h.alloc hhi _).kept hb1 (by simp; omega))
    have hcell := fun p hp => hb1.cell (p := p) hp
    go_wp2_with fail
    clear hs'
    go_loopw [3, 4] (TDepRel w t lo hi) (fun _ dv _ => 130 - (intOf dv).toNat)
    case atStart =>
      refine ⟨0, [(t, A, cap)], rfl, HB1.out.alloc (by omega) _, ?_, by omega, ?_, ?_⟩
      · refine ⟨?_, fun b hb => ⟨by simp; omega, fun e => ?_⟩, fun p hp => ?_⟩
        · have := World.ownsRow_lit (base := w.heap.size) (e := 24) (size := 3) w1 #[.int .i64 t.k, .int .i64 t.n, .slice A t.l.length cap] 1 (by omega) (by decide) rfl
          simp at this
          exact this
        · have e' : w1.heap.size = b := by simpa [Value.ownBlock] using e
          omega
        · obtain rfl : p = (t, A, cap) := by simpa using hp
          exact HN1.out.alloc (by omega) _
      · show 0 + depthM [t] = _
        rw [depthM_cons, depthM_nil]; omega
      · show sizeM [t] ≤ _
        rw [sizeM_cons, sizeM_nil]; have := HZ.out; omega
    case round =>
      obtain ⟨d, ps, rfl, hB, hrow, hd, hdep, hsz⟩ := hrel
      have hz := hB.size
      obtain ⟨a1, c1, rfl⟩ := own_sliceM hrow.row
      clear hcell hb1
      by_cases h0 : 0 < ps.length
      · by_cases hd2 : d < 129
        · obtain ⟨g, c, hv, hg1, hg2⟩ := hrow.row.form h0
          injection hv with hv _ hv2
          subst hv
          subst hv2
          have HROW := Lib.hid hrow
          have HDEP := Lib.hid hdep
          have HSZ := Lib.hid hsz
          have HB := Lib.hid hB
          clear hrow hdep hsz hB
          go_wp2_with fail
          rename World => wq
          go_loopw [5, 6] (TDepIn w wq (.slice (some ⟨g, 0, none⟩) ps.length c1) ps lo hi) (fun _ iv _ => ps.length - (intOf iv).toNat)
          case atStart =>
            refine ⟨0, [], rfl, Nat.zero_le _, HB.out.alloc hz _, by simp, HROW.out.alloc _, ?_, by rw [List.take_zero]; rfl⟩
            refine ⟨?_, fun b hb => ⟨by simp; omega, fun e => ?_⟩, fun p hp => by cases hp⟩
            · have := World.ownsRow_lit (base := wq.heap.size) (e := 24) (size := 3) wq #[] 0 (Nat.le_refl _) (by decide) rfl
              simp at this
              exact this
            · have e' : wq.heap.size = b := by simpa [Value.ownBlock] using e
              omega
          case round =>
            obtain ⟨i, qs, rfl, hi1, hB2, hwz, hrow2, hnrow, hqs⟩ := hrel
            obtain ⟨a2, c2, rfl⟩ := own_sliceM hnrow.row
            have HROW2 := Lib.hid hrow2
            have HNROW := Lib.hid hnrow
            have HQS := Lib.hid hqs
            have HB2 := Lib.hid hB2
            by_cases hil : i < ps.length
            · have hat : ∀ r, r < 3 → wr.cell? ⟨g, i * 3 + r, none⟩ = (cellsM ps[i])[r]? := fun r hr => by
                have h1 := hrow2.row.cellAt (i * 3 + r) (by omega)
                rw [h1, flatM_at ps i r hil hr]
              have x4 : wr.cell? ⟨g, i * 3 + 2, none⟩ = some (.slice ps[i].2.1 ps[i].1.l.length ps[i].2.2) := hat 2 (by omega)
              obtain ⟨ss, hs1, hs2, hs3, hs4⟩ := (hrow2.node ps[i] (List.getElem_mem hil)).first ps[i].1.l.length (Nat.le_refl _)
              rw [List.take_length] at hs1
              have hq1 : (qs ++ ss).map (·.1) = ((ps.map (·.1)).take (i + 1)).flatMap TM.l := by
                rw [List.map_append, HQS.out, hs1, List.take_succ_eq_append_getElem (by simpa using hil), List.flatMap_append]
                simp
              have hlq : qs.length + ps[i].1.l.length ≤ 8192 := by
                have h1 := sizeM_len ((qs ++ ss).map (·.1))
                have h2 := sizeM_level_take (ps.map (·.1)) (i + 1)
                rw [← hq1] at h2
                have h3 := HSZ.out
                rw [List.length_map, List.length_append, hs2] at h1
                omega
              have hne : ∀ k, (Value.slice a2 qs.length c2).ownBlock = some k → wq.heap.size ≤ k := fun k hk => (hnrow.row.lt k hk).1
              have HNE := Lib.hid hne
              have HSR := Lib.hid (hs3 wr (fun _ _ _ => rfl))
              have HS4 := Lib.hid hs4
              have HS2 := Lib.hid hs2
              have HQ1 := Lib.hid hq1
              obtain ⟨u, hu⟩ : ∃ u, ps[i] = u := ⟨_, rfl⟩
              rw [hu] at x4 HSR HS2 hlq
              have hi0' : (i : Int) < (ps.length : Int) := by omega
              have hi9 : (i : Int) ≤ 8192 := by
                have h1 := sizeM_len (ps.map (·.1))
                have h2 := HSZ.out
                rw [List.length_map] at h1
                omega
              clear hat hs1 hs2 hs3 hs4 hq1 hne hu hrow2 hnrow hqs hB2
              have HLQ := Lib.hid hlq
              clear hlq
              go_wp2_with (at_builtin; refine wpList_app rfl _ _ 22 rfl wq.heap.size 24 i0 (.agg #[.int .i64 0, .int .i64 0, .slice none 0 0]) 3 40 Tryd.underlying22 hi0 hz0 hz1 hz2 rfl (by decide) _ _ _ rfl HNROW.out.row u.2.1 u.1.l.length u.2.2 (flatM ss) rfl HSR.out (flatM_one _) ?c3 ?c4 ?c5 ?_)
              case c3 => have := HLQ.out; unfold maxLen; omega
              case c4 => have := HLQ.out; omega
              rintro v2 w3 ha
              have hsz3 := ha.2.1.size
              have HR1 := Lib.hid (HROW2.out.over ha.2.1 (.inr (fun e => by
                have h1 := HNE.out g (e ▸ rfl)
                omega)) (fun b hb e => by have h1 := HNE.out b e.symm; omega))
              have HR2 := Lib.hid (HNROW.out.app rfl HS2.out HS4.out ha)
              have HB3 := Lib.hid (HB2.out.grown ha.2.1 (by omega) (fun k hk => by have := HNE.out k hk; omega))
              clear ha
              go_wp2_with fail
              go_roundw
              case rel => exact ⟨i + 1, qs ++ ss, rfl, by omega, HB3.out, by omega, HR1.out, HR2.out, HQ1.out⟩
              case measure => simp [intOf]; omega
            · obtain rfl : i = ps.length := by omega
              have HEND : Hid (qs.map (·.1) = (ps.map (·.1)).flatMap TM.l) := Lib.hid (by rw [HQS.out, List.take_of_length_le (by simp)])
              clear hrow2 hnrow hqs hB2 HQS
              go_wp2_with fail
              go_roundw
              case rel =>
                refine ⟨d + 1, qs, rfl, HB2.out, HNROW.out.base hz, by omega, ?_, ?_⟩
                · have h1 := depthM_level (ps.map (·.1)) (by simpa using h0)
                  rw [HEND.out]
                  have := HDEP.out
                  omega
                · have h1 := sizeM_level (ps.map (·.1))
                  rw [HEND.out]
                  have := HSZ.out
                  omega
              case measure => simp [intOf]; omega
        · have e : d = 129 := by omega
          have HR := Lib.hid (show (d : Nat) = dpN t.depth by rw [← hdep, e]; unfold dpN; omega)
          clear e hdep hrow hsz
          go_wp2_with fail
          go_ret
          exact ⟨ret_nat HR.out, hB⟩
      · have e : ps = [] := List.eq_nil_of_length_eq_zero (by omega)
        subst e
        have HR := Lib.hid (show (d : Nat) = dpN t.depth by rw [← hdep]; unfold dpN; simp [depthM_nil]; omega)
        clear hdep hrow hsz
        go_wp2_with fail
        go_ret
        exact ⟨ret_nat HR.out, hB⟩


end Go.Proofs.YtofmoggjpgjdgaaDoor
