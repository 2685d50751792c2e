/- The walk of the law LiftAlls. -/
import Derived.Test.YtodmnollgejgeaaDoorLSame
import Derived.Test.YtodmnollgejgeaaDoorLRefs
import Derived.Test.YtodmnollgejgeaaDoorLAll
import Derived.Test.YtodmnollgejgeaaDoorLCopied
import Derived.Test.YtodmnollgejgeaaDoorLSameAll
namespace Go.Proofs.YtodmnollgejgeaaDoor
open Go.RowKit
set_option linter.unusedVariables false
set_option maxRecDepth 100000

theorem spo_below {P : Nat → Prop} {w w' : World} {B : Nat} (h : Spo P w w') (hP : ∀ b, P b → B ≤ b) (hB : B ≤ w.heap.size) : Below B w w' :=
  ⟨h.os, h.tape, h.output, h.size, fun k hk => h.block k (by omega) (fun e => by have := hP k e; omega)⟩
/-- A row of terms, in blocks from base on. -/
def RowT (w : World) (base : Nat) (v : Value) (ps : List (TM × Option Addr × Nat)) : Prop :=
  ∃ P : Nat → Prop, TermRow w base 24 v ps P ∧ ∀ b, P b → base ≤ b
theorem RowT.row {w : World} {base : Nat} {v : Value} {ps : List (TM × Option Addr × Nat)} (h : RowT w base v ps) : w.ownsRow base 24 3 v ps.length (flatM ps) := by
  obtain ⟨P, h, _⟩ := h
  exact h.row
theorem RowT.below {w w' : World} {base : Nat} {v : Value} {ps : List (TM × Option Addr × Nat)} (h : RowT w base v ps) (hb : Below w.heap.size w w') : RowT w' base v ps := by
  obtain ⟨P, h1, h2⟩ := h
  exact ⟨P, h1.below hb, h2⟩
theorem RowT.alloc {w : World} {base : Nat} {v : Value} {ps : List (TM × Option Addr × Nat)} (h : RowT w base v ps) (o : Obj) : RowT (w.alloc o) base v ps := h.below ((Below.refl _ _).alloc (Nat.le_refl _) _)
theorem RowT.push {w w' : World} {base : Nat} {v v' : Value} {ps : List (TM × Option Addr × Nat)} {u : TM} {A : Option Addr} {cap : Nat} (h : RowT w base v ps) {lo hi : Nat} (hn : IsTerm w lo hi u A cap) (hlo : base ≤ lo) (hhi : hi ≤ w.heap.size) (hv : ∀ b, v.ownBlock = some b → b < lo)
    (ha : AppTo w base 24 3 v (ps.length + 1) (flatM ps ++ cellsM (u, A, cap)) v' w') : RowT w' base v' (ps ++ [(u, A, cap)]) := by
  obtain ⟨P, h1, h2⟩ := h
  refine ⟨fun b => P b ∨ (lo ≤ b ∧ b < hi), h1.push (Pn := fun b => lo ≤ b ∧ b < hi) (p := (u, A, cap)) hn (fun b hb => ⟨by omega, fun e => by have := hv b e; omega⟩) ha.1 ha.2.1 ha.2.2, fun b hb => ?_⟩
  rcases hb with hb | hb
  · exact h2 b hb
  · omega
theorem RowT.parent {w : World} {base : Nat} {A : Option Addr} {cap : Nat} {ps : List (TM × Option Addr × Nat)} (h : RowT w base (.slice A ps.length cap) ps) : IsTerms w base w.heap.size (ps.map (·.1)) A cap := by
  obtain ⟨P, h1, h2⟩ := h
  exact h1.parent (Nat.le_refl _) h2 0 0
/-- The cells of a row's terms. -/
theorem row_cells {w : World} {base : Nat} {a : Option Addr} {c : Nat} {ps : List (TM × Option Addr × Nat)} {P : Nat → Prop} (h : TermRow w base 24 (.slice a ps.length c) ps P) (j : Nat) (hj : j < ps.length) :
    ∃ g, a = some ⟨g, 0, none⟩ ∧ g < w.heap.size ∧ ¬ P g ∧ Cells3 w g (j * 3) ps[j].1 ps[j].2.1 ps[j].2.2 := by
  obtain ⟨g, c', hv, _, _⟩ := h.row.form (by omega)
  injection hv with hv _ _
  subst hv
  have hat := fun r (hr : r < 3) => (h.row.cellAt (j * 3 + r) (by omega)).trans (flatM_at ps j r hj hr)
  have a0 := hat 0 (by omega)
  rw [Nat.add_zero] at a0
  have x0 : w.cell? ⟨g, j * 3, none⟩ = some (.int .i64 ps[j].1.k) := by rw [a0]; rfl
  exact ⟨g, rfl, World.block_lt_of_cell? w _ x0, fun hp => (h.far g hp).2 rfl, x0, by rw [hat 1 (by omega)]; rfl, by rw [hat 2 (by omega)]; rfl⟩
theorem empty_row (w : World) : (w.alloc (.cells #[] 24)).ownsRow w.heap.size 24 3 (.slice (some ⟨w.heap.size, 0, none⟩) 0 0) 0 [] := by
  have h := World.ownsRow_lit (base := w.heap.size) (e := 24) (size := 3) w #[] 0 (Nat.le_refl _) (by decide) rfl
  simpa using h

def WantRel (ts : List TM) (k n : Int) (w : World) (wv cv iv : Value) (wr : World) : Prop :=
  ∃ (i : Nat) (ps : List (TM × Option Addr × Nat)) (c : Int), i ≤ ts.length ∧ iv = .int .i64 i ∧ cv = .int .i64 c ∧ Below w.heap.size w wr ∧ RowT wr w.heap.size wv ps ∧ ps.length = i ∧
    (c = 0 → okL k n (ts.take i) = true ∧ ps.map (·.1) = mapL k n (ts.take i)) ∧ (c ≠ 0 → errL k n ts = c)
def OwnRel (ts : List TM) (W1 : World) (ov jv : Value) (wr : World) : Prop :=
  ∃ (j : Nat) (ps : List (TM × Option Addr × Nat)), j ≤ ts.length ∧ jv = .int .i64 j ∧ Below W1.heap.size W1 wr ∧ RowZ wr W1.heap.size ov ps ∧ ps.length = j ∧ ps.map (·.1) = ts.take j

theorem AllIs.one {ts : List TM} {k n : Int} {w : World} {e : Ending} {w' : World} (h : AllIs ts k n w e w') :
    ∃ A L c, e = .returned (.tuple #[.slice A L c, .int .i64 (errL k n ts)]) ∧ (errL k n ts = 0 → L = ts.length ∧ IsTerms w' w.heap.size w'.heap.size (mapL k n ts) A c) ∧ (errL k n ts ≠ 0 → L = 0) ∧ Below w.heap.size w w' := by
  obtain ⟨⟨h1, A, c, h2, h3⟩ | ⟨h1, h2⟩, hb⟩ := h
  · exact ⟨A, _, c, by rw [h1]; exact h2, fun _ => ⟨rfl, h3⟩, fun h => absurd h1 h, hb⟩
  · exact ⟨none, 0, 0, h2, fun h => absurd h h1, fun _ => rfl, hb⟩

set_option maxHeartbeats 1500000 in
theorem lalls_walk (ts : List TM) (A : Option Addr) (cap : Nat) (k n : Int) (w : World) (h : IsTerms w 0 w.heap.size ts A cap) (hsz : ts.all sizedT = true) (hS : ShapesM w) :
    Calls Tryd.prog 8 #[.slice A ts.length cap, .int .i64 k, .int .i64 n] w fun e w' => e = .returned (.bool true) ∧ Below w.heap.size w w' := by
  obtain ⟨i0, hi0, hz0, hz1, hz2⟩ := info_parts infoM
  obtain ⟨hl, hm⟩ := h.bounds
  have HN := Lib.hid h.sub
  have HS := Lib.hid (fun (V : World) (hV : Below w.heap.size w V) => hS.kept hV)
  have AW := Lib.hid (fun (V : World) (hV : Below w.heap.size w V) => awakeL_any V (HS.out V hV))
  have HSZ := Lib.hid (List.all_eq_true.1 hsz)
  unfold maxLen at hm
  clear h hS hsz
  by_cases hlen : 50 < ts.length
  · have hli : (50 : Int) < (ts.length : Int) := by omega
    go_enter Tryd.func8, Tryd.ntmps8
    go_wp2_with fail
    refine (AW.out _ (Below.refl _ _)).mono ?_
    rintro e w1 ⟨rfl, hb1⟩
    go_wp2_with fail
    go_ret
    exact ⟨rfl, hb1⟩
  have hl50 : ts.length ≤ 50 := by omega
  have hli : ¬ (50 : Int) < (ts.length : Int) := by omega
  go_enter Tryd.func8, Tryd.ntmps8
  go_wp2_with fail
  go_loopw [7, 8, 9] (WantRel ts k n w) (fun _ _ iv _ => ts.length - (intOf iv).toNat)
  case atStart =>
    exact ⟨0, [], 0, Nat.zero_le _, rfl, rfl, (Below.refl _ _).alloc (Nat.le_refl _) _, ⟨fun _ => False, ⟨empty_row w, fun _ h => h.elim, fun _ h => by cases h⟩, fun _ h => h.elim⟩, rfl, fun _ => ⟨rfl, rfl⟩, fun h => absurd rfl h⟩
  case round =>
    obtain ⟨i, ps, c, hi1, rfl, rfl, hB, hrow, hps, hc0, hc1⟩ := hrel
    have hz := hB.size
    obtain ⟨a1, c1, rfl⟩ := own_sliceM hrow.row
    have HPS := Lib.hid hps
    have HROW := Lib.hid hrow
    have HC0 := Lib.hid hc0
    have HC1 := Lib.hid hc1
    have HBB := Lib.hid hB
    clear hrow hps hc0 hc1
    by_cases hgo : i < ts.length ∧ c = 0
    · obtain ⟨hil, h0⟩ := hgo
      subst h0
      obtain ⟨bk, o, F, C, hA, hb1, hb2, hx, hnode⟩ := (HN.out i hil).kept hB (Nat.le_refl _)
      subst hA
      obtain ⟨x0', x1', x2'⟩ := hx
      have hi1' : (i : Int) < (ts.length : Int) := by omega
      have hbw : bk < wr.heap.size := by omega
      obtain ⟨hok, hmp⟩ := HC0.out rfl
      have hmt := mapL_take k n hil
      have hst := okL_take k n hil hok
      have her := errL_at k n ts i hil hok
      have hc := fun (V : World) (h1 : IsTerm V 0 w.heap.size (ts[i]'hil) F C) (h2 : w.heap.size ≤ V.heap.size) => rlift_any (ts[i]'hil) k n 0 w.heap.size F C V h1 h2
      obtain ⟨x, c, hxc⟩ : ∃ x c, liftX ts[i] k n = (x, c) := ⟨_, _, rfl⟩
      rw [hxc] at hmt hst her hc
      obtain ⟨u, hu⟩ : ∃ u, ts[i] = u := ⟨_, rfl⟩
      rw [hu] at hc hnode x0' x1' x2'
      rw [← hmp] at hmt
      have HMT := Lib.hid hmt
      have HST := Lib.hid hst
      have HER := Lib.hid her
      have HC := Lib.hid (hc wr hnode hz)
      unfold termV at HC
      clear hmt hst her hc hxc hu hnode hok hmp
      go_wp2_with fail
      refine HC.out.mono ?_
      rintro e w2 ⟨A', cap', rfl, hx2, hb2'⟩
      rw [termV]
      have hz2' := hb2'.size
      have HB2 := Lib.hid hb2'
      have HX2 := Lib.hid hx2
      have HBW := Lib.hid (HBB.out.trans (hb2'.mono hz))
      clear hb2' hx2 x0' x1' x2'
      have R1 := ((HROW.out.below HB2.out).alloc (.cells #[.int .i64 x.k, .int .i64 x.n, .slice A' x.l.length cap'] 24)).alloc (.cells #[.int .i64 x.k, .int .i64 x.n, .slice A' x.l.length cap'] 24)
      have HR1 := Lib.hid R1
      have HOW := Lib.hid R1.row
      have hown0 := R1.row.lt
      clear R1
      go_wp2_with (at_builtin; refine wpList_app rfl _ _ 22 rfl w.heap.size 24 i0 (.agg #[.int .i64 0, .int .i64 0, .slice none 0 0]) 3 40 Tryd.underlying22 hi0 hz0 hz1 hz2 rfl (by decide) _ _ _ rfl HOW.out (some ⟨w2.heap.size + 1, 0, none⟩) 1 1 (cellsM (x, A', cap')) rfl (src_at _ _ _ (by simp) rfl) (cellsM_one _) ?c3 ?c4 ?c5 ?_)
      case c3 => have := HPS.out; unfold maxLen; omega
      case c4 => have := HPS.out; omega
      case c5 => simp; omega
      rintro v2' w3 ha3
      have HRow := Lib.hid (HR1.out.push (lo := wr.heap.size) (hi := w2.heap.size) ((HX2.out.alloc (Nat.le_refl _) _).alloc (by simp) _) hz (by simp <;> omega) (fun b e => (HROW.out.row.lt b e).2) ha3)
      have HB4 := Lib.hid (((HBW.out.alloc HBW.out.size (.cells #[.int .i64 x.k, .int .i64 x.n, .slice A' x.l.length cap'] 24)).alloc (by have := HBW.out.size; simp; omega) (.cells #[.int .i64 x.k, .int .i64 x.n, .slice A' x.l.length cap'] 24)).grown ha3.2.1 (by have := HBW.out.size; simp; omega) (fun g e => by have := hown0 g e; omega))
      clear ha3 hown0
      go_wp2_with fail
      go_roundw
      case rel =>
        exact ⟨i + 1, ps ++ [(x, A', cap')], c, by omega, by go_num, rfl, HB4.out, HRow.out, by have := HPS.out; simp; omega, fun h0 => ⟨HST.out h0, by rw [List.map_append, HMT.out]; rfl⟩, fun h0 => HER.out h0⟩
      case measure => simp [intOf]; omega
    · have hex : (i < ts.length ∧ c ≠ 0) ∨ (i = ts.length) := by
        by_cases h1 : i < ts.length
        · exact .inl ⟨h1, fun h2 => hgo ⟨h1, h2⟩⟩
        · exact .inr (by omega)
      have HDONE : Hid (c = 0 → i = ts.length) := Lib.hid (fun h0 => hex.elim (fun h1 => absurd h0 h1.2) id)
      have hcd : (c == 0) = decide (c = 0) := by
        by_cases h0 : c = 0
        · rw [h0]; rfl
        · rw [decide_eq_false h0]; simpa using h0
      clear hgo
      have HHEX := Lib.hid hex
      rcases hex with ⟨e1, e2⟩ | e1
      all_goals
        have hi9 : ((i : Int) < (ts.length : Int) ∧ (c == 0) = false) ∨ ¬ (i : Int) < (ts.length : Int) := by
          rcases HHEX.out with ⟨f1, f2⟩ | f1
          · exact .inl ⟨by omega, by simpa using f2⟩
          · exact .inr (by omega)
        clear HHEX hcd
      case' inl =>
        have d1 : (i : Int) < (ts.length : Int) := by omega
        have d2 : (c == 0) = false := by simpa using e2
      case' inr =>
        have d1 : ¬ (i : Int) < (ts.length : Int) := by omega
      all_goals
        clear hi9
        rename World => W1
        go_wp2_with fail
        go_loopw [12, 13] (OwnRel ts W1) (fun _ jv _ => ts.length - (intOf jv).toNat)
        case atStart => exact ⟨0, [], Nat.zero_le _, rfl, (Below.refl _ _).alloc (Nat.le_refl _) _, ⟨fun _ => False, ⟨empty_row W1, fun _ h => h.elim, fun _ h => by cases h⟩, fun _ h => h.elim, fun _ h => h.elim, fun _ h => by cases h⟩, rfl, rfl⟩
        case round =>
          obtain ⟨j, qs, hj1, rfl, hB2, hrow2, hqs, hql⟩ := hrel
          have hq2 := hB2.size
          obtain ⟨a2, c2, rfl⟩ := own_sliceM hrow2.row
          have HQS := Lib.hid hqs
          have HROW2 := Lib.hid hrow2
          have HQL := Lib.hid hql
          have HBB2 := Lib.hid hB2
          have HBW2 := Lib.hid (HBB.out.trans (hB2.mono hz))
          clear hrow2 hqs hql
          by_cases hjl : j < ts.length
          · obtain ⟨bk, o, F, C, hA, hb1, hb2, hx, hnode⟩ := (HN.out j hjl).kept HBW2.out (Nat.le_refl _)
            subst hA
            obtain ⟨x0', x1', x2'⟩ := hx
            have hj1' : (j : Int) < (ts.length : Int) := by omega
            have hbw : bk < wr.heap.size := by omega
            have hmt : ts.take (j + 1) = ts.take j ++ [ts[j]] := take_snocM hjl
            have hc := copied_any (ts[j]'hjl) 0 w.heap.size F C wr hnode (by omega) (HSZ.out _ (List.getElem_mem hjl))
            obtain ⟨u, hu⟩ : ∃ u, ts[j] = u := ⟨_, rfl⟩
            rw [hu] at hc hmt x0' x1' x2'
            have HMT := Lib.hid hmt
            have HC := Lib.hid hc
            unfold termV at HC
            clear hmt hc hu hnode
            go_wp2_with fail
            refine HC.out.mono ?_
            rintro e w2 ⟨A', cap', rfl, hx2, hb2'⟩
            rw [termV]
            have hz2' := hb2'.size
            have HB2 := Lib.hid hb2'
            have HX2 := Lib.hid hx2
            have HBW := Lib.hid (HBB2.out.trans (hb2'.mono hq2))
            clear hb2' hx2 x0' x1' x2'
            have R1 := (HROW2.out.below HB2.out).alloc (.cells #[.int .i64 u.k, .int .i64 u.n, .slice A' u.l.length cap'] 24)
            have HR1 := Lib.hid R1
            have HOW := Lib.hid R1.row
            have hown0 := R1.row.lt
            clear R1
            go_wp2_with (at_builtin; refine wpList_app rfl _ _ 22 rfl W1.heap.size 24 i0 (.agg #[.int .i64 0, .int .i64 0, .slice none 0 0]) 3 40 Tryd.underlying22 hi0 hz0 hz1 hz2 rfl (by decide) _ _ _ rfl HOW.out (some ⟨w2.heap.size, 0, none⟩) 1 1 (cellsM (u, A', cap')) rfl (src_at _ _ _ (by simp) rfl) (cellsM_one _) ?c3 ?c4 ?c5 ?_)
            case c3 => have := HQS.out; unfold maxLen; omega
            case c4 => have := HQS.out; omega
            case c5 => simp; omega
            rintro v2' w3 ha3
            have HRow := Lib.hid (HR1.out.push (lo := wr.heap.size) (HX2.out.kept ((Below.refl _ _).alloc (Nat.le_refl _) _)) hq2 (fun b e => (HROW2.out.row.lt b e).2) ha3)
            have HB4 := Lib.hid ((HBW.out.alloc HBW.out.size (.cells #[.int .i64 u.k, .int .i64 u.n, .slice A' u.l.length cap'] 24)).grown ha3.2.1 (by have := HBW.out.size; simp; omega) (fun g e => by have := hown0 g e; omega))
            clear ha3 hown0
            go_wp2_with fail
            go_roundw
            case rel => exact ⟨j + 1, qs ++ [(u, A', cap')], by omega, by go_num, HB4.out, HRow.out, by have := HQS.out; simp; omega, by rw [List.map_append, HQL.out, HMT.out]; rfl⟩
            case measure => simp [intOf]; omega
          · obtain rfl : j = ts.length := by omega
            rename World => W2
            have hqm : qs.map (·.1) = ts := by rw [HQL.out, List.take_length]
            have hal := (HROW2.out.parent 0 0).term
            rw [hqm] at hal
            have HAC := Lib.hid (all_any ts k n W1.heap.size W2.heap.size a2 c2 W2 hal (Nat.le_refl _) (HS.out W2 HBW2.out) (by omega))
            have hqq := HQS.out
            rw [← hqq] at HAC
            have HQM := Lib.hid hqm
            clear hal hqm hqq
            go_wp2_with fail
            refine HAC.out.mono ?_
            rintro e w3 hall
            obtain ⟨A3, L3, c3, rfl, h1, h2, hb3⟩ := hall.one
            have hz3 := hb3.size
            obtain ⟨P, q1, q2, q3, q4⟩ := HROW2.out
            have HP2 : Hid (∀ b, P b → W1.heap.size ≤ b ∧ b < W2.heap.size) := Lib.hid (fun b hb => ⟨q2 b hb, (q1.far b hb).1⟩)
            have HP1 := Lib.hid (q1.below hb3)
            have HP3 := Lib.hid (q3.kept (fun b hb => hb3.block b (q1.far b hb).1))
            have HP4 := Lib.hid (fun p hp => (q4 p hp).imp (P' := P) (fun b o hq => World.cell?_of_block (a := ⟨b, o, none⟩) (hb3.block b (q1.far b hq).1)) (fun _ h => h))
            have H1 := Lib.hid h1
            have H2 := Lib.hid h2
            have HB3 := Lib.hid hb3
            have HBW3 := Lib.hid (HBW2.out.trans (hb3.mono HBW2.out.size))
            have HQI := Lib.hid HQS.out
            clear hall h1 h2 hb3 q1 q2 q3 q4
            go_wp2_with fail
            go_loopw [16] (fun sv wr => ∃ j : Nat, j ≤ qs.length ∧ sv = .int .i64 j ∧ Spo P w3 wr) (fun sv _ => qs.length - (intOf sv).toNat)
            case atStart => exact ⟨0, Nat.zero_le _, rfl, Spo.refl _ _⟩
            case round =>
              obtain ⟨j, hj3, rfl, hs⟩ := hrel
              have hzs := hs.size
              have HSP := Lib.hid hs
              have hql9 : qs.length ≤ 50 := by have := HQI.out; omega
              by_cases hjq : j < qs.length
              · obtain ⟨g, hg, hgl, hnp, hcell⟩ := row_cells HP1.out j hjq
                subst hg
                have hspi := ((HP4.out _ (List.getElem_mem hjq)).spo.spo hs)
                have eg := hs.block g hgl hnp
                obtain ⟨x0, x1, x2⟩ := hcell
                have x0' := (World.cell?_of_block (a := ⟨g, j * 3, none⟩) eg).trans x0
                have x1' := (World.cell?_of_block (a := ⟨g, j * 3 + 1, none⟩) eg).trans x1
                have x2' := (World.cell?_of_block (a := ⟨g, j * 3 + 2, none⟩) eg).trans x2
                obtain ⟨p, hp⟩ : ∃ p, qs[j] = p := ⟨_, rfl⟩
                rw [hp] at hspi x0' x1' x2'
                have HC := Lib.hid (spoil_any p.1 p.1.k p.1.n p.2.1 p.2.2 wr P hspi (fun b hb => by have := HP2.out b hb; omega) (fun b hb q => (hs.cold b q hb (by have := HP2.out b hb; omega)).trans (HP3.out b hb q)))
                have hj1' : (j : Int) < (qs.length : Int) := by omega
                have hgw : g < wr.heap.size := by omega
                clear hspi eg x0 x1 x2 hp
                go_wp2_with fail
                refine HC.out.mono ?_
                rintro e w4 ⟨rfl, hs4⟩
                have HS4 := Lib.hid (HSP.out.trans hs4)
                clear hs4 x0' x1' x2'
                go_wp2_with fail
                go_roundw
                case rel => exact ⟨j + 1, by omega, by go_num, HS4.out⟩
                case measure => simp [intOf]; omega
              · obtain rfl : j = qs.length := by omega
                have hw13 := HBB2.out.trans (HB3.out.mono HBB2.out.size)
                have hbs := spo_below hs (fun b hb => (HP2.out b hb).1) hw13.size
                have hbwr := HBW3.out.trans (hbs.mono hz)
                have HBWR := Lib.hid hbwr
                have AWR := Lib.hid (fun (V : World) (hV : Below wr.heap.size wr V) => AW.out V (hbwr.trans (hV.mono hbwr.size)))
                by_cases h0 : c = 0
                · have t0 : (c != 0) = false := by rw [h0]; rfl
                  have hi9 := HDONE.out h0
                  obtain ⟨hok, hmp⟩ := HC0.out h0
                  rw [hi9, List.take_length] at hok hmp
                  have he0 := errL_ok k n ts hok
                  obtain ⟨hL, hout⟩ := H1.out he0
                  have t1 : (errL k n ts == 0) = true := by rw [he0]; rfl
                  have hml : (mapL k n ts).length = ts.length := by unfold mapL; rw [List.length_map]
                  have hpl : ps.length = (mapL k n ts).length := by rw [hml, HPS.out, hi9]
                  have hwant := HROW.out.parent
                  rw [hmp] at hwant
                  have hwz := hw13.trans hbs
                  have hout2 : IsTerms wr W2.heap.size w3.heap.size (mapL k n ts) A3 c3 := hout.imp (fun b o h1 h2 => World.cell?_of_block (a := ⟨b, o, none⟩) (hs.block b h2 (fun e => by have := HP2.out b e; omega))) (Nat.le_refl _) (Nat.le_refl _)
                  have hwant2 : IsTerms wr w.heap.size W1.heap.size (mapL k n ts) a1 c1 := hwant.kept hwz (Nat.le_refl _)
                  have hsa := sameAll_refl (mapL k n ts) W2.heap.size w3.heap.size w.heap.size W1.heap.size A3 a1 c3 c1 wr hout2 hwant2 hzs hwz.size
                  rw [← hpl] at hsa
                  have hLp : ps.length = L3 := by rw [hpl, hml, hL]
                  rw [hLp] at hsa
                  have HSA := Lib.hid hsa
                  have HLP := Lib.hid hLp
                  clear hsa hwant hwant2 hout hout2 hpl hml hmp hok he0 hL hi9 hLp h0 hw13 hbs hbwr hwz
                  have hlp := HLP.out
                  rw [hlp]
                  clear hlp
                  go_wp2_with fail
                  refine HSA.out.mono ?_
                  rintro e w4 ⟨rfl, hb4⟩
                  have HB4 := Lib.hid hb4
                  clear hb4
                  go_wp2_with fail
                  refine (AWR.out _ HB4.out).mono ?_
                  rintro e w5 ⟨rfl, hb5⟩
                  have HB5 := Lib.hid (HBWR.out.trans ((HB4.out.trans (hb5.mono HB4.out.size)).mono HBWR.out.size))
                  go_wp2_with fail
                  go_ret
                  exact ⟨rfl, HB5.out⟩
                · have t0 : (c != 0) = true := by simpa using h0
                  have her := HC1.out h0
                  have t1 : (errL k n ts == c) = true := by rw [her]; simp
                  obtain rfl := H2.out (by rw [her]; exact h0)
                  clear her h0 hw13 hbs hbwr
                  go_wp2_with fail
                  refine (AWR.out _ (Below.refl _ _)).mono ?_
                  rintro e w5 ⟨rfl, hb5⟩
                  have HB5 := Lib.hid (HBWR.out.trans (hb5.mono HBWR.out.size))
                  go_wp2_with fail
                  go_ret
                  exact ⟨rfl, HB5.out⟩

end Go.Proofs.YtodmnollgejgeaaDoor
