/- tele.Types: what each argument's type must be. -/
import Derived.Test.YtofmoggjpgjdgaaDoorVFill
import Derived.Deep.RegionHeld3
namespace Go.Proofs.YtofmoggjpgjdgaaDoor
open Go.RowKit
set_option linter.unusedVariables false
set_option maxRecDepth 100000

set_option maxHeartbeats 4000000 in
theorem cl_types (gb p : Nat) (t : TM) (lo hi : Nat) (A : Option Addr) (cap : Nat) (gs : List TM) (bL oL capL : Nat) (w : World) (h : IsTerm w lo hi t A cap) (hhi : hi ≤ w.heap.size) (h2 : IsTerms w 0 w.heap.size gs (some ⟨bL, oL, none⟩) capL) (hlen : gs.length ≤ 8000) (hp : p ≤ gs.length)
    (hc : w.cell? ⟨gb, 0, none⟩ = some (.slice (some ⟨bL, oL, none⟩) gs.length capL)) (hS : ShapesM w) :
    Calls Tryd.prog 43 #[.int .i64 p, termV t A cap, .pointer (some ⟨gb, 0, none⟩)] w (GivesT (manyX t (gs.take p).reverse) w) := by
  obtain ⟨hb1, hb2⟩ := h2.bounds
  unfold maxLen at hb2
  have hgb : gb < w.heap.size := World.block_lt_of_cell? w _ hc
  have HW := Lib.hid (show Below w.heap.size w ((w.alloc (.cells #[.int .i64 t.k, .int .i64 t.n, .slice A t.l.length cap] 24)).alloc (.cells #[.int .i64 0, .int .i64 0, .slice none 0 0] 24)) from ((Below.refl w.heap.size w).alloc (by simp <;> omega) (.cells #[.int .i64 t.k, .int .i64 t.n, .slice A t.l.length cap] 24)).alloc (by simp <;> omega) (.cells #[.int .i64 0, .int .i64 0, .slice none 0 0] 24))
  have HKT := Lib.hid (fun (V : World) (hV : Below (w.heap.size + 1) ((w.alloc (.cells #[.int .i64 t.k, .int .i64 t.n, .slice A t.l.length cap] 24)).alloc (.cells #[.int .i64 0, .int .i64 0, .slice none 0 0] 24)) V) => (show V.cell? ⟨w.heap.size, 0, none⟩ = some (.int .i64 t.k) ∧ V.cell? ⟨w.heap.size, 1, none⟩ = some (.int .i64 t.n) ∧ V.cell? ⟨w.heap.size, 2, none⟩ = some (.slice A t.l.length cap) ∧ V.cell? ⟨gb, 0, none⟩ = some (.slice (some ⟨bL, oL, none⟩) gs.length capL) from by
    have hb : Bk V w.heap.size 24 #[.int .i64 t.k, .int .i64 t.n, .slice A t.l.length cap] := ((Bk.new w 24 _).alloc _).below hV (by omega)
    exact ⟨hb.cell 0, hb.cell 1, hb.cell 2, (hV.cell (p := ⟨gb, 0, none⟩) (by show gb < _; omega)).trans ((HW.out.cell (p := ⟨gb, 0, none⟩) hgb).trans hc)⟩))
  have KBR := Lib.hid (fun (V : World) (hV : Below ((w.alloc (.cells #[.int .i64 t.k, .int .i64 t.n, .slice A t.l.length cap] 24)).alloc (.cells #[.int .i64 0, .int .i64 0, .slice none 0 0] 24)).heap.size ((w.alloc (.cells #[.int .i64 t.k, .int .i64 t.n, .slice A t.l.length cap] 24)).alloc (.cells #[.int .i64 0, .int .i64 0, .slice none 0 0] 24)) V) => (show Bk V (w.heap.size + 1) 24 #[.int .i64 0, .int .i64 0, .slice none 0 0] from (Bk.last (w.alloc (.cells #[.int .i64 t.k, .int .i64 t.n, .slice A t.l.length cap] 24)) 24 #[.int .i64 0, .int .i64 0, .slice none 0 0] (g := w.heap.size + 1) (by simp)).below hV (by simp <;> omega)))
  have CM := Lib.hid (fun (V : World) (hV : Below w.heap.size w V) => (show Calls Tryd.prog 21 #[termV t A cap, .slice (some ⟨bL, oL, none⟩) p capL] V (GivesT (manyX t (gs.take p).reverse) V) from by
    have q := fill_any t lo hi A cap (gs.take p) (some ⟨bL, oL, none⟩) capL V (h.kept hV hhi) (by have := hV.size; omega) (take_in ((h2.kept hV (Nat.le_refl _)).wide (Nat.le_refl _) hV.size) p) (by rw [List.length_take]; omega) (hS.kept hV)
    rw [List.length_take, Nat.min_eq_left hp] at q
    exact q))
  have hp0 : (0 : Int) ≤ (p : Int) := by omega
  have hp1 : (p : Int) ≤ (capL : Int) := by omega
  have hp2 : p ≤ capL := by omega
  obtain ⟨x, c, hxc⟩ : ∃ x c, manyX t (gs.take p).reverse = (x, c) := ⟨_, _, rfl⟩
  rw [hxc] at CM ⊢
  unfold GivesT termV at CM
  unfold termV
  have hbk0 := Lib.hid (show Below ((w.alloc (.cells #[.int .i64 t.k, .int .i64 t.n, .slice A t.l.length cap] 24)).alloc (.cells #[.int .i64 0, .int .i64 0, .slice none 0 0] 24)).heap.size ((w.alloc (.cells #[.int .i64 t.k, .int .i64 t.n, .slice A t.l.length cap] 24)).alloc (.cells #[.int .i64 0, .int .i64 0, .slice none 0 0] 24)) ((w.alloc (.cells #[.int .i64 t.k, .int .i64 t.n, .slice A t.l.length cap] 24)).alloc (.cells #[.int .i64 0, .int .i64 0, .slice none 0 0] 24)).drew from (Below.refl _ _).drew)
  have HSZ : Hid (w.heap.size + 1 ≤ ((w.alloc (.cells #[.int .i64 t.k, .int .i64 t.n, .slice A t.l.length cap] 24)).alloc (.cells #[.int .i64 0, .int .i64 0, .slice none 0 0] 24)).heap.size) := Lib.hid (by simp)
  have HSY : Hid (w.heap.size + 2 ≤ ((w.alloc (.cells #[.int .i64 t.k, .int .i64 t.n, .slice A t.l.length cap] 24)).alloc (.cells #[.int .i64 0, .int .i64 0, .slice none 0 0] 24)).heap.size) := Lib.hid (by simp)
  clear h h2 hxc hhi hlen hS hc hp hb1
  go_enter Tryd.func43, Tryd.ntmps43
  go_wp2_with fail
  obtain ⟨W, hW⟩ : ∃ W, ((w.alloc (.cells #[.int .i64 t.k, .int .i64 t.n, .slice A t.l.length cap] 24)).alloc (.cells #[.int .i64 0, .int .i64 0, .slice none 0 0] 24)) = W := ⟨_, rfl⟩
  rw [hW] at HW HKT KBR hbk0 HSZ HSY ⊢
  obtain ⟨t0, t1, t2, t3⟩ := HKT.out _ (Below.refl _ _)
  have hsw := HSY.out
  clear hW
  go_region_held3 (fun w' => w'.cell? ⟨w.heap.size, 0, none⟩ = some (.int .i64 t.k) ∧ w'.cell? ⟨w.heap.size, 1, none⟩ = some (.int .i64 t.n) ∧ w'.cell? ⟨w.heap.size, 2, none⟩ = some (.slice A t.l.length cap) ∧ w'.cell? ⟨gb, 0, none⟩ = some (.slice (some ⟨bL, oL, none⟩) gs.length capL))
    (first | exact HKT.out _ (hbk0.out.mono HSZ.out) | exact HKT.out _ (hB5.out.mono HSZ.out) | exact HKT.out _ ((((hB5.out.mono HSZ.out).setCell (by simp <;> omega) _).setCell (by simp <;> omega) _).setCell (by simp <;> omega) _))
    (first
    | (go_at_call 21
       refine (CM.out _ (HW.out.trans (hbk0.out.mono HW.out.size))).mono ?_
       rintro e w5 ⟨A', cap', rfl, hx, hb3⟩
       have hB5 : Hid (Below W.heap.size W w5) := Lib.hid (hbk0.out.trans (hb3.mono hbk0.out.size))
       have HX := Lib.hid hx
       have hbkv := KBR.out _ hB5.out
       have HBKV := Lib.hid hbkv
       have hfz : ∀ o, w5.frozen? ⟨w.heap.size + 1, o, none⟩ = false := fun o => hbkv.cold o
       have d0 := hbkv.cell 0
       have d1 := hbkv.cell 1
       have d2 := hbkv.cell 2
       simp at d0 d1 d2
       clear hb3 hx hbkv))
  all_goals
    have HBF := Lib.hid (HW.out.trans (hB5.out.mono HW.out.size))
    have B5 := ((HBKV.out.at_ 0 (.int .i64 x.k)).at_ 1 (.int .i64 x.n)).at_ 2 (.slice A' x.l.length cap')
    have HS0 := Lib.hid (B5.cell 0)
    have HS1 := Lib.hid (B5.cell 1)
    have HS2 := Lib.hid (B5.cell 2)
    clear B5
    go_wp2_with fail
    refine bodyPost_ret (v := .tuple #[.agg #[.int .i64 x.k, .int .i64 x.n, .slice A' x.l.length cap'], .int .i64 c]) (by simp [results, Tryd.results43, go_sem, HS0.out, HS1.out, HS2.out]) rfl ?_
    exact give_term HBF.out (by omega) HX.out (by show _ < W.drew.heap.size; have := hbk0.out.size; omega)

def TypesIs (l gs : List TM) (w : World) (e : Ending) (w' : World) : Prop :=
  ((okT l gs l.length ∧ ∃ A c, e = .returned (.tuple #[.slice A l.length c, .int .i64 0]) ∧ IsTerms w' 0 w'.heap.size (typesL l gs l.length) A c) ∨
   (∃ i, i < l.length ∧ okT l gs i ∧ (typeX l gs i).2 ≠ 0 ∧ e = .returned (.tuple #[.slice none 0 0, .int .i64 (typeX l gs i).2]))) ∧ Below w.heap.size w w'
def VEachRel (l gs : List TM) (w : World) (nv iv : Value) (wr : World) : Prop :=
  ∃ (i : Nat) (ps : List (TM × Option Addr × Nat)) (P : Nat → Prop), i ≤ l.length ∧ iv = .int .i64 i ∧ Below w.heap.size w wr ∧
    TermRow wr w.heap.size 24 nv ps P ∧ (∀ b, P b → w.heap.size ≤ b) ∧ ps.length = i ∧ ps.map (·.1) = typesL l gs i ∧ okT l gs i

set_option maxHeartbeats 4000000 in
theorem each_any (l : List TM) (A : Option Addr) (cap : Nat) (gs : List TM) (G : Option Addr) (capG gb : Nat) (w : World) (h : IsTerms w 0 w.heap.size l A cap) (h2 : IsTerms w 0 w.heap.size gs G capG) (hc : w.cell? ⟨gb, 0, none⟩ = some (.slice G gs.length capG)) (hll : gs.length = l.length) (hlen : l.length ≤ 8000) (hS : ShapesM w) :
    Calls Tryd.prog 42 #[.slice A l.length cap, .func (.func 43) #[] #[.pointer (some ⟨gb, 0, none⟩)]] w (TypesIs l gs w) := by
  obtain ⟨i0, hi0, hz0, hz1, hz2⟩ := info_parts infoM
  obtain ⟨hl, hm⟩ := h.bounds
  have hgb : gb < w.heap.size := World.block_lt_of_cell? w _ hc
  have HN := Lib.hid h.sub
  have HLN := Lib.hid hlen
  have HCL := Lib.hid (fun (i : Nat) (hi : i < l.length) (u : TM) (F : Option Addr) (C : Nat) (V : World) (hV : Below w.heap.size w V) (hu : IsTerm V 0 w.heap.size u F C) => (show Calls Tryd.prog 43 #[.int .i64 i, .agg #[.int .i64 u.k, .int .i64 u.n, .slice F u.l.length C], .pointer (some ⟨gb, 0, none⟩)] V (GivesT (manyX u (gs.take i).reverse) V) from by
    have hg0 : 0 < gs.length := by omega
    obtain ⟨bL, oL, F0, C0, hG, _⟩ := h2.sub 0 hg0
    subst hG
    exact cl_types gb i u 0 w.heap.size F C gs bL oL capG V hu hV.size ((h2.kept hV (Nat.le_refl _)).wide (Nat.le_refl _) hV.size) (by omega) (by omega) ((hV.cell (p := ⟨gb, 0, none⟩) hgb).trans hc) (hS.kept hV)))
  have CG := Lib.hid (fun (V : World) => growM_any l.length (by have := HLN.out; omega) V)
  unfold maxLen at hm
  clear h hS h2 hlen hc
  go_enter Tryd.func42, Tryd.ntmps42
  go_wp2_with fail
  refine (CG.out _).mono ?_
  rintro e w1 ⟨v0, rfl, ho0, hbx⟩
  obtain ⟨a0, cc0, rfl⟩ := own_sliceM ho0
  have HO0 := Lib.hid ho0
  have HB0 := Lib.hid hbx
  clear ho0 hbx CG
  go_wp2_with fail
  go_loopw [6, 16] (VEachRel l gs w) (fun _ iv _ => l.length - (intOf iv).toNat)
  case atStart => exact ⟨0, [], fun _ => False, Nat.zero_le _, rfl, HB0.out, ⟨HO0.out, fun _ h => h.elim, fun _ h => by cases h⟩, fun _ h => h.elim, rfl, rfl, fun j hj => absurd hj (Nat.not_lt_zero _)⟩
  case round =>
    obtain ⟨i, ps, P, hi1, rfl, hB, hrow, hP, hps, hpl, hok⟩ := hrel
    have hz := hB.size
    obtain ⟨a1, c1, rfl⟩ := own_sliceM hrow.row
    have HPS := Lib.hid hps
    have HROW := Lib.hid hrow
    have HPP := Lib.hid hP
    have HPL := Lib.hid hpl
    have HOK := Lib.hid hok
    have HBB := Lib.hid hB
    clear hrow hP hpl hps hok
    by_cases hil : i < l.length
    · obtain ⟨bk, o, F, C, hA, hb1, hb2, hx, hnode⟩ := (HN.out i hil).kept hB (Nat.le_refl _)
      subst hA
      obtain ⟨x0', x1', x2'⟩ := hx
      have hi1' : (i : Int) < (l.length : Int) := by omega
      have hi0' : (0 : Int) ≤ (i : Int) := by omega
      have hbw : bk < wr.heap.size := by omega
      have hty := typeX_at (args := gs) hil
      have hmt := typesL_succ l gs i
      have hst := okT_succ HOK.out
      have HER := Lib.hid (fun (h : (typeX l gs i).2 ≠ 0) => (show (∃ i, i < l.length ∧ okT l gs i ∧ (typeX l gs i).2 ≠ 0 ∧ (typeX l gs i).2 = (typeX l gs i).2) from ⟨i, hil, HOK.out, h, rfl⟩))
      have HIL := Lib.hid hil
      obtain ⟨u, hu⟩ : ∃ u : TM, l[i]'hil = u := ⟨_, rfl⟩
      rw [hu] at hnode x0' x1' x2' hty
      have CF := Lib.hid (fun (V : World) (hV : Below wr.heap.size wr V) => HCL.out i hil u F C V (HBB.out.trans (hV.mono hz)) (hnode.kept hV (by omega)))
      obtain ⟨x, c, hxc⟩ : ∃ x c, typeX l gs i = (x, c) := ⟨_, _, rfl⟩
      rw [← hty, hxc] at CF
      rw [hxc] at hmt hst
      have HXC := Lib.hid hxc
      have HMT := Lib.hid hmt
      have HST := Lib.hid hst
      have HA0 := Lib.hid (show Below wr.heap.size wr (wr.alloc (.cells #[.int .i64 u.k, .int .i64 u.n, .slice F u.l.length C] 24)) from (Below.refl _ _).alloc (Nat.le_refl _) _)
      unfold GivesT termV at CF
      clear hty hmt hst hxc hu hnode hil
      go_wp2_with fail
      refine (CF.out _ HA0.out).mono ?_
      rintro e wc ⟨A', cap', rfl, hnx, hbc⟩
      have hbb := HA0.out.trans (hbc.mono HA0.out.size)
      have HBX := Lib.hid hbb
      have HBWC := Lib.hid (HBB.out.trans (hbb.mono hz))
      have HNX := Lib.hid hnx
      have hzc := hbb.size
      have hzu : wr.heap.size + 1 = (wr.alloc (.cells #[.int .i64 u.k, .int .i64 u.n, .slice F u.l.length C] 24)).heap.size := by simp
      have HZU := Lib.hid hzu
      clear hbc hbb hnx CF x0' x1' x2' hzu
      by_cases h0 : c = 0
      · have HST2 := Lib.hid (HST.out h0)
        have t0 : (c != 0) = false := by rw [h0]; rfl
        have hps9 : ps.length ≤ 8000 := by have := HPS.out; have := HLN.out; omega
        have R1 := ((HROW.out.below HBX.out).alloc (.cells #[.int .i64 x.k, .int .i64 x.n, .slice A' x.l.length cap'] 24)).alloc (.cells #[.int .i64 x.k, .int .i64 x.n, .slice A' x.l.length cap'] 24)
        have HR1 := Lib.hid R1
        have HOW := Lib.hid R1.row
        have hown0 := R1.row.lt
        have HBW2 := Lib.hid ((HBWC.out.alloc HBWC.out.size (.cells #[.int .i64 x.k, .int .i64 x.n, .slice A' x.l.length cap'] 24)).alloc (HBWC.out.alloc HBWC.out.size (.cells #[.int .i64 x.k, .int .i64 x.n, .slice A' x.l.length cap'] 24)).size (.cells #[.int .i64 x.k, .int .i64 x.n, .slice A' x.l.length cap'] 24))
        clear R1 h0 HST
        go_wp2_with (at_builtin; refine wpList_app rfl _ _ 22 rfl w.heap.size 24 i0 (.agg #[.int .i64 0, .int .i64 0, .slice none 0 0]) 3 40 Tryd.underlying22 hi0 hz0 hz1 hz2 rfl (by decide) _ _ _ rfl HOW.out (some ⟨wc.heap.size + 1, 0, none⟩) 1 1 (cellsM (x, A', cap')) rfl (src_at _ _ _ (by simp) rfl) (cellsM_one _) ?c3 ?c4 ?c5 ?_)
        case c3 => unfold maxLen; omega
        case c4 => omega
        case c5 => simp; omega
        rintro v2' w3 ⟨hown3, hg3, ho3⟩
        have HRow := Lib.hid (HR1.out.push (Pn := fun b => wr.heap.size ≤ b ∧ b < wc.heap.size) (p := (x, A', cap')) (TermIn.imp (fun b o hb => (((Below.refl wc.heap.size wc).alloc (Nat.le_refl _) (.cells #[.int .i64 x.k, .int .i64 x.n, .slice A' x.l.length cap'] 24)).alloc (by simp) (.cells #[.int .i64 x.k, .int .i64 x.n, .slice A' x.l.length cap'] 24)).cell (p := ⟨b, o, none⟩) hb.2) (fun b hb => ⟨by have h1 := hb.1; have h2 := HZU.out; omega, hb.2⟩) HNX.out) (fun b hb => ⟨by have := hb.2; simp; omega, fun e => by
          have h1 := HROW.out.row.lt b e
          omega⟩) hown3 hg3 ho3)
        have HB4 := Lib.hid (HBW2.out.grown hg3 (by have := HBWC.out.size; simp; omega) (fun g e => by have := hown0 g e; omega))
        clear hown3 hg3 ho3 hown0
        go_wp2_with fail
        go_roundw
        case rel =>
          refine ⟨i + 1, ps ++ [(x, A', cap')], fun b => P b ∨ (wr.heap.size ≤ b ∧ b < wc.heap.size), by have := HIL.out; omega, by go_num, HB4.out, HRow.out, ?_, by have := HPS.out; simp; omega, ?_, HST2.out⟩
          · intro b hb
            rcases hb with hb | hb
            · exact HPP.out b hb
            · omega
          · rw [List.map_append, HPL.out, HMT.out]; rfl
        case measure => have := HIL.out; simp [intOf]; omega
      · have t0 : (c != 0) = true := by simpa using h0
        have HE := Lib.hid (HER.out (by rw [HXC.out]; exact h0))
        have HBF := Lib.hid (HBWC.out.alloc HBWC.out.size (.cells #[.int .i64 x.k, .int .i64 x.n, .slice A' x.l.length cap'] 24))
        clear h0 HER HST
        go_wp2_with fail
        go_ret2
        refine ⟨.inr ⟨i, HIL.out, HOK.out, by rw [HXC.out]; have := HE.out; simpa using t0, by rw [HXC.out]; rfl⟩, HBF.out⟩
    · have HIN := Lib.hid (show i = l.length by omega)
      have hge : ¬ (i : Int) < (l.length : Int) := by omega
      have HFULL : Hid (ps.map (·.1) = typesL l gs l.length) := Lib.hid (by rw [HPL.out, HIN.out])
      have hpar := HROW.out.parent (lo := 0) (Nat.zero_le _) (fun b hb => Nat.zero_le _) 0 0
      rw [HFULL.out] at hpar
      have HPAR := Lib.hid hpar
      clear hpar
      go_wp2_with fail
      go_ret2
      refine ⟨.inl ⟨by have := HOK.out; rw [HIN.out] at this; exact this, a1, c1, by rw [HPS.out, HIN.out]; rfl, HPAR.out⟩, HBB.out⟩

set_option maxHeartbeats 1000000 in
theorem types_any (l : List TM) (A : Option Addr) (cap : Nat) (gs : List TM) (G : Option Addr) (capG : Nat) (w : World) (h : IsTerms w 0 w.heap.size l A cap) (h2 : IsTerms w 0 w.heap.size gs G capG) (hll : gs.length = l.length) (hlen : l.length ≤ 8000) (hS : ShapesM w) :
    Calls Tryd.prog 23 #[.slice A l.length cap, .slice G gs.length capG] w (TypesIs l gs w) := by
  have HB1 := Lib.hid (show Below w.heap.size w (w.alloc (.cells #[.slice G gs.length capG] 22)) from (Below.refl _ _).alloc (Nat.le_refl _) _)
  have CE := Lib.hid (each_any l A cap gs G capG w.heap.size (w.alloc (.cells #[.slice G gs.length capG] 22)) ((h.kept HB1.out (Nat.le_refl _)).wide (Nat.le_refl _) (by simp)) ((h2.kept HB1.out (Nat.le_refl _)).wide (Nat.le_refl _) (by simp)) ((Bk.new w _ _).cell 0) hll hlen (hS.kept HB1.out))
  have t0 : ((gs.length : Int) != (l.length : Int)) = false := by rw [hll]; simp
  have HLL := Lib.hid hll
  clear h h2 hll hlen hS
  go_enter Tryd.func23, Tryd.ntmps23
  go_wp2_with fail
  refine CE.out.mono ?_
  rintro e w1 ⟨hcase, hb⟩
  have HBF := Lib.hid (HB1.out.trans (hb.mono (by simp)))
  clear hb CE
  rcases hcase with ⟨hok, A', c', rfl, ht⟩ | ⟨i, hi, hok, hne, rfl⟩
  · have HOK := Lib.hid hok
    have HT := Lib.hid ht
    clear hok ht
    go_wp2_with fail
    go_ret2
    exact ⟨.inl ⟨HOK.out, A', c', rfl, HT.out⟩, HBF.out⟩
  · obtain ⟨c, hc⟩ : ∃ c, (typeX l gs i).2 = c := ⟨_, rfl⟩
    rw [hc] at hne ⊢
    have HC := Lib.hid hc
    have HOK := Lib.hid hok
    have HNE := Lib.hid hne
    have HI := Lib.hid hi
    clear hok hne hc hi
    go_wp2_with fail
    go_ret2
    exact ⟨.inr ⟨i, HI.out, HOK.out, by rw [HC.out]; exact HNE.out, by rw [HC.out]; rfl⟩, HBF.out⟩
theorem types_not (l : List TM) (A : Option Addr) (n cap : Nat) (G : Option Addr) (m capG : Nat) (w : World) (hne : m ≠ n) :
    Calls Tryd.prog 23 #[.slice A n cap, .slice G m capG] w fun e w' => e = .returned (.tuple #[.slice none 0 0, .int .i64 5]) ∧ Below w.heap.size w w' := by
  have HB1 := Lib.hid (show Below w.heap.size w (w.alloc (.cells #[.slice G m capG] 22)) from (Below.refl _ _).alloc (Nat.le_refl _) _)
  have t0 : ((m : Int) != (n : Int)) = true := by
    have : ¬ (m : Int) = (n : Int) := by omega
    simpa using this
  clear hne
  go_enter Tryd.func23, Tryd.ntmps23
  go_wp2_with fail
  go_ret2
  exact ⟨rfl, HB1.out⟩

end Go.Proofs.YtofmoggjpgjdgaaDoor
