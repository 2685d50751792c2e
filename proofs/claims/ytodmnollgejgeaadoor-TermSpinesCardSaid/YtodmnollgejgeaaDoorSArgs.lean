/- The document's Args of a good term. -/
import Derived.Test.YtodmnollgejgeaaDoorSPlain
import Derived.Test.YtodmnollgejgeaaDoorTRDepth
import Derived.Deep.RegionWith
import Derived.Deep.RegionHeld3
namespace Go.Proofs.YtodmnollgejgeaaDoor
open Go.RowKit
set_option linter.unusedVariables false
set_option maxRecDepth 100000

def ArgsIs (t : TM) (lo hi : Nat) (w : World) (e : Ending) (w' : World) : Prop :=
  ∃ a c ps, e = .returned (.slice a ps.length c) ∧ TermRow w' w.heap.size 24 (.slice a ps.length c) ps (fun b => lo ≤ b ∧ b < hi) ∧ ps.map (·.1) = argsT t ∧ Below w.heap.size w w'
theorem src_bk {w : World} {g : Nat} {e : TypeId} {cs : Array Value} (h : Bk w g e cs) : Src w cs.size (some ⟨g, 0, none⟩) 1 cs.toList := by
  refine ⟨by simp, fun _ => ⟨_, rfl, fun j u hu => ?_⟩⟩
  rw [Addr.add_lit, Nat.zero_add, h.cell j, ← hu, Array.getElem?_toList]

set_option maxHeartbeats 4000000 in
theorem args_any : ∀ (t : TM) (lo hi : Nat) (A : Option Addr) (cap : Nat) (w : World), IsTerm w lo hi t A cap → hi ≤ w.heap.size → tgoodB t = true → t.depth ≤ 1000 →
    Calls Tryd.prog 26 #[termV t A cap] w (ArgsIs t lo hi w) := by
  intro t
  induction t using TM.ind with
  | h k n l ih =>
    obtain ⟨i0, hi0, hz0, hz1, hz2⟩ := info_parts infoM
    intro lo hi A cap w h hhi hg hdp
    have HW2 := Lib.hid (fun o1 o2 => ((Below.refl w.heap.size w).alloc (Nat.le_refl _) o1).alloc (by simp) o2)
    by_cases hk : k = 5
    · subst hk
      obtain ⟨f, a, rfl, rfl, hf, ha⟩ := app_parts hg
      have hlen := args_depth f hf
      rw [tdepth_node, depthM_cons] at hdp
      obtain ⟨bk, o, F, C, hA, hb1, hb2, hx, hnode⟩ := h.sub 0 (by simp)
      obtain ⟨bk2, o2, G, D, hA2, _, _, hy, hnode2⟩ := h.sub 1 (by simp)
      subst hA
      obtain ⟨rfl, rfl⟩ : bk = bk2 ∧ o = o2 := by
        injection hA2 with q
        injection q with q1 q2
        exact ⟨q1, q2⟩
      simp only [List.getElem_cons_zero, List.getElem_cons_succ, Nat.zero_mul, Nat.add_zero, Nat.one_mul] at hx hy hnode hnode2
      have HIH := Lib.hid (fun (V : World) (hV : Below (w.alloc (.cells #[.int .i64 5, .int .i64 0, .slice (some ⟨bk, o, none⟩) 2 cap] 24)).heap.size (w.alloc (.cells #[.int .i64 5, .int .i64 0, .slice (some ⟨bk, o, none⟩) 2 cap] 24)) V) => ih f List.mem_cons_self lo hi F C V (hnode.kept (((Below.refl w.heap.size w).alloc (Nat.le_refl _) _).trans (hV.mono (by simp))) hhi) (by have := hV.size; simp at this; omega) hf (by omega))
      have HAG := Lib.hid (show argsT (.node 5 0 [f, a]) = argsT f ++ [a] by rw [argsT_app])
      have hbw : bk < w.heap.size := by omega
      have HX := Lib.hid hx
      have HY := Lib.hid hy
      have HNO2 := Lib.hid hnode2
      have HKS := Lib.hid (fun (V : World) (hV : Below (w.alloc (.cells #[.int .i64 5, .int .i64 0, .slice (some ⟨bk, o, none⟩) 2 cap] 24)).heap.size (w.alloc (.cells #[.int .i64 5, .int .i64 0, .slice (some ⟨bk, o, none⟩) 2 cap] 24)) V) => (show V.cell? ⟨w.heap.size, 2, none⟩ = some (.slice (some ⟨bk, o, none⟩) 2 cap) ∧ V.cell? ⟨bk, o, none⟩ = some (.int .i64 f.k) ∧ V.cell? ⟨bk, o + 1, none⟩ = some (.int .i64 f.n) ∧ V.cell? ⟨bk, o + 2, none⟩ = some (.slice F f.l.length C) ∧ V.cell? ⟨bk, o + 3, none⟩ = some (.int .i64 a.k) ∧ V.cell? ⟨bk, o + 3 + 1, none⟩ = some (.int .i64 a.n) ∧ V.cell? ⟨bk, o + 3 + 2, none⟩ = some (.slice G a.l.length D) from by
        have hb0 := ((Below.refl w.heap.size w).alloc (Nat.le_refl _) (.cells #[.int .i64 5, .int .i64 0, .slice (some ⟨bk, o, none⟩) 2 cap] 24)).trans (hV.mono (by simp))
        obtain ⟨x0, x1, x2⟩ := HX.out.kept hb0 hbw
        obtain ⟨y0, y1, y2⟩ := HY.out.kept hb0 hbw
        exact ⟨(((Bk.new w 24 _).below hV (by simp)).cell 2), x0, x1, x2, y0, y1, y2⟩))
      have HD0 := Lib.hid (show Below (w.alloc (.cells #[.int .i64 5, .int .i64 0, .slice (some ⟨bk, o, none⟩) 2 cap] 24)).heap.size (w.alloc (.cells #[.int .i64 5, .int .i64 0, .slice (some ⟨bk, o, none⟩) 2 cap] 24)) (w.alloc (.cells #[.int .i64 5, .int .i64 0, .slice (some ⟨bk, o, none⟩) 2 cap] 24)).drew from (Below.refl _ _).drew)
      have HV2 := Lib.hid (fun (w5 : World) (hb : Below (((w.alloc (.cells #[.int .i64 5, .int .i64 0, .slice (some ⟨bk, o, none⟩) 2 cap] 24)).alloc (.cells #[.int .i64 a.k, .int .i64 a.n, .slice G a.l.length D] 24)).drew).heap.size (((w.alloc (.cells #[.int .i64 5, .int .i64 0, .slice (some ⟨bk, o, none⟩) 2 cap] 24)).alloc (.cells #[.int .i64 a.k, .int .i64 a.n, .slice G a.l.length D] 24)).drew) w5) => (show Bk w5 (w.heap.size + 1) 24 #[.int .i64 a.k, .int .i64 a.n, .slice G a.l.length D] from (show Bk (((w.alloc (.cells #[.int .i64 5, .int .i64 0, .slice (some ⟨bk, o, none⟩) 2 cap] 24)).alloc (.cells #[.int .i64 a.k, .int .i64 a.n, .slice G a.l.length D] 24)).drew) (w.heap.size + 1) 24 #[.int .i64 a.k, .int .i64 a.n, .slice G a.l.length D] from Bk.last (w.alloc (.cells #[.int .i64 5, .int .i64 0, .slice (some ⟨bk, o, none⟩) 2 cap] 24)) 24 #[.int .i64 a.k, .int .i64 a.n, .slice G a.l.length D] (by simp)).below hb (by simp)))
      have HV3 := Lib.hid (fun (w5 : World) (hb : Below (((w.alloc (.cells #[.int .i64 5, .int .i64 0, .slice (some ⟨bk, o, none⟩) 2 cap] 24)).drew).alloc (.cells #[.int .i64 a.k, .int .i64 a.n, .slice G a.l.length D] 24)).heap.size (((w.alloc (.cells #[.int .i64 5, .int .i64 0, .slice (some ⟨bk, o, none⟩) 2 cap] 24)).drew).alloc (.cells #[.int .i64 a.k, .int .i64 a.n, .slice G a.l.length D] 24)) w5) => (show Bk w5 (w.heap.size + 1) 24 #[.int .i64 a.k, .int .i64 a.n, .slice G a.l.length D] from (show Bk (((w.alloc (.cells #[.int .i64 5, .int .i64 0, .slice (some ⟨bk, o, none⟩) 2 cap] 24)).drew).alloc (.cells #[.int .i64 a.k, .int .i64 a.n, .slice G a.l.length D] 24)) (w.heap.size + 1) 24 #[.int .i64 a.k, .int .i64 a.n, .slice G a.l.length D] from Bk.last (w.alloc (.cells #[.int .i64 5, .int .i64 0, .slice (some ⟨bk, o, none⟩) 2 cap] 24)) 24 #[.int .i64 a.k, .int .i64 a.n, .slice G a.l.length D] (by simp)).below hb (by simp)))
      have HBASE := Lib.hid (fun (V : World) (hV : Below (w.alloc (.cells #[.int .i64 5, .int .i64 0, .slice (some ⟨bk, o, none⟩) 2 cap] 24)).heap.size (w.alloc (.cells #[.int .i64 5, .int .i64 0, .slice (some ⟨bk, o, none⟩) 2 cap] 24)) V) => (show w.heap.size + 1 ≤ V.heap.size from by have := hV.size; simp at this; omega))
      have HFIN : Hid (∀ (w3 : World) (q : Nat) (a3 : Option Addr) (c3 : Nat) (ps : List (TM × Option Addr × Nat)) (v2 : Value) (w4 : World), w.heap.size + 1 ≤ q → TermRow w3 q 24 (.slice a3 ps.length c3) ps (fun b => lo ≤ b ∧ b < hi) → Below (w.alloc (.cells #[.int .i64 5, .int .i64 0, .slice (some ⟨bk, o, none⟩) 2 cap] 24)).heap.size (w.alloc (.cells #[.int .i64 5, .int .i64 0, .slice (some ⟨bk, o, none⟩) 2 cap] 24)) w3 →
          AppTo w3 q 24 3 (.slice a3 ps.length c3) (ps.length + 1) (flatM ps ++ cellsM (a, G, D)) v2 w4 →
          (w4.cell? ⟨w.heap.size, 2, none⟩ = some (.slice (some ⟨bk, o, none⟩) 2 cap) ∧ w4.cell? ⟨bk, o, none⟩ = some (.int .i64 f.k) ∧ w4.cell? ⟨bk, o + 1, none⟩ = some (.int .i64 f.n) ∧ w4.cell? ⟨bk, o + 2, none⟩ = some (.slice F f.l.length C) ∧ w4.cell? ⟨bk, o + 3, none⟩ = some (.int .i64 a.k) ∧ w4.cell? ⟨bk, o + 3 + 1, none⟩ = some (.int .i64 a.n) ∧ w4.cell? ⟨bk, o + 3 + 2, none⟩ = some (.slice G a.l.length D)) ∧ Hid (TermRow w4 w.heap.size 24 v2 (ps ++ [(a, G, D)]) (fun b => lo ≤ b ∧ b < hi)) ∧ Hid (Below w.heap.size w w4)) := Lib.hid (by
        intro w3 q a3 c3 ps v2 w4 hq hrow hB ha4
        have hlt0 := hrow.row.lt
        have hz := hB.size
        simp at hz
        have hb0 := ((Below.refl w.heap.size w).alloc (Nat.le_refl _) (.cells #[.int .i64 5, .int .i64 0, .slice (some ⟨bk, o, none⟩) 2 cap] 24)).trans (hB.mono (by simp))
        have hne : ∀ g, g < w.heap.size + 1 → some g ≠ (Value.slice a3 ps.length c3).ownBlock := fun g hg e => by have := hlt0 g e.symm; omega
        obtain ⟨k0, x0, x1, x2, y0, y1, y2⟩ := HKS.out w3 hB
        have c2' := fun z => ha4.2.1.cell_far ⟨bk, z, none⟩ (by show bk < _; omega) (hne bk (by omega))
        have c1' := ha4.2.1.cell_far ⟨w.heap.size, 2, none⟩ (by show w.heap.size < _; omega) (hne w.heap.size (by omega))
        refine ⟨⟨c1'.trans k0, (c2' _).trans x0, (c2' _).trans x1, (c2' _).trans x2, (c2' _).trans y0, (c2' _).trans y1, (c2' _).trans y2⟩, ?_, ?_⟩
        · have hp := hrow.push (Pn := fun b => lo ≤ b ∧ b < hi) (p := (a, G, D)) (HNO2.out.kept hb0 hhi) (fun b hb => ⟨by omega, fun e => by have := hlt0 b e; omega⟩) ha4.1 ha4.2.1 ha4.2.2
          have hp2 := hp.base (base' := w.heap.size) (by omega)
          exact ⟨hp2.row, fun b hb => hp2.far b (.inl hb), fun p hp' => (hp2.node p hp').imp (fun _ _ _ => rfl) (fun b hb => hb.elim id id)⟩
        · exact hb0.grown ha4.2.1 (by omega) (fun g e => by have := hlt0 g e; omega))
      have HLEN := Lib.hid hlen
      have hdf : f.depth ≤ 1000 := by omega
      have hbk := HD0
      unfold termV at HIH
      clear ih h hg hdp hx hy hnode hnode2 hlen hf ha
      rw [termV_node]
      obtain ⟨k0, x0, x1, x2, y0, y1, y2⟩ := HKS.out _ (Below.refl _ _)
      clear k0
      simp only [List.length_cons, List.length_nil, Nat.zero_add, Nat.reduceAdd]
      go_enter Tryd.func26, Tryd.ntmps26
      go_wp2_with fail
      go_region_held3 (fun w' => w'.cell? ⟨w.heap.size, 2, none⟩ = some (.slice (some ⟨bk, o, none⟩) 2 cap) ∧ w'.cell? ⟨bk, o, none⟩ = some (.int .i64 f.k) ∧ w'.cell? ⟨bk, o + 1, none⟩ = some (.int .i64 f.n) ∧ w'.cell? ⟨bk, o + 2, none⟩ = some (.slice F f.l.length C) ∧ w'.cell? ⟨bk, o + 3, none⟩ = some (.int .i64 a.k) ∧ w'.cell? ⟨bk, o + 3 + 1, none⟩ = some (.int .i64 a.n) ∧ w'.cell? ⟨bk, o + 3 + 2, none⟩ = some (.slice G a.l.length D))
        (first | exact hks | exact HKS.out _ hbk.out | exact HKS.out _ (hbk.out.alloc hbk.out.size _))
        (first
        | (go_at_call 26
           refine (HIH.out _ (by first | exact hbk.out | exact hbk.out.alloc hbk.out.size _)).mono ?_
           rintro e w3 ⟨a3, c3, ps, rfl, hrow, hmp, hbn⟩
           have hbk2 : Below (w.alloc (.cells #[.int .i64 5, .int .i64 0, .slice (some ⟨bk, o, none⟩) 2 cap] 24)).heap.size (w.alloc (.cells #[.int .i64 5, .int .i64 0, .slice (some ⟨bk, o, none⟩) 2 cap] 24)) w3 := by first | exact hbk.out.trans (hbn.mono hbk.out.size) | exact (hbk.out.alloc hbk.out.size _).trans (hbn.mono (hbk.out.alloc hbk.out.size _).size)
           have HROW3 := Lib.hid hrow
           have hbs := Lib.hid hbn.size
           have hq3 := Lib.hid (HBASE.out _ hbk.out)
           have hq3b := Lib.hid (HBASE.out _ (hbk.out.alloc hbk.out.size (.cells #[.int .i64 a.k, .int .i64 a.n, .slice G a.l.length D] 24)))
           have HMP := Lib.hid hmp
           have hpl : ps.length ≤ 1000 := by
             have h1 := congrArg List.length hmp
             rw [List.length_map] at h1
             have h2 := HLEN.out
             omega
           first
           | (have hsrc := Lib.hid (src_bk (HV2.out _ hbn)))
           | (have hsrc := Lib.hid (src_bk (HV3.out _ hbn)))
           | skip
           have hbk := Lib.hid hbk2
           clear hrow hmp hbn hbk2)
        | (refine step_app rfl (.tmp 11) (.tmp 16) 22 rfl _ 24 i0 (.agg #[.int .i64 0, .int .i64 0, .slice none 0 0]) 3 40 Tryd.underlying22 hi0 hz0 hz1 hz2 rfl (by decide) (.slice a3 ps.length c3) ps.length (flatM ps) rfl (HROW3.out.alloc _).row (some ⟨w3.heap.size, 0, none⟩) 1 1 (cellsM (a, G, D)) rfl (src_at _ _ _ (by simp) rfl) (cellsM_one _) (by unfold maxLen; omega) (by omega) (Nat.le_trans hbs.out (by simp)) ?_
           rintro v2 w4 ha4
           obtain ⟨a4, c4, rfl⟩ := own_sliceM ha4.1
           obtain ⟨hks, HR4, HB4⟩ := HFIN.out _ _ a3 c3 ps _ w4 (by first | exact hq3.out | exact hq3b.out) (HROW3.out.alloc _) (hbk.out.alloc hbk.out.size _) ha4
           clear ha4)
        | (refine step_app rfl (.tmp 11) (.tmp 16) 22 rfl _ 24 i0 (.agg #[.int .i64 0, .int .i64 0, .slice none 0 0]) 3 40 Tryd.underlying22 hi0 hz0 hz1 hz2 rfl (by decide) (.slice a3 ps.length c3) ps.length (flatM ps) rfl HROW3.out.row (some ⟨w.heap.size + 1, 0, none⟩) 1 1 (cellsM (a, G, D)) rfl hsrc.out (cellsM_one _) (by unfold maxLen; omega) (by omega) hbs.out ?_
           rintro v2 w4 ha4
           obtain ⟨a4, c4, rfl⟩ := own_sliceM ha4.1
           obtain ⟨hks, HR4, HB4⟩ := HFIN.out _ _ a3 c3 ps _ w4 (by first | exact hq3.out | exact hq3b.out) HROW3.out hbk.out ha4
           clear ha4))
      all_goals
        go_wp2_with fail
        go_ret
        refine ⟨a4, c4, ps ++ [(a, G, D)], by simp, by rw [List.length_append]; exact HR4.out, by rw [List.map_append, HMP.out, HAG.out]; rfl, HB4.out⟩
    · have e1 : (k == 5) = false := by simpa using hk
      have e2 : (k != 5) = true := by simpa using hk
      have HEQ := Lib.hid (show argsT (.node k n l) = [] by rw [argsT_not n l hk])
      have hE := World.ownsRow_lit (base := w.heap.size) (e := 24) (size := 3) (w.alloc (.cells #[.int .i64 k, .int .i64 n, .slice A l.length cap] 24)) #[] 0 (by simp) (by decide) rfl
      have HE := Lib.hid hE
      clear ih h hg hk hE
      rw [termV_node]
      go_enter Tryd.func26, Tryd.ntmps26
      go_wp2_with fail
      go_ret
      refine ⟨_, _, [], rfl, ⟨?_, fun b hb => ⟨by simp; omega, fun e => by simp [Value.ownBlock] at e; omega⟩, fun _ h => by cases h⟩, HEQ.out.symm, HW2.out _ _⟩
      have := HE.out
      simpa [flatM] using this

end Go.Proofs.YtodmnollgejgeaaDoor
