/- Layer 7's laws' own question whether the program answers at all: it does. -/
import Derived.Test.YtodmnollgejgeaaDoorTMake
namespace Go.Proofs.YtodmnollgejgeaaDoor
open Go.RowKit
set_option linter.unusedVariables false
set_option maxRecDepth 100000

def awM : TM := .node 4 0 [.node 2 0 [], .node 5 0 [.node 1 1 [], .node 1 0 []]]
theorem awm_size : awM.size = 5 := by unfold awM; simp only [tsize_node, sizeM_cons, sizeM_nil]
theorem awm_depth : awM.depth = 3 := by unfold awM; simp only [tdepth_node, depthM_cons, depthM_nil]; omega
theorem awm_good : tgoodB awM = true := by unfold awM; simp only [tgoodB_node, tgoodL_all, List.all_cons, List.all_nil]; decide
theorem awm_shaped : shapedB awM = true := shapedB_true.2 ⟨by rw [awm_size]; omega, by rw [awm_depth]; omega, awm_good⟩
theorem awm_cut : topN awM.size = 5 := by rw [awm_size]; rfl
theorem awm_loose : looseN awM = 1 := by
  unfold looseN
  rw [awm_shaped, if_pos rfl]
  unfold awM
  simp [looseT_node, looseL_cons, looseL_nil, bndR]
  omega
theorem awm_has : hasB awM 0 = true := by
  unfold hasB
  rw [awm_shaped]
  unfold awM
  simp [hasT_node, hasL_cons, hasL_nil, bndR]

theorem awakeM_any (w : World) (hS : ShapesM w) : Calls Tryd.prog 16 #[] w fun e w' => e = .returned (.bool true) ∧ Below w.heap.size w w' := by
  have HS := Lib.hid hS
  have C1 := Lib.hid (fun n W => mk_sort n W)
  have C2 := Lib.hid (fun n W => mk_var n W)
  have C3 := Lib.hid (fun k k' n n' A A' m m' cap cap' W => mk_app k k' n n' A A' m m' cap cap' W)
  have C4 := Lib.hid (fun k k' n n' A A' m m' cap cap' W => mk_lam k k' n n' A A' m m' cap cap' W)
  have HW3 := Lib.hid (fun o1 o2 o3 => (((Below.refl w.heap.size w).alloc (Nat.le_refl _) o1).alloc (by simp) o2).alloc (by simp; omega) o3)
  clear hS
  go_enter Tryd.func16, Tryd.ntmps16
  go_wp2_with fail
  refine (C1.out _ _).mono ?_
  rintro e w1 ⟨rfl, rfl⟩
  go_wp2_with fail
  refine (C2.out _ _).mono ?_
  rintro e w1 ⟨rfl, rfl⟩
  go_wp2_with fail
  refine (C2.out _ _).mono ?_
  rintro e w1 ⟨rfl, rfl⟩
  go_wp2_with fail
  refine (C3.out _ _ _ _ _ _ _ _ _ _ _).mono ?_
  rintro e w1 ⟨g1, rfl, hg1, b1, hb1⟩
  have hB1 := (HW3.out (.cells #[.int .i64 2, .int .i64 0, .slice none 0 0] 24) (.cells #[.int .i64 1, .int .i64 1, .slice none 0 0] 24) (.cells #[.int .i64 1, .int .i64 0, .slice none 0 0] 24)).trans (hb1.mono (by simp; omega))
  have hz1 := hB1.size
  have HG1 := Lib.hid hg1
  have HBK1 := Lib.hid b1
  have HB1 := Lib.hid hB1
  clear hg1 b1 hb1 hB1
  go_wp2_with fail
  refine (C4.out _ _ _ _ _ _ _ _ _ _ _).mono ?_
  rintro e w2 ⟨g2, rfl, hg2, b2, hb2⟩
  have hz2 := hb2.size
  have hg1l := HBK1.out.lt
  have hg2l := b2.lt
  have b1' := HBK1.out.below hb2 (by omega)
  have hg1' : w.heap.size ≤ g1 := by have := HG1.out; simp at this; omega
  have hN : IsTerm w2 w.heap.size w2.heap.size awM (some ⟨g2, 0, none⟩) 2 := by
    have h5 : TermIn w2 (fun b => w.heap.size ≤ b ∧ b < w2.heap.size) (.node 5 0 [.node 1 1 [], .node 1 0 []]) (some ⟨g1, 0, none⟩) 2 :=
      two_in (leaf_in _ _ 1 1) (leaf_in _ _ 1 0) b1' ⟨by omega, by omega⟩ 5 0
    exact two_in (leaf_in _ _ 2 0) h5 b2 ⟨by omega, by omega⟩ 4 0
  have hB2 := HB1.out.trans (hb2.mono (by omega))
  have hv : termV awM (some ⟨g2, 0, none⟩) 2 = .agg #[.int .i64 4, .int .i64 0, .slice (some ⟨g2, 0, none⟩) 2 2] := rfl
  have k1 := fun V (hV : Below w2.heap.size w2 V) => shaped_any awM w.heap.size w2.heap.size (some ⟨g2, 0, none⟩) 2 V (hN.kept hV (Nat.le_refl _)) hV.size ((HS.out.kept hB2).kept hV)
  have k2 := fun V (hV : Below w2.heap.size w2 V) => tLoose_any awM w.heap.size w2.heap.size (some ⟨g2, 0, none⟩) 2 V (hN.kept hV (Nat.le_refl _)) hV.size ((HS.out.kept hB2).kept hV)
  have k3 := fun V (hV : Below w2.heap.size w2 V) => tsize_any awM w.heap.size w2.heap.size (some ⟨g2, 0, none⟩) 2 V (hN.kept hV (Nat.le_refl _)) hV.size
  have k4 := fun V (hV : Below w2.heap.size w2 V) => tHas_any awM 0 w.heap.size w2.heap.size (some ⟨g2, 0, none⟩) 2 V (hN.kept hV (Nat.le_refl _)) hV.size ((HS.out.kept hB2).kept hV)
  rw [hv, awm_shaped] at k1
  rw [hv, awm_loose] at k2
  rw [hv, awm_cut] at k3
  rw [hv, awm_has] at k4
  have K1 := Lib.hid k1
  have K2 := Lib.hid k2
  have K3 := Lib.hid k3
  have K4 := Lib.hid k4
  have HB2 := Lib.hid hB2
  have HWA := Lib.hid (fun o => (Below.refl w2.heap.size w2).alloc (Nat.le_refl _) o)
  clear b1' b2 hb2 hN hv k1 k2 k3 k4 hB2 hg2 hg2l hg1l hg1' hz1 hz2
  go_wp2_with fail
  refine (K1.out _ (HWA.out _)).mono ?_
  rintro e w3 ⟨rfl, hb3⟩
  have hB3 := (HWA.out (.cells #[.int .i64 4, .int .i64 0, .slice (some ⟨g2, 0, none⟩) 2 2] 24)).trans (hb3.mono (by simp))
  have hz3 := hb3.size
  simp at hz3
  have b3 : Bk w3 w2.heap.size 24 #[.int .i64 4, .int .i64 0, .slice (some ⟨g2, 0, none⟩) 2 2] := (Bk.new w2 _ _).below hb3 (by simp)
  have HBK3 := Lib.hid b3
  have HB3 := Lib.hid hB3
  have c0 : w3.cell? ⟨w2.heap.size, 0, none⟩ = some (.int .i64 4) := b3.cell 0
  have c1 : w3.cell? ⟨w2.heap.size, 1, none⟩ = some (.int .i64 0) := b3.cell 1
  have c2 : w3.cell? ⟨w2.heap.size, 2, none⟩ = some (.slice (some ⟨g2, 0, none⟩) 2 2) := b3.cell 2
  have hl3 : w2.heap.size < w3.heap.size := by omega
  clear b3 hB3 hb3
  go_wp2_with fail
  refine (K2.out _ HB3.out).mono ?_
  rintro e w4 ⟨rfl, hb4⟩
  have hz4 := hb4.size
  have HB4 := Lib.hid (HB3.out.trans (hb4.mono (by omega)))
  have hcell4 := fun p hp => hb4.cell (p := p) hp
  have hl4 : w2.heap.size < w4.heap.size := by omega
  have b4 := HBK3.out.below hb4 hl3
  have HBK4 := Lib.hid b4
  have d0 : w4.cell? ⟨w2.heap.size, 0, none⟩ = some (.int .i64 4) := b4.cell 0
  have d1 : w4.cell? ⟨w2.heap.size, 1, none⟩ = some (.int .i64 0) := b4.cell 1
  have d2 : w4.cell? ⟨w2.heap.size, 2, none⟩ = some (.slice (some ⟨g2, 0, none⟩) 2 2) := b4.cell 2
  clear b4 hb4 hcell4 c0 c1 c2
  go_wp2_with fail
  refine (K3.out _ HB4.out).mono ?_
  rintro e w5 ⟨rfl, hb5⟩
  have hz5 := hb5.size
  have HB5 := Lib.hid (HB4.out.trans (hb5.mono (by omega)))
  have hl5 : w2.heap.size < w5.heap.size := by omega
  have b5 := HBK4.out.below hb5 hl4
  have e0 : w5.cell? ⟨w2.heap.size, 0, none⟩ = some (.int .i64 4) := b5.cell 0
  have e1 : w5.cell? ⟨w2.heap.size, 1, none⟩ = some (.int .i64 0) := b5.cell 1
  have e2 : w5.cell? ⟨w2.heap.size, 2, none⟩ = some (.slice (some ⟨g2, 0, none⟩) 2 2) := b5.cell 2
  clear b5 hb5 d0 d1 d2
  go_wp2_with fail
  refine (K4.out _ HB5.out).mono ?_
  rintro e w6 ⟨rfl, hb6⟩
  go_wp2_with fail
  go_ret
  exact ⟨rfl, HB2.out.trans ((HB5.out.trans (hb6.mono (by omega))).mono (by have := HB2.out.size; omega))⟩

end Go.Proofs.YtodmnollgejgeaaDoor
