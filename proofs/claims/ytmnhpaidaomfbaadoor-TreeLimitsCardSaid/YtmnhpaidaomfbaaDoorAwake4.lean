/- The laws' own question whether the program answers at all (layer 4): it does. -/
import Derived.Test.YtmnhpaidaomfbaaDoorExpr
import Derived.Test.YtmnhpaidaomfbaaDoorRSame
namespace Go.Proofs.YtmnhpaidaomfbaaDoor
open Go.RowKit
set_option linter.unusedVariables false
set_option maxRecDepth 100000

theorem aw_x : IsName ⟨#[120]⟩ [120] := by
  refine ⟨?_, by decide, by unfold keyB; rw [ByteArray.toList_eq]; decide, by decide, by decide⟩
  have h : Parse (encAll [120]) [120] [] := parse_enc (by intro n hn; simp at hn; subst hn; decide)
  exact h
theorem aw_suc : IsName ⟨#[115, 117, 99]⟩ [115, 117, 99] := by
  refine ⟨?_, by decide, by unfold keyB; rw [ByteArray.toList_eq]; decide, by decide, by decide⟩
  have h : Parse (encAll [115, 117, 99]) [115, 117, 99] [] := parse_enc (by intro n hn; simp at hn; rcases hn with rfl | rfl | rfl <;> decide)
  exact h

def awT : RT := .node 8 0 ⟨#[115, 117, 99]⟩ 0 [.node 6 0 ⟨#[120]⟩ 0 []]
theorem aw_size : awT.size = 2 := by unfold awT; rw [size_node, sizeL_cons, sizeL_nil, size_node, sizeL_nil]
theorem aw_depth : awT.depth = 2 := by unfold awT; rw [depth_node, depthL_cons, depthL_nil, depth_node, depthL_nil]; rfl
theorem aw_fit : fitB awT = true := fitB_true.2 ⟨by rw [aw_size]; omega, by rw [aw_depth]; omega⟩
theorem aw_deep : deepN awT = 2 := by unfold deepN dpN; rw [aw_size, aw_depth]; rfl
theorem aw_cut : cutN awT.size = 2 := by rw [aw_size]; rfl
theorem aw_good : goodB awT true = true := by
  unfold awT
  rw [goodB_node, goodL_all]
  have h1 : goodB (.node 6 0 ⟨#[120]⟩ 0 []) true = true := by
    rw [goodB_node, goodL_all]
    unfold topB namedB
    rw [if_pos (by decide), nmB_yes aw_x]
    decide
  rw [show decide ((8 : Int) = 8) = true from rfl, List.all_cons, h1]
  unfold topB namedB
  rw [if_pos (by decide), nmB_yes aw_suc]
  decide
theorem aw_same : sameB awT awT = true := by
  unfold sameB
  rw [aw_fit]
  unfold awT
  rw [same_node]
  have h1 : same (.node 6 0 ⟨#[120]⟩ 0 []) (.node 6 0 ⟨#[120]⟩ 0 []) = true := by
    rw [same_node]; simp [pairsB, allB]
  simp [pairsB, allB, pairAt, h1]

theorem awake_any (w : World) (hS : Shapes w) : Calls Tryd.prog 14 #[] w fun e w' => e = .returned (.bool true) ∧ Below w.heap.size w w' := by
  have HS := Lib.hid hS
  have hlt0 := hS.lt
  obtain ⟨W, hW⟩ : ∃ W, (w.alloc (.cells #[.int .i64 6, .int .i64 0, .string ⟨#[120]⟩, .int .i64 0, .slice none 0 0] 24)).alloc (.cells #[.int .i64 8, .int .i64 0, .string ⟨#[115, 117, 99]⟩, .int .i64 0, .slice (some ⟨w.heap.size, 0, none⟩) 1 1] 24) = W := ⟨_, rfl⟩
  have hBW : Below w.heap.size w W := by rw [← hW]; exact ((Below.refl _ _).alloc (Nat.le_refl _) _).alloc (by simp) _
  have hWz : W.heap.size = w.heap.size + 1 + 1 := by rw [← hW]; simp
  have hc : Cells5 W w.heap.size 0 (.node 6 0 ⟨#[120]⟩ 0 []) none 0 := by
    rw [← hW]
    exact ⟨by simp [RT.k], by simp [RT.a], by simp [RT.s], by simp [RT.n], by simp [RT.l]⟩
  have hN : IsNode W 0 W.heap.size awT (some ⟨w.heap.size, 0, none⟩) 1 := by
    refine NodeIn.mk _ _ _ _ _ _ _ (fun _ => none) (fun _ => 0) (by decide) (by simp) (by decide) (fun _ => ⟨w.heap.size, 0, rfl, ⟨by omega, by omega⟩, fun i h => ?_⟩) (fun i h => ?_)
    · have e : i = 0 := by simp at h; omega
      subst e
      exact hc
    · have e : i = 0 := by simp at h; omega
      subst e
      exact NodeIn.mk _ _ _ _ _ _ _ (fun _ => none) (fun _ => 0) (by decide) (by simp) (by decide) (fun h => by simp at h) (fun i h => by simp at h)
  have hv : nodeV awT (some ⟨w.heap.size, 0, none⟩) 1 = .agg #[.int .i64 8, .int .i64 0, .string ⟨#[115, 117, 99]⟩, .int .i64 0, .slice (some ⟨w.heap.size, 0, none⟩) 1 1] := rfl
  have h1 := fun V (hV : Below W.heap.size W V) => pattern_any awT 0 W.heap.size (some ⟨w.heap.size, 0, none⟩) 1 V (hN.kept hV (Nat.le_refl _)) hV.size ((hS.below hBW).below hV)
  have h2 := fun V (hV : Below W.heap.size W V) => size_any awT 0 W.heap.size (some ⟨w.heap.size, 0, none⟩) 1 V (hN.kept hV (Nat.le_refl _)) hV.size
  have h3 := fun V (hV : Below W.heap.size W V) => depth_any awT 0 W.heap.size (some ⟨w.heap.size, 0, none⟩) 1 V (hN.kept hV (Nat.le_refl _)) hV.size
  have h4 := fun V (hV : Below W.heap.size W V) => tSame_any awT awT 0 W.heap.size 0 W.heap.size (some ⟨w.heap.size, 0, none⟩) (some ⟨w.heap.size, 0, none⟩) 1 1 V (hN.kept hV (Nat.le_refl _)) (hN.kept hV (Nat.le_refl _)) hV.size hV.size
  rw [hv, aw_fit, aw_good] at h1
  rw [hv, aw_cut] at h2
  rw [hv, aw_deep] at h3
  rw [hv, aw_same] at h4
  have H1 := Lib.hid h1
  have H2 := Lib.hid h2
  have H3 := Lib.hid h3
  have H4 := Lib.hid h4
  have HW := Lib.hid hW
  have HBW := Lib.hid hBW
  have hWc : ∀ q, W.cell? ⟨w.heap.size + 1, q, none⟩ = (#[.int .i64 8, .int .i64 0, .string ⟨#[115, 117, 99]⟩, .int .i64 0, .slice (some ⟨w.heap.size, 0, none⟩) 1 1] : Array Value)[q]? := fun q => by
    rw [← hW]
    have := World.cell?_alloc_mark (w.alloc (.cells #[.int .i64 6, .int .i64 0, .string ⟨#[120]⟩, .int .i64 0, .slice none 0 0] 24))
    simp at this
    rw [this]
  have k0 := hWc 0
  have k1 := hWc 1
  have k2 := hWc 2
  have k3 := hWc 3
  have k4 := hWc 4
  simp at k0 k1 k2 k3 k4
  clear h1 h2 h3 h4 hW hBW hS hc hN hv hWc
  have hlt : w.heap.size + 1 < W.heap.size := by omega
  have HWZ := Lib.hid hWz
  clear hWz
  go_enter Tryd.func14, Tryd.ntmps14
  go_wp2_with fail
  rw [HW.out]
  refine (H1.out _ (Below.refl _ _)).mono ?_
  rintro e w1 ⟨rfl, hb1⟩
  have hcell := fun p hp => hb1.cell (p := p) hp
  have hz1 := hb1.size
  have HB1 := Lib.hid hb1
  clear hb1
  go_wp2_with fail
  refine (H2.out _ HB1.out).mono ?_
  rintro e w2 ⟨rfl, hb2⟩
  have hb2' := HB1.out.trans (hb2.mono hz1)
  have hcell2 := fun p hp => hb2'.cell (p := p) hp
  have hz2 := hb2'.size
  have HB2 := Lib.hid hb2'
  clear hb2 hb2' hcell
  go_wp2_with fail
  refine (H3.out _ HB2.out).mono ?_
  rintro e w3 ⟨rfl, hb3⟩
  have hb3' := HB2.out.trans (hb3.mono hz2)
  have hcell3 := fun p hp => hb3'.cell (p := p) hp
  have hz3 := hb3'.size
  have HB3 := Lib.hid hb3'
  clear hb3 hb3' hcell2
  go_wp2_with fail
  refine (H4.out _ HB3.out).mono ?_
  rintro e w4 ⟨rfl, hb4⟩
  go_wp2_with fail
  go_ret
  exact ⟨rfl, HBW.out.trans ((HB3.out.trans (hb4.mono hz3)).mono (by have := HWZ.out; omega))⟩

end Go.Proofs.YtmnhpaidaomfbaaDoor
