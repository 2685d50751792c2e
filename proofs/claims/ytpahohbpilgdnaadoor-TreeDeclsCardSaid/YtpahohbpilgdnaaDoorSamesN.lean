/- The laws' own question whether the program answers at all (layer 4): it does. -/
import Derived.Test.YtpahohbpilgdnaaDoorExpr
import Derived.Test.YtpahohbpilgdnaaDoorRSame
import Derived.Test.YtpahohbpilgdnaaDoorOf
namespace Go.Proofs.YtpahohbpilgdnaaDoor
open Go.RowKit
set_option linter.unusedVariables false
set_option maxRecDepth 100000

theorem aw_x : IsName ⟨#[120]⟩ [120] := by
  refine ⟨?_, by decide, by unfold keyB; rw [ByteArray.toList_eq]; decide, by decide, by decide⟩
  have h : Parse (encAll [120]) [120] [] := parse_enc (by intro n hn; simp at hn; subst hn; decide)
  exact h
theorem aw_suc : IsName ⟨#[115, 117, 99]⟩ [115, 117, 99] := by
  refine ⟨?_, by decide, by unfold keyB; rw [ByteArray.toList_eq]; decide, by decide, by decide⟩
  have h : Parse (encAll [115, 117, 99]) [115, 117, 99] [] := parse_enc (by intro n hn; simp at hn; rcases hn with rfl | rfl | rfl <;> decide)
  exact h

def awT : RT := .node 8 0 ⟨#[115, 117, 99]⟩ 0 [.node 6 0 ⟨#[120]⟩ 0 []]
theorem aw_size : awT.size = 2 := by unfold awT; rw [size_node, sizeL_cons, sizeL_nil, size_node, sizeL_nil]
theorem aw_depth : awT.depth = 2 := by unfold awT; rw [depth_node, depthL_cons, depthL_nil, depth_node, depthL_nil]; rfl
theorem aw_fit : fitB awT = true := fitB_true.2 ⟨by rw [aw_size]; omega, by rw [aw_depth]; omega⟩
theorem aw_deep : deepN awT = 2 := by unfold deepN dpN; rw [aw_size, aw_depth]; rfl
theorem aw_cut : cutN awT.size = 2 := by rw [aw_size]; rfl
theorem aw_good : goodB awT true = true := by
  unfold awT
  rw [goodB_node, goodL_all]
  have h1 : goodB (.node 6 0 ⟨#[120]⟩ 0 []) true = true := by
    rw [goodB_node, goodL_all]
    unfold topB namedB
    rw [if_pos (by decide), nmB_yes aw_x]
    decide
  rw [show decide ((8 : Int) = 8) = true from rfl, List.all_cons, h1]
  unfold topB namedB
  rw [if_pos (by decide), nmB_yes aw_suc]
  decide
theorem aw_same : sameB awT awT = true := by
  unfold sameB
  rw [aw_fit]
  unfold awT
  rw [same_node]
  have h1 : same (.node 6 0 ⟨#[120]⟩ 0 []) (.node 6 0 ⟨#[120]⟩ 0 []) = true := by
    rw [same_node]; simp [pairsB, allB]
  simp [pairsB, allB, pairAt, h1]

theorem awake_any (w : World) (hS : Shapes w) : Calls Tryd.prog 14 #[] w fun e w' => e = .returned (.bool true) ∧ Below w.heap.size w w' := by
  have HS := Lib.hid hS
  have hlt0 := hS.lt
  obtain ⟨W, hW⟩ : ∃ W, (w.alloc (.cells #[.int .i64 6, .int .i64 0, .string ⟨#[120]⟩, .int .i64 0, .slice none 0 0] 24)).alloc (.cells #[.int .i64 8, .int .i64 0, .string ⟨#[115, 117, 99]⟩, .int .i64 0, .slice (some ⟨w.heap.size, 0, none⟩) 1 1] 24) = W := ⟨_, rfl⟩
  have hBW : Below w.heap.size w W := by rw [← hW]; exact ((Below.refl _ _).alloc (Nat.le_refl _) _).alloc (by simp) _
  have hWz : W.heap.size = w.heap.size + 1 + 1 := by rw [← hW]; simp
  have hc : Cells5 W w.heap.size 0 (.node 6 0 ⟨#[120]⟩ 0 []) none 0 := by
    rw [← hW]
    exact ⟨by simp [RT.k], by simp [RT.a], by simp [RT.s], by simp [RT.n], by simp [RT.l]⟩
  have hN : IsNode W 0 W.heap.size awT (some ⟨w.heap.size, 0, none⟩) 1 := by
    refine NodeIn.mk _ _ _ _ _ _ _ (fun _ => none) (fun _ => 0) (by decide) (by simp) (by decide) (fun _ => ⟨w.heap.size, 0, rfl, ⟨by omega, by omega⟩, fun i h => ?_⟩) (fun i h => ?_)
    · have e : i = 0 := by simp at h; omega
      subst e
      exact hc
    · have e : i = 0 := by simp at h; omega
      subst e
      exact NodeIn.mk _ _ _ _ _ _ _ (fun _ => none) (fun _ => 0) (by decide) (by simp) (by decide) (fun h => by simp at h) (fun i h => by simp at h)
  have hv : nodeV awT (some ⟨w.heap.size, 0, none⟩) 1 = .agg #[.int .i64 8, .int .i64 0, .string ⟨#[115, 117, 99]⟩, .int .i64 0, .slice (some ⟨w.heap.size, 0, none⟩) 1 1] := rfl
  have h1 := fun V (hV : Below W.heap.size W V) => pattern_any awT 0 W.heap.size (some ⟨w.heap.size, 0, none⟩) 1 V (hN.kept hV (Nat.le_refl _)) hV.size ((hS.below hBW).below hV)
  have h2 := fun V (hV : Below W.heap.size W V) => size_any awT 0 W.heap.size (some ⟨w.heap.size, 0, none⟩) 1 V (hN.kept hV (Nat.le_refl _)) hV.size
  have h3 := fun V (hV : Below W.heap.size W V) => depth_any awT 0 W.heap.size (some ⟨w.heap.size, 0, none⟩) 1 V (hN.kept hV (Nat.le_refl _)) hV.size
  have h4 := fun V (hV : Below W.heap.size W V) => tSame_any awT awT 0 W.heap.size 0 W.heap.size (some ⟨w.heap.size, 0, none⟩) (some ⟨w.heap.size, 0, none⟩) 1 1 V (hN.kept hV (Nat.le_refl _)) (hN.kept hV (Nat.le_refl _)) hV.size hV.size
  rw [hv, aw_fit, aw_good] at h1
  rw [hv, aw_cut] at h2
  rw [hv, aw_deep] at h3
  rw [hv, aw_same] at h4
  have H1 := Lib.hid h1
  have H2 := Lib.hid h2
  have H3 := Lib.hid h3
  have H4 := Lib.hid h4
  have HW := Lib.hid hW
  have HBW := Lib.hid hBW
  have hWc : ∀ q, W.cell? ⟨w.heap.size + 1, q, none⟩ = (#[.int .i64 8, .int .i64 0, .string ⟨#[115, 117, 99]⟩, .int .i64 0, .slice (some ⟨w.heap.size, 0, none⟩) 1 1] : Array Value)[q]? := fun q => by
    rw [← hW]
    have := World.cell?_alloc_mark (w.alloc (.cells #[.int .i64 6, .int .i64 0, .string ⟨#[120]⟩, .int .i64 0, .slice none 0 0] 24))
    simp at this
    rw [this]
  have k0 := hWc 0
  have k1 := hWc 1
  have k2 := hWc 2
  have k3 := hWc 3
  have k4 := hWc 4
  simp at k0 k1 k2 k3 k4
  clear h1 h2 h3 h4 hW hBW hS hc hN hv hWc
  have hlt : w.heap.size + 1 < W.heap.size := by omega
  have HWZ := Lib.hid hWz
  clear hWz
  go_enter Tryd.func14, Tryd.ntmps14
  go_wp2_with fail
  rw [HW.out]
  refine (H1.out _ (Below.refl _ _)).mono ?_
  rintro e w1 ⟨rfl, hb1⟩
  have hcell := fun p hp => hb1.cell (p := p) hp
  have hz1 := hb1.size
  have HB1 := Lib.hid hb1
  clear hb1
  go_wp2_with fail
  refine (H2.out _ HB1.out).mono ?_
  rintro e w2 ⟨rfl, hb2⟩
  have hb2' := HB1.out.trans (hb2.mono hz1)
  have hcell2 := fun p hp => hb2'.cell (p := p) hp
  have hz2 := hb2'.size
  have HB2 := Lib.hid hb2'
  clear hb2 hb2' hcell
  go_wp2_with fail
  refine (H3.out _ HB2.out).mono ?_
  rintro e w3 ⟨rfl, hb3⟩
  have hb3' := HB2.out.trans (hb3.mono hz2)
  have hcell3 := fun p hp => hb3'.cell (p := p) hp
  have hz3 := hb3'.size
  have HB3 := Lib.hid hb3'
  clear hb3 hb3' hcell2
  go_wp2_with fail
  refine (H4.out _ HB3.out).mono ?_
  rintro e w4 ⟨rfl, hb4⟩
  go_wp2_with fail
  go_ret
  exact ⟨rfl, HBW.out.trans ((HB3.out.trans (hb4.mono hz3)).mono (by have := HWZ.out; omega))⟩

end Go.Proofs.YtpahohbpilgdnaaDoor

/- The walk of the law TreeNodes. -/
namespace Go.Proofs.YtpahohbpilgdnaaDoor
open Go.RowKit
set_option linter.unusedVariables false
set_option maxRecDepth 100000

/-- A node's five cells, from a boxed one, in every later world. -/
theorem five_kept {W V : World} {g : Nat} {c0 c1 c2 c3 c4 : Value} (h : W.heap[g]? = some (.cells #[c0, c1, c2, c3, c4] 0 (0, 0)) ∨ ∃ e, Bk W g e #[c0, c1, c2, c3, c4]) (hb : Below W.heap.size W V) (hg : g < W.heap.size) :
    V.cell? ⟨g, 0, none⟩ = some c0 ∧ V.cell? ⟨g, 1, none⟩ = some c1 ∧ V.cell? ⟨g, 2, none⟩ = some c2 ∧ V.cell? ⟨g, 3, none⟩ = some c3 ∧ V.cell? ⟨g, 4, none⟩ = some c4 := by
  have e : ∀ q, V.cell? ⟨g, q, none⟩ = W.cell? ⟨g, q, none⟩ := fun q => hb.cell (p := ⟨g, q, none⟩) hg
  rcases h with h | ⟨t, h⟩
  · have k : Bk W g 0 #[c0, c1, c2, c3, c4] := h
    exact ⟨(e 0).trans (k.cell 0), (e 1).trans (k.cell 1), (e 2).trans (k.cell 2), (e 3).trans (k.cell 3), (e 4).trans (k.cell 4)⟩
  · exact ⟨(e 0).trans (h.cell 0), (e 1).trans (h.cell 1), (e 2).trans (h.cell 2), (e 3).trans (h.cell 3), (e 4).trans (h.cell 4)⟩

theorem fit_big {t : RT} (h : 9900 ≤ t.size) : fitB t = false := by
  cases e : fitB t with
  | false => rfl
  | true => have := (fitB_true.1 e).1; omega

set_option maxHeartbeats 8000000 in
theorem nodes_walk (t : RT) (A : Option Addr) (cap : Nat) (w : World) (hn : IsNode w 0 w.heap.size t A cap) (hS : Shapes w) :
    Calls Tryd.prog 3 #[nodeV t A cap] w fun e w' => e = .returned (.bool true) ∧ Below w.heap.size w w' := by
  have HO := Lib.hid (of_any t 0 w.heap.size A cap)
  unfold OfIs at HO
  cases hok : ofB t with
  | false =>
    obtain ⟨u, hu⟩ : ∃ u, ofT t = u := ⟨_, rfl⟩
    rw [hok, hu] at HO
    have hbig := of_no hok
    have hf := fit_big hbig
    have e1 := fun V h1 h2 h3 => expr_any t 0 w.heap.size A cap V h1 h2 h3
    have e2 := fun V h1 h2 h3 => pattern_any t 0 w.heap.size A cap V h1 h2 h3
    have e3 := fun V h1 h2 => size_any t 0 w.heap.size A cap V h1 h2
    have e4 := fun V h1 h2 => depth_any t 0 w.heap.size A cap V h1 h2
    rw [hf, Bool.false_and] at e1 e2
    rw [cutN_hi (by omega)] at e3
    rw [show deepN t = 129 by unfold deepN; rw [if_pos (by omega)]] at e4
    have HBox := Lib.hid (fun (V : World) (hV : Below w.heap.size w V) => hn.kept hV (Nat.le_refl _))
    have E1 := Lib.hid e1
    have E2 := Lib.hid e2
    have E3 := Lib.hid e3
    have E4 := Lib.hid e4
    have HS := Lib.hid hS
    have HN := Lib.hid hn
    clear hok hu hbig hf e1 e2 e3 e4 hS hn
    unfold nodeV at HO E1 E2 E3 E4 ⊢
    go_enter Tryd.func3, Tryd.ntmps3
    go_wp2_with fail
    refine (HO.out _ (HN.out.alloc (Nat.le_refl _) _) (by simp)).mono ?_
    rintro e w1 ⟨A', cap', rfl, -, hb1⟩
    have hz1 := hb1.size
    simp at hz1
    have HB1 := Lib.hid (((Below.refl _ _).alloc (Nat.le_refl _) (.cells #[.int .i64 t.k, .int .i64 t.a, .string t.s, .int .i64 t.n, .slice A t.l.length cap] 24)).trans (hb1.mono (by simp)))
    obtain ⟨k0, k1, k2, k3, k4⟩ := five_kept (.inr ⟨_, Bk.new w 24 #[.int .i64 t.k, .int .i64 t.a, .string t.s, .int .i64 t.n, .slice A t.l.length cap]⟩) hb1 (by simp)
    have hlt : w.heap.size < w1.heap.size := by omega
    clear hb1
    go_wp2_with fail
    have HB2 := Lib.hid (HB1.out.alloc (by omega) (.cells #[.int .i64 u.k, .int .i64 u.a, .string u.s, .int .i64 u.n, .slice A' u.l.length cap'] 27))
    refine (E1.out _ (HBox.out _ HB2.out) (by simp; omega) (HS.out.below HB2.out)).mono ?_
    rintro e w3 ⟨rfl, hb3⟩
    have hcell3 := fun p hp => hb3.cell (p := p) hp
    have hz3 := hb3.size
    simp at hz3
    have HB3 := Lib.hid (HB2.out.trans (hb3.mono (by simp; omega)))
    clear hb3
    have hlt3 : w.heap.size < w3.heap.size := by omega
    go_wp2_with fail
    refine (E2.out _ (HBox.out _ HB3.out) (by omega) (HS.out.below HB3.out)).mono ?_
    rintro e w4 ⟨rfl, hb4⟩
    have hcell4 := fun p hp => hb4.cell (p := p) hp
    have hz4 := hb4.size
    have HB4 := Lib.hid (HB3.out.trans (hb4.mono (by omega)))
    clear hb4
    have hlt4 : w.heap.size < w4.heap.size := by omega
    go_wp2_with fail
    refine (E3.out _ (HBox.out _ HB4.out) (by omega)).mono ?_
    rintro e w5 ⟨rfl, hb5⟩
    have hcell5 := fun p hp => hb5.cell (p := p) hp
    have hz5 := hb5.size
    have HB5 := Lib.hid (HB4.out.trans (hb5.mono (by omega)))
    clear hb5
    have hlt5 : w.heap.size < w5.heap.size := by omega
    go_wp2_with fail
    refine (E4.out _ (HBox.out _ HB5.out) (by omega)).mono ?_
    rintro e w6 ⟨rfl, hb6⟩
    have HB6 := Lib.hid (HB5.out.trans (hb6.mono (by omega)))
    have hz6 := hb6.size
    clear hb6
    go_wp2_with fail
    refine (awake_any _ (HS.out.below HB6.out)).mono ?_
    rintro e w7 ⟨rfl, hb7⟩
    go_wp2_with fail
    go_ret
    exact ⟨rfl, HB6.out.trans (hb7.mono (by omega))⟩
  | true =>
    obtain ⟨hu, -⟩ := of_yes hok
    rw [hok, hu] at HO
    obtain ⟨x1, hx1⟩ : ∃ x, (fitB t && goodB t false) = x := ⟨_, rfl⟩
    obtain ⟨x2, hx2⟩ : ∃ x, (fitB t && goodB t true) = x := ⟨_, rfl⟩
    obtain ⟨x3, hx3⟩ : ∃ x, cutN t.size = x := ⟨_, rfl⟩
    obtain ⟨x4, hx4⟩ : ∃ x, deepN t = x := ⟨_, rfl⟩
    have HBox := Lib.hid (fun (V : World) (hV : Below w.heap.size w V) => hn.kept hV (Nat.le_refl _))
    have e1 := fun V (hV : Below w.heap.size w V) => expr_any t 0 w.heap.size A cap V (HBox.out V hV) hV.size (hS.below hV)
    have e2 := fun V (hV : Below w.heap.size w V) => pattern_any t 0 w.heap.size A cap V (HBox.out V hV) hV.size (hS.below hV)
    have e3 := fun V (hV : Below w.heap.size w V) => size_any t 0 w.heap.size A cap V (HBox.out V hV) hV.size
    have e4 := fun V (hV : Below w.heap.size w V) => depth_any t 0 w.heap.size A cap V (HBox.out V hV) hV.size
    have e5 := fun V (hV : Below w.heap.size w V) => awake_any V (hS.below hV)
    rw [hx1] at e1
    rw [hx2] at e2
    rw [hx3] at e3
    rw [hx4] at e4
    have E1 := Lib.hid e1
    have E2 := Lib.hid e2
    have E3 := Lib.hid e3
    have E4 := Lib.hid e4
    have E5 := Lib.hid e5
    have HN := Lib.hid hn
    clear hok hu e1 e2 e3 e4 e5 hS hn
    unfold nodeV at HO E1 E2 E3 E4 ⊢
    go_enter Tryd.func3, Tryd.ntmps3
    go_wp2_with fail
    refine (HO.out _ (HN.out.alloc (Nat.le_refl _) _) (by simp)).mono ?_
    rintro e w1 ⟨A', cap', rfl, hn1, hb1⟩
    have hz1 := hb1.size
    simp at hz1
    have HB1 := Lib.hid (((Below.refl _ _).alloc (Nat.le_refl _) (.cells #[.int .i64 t.k, .int .i64 t.a, .string t.s, .int .i64 t.n, .slice A t.l.length cap] 24)).trans (hb1.mono (by simp)))
    have BK1 : Bk w1 w.heap.size 24 #[.int .i64 t.k, .int .i64 t.a, .string t.s, .int .i64 t.n, .slice A t.l.length cap] := (Bk.new w 24 _).below hb1 (by simp)
    obtain ⟨W, hW⟩ : ∃ W, w1.alloc (.cells #[.int .i64 t.k, .int .i64 t.a, .string t.s, .int .i64 t.n, .slice A' t.l.length cap'] 27) = W := ⟨_, rfl⟩
    have hBW : Below w.heap.size w W := by rw [← hW]; exact HB1.out.alloc (by omega) _
    have hWz : W.heap.size = w1.heap.size + 1 := by rw [← hW]; simp
    have BW1 : Bk W w.heap.size 24 #[.int .i64 t.k, .int .i64 t.a, .string t.s, .int .i64 t.n, .slice A t.l.length cap] := by rw [← hW]; exact BK1.alloc _
    have BW2 : Bk W w1.heap.size 27 #[.int .i64 t.k, .int .i64 t.a, .string t.s, .int .i64 t.n, .slice A' t.l.length cap'] := by rw [← hW]; exact Bk.new _ _ _
    have HNW : IsNode W (w.alloc (.cells #[.int .i64 t.k, .int .i64 t.a, .string t.s, .int .i64 t.n, .slice A t.l.length cap] 24)).heap.size w1.heap.size t A' cap' := by rw [← hW]; exact hn1.alloc (Nat.le_refl _) _
    have f1 := fun V (hV : Below W.heap.size W V) => refExpr_any t _ _ A' cap' V (HNW.kept hV (by omega)) (by have := hV.size; omega)
    have f2 := fun V (hV : Below W.heap.size W V) => refPattern_any t _ _ A' cap' V (HNW.kept hV (by omega)) (by have := hV.size; omega)
    have f3 := fun V (hV : Below W.heap.size W V) => refSize_any t _ _ A' cap' V (HNW.kept hV (by omega)) (by have := hV.size; omega)
    have f4 := fun V (hV : Below W.heap.size W V) => refDepth_any t _ _ A' cap' V (HNW.kept hV (by omega)) (by have := hV.size; omega)
    rw [hx1] at f1
    rw [hx2] at f2
    rw [hx3] at f3
    rw [hx4] at f4
    unfold nodeV at f1 f2 f3 f4
    have F1 := Lib.hid f1
    have F2 := Lib.hid f2
    have F3 := Lib.hid f3
    have F4 := Lib.hid f4
    have G1 := Lib.hid (fun V (hV : Below W.heap.size W V) => E1.out V (hBW.trans (hV.mono hBW.size)))
    have G2 := Lib.hid (fun V (hV : Below W.heap.size W V) => E2.out V (hBW.trans (hV.mono hBW.size)))
    have G3 := Lib.hid (fun V (hV : Below W.heap.size W V) => E3.out V (hBW.trans (hV.mono hBW.size)))
    have G4 := Lib.hid (fun V (hV : Below W.heap.size W V) => E4.out V (hBW.trans (hV.mono hBW.size)))
    have G5 := Lib.hid (fun V (hV : Below W.heap.size W V) => E5.out V (hBW.trans (hV.mono hBW.size)))
    have KEEP := Lib.hid (fun V (hV : Below W.heap.size W V) => And.intro (five_kept (.inr ⟨_, BW1⟩) hV (by omega)) (five_kept (.inr ⟨_, BW2⟩) hV (by omega)))
    have HBW := Lib.hid hBW
    obtain ⟨⟨k0, k1, k2, k3, k4⟩, m0, m1, m2, m3, m4⟩ := KEEP.out W (Below.refl _ _)
    have hbk := Lib.hid ((Below.refl W.heap.size W).drew)
    clear f1 f2 f3 f4 hb1 hn1 BK1 BW1 BW2 HNW hBW hx1 hx2 hx3 hx4 E1 E2 E3 E4 E5
    have HW := Lib.hid hW
    clear hW
    go_wp2_with fail
    rw [HW.out]
    go_region_held3 (fun w' => Below W.heap.size W w' ∧
        (w'.cell? ⟨w.heap.size, 0, none⟩ = some (.int .i64 t.k) ∧ w'.cell? ⟨w.heap.size, 1, none⟩ = some (.int .i64 t.a) ∧ w'.cell? ⟨w.heap.size, 2, none⟩ = some (.string t.s) ∧ w'.cell? ⟨w.heap.size, 3, none⟩ = some (.int .i64 t.n) ∧ w'.cell? ⟨w.heap.size, 4, none⟩ = some (.slice A t.l.length cap)) ∧
        (w'.cell? ⟨w1.heap.size, 0, none⟩ = some (.int .i64 t.k) ∧ w'.cell? ⟨w1.heap.size, 1, none⟩ = some (.int .i64 t.a) ∧ w'.cell? ⟨w1.heap.size, 2, none⟩ = some (.string t.s) ∧ w'.cell? ⟨w1.heap.size, 3, none⟩ = some (.int .i64 t.n) ∧ w'.cell? ⟨w1.heap.size, 4, none⟩ = some (.slice A' t.l.length cap')))
      (first | exact ⟨hbk.out, KEEP.out _ hbk.out⟩)
      (first
        | (go_at_call 10; refine (G1.out _ hbk.out).mono ?_; rintro e w3 ⟨rfl, hb3⟩; have hbk := Lib.hid (hbk.out.trans (hb3.mono hbk.out.size)); clear hb3)
        | (go_at_call 15; refine (F1.out _ hbk.out).mono ?_; rintro e w3 ⟨rfl, hb3⟩; have hbk := Lib.hid (hbk.out.trans (hb3.mono hbk.out.size)); clear hb3)
        | (go_at_call 11; refine (G2.out _ hbk.out).mono ?_; rintro e w3 ⟨rfl, hb3⟩; have hbk := Lib.hid (hbk.out.trans (hb3.mono hbk.out.size)); clear hb3)
        | (go_at_call 16; refine (F2.out _ hbk.out).mono ?_; rintro e w3 ⟨rfl, hb3⟩; have hbk := Lib.hid (hbk.out.trans (hb3.mono hbk.out.size)); clear hb3)
        | (go_at_call 12; refine (G3.out _ hbk.out).mono ?_; rintro e w3 ⟨rfl, hb3⟩; have hbk := Lib.hid (hbk.out.trans (hb3.mono hbk.out.size)); clear hb3)
        | (go_at_call 17; refine (F3.out _ hbk.out).mono ?_; rintro e w3 ⟨rfl, hb3⟩; have hbk := Lib.hid (hbk.out.trans (hb3.mono hbk.out.size)); clear hb3)
        | (go_at_call 13; refine (G4.out _ hbk.out).mono ?_; rintro e w3 ⟨rfl, hb3⟩; have hbk := Lib.hid (hbk.out.trans (hb3.mono hbk.out.size)); clear hb3)
        | (go_at_call 18; refine (F4.out _ hbk.out).mono ?_; rintro e w3 ⟨rfl, hb3⟩; have hbk := Lib.hid (hbk.out.trans (hb3.mono hbk.out.size)); clear hb3)
        | (go_at_call 14; refine (G5.out _ hbk.out).mono ?_; rintro e w3 ⟨rfl, hb3⟩; have hbk := Lib.hid (hbk.out.trans (hb3.mono hbk.out.size)); clear hb3))
    all_goals
      go_wp2_with fail
      go_ret
      exact ⟨rfl, HBW.out.trans (hbk.out.mono HBW.out.size)⟩

end Go.Proofs.YtpahohbpilgdnaaDoor

/- The walk of the law TreeSames. -/
namespace Go.Proofs.YtpahohbpilgdnaaDoor
open Go.RowKit
set_option linter.unusedVariables false
set_option maxRecDepth 100000

theorem same_symm : ∀ t u : RT, same t u = same u t := by
  intro t
  induction t using RT.ind with
  | h k a s n l ih =>
    rintro ⟨k', a', s', n', l'⟩
    rw [same_node, same_node]
    have e1 : decide (k = k') = decide (k' = k) := by congr 1; exact propext ⟨Eq.symm, Eq.symm⟩
    have e2 : decide (s = s') = decide (s' = s) := by congr 1; exact propext ⟨Eq.symm, Eq.symm⟩
    have e3 : decide (n = n') = decide (n' = n) := by congr 1; exact propext ⟨Eq.symm, Eq.symm⟩
    rw [e1, e2, e3]
    congr 3
    by_cases hl : l.length = l'.length
    · rw [pairsB_eq hl, pairsB_eq hl.symm, ← hl]
      refine allB_congr fun i hi => ?_
      rw [pairAt_of same hi (by omega), pairAt_of same (by omega) hi]
      exact ih _ (List.getElem_mem hi) _
    · rw [pairsB_len hl, pairsB_len (fun e => hl e.symm)]
theorem sameB_symm (t u : RT) : sameB t u = sameB u t := by
  unfold sameB
  rw [same_symm]
  cases fitB t <;> cases fitB u <;> rfl

set_option maxHeartbeats 8000000 in
theorem sames_walk (t u : RT) (A B : Option Addr) (cap cap2 : Nat) (w : World) (hn : IsNode w 0 w.heap.size t A cap) (hm : IsNode w 0 w.heap.size u B cap2) (hS : Shapes w) :
    Calls Tryd.prog 4 #[nodeV t A cap, nodeV u B cap2] w fun e w' => e = .returned (.bool true) ∧ Below w.heap.size w w' := by
  have HO := Lib.hid (of_any t 0 w.heap.size A cap)
  have HP := Lib.hid (of_any u 0 w.heap.size B cap2)
  unfold OfIs at HO HP
  obtain ⟨x, hx⟩ : ∃ x, sameB t u = x := ⟨_, rfl⟩
  have hx' : sameB u t = x := by rw [sameB_symm]; exact hx
  have HT := Lib.hid (fun (V : World) (hV : Below w.heap.size w V) => hn.kept hV (Nat.le_refl _))
  have HU := Lib.hid (fun (V : World) (hV : Below w.heap.size w V) => hm.kept hV (Nat.le_refl _))
  have e1 := fun V (hV : Below w.heap.size w V) => tSame_any t u 0 w.heap.size 0 w.heap.size A B cap cap2 V (HT.out V hV) (HU.out V hV) hV.size hV.size
  have e2 := fun V (hV : Below w.heap.size w V) => tSame_any u t 0 w.heap.size 0 w.heap.size B A cap2 cap V (HU.out V hV) (HT.out V hV) hV.size hV.size
  have e5 := fun V (hV : Below w.heap.size w V) => awake_any V (hS.below hV)
  rw [hx] at e1
  rw [hx'] at e2
  have hxo : ofB t = false ∨ ofB u = false → x = false := by
    rintro (h | h)
    · rw [← hx]; unfold sameB; rw [fit_big (of_no h)]; rfl
    · rw [← hx]; unfold sameB; rw [fit_big (of_no h)]; cases fitB t <;> rfl
  have hyes : ofB t = true → ofT t = t := fun h => (of_yes h).1
  have hyes2 : ofB u = true → ofT u = u := fun h => (of_yes h).1
  obtain ⟨t', ht'⟩ : ∃ t', ofT t = t' := ⟨_, rfl⟩
  obtain ⟨u', hu'⟩ : ∃ u', ofT u = u' := ⟨_, rfl⟩
  obtain ⟨b1, hb1⟩ : ∃ b, ofB t = b := ⟨_, rfl⟩
  obtain ⟨b2, hb2⟩ : ∃ b, ofB u = b := ⟨_, rfl⟩
  rw [ht', hb1] at HO
  rw [hu', hb2] at HP
  rw [hb1, hb2] at hxo
  rw [hb1, ht'] at hyes
  rw [hb2, hu'] at hyes2
  have E1 := Lib.hid e1
  have E2 := Lib.hid e2
  have E5 := Lib.hid e5
  have HX := Lib.hid hx
  have HXO := Lib.hid hxo
  have HY := Lib.hid hyes
  have HY2 := Lib.hid hyes2
  clear hx hx' e1 e2 e5 hxo hyes hyes2 ht' hu' hb1 hb2 hS hn hm
  unfold nodeV at HO HP E1 E2 ⊢
  have HW2 := Lib.hid (fun o1 o2 => ((Below.refl w.heap.size w).alloc (Nat.le_refl _) o1).alloc (by simp) o2)
  go_enter Tryd.func4, Tryd.ntmps4
  go_wp2_with fail
  refine (HO.out _ (HT.out _ (HW2.out _ _)) (by simp; omega)).mono ?_
  rintro e w1 ⟨A', cap', rfl, hn1, hd1⟩
  have hz1 := hd1.size
  simp at hz1
  have HB1 := Lib.hid ((HW2.out (.cells #[.int .i64 t.k, .int .i64 t.a, .string t.s, .int .i64 t.n, .slice A t.l.length cap] 24) (.cells #[.int .i64 u.k, .int .i64 u.a, .string u.s, .int .i64 u.n, .slice B u.l.length cap2] 24)).trans (hd1.mono (by simp; omega)))
  have BK1 : Bk w1 w.heap.size 24 #[.int .i64 t.k, .int .i64 t.a, .string t.s, .int .i64 t.n, .slice A t.l.length cap] := ((Bk.new w 24 _).alloc _).below hd1 (by simp; omega)
  have BK2 : Bk w1 (w.heap.size + 1) 24 #[.int .i64 u.k, .int .i64 u.a, .string u.s, .int .i64 u.n, .slice B u.l.length cap2] := by
    have := (Bk.new (w.alloc (.cells #[.int .i64 t.k, .int .i64 t.a, .string t.s, .int .i64 t.n, .slice A t.l.length cap] 24)) 24 #[.int .i64 u.k, .int .i64 u.a, .string u.s, .int .i64 u.n, .slice B u.l.length cap2]).below hd1 (by simp)
    simpa using this
  obtain ⟨k0, k1, k2, k3, k4⟩ := five_kept (.inr ⟨_, BK2⟩) (Below.refl _ _) (by omega)
  have hlt : w.heap.size + 1 < w1.heap.size := by omega
  have HBK1 := Lib.hid BK1
  have HBK2 := Lib.hid BK2
  have HN1 := Lib.hid hn1
  clear hd1 BK1 BK2 hn1
  go_wp2_with fail
  have HB1a := Lib.hid (HB1.out.alloc (by omega) (.cells #[.int .i64 t'.k, .int .i64 t'.a, .string t'.s, .int .i64 t'.n, .slice A' t'.l.length cap'] 27))
  refine (HP.out _ (HU.out _ HB1a.out) (by simp; omega)).mono ?_
  rintro e w2 ⟨B', cap2', rfl, hn2, hd2⟩
  have hz2 := hd2.size
  simp at hz2
  have HB2 := Lib.hid (HB1a.out.trans (hd2.mono (by simp; omega)))
  have HBL1 := Lib.hid ((HBK1.out.alloc (.cells #[.int .i64 t'.k, .int .i64 t'.a, .string t'.s, .int .i64 t'.n, .slice A' t'.l.length cap'] 27)).below hd2 (by simp; omega))
  have HBL2 := Lib.hid ((HBK2.out.alloc (.cells #[.int .i64 t'.k, .int .i64 t'.a, .string t'.s, .int .i64 t'.n, .slice A' t'.l.length cap'] 27)).below hd2 (by simp; omega))
  have HBL3 := Lib.hid ((Bk.new w1 27 #[.int .i64 t'.k, .int .i64 t'.a, .string t'.s, .int .i64 t'.n, .slice A' t'.l.length cap']).below hd2 (by simp))
  have HN2 := Lib.hid ((HN1.out.alloc (Nat.le_refl _) (.cells #[.int .i64 t'.k, .int .i64 t'.a, .string t'.s, .int .i64 t'.n, .slice A' t'.l.length cap'] 27)).kept hd2 (by simp))
  obtain ⟨W, hW⟩ : ∃ W, w2.alloc (.cells #[.int .i64 u'.k, .int .i64 u'.a, .string u'.s, .int .i64 u'.n, .slice B' u'.l.length cap2'] 27) = W := ⟨_, rfl⟩
  have hBW : Below w.heap.size w W := by rw [← hW]; exact HB2.out.alloc (by omega) _
  have hWz : W.heap.size = w2.heap.size + 1 := by rw [← hW]; simp
  have BW1 : Bk W w.heap.size 24 #[.int .i64 t.k, .int .i64 t.a, .string t.s, .int .i64 t.n, .slice A t.l.length cap] := by rw [← hW]; exact HBL1.out.alloc _
  have BW2 : Bk W (w.heap.size + 1) 24 #[.int .i64 u.k, .int .i64 u.a, .string u.s, .int .i64 u.n, .slice B u.l.length cap2] := by rw [← hW]; exact HBL2.out.alloc _
  have BW3 : Bk W w1.heap.size 27 #[.int .i64 t'.k, .int .i64 t'.a, .string t'.s, .int .i64 t'.n, .slice A' t'.l.length cap'] := by rw [← hW]; exact HBL3.out.alloc _
  have BW4 : Bk W w2.heap.size 27 #[.int .i64 u'.k, .int .i64 u'.a, .string u'.s, .int .i64 u'.n, .slice B' u'.l.length cap2'] := by rw [← hW]; exact Bk.new _ _ _
  have hNW1 : IsNode W 0 w1.heap.size t' A' cap' := by rw [← hW]; exact (HN2.out.alloc (by omega) _).wide (by omega) (Nat.le_refl _)
  have hNW2 : IsNode W 0 w2.heap.size u' B' cap2' := by rw [← hW]; exact (hn2.alloc (Nat.le_refl _) _).wide (by omega) (Nat.le_refl _)
  have G1 := Lib.hid (fun V (hV : Below W.heap.size W V) => E1.out V (hBW.trans (hV.mono hBW.size)))
  have G2 := Lib.hid (fun V (hV : Below W.heap.size W V) => E2.out V (hBW.trans (hV.mono hBW.size)))
  have G5 := Lib.hid (fun V (hV : Below W.heap.size W V) => E5.out V (hBW.trans (hV.mono hBW.size)))
  have F1 := Lib.hid (fun V (hV : Below W.heap.size W V) => rSame_any t' u' 0 w1.heap.size 0 w2.heap.size A' B' cap' cap2' V (hNW1.kept hV (by omega)) (hNW2.kept hV (by omega)) (by have := hV.size; omega) (by have := hV.size; omega))
  have KEEP := Lib.hid (fun V (hV : Below W.heap.size W V) => And.intro (five_kept (.inr ⟨_, BW1⟩) hV (by omega)) (And.intro (five_kept (.inr ⟨_, BW2⟩) hV (by omega)) (And.intro (five_kept (.inr ⟨_, BW3⟩) hV (by omega)) (five_kept (.inr ⟨_, BW4⟩) hV (by omega)))))
  have HBW := Lib.hid hBW
  obtain ⟨⟨p0, p1, p2, p3, p4⟩, ⟨q0, q1, q2, q3, q4⟩, ⟨r0, r1, r2, r3, r4⟩, s0, s1, s2, s3, s4⟩ := KEEP.out W (Below.refl _ _)
  have HW := Lib.hid hW
  have HWZ := Lib.hid hWz
  clear hd2 hn2 BW1 BW2 BW3 BW4 hNW1 hNW2 hBW k0 k1 k2 k3 k4 hW hWz
  unfold nodeV at F1
  by_cases hok : b1 = true ∧ b2 = true
  · obtain ⟨hk1, hk2⟩ := hok
    have ht := HY.out hk1
    have hu := HY2.out hk2
    subst hk1 hk2 ht hu
    rw [HX.out] at F1
    have hbk := Lib.hid ((Below.refl W.heap.size W).drew)
    go_wp2_with fail
    rw [HW.out]
    go_region_held3 (fun w' => Below W.heap.size W w' ∧
        (w'.cell? ⟨w.heap.size, 0, none⟩ = some (.int .i64 t'.k) ∧ w'.cell? ⟨w.heap.size, 1, none⟩ = some (.int .i64 t'.a) ∧ w'.cell? ⟨w.heap.size, 2, none⟩ = some (.string t'.s) ∧ w'.cell? ⟨w.heap.size, 3, none⟩ = some (.int .i64 t'.n) ∧ w'.cell? ⟨w.heap.size, 4, none⟩ = some (.slice A t'.l.length cap)) ∧
        (w'.cell? ⟨w.heap.size + 1, 0, none⟩ = some (.int .i64 u'.k) ∧ w'.cell? ⟨w.heap.size + 1, 1, none⟩ = some (.int .i64 u'.a) ∧ w'.cell? ⟨w.heap.size + 1, 2, none⟩ = some (.string u'.s) ∧ w'.cell? ⟨w.heap.size + 1, 3, none⟩ = some (.int .i64 u'.n) ∧ w'.cell? ⟨w.heap.size + 1, 4, none⟩ = some (.slice B u'.l.length cap2)) ∧
        (w'.cell? ⟨w1.heap.size, 0, none⟩ = some (.int .i64 t'.k) ∧ w'.cell? ⟨w1.heap.size, 1, none⟩ = some (.int .i64 t'.a) ∧ w'.cell? ⟨w1.heap.size, 2, none⟩ = some (.string t'.s) ∧ w'.cell? ⟨w1.heap.size, 3, none⟩ = some (.int .i64 t'.n) ∧ w'.cell? ⟨w1.heap.size, 4, none⟩ = some (.slice A' t'.l.length cap')) ∧
        (w'.cell? ⟨w2.heap.size, 0, none⟩ = some (.int .i64 u'.k) ∧ w'.cell? ⟨w2.heap.size, 1, none⟩ = some (.int .i64 u'.a) ∧ w'.cell? ⟨w2.heap.size, 2, none⟩ = some (.string u'.s) ∧ w'.cell? ⟨w2.heap.size, 3, none⟩ = some (.int .i64 u'.n) ∧ w'.cell? ⟨w2.heap.size, 4, none⟩ = some (.slice B' u'.l.length cap2')))
      (first | exact ⟨hbk.out, KEEP.out _ hbk.out⟩)
      (first
        | (go_at_call 19; (with_reducible refine (G1.out _ hbk.out).mono ?_); rintro e w3 ⟨rfl, hb3⟩; have hbk := Lib.hid (hbk.out.trans (hb3.mono hbk.out.size)); clear hb3)
        | (go_at_call 19; (with_reducible refine (G2.out _ hbk.out).mono ?_); rintro e w3 ⟨rfl, hb3⟩; have hbk := Lib.hid (hbk.out.trans (hb3.mono hbk.out.size)); clear hb3)
        | (go_at_call 20; (with_reducible refine (F1.out _ hbk.out).mono ?_); rintro e w3 ⟨rfl, hb3⟩; have hbk := Lib.hid (hbk.out.trans (hb3.mono hbk.out.size)); clear hb3)
        | (go_at_call 14; (with_reducible refine (G5.out _ hbk.out).mono ?_); rintro e w3 ⟨rfl, hb3⟩; have hbk := Lib.hid (hbk.out.trans (hb3.mono hbk.out.size)); clear hb3))
    all_goals
      go_wp2_with fail
      go_ret
      exact ⟨rfl, HBW.out.trans (hbk.out.mono HBW.out.size)⟩
  · have hxf : x = false := HXO.out (by cases b1 <;> cases b2 <;> simp_all)
    subst hxf
    have hk : b1 = false ∨ (b1 = true ∧ b2 = false) := by cases b1 <;> cases b2 <;> simp_all
    clear hok p0 p1 p2 p3 p4 q0 q1 q2 q3 q4 r0 r1 r2 r3 r4 s0 s1 s2 s3 s4
    obtain ⟨p0, p1, p2, p3, p4⟩ := five_kept (.inr ⟨_, HBL1.out⟩) (Below.refl _ _) (by omega)
    obtain ⟨q0, q1, q2, q3, q4⟩ := five_kept (.inr ⟨_, HBL2.out⟩) (Below.refl _ _) (by omega)
    have hl1 : w.heap.size < w2.heap.size := by omega
    have hl2 : w.heap.size + 1 < w2.heap.size := by omega
    rcases hk with rfl | ⟨rfl, rfl⟩
    · go_wp2_with fail
      rw [HW.out]
      refine (G1.out _ (Below.refl _ _)).mono ?_
      rintro e w3 ⟨rfl, hb3⟩
      go_wp2_with fail
      refine (G5.out _ hb3).mono ?_
      rintro e w4 ⟨rfl, hb4⟩
      go_wp2_with fail
      go_ret
      exact ⟨rfl, HBW.out.trans ((hb3.trans (hb4.mono hb3.size)).mono HBW.out.size)⟩
    · go_wp2_with fail
      rw [HW.out]
      refine (G1.out _ (Below.refl _ _)).mono ?_
      rintro e w3 ⟨rfl, hb3⟩
      go_wp2_with fail
      refine (G5.out _ hb3).mono ?_
      rintro e w4 ⟨rfl, hb4⟩
      go_wp2_with fail
      go_ret
      exact ⟨rfl, HBW.out.trans ((hb3.trans (hb4.mono hb3.size)).mono HBW.out.size)⟩

end Go.Proofs.YtpahohbpilgdnaaDoor
