/- The walk of the law TreeNodes. -/
import Derived.Test.YtmnhpaidaomfbaaDoorOf
import Derived.Test.YtmnhpaidaomfbaaDoorAwake4
namespace Go.Proofs.YtmnhpaidaomfbaaDoor
open Go.RowKit
set_option linter.unusedVariables false
set_option maxRecDepth 100000

/-- A node's five cells, from a boxed one, in every later world. -/
theorem five_kept {W V : World} {g : Nat} {c0 c1 c2 c3 c4 : Value} (h : W.heap[g]? = some (.cells #[c0, c1, c2, c3, c4] 0 (0, 0)) ∨ ∃ e, Bk W g e #[c0, c1, c2, c3, c4]) (hb : Below W.heap.size W V) (hg : g < W.heap.size) :
    V.cell? ⟨g, 0, none⟩ = some c0 ∧ V.cell? ⟨g, 1, none⟩ = some c1 ∧ V.cell? ⟨g, 2, none⟩ = some c2 ∧ V.cell? ⟨g, 3, none⟩ = some c3 ∧ V.cell? ⟨g, 4, none⟩ = some c4 := by
  have e : ∀ q, V.cell? ⟨g, q, none⟩ = W.cell? ⟨g, q, none⟩ := fun q => hb.cell (p := ⟨g, q, none⟩) hg
  rcases h with h | ⟨t, h⟩
  · have k : Bk W g 0 #[c0, c1, c2, c3, c4] := h
    exact ⟨(e 0).trans (k.cell 0), (e 1).trans (k.cell 1), (e 2).trans (k.cell 2), (e 3).trans (k.cell 3), (e 4).trans (k.cell 4)⟩
  · exact ⟨(e 0).trans (h.cell 0), (e 1).trans (h.cell 1), (e 2).trans (h.cell 2), (e 3).trans (h.cell 3), (e 4).trans (h.cell 4)⟩

theorem fit_big {t : RT} (h : 9900 ≤ t.size) : fitB t = false := by
  cases e : fitB t with
  | false => rfl
  | true => have := (fitB_true.1 e).1; omega

set_option maxHeartbeats 8000000 in
theorem nodes_walk (t : RT) (A : Option Addr) (cap : Nat) (w : World) (hn : IsNode w 0 w.heap.size t A cap) (hS : Shapes w) :
    Calls Tryd.prog 3 #[nodeV t A cap] w fun e w' => e = .returned (.bool true) ∧ Below w.heap.size w w' := by
  have HO := Lib.hid (of_any t 0 w.heap.size A cap)
  unfold OfIs at HO
  cases hok : ofB t with
  | false =>
    obtain ⟨u, hu⟩ : ∃ u, ofT t = u := ⟨_, rfl⟩
    rw [hok, hu] at HO
    have hbig := of_no hok
    have hf := fit_big hbig
    have e1 := fun V h1 h2 h3 => expr_any t 0 w.heap.size A cap V h1 h2 h3
    have e2 := fun V h1 h2 h3 => pattern_any t 0 w.heap.size A cap V h1 h2 h3
    have e3 := fun V h1 h2 => size_any t 0 w.heap.size A cap V h1 h2
    have e4 := fun V h1 h2 => depth_any t 0 w.heap.size A cap V h1 h2
    rw [hf, Bool.false_and] at e1 e2
    rw [cutN_hi (by omega)] at e3
    rw [show deepN t = 129 by unfold deepN; rw [if_pos (by omega)]] at e4
    have HBox := Lib.hid (fun (V : World) (hV : Below w.heap.size w V) => hn.kept hV (Nat.le_refl _))
    have E1 := Lib.hid e1
    have E2 := Lib.hid e2
    have E3 := Lib.hid e3
    have E4 := Lib.hid e4
    have HS := Lib.hid hS
    have HN := Lib.hid hn
    clear hok hu hbig hf e1 e2 e3 e4 hS hn
    unfold nodeV at HO E1 E2 E3 E4 ⊢
    go_enter Tryd.func3, Tryd.ntmps3
    go_wp2_with fail
    refine (HO.out _ (HN.out.alloc (Nat.le_refl _) _) (by simp)).mono ?_
    rintro e w1 ⟨A', cap', rfl, -, hb1⟩
    have hz1 := hb1.size
    simp at hz1
    have HB1 := Lib.hid (((Below.refl _ _).alloc (Nat.le_refl _) (.cells #[.int .i64 t.k, .int .i64 t.a, .string t.s, .int .i64 t.n, .slice A t.l.length cap] 24)).trans (hb1.mono (by simp)))
    obtain ⟨k0, k1, k2, k3, k4⟩ := five_kept (.inr ⟨_, Bk.new w 24 #[.int .i64 t.k, .int .i64 t.a, .string t.s, .int .i64 t.n, .slice A t.l.length cap]⟩) hb1 (by simp)
    have hlt : w.heap.size < w1.heap.size := by omega
    clear hb1
    go_wp2_with fail
    have HB2 := Lib.hid (HB1.out.alloc (by omega) (.cells #[.int .i64 u.k, .int .i64 u.a, .string u.s, .int .i64 u.n, .slice A' u.l.length cap'] 27))
    refine (E1.out _ (HBox.out _ HB2.out) (by simp; omega) (HS.out.below HB2.out)).mono ?_
    rintro e w3 ⟨rfl, hb3⟩
    have hcell3 := fun p hp => hb3.cell (p := p) hp
    have hz3 := hb3.size
    simp at hz3
    have HB3 := Lib.hid (HB2.out.trans (hb3.mono (by simp; omega)))
    clear hb3
    have hlt3 : w.heap.size < w3.heap.size := by omega
    go_wp2_with fail
    refine (E2.out _ (HBox.out _ HB3.out) (by omega) (HS.out.below HB3.out)).mono ?_
    rintro e w4 ⟨rfl, hb4⟩
    have hcell4 := fun p hp => hb4.cell (p := p) hp
    have hz4 := hb4.size
    have HB4 := Lib.hid (HB3.out.trans (hb4.mono (by omega)))
    clear hb4
    have hlt4 : w.heap.size < w4.heap.size := by omega
    go_wp2_with fail
    refine (E3.out _ (HBox.out _ HB4.out) (by omega)).mono ?_
    rintro e w5 ⟨rfl, hb5⟩
    have hcell5 := fun p hp => hb5.cell (p := p) hp
    have hz5 := hb5.size
    have HB5 := Lib.hid (HB4.out.trans (hb5.mono (by omega)))
    clear hb5
    have hlt5 : w.heap.size < w5.heap.size := by omega
    go_wp2_with fail
    refine (E4.out _ (HBox.out _ HB5.out) (by omega)).mono ?_
    rintro e w6 ⟨rfl, hb6⟩
    have HB6 := Lib.hid (HB5.out.trans (hb6.mono (by omega)))
    have hz6 := hb6.size
    clear hb6
    go_wp2_with fail
    refine (awake_any _ (HS.out.below HB6.out)).mono ?_
    rintro e w7 ⟨rfl, hb7⟩
    go_wp2_with fail
    go_ret
    exact ⟨rfl, HB6.out.trans (hb7.mono (by omega))⟩
  | true =>
    obtain ⟨hu, -⟩ := of_yes hok
    rw [hok, hu] at HO
    obtain ⟨x1, hx1⟩ : ∃ x, (fitB t && goodB t false) = x := ⟨_, rfl⟩
    obtain ⟨x2, hx2⟩ : ∃ x, (fitB t && goodB t true) = x := ⟨_, rfl⟩
    obtain ⟨x3, hx3⟩ : ∃ x, cutN t.size = x := ⟨_, rfl⟩
    obtain ⟨x4, hx4⟩ : ∃ x, deepN t = x := ⟨_, rfl⟩
    have HBox := Lib.hid (fun (V : World) (hV : Below w.heap.size w V) => hn.kept hV (Nat.le_refl _))
    have e1 := fun V (hV : Below w.heap.size w V) => expr_any t 0 w.heap.size A cap V (HBox.out V hV) hV.size (hS.below hV)
    have e2 := fun V (hV : Below w.heap.size w V) => pattern_any t 0 w.heap.size A cap V (HBox.out V hV) hV.size (hS.below hV)
    have e3 := fun V (hV : Below w.heap.size w V) => size_any t 0 w.heap.size A cap V (HBox.out V hV) hV.size
    have e4 := fun V (hV : Below w.heap.size w V) => depth_any t 0 w.heap.size A cap V (HBox.out V hV) hV.size
    have e5 := fun V (hV : Below w.heap.size w V) => awake_any V (hS.below hV)
    rw [hx1] at e1
    rw [hx2] at e2
    rw [hx3] at e3
    rw [hx4] at e4
    have E1 := Lib.hid e1
    have E2 := Lib.hid e2
    have E3 := Lib.hid e3
    have E4 := Lib.hid e4
    have E5 := Lib.hid e5
    have HN := Lib.hid hn
    clear hok hu e1 e2 e3 e4 e5 hS hn
    unfold nodeV at HO E1 E2 E3 E4 ⊢
    go_enter Tryd.func3, Tryd.ntmps3
    go_wp2_with fail
    refine (HO.out _ (HN.out.alloc (Nat.le_refl _) _) (by simp)).mono ?_
    rintro e w1 ⟨A', cap', rfl, hn1, hb1⟩
    have hz1 := hb1.size
    simp at hz1
    have HB1 := Lib.hid (((Below.refl _ _).alloc (Nat.le_refl _) (.cells #[.int .i64 t.k, .int .i64 t.a, .string t.s, .int .i64 t.n, .slice A t.l.length cap] 24)).trans (hb1.mono (by simp)))
    have BK1 : Bk w1 w.heap.size 24 #[.int .i64 t.k, .int .i64 t.a, .string t.s, .int .i64 t.n, .slice A t.l.length cap] := (Bk.new w 24 _).below hb1 (by simp)
    obtain ⟨W, hW⟩ : ∃ W, w1.alloc (.cells #[.int .i64 t.k, .int .i64 t.a, .string t.s, .int .i64 t.n, .slice A' t.l.length cap'] 27) = W := ⟨_, rfl⟩
    have hBW : Below w.heap.size w W := by rw [← hW]; exact HB1.out.alloc (by omega) _
    have hWz : W.heap.size = w1.heap.size + 1 := by rw [← hW]; simp
    have BW1 : Bk W w.heap.size 24 #[.int .i64 t.k, .int .i64 t.a, .string t.s, .int .i64 t.n, .slice A t.l.length cap] := by rw [← hW]; exact BK1.alloc _
    have BW2 : Bk W w1.heap.size 27 #[.int .i64 t.k, .int .i64 t.a, .string t.s, .int .i64 t.n, .slice A' t.l.length cap'] := by rw [← hW]; exact Bk.new _ _ _
    have HNW : IsNode W (w.alloc (.cells #[.int .i64 t.k, .int .i64 t.a, .string t.s, .int .i64 t.n, .slice A t.l.length cap] 24)).heap.size w1.heap.size t A' cap' := by rw [← hW]; exact hn1.alloc (Nat.le_refl _) _
    have f1 := fun V (hV : Below W.heap.size W V) => refExpr_any t _ _ A' cap' V (HNW.kept hV (by omega)) (by have := hV.size; omega)
    have f2 := fun V (hV : Below W.heap.size W V) => refPattern_any t _ _ A' cap' V (HNW.kept hV (by omega)) (by have := hV.size; omega)
    have f3 := fun V (hV : Below W.heap.size W V) => refSize_any t _ _ A' cap' V (HNW.kept hV (by omega)) (by have := hV.size; omega)
    have f4 := fun V (hV : Below W.heap.size W V) => refDepth_any t _ _ A' cap' V (HNW.kept hV (by omega)) (by have := hV.size; omega)
    rw [hx1] at f1
    rw [hx2] at f2
    rw [hx3] at f3
    rw [hx4] at f4
    unfold nodeV at f1 f2 f3 f4
    have F1 := Lib.hid f1
    have F2 := Lib.hid f2
    have F3 := Lib.hid f3
    have F4 := Lib.hid f4
    have G1 := Lib.hid (fun V (hV : Below W.heap.size W V) => E1.out V (hBW.trans (hV.mono hBW.size)))
    have G2 := Lib.hid (fun V (hV : Below W.heap.size W V) => E2.out V (hBW.trans (hV.mono hBW.size)))
    have G3 := Lib.hid (fun V (hV : Below W.heap.size W V) => E3.out V (hBW.trans (hV.mono hBW.size)))
    have G4 := Lib.hid (fun V (hV : Below W.heap.size W V) => E4.out V (hBW.trans (hV.mono hBW.size)))
    have G5 := Lib.hid (fun V (hV : Below W.heap.size W V) => E5.out V (hBW.trans (hV.mono hBW.size)))
    have KEEP := Lib.hid (fun V (hV : Below W.heap.size W V) => And.intro (five_kept (.inr ⟨_, BW1⟩) hV (by omega)) (five_kept (.inr ⟨_, BW2⟩) hV (by omega)))
    have HBW := Lib.hid hBW
    obtain ⟨⟨k0, k1, k2, k3, k4⟩, m0, m1, m2, m3, m4⟩ := KEEP.out W (Below.refl _ _)
    have hbk := Lib.hid ((Below.refl W.heap.size W).drew)
    clear f1 f2 f3 f4 hb1 hn1 BK1 BW1 BW2 HNW hBW hx1 hx2 hx3 hx4 E1 E2 E3 E4 E5
    have HW := Lib.hid hW
    clear hW
    go_wp2_with fail
    rw [HW.out]
    go_region_held3 (fun w' => Below W.heap.size W w' ∧
        (w'.cell? ⟨w.heap.size, 0, none⟩ = some (.int .i64 t.k) ∧ w'.cell? ⟨w.heap.size, 1, none⟩ = some (.int .i64 t.a) ∧ w'.cell? ⟨w.heap.size, 2, none⟩ = some (.string t.s) ∧ w'.cell? ⟨w.heap.size, 3, none⟩ = some (.int .i64 t.n) ∧ w'.cell? ⟨w.heap.size, 4, none⟩ = some (.slice A t.l.length cap)) ∧
        (w'.cell? ⟨w1.heap.size, 0, none⟩ = some (.int .i64 t.k) ∧ w'.cell? ⟨w1.heap.size, 1, none⟩ = some (.int .i64 t.a) ∧ w'.cell? ⟨w1.heap.size, 2, none⟩ = some (.string t.s) ∧ w'.cell? ⟨w1.heap.size, 3, none⟩ = some (.int .i64 t.n) ∧ w'.cell? ⟨w1.heap.size, 4, none⟩ = some (.slice A' t.l.length cap')))
      (first | exact ⟨hbk.out, KEEP.out _ hbk.out⟩)
      (first
        | (go_at_call 10; refine (G1.out _ hbk.out).mono ?_; rintro e w3 ⟨rfl, hb3⟩; have hbk := Lib.hid (hbk.out.trans (hb3.mono hbk.out.size)); clear hb3)
        | (go_at_call 15; refine (F1.out _ hbk.out).mono ?_; rintro e w3 ⟨rfl, hb3⟩; have hbk := Lib.hid (hbk.out.trans (hb3.mono hbk.out.size)); clear hb3)
        | (go_at_call 11; refine (G2.out _ hbk.out).mono ?_; rintro e w3 ⟨rfl, hb3⟩; have hbk := Lib.hid (hbk.out.trans (hb3.mono hbk.out.size)); clear hb3)
        | (go_at_call 16; refine (F2.out _ hbk.out).mono ?_; rintro e w3 ⟨rfl, hb3⟩; have hbk := Lib.hid (hbk.out.trans (hb3.mono hbk.out.size)); clear hb3)
        | (go_at_call 12; refine (G3.out _ hbk.out).mono ?_; rintro e w3 ⟨rfl, hb3⟩; have hbk := Lib.hid (hbk.out.trans (hb3.mono hbk.out.size)); clear hb3)
        | (go_at_call 17; refine (F3.out _ hbk.out).mono ?_; rintro e w3 ⟨rfl, hb3⟩; have hbk := Lib.hid (hbk.out.trans (hb3.mono hbk.out.size)); clear hb3)
        | (go_at_call 13; refine (G4.out _ hbk.out).mono ?_; rintro e w3 ⟨rfl, hb3⟩; have hbk := Lib.hid (hbk.out.trans (hb3.mono hbk.out.size)); clear hb3)
        | (go_at_call 18; refine (F4.out _ hbk.out).mono ?_; rintro e w3 ⟨rfl, hb3⟩; have hbk := Lib.hid (hbk.out.trans (hb3.mono hbk.out.size)); clear hb3)
        | (go_at_call 14; refine (G5.out _ hbk.out).mono ?_; rintro e w3 ⟨rfl, hb3⟩; have hbk := Lib.hid (hbk.out.trans (hb3.mono hbk.out.size)); clear hb3))
    all_goals
      go_wp2_with fail
      go_ret
      exact ⟨rfl, HBW.out.trans (hbk.out.mono HBW.out.size)⟩

end Go.Proofs.YtmnhpaidaomfbaaDoor
