/- The walk of the law TreeLimits. -/
import Derived.Test.YtmnhpaidaomfbaaDoorLimM
import Derived.Test.YtmnhpaidaomfbaaDoorNodesW
import Derived.Test.YtmnhpaidaomfbaaDoorRenew
namespace Go.Proofs.YtmnhpaidaomfbaaDoor
open Go.RowKit
set_option linter.unusedVariables false
set_option maxRecDepth 100000

def ChainRel (K : Nat) (w : World) (g : Nat) (iv : Value) (wr : World) : Prop :=
  ∃ (j : Nat) (A : Option Addr) (cap : Nat), iv = .int .i64 ((j : Int) + 1) ∧ j ≤ 126 + K ∧ Below w.heap.size w wr ∧
    Bk wr g 24 #[.int .i64 (chainT j).k, .int .i64 (chainT j).a, .string (chainT j).s, .int .i64 (chainT j).n, .slice A (chainT j).l.length cap] ∧ IsNode wr (g + 1) wr.heap.size (chainT j) A cap

/-- A node of two: a tree that lies above g, and a leaf, in a new block. -/
theorem two_node {wr : World} {g : Nat} {u : RT} {A : Option Addr} {cap : Nat} (h : IsNode wr (g + 1) wr.heap.size u A cap) (v0 v1 v2 v3 v4 : Value) :
    IsNode ((((((wr.setCell ⟨g, 0, none⟩ v0).setCell ⟨g, 1, none⟩ v1).setCell ⟨g, 2, none⟩ v2).setCell ⟨g, 3, none⟩ v3).setCell ⟨g, 4, none⟩ v4).alloc
        (.cells #[.int .i64 u.k, .int .i64 u.a, .string u.s, .int .i64 u.n, .slice A u.l.length cap, .int .i64 2, .int .i64 0, .string ⟨#[]⟩, .int .i64 0, .slice none 0 0] 24)) (min (g + 1) wr.heap.size)
      ((((((wr.setCell ⟨g, 0, none⟩ v0).setCell ⟨g, 1, none⟩ v1).setCell ⟨g, 2, none⟩ v2).setCell ⟨g, 3, none⟩ v3).setCell ⟨g, 4, none⟩ v4).alloc
        (.cells #[.int .i64 u.k, .int .i64 u.a, .string u.s, .int .i64 u.n, .slice A u.l.length cap, .int .i64 2, .int .i64 0, .string ⟨#[]⟩, .int .i64 0, .slice none 0 0] 24)).heap.size
      (.node 5 0 ⟨#[]⟩ 0 [u, leafS]) (some ⟨wr.heap.size, 0, none⟩) 2 := by
  obtain ⟨V, hV⟩ : ∃ V, ((((wr.setCell ⟨g, 0, none⟩ v0).setCell ⟨g, 1, none⟩ v1).setCell ⟨g, 2, none⟩ v2).setCell ⟨g, 3, none⟩ v3).setCell ⟨g, 4, none⟩ v4 = V := ⟨_, rfl⟩
  have hz : V.heap.size = wr.heap.size := by rw [← hV, size_five]
  have h5 := h.five (g := g) (by omega) v0 v1 v2 v3 v4
  rw [hV] at h5 ⊢
  have hc : ∀ q, (V.alloc (.cells #[.int .i64 u.k, .int .i64 u.a, .string u.s, .int .i64 u.n, .slice A u.l.length cap, .int .i64 2, .int .i64 0, .string ⟨#[]⟩, .int .i64 0, .slice none 0 0] 24)).cell? ⟨wr.heap.size, q, none⟩ = (#[.int .i64 u.k, .int .i64 u.a, .string u.s, .int .i64 u.n, .slice A u.l.length cap, .int .i64 2, .int .i64 0, .string ⟨#[]⟩, .int .i64 0, .slice none 0 0] : Array Value)[q]? := fun q => by
    rw [← hz]; exact (Bk.new V 24 _).cell q
  refine NodeIn.mk _ _ _ _ _ _ _ (fun i => if i = 0 then A else none) (fun i => if i = 0 then cap else 0) (by decide) (by simp) (by decide) (fun _ => ⟨wr.heap.size, 0, rfl, ⟨by omega, by simp; omega⟩, fun i hi => ?_⟩) (fun i hi => ?_)
  · have h2 : i = 0 ∨ i = 1 := by simp at hi; omega
    rcases h2 with rfl | rfl
    · exact ⟨hc 0, hc 1, hc 2, hc 3, hc 4⟩
    · exact ⟨hc 5, hc 6, hc 7, hc 8, hc 9⟩
  · have h2 : i = 0 ∨ i = 1 := by simp at hi; omega
    rcases h2 with rfl | rfl
    · exact (h5.alloc (by omega) _).wide (by omega) (by simp; omega)
    · show NodeIn _ _ leafS none 0
      exact NodeIn.mk _ _ _ _ _ _ _ (fun _ => none) (fun _ => 0) (by decide) (by simp) (by decide) (fun h => by simp at h) (fun i h => by simp at h)

def WideRel (K : Nat) (w : World) (g : Nat) (iv : Value) (wr : World) : Prop :=
  ∃ (i : Nat) (v : Value) (P : Nat → Prop), iv = .int .i64 ((i : Int) + 1) ∧ i ≤ 8190 + K ∧ Below w.heap.size w wr ∧ g < wr.heap.size ∧
    Bk wr g 24 #[.int .i64 8, .int .i64 0, .string ⟨#[99]⟩, .int .i64 0, v] ∧ NodeRow wr (g + 1) 24 v (List.replicate i (leafA, none, 0)) P ∧ ∀ b, ¬ P b
theorem leafA_in (w : World) (P : Nat → Prop) : NodeIn w P leafA none 0 := NodeIn.mk _ _ _ _ _ _ _ (fun _ => none) (fun _ => 0) (by decide) (by simp) (by decide) (fun h => by simp at h) (fun i h => by simp at h)

set_option maxHeartbeats 4000000 in
theorem limits_walk (m : Int) (w : World) (hm : (Lit.int .u8 m).wf = true) (hS : Shapes w) :
    Calls Tryd.prog 8 #[.int .u8 m] w fun e w' => e = .returned (.bool true) ∧ Below w.heap.size w w' := by
  obtain ⟨i0, hi0, hz0, hz1', hz2'⟩ := info_parts infoN
  have hm0 : 0 ≤ m ∧ m ≤ 255 := by simpa [Lit.wf, IntKind.min, IntKind.max, IntKind.signed, IntKind.bits] using hm
  obtain ⟨h0, h255⟩ := hm0
  obtain ⟨K, hK⟩ : ∃ K : Nat, m % 3 = (K : Int) := ⟨(m % 3).toNat, by omega⟩
  have hK2 : K ≤ 2 := by omega
  have HK2 := Lib.hid hK2
  have hKi : (K : Int) ≤ 2 := by omega
  have hKj : (0 : Int) ≤ (K : Int) := by omega
  have E5 := Lib.hid (fun V (hV : Below w.heap.size w V) => awake_any V (hS.below hV))
  have HS := Lib.hid hS
  clear hm hS hK2
  go_enter Tryd.func8, Tryd.ntmps8
  go_wp2_with fail
  go_loopw [5] (ChainRel K w w.heap.size) (fun iv _ => 200 - (intOf iv).toNat)
  case atStart =>
    refine ⟨0, none, 0, rfl, by omega, (Below.refl _ _).alloc (Nat.le_refl _) _, Bk.new w 24 _, ?_⟩
    exact NodeIn.mk _ _ _ _ _ _ _ (fun _ => none) (fun _ => 0) (by decide) (by simp) (by decide) (fun h => by simp at h) (fun i h => by simp at h)
  case round =>
    obtain ⟨j, A, cap, rfl, hj, hB, hbk, hn⟩ := hrel
    have hz := hB.size
    have hlt := hbk.lt
    have k0 := hbk.cell 0
    have k1 := hbk.cell 1
    have k2 := hbk.cell 2
    have k3 := hbk.cell 3
    have k4 := hbk.cell 4
    simp at k0 k1 k2 k3 k4
    have HBK := Lib.hid hbk
    have HN := Lib.hid hn
    have HB := Lib.hid hB
    by_cases hlp : j < 126 + K
    · obtain ⟨u, hu⟩ : ∃ u, chainT j = u := ⟨_, rfl⟩
      have HU := Lib.hid hu
      rw [hu] at HBK HN k0 k1 k2 k3 k4
      have hfz : ∀ o, wr.frozen? ⟨w.heap.size, o, none⟩ = false := fun o => HBK.out.cold o
      have hji : (j : Int) + 1 < 127 + (K : Int) := by omega
      have hj9 : (j : Int) ≤ 128 := by omega
      clear hbk hn hB hu
      go_wp2_with fail
      go_roundw
      case rel =>
        refine ⟨j + 1, some ⟨wr.heap.size, 0, none⟩, 2, by congr 1, by omega, ?_, ?_, ?_⟩
        · exact (((((HB.out.setCell (Nat.le_refl _) _).setCell (Nat.le_refl _) _).setCell (Nat.le_refl _) _).setCell (Nat.le_refl _) _).setCell (Nat.le_refl _) _).alloc (by rw [size_five]; omega) _
        · have h := (((((HBK.out.at_ 0 (.int .i64 5)).at_ 1 (.int .i64 0)).at_ 2 (.string ⟨#[]⟩)).at_ 3 (.int .i64 0)).at_ 4 (.slice (some ⟨wr.heap.size, 0, none⟩) 2 2)).alloc (.cells #[.int .i64 u.k, .int .i64 u.a, .string u.s, .int .i64 u.n, .slice A u.l.length cap, .int .i64 2, .int .i64 0, .string ⟨#[]⟩, .int .i64 0, .slice none 0 0] 24)
          rw [show chainT (j + 1) = .node 5 0 ⟨#[]⟩ 0 [u, leafS] by rw [chainT, HU.out]]
          exact h
        · rw [show chainT (j + 1) = .node 5 0 ⟨#[]⟩ 0 [u, leafS] by rw [chainT, HU.out]]
          exact (two_node HN.out _ _ _ _ _).wide (by omega) (Nat.le_refl _)
      case measure => simp [intOf]; omega
    · obtain rfl : j = 126 + K := by omega
      have hji : ¬ ((126 + K : Nat) : Int) + 1 < 127 + (K : Int) := by omega
      have hex := expr_any (chainT (126 + K)) (w.heap.size + 1) wr.heap.size A cap wr hn (Nat.le_refl _) (HS.out.below hB)
      have hdp := fun V h1 h2 => depth_any (chainT (126 + K)) (w.heap.size + 1) wr.heap.size A cap V h1 h2
      obtain ⟨b1, hb1⟩ : ∃ b1, decide (127 + (K : Int) ≤ 128) = b1 := ⟨_, rfl⟩
      have hbe : (fitB (chainT (126 + K)) && goodB (chainT (126 + K)) false) = b1 := by
        rw [chain_fit _ (by have := HK2.out; omega), chain_good, Bool.and_true, ← hb1]
        congr 1; apply propext; omega
      have hde : ((deepN (chainT (126 + K)) : Nat) : Int) = 127 + (K : Int) := by
        rw [chain_deep _ (by have := HK2.out; omega)]; omega
      rw [hbe] at hex
      rw [hde] at hdp
      obtain ⟨u, hu⟩ : ∃ u, chainT (126 + K) = u := ⟨_, rfl⟩
      rw [hu] at hex hdp k0 k1 k2 k3 k4 HN HBK
      unfold nodeV at hex hdp
      have HEX := Lib.hid hex
      have HDP := Lib.hid hdp
      clear hbk hn hB hlp hbe hde hu hex hdp
      go_wp2_with fail
      refine HEX.out.mono ?_
      rintro e w1 ⟨rfl, hd1⟩
      have hz1 := hd1.size
      have HB1 := Lib.hid (HB.out.trans (hd1.mono (by omega)))
      have HN1 := Lib.hid (HN.out.kept hd1 (Nat.le_refl _))
      obtain ⟨p0, p1, p2, p3, p4⟩ := five_kept (.inr ⟨_, HBK.out⟩) hd1 hlt
      clear hd1 k0 k1 k2 k3 k4
      go_wp2_with fail
      refine (HDP.out _ HN1.out hz1).mono ?_
      rintro e w2 ⟨rfl, hd2⟩
      have hz2 := hd2.size
      have HB2 := Lib.hid (HB1.out.trans (hd2.mono (by omega)))
      clear hd2 p0 p1 p2 p3 p4 hb1
      go_wp2_with fail
      go_loopw [7] (WideRel K w w2.heap.size) (fun iv _ => 9000 - (intOf iv).toNat)
      case atStart =>
        refine ⟨0, .slice none 0 0, fun _ => False, rfl, by omega, HB2.out.alloc (by omega) _, by simp, Bk.new w2 24 _, NodeRow.nil _ _ _, fun _ h => h⟩
      case round =>
        obtain ⟨i, v, P, rfl, hi1, hB3, hg3, bk6, hrow, hP⟩ := hrel
        have hz3 := hB3.size
        obtain ⟨a1, c1, rfl⟩ := own_slice2 hrow.row
        have hps : (List.replicate i ((leafA, none, 0) : RT × Option Addr × Nat)).length = i := List.length_replicate
        by_cases hil : i < 8190 + K
        · have x4 := bk6.cell 4
          have f4 := bk6.cold 4
          rw [hps] at x4
          simp at x4
          have hli : (i : Int) + 1 < 8191 + (K : Int) := by omega
          have hi9 : (i : Int) ≤ 8192 := by omega
          rw [hps] at bk6 hrow
          have HBK6 := Lib.hid bk6
          have HROW := Lib.hid hrow
          have HPP := Lib.hid hP
          have hrow2 := (hrow.alloc (.cells #[.int .i64 7, .int .i64 0, .string ⟨#[]⟩, .int .i64 0, .slice none 0 0] 24)).row
          rw [hps] at hrow2
          have HOW := Lib.hid hrow2
          have HB3 := Lib.hid hB3
          clear hB3 bk6 hrow hP hrow2 hps
          go_wp2_with (at_builtin; refine wpList_app rfl _ _ 22 rfl (w2.heap.size + 1) 24 i0 (.agg #[.int .i64 0, .int .i64 0, .string ⟨#[]⟩, .int .i64 0, .slice none 0 0]) 5 64 Tryd.underlying22 hi0 hz0 hz1' hz2' rfl (by decide) _ _ _ rfl HOW.out (some ⟨wr.heap.size, 0, none⟩) 1 1 (cellsP (leafA, none, 0)) rfl (src_at _ _ _ rfl rfl) (cellsP_one _) ?c3 ?c4 ?c5 ?_)
          case c3 => unfold maxLen; omega
          case c4 => omega
          case c5 => simp; omega
          rintro v2 w5 ha
          have hz5 := ha.2.1.size
          simp at hz5
          have hne : some w2.heap.size ≠ (Value.slice a1 i c1).ownBlock := fun e => by
            have := HOW.out.lt w2.heap.size e.symm
            omega
          have hps : (List.replicate i ((leafA, none, 0) : RT × Option Addr × Nat)).length = i := List.length_replicate
          have B6 := Lib.hid ((HBK6.out.alloc (.cells #[.int .i64 7, .int .i64 0, .string ⟨#[]⟩, .int .i64 0, .slice none 0 0] 24)).grown ha.2.1 hne)
          have HR := Lib.hid ((HROW.out.alloc (.cells #[.int .i64 7, .int .i64 0, .string ⟨#[]⟩, .int .i64 0, .slice none 0 0] 24)).push (Pn := fun _ => False) (p := (leafA, none, 0)) (leafA_in _ _) (fun _ h => h.elim) (by rw [hps]; exact ha.1) ha.2.1 ha.2.2)
          have HB5 := Lib.hid ((HB3.out.alloc hz3 (.cells #[.int .i64 7, .int .i64 0, .string ⟨#[]⟩, .int .i64 0, .slice none 0 0] 24)).grown ha.2.1 (by simp; omega) (fun k hk => by have := HOW.out.lt k hk; omega))
          obtain ⟨a2, c2, rfl⟩ := own_slice2 ha.1
          have e4 : w5.cell? ⟨w2.heap.size, 4, none⟩ = some (.slice a1 i c1) := B6.out.cell 4
          have g4 : w5.frozen? ⟨w2.heap.size, 4, none⟩ = false := B6.out.cold 4
          clear ha hne hps x4 f4
          go_wp2_with fail
          go_roundw
          case rel =>
            refine ⟨i + 1, .slice a2 (i + 1) c2, fun b => P b ∨ False, rfl, by omega, HB5.out.setCell (by show w.heap.size ≤ w2.heap.size; omega) _, by simp [World.setCell]; omega, B6.out.at_ 4 _, ?_, ?_⟩
            · have h := HR.out.setCell (a := ⟨w2.heap.size, 4, none⟩) (by show w2.heap.size < w2.heap.size + 1; omega) (fun b hb => by rcases hb with hb | hb; exact absurd hb (HPP.out b); exact hb.elim) (.slice a2 (i + 1) c2)
              rw [List.replicate_succ']
              exact h
            · intro b hb
              rcases hb with hb | hb
              · exact HPP.out b hb
              · exact hb
          case measure => simp [intOf]; omega
        · obtain rfl : i = 8190 + K := by omega
          have hpar := hrow.parent (lo := 0) (Nat.zero_le _) (fun _ _ => Nat.zero_le _) 8 0 ⟨#[99]⟩ 0 (by decide)
          have hmap : (List.replicate (8190 + K) ((leafA, none, 0) : RT × Option Addr × Nat)).map (·.1) = List.replicate (8190 + K) leafA := List.map_replicate
          rw [hmap] at hpar
          have hpar2 : IsNode wr 0 wr.heap.size (wideT (8190 + K)) a1 c1 := hpar
          have hpt := pattern_any (wideT (8190 + K)) 0 wr.heap.size a1 c1 wr hpar2 (Nat.le_refl _) (HS.out.below hB3)
          have hsz := fun V h1 h2 => size_any (wideT (8190 + K)) 0 wr.heap.size a1 c1 V h1 h2
          obtain ⟨b2, hb2⟩ : ∃ b2, decide (8191 + (K : Int) ≤ 8192) = b2 := ⟨_, rfl⟩
          have hbe : (fitB (wideT (8190 + K)) && goodB (wideT (8190 + K)) true) = b2 := by
            rw [wide_fit, wide_good _ (by omega), Bool.and_true, ← hb2]
            congr 1; apply propext; omega
          have hce : ((cutN (wideT (8190 + K)).size : Nat) : Int) = 8191 + (K : Int) := by
            rw [wide_size]; unfold cutN; have := HK2.out; omega
          rw [hbe] at hpt
          rw [hce] at hsz
          have hlen : (List.replicate (8190 + K) leafA).length = 8190 + K := List.length_replicate
          unfold nodeV at hpt hsz
          have hl2 : (wideT (8190 + K)).l.length = 8190 + K := hlen
          rw [hl2] at hpt hsz
          have HPT := Lib.hid hpt
          have HSZ := Lib.hid hsz
          have HPAR := Lib.hid hpar2
          rw [hps] at bk6
          obtain ⟨p0, p1, p2, p3, p4⟩ := five_kept (.inr ⟨_, bk6⟩) (Below.refl _ _) hg3
          have hli : ¬ ((8190 + K : Nat) : Int) + 1 < 8191 + (K : Int) := by omega
          have HBK6 := Lib.hid bk6
          have HB3 := Lib.hid hB3
          clear hrow hpar hmap hpar2 hpt hsz hbe hce hlen hl2 bk6 hps hB3 hil hP
          go_wp2_with fail
          refine HPT.out.mono ?_
          rintro e w5 ⟨rfl, hd5⟩
          have hz5 := hd5.size
          have HB5 := Lib.hid (HB3.out.trans (hd5.mono hz3))
          have HN5 := Lib.hid (HPAR.out.kept hd5 (Nat.le_refl _))
          obtain ⟨q0, q1, q2, q3, q4⟩ := five_kept (.inr ⟨_, HBK6.out⟩) hd5 hg3
          clear hd5 p0 p1 p2 p3 p4
          go_wp2_with fail
          refine (HSZ.out _ HN5.out hz5).mono ?_
          rintro e w6 ⟨rfl, hd6⟩
          have HB6 := Lib.hid (HB5.out.trans (hd6.mono (by omega)))
          have hz6 := hd6.size
          clear hd6 hb2
          go_wp2_with fail
          refine (E5.out _ HB6.out).mono ?_
          rintro e w7 ⟨rfl, hb7⟩
          go_wp2_with fail
          go_ret
          exact ⟨by simp, HB6.out.trans (hb7.mono (by omega))⟩

end Go.Proofs.YtmnhpaidaomfbaaDoor
