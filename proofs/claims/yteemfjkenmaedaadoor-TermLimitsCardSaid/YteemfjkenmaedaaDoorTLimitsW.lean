/- The walk of the law TermLimits. -/
import Derived.Test.YteemfjkenmaedaaDoorTBox
import Derived.Deep.RegionWith
import Derived.Deep.CutRange
import Derived.Deep.RegionHeld3
namespace Go.Proofs.YteemfjkenmaedaaDoor
open Go.RowKit
set_option linter.unusedVariables false
set_option maxRecDepth 100000

def leafM : TM := .node 2 0 []
def chainM : Nat → TM
  | 0 => leafM
  | j + 1 => .node 5 0 [chainM j, leafM]
def wideM : Nat → TM
  | 0 => leafM
  | j + 1 => .node 5 0 [wideM j, wideM j]
theorem leafM_size : leafM.size = 1 := by unfold leafM; simp only [tsize_node, sizeM_nil]
theorem leafM_depth : leafM.depth = 1 := by unfold leafM; simp only [tdepth_node, depthM_nil]
theorem leafM_good : tgoodB leafM = true := by unfold leafM; rw [tgoodB_node, tgoodL_all]; decide
theorem app_good {t u : TM} (h1 : tgoodB t = true) (h2 : tgoodB u = true) : tgoodB (.node 5 0 [t, u]) = true := by
  rw [tgoodB_node, tgoodL_all, List.all_cons, List.all_cons, h1, h2]
  rw [ttop_mk (by omega) (by omega) rfl (by omega) (by decide) (fun e => by omega)]; rfl
theorem chain_sizeM : ∀ j, (chainM j).size = 2 * j + 1
  | 0 => leafM_size
  | j + 1 => by rw [chainM, tsize_node, sizeM_cons, sizeM_cons, sizeM_nil, chain_sizeM j, leafM_size]; omega
theorem chain_depthM : ∀ j, (chainM j).depth = j + 1
  | 0 => leafM_depth
  | j + 1 => by rw [chainM, tdepth_node, depthM_cons, depthM_cons, depthM_nil, chain_depthM j, leafM_depth]; omega
theorem chain_goodM : ∀ j, tgoodB (chainM j) = true
  | 0 => leafM_good
  | j + 1 => app_good (chain_goodM j) leafM_good
theorem wide_sizeM : ∀ j, (wideM j).size + 1 = 2 ^ (j + 1)
  | 0 => by rw [wideM, leafM_size]
  | j + 1 => by
    have h := wide_sizeM j
    rw [wideM, tsize_node, sizeM_cons, sizeM_cons, sizeM_nil, Nat.pow_succ 2 (j + 1)]
    omega
theorem wide_depthM : ∀ j, (wideM j).depth = j + 1
  | 0 => leafM_depth
  | j + 1 => by rw [wideM, tdepth_node, depthM_cons, depthM_cons, depthM_nil, wide_depthM j]; omega
theorem wide_goodM : ∀ j, tgoodB (wideM j) = true
  | 0 => leafM_good
  | j + 1 => app_good (wide_goodM j) (wide_goodM j)
theorem chain_shaped (j : Nat) (h : j ≤ 1000) : shapedB (chainM j) = decide (j + 1 ≤ 128) := by
  by_cases hj : j + 1 ≤ 128
  · rw [decide_eq_true hj]
    exact shapedB_true.2 ⟨by rw [chain_sizeM]; omega, by rw [chain_depthM]; omega, chain_goodM j⟩
  · rw [decide_eq_false hj]
    cases e : shapedB (chainM j) with
    | false => rfl
    | true => have := (shapedB_true.1 e).2.1; rw [chain_depthM] at this; omega
theorem wide12_size : (wideM 12).size = 8191 := by have := wide_sizeM 12; have e : 2 ^ (12 + 1) = 8192 := by decide
                                                   omega
theorem wide12_shaped : shapedB (wideM 12) = true := shapedB_true.2 ⟨by rw [wide12_size]; omega, by rw [wide_depthM]; omega, wide_goodM 12⟩
def overM : TM := .node 5 0 [wideM 12, leafM]
def bothM : TM := .node 5 0 [wideM 12, wideM 12]
theorem over_size : overM.size = 8193 := by unfold overM; rw [tsize_node, sizeM_cons, sizeM_cons, sizeM_nil, wide12_size, leafM_size]
theorem both_size : bothM.size = 16383 := by unfold bothM; rw [tsize_node, sizeM_cons, sizeM_cons, sizeM_nil, wide12_size]
theorem over_shaped : shapedB overM = false := by
  cases e : shapedB overM with
  | false => rfl
  | true => have := (shapedB_true.1 e).1; rw [over_size] at this; omega
theorem over_cut : topN overM.size = 8193 := by rw [over_size]; rfl
theorem both_cut : topN bothM.size = 8193 := by rw [both_size]; rfl
theorem wide_cut : topN (wideM 12).size = 8191 := by rw [wide12_size]; rfl
theorem both_deep : tdeepN bothM = 129 := by unfold tdeepN; rw [both_size]; rfl

theorem drew_alloc (w : World) (o : Obj) : w.drew.alloc o = (w.alloc o).drew := rfl

/-- A term in a box, which lies behind it. -/
def BoxT (w : World) (g : Nat) (t : TM) (A : Option Addr) (cap : Nat) (wr : World) : Prop :=
  Below w.heap.size w wr ∧ w.heap.size ≤ g ∧ Bk wr g 24 #[.int .i64 t.k, .int .i64 t.n, .slice A t.l.length cap] ∧ TermIn wr (fun b => w.heap.size ≤ b ∧ b < wr.heap.size ∧ b ≠ g) t A cap
def ChainM (K : Nat) (w : World) (g : Nat) (iv : Value) (wr : World) : Prop :=
  ∃ (j : Nat) (A : Option Addr) (cap : Nat), iv = .int .i64 ((j : Int) + 1) ∧ j ≤ 126 + K ∧ BoxT w g (chainM j) A cap wr
theorem TermIn.stay {w w' : World} {P : Nat → Prop} {t : TM} {A : Option Addr} {cap B : Nat} (h : TermIn w P t A cap) (hb : Below B w w') (hB : ∀ b, P b → b < B) : TermIn w' P t A cap :=
  h.imp (fun b o hp => hb.cell (p := ⟨b, o, none⟩) (hB b hp)) (fun _ h => h)
/-- The box takes a term of two. -/
theorem BoxT.app {w wr W w2 : World} {g g1 : Nat} {t u : TM} {A A' : Option Addr} {cap cap' : Nat} (h : BoxT w g t A cap wr) (hW : Below wr.heap.size wr W) (hu : TermIn wr (fun b => w.heap.size ≤ b ∧ b < wr.heap.size ∧ b ≠ g) u A' cap')
    (hg1 : W.heap.size ≤ g1) (hb1 : Bk w2 g1 24 #[.int .i64 t.k, .int .i64 t.n, .slice A t.l.length cap, .int .i64 u.k, .int .i64 u.n, .slice A' u.l.length cap']) (hb2 : Below W.heap.size W w2) :
    BoxT w g (.node 5 0 [t, u]) (some ⟨g1, 0, none⟩) 2 (((w2.setCell ⟨g, 0, none⟩ (.int .i64 5)).setCell ⟨g, 1, none⟩ (.int .i64 0)).setCell ⟨g, 2, none⟩ (.slice (some ⟨g1, 0, none⟩) 2 2)) := by
  obtain ⟨h1, h2, h3, h4⟩ := h
  have hz := hW.size
  have hz2 := hb2.size
  have hlt := h3.lt
  have hl1 := hb1.lt
  have hbb : Below wr.heap.size wr w2 := hW.trans (hb2.mono hz)
  have h3' := h3.below hbb hlt
  have hs : (((w2.setCell ⟨g, 0, none⟩ (.int .i64 5)).setCell ⟨g, 1, none⟩ (.int .i64 0)).setCell ⟨g, 2, none⟩ (.slice (some ⟨g1, 0, none⟩) 2 2)).heap.size = w2.heap.size := by simp [World.setCell]
  refine ⟨?_, h2, ?_, ?_⟩
  · exact (((h1.trans (hbb.mono h1.size)).setCell (by exact h2) _).setCell (by exact h2) _).setCell (by exact h2) _
  · exact ((h3'.at_ 0 (.int .i64 5)).at_ 1 (.int .i64 0)).at_ 2 _
  · have hin : TermIn w2 (fun b => w.heap.size ≤ b ∧ b < w2.heap.size ∧ b ≠ g) (.node 5 0 [t, u]) (some ⟨g1, 0, none⟩) 2 :=
      two_in ((h4.stay hbb (fun b hb => hb.2.1)).imp (fun _ _ _ => rfl) (fun b hb => ⟨hb.1, by omega, hb.2.2⟩)) ((hu.stay hbb (fun b hb => hb.2.1)).imp (fun _ _ _ => rfl) (fun b hb => ⟨hb.1, by omega, hb.2.2⟩)) hb1 ⟨by have := h1.size; omega, by omega, by omega⟩ 5 0
    refine hin.imp (fun b o hb => ?_) (fun b hb => ⟨hb.1, by rw [hs]; exact hb.2.1, hb.2.2⟩)
    have hne : ∀ o', (⟨g, o', none⟩ : Addr) ≠ ⟨b, o, none⟩ := fun o' e => by
      have := congrArg Addr.block e
      exact hb.2.2 this.symm
    rw [World.cell?_setCell_other _ _ _ _ (hne _), World.cell?_setCell_other _ _ _ _ (hne _), World.cell?_setCell_other _ _ _ _ (hne _)]
theorem BoxT.wide {w wr : World} {g : Nat} {t : TM} {A : Option Addr} {cap : Nat} (h : BoxT w g t A cap wr) : IsTerm wr w.heap.size wr.heap.size t A cap := h.2.2.2.imp (fun _ _ _ => rfl) (fun b hb => ⟨hb.1, hb.2.1⟩)
theorem BoxT.over {w wr W : World} {g : Nat} {t : TM} {A : Option Addr} {cap : Nat} (h : BoxT w g t A cap wr) (hb : Below wr.heap.size wr W) : BoxT w g t A cap W :=
  ⟨h.1.trans (hb.mono h.1.size), h.2.1, h.2.2.1.below hb h.2.2.1.lt, (h.2.2.2.stay hb (fun b hb => hb.2.1)).imp (fun _ _ _ => rfl) (fun b hb' => ⟨hb'.1, Nat.lt_of_lt_of_le hb'.2.1 hb.size, hb'.2.2⟩)⟩
/-- A term stays over three stores into a block that is none of its. -/
theorem box_over {w5 : World} {B g3 gv : Nat} {t : TM} {A : Option Addr} {cap : Nat} {v0 v1 v2 : Value} (h : TermIn w5 (fun b => b < B ∨ b = g3) t A cap) (hl : g3 < w5.heap.size) (hB : B ≤ w5.heap.size) (h1 : B ≤ gv) (h2 : gv < g3) :
    IsTerm (((w5.setCell ⟨gv, 0, none⟩ v0).setCell ⟨gv, 1, none⟩ v1).setCell ⟨gv, 2, none⟩ v2) 0 (((w5.setCell ⟨gv, 0, none⟩ v0).setCell ⟨gv, 1, none⟩ v1).setCell ⟨gv, 2, none⟩ v2).heap.size t A cap := by
  have hs : (((w5.setCell ⟨gv, 0, none⟩ v0).setCell ⟨gv, 1, none⟩ v1).setCell ⟨gv, 2, none⟩ v2).heap.size = w5.heap.size := by simp [World.setCell]
  refine h.imp (fun b o hb => ?_) (fun b hb => ⟨Nat.zero_le _, by rw [hs]; rcases hb with h | rfl <;> omega⟩)
  have hne : ∀ o', (⟨gv, o', none⟩ : Addr) ≠ ⟨b, o, none⟩ := fun o' e => by
    have := congrArg Addr.block e
    simp at this
    rcases hb with h | rfl <;> omega
  rw [World.cell?_setCell_other _ _ _ _ (hne _), World.cell?_setCell_other _ _ _ _ (hne _), World.cell?_setCell_other _ _ _ _ (hne _)]
def WideM (w : World) (g : Nat) (iv : Value) (wr : World) : Prop :=
  ∃ (j : Nat) (A : Option Addr) (cap : Nat), iv = .int .i64 (j : Int) ∧ j ≤ 12 ∧ BoxT w g (wideM j) A cap wr

set_option maxHeartbeats 4000000 in
theorem tlimits_walk (m : Int) (w : World) (hm : (Lit.int .u8 m).wf = true) (hS : ShapesM w) :
    Calls Tryd.prog 9 #[.int .u8 m] w fun e w' => e = .returned (.bool true) ∧ Below w.heap.size w w' := by
  have hm0 : 0 ≤ m ∧ m ≤ 255 := by simpa [Lit.wf, IntKind.min, IntKind.max, IntKind.signed, IntKind.bits] using hm
  obtain ⟨h0, h255⟩ := hm0
  obtain ⟨K, hK⟩ : ∃ K : Nat, m % 3 = (K : Int) := ⟨(m % 3).toNat, by omega⟩
  have hK2 : K ≤ 2 := by omega
  have HK2 := Lib.hid hK2
  have hKi : (K : Int) ≤ 2 := by omega
  have hKj : (0 : Int) ≤ (K : Int) := by omega
  have AW := Lib.hid (fun V (hV : Below w.heap.size w V) => awakeM_any V (hS.kept hV))
  have C1 := Lib.hid (fun n W => mk_sort n W)
  have C3 := Lib.hid (fun k k' n n' A A' m m' cap cap' W => mk_app k k' n n' A A' m m' cap cap' W)
  have HS := Lib.hid hS
  clear hm hS hK2
  go_enter Tryd.func9, Tryd.ntmps9
  go_wp2_with fail
  refine (C1.out _ _).mono ?_
  rintro e w1 ⟨rfl, rfl⟩
  go_wp2_with fail
  go_loopw [5] (ChainM K w (w.heap.size + 1)) (fun iv _ => 200 - (intOf iv).toNat)
  case atStart =>
    refine ⟨0, none, 0, rfl, by omega, ((Below.refl _ _).alloc (Nat.le_refl _) _).alloc (by simp) _, by omega, Bk.last _ _ _ (by simp), leaf_in _ _ 2 0⟩
  case round =>
    obtain ⟨j, A, cap, rfl, hj, hbox⟩ := hrel
    have hbk := hbox.2.2.1
    have hlt := hbk.lt
    have k0 := hbk.cell 0
    have k1 := hbk.cell 1
    have k2 := hbk.cell 2
    simp at k0 k1 k2
    have HX := Lib.hid hbox
    have HBK := Lib.hid hbk
    clear hbox hbk
    by_cases hlp : j < 126 + K
    · obtain ⟨u, hu⟩ : ∃ u, chainM j = u := ⟨_, rfl⟩
      have HU := Lib.hid (show chainM (j + 1) = .node 5 0 [u, leafM] by rw [chainM, hu])
      rw [hu] at HBK HX k0 k1 k2
      have hji : (j : Int) + 1 < 127 + (K : Int) := by omega
      have hj9 : (j : Int) ≤ 128 := by omega
      have HKP := Lib.hid (fun (W w2 : World) (hb : Below W.heap.size W w2) (hW : Below wr.heap.size wr W) => HBK.out.below (hW.trans (hb.mono hW.size)) hlt)
      have HD1 := Lib.hid ((Below.refl wr.heap.size wr).drew.alloc (Nat.le_refl _) (.cells #[.int .i64 2, .int .i64 0, .slice none 0 0] 24))
      have HD2 := Lib.hid (((Below.refl wr.heap.size wr).alloc (Nat.le_refl _) (.cells #[.int .i64 2, .int .i64 0, .slice none 0 0] 24)).drew)
      have HJ := Lib.hid hlp
      have HAP := Lib.hid (fun (W w2 : World) (g1 : Nat) (hg1 : W.heap.size ≤ g1) (hb1 : Bk w2 g1 24 #[.int .i64 u.k, .int .i64 u.n, .slice A u.l.length cap, .int .i64 2, .int .i64 0, .slice none 0 0]) (hb2 : Below W.heap.size W w2) (hW : Below wr.heap.size wr W) => HX.out.app (u := leafM) (A' := none) (cap' := 0) hW (leaf_in _ _ 2 0) hg1 hb1 hb2)
      clear hu hlp
      go_wp2_with fail
      go_region_with (first
        | (go_at_call 27; refine (C1.out _ _).mono ?_; rintro e w1 ⟨rfl, rfl⟩)
        | (go_at_call 24
           refine (C3.out _ _ _ _ _ _ _ _ _ _ _).mono ?_
           rintro e w2 ⟨g1, rfl, hg1, b1, hb1⟩
           have hbk2 := HKP.out _ _ hb1 (by first | exact HD1.out | exact HD2.out)
           have hfz : ∀ o, w2.frozen? ⟨w.heap.size + 1, o, none⟩ = false := fun o => hbk2.cold o
           have d0 := hbk2.cell 0
           have d1 := hbk2.cell 1
           have d2 := hbk2.cell 2
           simp at d0 d1 d2
           have HAPP := Lib.hid (HAP.out _ _ _ hg1 b1 hb1 (by first | exact HD1.out | exact HD2.out))))
      all_goals
        go_wp2_with fail
        go_roundw
        case rel => exact ⟨j + 1, _, 2, by congr 1, by have := HJ.out; omega, by rw [HU.out]; exact HAPP.out⟩
        case measure => simp [intOf]; omega
    · obtain rfl : j = 126 + K := by omega
      have hji : ¬ ((126 + K : Nat) : Int) + 1 < 127 + (K : Int) := by omega
      have hsh := shaped_any (chainM (126 + K)) w.heap.size wr.heap.size A cap wr HX.out.wide (Nat.le_refl _) (HS.out.kept HX.out.1)
      obtain ⟨b1, hb1⟩ : ∃ b1, decide (127 + (K : Int) ≤ 128) = b1 := ⟨_, rfl⟩
      have hbe : shapedB (chainM (126 + K)) = b1 := by
        rw [chain_shaped _ (by have := HK2.out; omega), ← hb1]
        congr 1; apply propext; omega
      rw [hbe] at hsh
      obtain ⟨u, hu⟩ : ∃ u, chainM (126 + K) = u := ⟨_, rfl⟩
      rw [hu] at hsh k0 k1 k2
      unfold termV at hsh
      have HSH := Lib.hid hsh
      have HB := Lib.hid HX.out.1
      clear hlp hbe hu hsh HBK HX
      go_wp2_with fail
      refine HSH.out.mono ?_
      rintro e w1 ⟨rfl, hd1⟩
      have hz1 := hd1.size
      have HB1 := Lib.hid (HB.out.trans (hd1.mono HB.out.size))
      clear hd1 k0 k1 k2
      go_wp2_with fail
      refine (C1.out _ _).mono ?_
      rintro e w1' ⟨rfl, rfl⟩
      go_wp2_with fail
      go_loopw [7] (WideM w (w1.heap.size + 1)) (fun iv _ => 20 - (intOf iv).toNat)
      case atStart =>
        refine ⟨0, none, 0, rfl, by omega, (HB1.out.alloc HB1.out.size _).alloc (by have := HB1.out.size; simp; omega) _, by have := HB1.out.size; omega, Bk.last _ _ _ (by simp), leaf_in _ _ 2 0⟩
      case round =>
        obtain ⟨j, A, cap, rfl, hj, hbox⟩ := hrel
        have hbk := hbox.2.2.1
        have hlt := hbk.lt
        have k0 := hbk.cell 0
        have k1 := hbk.cell 1
        have k2 := hbk.cell 2
        simp at k0 k1 k2
        have HX := Lib.hid hbox
        have HBK := Lib.hid hbk
        clear hbox hbk
        by_cases hlp : j < 12
        · obtain ⟨u, hu⟩ : ∃ u, wideM j = u := ⟨_, rfl⟩
          have HU := Lib.hid (show wideM (j + 1) = .node 5 0 [u, u] by rw [wideM, hu])
          rw [hu] at HBK HX k0 k1 k2
          have hji : (j : Int) < 12 := by omega
          have HJ := Lib.hid hlp
          clear hu hlp
          go_wp2_with fail
          refine (C3.out _ _ _ _ _ _ _ _ _ _ _).mono ?_
          rintro e w2 ⟨g1, rfl, hg1, b1, hb1⟩
          have hbk2 := HBK.out.below hb1 hlt
          have hfz : ∀ o, w2.frozen? ⟨w1.heap.size + 1, o, none⟩ = false := fun o => hbk2.cold o
          have d0 := hbk2.cell 0
          have d1 := hbk2.cell 1
          have d2 := hbk2.cell 2
          simp at d0 d1 d2
          have HAPP := Lib.hid (HX.out.app (Below.refl _ _) HX.out.2.2.2 hg1 b1 hb1)
          clear b1 hb1 hbk2
          go_wp2_with fail
          go_roundw
          case rel => exact ⟨j + 1, _, 2, rfl, by have := HJ.out; omega, by rw [HU.out]; exact HAPP.out⟩
          case measure => simp [intOf]; omega
        · obtain rfl : j = 12 := by omega
          have e1 := fun V (hV : Below wr.heap.size wr V) => tsize_any (wideM 12) w.heap.size wr.heap.size A cap V (HX.out.wide.kept hV (Nat.le_refl _)) hV.size
          have e2 := fun V (hV : Below wr.heap.size wr V) => shaped_any (wideM 12) w.heap.size wr.heap.size A cap V (HX.out.wide.kept hV (Nat.le_refl _)) hV.size ((HS.out.kept HX.out.1).kept hV)
          rw [wide_cut] at e1
          rw [wide12_shaped] at e2
          obtain ⟨u, hu⟩ : ∃ u, wideM 12 = u := ⟨_, rfl⟩
          have HOD := Lib.hid (show overM = .node 5 0 [u, leafM] by unfold overM; rw [hu])
          have HBD := Lib.hid (show bothM = .node 5 0 [u, u] by unfold bothM; rw [hu])
          rw [hu] at e1 e2 HBK HX k0 k1 k2
          have E1 := Lib.hid e1
          have E2 := Lib.hid e2
          clear hlp hu e1 e2
          have XU := Lib.hid (show TBox wr (w1.heap.size + 1) u.k u.n (.slice A u.l.length cap) from TBox.of HBK.out)
          have HREF := Lib.hid (Below.refl wr.heap.size wr)
          unfold termV at E1 E2
          go_wp2_with fail
          refine (E1.out _ HREF.out).mono ?_
          rintro e w3 ⟨rfl, hb3⟩
          have HB3 := Lib.hid hb3
          have XU3 := Lib.hid (XU.out.kept hb3 hlt)
          clear k0 k1 k2 hb3
          obtain ⟨k0, k1, k2, kl⟩ := XU3.out
          go_wp2_with fail
          refine (E2.out _ HB3.out).mono ?_
          rintro e w4 ⟨rfl, hb4⟩
          have HB4 := Lib.hid (HB3.out.trans (hb4.mono HB3.out.size))
          have XU4 := Lib.hid (XU3.out.kept hb4 kl)
          clear k0 k1 k2 kl hb4
          obtain ⟨k0, k1, k2, kl⟩ := XU4.out
          have HXU := Lib.hid (HX.out.over HB4.out)
          have HAP := Lib.hid (fun (W w5 : World) (g3 : Nat) (hg : W.heap.size ≤ g3) (hb : Bk w5 g3 24 #[.int .i64 u.k, .int .i64 u.n, .slice A u.l.length cap, .int .i64 2, .int .i64 0, .slice none 0 0]) (hb2 : Below W.heap.size W w5) (hW : Below w4.heap.size w4 W) =>
            (show TermIn w5 (fun b => b < w4.heap.size ∨ b = g3) overM (some ⟨g3, 0, none⟩) 2 ∧ Below w4.heap.size w4 w5 from by
              have hbb := hW.trans (hb2.mono hW.size)
              rw [HOD.out]
              exact ⟨two_in ((HXU.out.2.2.2.stay hbb (fun b hb => hb.2.1)).imp (fun _ _ _ => rfl) (fun b hb => .inl hb.2.1)) (leaf_in _ _ 2 0) hb (.inr rfl) 5 0, hbb⟩))
          have HD1 := Lib.hid ((Below.refl w4.heap.size w4).drew.alloc (Nat.le_refl _) (.cells #[.int .i64 2, .int .i64 0, .slice none 0 0] 24))
          have HD2 := Lib.hid (((Below.refl w4.heap.size w4).alloc (Nat.le_refl _) (.cells #[.int .i64 2, .int .i64 0, .slice none 0 0] 24)).drew)
          have HD3 := Lib.hid ((((Below.refl w4.heap.size w4).alloc (Nat.le_refl _) (.cells #[.int .i64 2, .int .i64 0, .slice none 0 0] 24)).alloc (by simp) (.cells #[.int .i64 0, .int .i64 0, .slice none 0 0] 24)).drew)
          have HD4 := Lib.hid ((((Below.refl w4.heap.size w4).alloc (Nat.le_refl _) (.cells #[.int .i64 0, .int .i64 0, .slice none 0 0] 24)).alloc (by simp) (.cells #[.int .i64 2, .int .i64 0, .slice none 0 0] 24)).drew)
          have HV3 := Lib.hid (fun (w5 : World) (hb : Below (((w4.alloc (.cells #[.int .i64 2, .int .i64 0, .slice none 0 0] 24)).alloc (.cells #[.int .i64 0, .int .i64 0, .slice none 0 0] 24)).drew).heap.size (((w4.alloc (.cells #[.int .i64 2, .int .i64 0, .slice none 0 0] 24)).alloc (.cells #[.int .i64 0, .int .i64 0, .slice none 0 0] 24)).drew) w5) =>
            (show Bk w5 (w4.heap.size + 1) 24 #[.int .i64 0, .int .i64 0, .slice none 0 0] from (show Bk (((w4.alloc (.cells #[.int .i64 2, .int .i64 0, .slice none 0 0] 24)).alloc (.cells #[.int .i64 0, .int .i64 0, .slice none 0 0] 24)).drew) (w4.heap.size + 1) 24 #[.int .i64 0, .int .i64 0, .slice none 0 0] from Bk.last (w4.alloc (.cells #[.int .i64 2, .int .i64 0, .slice none 0 0] 24)) 24 #[.int .i64 0, .int .i64 0, .slice none 0 0] (by simp)).below hb (by simp)))
          have HV4 := Lib.hid (fun (w5 : World) (hb : Below (((w4.alloc (.cells #[.int .i64 0, .int .i64 0, .slice none 0 0] 24)).alloc (.cells #[.int .i64 2, .int .i64 0, .slice none 0 0] 24)).drew).heap.size (((w4.alloc (.cells #[.int .i64 0, .int .i64 0, .slice none 0 0] 24)).alloc (.cells #[.int .i64 2, .int .i64 0, .slice none 0 0] 24)).drew) w5) =>
            (show Bk w5 w4.heap.size 24 #[.int .i64 0, .int .i64 0, .slice none 0 0] from (show Bk (((w4.alloc (.cells #[.int .i64 0, .int .i64 0, .slice none 0 0] 24)).alloc (.cells #[.int .i64 2, .int .i64 0, .slice none 0 0] 24)).drew) w4.heap.size 24 #[.int .i64 0, .int .i64 0, .slice none 0 0] from (Bk.new w4 24 #[.int .i64 0, .int .i64 0, .slice none 0 0]).alloc _).below hb (by simp; omega)))
          have HBB := Lib.hid (fun (W w5 : World) (hb : Below W.heap.size W w5) (hW : Below w4.heap.size w4 W) => hW.trans (hb.mono hW.size))
          have HK3 := Lib.hid (fun (W : World) (hW : Below w4.heap.size w4 W) => And.intro (XU4.out.kept hW kl).c0 (And.intro (XU4.out.kept hW kl).c1 (XU4.out.kept hW kl).c2))
          go_upto_region 16 with fail
          go_cut [8] from 45 to 47 (fun s8 wx => ∃ gv g3, s8 = .pointer (some ⟨gv, 0, none⟩) ∧ TBox wx gv 5 0 (.slice (some ⟨g3, 0, none⟩) 2 2) ∧ Below w4.heap.size w4 wx ∧ IsTerm wx 0 wx.heap.size overM (some ⟨g3, 0, none⟩) 2)
          case first =>
            go_region_held3 (fun w' => w'.cell? ⟨w1.heap.size + 1, 0, none⟩ = some (.int .i64 u.k) ∧ w'.cell? ⟨w1.heap.size + 1, 1, none⟩ = some (.int .i64 u.n) ∧ w'.cell? ⟨w1.heap.size + 1, 2, none⟩ = some (.slice A u.l.length cap))
              (first | go_keep | exact HK3.out _ hB5 | exact HK3.out _ (hB5.alloc hB5.size _) | exact HK3.out _ (((hB5.setCell (by simp) _).setCell (by simp) _).setCell (by simp) _))
              (first
              | (go_at_call 27; refine (C1.out _ _).mono ?_; rintro e w1 ⟨rfl, rfl⟩)
              | (go_at_call 24
                 refine (C3.out _ _ _ _ _ _ _ _ _ _ _).mono ?_
                 rintro e w5 ⟨g3, rfl, hg3, b3, hb5⟩
                 have hB5 := HBB.out _ _ hb5 (by first | exact HD1.out | exact HD2.out | exact HD3.out | exact HD4.out)
                 have hg3' := hg3
                 simp at hg3'
                 have hl3 := b3.lt
                 have HA5 := Lib.hid (HAP.out _ _ _ hg3 b3 hb5 (by first | exact HD1.out | exact HD2.out | exact HD3.out | exact HD4.out))
                 first
                   | (have hbkv := HV3.out _ hb5
                      have hfz : ∀ o, w5.frozen? ⟨w4.heap.size + 1, o, none⟩ = false := fun o => hbkv.cold o
                      have d0 := hbkv.cell 0
                      have d1 := hbkv.cell 1
                      have d2 := hbkv.cell 2
                      simp at d0 d1 d2)
                   | (have hbkv := HV4.out _ hb5
                      have hfz : ∀ o, w5.frozen? ⟨w4.heap.size, o, none⟩ = false := fun o => hbkv.cold o
                      have d0 := hbkv.cell 0
                      have d1 := hbkv.cell 1
                      have d2 := hbkv.cell 2
                      simp at d0 d1 d2)
                   | skip))
            all_goals
              go_wp2_with fail
              go_meet
              case rel =>
                first
                  | exact ⟨_, g3, rfl, TBox.of (Bk.new w5 _ _), HA5.out.2.alloc HA5.out.2.size _, (HA5.out.1.imp (fun b o hb => World.cell?_alloc_lt _ _ _ (by show b < _; have := HA5.out.2.size; rcases hb with h | h <;> omega)) (fun b hb => ⟨Nat.zero_le _, by have := HA5.out.2.size; simp; rcases hb with h | h <;> omega⟩))⟩
                  | exact ⟨_, g3, rfl, TBox.of (((hbkv.at_ 0 (.int .i64 5)).at_ 1 (.int .i64 0)).at_ 2 (.slice (some ⟨g3, 0, none⟩) 2 2)), ((HA5.out.2.setCell (by simp) _).setCell (by simp) _).setCell (by simp) _, box_over HA5.out.1 hl3 HA5.out.2.size (by omega) (by omega)⟩
          case rest =>
          obtain ⟨gv, g3, rfl, HTB, HBX, HOV⟩ := hcut
          have HTB := Lib.hid HTB
          have HA5 := Lib.hid (And.intro HOV HBX)
          obtain ⟨w5, hw5⟩ : ∃ w5, wc = w5 := ⟨_, rfl⟩
          rw [hw5] at HTB HA5
          subst hw5
          have XU5 := Lib.hid (XU4.out.kept HA5.out.2 kl)
          clear k0 k1 k2 kl HBX HOV
          obtain ⟨k0, k1, k2, kl⟩ := XU5.out
          obtain ⟨v0, v1, v2, vl⟩ := HTB.out
          have HB5a := Lib.hid (Below.refl wc.heap.size wc)
          go_wp2_with fail
          refine (C3.out _ _ _ _ _ _ _ _ _ _ _).mono ?_
          rintro e w6 ⟨g4, rfl, hg4, b4, hb6⟩
          have hbb6 := HB5a.out.trans (hb6.mono HB5a.out.size)
          have HB6 := Lib.hid hbb6
          have XV6 := Lib.hid (show TBox w6 gv 5 0 (.slice (some ⟨g3, 0, none⟩) 2 2) from HTB.out.kept hb6 vl)
          have hNV := HA5.out.1.kept hbb6 (Nat.le_refl _)
          have hB56 := HA5.out.2.trans (hbb6.mono HA5.out.2.size)
          have hNW : IsTerm w6 w.heap.size w6.heap.size bothM (some ⟨g4, 0, none⟩) 2 := by
            rw [HBD.out]
            have h4 := (HXU.out.over hB56).wide
            exact two_in h4 h4 b4 ⟨by have h1 := HXU.out.1.size; have h2 := HA5.out.2.size; have h3 := HB5a.out.size; omega, b4.lt⟩ 5 0
          have hBw6 : Below w.heap.size w w6 := HXU.out.1.trans (hB56.mono HXU.out.1.size)
          have f1 := fun V (hV : Below w6.heap.size w6 V) => tsize_any overM 0 wc.heap.size (some ⟨g3, 0, none⟩) 2 V (hNV.kept hV hbb6.size) (Nat.le_trans hbb6.size hV.size)
          have f2 := fun V (hV : Below w6.heap.size w6 V) => shaped_any overM 0 wc.heap.size (some ⟨g3, 0, none⟩) 2 V (hNV.kept hV hbb6.size) (Nat.le_trans hbb6.size hV.size) ((HS.out.kept hBw6).kept hV)
          have f3 := fun V (hV : Below w6.heap.size w6 V) => tsize_any bothM w.heap.size w6.heap.size (some ⟨g4, 0, none⟩) 2 V (hNW.kept hV (Nat.le_refl _)) hV.size
          have f4 := fun V (hV : Below w6.heap.size w6 V) => tdepth_any bothM w.heap.size w6.heap.size (some ⟨g4, 0, none⟩) 2 V (hNW.kept hV (Nat.le_refl _)) hV.size
          have hv1 : termV overM (some ⟨g3, 0, none⟩) 2 = .agg #[.int .i64 5, .int .i64 0, .slice (some ⟨g3, 0, none⟩) 2 2] := rfl
          have hv2 : termV bothM (some ⟨g4, 0, none⟩) 2 = .agg #[.int .i64 5, .int .i64 0, .slice (some ⟨g4, 0, none⟩) 2 2] := rfl
          rw [hv1, over_cut] at f1
          rw [hv1, over_shaped] at f2
          rw [hv2, both_cut] at f3
          rw [hv2, both_deep] at f4
          have F1 := Lib.hid f1
          have F2 := Lib.hid f2
          have F3 := Lib.hid f3
          have F4 := Lib.hid f4
          have F5 := Lib.hid (fun V (hV : Below w6.heap.size w6 V) => AW.out V (hBw6.trans (hV.mono hBw6.size)))
          have HBW6 := Lib.hid hBw6
          have HWA := Lib.hid (fun o1 => ((Below.refl w6.heap.size w6).alloc (Nat.le_refl _) o1))
          clear hbb6 hNV hNW hB56 hBw6 f1 f2 f3 f4 hv1 hv2 b4 hb6 hg4 k0 k1 k2 kl
          clear v0 v1 v2
          obtain ⟨v0, v1, v2, vl'⟩ := XV6.out
          go_wp2_with fail
          refine (F1.out _ (HWA.out _)).mono ?_
          rintro e w7 ⟨rfl, hb7⟩
          have HB7 := Lib.hid ((HWA.out (.cells #[.int .i64 5, .int .i64 0, .slice (some ⟨g4, 0, none⟩) 2 2] 24)).trans (hb7.mono (by simp)))
          have XV7 := Lib.hid (XV6.out.kept HB7.out vl')
          have XW7 := Lib.hid (show TBox w7 w6.heap.size 5 0 (.slice (some ⟨g4, 0, none⟩) 2 2) from TBox.of ((Bk.new w6 _ _).below hb7 (by simp)))
          clear v0 v1 v2 vl' hb7
          obtain ⟨v0, v1, v2, vl⟩ := XV7.out
          obtain ⟨x0, x1, x2, xl⟩ := XW7.out
          go_wp2_with fail
          refine (F2.out _ HB7.out).mono ?_
          rintro e w8 ⟨rfl, hb8⟩
          have HB8 := Lib.hid (HB7.out.trans (hb8.mono HB7.out.size))
          have XW8 := Lib.hid (XW7.out.kept hb8 xl)
          clear v0 v1 v2 vl x0 x1 x2 xl hb8
          obtain ⟨x0, x1, x2, xl⟩ := XW8.out
          go_wp2_with fail
          refine (F3.out _ HB8.out).mono ?_
          rintro e w9 ⟨rfl, hb9⟩
          have HB9 := Lib.hid (HB8.out.trans (hb9.mono HB8.out.size))
          have XW9 := Lib.hid (XW8.out.kept hb9 xl)
          clear x0 x1 x2 xl hb9
          obtain ⟨x0, x1, x2, xl⟩ := XW9.out
          go_wp2_with fail
          refine (F4.out _ HB9.out).mono ?_
          rintro e w10 ⟨rfl, hb10⟩
          have HB10 := Lib.hid (HB9.out.trans (hb10.mono HB9.out.size))
          clear x0 x1 x2 xl hb10
          go_wp2_with fail
          refine (F5.out _ HB10.out).mono ?_
          rintro e w11 ⟨rfl, hb11⟩
          go_wp2_with fail
          go_ret
          exact ⟨rfl, HBW6.out.trans ((HB10.out.trans (hb11.mono HB10.out.size)).mono HBW6.out.size)⟩

end Go.Proofs.YteemfjkenmaedaaDoor
