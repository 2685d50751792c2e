/- The walk of the law TermLimits. -/
import Derived.Test.YtcobionbgiaomaaDoorTBox
import Derived.Deep.RegionWith
import Derived.Deep.CutRange
import Derived.Deep.RegionHeld3
namespace Go.Proofs.YtcobionbgiaomaaDoor
open Go.RowKit
set_option linter.unusedVariables false
set_option maxRecDepth 100000

def leafM : TM := .node 2 0 []
def chainM : Nat → TM
  | 0 => leafM
  | j + 1 => .node 5 0 [chainM j, leafM]
def wideM : Nat → TM
  | 0 => leafM
  | j + 1 => .node 5 0 [wideM j, wideM j]
theorem leafM_size : leafM.size = 1 := by unfold leafM; simp only [tsize_node, sizeM_nil]
theorem leafM_depth : leafM.depth = 1 := by unfold leafM; simp only [tdepth_node, depthM_nil]
theorem leafM_good : tgoodB leafM = true := by unfold leafM; rw [tgoodB_node, tgoodL_all]; decide
theorem app_good {t u : TM} (h1 : tgoodB t = true) (h2 : tgoodB u = true) : tgoodB (.node 5 0 [t, u]) = true := by
  rw [tgoodB_node, tgoodL_all, List.all_cons, List.all_cons, h1, h2]
  rw [ttop_mk (by omega) (by omega) rfl (by omega) (by decide) (fun e => by omega)]; rfl
theorem chain_sizeM : ∀ j, (chainM j).size = 2 * j + 1
  | 0 => leafM_size
  | j + 1 => by rw [chainM, tsize_node, sizeM_cons, sizeM_cons, sizeM_nil, chain_sizeM j, leafM_size]; omega
theorem chain_depthM : ∀ j, (chainM j).depth = j + 1
  | 0 => leafM_depth
  | j + 1 => by rw [chainM, tdepth_node, depthM_cons, depthM_cons, depthM_nil, chain_depthM j, leafM_depth]; omega
theorem chain_goodM : ∀ j, tgoodB (chainM j) = true
  | 0 => leafM_good
  | j + 1 => app_good (chain_goodM j) leafM_good
theorem wide_sizeM : ∀ j, (wideM j).size + 1 = 2 ^ (j + 1)
  | 0 => by rw [wideM, leafM_size]
  | j + 1 => by
    have h := wide_sizeM j
    rw [wideM, tsize_node, sizeM_cons, sizeM_cons, sizeM_nil, Nat.pow_succ 2 (j + 1)]
    omega
theorem wide_depthM : ∀ j, (wideM j).depth = j + 1
  | 0 => leafM_depth
  | j + 1 => by rw [wideM, tdepth_node, depthM_cons, depthM_cons, depthM_nil, wide_depthM j]; omega
theorem wide_goodM : ∀ j, tgoodB (wideM j) = true
  | 0 => leafM_good
  | j + 1 => app_good (wide_goodM j) (wide_goodM j)
theorem chain_shaped (j : Nat) (h : j ≤ 1000) : shapedB (chainM j) = decide (j + 1 ≤ 128) := by
  by_cases hj : j + 1 ≤ 128
  · rw [decide_eq_true hj]
    exact shapedB_true.2 ⟨by rw [chain_sizeM]; omega, by rw [chain_depthM]; omega, chain_goodM j⟩
  · rw [decide_eq_false hj]
    cases e : shapedB (chainM j) with
    | false => rfl
    | true => have := (shapedB_true.1 e).2.1; rw [chain_depthM] at this; omega
theorem wide12_size : (wideM 12).size = 8191 := by have := wide_sizeM 12; have e : 2 ^ (12 + 1) = 8192 := by decide
                                                   omega
theorem wide12_shaped : shapedB (wideM 12) = true := shapedB_true.2 ⟨by rw [wide12_size]; omega, by rw [wide_depthM]; omega, wide_goodM 12⟩
def overM : TM := .node 5 0 [wideM 12, leafM]
def bothM : TM := .node 5 0 [wideM 12, wideM 12]
theorem over_size : overM.size = 8193 := by unfold overM; rw [tsize_node, sizeM_cons, sizeM_cons, sizeM_nil, wide12_size, leafM_size]
theorem both_size : bothM.size = 16383 := by unfold bothM; rw [tsize_node, sizeM_cons, sizeM_cons, sizeM_nil, wide12_size]
theorem over_shaped : shapedB overM = false := by
  cases e : shapedB overM with
  | false => rfl
  | true => have := (shapedB_true.1 e).1; rw [over_size] at this; omega
theorem over_cut : topN overM.size = 8193 := by rw [over_size]; rfl
theorem both_cut : topN bothM.size = 8193 := by rw [both_size]; rfl
theorem wide_cut : topN (wideM 12).size = 8191 := by rw [wide12_size]; rfl
theorem both_deep : tdeepN bothM = 129 := by unfold tdeepN; rw [both_size]; rfl

theorem drew_alloc (w : World) (o : Obj) : w.drew.alloc o = (w.alloc o).drew := rfl

/-- A term in a box, which lies behind it. -/
def BoxT (w : World) (g : Nat) (t : TM) (A : Option Addr) (cap : Nat) (wr : World) : Prop :=
  Below w.heap.size w wr ∧ w.heap.size ≤ g ∧ Bk wr g 24 #[.int .i64 t.k, .int .i64 t.n, .slice A t.l.length cap] ∧ TermIn wr (fun b => w.heap.size ≤ b ∧ b < wr.heap.size ∧ b ≠ g) t A cap
def ChainM (K : Nat) (w : World) (g : Nat) (iv : Value) (wr : World) : Prop :=
  ∃ (j : Nat) (A : Option Addr) (cap : Nat), iv = .int .i64 ((j : Int) + 1) ∧ j ≤ 126 + K ∧ BoxT w g (chainM j) A cap wr
theorem TermIn.stay {w w' : World} {P : Nat → Prop} {t : TM} {A : Option Addr} {cap B : Nat} (h : TermIn w P t A cap) (hb : Below B w w') (hB : ∀ b, P b → b < B) : TermIn w' P t A cap :=
  h.imp (fun b o hp => hb.cell (p := ⟨b, o, none⟩) (hB b hp)) (fun _ h => h)
/-- The box takes a term of two. -/
theorem BoxT.app {w wr W w2 : World} {g g1 : Nat} {t u : TM} {A A' : Option Addr} {cap cap' : Nat} (h : BoxT w g t A cap wr) (hW : Below wr.heap.size wr W) (hu : TermIn wr (fun b => w.heap.size ≤ b ∧ b < wr.heap.size ∧ b ≠ g) u A' cap')
    (hg1 : W.heap.size ≤ g1) (hb1 : Bk w2 g1 24 #[.int .i64 t.k, .int .i64 t.n, .slice A t.l.length cap, .int .i64 u.k, .int .i64 u.n, .slice A' u.l.length cap']) (hb2 : Below W.heap.size W w2) :
    BoxT w g (.node 5 0 [t, u]) (some ⟨g1, 0, none⟩) 2 (((w2.setCell ⟨g, 0, none⟩ (.int .i64 5)).setCell ⟨g, 1, none⟩ (.int .i64 0)).setCell ⟨g, 2, none⟩ (.slice (some ⟨g1, 0, none⟩) 2 2)) := by
  obtain ⟨h1, h2, h3, h4⟩ := h
  have hz := hW.size
  have hz2 := hb2.size
  have hlt := h3.lt
  have hl1 := hb1.lt
  have hbb : Below wr.heap.size wr w2 := hW.trans (hb2.mono hz)
  have h3' := h3.below hbb hlt
  have hs : (((w2.setCell ⟨g, 0, none⟩ (.int .i64 5)).setCell ⟨g, 1, none⟩ (.int .i64 0)).setCell ⟨g, 2, none⟩ (.slice (some ⟨g1, 0, none⟩) 2 2)).heap.size = w2.heap.size := by simp [World.setCell]
  refine ⟨?_, h2, ?_, ?_⟩
  · exact (((h1.trans (hbb.mono h1.size)).setCell (by exact h2) _).setCell (by exact h2) _).setCell (by exact h2) _
  · exact ((h3'.at_ 0 (.int .i64 5)).at_ 1 (.int .i64 0)).at_ 2 _
  · have hin : TermIn w2 (fun b => w.heap.size ≤ b ∧ b < w2.heap.size ∧ b ≠ g) (.node 5 0 [t, u]) (some ⟨g1, 0, none⟩) 2 :=
      two_in ((h4.stay hbb (fun b hb => hb.2.1)).imp (fun _ _ _ => rfl) (fun b hb => ⟨hb.1, by omega, hb.2.2⟩)) ((hu.stay hbb (fun b hb => hb.2.1)).imp (fun _ _ _ => rfl) (fun b hb => ⟨hb.1, by omega, hb.2.2⟩)) hb1 ⟨by have := h1.size; omega, by omega, by omega⟩ 5 0
    refine hin.imp (fun b o hb => ?_) (fun b hb => ⟨hb.1, by rw [hs]; exact hb.2.1, hb.2.2⟩)
    have hne : ∀ o', (⟨g, o', none⟩ : Addr) ≠ ⟨b, o, none⟩ := fun o' e => by
      have := congrArg Addr.block e
      exact hb.2.2 this.symm
    rw [World.cell?_setCell_other _ _ _ _ (hne _), World.cell?_setCell_other _ _ _ _ (hne _), World.cell?_setCell_other _ _ _ _ (hne _)]
theorem BoxT.wide {w wr : World} {g : Nat} {t : TM} {A : Option Addr} {cap : Nat} (h : BoxT w g t A cap wr) : IsTerm wr w.heap.size wr.heap.size t A cap := h.2.2.2.imp (fun _ _ _ => rfl) (fun b hb => ⟨hb.1, hb.2.1⟩)
theorem BoxT.over {w wr W : World} {g : Nat} {t : TM} {A : Option Addr} {cap : Nat} (h : BoxT w g t A cap wr) (hb : Below wr.heap.size wr W) : BoxT w g t A cap W :=
  ⟨h.1.trans (hb.mono h.1.size), h.2.1, h.2.2.1.below hb h.2.2.1.lt, (h.2.2.2.stay hb (fun b hb => hb.2.1)).imp (fun _ _ _ => rfl) (fun b hb' => ⟨hb'.1, Nat.lt_of_lt_of_le hb'.2.1 hb.size, hb'.2.2⟩)⟩
/-- A term stays over three stores into a block that is none of its. -/
theorem box_over {w5 : World} {B g3 gv : Nat} {t : TM} {A : Option Addr} {cap : Nat} {v0 v1 v2 : Value} (h : TermIn w5 (fun b => b < B ∨ b = g3) t A cap) (hl : g3 < w5.heap.size) (hB : B ≤ w5.heap.size) (h1 : B ≤ gv) (h2 : gv < g3) :
    IsTerm (((w5.setCell ⟨gv, 0, none⟩ v0).setCell ⟨gv, 1, none⟩ v1).setCell ⟨gv, 2, none⟩ v2) 0 (((w5.setCell ⟨gv, 0, none⟩ v0).setCell ⟨gv, 1, none⟩ v1).setCell ⟨gv, 2, none⟩ v2).heap.size t A cap := by
  have hs : (((w5.setCell ⟨gv, 0, none⟩ v0).setCell ⟨gv, 1, none⟩ v1).setCell ⟨gv, 2, none⟩ v2).heap.size = w5.heap.size := by simp [World.setCell]
  refine h.imp (fun b o hb => ?_) (fun b hb => ⟨Nat.zero_le _, by rw [hs]; rcases hb with h | rfl <;> omega⟩)
  have hne : ∀ o', (⟨gv, o', none⟩ : Addr) ≠ ⟨b, o, none⟩ := fun o' e => by
    have := congrArg Addr.block e
    simp at this
    rcases hb with h | rfl <;> omega
  rw [World.cell?_setCell_other _ _ _ _ (hne _), World.cell?_setCell_other _ _ _ _ (hne _), World.cell?_setCell_other _ _ _ _ (hne _)]
def WideM (w : World) (g : Nat) (iv : Value) (wr : World) : Prop :=
  ∃ (j : Nat) (A : Option Addr) (cap : Nat), iv = .int .i64 (j : Int) ∧ j ≤ 12 ∧ BoxT w g (wideM j) A cap wr

end Go.Proofs.YtcobionbgiaomaaDoor
