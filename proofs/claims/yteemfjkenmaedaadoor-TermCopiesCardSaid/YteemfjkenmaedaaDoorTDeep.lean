/- term.deepest, Size, Depth. -/
import Derived.Test.YteemfjkenmaedaaDoorTCnt
import Derived.Test.YteemfjkenmaedaaDoorDeep
namespace Go.Proofs.YteemfjkenmaedaaDoor
open Go.RowKit
set_option linter.unusedVariables false

set_option maxRecDepth 20000 in
theorem tdeepest_any : ∀ (t : TM) (x : Int) (a lo hi : Nat) (A : Option Addr) (cap : Nat) (w : World), IsTerm w lo hi t A cap → hi ≤ w.heap.size → x = a + 1 → a ≤ 128 →
    Calls Tryd.prog 60 #[termV t A cap, .int .i64 x] w fun e w' => e = .returned (.int .i64 (dpN (a + t.depth) : Int)) ∧ Below w.heap.size w w' := by
  intro t
  induction t using TM.ind with
  | h k n l ih =>
    intro x d lo hi A cap w h hhi hx0 hd
    obtain ⟨hl, hm⟩ := h.bounds
    have IH := Lib.hid ih
    have HN := Lib.hid h.sub
    unfold maxLen at hm
    subst hx0
    clear ih h
    rw [termV_node, tdepth_node]
    by_cases h128 : d = 128
    · have e : dpN (d + (depthM l + 1)) = 129 := dpN_top (by omega)
      have hgt : (128 : Int) < (d : Int) + 1 := by omega
      have hE := Lib.hid (show (d : Int) + 1 = 129 by omega)
      rw [e]
      clear HN IH e h128 hd
      go_enter Tryd.func60, Tryd.ntmps60
      go_wp2_with fail
      go_ret
      exact ⟨by rw [hE.out]; rfl, (Below.refl _ _).alloc (Nat.le_refl _) _⟩
    · have hI : (d : Int) + 1 ≤ 128 := by omega
      have HD := Lib.hid (show d ≤ 127 by omega)
      clear h128 hd
      go_enter Tryd.func60, Tryd.ntmps60
      go_wp2_with fail
      go_loopw [5, 15] (fun cv iv wr => ∃ i : Nat, i ≤ l.length ∧ iv = .int .i64 i ∧ cv = .int .i64 (dpN (d + 1 + depthM (l.take i)) : Int) ∧ Below w.heap.size w wr)
        (fun _ iv _ => l.length - (intOf iv).toNat)
      case atStart => exact ⟨0, Nat.zero_le _, rfl, int_of (by rw [List.take_zero, depthM_nil, dpN_one (by have := HD.out; omega)]; omega), (Below.refl _ _).alloc (Nat.le_refl _) _⟩
      case round =>
        obtain ⟨i, hi1, rfl, rfl, hB⟩ := hrel
        have hz := hB.size
        by_cases hil : i < l.length
        · obtain ⟨b, o, F, C, rfl, hb1, hb2, hx, hnode⟩ := (HN.out i hil).kept hB hhi
          obtain ⟨x0, x1, x2⟩ := hx
          have hsn := Lib.hid (depthM_snoc hil)
          have hmem : l[i] ∈ l := List.getElem_mem hil
          obtain ⟨q, hq⟩ : ∃ q, dpN (d + 1 + depthM (l.take i)) = q := ⟨_, rfl⟩
          obtain ⟨r, hr0⟩ : ∃ r, dpN (d + 1 + l[i].depth) = r := ⟨_, rfl⟩
          have hmx : Hid (dpN (d + 1 + depthM (l.take (i + 1))) = max q r) := by
            show _ = _
            rw [hsn.out, ← hq, ← hr0, dpN_max]
          have hr := IH.out l[i] hmem ((d : Int) + 1 + 1) (d + 1) lo hi F C
          rw [hr0] at hr
          rw [hq]
          have HR := Lib.hid hr
          have hM : max (q : Int) (r : Int) = ((max q r : Nat) : Int) := by omega
          clear hq hr0 hr HN
          go_wp2_with fail
          refine (HR.out _ (hnode.alloc (by omega) _) (by simp; omega) (by omega) (by omega)).mono ?_
          rintro e w1 ⟨rfl, hb1⟩
          have hB1 := (hB.alloc hz _).trans (hb1.mono (by simp; omega))
          go_wp2_with fail
          go_roundw
          case rel =>
            refine ⟨i + 1, by omega, rfl, int_of (by rw [hmx.out]; split <;> omega), hB1⟩
          case measure => simp [intOf]; omega
        · obtain rfl : i = l.length := by omega
          rw [List.take_length]
          clear HN IH
          go_wp2_with fail
          go_ret
          exact ⟨ret_nat (by congr 1; omega), hB⟩

theorem tsize_any (t : TM) (lo hi : Nat) (A : Option Addr) (cap : Nat) (w : World) (h : IsTerm w lo hi t A cap) (hhi : hi ≤ w.heap.size) :
    Calls Tryd.prog 43 #[termV t A cap] w fun e w' => e = .returned (.int .i64 (topN t.size : Int)) ∧ Below w.heap.size w w' := by
  have hc := tcount_any t 0 lo hi A cap
  rw [Nat.zero_add] at hc
  have HC := Lib.hid hc
  clear hc
  unfold termV at HC ⊢
  go_enter Tryd.func43, Tryd.ntmps43
  go_wp2_with fail
  refine (HC.out _ (h.alloc hhi _) (by simp; omega) (by omega)).mono ?_
  rintro e w1 ⟨rfl, hb1⟩
  go_wp2_with fail
  go_ret
  exact ⟨rfl, ((Below.refl _ _).alloc (Nat.le_refl _) _).trans (hb1.mono (by simp))⟩

/-- How deep a node is told to be. -/
def tdeepN (t : TM) : Nat := if 8192 < t.size then 129 else dpN t.depth
theorem tdeepN_le (t : TM) : tdeepN t ≤ 129 := by unfold tdeepN; split; omega; exact dpN_le _
theorem tdepth_any (t : TM) (lo hi : Nat) (A : Option Addr) (cap : Nat) (w : World) (h : IsTerm w lo hi t A cap) (hhi : hi ≤ w.heap.size) :
    Calls Tryd.prog 44 #[termV t A cap] w fun e w' => e = .returned (.int .i64 (tdeepN t : Int)) ∧ Below w.heap.size w w' := by
  have hc := tdeepest_any t 1 0 lo hi A cap
  rw [Nat.zero_add] at hc
  have HC := Lib.hid hc
  have HS := Lib.hid (tsize_any t lo hi A cap)
  clear hc
  unfold tdeepN
  unfold termV at HC HS ⊢
  by_cases hs : 8192 < t.size
  · rw [if_pos hs]
    have hq := topN_hi hs
    rw [hq] at HS
    clear hs hq HC
    go_enter Tryd.func44, Tryd.ntmps44
    go_wp2_with fail
    refine (HS.out _ (h.alloc hhi _) (by simp; omega)).mono ?_
    rintro e w1 ⟨rfl, hb1⟩
    go_wp2_with fail
    go_ret
    exact ⟨rfl, ((Below.refl _ _).alloc (Nat.le_refl _) _).trans (hb1.mono (by simp))⟩
  · rw [if_neg hs]
    have hq := topN_lo (n := t.size) (by omega)
    rw [hq] at HS
    have hs' : t.size ≤ 8192 := by omega
    clear hs hq
    go_enter Tryd.func44, Tryd.ntmps44
    go_wp2_with fail
    refine (HS.out _ (h.alloc hhi _) (by simp; omega)).mono ?_
    rintro e w1 ⟨rfl, hb1⟩
    have hz1 := hb1.size
    simp at hz1
    have hB1 := ((Below.refl _ _).alloc (Nat.le_refl _) _).trans (hb1.mono (by simp))
    have hcell := fun p hp => hb1.cell (p := p) hp
    go_wp2_with fail
    refine (HC.out _ ((h.alloc hhi _).kept hb1 (by simp; omega)) (by omega) (by omega) (by omega)).mono ?_
    rintro e w2 ⟨rfl, hb2⟩
    go_wp2_with fail
    go_ret
    exact ⟨rfl, hB1.trans (hb2.mono (by omega))⟩

/-- Is a node neither too great nor too deep? -/
def tfitB (t : TM) : Bool := decide (tdeepN t ≤ 128)
theorem tfitB_true {t : TM} : tfitB t = true ↔ t.size ≤ 8192 ∧ t.depth ≤ 128 := by
  unfold tfitB tdeepN dpN
  rw [decide_eq_true_eq]
  split <;> omega
end Go.Proofs.YteemfjkenmaedaaDoor
