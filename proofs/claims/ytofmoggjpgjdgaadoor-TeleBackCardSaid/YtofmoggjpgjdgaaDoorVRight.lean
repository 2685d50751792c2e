/- The document's Right, asked of a term without loose variables: where it answers yes the term is shaped and closed. -/
import Derived.Test.YtofmoggjpgjdgaaDoorVPlain
import Derived.Test.YtofmoggjpgjdgaaDoorM4
import Derived.Test.YtofmoggjpgjdgaaDoorTRHas
import Derived.Test.YtofmoggjpgjdgaaDoorTRGood
import Derived.RegionTactic
namespace Go.Proofs.YtofmoggjpgjdgaaDoor
open Go.RowKit
set_option linter.unusedVariables false
set_option maxRecDepth 100000

/-- A row of numbers that came back. -/
def VRowIs (l : List Int) (w : World) (e : Ending) (w' : World) : Prop := ∃ a c, e = .returned (.slice a l.length c) ∧ RowAt w' a l ∧ Below w.heap.size w w'
def ClosedIs (t : TM) (w : World) (e : Ending) (w' : World) : Prop := (∃ b, e = .returned (.bool b) ∧ (b = true → shapedB t = true ∧ looseT t 0 ≤ 0)) ∧ Below w.heap.size w w'
set_option maxHeartbeats 2000000 in
theorem rright_any (t : TM) (lo hi : Nat) (A : Option Addr) (cap : Nat) (w : World) (h : IsTerm w lo hi t A cap) (hhi : hi ≤ w.heap.size) :
    Calls Tryd.prog 26 #[termV t A cap, .int .i64 0, .int .i64 1048577] w (ClosedIs t w) := by
  have HW := Lib.hid (show Below w.heap.size w (w.alloc (.cells #[.int .i64 t.k, .int .i64 t.n, .slice A t.l.length cap] 24)) from (Below.refl _ _).alloc (Nat.le_refl _) _)
  have KB := Lib.hid (fun (V : World) (hV : Below (w.alloc (.cells #[.int .i64 t.k, .int .i64 t.n, .slice A t.l.length cap] 24)).heap.size (w.alloc (.cells #[.int .i64 t.k, .int .i64 t.n, .slice A t.l.length cap] 24)) V) => (show Bk V w.heap.size 24 #[.int .i64 t.k, .int .i64 t.n, .slice A t.l.length cap] from (Bk.new w 24 _).below hV (by simp)))
  have CS := Lib.hid (refShaped_any t lo hi A cap (w.alloc (.cells #[.int .i64 t.k, .int .i64 t.n, .slice A t.l.length cap] 24)) (h.kept HW.out hhi) (by simp; omega))
  obtain ⟨bt, hbt⟩ : ∃ b, shapedB t = b := ⟨_, rfl⟩
  rw [hbt] at CS
  have CL := Lib.hid (fun (hb : bt = true) (V : World) (hV : Below w.heap.size w V) => refLoose_any t 0 lo hi A cap V (h.kept hV hhi) (by have := hV.size; omega) (Int.le_refl _) (by have := (shapedB_true.1 (hbt.trans hb)).2.1; omega) (shapedB_true.1 (hbt.trans hb)).2.2)
  have CN := Lib.hid (fun (hb : bt = true) (V : World) (hV : Below w.heap.size w V) => (refNums_any 6 7 t lo hi A cap V (h.kept hV hhi) (by have := hV.size; omega) (shapedB_true.1 (hbt.trans hb)).1).mono fun e w' h => (show VRowIs (setL (colT (twoK 6 7) t)) V e w' from by
    obtain ⟨v, rfl, h1, h2⟩ := h
    obtain ⟨a, c, rfl⟩ := own_sliceM h1
    exact ⟨a, c, rfl, RowAt.own h1, h2⟩))
  have HLN := Lib.hid (fun (hb : bt = true) => (show (setL (colT (twoK 6 7) t)).length ≤ 8192 from Nat.le_trans (setL_length_le _) (Nat.le_trans (colL_len _ t) (shapedB_true.1 (hbt.trans hb)).1)))
  have HBT := Lib.hid hbt
  obtain ⟨z, hzl⟩ : ∃ z, looseT t 0 = z := ⟨_, rfl⟩
  rw [hzl] at CL
  have HZL := Lib.hid hzl
  obtain ⟨l, hl⟩ : ∃ l, setL (colT (twoK 6 7) t) = l := ⟨_, rfl⟩
  rw [hl] at CN HLN
  unfold termV at CS CL CN ⊢
  clear h hhi hbt hzl hl
  go_enter Tryd.func26, Tryd.ntmps26
  go_wp2_with fail
  refine CS.out.mono ?_
  rintro e w1 ⟨rfl, hb1⟩
  have HB1 := Lib.hid (HW.out.trans (hb1.mono (by simp)))
  have k1 := KB.out _ hb1
  have HBX := Lib.hid hb1
  have hc0 : w1.cell? ⟨w.heap.size, 0, none⟩ = some (.int .i64 t.k) := k1.cell 0
  have hc1 : w1.cell? ⟨w.heap.size, 1, none⟩ = some (.int .i64 t.n) := k1.cell 1
  have hc2 : w1.cell? ⟨w.heap.size, 2, none⟩ = some (.slice A t.l.length cap) := k1.cell 2
  clear hb1 k1 CS
  cases bt with
  | false =>
    go_wp2_with fail
    go_ret
    exact ⟨⟨false, rfl, fun h => (by cases h)⟩, HB1.out⟩
  | true =>
  have DL := Lib.hid (CL.out rfl)
  have DN := Lib.hid (CN.out rfl)
  have DLN := Lib.hid (HLN.out rfl)
  clear CL CN HLN
  go_wp2_with fail
  refine (DL.out _ HB1.out).mono ?_
  rintro e w2 ⟨rfl, hb2⟩
  have HB2 := Lib.hid (HB1.out.trans (hb2.mono HB1.out.size))
  have k2 := KB.out _ (HBX.out.trans (hb2.mono HBX.out.size))
  clear hc0 hc1 hc2 hb2
  have hc0 : w2.cell? ⟨w.heap.size, 0, none⟩ = some (.int .i64 t.k) := k2.cell 0
  have hc1 : w2.cell? ⟨w.heap.size, 1, none⟩ = some (.int .i64 t.n) := k2.cell 1
  have hc2 : w2.cell? ⟨w.heap.size, 2, none⟩ = some (.slice A t.l.length cap) := k2.cell 2
  clear k2
  by_cases hz0 : 0 < z
  · have t0 : decide ((0 : Int) < z) = true := decide_eq_true hz0
    have t1 : decide (z > 0) = true := decide_eq_true hz0
    clear hz0
    go_wp2_with fail
    go_ret
    exact ⟨⟨false, rfl, fun h => (by cases h)⟩, HB2.out⟩
  · have t0 : decide ((0 : Int) < z) = false := decide_eq_false hz0
    have t1 : decide (z > 0) = false := decide_eq_false hz0
    have HC := Lib.hid (show looseT t 0 ≤ 0 from by rw [HZL.out]; omega)
    clear hz0
    go_wp2_with fail
    refine (DN.out _ HB2.out).mono ?_
    rintro e w3 ⟨a, c, rfl, hrow, hb3⟩
    have HR := Lib.hid hrow
    have HB3 := Lib.hid (HB2.out.trans (hb3.mono HB2.out.size))
    have hl9 : (l.length : Int) ≤ 8192 := by have := DLN.out; omega
    clear hrow hb3 hc0 hc1 hc2 DN DL
    go_wp2_with fail
    go_loopw [8] (fun iv wr => ∃ i : Nat, i ≤ l.length ∧ iv = .int .i64 i ∧ Below w3.heap.size w3 wr) (fun iv _ => l.length - (intOf iv).toNat)
    case atStart => exact ⟨0, Nat.zero_le _, rfl, Below.refl _ _⟩
    case round =>
      obtain ⟨i, hi1, rfl, hB⟩ := hrel
      have HBF := Lib.hid (HB3.out.trans (hB.mono HB3.out.size))
      have HBR := Lib.hid hB
      by_cases hil : i < l.length
      · obtain ⟨b1, e1, hb1, k1⟩ := HR.out (by omega)
        subst e1
        obtain ⟨x, hx⟩ : ∃ x, l[i]'hil = x := ⟨_, rfl⟩
        have g1 := (hB.cell (p := ⟨b1, 0 + i, none⟩) hb1).trans (k1 i hil)
        rw [hx, Nat.zero_add] at g1
        have hi1' : (i : Int) < (l.length : Int) := by omega
        have hi0' : (0 : Int) ≤ (i : Int) := by omega
        have HIL := Lib.hid hil
        clear k1 hx hil hB
        by_cases hxz : 1048577 ≤ x
        · have q0 : decide ((1048577 : Int) ≤ x) = true := decide_eq_true hxz
          have q1 : decide (x ≥ 1048577) = true := decide_eq_true hxz
          clear hxz
          go_wp2_with fail
          go_ret
          exact ⟨⟨false, rfl, fun h => (by cases h)⟩, HBF.out⟩
        · have q0 : decide ((1048577 : Int) ≤ x) = false := decide_eq_false hxz
          have q1 : decide (x ≥ 1048577) = false := decide_eq_false hxz
          clear hxz
          go_wp2_with fail
          go_roundw
          case rel => exact ⟨i + 1, by have := HIL.out; omega, by go_num, HBR.out⟩
          case measure => have := HIL.out; simp [intOf]; omega
      · have hge : ¬ (i : Int) < (l.length : Int) := by omega
        clear hil
        go_wp2_with fail
        go_ret
        exact ⟨⟨true, rfl, fun _ => ⟨HBT.out, HC.out⟩⟩, HBF.out⟩

end Go.Proofs.YtofmoggjpgjdgaaDoor
