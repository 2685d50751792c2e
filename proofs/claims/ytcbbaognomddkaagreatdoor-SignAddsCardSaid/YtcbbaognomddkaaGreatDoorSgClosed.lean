/- Closed terms: term.Right without loose variables, and no named ones: sign.closed, scholiumref12.Closed. -/
import Derived.Test.YtcbbaognomddkaaGreatDoorM4
import Derived.Test.YtcbbaognomddkaaGreatDoorTRGood
import Derived.Test.YtcbbaognomddkaaGreatDoorM3
import Derived.RegionTactic
namespace Go.Proofs.YtcbbaognomddkaaGreatDoor
open Go.RowKit
set_option linter.unusedVariables false
set_option maxRecDepth 100000

/-- A row of numbers that came back. -/
def SRowIs (l : List Int) (w : World) (e : Ending) (w' : World) : Prop := ∃ a c, e = .returned (.slice a l.length c) ∧ RowAt w' a l ∧ Below w.heap.size w w'
set_option maxHeartbeats 2000000 in
theorem rrightP_any (t : TM) (m : Int) (lo hi : Nat) (A : Option Addr) (cap : Nat) (w : World) (h : IsTerm w lo hi t A cap) (hhi : hi ≤ w.heap.size) :
    Calls Tryz.prog 56 #[termV t A cap, .int .i64 0, .int .i64 m] w fun e w' => e = .returned (.bool (trightB t 0 m)) ∧ Below w.heap.size w w' := by
  have HW := Lib.hid (show Below w.heap.size w (w.alloc (.cells #[.int .i64 t.k, .int .i64 t.n, .slice A t.l.length cap] 31)) from (Below.refl _ _).alloc (Nat.le_refl _) _)
  have KB := Lib.hid (fun (V : World) (hV : Below (w.alloc (.cells #[.int .i64 t.k, .int .i64 t.n, .slice A t.l.length cap] 31)).heap.size (w.alloc (.cells #[.int .i64 t.k, .int .i64 t.n, .slice A t.l.length cap] 31)) V) => (show Bk V w.heap.size 31 #[.int .i64 t.k, .int .i64 t.n, .slice A t.l.length cap] from (Bk.new w 31 _).below hV (by simp)))
  have CS := Lib.hid (refShaped_any t lo hi A cap (w.alloc (.cells #[.int .i64 t.k, .int .i64 t.n, .slice A t.l.length cap] 31)) (h.kept HW.out hhi) (by simp; omega))
  obtain ⟨bt, hbt⟩ : ∃ b, shapedB t = b := ⟨_, rfl⟩
  rw [hbt] at CS
  have CL := Lib.hid (fun (hb : bt = true) (V : World) (hV : Below w.heap.size w V) => refLoose_any t 0 lo hi A cap V (h.kept hV hhi) (by have := hV.size; omega) (Int.le_refl _) (by have := (shapedB_true.1 (hbt.trans hb)).2.1; omega) (shapedB_true.1 (hbt.trans hb)).2.2)
  have CN := Lib.hid (fun (hb : bt = true) (V : World) (hV : Below w.heap.size w V) => (refNums_any 6 7 t lo hi A cap V (h.kept hV hhi) (by have := hV.size; omega) (shapedB_true.1 (hbt.trans hb)).1).mono fun e w' h => (show SRowIs (setL (colT (twoK 6 7) t)) V e w' from by
    obtain ⟨v, rfl, h1, h2⟩ := h
    obtain ⟨a, c, rfl⟩ := own_sliceM h1
    exact ⟨a, c, rfl, RowAt.own h1, h2⟩))
  have HLN := Lib.hid (fun (hb : bt = true) => (show (setL (colT (twoK 6 7) t)).length ≤ 8192 from Nat.le_trans (setL_length_le _) (Nat.le_trans (colL_len _ t) (shapedB_true.1 (hbt.trans hb)).1)))
  have HBT := Lib.hid hbt
  have HSM := Lib.hid (fun z => setL_mem (l := colT (twoK 6 7) t) (x := z))
  have HTK := Lib.hid (show colT (twoK 6 7) t = colT entK t from rfl)
  obtain ⟨rz, hrz⟩ : ∃ r, trightB t 0 m = r := ⟨_, rfl⟩
  rw [hrz]
  have HRZ := Lib.hid hrz
  clear hrz
  obtain ⟨z, hzl⟩ : ∃ z, looseT t 0 = z := ⟨_, rfl⟩
  rw [hzl] at CL
  have HZL := Lib.hid hzl
  obtain ⟨l, hl⟩ : ∃ l, setL (colT (twoK 6 7) t) = l := ⟨_, rfl⟩
  rw [hl] at CN HLN HSM
  unfold termV at CS CL CN ⊢
  clear h hhi hbt hzl hl
  go_enter Tryz.func56, Tryz.ntmps56
  go_wp2_with fail
  refine CS.out.mono ?_
  rintro e w1 ⟨rfl, hb1⟩
  have HB1 := Lib.hid (HW.out.trans (hb1.mono (by simp)))
  have k1 := KB.out _ hb1
  have HBX := Lib.hid hb1
  have hc0 : w1.cell? ⟨w.heap.size, 0, none⟩ = some (.int .i64 t.k) := k1.cell 0
  have hc1 : w1.cell? ⟨w.heap.size, 1, none⟩ = some (.int .i64 t.n) := k1.cell 1
  have hc2 : w1.cell? ⟨w.heap.size, 2, none⟩ = some (.slice A t.l.length cap) := k1.cell 2
  clear hb1 k1 CS
  cases bt with
  | false =>
    obtain rfl : rz = false := by rw [← HRZ.out]; unfold trightB; rw [HBT.out]; simp
    go_wp2_with fail
    go_ret
    exact ⟨rfl, HB1.out⟩
  | true =>
  have DL := Lib.hid (CL.out rfl)
  have DN := Lib.hid (CN.out rfl)
  have DLN := Lib.hid (HLN.out rfl)
  clear CL CN HLN
  go_wp2_with fail
  refine (DL.out _ HB1.out).mono ?_
  rintro e w2 ⟨rfl, hb2⟩
  have HB2 := Lib.hid (HB1.out.trans (hb2.mono HB1.out.size))
  have k2 := KB.out _ (HBX.out.trans (hb2.mono HBX.out.size))
  clear hc0 hc1 hc2 hb2
  have hc0 : w2.cell? ⟨w.heap.size, 0, none⟩ = some (.int .i64 t.k) := k2.cell 0
  have hc1 : w2.cell? ⟨w.heap.size, 1, none⟩ = some (.int .i64 t.n) := k2.cell 1
  have hc2 : w2.cell? ⟨w.heap.size, 2, none⟩ = some (.slice A t.l.length cap) := k2.cell 2
  clear k2
  by_cases hz0 : 0 < z
  · have t0 : decide ((0 : Int) < z) = true := decide_eq_true hz0
    have t1 : decide (z > 0) = true := decide_eq_true hz0
    obtain rfl : rz = false := by
      rw [← HRZ.out]; unfold trightB
      rw [decide_eq_false (show ¬ looseT t 0 ≤ 0 from by rw [HZL.out]; omega)]; simp
    clear hz0
    go_wp2_with fail
    go_ret
    exact ⟨rfl, HB2.out⟩
  · have t0 : decide ((0 : Int) < z) = false := decide_eq_false hz0
    have t1 : decide (z > 0) = false := decide_eq_false hz0
    have HC := Lib.hid (show looseT t 0 ≤ 0 from by rw [HZL.out]; omega)
    clear hz0
    go_wp2_with fail
    refine (DN.out _ HB2.out).mono ?_
    rintro e w3 ⟨a, c, rfl, hrow, hb3⟩
    have HR := Lib.hid hrow
    have HB3 := Lib.hid (HB2.out.trans (hb3.mono HB2.out.size))
    have hl9 : (l.length : Int) ≤ 8192 := by have := DLN.out; omega
    clear hrow hb3 hc0 hc1 hc2 DN DL
    go_wp2_with fail
    go_loopw [8] (fun iv wr => ∃ i : Nat, i ≤ l.length ∧ iv = .int .i64 i ∧ Below w3.heap.size w3 wr ∧ Hid (∀ j (h : j < l.length), j < i → l[j] < m)) (fun iv _ => l.length - (intOf iv).toNat)
    case atStart => exact ⟨0, Nat.zero_le _, rfl, Below.refl _ _, Lib.hid (fun j h hj => by omega)⟩
    case round =>
      obtain ⟨i, hi1, rfl, hB, HQ⟩ := hrel
      have HBF := Lib.hid (HB3.out.trans (hB.mono HB3.out.size))
      have HBR := Lib.hid hB
      by_cases hil : i < l.length
      · obtain ⟨b1, e1, hb1, k1⟩ := HR.out (by omega)
        subst e1
        obtain ⟨x, hx⟩ : ∃ x, l[i]'hil = x := ⟨_, rfl⟩
        have g1 := (hB.cell (p := ⟨b1, 0 + i, none⟩) hb1).trans (k1 i hil)
        rw [hx, Nat.zero_add] at g1
        have HY := Lib.hid (fun (h : m ≤ x) => (show trightB t 0 m = false from by
          unfold trightB
          have hm : x ∈ colT entK t := by rw [← HTK.out]; exact (HSM.out x).1 (by rw [← hx]; exact List.getElem_mem hil)
          have : ((colT entK t).all fun z => decide (z < m)) = false := by
            cases e : ((colT entK t).all fun z => decide (z < m)) with
            | false => rfl
            | true => exact absurd (of_decide_eq_true (List.all_eq_true.1 e x hm)) (by omega)
          rw [this]; simp))
        have HNX := Lib.hid (fun (h : ¬ m ≤ x) j (hj : j < l.length) (h2 : j < i + 1) => (show l[j] < m from by
          rcases Nat.lt_or_eq_of_le (Nat.le_of_lt_succ h2) with h3 | h3
          · exact HQ.out j hj h3
          · subst h3; rw [hx]; omega))
        have hi1' : (i : Int) < (l.length : Int) := by omega
        have hi0' : (0 : Int) ≤ (i : Int) := by omega
        have HIL := Lib.hid hil
        clear k1 hx hil hB
        by_cases hxz : m ≤ x
        · have q0 : decide ((m : Int) ≤ x) = true := decide_eq_true hxz
          have q1 : decide (x ≥ m) = true := decide_eq_true hxz
          obtain rfl : rz = false := by rw [← HRZ.out]; exact HY.out hxz
          clear hxz
          go_wp2_with fail
          go_ret
          exact ⟨rfl, HBF.out⟩
        · have q0 : decide ((m : Int) ≤ x) = false := decide_eq_false hxz
          have q1 : decide (x ≥ m) = false := decide_eq_false hxz
          have HNN := Lib.hid (HNX.out hxz)
          clear hxz HNX
          go_wp2_with fail
          go_roundw
          case rel => exact ⟨i + 1, by have := HIL.out; omega, by go_num, HBR.out, Lib.hid HNN.out⟩
          case measure => have := HIL.out; simp [intOf]; omega
      · have hge : ¬ (i : Int) < (l.length : Int) := by omega
        obtain rfl : rz = true := by
          rw [← HRZ.out]; unfold trightB
          rw [HBT.out, decide_eq_true HC.out, decide_eq_true (Int.le_refl 0)]
          simp only [Bool.true_and]
          rw [List.all_eq_true]
          intro z hz
          rw [← HTK.out] at hz
          obtain ⟨j, hj, e⟩ := List.getElem_of_mem ((HSM.out z).2 hz)
          exact decide_eq_true (by rw [← e]; exact HQ.out j hj (by omega))
        clear hil
        go_wp2_with fail
        go_ret
        exact ⟨rfl, HBF.out⟩

/-- Is a term closed, with so many entries? -/
def closedE (t : TM) (m : Int) : Bool := trightB t 0 m && decide ((numsL [8] t).length = 0)
theorem right_shaped {t : TM} {n m : Int} (h : trightB t n m = true) : shapedB t = true := by
  unfold trightB at h
  simp only [Bool.and_eq_true] at h
  exact h.2.1
theorem closed_shaped {t : TM} {m : Int} (h : closedE t m = true) : shapedB t = true := by
  unfold closedE at h
  rw [Bool.and_eq_true] at h
  exact right_shaped h.1
theorem nums8_len (t : TM) : (numsL [8] t).length ≤ 8192 := by
  unfold numsL
  split
  case isTrue h => exact Nat.le_trans (setL_length_le _) (Nat.le_trans (colL_len _ t) (shapedB_true.1 h).1)
  case isFalse => simp
theorem one8_is : twoK 8 8 = fun k => ([8] : List Int).contains k := by
  funext k
  unfold twoK
  rw [Bool.eq_iff_iff]
  simp
def RowOut (l : List Int) (w : World) (e : Ending) (w' : World) : Prop := ∃ a c, e = .returned (.slice a l.length c) ∧ Below w.heap.size w w'
theorem NumsIs.out {l l' : List Int} {w : World} {e : Ending} {w' : World} (h : NumsIs l w e w') (hl : l = l') : RowOut l' w e w' := by
  subst hl
  obtain ⟨v, rfl, h1, h2⟩ := h
  obtain ⟨a, c, rfl⟩ := own_sliceM h1
  exact ⟨a, c, rfl, h2⟩

set_option maxHeartbeats 2000000 in
theorem closed_any (t : TM) (m : Int) (lo hi : Nat) (A : Option Addr) (cap : Nat) (w : World) (h : IsTerm w lo hi t A cap) (hhi : hi ≤ w.heap.size) (hS : ShapesM w) :
    Calls Tryz.prog 40 #[termV t A cap, .int .i64 m] w fun e w' => e = .returned (.bool (closedE t m)) ∧ Below w.heap.size w w' := by
  have HW := Lib.hid (show Below w.heap.size w (w.alloc (.cells #[.int .i64 t.k, .int .i64 t.n, .slice A t.l.length cap] 31)) from (Below.refl _ _).alloc (Nat.le_refl _) _)
  have KB := Lib.hid (fun (V : World) (hV : Below (w.alloc (.cells #[.int .i64 t.k, .int .i64 t.n, .slice A t.l.length cap] 31)).heap.size (w.alloc (.cells #[.int .i64 t.k, .int .i64 t.n, .slice A t.l.length cap] 31)) V) => (show Bk V w.heap.size 31 #[.int .i64 t.k, .int .i64 t.n, .slice A t.l.length cap] from (Bk.new w 31 _).below hV (by simp)))
  have CS := Lib.hid (tRight_any t 0 m lo hi A cap (w.alloc (.cells #[.int .i64 t.k, .int .i64 t.n, .slice A t.l.length cap] 31)) (h.kept HW.out hhi) (by simp; omega) (hS.kept HW.out))
  obtain ⟨bt, hbt⟩ : ∃ b, trightB t 0 m = b := ⟨_, rfl⟩
  rw [hbt] at CS
  have HSH := Lib.hid (fun (hb : bt = true) => right_shaped (hbt.trans hb))
  have CN := Lib.hid (fun (hb : bt = true) (V : World) (hV : Below w.heap.size w V) => (frees_any t lo hi A cap V (h.kept hV hhi) (by have := hV.size; omega) (hS.kept hV)).mono fun e w' q => (show RowOut (numsL [8] t) V e w' from q.out rfl))
  obtain ⟨rz, hrz⟩ : ∃ r, closedE t m = r := ⟨_, rfl⟩
  rw [hrz]
  have HRZ := Lib.hid hrz
  have HBT := Lib.hid hbt
  have hlen : (numsL [8] t).length ≤ 8192 := nums8_len t
  have HN8 := Lib.hid (show trightB t 0 m = true → closedE t m = decide ((numsL [8] t).length = 0) from fun q => by unfold closedE; rw [q, Bool.true_and])
  obtain ⟨l, hl⟩ : ∃ l, numsL [8] t = l := ⟨_, rfl⟩
  rw [hl] at CN hlen HN8
  unfold termV at CS CN ⊢
  clear h hhi hbt hrz hl hS
  go_enter Tryz.func40, Tryz.ntmps40
  go_wp2_with fail
  refine CS.out.mono ?_
  rintro e w1 ⟨rfl, hb1⟩
  have HB1 := Lib.hid (HW.out.trans (hb1.mono (by simp)))
  have k1 := KB.out _ hb1
  have hc0 : w1.cell? ⟨w.heap.size, 0, none⟩ = some (.int .i64 t.k) := k1.cell 0
  have hc1 : w1.cell? ⟨w.heap.size, 1, none⟩ = some (.int .i64 t.n) := k1.cell 1
  have hc2 : w1.cell? ⟨w.heap.size, 2, none⟩ = some (.slice A t.l.length cap) := k1.cell 2
  clear hb1 k1 CS
  cases bt with
  | false =>
    obtain rfl : rz = false := by rw [← HRZ.out]; unfold closedE; rw [HBT.out]; rfl
    go_wp2_with fail
    go_ret
    exact ⟨rfl, HB1.out⟩
  | true =>
  have DN := Lib.hid (CN.out rfl)
  have HE := Lib.hid (HRZ.out.symm.trans (HN8.out HBT.out))
  clear CN HN8 HRZ
  go_wp2_with fail
  refine (DN.out _ HB1.out).mono ?_
  rintro e w2 ⟨a, c, rfl, hb2⟩
  have HB2 := Lib.hid (HB1.out.trans (hb2.mono HB1.out.size))
  clear hb2
  by_cases hz : l.length = 0
  · have t0 : ((l.length : Int) == 0) = true := by simpa using hz
    obtain rfl : rz = true := by rw [HE.out, decide_eq_true hz]
    clear hz
    go_wp2_with fail
    go_ret
    exact ⟨rfl, HB2.out⟩
  · have t0 : ((l.length : Int) == 0) = false := by simpa using hz
    obtain rfl : rz = false := by rw [HE.out, decide_eq_false hz]
    clear hz
    go_wp2_with fail
    go_ret
    exact ⟨rfl, HB2.out⟩

set_option maxHeartbeats 2000000 in
theorem rclosed_any (t : TM) (m : Int) (lo hi : Nat) (A : Option Addr) (cap : Nat) (w : World) (h : IsTerm w lo hi t A cap) (hhi : hi ≤ w.heap.size) (hS : ShapesM w) :
    Calls Tryz.prog 33 #[termV t A cap, .int .i64 m] w fun e w' => e = .returned (.bool (closedE t m)) ∧ Below w.heap.size w w' := by
  have HW := Lib.hid (show Below w.heap.size w (w.alloc (.cells #[.int .i64 t.k, .int .i64 t.n, .slice A t.l.length cap] 31)) from (Below.refl _ _).alloc (Nat.le_refl _) _)
  have KB := Lib.hid (fun (V : World) (hV : Below (w.alloc (.cells #[.int .i64 t.k, .int .i64 t.n, .slice A t.l.length cap] 31)).heap.size (w.alloc (.cells #[.int .i64 t.k, .int .i64 t.n, .slice A t.l.length cap] 31)) V) => (show Bk V w.heap.size 31 #[.int .i64 t.k, .int .i64 t.n, .slice A t.l.length cap] from (Bk.new w 31 _).below hV (by simp)))
  have CS := Lib.hid (rrightP_any t m lo hi A cap (w.alloc (.cells #[.int .i64 t.k, .int .i64 t.n, .slice A t.l.length cap] 31)) (h.kept HW.out hhi) (by simp; omega))
  obtain ⟨bt, hbt⟩ : ∃ b, trightB t 0 m = b := ⟨_, rfl⟩
  rw [hbt] at CS
  have HSH := Lib.hid (fun (hb : bt = true) => right_shaped (hbt.trans hb))
  have CN := Lib.hid (fun (hb : bt = true) (V : World) (hV : Below w.heap.size w V) => (refNums_any 8 8 t lo hi A cap V (h.kept hV hhi) (by have := hV.size; omega) (shapedB_true.1 (right_shaped (hbt.trans hb))).1).mono fun e w' q => (show RowOut (numsL [8] t) V e w' from q.out (by unfold numsL; rw [right_shaped (hbt.trans hb), one8_is]; rfl)))
  obtain ⟨rz, hrz⟩ : ∃ r, closedE t m = r := ⟨_, rfl⟩
  rw [hrz]
  have HRZ := Lib.hid hrz
  have HBT := Lib.hid hbt
  have hlen : (numsL [8] t).length ≤ 8192 := nums8_len t
  have HN8 := Lib.hid (show trightB t 0 m = true → closedE t m = decide ((numsL [8] t).length = 0) from fun q => by unfold closedE; rw [q, Bool.true_and])
  obtain ⟨l, hl⟩ : ∃ l, numsL [8] t = l := ⟨_, rfl⟩
  rw [hl] at CN hlen HN8
  unfold termV at CS CN ⊢
  clear h hhi hbt hrz hl hS
  go_enter Tryz.func33, Tryz.ntmps33
  go_wp2_with fail
  refine CS.out.mono ?_
  rintro e w1 ⟨rfl, hb1⟩
  have HB1 := Lib.hid (HW.out.trans (hb1.mono (by simp)))
  have k1 := KB.out _ hb1
  have hc0 : w1.cell? ⟨w.heap.size, 0, none⟩ = some (.int .i64 t.k) := k1.cell 0
  have hc1 : w1.cell? ⟨w.heap.size, 1, none⟩ = some (.int .i64 t.n) := k1.cell 1
  have hc2 : w1.cell? ⟨w.heap.size, 2, none⟩ = some (.slice A t.l.length cap) := k1.cell 2
  clear hb1 k1 CS
  cases bt with
  | false =>
    obtain rfl : rz = false := by rw [← HRZ.out]; unfold closedE; rw [HBT.out]; rfl
    go_wp2_with fail
    go_ret
    exact ⟨rfl, HB1.out⟩
  | true =>
  have DN := Lib.hid (CN.out rfl)
  have HE := Lib.hid (HRZ.out.symm.trans (HN8.out HBT.out))
  clear CN HN8 HRZ
  go_wp2_with fail
  refine (DN.out _ HB1.out).mono ?_
  rintro e w2 ⟨a, c, rfl, hb2⟩
  have HB2 := Lib.hid (HB1.out.trans (hb2.mono HB1.out.size))
  clear hb2
  by_cases hz : l.length = 0
  · have t0 : ((l.length : Int) == 0) = true := by simpa using hz
    obtain rfl : rz = true := by rw [HE.out, decide_eq_true hz]
    clear hz
    go_wp2_with fail
    go_ret
    exact ⟨rfl, HB2.out⟩
  · have t0 : ((l.length : Int) == 0) = false := by simpa using hz
    obtain rfl : rz = false := by rw [HE.out, decide_eq_false hz]
    clear hz
    go_wp2_with fail
    go_ret
    exact ⟨rfl, HB2.out⟩

end Go.Proofs.YtcbbaognomddkaaGreatDoor
