/- The document's Formed. -/
import Derived.Test.YtcbbaognomddkaaGreatDoorSgREnt
import Derived.Test.YtcbbaognomddkaaGreatDoorS7
namespace Go.Proofs.YtcbbaognomddkaaGreatDoor
open Go.RowKit
set_option linter.unusedVariables false
set_option maxRecDepth 100000

set_option maxHeartbeats 4000000 in
theorem RFormed_any (l : List ET) (A : Option Addr) (cap lo hh : Nat) (w : World) (hl : l.length ≤ 600) (hlc : l.length ≤ cap) (hn : EntsAt w lo hh A l) (hhh : hh ≤ w.heap.size) (hS : ShapesM w) :
    Calls Tryz.prog 10 #[.slice A l.length cap] w fun e w' => e = .returned (.bool (formedD l)) ∧ Below w.heap.size w w' := by
  have HN := Lib.hid hn
  have HSS := Lib.hid hS
  have CNM := Lib.hid (rnames_any l A cap lo hh w hl hn hhh)
  have CDI := Lib.hid (fun (V : World) (a : Option Addr) (c : Nat) (h : StrRow V a l.length (namesE l)) => refDistinct_any a l.length c (namesE l) V h)
  have CFO := Lib.hid (fun (i : Nat) (hi : i < l.length) (hfo : FamOk l i) (V : World) (hV : Below w.heap.size w V) => rent_any l A cap i hi lo hh V hl (hn.kept hV hhh) (by have := hV.size; omega) (hS.kept hV) hfo)
  obtain ⟨z, hz⟩ : ∃ z, formedD l = z := ⟨_, rfl⟩
  rw [hz]
  unfold formedD at hz
  have HZ := Lib.hid hz
  have hll : (l.length : Int) ≤ 600 := by omega
  clear hz hn hS hl hlc
  by_cases h256 : l.length ≤ 256
  case neg =>
    have t0 : decide ((256 : Int) < (l.length : Int)) = true := decide_eq_true (by omega)
    have t0' : decide ((l.length : Int) > 256) = true := decide_eq_true (by omega)
    have t0'' : decide (256 < l.length) = true := decide_eq_true (by omega)
    obtain rfl : z = false := by rw [← HZ.out, decide_eq_false h256]; rfl
    clear h256
    go_enter Tryz.func10, Tryz.ntmps10
    go_wp2_with fail
    go_ret
    exact ⟨rfl, Below.refl _ _⟩
  have t0 : decide ((256 : Int) < (l.length : Int)) = false := decide_eq_false (by omega)
  have t0' : decide ((l.length : Int) > 256) = false := decide_eq_false (by omega)
  have t0'' : decide (256 < l.length) = false := decide_eq_false (by omega)
  have HZ1 : Hid ((distB (namesE l) && allB (entE l) l.length) = z) := Lib.hid (by have := HZ.out; rw [decide_eq_true h256, Bool.true_and] at this; exact this)
  unfold NamesIs at CNM
  obtain ⟨rd, hrd⟩ : ∃ r, distB (namesE l) = r := ⟨_, rfl⟩
  rw [hrd] at HZ1 CDI
  clear h256 HZ hrd
  go_enter Tryz.func10, Tryz.ntmps10
  go_wp2_with fail
  refine CNM.out.mono ?_
  rintro e w1 ⟨a1, c1, rfl, hrow, hb1⟩
  have CD := Lib.hid (CDI.out w1 a1 c1 hrow)
  have HB1 := Lib.hid hb1
  clear hrow hb1 CDI CNM
  go_wp2_with fail
  refine CD.out.mono ?_
  rintro e w2 ⟨rfl, rfl⟩
  cases rd with
  | false =>
    obtain rfl : z = false := by rw [← HZ1.out]; rfl
    go_wp2_with fail
    go_ret
    exact ⟨rfl, HB1.out⟩
  | true =>
  have HZ2 : Hid (allB (entE l) l.length = z) := HZ1
  go_wp2_with fail
  go_loopw [3] (fun iv wr => ∃ i : Nat, i ≤ l.length ∧ iv = .int .i64 i ∧ Below w.heap.size w wr ∧ Hid (allB (entE l) i = true)) (fun iv _ => l.length - (intOf iv).toNat)
  case atStart => exact ⟨0, Nat.zero_le _, rfl, HB1.out, Lib.hid rfl⟩
  case round =>
    obtain ⟨i, hi1, rfl, hB, HQ⟩ := hrel
    by_cases hil : i < l.length
    · have CF := Lib.hid (CFO.out i hil (famOk_ofE HQ.out) wr hB)
      have hno : Hid (entD l i l[i] = false → z = false) := Lib.hid (fun h => by rw [← HZ2.out]; exact allB_noM hil (by rw [entE_at hil]; exact h))
      have hyes : Hid (entD l i l[i] = true → allB (entE l) (i + 1) = true) := Lib.hid (fun h => by rw [allB, HQ.out, entE_at hil, h]; rfl)
      obtain ⟨r, hr⟩ : ∃ r, entD l i l[i] = r := ⟨_, rfl⟩
      rw [hr] at CF hno hyes
      have hi0' : (i : Int) < (l.length : Int) := by omega
      have HBB := Lib.hid hB
      clear hr
      go_wp2_with fail
      refine CF.out.mono ?_
      rintro e w2 ⟨rfl, hb2⟩
      have HB2 := Lib.hid (HBB.out.trans (hb2.mono HBB.out.size))
      clear hb2
      cases r with
      | false =>
        obtain rfl : z = false := hno.out rfl
        clear hno hyes
        go_wp2_with fail
        go_ret
        exact ⟨rfl, HB2.out⟩
      | true =>
        have HY := Lib.hid (hyes.out rfl)
        clear hno hyes
        go_wp2_with fail
        go_roundw
        case rel => exact ⟨i + 1, by omega, by go_num, HB2.out, Lib.hid HY.out⟩
        case measure => simp [intOf]; omega
    · obtain rfl : i = l.length := by omega
      obtain rfl : z = true := by rw [← HZ2.out]; exact HQ.out
      go_wp2_with fail
      go_ret
      exact ⟨rfl, hB⟩

end Go.Proofs.YtcbbaognomddkaaGreatDoor
