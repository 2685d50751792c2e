/- lift.movable: are all numbers such as may be, and is the term shaped? -/
import Derived.Test.YtcobionbgiaomaaDoorLMoved
namespace Go.Proofs.YtcobionbgiaomaaDoor
open Go.RowKit
set_option linter.unusedVariables false
set_option maxRecDepth 100000

def fitsB (n : Int) : Bool := decide (0 ≤ n) && decide (n ≤ 1048576)
theorem fitsB_true {n : Int} : fitsB n = true ↔ 0 ≤ n ∧ n ≤ 1048576 := by unfold fitsB; simp
def MovableRel (w : World) (ns : List Int) (k n : Int) (v : Value) (iv : Value) (wr : World) : Prop := ∃ i : Nat, i ≤ ns.length ∧ iv = .int .i64 i ∧ Below w.heap.size w wr ∧ (ns.take i).all fitsB = true ∧ TBox wr w.heap.size k n v

set_option maxHeartbeats 1000000 in
theorem movable_any (t : TM) (lo hi : Nat) (A : Option Addr) (cap : Nat) (ns : List Int) (g c : Nat) (w : World) (h : IsTerm w lo hi t A cap) (hhi : hi ≤ w.heap.size) (hS : ShapesM w) (hn : ns.length ≤ 2) (hg : g < w.heap.size)
    (hc : ∀ i (hi : i < ns.length), w.cell? ⟨g, i, none⟩ = some (.int .i64 ns[i])) :
    Calls Tryd.prog 60 #[termV t A cap, .slice (some ⟨g, 0, none⟩) ns.length c] w fun e w' => e = .returned (.bool (ns.all fitsB && shapedB t)) ∧ Below w.heap.size w w' := by
  have HSH := Lib.hid (fun (V : World) (hV : Below w.heap.size w V) => shaped_any t lo hi A cap V (h.kept hV hhi) (by have := hV.size; omega) (hS.kept hV))
  have HC := Lib.hid hc
  have HW1 := Lib.hid (fun o1 => ((Below.refl w.heap.size w).alloc (Nat.le_refl _) o1))
  clear hc h hhi hS
  unfold termV at HSH ⊢
  go_enter Tryd.func60, Tryd.ntmps60
  go_wp2_with fail
  go_loopw [9] (MovableRel w ns t.k t.n (.slice A t.l.length cap)) (fun iv _ => ns.length - (intOf iv).toNat)
  case atStart => exact ⟨0, Nat.zero_le _, rfl, HW1.out _, rfl, TBox.of (Bk.new w 24 _)⟩
  case round =>
    obtain ⟨i, hi, rfl, hB, hall, htb⟩ := hrel
    by_cases hil : i < ns.length
    · have hx := HC.out i hil
      have hst : (ns.take (i + 1)).all fitsB = fitsB ns[i] := by
        rw [List.take_succ_eq_append_getElem hil, List.all_append, hall]; simp
      have hno : fitsB ns[i] = false → (ns.all fitsB && shapedB t) = false := fun h => by
        cases e : ns.all fitsB with
        | false => rfl
        | true =>
          rw [List.all_eq_true] at e
          have := e _ (List.getElem_mem hil)
          rw [h] at this; cases this
      obtain ⟨x, hxx⟩ : ∃ x, ns[i] = x := ⟨_, rfl⟩
      rw [hxx] at hx hst hno
      have hy : wr.cell? ⟨g, i, none⟩ = some (.int .i64 x) := (hB.cell (p := ⟨g, i, none⟩) hg).trans hx
      have HST := Lib.hid hst
      have HNO := Lib.hid hno
      have HTB := Lib.hid htb
      have HB := Lib.hid hB
      clear hx hst hno hxx htb hall
      by_cases h0 : x < 0
      · have hf : fitsB x = false := by unfold fitsB; rw [decide_eq_false (show ¬ 0 ≤ x by omega)]; rfl
        have HF := Lib.hid (HNO.out hf)
        clear hf
        go_wp2_with fail
        go_ret
        exact ⟨by rw [HF.out]; rfl, HB.out⟩
      · by_cases h1 : 1048576 < x
        · have hf : fitsB x = false := by unfold fitsB; rw [decide_eq_false (show ¬ x ≤ 1048576 by omega)]; simp
          have HF := Lib.hid (HNO.out hf)
          clear hf
          go_wp2_with fail
          go_ret
          exact ⟨by rw [HF.out]; rfl, HB.out⟩
        · have hf : fitsB x = true := fitsB_true.2 ⟨by omega, by omega⟩
          have HF := Lib.hid (HST.out.trans hf)
          clear hf
          go_wp2_with fail
          go_roundw
          case rel => exact ⟨i + 1, by omega, by go_num, HB.out, HF.out, HTB.out⟩
          case measure => simp [intOf]; omega
    · obtain rfl : i = ns.length := by omega
      rw [List.take_length] at hall
      obtain ⟨x0, x1, x2, xl⟩ := htb
      have HB := Lib.hid hB
      have HA := Lib.hid hall
      clear hall hB
      go_wp2_with fail
      refine (HSH.out _ HB.out).mono ?_
      rintro e w2 ⟨rfl, hb2⟩
      go_wp2_with fail
      go_ret
      exact ⟨by rw [HA.out, Bool.true_and]; rfl, HB.out.trans (hb2.mono HB.out.size)⟩

end Go.Proofs.YtcobionbgiaomaaDoor
