/- subst.shaped, subst.first. -/
import Derived.Test.YtcobionbgiaomaaDoorUChg
import Derived.Test.YtcobionbgiaomaaDoorUFair
namespace Go.Proofs.YtcobionbgiaomaaDoor
open Go.RowKit
set_option linter.unusedVariables false
set_option maxRecDepth 100000

def ShpRel (w : World) (ls : List TM) (iv : Value) (wr : World) : Prop := ∃ i : Nat, i ≤ ls.length ∧ iv = .int .i64 i ∧ Below w.heap.size w wr ∧ (ls.take i).all shapedB = true
set_option maxHeartbeats 1000000 in
theorem sshaped_any (ls : List TM) (lo hi : Nat) (A : Option Addr) (cap : Nat) (w : World) (h : IsTerm w lo hi (.node 0 0 ls) A cap) (hhi : hi ≤ w.heap.size) (hS : ShapesM w) :
    Calls Tryd.prog 31 #[.slice A ls.length cap] w fun e w' => e = .returned (.bool (ls.all shapedB)) ∧ Below w.heap.size w w' := by
  have HN := Lib.hid h.sub
  have HSS := Lib.hid hS
  obtain ⟨hl, hm⟩ := h.bounds
  unfold maxLen at hm
  clear h hS
  go_enter Tryd.func31, Tryd.ntmps31
  go_wp2_with fail
  go_loopw [7] (ShpRel w ls) (fun iv _ => ls.length - (intOf iv).toNat)
  case atStart => exact ⟨0, Nat.zero_le _, rfl, Below.refl _ _, rfl⟩
  case round =>
    obtain ⟨i, hi1, rfl, hB, hall⟩ := hrel
    have hz := hB.size
    by_cases hil : i < ls.length
    · obtain ⟨b, o, F, C, rfl, hb1, hb2, hx, hnode⟩ := (HN.out i hil).kept hB hhi
      obtain ⟨x0, x1, x2⟩ := hx
      have hst : (ls.take (i + 1)).all shapedB = shapedB ls[i] := by
        rw [List.take_succ_eq_append_getElem hil, List.all_append, hall]; simp
      have hno : shapedB ls[i] = false → ls.all shapedB = false := fun h => by
        cases e : ls.all shapedB with
        | false => rfl
        | true =>
          rw [List.all_eq_true] at e
          have := e _ (List.getElem_mem hil)
          rw [h] at this; cases this
      obtain ⟨u, hu⟩ : ∃ u, ls[i] = u := ⟨_, rfl⟩
      rw [hu] at hst hno hnode x0 x1 x2
      have HC := Lib.hid (shaped_any u lo hi F C (wr.alloc (.cells #[.int .i64 u.k, .int .i64 u.n, .slice F u.l.length C] 24)) (hnode.alloc (by omega) _) (by simp; omega) (HSS.out.kept (hB.alloc hz _)))
      obtain ⟨bx, hbx⟩ : ∃ bx, shapedB u = bx := ⟨_, rfl⟩
      rw [hbx] at hst hno HC
      have HST := Lib.hid hst
      have HNO := Lib.hid hno
      have HBW := Lib.hid (hB.alloc hz (.cells #[.int .i64 u.k, .int .i64 u.n, .slice F u.l.length C] 24))
      have hi1' : (i : Int) < (ls.length : Int) := by omega
      unfold termV at HC
      clear hst hno hbx hu hall hnode
      go_wp2_with fail
      refine HC.out.mono ?_
      rintro e w1 ⟨rfl, hb1⟩
      have HB1 := Lib.hid (HBW.out.trans (hb1.mono (by simp; omega)))
      clear hb1
      cases bx with
      | false =>
        have HF := Lib.hid (HNO.out rfl)
        go_wp2_with fail
        go_ret
        exact ⟨by rw [HF.out]; rfl, HB1.out⟩
      | true =>
        go_wp2_with fail
        go_roundw
        case rel => exact ⟨i + 1, by omega, rfl, HB1.out, HST.out⟩
        case measure => simp [intOf]; omega
    · obtain rfl : i = ls.length := by omega
      rw [List.take_length] at hall
      have HA := Lib.hid hall
      clear hall
      go_wp2_with fail
      go_ret
      exact ⟨by rw [HA.out]; rfl, hB⟩

theorem sfirst_any (A : Option Addr) (n cap : Nat) (w : World) : Calls Tryd.prog 33 #[.slice A n cap] w fun e w' => e = .returned (.func (.func 55) #[] #[.pointer (some ⟨w.heap.size, 0, none⟩)]) ∧ w' = w.alloc (.cells #[.slice A n cap] 22) := by
  go_enter Tryd.func33, Tryd.ntmps33
  go_wp2_with fail
  go_ret
  exact ⟨rfl, rfl⟩

end Go.Proofs.YtcobionbgiaomaaDoor
