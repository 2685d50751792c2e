/- scholiumref07.Equal: is all the same? -/
import Derived.Test.YtofmoggjpgjdgaaDoorTSame
import Derived.Deep.RegionHeld3
import Derived.Deep.QuietTactic
import Derived.BigQuiet
namespace Go.Proofs.YtofmoggjpgjdgaaDoor
open Go.RowKit
set_option linter.unusedVariables false
set_option maxRecDepth 100000

set_option maxHeartbeats 4000000 in
theorem refEqual_any : ∀ (t u : TM) (lo hi lo' hi' : Nat) (A A' : Option Addr) (cap cap' : Nat) (w : World), IsTerm w lo hi t A cap → IsTerm w lo' hi' u A' cap' → hi ≤ w.heap.size → hi' ≤ w.heap.size →
    Calls Tryd.prog 17 #[termV t A cap, termV u A' cap'] w fun e w' => e = .returned (.bool (alikeT t u)) ∧ Below w.heap.size w w' := by
  intro t
  induction t using TM.ind with
  | h k n l ih =>
    rintro ⟨k', n', l'⟩ lo hi lo' hi' A A' cap cap' w h h' hhi hhi'
    obtain ⟨hl, hm⟩ := h.bounds
    obtain ⟨hl', hm'⟩ := h'.bounds
    have IH := Lib.hid ih
    have HN : Hid (TermsAt w lo hi A l) := Lib.hid h.sub
    have HN' : Hid (TermsAt w lo' hi' A' l') := Lib.hid h'.sub
    unfold maxLen at hm hm'
    clear ih h h'
    rw [termV_node, termV_node, alikeT_node]
    have hW2 : ∀ o1 o2, Below w.heap.size w ((w.alloc o1).alloc o2) := fun o1 o2 => ((Below.refl _ _).alloc (Nat.le_refl _) _).alloc (by simp) _
    have HW2 := Lib.hid hW2
    clear hW2
    by_cases hk : k = k'
    case neg =>
      rw [decide_eq_false hk, Bool.false_and]
      have t0 : (k != k') = true := by simpa using hk
      clear hk
      go_enter Tryd.func17, Tryd.ntmps17
      go_wp2_with fail
      go_ret
      exact ⟨rfl, HW2.out _ _⟩
    rw [decide_eq_true hk, Bool.true_and]
    have t0 : (k != k') = false := by simpa using hk
    by_cases hn : n = n'
    case neg =>
      rw [decide_eq_false hn, Bool.false_and]
      have t2 : (n != n') = true := by simpa using hn
      clear hk hn
      go_enter Tryd.func17, Tryd.ntmps17
      go_wp2_with fail
      go_ret
      exact ⟨rfl, HW2.out _ _⟩
    rw [decide_eq_true hn, Bool.true_and]
    have t2 : (n != n') = false := by simpa using hn
    clear hk hn
    by_cases hlen : l.length = l'.length
    case neg =>
      rw [pairsM_len hlen]
      have t3 : ((l.length : Int) != (l'.length : Int)) = true := by simp; omega
      clear hlen IH HN HN'
      go_enter Tryd.func17, Tryd.ntmps17
      go_wp2_with fail
      go_ret
      exact ⟨rfl, HW2.out _ _⟩
    rw [pairsM_eq hlen]
    have HLEN := Lib.hid hlen
    have t3 : ((l.length : Int) != (l'.length : Int)) = false := by simp; omega
    clear hlen
    go_enter Tryd.func17, Tryd.ntmps17
    go_wp2_with fail
    go_loopw [5] (fun iv wr => ∃ i : Nat, i ≤ l.length ∧ iv = .int .i64 i ∧ Below w.heap.size w wr ∧
        wr.cell? ⟨w.heap.size, 2, none⟩ = some (.slice A l.length cap) ∧ wr.cell? ⟨w.heap.size + 1, 2, none⟩ = some (.slice A' l'.length cap') ∧ w.heap.size + 1 < wr.heap.size ∧ Hid (allB (pairTm alikeT l l') i = true))
      (fun iv _ => l.length - (intOf iv).toNat)
    case atStart => exact ⟨0, Nat.zero_le _, rfl, HW2.out _ _, by simp, by simp, by simp, Lib.hid rfl⟩
    case round =>
      obtain ⟨i, hi1, rfl, hB, z4, z4', hlt, HQ⟩ := hrel
      have hz := hB.size
      by_cases hil : i < l.length
      · have hil' : i < l'.length := by have := HLEN.out; omega
        obtain ⟨b, o, F, C, hA, hb1, hb2, hx, hnode⟩ := (HN.out i hil).kept hB hhi
        obtain ⟨x0, x1, x2⟩ := hx
        obtain ⟨b', o', F', C', hA', hb1', hb2', hx', hnode'⟩ := (HN'.out i hil').kept hB hhi'
        obtain ⟨y0, y1, y2⟩ := hx'
        subst hA
        subst hA'
        have HNX := Lib.hid (show allB (pairTm alikeT l l') (i + 1) = alikeT l[i] l'[i] by rw [allB, HQ.out, Bool.true_and, pairTm_of alikeT hil hil'])
        have HNO : Hid (alikeT l[i] l'[i] = false → allB (pairTm alikeT l l') l.length = false) := Lib.hid (fun h => allB_noM hil (by rw [pairTm_of alikeT hil hil']; exact h))
        have HIH := Lib.hid (IH.out l[i] (List.getElem_mem hil) l'[i] lo hi lo' hi' F F' C C')
        have hi0' : (i : Int) < (l.length : Int) := by omega
        have hi0'' : (i : Int) < (l'.length : Int) := by omega
        have hi00 : (0 : Int) ≤ (i : Int) := by omega
        have HB := Lib.hid hB
        clear hB
        obtain ⟨v, hv⟩ : ∃ v, alikeT l[i] l'[i] = v := ⟨_, rfl⟩
        rw [hv] at HIH HNX HNO
        clear hv
        go_wp2_with fail
        go_region_held3 (fun w' => w'.cell? ⟨w.heap.size, 2, none⟩ = some (.slice (some ⟨b, o, none⟩) l.length cap) ∧ w'.cell? ⟨w.heap.size + 1, 2, none⟩ = some (.slice (some ⟨b', o', none⟩) l'.length cap') ∧
                w'.cell? ⟨b, o + i * 3, none⟩ = some (.int .i64 l[i].k) ∧ w'.cell? ⟨b, o + i * 3 + 1, none⟩ = some (.int .i64 l[i].n) ∧ w'.cell? ⟨b, o + i * 3 + 2, none⟩ = some (.slice F l[i].l.length C) ∧
                w'.cell? ⟨b', o' + i * 3, none⟩ = some (.int .i64 l'[i].k) ∧ w'.cell? ⟨b', o' + i * 3 + 1, none⟩ = some (.int .i64 l'[i].n) ∧ w'.cell? ⟨b', o' + i * 3 + 2, none⟩ = some (.slice F' l'[i].l.length C'))
              (first | go_keep | (refine ⟨?_, ?_, ?_, ?_, ?_, ?_, ?_, ?_⟩ <;> ((rw [hb3.cell (by show _ < _; simp; omega)]; assumption))))
              (first | (go_at_call 17; refine (HIH.out _ (hnode.kept ((Below.refl _ _).drew) (by omega)) (hnode'.kept ((Below.refl _ _).drew) (by omega)) (by simp; omega) (by simp; omega)).mono ?_; rintro e w3 ⟨rfl, hb3⟩))
        have hc3 : ∀ g q, g < wr.heap.size → w3.cell? ⟨g, q, none⟩ = wr.cell? ⟨g, q, none⟩ := fun g q hg => hb3.cell (p := ⟨g, q, none⟩) hg
        have HY := Lib.hid ((hc3 w.heap.size 2 (by omega)).trans z4)
        have HY' := Lib.hid ((hc3 (w.heap.size + 1) 2 (by omega)).trans z4')
        have HLT := Lib.hid (Nat.lt_of_lt_of_le hlt hb3.size)
        have HB3 := Lib.hid (HB.out.drew.trans (hb3.mono hz))
        clear hc3 hb3
        cases v with
        | true =>
          go_wp2_with fail
          go_roundw
          case rel => exact ⟨i + 1, by omega, rfl, HB3.out, HY.out, HY'.out, HLT.out, HNX⟩
          case measure => simp [intOf]; omega
        | false =>
          have HN2 := Lib.hid (HNO.out rfl)
          clear HNO
          go_wp2_with fail
          go_ret
          exact ⟨by rw [HN2.out]; rfl, HB3.out⟩
      · obtain rfl : i = l.length := by omega
        go_wp2_with fail
        go_ret
        exact ⟨by rw [HQ.out]; rfl, hB⟩

end Go.Proofs.YtofmoggjpgjdgaaDoor
