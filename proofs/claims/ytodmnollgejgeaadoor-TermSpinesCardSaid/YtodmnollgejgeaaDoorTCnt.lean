/- term.count. -/
import Derived.Test.YtodmnollgejgeaaDoorTRose
import Derived.LoopTactic
import Derived.LoopN
import Derived.RegionTactic
namespace Go.Proofs.YtodmnollgejgeaaDoor
open Go.RowKit
set_option linter.unusedVariables false

theorem tcount_any : ∀ (t : TM) (c lo hi : Nat) (A : Option Addr) (cap : Nat) (w : World), IsTerm w lo hi t A cap → hi ≤ w.heap.size → c ≤ 8192 →
    Calls Tryd.prog 73 #[termV t A cap, .int .i64 (c : Int)] w fun e w' => e = .returned (.int .i64 (topN (c + t.size) : Int)) ∧ Below w.heap.size w w' := by
  intro t
  induction t using TM.ind with
  | h k n l ih =>
    intro c lo hi A cap w h hhi hcl
    obtain ⟨hl, hm⟩ := h.bounds
    have IH := Lib.hid ih
    have HN := Lib.hid h.sub
    unfold maxLen at hm
    clear ih h
    rw [termV_node, tsize_node]
    go_enter Tryd.func73, Tryd.ntmps73
    go_wp2_with fail
    go_loopw [1, 12] (fun cv iv wr => ∃ i : Nat, i ≤ l.length ∧ iv = .int .i64 i ∧ cv = .int .i64 (topN (c + 1 + sizeM (l.take i)) : Int) ∧ Below w.heap.size w wr)
      (fun _ iv _ => l.length - (intOf iv).toNat)
    case atStart => exact ⟨0, Nat.zero_le _, rfl, int_of (by rw [List.take_zero, sizeM_nil, topN_one hcl]; omega), (Below.refl _ _).alloc (Nat.le_refl _) _⟩
    case round =>
      obtain ⟨i, hi1, rfl, rfl, hB⟩ := hrel
      have hz := hB.size
      by_cases hil : i < l.length
      · obtain ⟨b, o, F, C, rfl, hb1, hb2, hx, hnode⟩ := (HN.out i hil).kept hB hhi
        obtain ⟨x0, x1, x2⟩ := hx
        have hsn := Lib.hid (sizeM_snoc hil)
        have hmem : l[i] ∈ l := List.getElem_mem hil
        obtain ⟨q, hq⟩ : ∃ q, topN (c + 1 + sizeM (l.take i)) = q := ⟨_, rfl⟩
        rw [hq]
        have HQ := Lib.hid hq
        clear hq HN
        by_cases hb : 8192 < q
        · go_wp2_with fail
          go_ret
          have h2 := sizeM_take_le l i
          have h3 : q = topN (c + (sizeM l + 1)) := by rw [← HQ.out] at hb ⊢; exact topN_stop hb (by omega)
          exact ⟨ret_nat h3, hB.alloc hz _⟩
        · have hr := IH.out l[i] hmem q lo hi F C
          have HR := Lib.hid hr
          clear hr
          go_wp2_with fail
          refine (HR.out _ (hnode.alloc (by omega) _) (by simp; omega) (by omega)).mono ?_
          rintro e w1 ⟨rfl, hb1⟩
          have hB1 := (hB.alloc hz _).trans (hb1.mono (by simp; omega))
          go_wp2_with fail
          go_roundw
          case rel =>
            refine ⟨i + 1, by omega, rfl, int_nat ?_, hB1⟩
            rw [hsn.out, ← HQ.out, topN_add]
            congr 1; omega
          case measure => simp [intOf]; omega
      · obtain rfl : i = l.length := by omega
        rw [List.take_length]
        clear HN IH
        go_wp2_with fail
        go_ret
        exact ⟨ret_nat (by congr 1; omega), hB⟩

end Go.Proofs.YtodmnollgejgeaaDoor
