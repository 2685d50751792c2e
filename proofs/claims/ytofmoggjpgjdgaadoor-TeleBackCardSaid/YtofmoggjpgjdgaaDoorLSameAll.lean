/- The document's SameAll over two lists of the same terms: it answers true. -/
import Derived.Test.YtofmoggjpgjdgaaDoorTBox
import Derived.Test.YtofmoggjpgjdgaaDoorLTerms
import Derived.Deep.RegionWith
import Derived.Deep.RegionHeld3
namespace Go.Proofs.YtofmoggjpgjdgaaDoor
open Go.RowKit
set_option linter.unusedVariables false
set_option maxRecDepth 100000

set_option maxHeartbeats 4000000 in
theorem sameAll_refl (ts : List TM) (lo hi lo' hi' : Nat) (A B : Option Addr) (cap cap' : Nat) (w : World) (h : IsTerms w lo hi ts A cap) (h' : IsTerms w lo' hi' ts B cap') (hhi : hi ≤ w.heap.size) (hhi' : hi' ≤ w.heap.size) :
    Calls Tryd.prog 16 #[.slice A ts.length cap, .slice B ts.length cap'] w fun e w' => e = .returned (.bool true) ∧ Below w.heap.size w w' := by
  obtain ⟨hl, hm⟩ := h.bounds
  have HN := Lib.hid h.sub
  have HM := Lib.hid h'.sub
  have HI1 := Lib.hid hhi
  have HI2 := Lib.hid hhi'
  unfold maxLen at hm
  clear h h' hhi hhi'
  go_enter Tryd.func16, Tryd.ntmps16
  go_wp2_with fail
  go_loopw [5] (fun iv wr => ∃ i : Nat, i ≤ ts.length ∧ iv = .int .i64 i ∧ Below w.heap.size w wr) (fun iv _ => ts.length - (intOf iv).toNat)
  case atStart => exact ⟨0, Nat.zero_le _, rfl, Below.refl _ _⟩
  case round =>
    obtain ⟨i, hi1, rfl, hB⟩ := hrel
    have hz := hB.size
    have HB := Lib.hid hB
    by_cases hil : i < ts.length
    · obtain ⟨bk, o, F, C, hA, hb1, hb2, hx, hnode⟩ := (HN.out i hil).kept hB HI1.out
      obtain ⟨ck, q, G, D, hA2, hc1, hc2, hy, hnode2⟩ := (HM.out i hil).kept hB HI2.out
      subst hA
      subst hA2
      obtain ⟨x0, x1, x2⟩ := hx
      obtain ⟨y0, y1, y2⟩ := hy
      have hi1' : (i : Int) < (ts.length : Int) := by omega
      have hi0' : (0 : Int) ≤ (i : Int) := by omega
      have hbw : bk < wr.heap.size := by have := HI1.out; omega
      have hcw : ck < wr.heap.size := by have := HI2.out; omega
      obtain ⟨u, hu⟩ : ∃ u, ts[i] = u := ⟨_, rfl⟩
      rw [hu] at hnode hnode2 x0 x1 x2 y0 y1 y2
      have HC := Lib.hid (fun (V : World) (hV : Below wr.heap.size wr V) => (refEqual_any u u lo hi lo' hi' F G C D V (hnode.kept hV (by have := HI1.out; omega)) (hnode2.kept hV (by have := HI2.out; omega)) (by have := hV.size; have := HI1.out; omega) (by have := hV.size; have := HI2.out; omega)).mono fun e w' h => And.intro (h.1.trans (by rw [alikeT_refl])) h.2)
      have HK := Lib.hid (fun (V : World) (hV : Below wr.heap.size wr V) => (show V.cell? ⟨bk, o + i * 3, none⟩ = some (.int .i64 u.k) ∧ V.cell? ⟨bk, o + i * 3 + 1, none⟩ = some (.int .i64 u.n) ∧ V.cell? ⟨bk, o + i * 3 + 2, none⟩ = some (.slice F u.l.length C) ∧ V.cell? ⟨ck, q + i * 3, none⟩ = some (.int .i64 u.k) ∧ V.cell? ⟨ck, q + i * 3 + 1, none⟩ = some (.int .i64 u.n) ∧ V.cell? ⟨ck, q + i * 3 + 2, none⟩ = some (.slice G u.l.length D) from
        ⟨(hV.cell (p := ⟨bk, o + i * 3, none⟩) hbw).trans x0, (hV.cell (p := ⟨bk, o + i * 3 + 1, none⟩) hbw).trans x1, (hV.cell (p := ⟨bk, o + i * 3 + 2, none⟩) hbw).trans x2, (hV.cell (p := ⟨ck, q + i * 3, none⟩) hcw).trans y0, (hV.cell (p := ⟨ck, q + i * 3 + 1, none⟩) hcw).trans y1, (hV.cell (p := ⟨ck, q + i * 3 + 2, none⟩) hcw).trans y2⟩))
      have hbk := Lib.hid ((Below.refl wr.heap.size wr).drew)
      unfold termV at HC
      clear hnode hnode2 hu
      go_wp2_with fail
      go_region_held3 (fun w' => w'.cell? ⟨bk, o + i * 3, none⟩ = some (.int .i64 u.k) ∧ w'.cell? ⟨bk, o + i * 3 + 1, none⟩ = some (.int .i64 u.n) ∧ w'.cell? ⟨bk, o + i * 3 + 2, none⟩ = some (.slice F u.l.length C) ∧ w'.cell? ⟨ck, q + i * 3, none⟩ = some (.int .i64 u.k) ∧ w'.cell? ⟨ck, q + i * 3 + 1, none⟩ = some (.int .i64 u.n) ∧ w'.cell? ⟨ck, q + i * 3 + 2, none⟩ = some (.slice G u.l.length D))
        (exact HK.out _ hbk.out)
        (first
        | (go_at_call 17; refine (HC.out _ hbk.out).mono ?_; rintro e wn ⟨rfl, hbn⟩; have hbk := Lib.hid (hbk.out.trans (hbn.mono hbk.out.size)); clear hbn))
      all_goals
        go_wp2_with fail
        go_roundw
        case rel => exact ⟨i + 1, by omega, by go_num, HB.out.trans (hbk.out.mono hz)⟩
        case measure => simp [intOf]; omega
    · go_wp2_with fail
      go_ret
      exact ⟨rfl, HB.out⟩

end Go.Proofs.YtofmoggjpgjdgaaDoor
