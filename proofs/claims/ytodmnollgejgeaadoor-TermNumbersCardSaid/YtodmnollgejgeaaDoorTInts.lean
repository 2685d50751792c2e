/- scholiumref01.SameInts over two rows of numbers that are equal: it answers true. -/
import Derived.Test.YtodmnollgejgeaaDoorTPutW
import Derived.RegionTactic
namespace Go.Proofs.YtodmnollgejgeaaDoor
open Go.RowKit
set_option linter.unusedVariables false
set_option maxRecDepth 100000

theorem sameInts_any (l : List Int) (a1 a2 : Option Addr) (c1 c2 : Nat) (w : World) (hl : l.length ≤ 9223372036854775807) (h1 : RowAt w a1 l) (h2 : RowAt w a2 l) :
    Calls Tryd.prog 18 #[.slice a1 l.length c1, .slice a2 l.length c2] w fun e w' => e = .returned (.bool true) ∧ Below w.heap.size w w' := by
  have H1 := Lib.hid h1
  have H2 := Lib.hid h2
  clear h1 h2
  obtain ⟨n, hn⟩ : ∃ n, l.length = n := ⟨_, rfl⟩
  rw [hn] at hl ⊢
  have HN := Lib.hid hn
  clear hn
  go_enter Tryd.func18, Tryd.ntmps18
  go_wp2_with fail
  go_loopw [5] (fun i wr => ∃ j : Nat, j ≤ n ∧ i = .int .i64 j ∧ Below w.heap.size w wr) (fun i _ => n - (intOf i).toNat)
  case atStart => exact ⟨0, Nat.zero_le _, rfl, Below.refl _ _⟩
  case round =>
    obtain ⟨j, hj, rfl, hB⟩ := hrel
    by_cases hlt : j < n
    · have hn := HN.out
      obtain ⟨b1, e1, hb1, k1⟩ := H1.out (by omega)
      obtain ⟨b2, e2, hb2, k2⟩ := H2.out (by omega)
      subst e1
      subst e2
      have hjl : j < l.length := by omega
      obtain ⟨x, hx⟩ : ∃ x, l[j] = x := ⟨_, rfl⟩
      have g1 := (hB.cell (p := ⟨b1, 0 + j, none⟩) hb1).trans (k1 j hjl)
      have g2 := (hB.cell (p := ⟨b2, 0 + j, none⟩) hb2).trans (k2 j hjl)
      rw [hx, Nat.zero_add] at g1 g2
      clear k1 k2 hx hjl hn
      go_wp2_with fail
      go_region
      all_goals
        go_wp2_with fail
        go_roundw
        case rel => exact ⟨j + 1, by omega, by go_num, hB.drew⟩
        case measure => simp [intOf]; omega
    · go_wp2_with fail
      go_ret
      exact ⟨rfl, hB⟩

end Go.Proofs.YtodmnollgejgeaaDoor
