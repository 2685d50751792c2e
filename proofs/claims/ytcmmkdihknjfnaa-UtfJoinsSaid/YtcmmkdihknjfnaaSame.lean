/- scholiumref01.SameInts answers true at two slices that hold the same numbers; utf.Count tells how many signs a text has. Nothing that was there is written. -/
import Derived.Test.YtcmmkdihknjfnaaAll
import Derived.RegionTactic
namespace Go.Proofs.Ytcmmkdihknjfnaa
open Go.RowKit
set_option linter.unusedVariables false

theorem same_nil (w : World) (a1 a2 : Option Addr) (c1 c2 : Nat) :
    Calls Try.prog 15 #[.slice a1 0 c1, .slice a2 0 c2] w fun e w' => e = .returned (.bool true) ∧ Below w.heap.size w w' := by
  go_enter Try.func15, Try.ntmps15
  go_wp2_with fail
  refine wp_loop_rounds 1 ?_
  rw [rounds_succ]
  go_wp2_with fail
  go_ret
  exact ⟨rfl, Below.refl _ _⟩

theorem same_some (w : World) (xs : List Int) (n : Nat) (hn : xs.length = n) (hl : n ≤ 9223372036854775807) (b1 o1 c1 b2 o2 c2 : Nat)
    (hc1 : ∀ i, i < n → w.cell? ⟨b1, o1 + i, none⟩ = some (.int .i64 (xs.getD i 0))) (hc2 : ∀ i, i < n → w.cell? ⟨b2, o2 + i, none⟩ = some (.int .i64 (xs.getD i 0))) :
    Calls Try.prog 15 #[.slice (some ⟨b1, o1, none⟩) n c1, .slice (some ⟨b2, o2, none⟩) n c2] w fun e w' => e = .returned (.bool true) ∧ Below w.heap.size w w' := by
  have H1 := hide hc1
  have H2 := hide hc2
  clear hc1 hc2
  go_enter Try.func15, Try.ntmps15
  go_wp2_with fail
  go_loopw [5] (fun i wr => ∃ j : Nat, j ≤ n ∧ i = .int .i64 j ∧ Below w.heap.size w wr) (fun i _ => n - (intOf i).toNat)
  case atStart => exact ⟨0, Nat.zero_le _, rfl, Below.refl _ _⟩
  case round =>
    obtain ⟨j, hj, rfl, hB⟩ := hrel
    by_cases hlt : j < n
    · obtain ⟨x, hx⟩ : ∃ x, xs.getD j 0 = x := ⟨_, rfl⟩
      have k1 := H1.out j hlt
      have k2 := H2.out j hlt
      have g1 := (hB.cell (World.block_lt_of_cell? w _ k1)).trans k1
      have g2 := (hB.cell (World.block_lt_of_cell? w _ k2)).trans k2
      rw [hx] at g1 g2
      clear k1 k2 hx
      go_wp2_with fail
      go_region
      all_goals
        go_wp2_with fail
        go_roundw
        case rel => exact ⟨j + 1, by omega, by go_num, hB.drew⟩
        case measure => simp [intOf]; omega
    · go_wp2_with fail
      go_ret
      exact ⟨rfl, hB⟩

theorem own_shape {w : World} {base : Nat} {e : TypeId} {v : Value} {n : Nat} {xs : List Value} (h : w.ownsRow base e 1 v n xs) : ∃ a cap, v = .slice a n cap := by
  rcases h.2 with ⟨rfl, rfl⟩ | ⟨g, cap, cur, rfl, _⟩
  · exact ⟨_, _, rfl⟩
  · exact ⟨_, _, rfl⟩

theorem own_cells {w : World} {base : Nat} {v : Value} {n : Nat} {xs : List Int} (h : w.ownsRow base 3 1 v n (xs.map (Value.int .i64))) (hx : xs.length = n) (hn : 0 < n) :
    ∃ g cap, v = .slice (some ⟨g, 0, none⟩) n cap ∧ g < w.heap.size ∧ ∀ i, i < n → w.cell? ⟨g, 0 + i, none⟩ = some (.int .i64 (xs.getD i 0)) := by
  obtain ⟨g, cap, rfl, _, hlt, hc⟩ := own_open h hn
  refine ⟨g, cap, rfl, hlt, fun i hi => ?_⟩
  have := hc i (.int .i64 (xs.getD i 0)) (by simp [List.getD, show i < xs.length by omega])
  rwa [Addr.add_lit] at this

/-- Two rows of the call's own that hold the same numbers. -/
theorem same_own (w : World) (B1 B2 : Nat) (v1 v2 : Value) (n : Nat) (xs : List Int) (hx : xs.length = n) (hl : n ≤ 9223372036854775807)
    (h1 : w.ownsRow B1 3 1 v1 n (xs.map (Value.int .i64))) (h2 : w.ownsRow B2 3 1 v2 n (xs.map (Value.int .i64))) :
    Calls Try.prog 15 #[v1, v2] w fun e w' => e = .returned (.bool true) ∧ Below w.heap.size w w' := by
  by_cases hn : n = 0
  · subst hn
    obtain ⟨a1, c1, rfl⟩ := own_shape h1
    obtain ⟨a2, c2, rfl⟩ := own_shape h2
    exact same_nil w a1 a2 c1 c2
  · obtain ⟨g1, c1, rfl, _, k1⟩ := own_cells h1 hx (by omega)
    obtain ⟨g2, c2, rfl, _, k2⟩ := own_cells h2 hx (by omega)
    exact same_some w xs n hx hl g1 0 c1 g2 0 c2 k1 k2

theorem count_ok (s : ByteArray) (ns : List Int) (w : World) (hs : s.size ≤ 65535) (hp : Parse (bytesL s) ns []) :
    Calls Try.prog 14 #[.string s] w fun e w' => e = .returned (.tuple #[.int .i64 ns.length, .int .i64 0]) ∧ Below w.heap.size w w' := by
  go_enter Try.func14, Try.ntmps14
  go_wp2_with fail
  refine (all_ok s ns _ hs hp).mono ?_; rintro e w1 ⟨v1, rfl, hown1, hb1⟩
  obtain ⟨a1, c1, rfl⟩ := own_shape hown1
  clear hown1
  go_wp2_with fail
  go_ret2
  exact ⟨rfl, hb1⟩
theorem count_err (s : ByteArray) (ns r : List Int) (w : World) (hs : s.size ≤ 65535) (hp : Parse (bytesL s) ns r) (hr : r ≠ []) :
    Calls Try.prog 14 #[.string s] w fun e w' => e = .returned (.tuple #[.int .i64 0, .int .i64 1]) ∧ Below w.heap.size w w' := by
  go_enter Try.func14, Try.ntmps14
  go_wp2_with fail
  refine (all_err s ns r _ hs hp hr).mono ?_; rintro e w1 ⟨rfl, hb1⟩
  go_wp2_with fail
  go_ret2
  exact ⟨rfl, hb1⟩
theorem count_long (s : ByteArray) (w : World) (hs : 65535 < s.size) :
    Calls Try.prog 14 #[.string s] w fun e w' => e = .returned (.tuple #[.int .i64 0, .int .i64 2]) ∧ Below w.heap.size w w' := by
  go_enter Try.func14, Try.ntmps14
  go_wp2_with fail
  refine (all_long s _ hs).mono ?_; rintro e w1 ⟨rfl, hb1⟩
  go_wp2_with fail
  go_ret2
  exact ⟨rfl, hb1⟩

end Go.Proofs.Ytcmmkdihknjfnaa
