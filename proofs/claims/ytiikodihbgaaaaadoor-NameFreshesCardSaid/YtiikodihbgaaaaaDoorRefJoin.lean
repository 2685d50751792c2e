/- scholiumref01.Join, the document's plain answer, gives the same as utf.Join: the signs' bytes, or ErrNone, or ErrLong. For every slice of ints of at most 2^47 elements; nothing that was there is written. -/
import Derived.Test.YtiikodihbgaaaaaDoorShape
namespace Go.Proofs.YtiikodihbgaaaaaDoor
open Go.RowKit
set_option linter.unusedVariables false

/-- The empty slice, nil or not. -/
theorem refJoin_empty (a : Option Addr) (c : Nat) (w : World) :
    Calls Tryd.prog 49 #[.slice a 0 c] w fun e w' => e = .returned (.tuple #[.string ⟨#[]⟩, .int .i64 0]) ∧ Below w.heap.size w w' := by
  have hown0 : (w.alloc (.cells #[] 5)).ownsRow w.heap.size 5 1 (.slice (some ⟨w.heap.size, 0, none⟩) 0 0) 0 (([] : List Int).map (Value.int .u8)) := World.ownsRow_made w #[] 0 (Nat.le_refl _) (Nat.zero_le _) rfl
  have hcv := conv_owned hown0
  clear hown0
  go_enter Tryd.func49, Tryd.ntmps49
  go_wp2_with fail
  refine wp_loop_rounds 1 ?_
  rw [rounds_succ]
  go_wp2_with fail
  refine wp_loop_rounds 1 ?_
  rw [rounds_succ]
  go_wp2_with fail
  go_ret2
  exact ⟨rfl, (Below.refl _ _).alloc (Nat.le_refl _) _⟩

/-- A number that is no sign. -/
theorem refJoin_none (b off n c : Nat) (xs : List Int) (w : World) (hx : xs.length = n) (hn : n ≤ 140737488355328)
    (hc : ∀ i, i < n → w.cell? ⟨b, off + i, none⟩ = some (.int .i64 (xs.getD i 0))) (p : Nat) (hp : p < n) (hbad : rightB (xs.getD p 0) = false) :
    Calls Tryd.prog 49 #[.slice (some ⟨b, off, none⟩) n c] w fun e w' => e = .returned (.tuple #[.string ⟨#[]⟩, .int .i64 16]) ∧ Below w.heap.size w w' := by
  have HC := hide hc
  have HB := hide hbad
  clear hc hbad hx
  go_enter Tryd.func49, Tryd.ntmps49
  go_wp2_with fail
  go_loop [4] (fun i => ∃ j : Nat, j ≤ p ∧ i = .int .i64 j) (fun i => n - (intOf i).toNat)
  case atStart => exact ⟨0, Nat.zero_le _, rfl⟩
  case round =>
    obtain ⟨j, hj, rfl⟩ := hrel
    have hlt : j < n := by omega
    have hcell := HC.out j hlt
    cases hr : rightB (xs.getD j 0) with
    | false =>
      obtain ⟨x, hxx⟩ : ∃ x, xs.getD j 0 = x := ⟨_, rfl⟩
      rw [hxx] at hcell hr
      clear hxx
      go_wp2_with fail
      refine (refRight_any _ _).mono ?_; rintro e w1 ⟨rfl, rfl⟩
      rw [hr]
      go_wp2_with fail
      go_ret2
      exact ⟨rfl, Below.refl _ _⟩
    | true =>
      have hjp : j ≠ p := fun h => by subst h; rw [HB.out] at hr; cases hr
      obtain ⟨x, hxx⟩ : ∃ x, xs.getD j 0 = x := ⟨_, rfl⟩
      rw [hxx] at hcell hr
      clear hxx
      go_wp2_with fail
      refine (refRight_any _ _).mono ?_; rintro e w1 ⟨rfl, rfl⟩
      rw [hr]
      go_wp2_with fail
      go_round
      case rel => exact ⟨j + 1, by omega, by go_num⟩
      case measure => simp [intOf]; omega

set_option maxHeartbeats 400000 in
/-- All signs. -/
theorem refJoin_ok (b off n c : Nat) (xs : List Int) (w : World) (hx : xs.length = n) (hn : n ≤ 140737488355328)
    (hc : ∀ i, i < n → w.cell? ⟨b, off + i, none⟩ = some (.int .i64 (xs.getD i 0))) (hall : ∀ i, i < n → rightB (xs.getD i 0) = true) (hlim : (encAll xs).length ≤ 65535) :
    Calls Tryd.prog 49 #[.slice (some ⟨b, off, none⟩) n c] w fun e w' => e = .returned (.tuple #[.string (strOfNums (encAll xs)), .int .i64 0]) ∧ Below w.heap.size w w' := by
  obtain ⟨i0, hi, hz0, hz1, hz2⟩ := info_parts info5
  have HC := hide hc
  have HR := hide hall
  have HX := hide hx
  have HM := hide hlim
  clear hc hall hx hlim
  have hown0 : (w.alloc (.cells #[] 5)).ownsRow w.heap.size 5 1 (.slice (some ⟨w.heap.size, 0, none⟩) 0 0) 0 [] := World.ownsRow_made w #[] 0 (Nat.le_refl _) (Nat.zero_le _) rfl
  have hB0 : Below w.heap.size w (w.alloc (.cells #[] 5)) := (Below.refl _ _).alloc (Nat.le_refl _) _
  go_enter Tryd.func49, Tryd.ntmps49
  go_wp2_with fail
  go_loop [4] (fun i => ∃ j : Nat, j ≤ n ∧ i = .int .i64 j) (fun i => n - (intOf i).toNat)
  case atStart => exact ⟨0, Nat.zero_le _, rfl⟩
  case round =>
    obtain ⟨j, hj, rfl⟩ := hrel
    by_cases hlt : j < n
    · have hcell := HC.out j hlt
      have hr := HR.out j hlt
      obtain ⟨x, hxx⟩ : ∃ x, xs.getD j 0 = x := ⟨_, rfl⟩
      rw [hxx] at hcell hr
      clear hxx
      go_wp2_with fail
      refine (refRight_any _ _).mono ?_; rintro e w1 ⟨rfl, rfl⟩
      rw [hr]
      go_wp2_with fail
      go_round
      case rel => exact ⟨j + 1, by omega, by go_num⟩
      case measure => simp [intOf]; omega
    · go_wp2_with fail
      go_loopw [5, 6] (fun v i wr => ∃ k : Nat, k ≤ n ∧ i = .int .i64 k ∧ wr.ownsRow w.heap.size 5 1 v (offs xs k) ((encAll (xs.take k)).map (Value.int .u8)) ∧ offs xs k ≤ 65535 ∧ Below w.heap.size w wr) (fun _ i _ => n - (intOf i).toNat)
      case atStart => exact ⟨0, Nat.zero_le _, rfl, by rw [offs_0]; exact hown0, by rw [offs_0]; omega, hB0⟩
      case round =>
        clear hown0 hB0
        obtain ⟨k, hk, rfl, hown, hq, hB⟩ := hrel
        have hsz := hB.size
        by_cases hlt2 : k < n
        · have hc1 := HC.out k hlt2
          have hcell := (hB.cell (World.block_lt_of_cell? w _ hc1)).trans hc1
          have hkx : k < xs.length := by rw [HX.out]; exact hlt2
          have hr := HR.out k hlt2
          have HS := hide (take_snocI hkx)
          have HO := hide (offs_succ xs k hkx)
          have hw := wid_pos (xs.getD k 0)
          obtain ⟨x, hxx⟩ : ∃ x, xs.getD k 0 = x := ⟨_, rfl⟩
          rw [hxx] at hcell hr HS HO hw
          clear hc1 hxx
          have HE := hide (bytesL_enc hr)
          have hrr := rightB_true.1 hr
          obtain ⟨q, hqq⟩ : ∃ q, offs xs k = q := ⟨_, rfl⟩
          rw [hqq] at hown hq HO
          clear hqq
          go_wp2_with fail
          refine (refPut_any _ _ hrr.1 hrr.2.1).mono ?_; rintro e w2 ⟨rfl, hb2⟩
          have hown2 := own_below hown hb2
          have hB2 := hB.trans (hb2.mono hsz)
          have hsz2 := hB2.size
          clear hown hcell hb2 hrr
          obtain ⟨cap3, w3, hconv, hb3, hc3⟩ := conv_whole w2 (enc x) (wid x) (encI x) (enc_size x) HE.out
          have hown3 := own_below hown2 hb3
          have hB3 := hB2.trans (hb3.mono hsz2)
          have hsz3 := hB3.size
          have HC3 := hide hc3
          clear hown2 hb3 hc3
          go_wp2_with (at_builtin; refine wpList_append_own _ rfl _ _ 63 rfl w.heap.size 5 i0 (.int .u8 0) 1 1 Tryd.underlying63 hi hz0 hz1 hz2 rfl (by decide) _ _ _ rfl hown3 ⟨w2.heap.size, 0, none⟩ (wid x) cap3 ((encI x).map (Value.int .u8)) rfl ?c0 ?c1 ?c2 ?c3 ?c4 ?c5 ?_)
          case c0 => rw [List.length_map, encI_length]; omega
          case c1 => exact HC3.out
          case c2 =>
            intro u hu
            obtain ⟨_, _, rfl⟩ := List.mem_map.1 hu
            rfl
          case c3 => unfold maxLen; omega
          case c4 => omega
          case c5 => exact hsz3
          intro v4 w4 hown4 hg4 _
          have hB4 := below_append hB3 hown3 hg4 hsz3
          obtain ⟨a4, cap4, rfl⟩ := own_shape hown4
          have HO4 := hide hown4
          clear hg4 hown3 hown4 hconv
          have hle : q + wid x ≤ 65535 := by rw [← HO.out]; exact Nat.le_trans (offs_le xs (k + 1)) HM.out
          go_wp2_with fail
          go_roundw
          case rel =>
            refine ⟨k + 1, by omega, by go_num, ?_, by rw [HO.out]; exact hle, hB4⟩
            rw [HO.out, HS.out, encAll_append, List.map_append]
            have e : encAll [x] = encI x := by show encI x ++ [] = _; rw [List.append_nil]
            rw [e]
            exact HO4.out
          case measure => simp [intOf]; omega
        · have hkn : k = xs.length := by rw [HX.out]; omega
          rw [hkn, List.take_length] at hown
          clear hkn
          have hconv := conv_owned hown
          clear hown
          go_wp2_with fail
          go_ret2
          exact ⟨rfl, hB⟩

set_option maxHeartbeats 400000 in
/-- Too long. -/
theorem refJoin_long (b off n c : Nat) (xs : List Int) (w : World) (hx : xs.length = n) (hn : n ≤ 140737488355328)
    (hc : ∀ i, i < n → w.cell? ⟨b, off + i, none⟩ = some (.int .i64 (xs.getD i 0))) (hall : ∀ i, i < n → rightB (xs.getD i 0) = true) (hlim : 65535 < (encAll xs).length) :
    Calls Tryd.prog 49 #[.slice (some ⟨b, off, none⟩) n c] w fun e w' => e = .returned (.tuple #[.string ⟨#[]⟩, .int .i64 2]) ∧ Below w.heap.size w w' := by
  obtain ⟨i0, hi, hz0, hz1, hz2⟩ := info_parts info5
  have HC := hide hc
  have HR := hide hall
  have HX := hide hx
  have HM := hide hlim
  clear hc hall hx hlim
  have hown0 : (w.alloc (.cells #[] 5)).ownsRow w.heap.size 5 1 (.slice (some ⟨w.heap.size, 0, none⟩) 0 0) 0 [] := World.ownsRow_made w #[] 0 (Nat.le_refl _) (Nat.zero_le _) rfl
  have hB0 : Below w.heap.size w (w.alloc (.cells #[] 5)) := (Below.refl _ _).alloc (Nat.le_refl _) _
  go_enter Tryd.func49, Tryd.ntmps49
  go_wp2_with fail
  go_loop [4] (fun i => ∃ j : Nat, j ≤ n ∧ i = .int .i64 j) (fun i => n - (intOf i).toNat)
  case atStart => exact ⟨0, Nat.zero_le _, rfl⟩
  case round =>
    obtain ⟨j, hj, rfl⟩ := hrel
    by_cases hlt : j < n
    · have hcell := HC.out j hlt
      have hr := HR.out j hlt
      obtain ⟨x, hxx⟩ : ∃ x, xs.getD j 0 = x := ⟨_, rfl⟩
      rw [hxx] at hcell hr
      clear hxx
      go_wp2_with fail
      refine (refRight_any _ _).mono ?_; rintro e w1 ⟨rfl, rfl⟩
      rw [hr]
      go_wp2_with fail
      go_round
      case rel => exact ⟨j + 1, by omega, by go_num⟩
      case measure => simp [intOf]; omega
    · go_wp2_with fail
      go_loopw [5, 6] (fun v i wr => ∃ k : Nat, k ≤ n ∧ i = .int .i64 k ∧ wr.ownsRow w.heap.size 5 1 v (offs xs k) ((encAll (xs.take k)).map (Value.int .u8)) ∧ offs xs k ≤ 65535 ∧ Below w.heap.size w wr) (fun _ i _ => n - (intOf i).toNat)
      case atStart => exact ⟨0, Nat.zero_le _, rfl, by rw [offs_0]; exact hown0, by rw [offs_0]; omega, hB0⟩
      case round =>
        clear hown0 hB0
        obtain ⟨k, hk, rfl, hown, hq, hB⟩ := hrel
        have hsz := hB.size
        by_cases hlt2 : k < n
        · have hc1 := HC.out k hlt2
          have hcell := (hB.cell (World.block_lt_of_cell? w _ hc1)).trans hc1
          have hkx : k < xs.length := by rw [HX.out]; exact hlt2
          have hr := HR.out k hlt2
          have HS := hide (take_snocI hkx)
          have HO := hide (offs_succ xs k hkx)
          have hw := wid_pos (xs.getD k 0)
          obtain ⟨x, hxx⟩ : ∃ x, xs.getD k 0 = x := ⟨_, rfl⟩
          rw [hxx] at hcell hr HS HO hw
          clear hc1 hxx
          have HE := hide (bytesL_enc hr)
          have hrr := rightB_true.1 hr
          obtain ⟨q, hqq⟩ : ∃ q, offs xs k = q := ⟨_, rfl⟩
          rw [hqq] at hown hq HO
          clear hqq
          go_wp2_with fail
          refine (refPut_any _ _ hrr.1 hrr.2.1).mono ?_; rintro e w2 ⟨rfl, hb2⟩
          have hown2 := own_below hown hb2
          have hB2 := hB.trans (hb2.mono hsz)
          have hsz2 := hB2.size
          clear hown hcell hb2 hrr
          obtain ⟨cap3, w3, hconv, hb3, hc3⟩ := conv_whole w2 (enc x) (wid x) (encI x) (enc_size x) HE.out
          have hown3 := own_below hown2 hb3
          have hB3 := hB2.trans (hb3.mono hsz2)
          have hsz3 := hB3.size
          have HC3 := hide hc3
          clear hown2 hb3 hc3
          go_wp2_with (at_builtin; refine wpList_append_own _ rfl _ _ 63 rfl w.heap.size 5 i0 (.int .u8 0) 1 1 Tryd.underlying63 hi hz0 hz1 hz2 rfl (by decide) _ _ _ rfl hown3 ⟨w2.heap.size, 0, none⟩ (wid x) cap3 ((encI x).map (Value.int .u8)) rfl ?c0 ?c1 ?c2 ?c3 ?c4 ?c5 ?_)
          case c0 => rw [List.length_map, encI_length]; omega
          case c1 => exact HC3.out
          case c2 =>
            intro u hu
            obtain ⟨_, _, rfl⟩ := List.mem_map.1 hu
            rfl
          case c3 => unfold maxLen; omega
          case c4 => omega
          case c5 => exact hsz3
          intro v4 w4 hown4 hg4 _
          have hB4 := below_append hB3 hown3 hg4 hsz3
          obtain ⟨a4, cap4, rfl⟩ := own_shape hown4
          have HO4 := hide hown4
          clear hg4 hown3 hown4 hconv
          by_cases hle : q + wid x ≤ 65535
          · go_wp2_with fail
            go_roundw
            case rel =>
              refine ⟨k + 1, by omega, by go_num, ?_, by rw [HO.out]; exact hle, hB4⟩
              rw [HO.out, HS.out, encAll_append, List.map_append]
              have e : encAll [x] = encI x := by show encI x ++ [] = _; rw [List.append_nil]
              rw [e]
              exact HO4.out
            case measure => simp [intOf]; omega
          · go_wp2_with fail
            go_ret2
            exact ⟨rfl, hB4⟩
        · have hkn : k = xs.length := by rw [HX.out]; omega
          have := HM.out
          rw [← offs_all, ← hkn] at this
          omega

end Go.Proofs.YtiikodihbgaaaaaDoor
