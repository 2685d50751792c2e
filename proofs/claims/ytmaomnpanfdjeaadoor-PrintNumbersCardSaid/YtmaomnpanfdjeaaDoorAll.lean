/- utf.All and scholiumref01.All read a whole text: all its signs, in new memory, and the text's length; or ErrForm with the first offset at which no sign begins; or ErrLong. In terms of 'Parse'; nothing that was there is written. For every string shorter than 2^63 bytes. -/
import Derived.Test.YtmaomnpanfdjeaaDoorParse
import Derived.Test.YtmaomnpanfdjeaaDoorNext
import Derived.Test.YtmaomnpanfdjeaaDoorTail
import Derived.Test.YtmaomnpanfdjeaaDoorRefNext
namespace Go.Proofs.YtmaomnpanfdjeaaDoor
open Go.RowKit
set_option maxRecDepth 100000
set_option linter.unusedVariables false

theorem grown_of_below {w w' : World} (hb : Below w.heap.size w w') : w.grownBy w' none := ⟨hb.os, hb.tape, hb.output, hb.size, fun k hk _ => hb.block k hk⟩
theorem own_below {w w' : World} {base : Nat} {e : TypeId} {size : Nat} {v : Value} {n : Nat} {xs : List Value} (h : w.ownsRow base e size v n xs) (hb : Below w.heap.size w w') : w'.ownsRow base e size v n xs :=
  h.kept (grown_of_below hb) (by cases hv : v.ownBlock <;> simp)
theorem hide {p : Prop} (h : p) : Hid p := h
theorem info3 : (Tryd.prog.info? 3).map (fun i => (i.zero, i.size, i.bytes)) = some (some (.int .i64 0), 1, 8) := by kernel_rfl

set_option maxHeartbeats 400000 in
theorem all_ok (s : ByteArray) (ns : List Int) (w : World) (hs : s.size ≤ 65535) (hp : Parse (bytesL s) ns []) :
    Calls Tryd.prog 66 #[.string s] w fun e w' => ∃ v, e = .returned (.tuple #[v, .int .i64 s.size, .int .i64 0]) ∧ w'.ownsRow w.heap.size 3 1 v ns.length (ns.map (Value.int .i64)) ∧ Below w.heap.size w w' := by
  obtain ⟨i0, hi, hz0, hz1, hz2⟩ := info_parts info3
  have hlen : s.size = (encAll ns).length := by have := parse_length hp; rw [bytesL_length] at this; simpa using this
  have hll : ns.length ≤ s.size := by rw [hlen]; exact length_encAll ns
  have hle : (encAll ns).length ≤ s.size := by omega
  have HL := hide hlen
  clear hlen
  have hd : decide ((65535 : Int) < (s.size : Int)) = false := decide_eq_false (by omega)
  go_enter Tryd.func66, Tryd.ntmps66
  go_wp2_with fail
  go_loopw [5, 6] (fun v a wr => ∃ j : Nat, j ≤ ns.length ∧ a = .int .i64 (offs ns j) ∧ wr.ownsRow w.heap.size 3 1 v j ((ns.take j).map (Value.int .i64)) ∧ Below w.heap.size w wr)
    (fun _ a _ => s.size - (intOf a).toNat)
  case atStart => exact ⟨0, Nat.zero_le _, by rw [offs_0]; rfl, World.ownsRow_nil _ _ _ _, Below.refl _ _⟩
  case round =>
    obtain ⟨j, hj, rfl, hown, hB⟩ := hrel
    have hsz := hB.size
    by_cases hlt : j < ns.length
    · have h1 := offs_lt hlt
      have h2 := hide (offs_succ ns j hlt)
      have h3 := hide (dec_at hp hlt)
      have h4 := hide (take_snocI hlt)
      have hw := wid_pos (ns.getD j 0)
      obtain ⟨n, hn⟩ : ∃ n, ns.getD j 0 = n := ⟨_, rfl⟩
      rw [hn] at h1 h2 h3 h4 hw
      have HN := hide hn
      clear hn
      have hk : offs ns j < s.size := by omega
      obtain ⟨q, hq⟩ : ∃ q, offs ns j = q := ⟨_, rfl⟩
      rw [hq] at h1 h2 h3 hk ⊢
      clear hq
      go_wp2_with fail
      refine (next_any s q _ (by omega) hk).mono ?_; rintro e w1 ⟨rfl, hb1⟩
      rw [h3.out, nextV_some]
      have hb2 := hB.trans (hb1.mono hsz)
      have hsz1 := hb2.size
      have hown1 := own_below hown hb1
      clear hown
      go_wp2_with (at_builtin; refine wpList_append_own _ rfl _ _ 51 rfl w.heap.size 3 i0 (.int .i64 0) 1 8 Tryd.underlying51 hi hz0 hz1 hz2 rfl (by decide) _ _ _ rfl (hown1.alloc _) ⟨w1.heap.size, 0, none⟩ 1 1 [.int .i64 n] rfl rfl ?c1 ?c2 ?c3 ?c4 ?c5 ?_)
      case c1 => exact cell_one_at _ _ _ _ (by simp)
      case c2 => exact one_cell _
      case c3 => unfold maxLen; omega
      case c4 => omega
      case c5 => simp; omega
      intro v2 w2 hown2 hg2 _
      have hB2 := below_append (hb2.alloc hsz1 _) (hown1.alloc _) hg2 (by simp; omega)
      clear hg2 hown1
      go_wp2_with fail
      go_roundw
      case rel =>
        refine ⟨j + 1, by omega, ?_, ?_, hB2⟩
        · rw [h2.out]; go_num
        · rw [h4.out, List.map_append, List.map_take]; exact hown2
      case measure => simp [intOf]; omega
    · have hjn : j = ns.length := by omega
      subst hjn
      have hend : offs ns ns.length = s.size := by rw [offs_all]; exact HL.out.symm
      rw [hend]
      rw [List.take_length] at hown
      clear hend
      go_wp2_with fail
      go_ret3
      exact ⟨_, rfl, hown, hB⟩

set_option maxHeartbeats 400000 in
theorem all_err (s : ByteArray) (ns r : List Int) (w : World) (hs : s.size ≤ 65535) (hp : Parse (bytesL s) ns r) (hr : r ≠ []) :
    Calls Tryd.prog 66 #[.string s] w fun e w' => e = .returned (.tuple #[.slice none 0 0, .int .i64 (encAll ns).length, .int .i64 1]) ∧ Below w.heap.size w w' := by
  obtain ⟨i0, hi, hz0, hz1, hz2⟩ := info_parts info3
  have hlen : s.size = (encAll ns).length + r.length := by have := parse_length hp; rwa [bytesL_length] at this
  have hrl : 0 < r.length := List.length_pos_iff.2 hr
  have hll : ns.length ≤ s.size := by rw [hlen]; have := length_encAll ns; omega
  have hle : (encAll ns).length < s.size := by omega
  have HL := hide hlen
  clear hlen
  have hd : decide ((65535 : Int) < (s.size : Int)) = false := decide_eq_false (by omega)
  go_enter Tryd.func66, Tryd.ntmps66
  go_wp2_with fail
  go_loopw [5, 6] (fun v a wr => ∃ j : Nat, j ≤ ns.length ∧ a = .int .i64 (offs ns j) ∧ wr.ownsRow w.heap.size 3 1 v j ((ns.take j).map (Value.int .i64)) ∧ Below w.heap.size w wr)
    (fun _ a _ => s.size - (intOf a).toNat)
  case atStart => exact ⟨0, Nat.zero_le _, by rw [offs_0]; rfl, World.ownsRow_nil _ _ _ _, Below.refl _ _⟩
  case round =>
    obtain ⟨j, hj, rfl, hown, hB⟩ := hrel
    have hsz := hB.size
    by_cases hlt : j < ns.length
    · have h1 := offs_lt hlt
      have h2 := hide (offs_succ ns j hlt)
      have h3 := hide (dec_at hp hlt)
      have h4 := hide (take_snocI hlt)
      have hw := wid_pos (ns.getD j 0)
      obtain ⟨n, hn⟩ : ∃ n, ns.getD j 0 = n := ⟨_, rfl⟩
      rw [hn] at h1 h2 h3 h4 hw
      have HN := hide hn
      clear hn
      have hk : offs ns j < s.size := by omega
      obtain ⟨q, hq⟩ : ∃ q, offs ns j = q := ⟨_, rfl⟩
      rw [hq] at h1 h2 h3 hk ⊢
      clear hq
      go_wp2_with fail
      refine (next_any s q _ (by omega) hk).mono ?_; rintro e w1 ⟨rfl, hb1⟩
      rw [h3.out, nextV_some]
      have hb2 := hB.trans (hb1.mono hsz)
      have hsz1 := hb2.size
      have hown1 := own_below hown hb1
      clear hown
      go_wp2_with (at_builtin; refine wpList_append_own _ rfl _ _ 51 rfl w.heap.size 3 i0 (.int .i64 0) 1 8 Tryd.underlying51 hi hz0 hz1 hz2 rfl (by decide) _ _ _ rfl (hown1.alloc _) ⟨w1.heap.size, 0, none⟩ 1 1 [.int .i64 n] rfl rfl ?c1 ?c2 ?c3 ?c4 ?c5 ?_)
      case c1 => exact cell_one_at _ _ _ _ (by simp)
      case c2 => exact one_cell _
      case c3 => unfold maxLen; omega
      case c4 => omega
      case c5 => simp; omega
      intro v2 w2 hown2 hg2 _
      have hB2 := below_append (hb2.alloc hsz1 _) (hown1.alloc _) hg2 (by simp; omega)
      clear hg2 hown1
      go_wp2_with fail
      go_roundw
      case rel =>
        refine ⟨j + 1, by omega, ?_, ?_, hB2⟩
        · rw [h2.out]; go_num
        · rw [h4.out, List.map_append, List.map_take]; exact hown2
      case measure => simp [intOf]; omega
    · have hjn : j = ns.length := by omega
      subst hjn
      have h3 := hide (dec_end hp)
      rw [offs_all] at h3 ⊢
      obtain ⟨q, hq⟩ : ∃ q, (encAll ns).length = q := ⟨_, rfl⟩
      rw [hq] at h3 hle ⊢
      have HQ := hide hq
      clear hq
      go_wp2_with fail
      refine (next_any s q _ (by omega) (by omega)).mono ?_; rintro e w1 ⟨rfl, hb1⟩
      rw [h3.out]
      unfold nextV
      have hb2 := hB.trans (hb1.mono hsz)
      go_wp2_with fail
      go_ret3
      exact ⟨by rw [HQ.out]; rfl, hb2⟩

theorem all_long (s : ByteArray) (w : World) (hs : 65535 < s.size) :
    Calls Tryd.prog 66 #[.string s] w fun e w' => e = .returned (.tuple #[.slice none 0 0, .int .i64 0, .int .i64 2]) ∧ Below w.heap.size w w' := by
  go_enter Tryd.func66, Tryd.ntmps66
  go_wp2_with fail
  go_ret3
  exact ⟨rfl, Below.refl _ _⟩

set_option maxHeartbeats 400000 in
theorem refAll_ok (s : ByteArray) (ns : List Int) (w : World) (hs : s.size ≤ 65535) (hp : Parse (bytesL s) ns []) :
    Calls Tryd.prog 56 #[.string s] w fun e w' => ∃ v, e = .returned (.tuple #[v, .int .i64 s.size, .int .i64 0]) ∧ w'.ownsRow w.heap.size 3 1 v ns.length (ns.map (Value.int .i64)) ∧ Below w.heap.size w w' := by
  obtain ⟨i0, hi, hz0, hz1, hz2⟩ := info_parts info3
  have hlen : s.size = (encAll ns).length := by have := parse_length hp; rw [bytesL_length] at this; simpa using this
  have hll : ns.length ≤ s.size := by rw [hlen]; exact length_encAll ns
  have hle : (encAll ns).length ≤ s.size := by omega
  have HL := hide hlen
  clear hlen
  have hd : decide ((65535 : Int) < (s.size : Int)) = false := decide_eq_false (by omega)
  have hown0 : (w.alloc (.cells #[] 3)).ownsRow w.heap.size 3 1 (.slice (some ⟨w.heap.size, 0, none⟩) 0 0) 0 [] := World.ownsRow_made w #[] 0 (Nat.le_refl _) (Nat.zero_le _) rfl
  have hb0 : Below w.heap.size w (w.alloc (.cells #[] 3)) := (Below.refl _ _).alloc (Nat.le_refl _) _
  go_enter Tryd.func56, Tryd.ntmps56
  go_wp2_with fail
  go_loopw [5, 6] (fun v a wr => ∃ j : Nat, j ≤ ns.length ∧ a = .int .i64 (offs ns j) ∧ wr.ownsRow w.heap.size 3 1 v j ((ns.take j).map (Value.int .i64)) ∧ Below w.heap.size w wr)
    (fun _ a _ => s.size - (intOf a).toNat)
  case atStart => exact ⟨0, Nat.zero_le _, by rw [offs_0]; rfl, hown0, hb0⟩
  case round =>
    obtain ⟨j, hj, rfl, hown, hB⟩ := hrel
    have hsz := hB.size
    by_cases hlt : j < ns.length
    · have h1 := offs_lt hlt
      have h2 := hide (offs_succ ns j hlt)
      have h3 := hide (dec_at hp hlt)
      have h4 := hide (take_snocI hlt)
      have hw := wid_pos (ns.getD j 0)
      obtain ⟨n, hn⟩ : ∃ n, ns.getD j 0 = n := ⟨_, rfl⟩
      rw [hn] at h1 h2 h3 h4 hw
      have HN := hide hn
      clear hn
      have hk : offs ns j < s.size := by omega
      obtain ⟨q, hq⟩ : ∃ q, offs ns j = q := ⟨_, rfl⟩
      rw [hq] at h1 h2 h3 hk ⊢
      clear hq
      go_wp2_with fail
      refine (refNext_any s q _ (by omega) hk).mono ?_; rintro e w1 ⟨rfl, hb1⟩
      rw [h3.out, refNextV_some]
      have hb2 := hB.trans (hb1.mono hsz)
      have hsz1 := hb2.size
      have hown1 := own_below hown hb1
      clear hown
      go_wp2_with (at_builtin; refine wpList_append_own _ rfl _ _ 51 rfl w.heap.size 3 i0 (.int .i64 0) 1 8 Tryd.underlying51 hi hz0 hz1 hz2 rfl (by decide) _ _ _ rfl (hown1.alloc _) ⟨w1.heap.size, 0, none⟩ 1 1 [.int .i64 n] rfl rfl ?c1 ?c2 ?c3 ?c4 ?c5 ?_)
      case c1 => exact cell_one_at _ _ _ _ (by simp)
      case c2 => exact one_cell _
      case c3 => unfold maxLen; omega
      case c4 => omega
      case c5 => simp; omega
      intro v2 w2 hown2 hg2 _
      have hB2 := below_append (hb2.alloc hsz1 _) (hown1.alloc _) hg2 (by simp; omega)
      clear hg2 hown1
      go_wp2_with fail
      go_roundw
      case rel =>
        refine ⟨j + 1, by omega, ?_, ?_, hB2⟩
        · rw [h2.out]; go_num
        · rw [h4.out, List.map_append, List.map_take]; exact hown2
      case measure => simp [intOf]; omega
    · have hjn : j = ns.length := by omega
      subst hjn
      have hend : offs ns ns.length = s.size := by rw [offs_all]; exact HL.out.symm
      rw [hend]
      rw [List.take_length] at hown
      clear hend
      go_wp2_with fail
      go_ret3
      exact ⟨_, rfl, hown, hB⟩

set_option maxHeartbeats 400000 in
theorem refAll_err (s : ByteArray) (ns r : List Int) (w : World) (hs : s.size ≤ 65535) (hp : Parse (bytesL s) ns r) (hr : r ≠ []) :
    Calls Tryd.prog 56 #[.string s] w fun e w' => e = .returned (.tuple #[.slice none 0 0, .int .i64 (encAll ns).length, .int .i64 1]) ∧ Below w.heap.size w w' := by
  obtain ⟨i0, hi, hz0, hz1, hz2⟩ := info_parts info3
  have hlen : s.size = (encAll ns).length + r.length := by have := parse_length hp; rwa [bytesL_length] at this
  have hrl : 0 < r.length := List.length_pos_iff.2 hr
  have hll : ns.length ≤ s.size := by rw [hlen]; have := length_encAll ns; omega
  have hle : (encAll ns).length < s.size := by omega
  have HL := hide hlen
  clear hlen
  have hd : decide ((65535 : Int) < (s.size : Int)) = false := decide_eq_false (by omega)
  have hown0 : (w.alloc (.cells #[] 3)).ownsRow w.heap.size 3 1 (.slice (some ⟨w.heap.size, 0, none⟩) 0 0) 0 [] := World.ownsRow_made w #[] 0 (Nat.le_refl _) (Nat.zero_le _) rfl
  have hb0 : Below w.heap.size w (w.alloc (.cells #[] 3)) := (Below.refl _ _).alloc (Nat.le_refl _) _
  go_enter Tryd.func56, Tryd.ntmps56
  go_wp2_with fail
  go_loopw [5, 6] (fun v a wr => ∃ j : Nat, j ≤ ns.length ∧ a = .int .i64 (offs ns j) ∧ wr.ownsRow w.heap.size 3 1 v j ((ns.take j).map (Value.int .i64)) ∧ Below w.heap.size w wr)
    (fun _ a _ => s.size - (intOf a).toNat)
  case atStart => exact ⟨0, Nat.zero_le _, by rw [offs_0]; rfl, hown0, hb0⟩
  case round =>
    obtain ⟨j, hj, rfl, hown, hB⟩ := hrel
    have hsz := hB.size
    by_cases hlt : j < ns.length
    · have h1 := offs_lt hlt
      have h2 := hide (offs_succ ns j hlt)
      have h3 := hide (dec_at hp hlt)
      have h4 := hide (take_snocI hlt)
      have hw := wid_pos (ns.getD j 0)
      obtain ⟨n, hn⟩ : ∃ n, ns.getD j 0 = n := ⟨_, rfl⟩
      rw [hn] at h1 h2 h3 h4 hw
      have HN := hide hn
      clear hn
      have hk : offs ns j < s.size := by omega
      obtain ⟨q, hq⟩ : ∃ q, offs ns j = q := ⟨_, rfl⟩
      rw [hq] at h1 h2 h3 hk ⊢
      clear hq
      go_wp2_with fail
      refine (refNext_any s q _ (by omega) hk).mono ?_; rintro e w1 ⟨rfl, hb1⟩
      rw [h3.out, refNextV_some]
      have hb2 := hB.trans (hb1.mono hsz)
      have hsz1 := hb2.size
      have hown1 := own_below hown hb1
      clear hown
      go_wp2_with (at_builtin; refine wpList_append_own _ rfl _ _ 51 rfl w.heap.size 3 i0 (.int .i64 0) 1 8 Tryd.underlying51 hi hz0 hz1 hz2 rfl (by decide) _ _ _ rfl (hown1.alloc _) ⟨w1.heap.size, 0, none⟩ 1 1 [.int .i64 n] rfl rfl ?c1 ?c2 ?c3 ?c4 ?c5 ?_)
      case c1 => exact cell_one_at _ _ _ _ (by simp)
      case c2 => exact one_cell _
      case c3 => unfold maxLen; omega
      case c4 => omega
      case c5 => simp; omega
      intro v2 w2 hown2 hg2 _
      have hB2 := below_append (hb2.alloc hsz1 _) (hown1.alloc _) hg2 (by simp; omega)
      clear hg2 hown1
      go_wp2_with fail
      go_roundw
      case rel =>
        refine ⟨j + 1, by omega, ?_, ?_, hB2⟩
        · rw [h2.out]; go_num
        · rw [h4.out, List.map_append, List.map_take]; exact hown2
      case measure => simp [intOf]; omega
    · have hjn : j = ns.length := by omega
      subst hjn
      have h3 := hide (dec_end hp)
      rw [offs_all] at h3 ⊢
      obtain ⟨q, hq⟩ : ∃ q, (encAll ns).length = q := ⟨_, rfl⟩
      rw [hq] at h3 hle ⊢
      have HQ := hide hq
      clear hq
      go_wp2_with fail
      refine (refNext_any s q _ (by omega) (by omega)).mono ?_; rintro e w1 ⟨rfl, hb1⟩
      rw [h3.out]
      unfold refNextV
      have hb2 := hB.trans (hb1.mono hsz)
      go_wp2_with fail
      go_ret3
      exact ⟨by rw [HQ.out]; rfl, hb2⟩

theorem refAll_long (s : ByteArray) (w : World) (hs : 65535 < s.size) :
    Calls Tryd.prog 56 #[.string s] w fun e w' => e = .returned (.tuple #[.slice none 0 0, .int .i64 0, .int .i64 2]) ∧ Below w.heap.size w w' := by
  go_enter Tryd.func56, Tryd.ntmps56
  go_wp2_with fail
  go_ret3
  exact ⟨rfl, Below.refl _ _⟩

end Go.Proofs.YtmaomnpanfdjeaaDoor
