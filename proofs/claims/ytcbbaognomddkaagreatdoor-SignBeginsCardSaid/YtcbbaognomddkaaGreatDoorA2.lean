/- scholiumref01.tail: the bytes of six bits each, from the highest on, for the three numbers of bytes with which it is called: a new slice that holds just them; nothing that was there is written. For 0 to 1114111. -/
import Derived.Test.YtcbbaognomddkaaGreatDoorA1
import Derived.OwnWalk
import Derived.Maps.AppendAt
import Derived.WalkSpells
namespace Go.Proofs.YtcbbaognomddkaaGreatDoor
open Go.RowKit

theorem info5 : (Tryz.prog.info? 5).map (fun i => (i.zero, i.size, i.bytes)) = some (some (.int .u8 0), 1, 1) := by kernel_rfl

theorem cell_one_new' (w : World) (x : Value) (t : TypeId) : ∀ j u, [x][j]? = some u → (w.alloc (.cells #[x] t)).cell? ((⟨w.heap.size, 0, none⟩ : Addr).add j) = some u := by
  intro j u hj
  match j, hj with
  | 0, hj =>
    obtain rfl : x = u := by simpa using hj
    have : (⟨w.heap.size, 0, none⟩ : Addr).add 0 = ⟨w.heap.size, 0, none⟩ := rfl
    rw [this, World.cell?_alloc_mark]
    rfl

theorem cell_one_at (w : World) (x : Value) (t : TypeId) (g : Nat) (hg : g = w.heap.size) : ∀ j u, [x][j]? = some u → (w.alloc (.cells #[x] t)).cell? ((⟨g, 0, none⟩ : Addr).add j) = some u := by
  subst hg; exact cell_one_new' w x t

theorem one_cell {k : IntKind} (n : Int) : ∀ u ∈ [Value.int k n], u.oneCell' = true := by
  intro u hu; simp at hu; subst hu; rfl

theorem below_append {B : Nat} {a W w1 : World} {e : TypeId} {s n : Nat} {v : Value} {xs : List Value} (h : Below B a W) (hown : W.ownsRow B e s v n xs) (hg : W.grownBy w1 v.ownBlock) (hB : B ≤ W.heap.size) : Below B a w1 :=
  h.grown hg hB (fun k hk => (hown.lt k hk).1)

/-- What an owned row that is not empty is. -/
theorem own_open {w : World} {base : Nat} {e : TypeId} {v : Value} {n : Nat} {xs : List Value} (h : w.ownsRow base e 1 v n xs) (hn : 0 < n) :
    ∃ g cap, v = .slice (some ⟨g, 0, none⟩) n cap ∧ base ≤ g ∧ g < w.heap.size ∧ ∀ j u, xs[j]? = some u → w.cell? ((⟨g, 0, none⟩ : Addr).add j) = some u := by
  rcases h.2 with ⟨_, h0⟩ | ⟨g, cap, cur, rfl, hb, hg, hr⟩
  · omega
  · have hl := h.lt g rfl
    exact ⟨g, cap, rfl, hl.1, hl.2, h.cells (g := g) rfl⟩

set_option maxHeartbeats 400000 in
theorem tail_1 (n : Int) (w : World) (h0 : 0 ≤ n) (h1 : n ≤ 1114111) :
    Calls Tryz.prog 122 #[.int .i64 n, .int .i64 1] w fun e w' => ∃ g cap, e = .returned (.slice (some ⟨g, 0, none⟩) 1 cap) ∧ w.heap.size ≤ g ∧ g < w'.heap.size ∧
      (∀ j u, ([.int .u8 (128 + n % 64)] : List Value)[j]? = some u → w'.cell? ((⟨g, 0, none⟩ : Addr).add j) = some u) ∧ Below w.heap.size w w' := by
  obtain ⟨i0, hi, hz0, hz1, hz2⟩ := info_parts info5
  have hown0 : (w.alloc (.cells #[] 5)).ownsRow w.heap.size 5 1 (.slice (some ⟨w.heap.size, 0, none⟩) 0 0) 0 [] := World.ownsRow_made w #[] 0 (Nat.le_refl _) (Nat.zero_le _) rfl
  have hb0 : Below w.heap.size w (w.alloc (.cells #[] 5)) := (Below.refl _ _).alloc (Nat.le_refl _) _
  go_enter Tryz.func122, Tryz.ntmps122
  go_wp2_with fail
  refine wp_loop_rounds 2 ?_
  rw [rounds_succ]
  go_wp2_with fail
  refine wp_loop_rounds 1 ?_
  rw [rounds_succ]
  go_wp2_with (at_builtin; refine wpList_append_own _ rfl _ _ 109 rfl w.heap.size 5 i0 (.int .u8 0) 1 1 Tryz.underlying109 hi hz0 hz1 hz2 rfl (by decide) _ _ _ rfl (hown0.alloc _) ⟨w.heap.size + 1, 0, none⟩ 1 1 [.int .u8 (128 + n % 64)] rfl rfl ?c11 ?c21 ?c31 ?c41 ?c51 ?_)
  case c11 => exact cell_one_at _ _ _ _ (by simp)
  case c21 => exact one_cell _
  case c31 => decide
  case c41 => decide
  case c51 => simp; omega
  intro v1 w1 hown1 hg1 _
  have hb1 := below_append (hb0.alloc (by first | omega | (simp; done) | (simp; omega)) _) (hown0.alloc _) hg1 (by first | (simp; done) | (simp; omega))
  have sz1 := hb1.size
  try simp only [Nat.zero_add, Nat.reduceAdd, List.nil_append, List.cons_append] at hown1
  clear hg1 hown0
  go_wp2_with fail
  rw [rounds_succ]
  go_wp2_with fail
  go_ret
  obtain ⟨g, cap, rfl, hge, hlt, hcells⟩ := own_open hown1 (by decide)
  exact ⟨g, cap, rfl, hge, hlt, hcells, hb1⟩

set_option maxHeartbeats 400000 in
theorem tail_2 (n : Int) (w : World) (h0 : 0 ≤ n) (h1 : n ≤ 1114111) :
    Calls Tryz.prog 122 #[.int .i64 n, .int .i64 2] w fun e w' => ∃ g cap, e = .returned (.slice (some ⟨g, 0, none⟩) 2 cap) ∧ w.heap.size ≤ g ∧ g < w'.heap.size ∧
      (∀ j u, ([.int .u8 (128 + n / 64 % 64), .int .u8 (128 + n % 64)] : List Value)[j]? = some u → w'.cell? ((⟨g, 0, none⟩ : Addr).add j) = some u) ∧ Below w.heap.size w w' := by
  obtain ⟨i0, hi, hz0, hz1, hz2⟩ := info_parts info5
  have hown0 : (w.alloc (.cells #[] 5)).ownsRow w.heap.size 5 1 (.slice (some ⟨w.heap.size, 0, none⟩) 0 0) 0 [] := World.ownsRow_made w #[] 0 (Nat.le_refl _) (Nat.zero_le _) rfl
  have hb0 : Below w.heap.size w (w.alloc (.cells #[] 5)) := (Below.refl _ _).alloc (Nat.le_refl _) _
  go_enter Tryz.func122, Tryz.ntmps122
  go_wp2_with fail
  refine wp_loop_rounds 3 ?_
  rw [rounds_succ]
  go_wp2_with fail
  refine wp_loop_rounds 2 ?_
  rw [rounds_succ]
  go_wp2_with fail
  rw [rounds_succ]
  go_wp2_with (at_builtin; refine wpList_append_own _ rfl _ _ 109 rfl w.heap.size 5 i0 (.int .u8 0) 1 1 Tryz.underlying109 hi hz0 hz1 hz2 rfl (by decide) _ _ _ rfl (hown0.alloc _) ⟨w.heap.size + 1, 0, none⟩ 1 1 [.int .u8 (128 + n / 64 % 64)] rfl rfl ?c11 ?c21 ?c31 ?c41 ?c51 ?_)
  case c11 => exact cell_one_at _ _ _ _ (by simp)
  case c21 => exact one_cell _
  case c31 => decide
  case c41 => decide
  case c51 => simp; omega
  intro v1 w1 hown1 hg1 _
  have hb1 := below_append (hb0.alloc (by first | omega | (simp; done) | (simp; omega)) _) (hown0.alloc _) hg1 (by first | (simp; done) | (simp; omega))
  have sz1 := hb1.size
  try simp only [Nat.zero_add, Nat.reduceAdd, List.nil_append, List.cons_append] at hown1
  clear hg1 hown0
  go_wp2_with fail
  rw [rounds_succ]
  go_wp2_with fail
  refine wp_loop_rounds 1 ?_
  rw [rounds_succ]
  go_wp2_with (at_builtin; refine wpList_append_own _ rfl _ _ 109 rfl w.heap.size 5 i0 (.int .u8 0) 1 1 Tryz.underlying109 hi hz0 hz1 hz2 rfl (by decide) _ _ _ rfl (hown1.alloc _) ⟨w1.heap.size, 0, none⟩ 1 1 [.int .u8 (128 + n % 64)] rfl rfl ?c12 ?c22 ?c32 ?c42 ?c52 ?_)
  case c12 => exact cell_one_at _ _ _ _ (by simp)
  case c22 => exact one_cell _
  case c32 => decide
  case c42 => decide
  case c52 => simp; omega
  intro v2 w2 hown2 hg2 _
  have hb2 := below_append (hb1.alloc (by first | omega | (simp; done) | (simp; omega)) _) (hown1.alloc _) hg2 (by first | (simp; done) | (simp; omega))
  have sz2 := hb2.size
  try simp only [Nat.zero_add, Nat.reduceAdd, List.nil_append, List.cons_append] at hown2
  clear hg2 hown1
  go_wp2_with fail
  rw [rounds_succ]
  go_wp2_with fail
  go_ret
  obtain ⟨g, cap, rfl, hge, hlt, hcells⟩ := own_open hown2 (by decide)
  exact ⟨g, cap, rfl, hge, hlt, hcells, hb2⟩

set_option maxHeartbeats 400000 in
theorem tail_3 (n : Int) (w : World) (h0 : 0 ≤ n) (h1 : n ≤ 1114111) :
    Calls Tryz.prog 122 #[.int .i64 n, .int .i64 3] w fun e w' => ∃ g cap, e = .returned (.slice (some ⟨g, 0, none⟩) 3 cap) ∧ w.heap.size ≤ g ∧ g < w'.heap.size ∧
      (∀ j u, ([.int .u8 (128 + n / 64 / 64 % 64), .int .u8 (128 + n / 64 % 64), .int .u8 (128 + n % 64)] : List Value)[j]? = some u → w'.cell? ((⟨g, 0, none⟩ : Addr).add j) = some u) ∧ Below w.heap.size w w' := by
  obtain ⟨i0, hi, hz0, hz1, hz2⟩ := info_parts info5
  have hown0 : (w.alloc (.cells #[] 5)).ownsRow w.heap.size 5 1 (.slice (some ⟨w.heap.size, 0, none⟩) 0 0) 0 [] := World.ownsRow_made w #[] 0 (Nat.le_refl _) (Nat.zero_le _) rfl
  have hb0 : Below w.heap.size w (w.alloc (.cells #[] 5)) := (Below.refl _ _).alloc (Nat.le_refl _) _
  go_enter Tryz.func122, Tryz.ntmps122
  go_wp2_with fail
  refine wp_loop_rounds 4 ?_
  rw [rounds_succ]
  go_wp2_with fail
  refine wp_loop_rounds 3 ?_
  rw [rounds_succ]
  go_wp2_with fail
  rw [rounds_succ]
  go_wp2_with fail
  rw [rounds_succ]
  go_wp2_with (at_builtin; refine wpList_append_own _ rfl _ _ 109 rfl w.heap.size 5 i0 (.int .u8 0) 1 1 Tryz.underlying109 hi hz0 hz1 hz2 rfl (by decide) _ _ _ rfl (hown0.alloc _) ⟨w.heap.size + 1, 0, none⟩ 1 1 [.int .u8 (128 + n / 64 / 64 % 64)] rfl rfl ?c11 ?c21 ?c31 ?c41 ?c51 ?_)
  case c11 => exact cell_one_at _ _ _ _ (by simp)
  case c21 => exact one_cell _
  case c31 => decide
  case c41 => decide
  case c51 => simp; omega
  intro v1 w1 hown1 hg1 _
  have hb1 := below_append (hb0.alloc (by first | omega | (simp; done) | (simp; omega)) _) (hown0.alloc _) hg1 (by first | (simp; done) | (simp; omega))
  have sz1 := hb1.size
  try simp only [Nat.zero_add, Nat.reduceAdd, List.nil_append, List.cons_append] at hown1
  clear hg1 hown0
  go_wp2_with fail
  rw [rounds_succ]
  go_wp2_with fail
  refine wp_loop_rounds 2 ?_
  rw [rounds_succ]
  go_wp2_with fail
  rw [rounds_succ]
  go_wp2_with (at_builtin; refine wpList_append_own _ rfl _ _ 109 rfl w.heap.size 5 i0 (.int .u8 0) 1 1 Tryz.underlying109 hi hz0 hz1 hz2 rfl (by decide) _ _ _ rfl (hown1.alloc _) ⟨w1.heap.size, 0, none⟩ 1 1 [.int .u8 (128 + n / 64 % 64)] rfl rfl ?c12 ?c22 ?c32 ?c42 ?c52 ?_)
  case c12 => exact cell_one_at _ _ _ _ (by simp)
  case c22 => exact one_cell _
  case c32 => decide
  case c42 => decide
  case c52 => simp; omega
  intro v2 w2 hown2 hg2 _
  have hb2 := below_append (hb1.alloc (by first | omega | (simp; done) | (simp; omega)) _) (hown1.alloc _) hg2 (by first | (simp; done) | (simp; omega))
  have sz2 := hb2.size
  try simp only [Nat.zero_add, Nat.reduceAdd, List.nil_append, List.cons_append] at hown2
  clear hg2 hown1
  go_wp2_with fail
  rw [rounds_succ]
  go_wp2_with fail
  refine wp_loop_rounds 1 ?_
  rw [rounds_succ]
  go_wp2_with (at_builtin; refine wpList_append_own _ rfl _ _ 109 rfl w.heap.size 5 i0 (.int .u8 0) 1 1 Tryz.underlying109 hi hz0 hz1 hz2 rfl (by decide) _ _ _ rfl (hown2.alloc _) ⟨w2.heap.size, 0, none⟩ 1 1 [.int .u8 (128 + n % 64)] rfl rfl ?c13 ?c23 ?c33 ?c43 ?c53 ?_)
  case c13 => exact cell_one_at _ _ _ _ (by simp)
  case c23 => exact one_cell _
  case c33 => decide
  case c43 => decide
  case c53 => simp; omega
  intro v3 w3 hown3 hg3 _
  have hb3 := below_append (hb2.alloc (by first | omega | (simp; done) | (simp; omega)) _) (hown2.alloc _) hg3 (by first | (simp; done) | (simp; omega))
  have sz3 := hb3.size
  try simp only [Nat.zero_add, Nat.reduceAdd, List.nil_append, List.cons_append] at hown3
  clear hg3 hown2
  go_wp2_with fail
  rw [rounds_succ]
  go_wp2_with fail
  go_ret
  obtain ⟨g, cap, rfl, hge, hlt, hcells⟩ := own_open hown3 (by decide)
  exact ⟨g, cap, rfl, hge, hlt, hcells, hb3⟩

end Go.Proofs.YtcbbaognomddkaaGreatDoor

/- scholiumref01.Put gives, for every sign, the same bytes as utf.Put; nothing that was there is written. -/
namespace Go.Proofs.YtcbbaognomddkaaGreatDoor
open Go.RowKit
set_option maxRecDepth 100000

/-- Owned bytes turned into a string. -/
theorem conv_own (w : World) (g n cap : Nat) (xs : List Int) (hn : xs.length = n) (h : ∀ j u, (xs.map (Value.int .u8))[j]? = some u → w.cell? ((⟨g, 0, none⟩ : Addr).add j) = some u) :
    (convert 109 9 (.slice (some ⟨g, 0, none⟩) n cap)).run Tryz.prog w = .ok (.string (strOfNums xs)) w :=
  run_convert_bytes_arg (P := Tryz.prog) w 109 5 Tryz.underlying109 Tryz.underlying5 g 0 n cap xs hn
    (fun i hi => by
      have hi' : i < xs.length := by omega
      have := h i (.int .u8 (xs.getD i 0)) (by simp [List.getD, hi'])
      rwa [Addr.add_lit] at this) 9 Tryz.underlying9

theorem own_lit {w w1 : World} {x : Value} (hb : Below (w.heap.size + 1) (w.alloc (.cells #[x] 5)) w1) : w1.ownsRow w.heap.size 5 1 (.slice (some ⟨w.heap.size, 0, none⟩) 1 1) 1 [x] := by
  refine ⟨rfl, .inr ⟨w.heap.size, 1, #[x], rfl, Nat.le_refl _, ?_, Nat.le_refl _, by decide, rfl, rfl⟩⟩
  rw [hb.block w.heap.size (by omega)]
  exact heap_alloc_new w _

theorem refPut_1 (n : Int) (w : World) (h0 : 0 ≤ n) (h1 : n ≤ 127) :
    Calls Tryz.prog 116 #[.int .i64 n] w fun e w' => e = .returned (.string (strOfNums [n])) ∧ Below w.heap.size w w' := by
  have hc := conv_new w #[.int .u8 n] 5 (0, 0) [n] 1 1 rfl (by intro i hi; match i, hi with | 0, _ => rfl)
  go_enter Tryz.func116, Tryz.ntmps116
  go_wp2_with fail
  go_ret
  exact ⟨rfl, (Below.refl _ _).alloc (Nat.le_refl _) _⟩

theorem refPut_2 (n : Int) (w : World) (h0 : 128 ≤ n) (h1 : n ≤ 2047) :
    Calls Tryz.prog 116 #[.int .i64 n] w fun e w' => e = .returned (.string (strOfNums [192 + n / 64, 128 + n % 64])) ∧ Below w.heap.size w w' := by
  obtain ⟨i0, hi, hz0, hz1, hz2⟩ := info_parts info5
  have hh : strOfNums [192 + n / 64, 128 + n % 64] = strOfNums [192 + n / 64, 128 + n % 64] := by
    have e : 192 + n / 64 = 192 + n / 64 := by omega
    rw [e]
  rw [hh]; clear hh
  go_enter Tryz.func116, Tryz.ntmps116
  go_wp2_with fail
  refine (tail_1 _ _ (by omega) (by omega)).mono ?_
  rintro e w1 ⟨g1, cap1, rfl, hge1, hlt1, hc1, hb1⟩
  have hown := own_lit (w := w) (by simpa using hb1)
  have hB : Below w.heap.size w w1 := ((Below.refl _ _).alloc (Nat.le_refl _) _).trans (hb1.mono (by simp))
  have hsz := hB.size
  go_wp2_with (at_builtin; refine wpList_append_own _ rfl _ _ 109 rfl w.heap.size 5 i0 (.int .u8 0) 1 1 Tryz.underlying109 hi hz0 hz1 hz2 rfl (by decide) _ _ _ rfl hown ⟨g1, 0, none⟩ 1 cap1 [.int .u8 (128 + n % 64)] rfl rfl ?c1 ?c2 ?c3 ?c4 ?c5 ?_)
  case c1 => exact hc1
  case c2 => intro u hu; simp at hu; rcases hu with rfl <;> rfl
  case c3 => decide
  case c4 => decide
  case c5 => omega
  intro v2 w2 hown2 hg2 _
  have hB2 := below_append hB hown hg2 hsz
  clear hg2 hown
  obtain ⟨g2, cap2, rfl, _, _, hc2⟩ := own_open hown2 (by decide)
  have hc := conv_own w2 g2 2 cap2 [192 + n / 64, 128 + n % 64] rfl hc2
  clear hown2 hc2 hc1
  go_wp2_with fail
  go_ret
  exact ⟨rfl, hB2⟩

theorem refPut_3 (n : Int) (w : World) (h0 : 2048 ≤ n) (h1 : n ≤ 65535) :
    Calls Tryz.prog 116 #[.int .i64 n] w fun e w' => e = .returned (.string (strOfNums [224 + n / 64 / 64, 128 + n / 64 % 64, 128 + n % 64])) ∧ Below w.heap.size w w' := by
  obtain ⟨i0, hi, hz0, hz1, hz2⟩ := info_parts info5
  have hh : strOfNums [224 + n / 64 / 64, 128 + n / 64 % 64, 128 + n % 64] = strOfNums [224 + n / 4096, 128 + n / 64 % 64, 128 + n % 64] := by
    have e : 224 + n / 64 / 64 = 224 + n / 4096 := by omega
    rw [e]
  rw [hh]; clear hh
  go_enter Tryz.func116, Tryz.ntmps116
  go_wp2_with fail
  refine (tail_2 _ _ (by omega) (by omega)).mono ?_
  rintro e w1 ⟨g1, cap1, rfl, hge1, hlt1, hc1, hb1⟩
  have hown := own_lit (w := w) (by simpa using hb1)
  have hB : Below w.heap.size w w1 := ((Below.refl _ _).alloc (Nat.le_refl _) _).trans (hb1.mono (by simp))
  have hsz := hB.size
  go_wp2_with (at_builtin; refine wpList_append_own _ rfl _ _ 109 rfl w.heap.size 5 i0 (.int .u8 0) 1 1 Tryz.underlying109 hi hz0 hz1 hz2 rfl (by decide) _ _ _ rfl hown ⟨g1, 0, none⟩ 2 cap1 [.int .u8 (128 + n / 64 % 64), .int .u8 (128 + n % 64)] rfl rfl ?c1 ?c2 ?c3 ?c4 ?c5 ?_)
  case c1 => exact hc1
  case c2 => intro u hu; simp at hu; rcases hu with rfl | rfl <;> rfl
  case c3 => decide
  case c4 => decide
  case c5 => omega
  intro v2 w2 hown2 hg2 _
  have hB2 := below_append hB hown hg2 hsz
  clear hg2 hown
  obtain ⟨g2, cap2, rfl, _, _, hc2⟩ := own_open hown2 (by decide)
  have hc := conv_own w2 g2 3 cap2 [224 + n / 4096, 128 + n / 64 % 64, 128 + n % 64] rfl hc2
  clear hown2 hc2 hc1
  go_wp2_with fail
  go_ret
  exact ⟨rfl, hB2⟩

theorem refPut_4 (n : Int) (w : World) (h0 : 65536 ≤ n) (h1 : n ≤ 1114111) :
    Calls Tryz.prog 116 #[.int .i64 n] w fun e w' => e = .returned (.string (strOfNums [240 + n / 64 / 64 / 64, 128 + n / 64 / 64 % 64, 128 + n / 64 % 64, 128 + n % 64])) ∧ Below w.heap.size w w' := by
  obtain ⟨i0, hi, hz0, hz1, hz2⟩ := info_parts info5
  have hh : strOfNums [240 + n / 64 / 64 / 64, 128 + n / 64 / 64 % 64, 128 + n / 64 % 64, 128 + n % 64] = strOfNums [240 + n / 262144, 128 + n / 64 / 64 % 64, 128 + n / 64 % 64, 128 + n % 64] := by
    have e : 240 + n / 64 / 64 / 64 = 240 + n / 262144 := by omega
    rw [e]
  rw [hh]; clear hh
  go_enter Tryz.func116, Tryz.ntmps116
  go_wp2_with fail
  refine (tail_3 _ _ (by omega) (by omega)).mono ?_
  rintro e w1 ⟨g1, cap1, rfl, hge1, hlt1, hc1, hb1⟩
  have hown := own_lit (w := w) (by simpa using hb1)
  have hB : Below w.heap.size w w1 := ((Below.refl _ _).alloc (Nat.le_refl _) _).trans (hb1.mono (by simp))
  have hsz := hB.size
  go_wp2_with (at_builtin; refine wpList_append_own _ rfl _ _ 109 rfl w.heap.size 5 i0 (.int .u8 0) 1 1 Tryz.underlying109 hi hz0 hz1 hz2 rfl (by decide) _ _ _ rfl hown ⟨g1, 0, none⟩ 3 cap1 [.int .u8 (128 + n / 64 / 64 % 64), .int .u8 (128 + n / 64 % 64), .int .u8 (128 + n % 64)] rfl rfl ?c1 ?c2 ?c3 ?c4 ?c5 ?_)
  case c1 => exact hc1
  case c2 => intro u hu; simp at hu; rcases hu with rfl | rfl | rfl <;> rfl
  case c3 => decide
  case c4 => decide
  case c5 => omega
  intro v2 w2 hown2 hg2 _
  have hB2 := below_append hB hown hg2 hsz
  clear hg2 hown
  obtain ⟨g2, cap2, rfl, _, _, hc2⟩ := own_open hown2 (by decide)
  have hc := conv_own w2 g2 4 cap2 [240 + n / 262144, 128 + n / 64 / 64 % 64, 128 + n / 64 % 64, 128 + n % 64] rfl hc2
  clear hown2 hc2 hc1
  go_wp2_with fail
  go_ret
  exact ⟨rfl, hB2⟩

theorem refPut_any (n : Int) (w : World) (h0 : 0 ≤ n) (h1 : n ≤ 1114111) :
    Calls Tryz.prog 116 #[.int .i64 n] w fun e w' => e = .returned (.string (enc n)) ∧ Below w.heap.size w w' := by
  unfold enc
  by_cases h1 : n ≤ 127
  · rw [encI_1 h1]; exact refPut_1 n w (by omega) h1
  · by_cases h2 : n ≤ 2047
    · rw [encI_2 (by omega) h2]; exact refPut_2 n w (by omega) h2
    · by_cases h3 : n ≤ 65535
      · rw [encI_3 (by omega) h3]; exact refPut_3 n w (by omega) h3
      · rw [encI_4 (by omega)]; exact refPut_4 n w (by omega) (by omega)

end Go.Proofs.YtcbbaognomddkaaGreatDoor

/- utf.Next reads, at any place of any bytes, the sign whose bytes begin there, or answers ErrForm: in terms of 'dec'; nothing that was there is written. For every string shorter than 2^63 bytes and every offset. -/
namespace Go.Proofs.YtcbbaognomddkaaGreatDoor
open Go.RowKit
set_option maxRecDepth 100000
set_option linter.unusedVariables false

/-- '[]byte(t)' of a piece of a string: a new row that holds the piece's bytes. -/
theorem conv_str (w : World) (s : ByteArray) (a b n : Nat) (hn : b = a + n) (hb : b ≤ s.size) :
    ∃ cap W, (convert 9 109 (.string (s.extract a b))).run Tryz.prog w = .ok (.slice (some ⟨w.heap.size, 0, none⟩) n cap) W ∧ Below w.heap.size w W ∧
      ∀ i, i < n → W.cell? ⟨w.heap.size, i, none⟩ = some (.int .u8 (byt s (a + i))) := by
  have hsz : (s.extract a b).size = n := by simp; omega
  have hr := run_bytes_of_string (P := Tryz.prog) w 9 109 5 (s.extract a b) Tryz.underlying9 Tryz.underlying109 Tryz.underlying5
  generalize hC : bytesRow (s.extract a b) _ = C at hr
  rw [hsz] at hr hC
  refine ⟨_, _, hr, ((Below.refl _ _).drew).alloc (Nat.le_refl _) _, ?_⟩
  intro i h
  have e : w.heap.size = w.drew.heap.size := rfl
  rw [e, World.cell?_alloc_mark, ← hC]
  unfold bytesRow
  rw [Array.getElem?_append_left (by simp; omega), ← byt_eq s (a + i) (by omega)]
  have hi : i < (s.extract a b).size := by omega
  have e1 : (s.extract a b).data[i]? = some (s[a + i]'(by omega)) := by
    rw [Array.getElem?_eq_getElem (by simpa using hi)]
    exact congrArg some (ByteArray.getElem_extract (start := a) (stop := b) (i := i) hi)
  rw [Array.getElem?_map, e1]
  rfl

/-- A first byte with which no sign begins. -/
theorem nx_0 (s : ByteArray) (k : Nat) (w : World) (hs : s.size ≤ 9223372036854775807) (hk : k < s.size) (b0 : Int) (hb0 : (s[k].toNat : Int) = b0) (h0 : 0 ≤ b0) (h1 : b0 ≤ 255) (h2 : (128 ≤ b0 ∧ b0 < 192) ∨ 248 ≤ b0) :
    Calls Tryz.prog 89 #[.string s, .int .i64 k] w fun e w' => e = .returned (.tuple #[.int .i64 0, .int .i64 0, .int .i64 1]) ∧ Below w.heap.size w w' := by
  have hsh : shareI b0 = 0 := by unfold shareI; rw [if_neg (by omega), if_pos (by omega)]
  have hsz : sizeI b0 = 0 := by unfold sizeI; rw [if_neg (by omega), if_pos (by omega)]
  go_enter Tryz.func89, Tryz.ntmps89
  go_wp2_with fail
  refine (first_any _ _ (by omega) (by omega)).mono ?_; rintro e w' ⟨rfl, rfl⟩
  rw [hsh, hsz]; clear hsh hsz
  go_wp2_with fail
  go_ret3
  exact ⟨rfl, Below.refl _ _⟩

/-- Too few bytes, of 2. -/
theorem nx2_short (s : ByteArray) (k : Nat) (w : World) (hs : s.size ≤ 9223372036854775807) (hk : k < s.size) (b0 : Int) (hb0 : (s[k].toNat : Int) = b0) (h0 : 192 ≤ b0) (h1 : b0 < 224) (h2 : s.size < k + 2) :
    Calls Tryz.prog 89 #[.string s, .int .i64 k] w fun e w' => e = .returned (.tuple #[.int .i64 0, .int .i64 0, .int .i64 1]) ∧ Below w.heap.size w w' := by
  have hsh : shareI b0 = b0 - 192 := by unfold shareI; rw [if_neg (by omega), if_neg (by omega), if_neg (by omega), if_neg (by omega)]
  have hsz : sizeI b0 = 2 := by unfold sizeI; rw [if_neg (by omega), if_neg (by omega), if_neg (by omega), if_neg (by omega)]
  have hgt : (s.size : Int) - (k : Int) < 2 := by omega
  go_enter Tryz.func89, Tryz.ntmps89
  go_wp2_with fail
  refine (first_any _ _ (by omega) (by omega)).mono ?_; rintro e w' ⟨rfl, rfl⟩
  rw [hsh, hsz]; clear hsh hsz
  go_wp2_with fail
  go_ret3
  exact ⟨rfl, Below.refl _ _⟩

/-- Too few bytes, of 3. -/
theorem nx3_short (s : ByteArray) (k : Nat) (w : World) (hs : s.size ≤ 9223372036854775807) (hk : k < s.size) (b0 : Int) (hb0 : (s[k].toNat : Int) = b0) (h0 : 224 ≤ b0) (h1 : b0 < 240) (h2 : s.size < k + 3) :
    Calls Tryz.prog 89 #[.string s, .int .i64 k] w fun e w' => e = .returned (.tuple #[.int .i64 0, .int .i64 0, .int .i64 1]) ∧ Below w.heap.size w w' := by
  have hsh : shareI b0 = b0 - 224 := by unfold shareI; rw [if_neg (by omega), if_neg (by omega), if_neg (by omega), if_pos (by omega)]
  have hsz : sizeI b0 = 3 := by unfold sizeI; rw [if_neg (by omega), if_neg (by omega), if_neg (by omega), if_pos (by omega)]
  have hgt : (s.size : Int) - (k : Int) < 3 := by omega
  go_enter Tryz.func89, Tryz.ntmps89
  go_wp2_with fail
  refine (first_any _ _ (by omega) (by omega)).mono ?_; rintro e w' ⟨rfl, rfl⟩
  rw [hsh, hsz]; clear hsh hsz
  go_wp2_with fail
  go_ret3
  exact ⟨rfl, Below.refl _ _⟩

/-- Too few bytes, of 4. -/
theorem nx4_short (s : ByteArray) (k : Nat) (w : World) (hs : s.size ≤ 9223372036854775807) (hk : k < s.size) (b0 : Int) (hb0 : (s[k].toNat : Int) = b0) (h0 : 240 ≤ b0) (h1 : b0 < 248) (h2 : s.size < k + 4) :
    Calls Tryz.prog 89 #[.string s, .int .i64 k] w fun e w' => e = .returned (.tuple #[.int .i64 0, .int .i64 0, .int .i64 1]) ∧ Below w.heap.size w w' := by
  have hsh : shareI b0 = b0 - 240 := by unfold shareI; rw [if_neg (by omega), if_neg (by omega), if_pos (by omega)]
  have hsz : sizeI b0 = 4 := by unfold sizeI; rw [if_neg (by omega), if_neg (by omega), if_pos (by omega)]
  have hgt : (s.size : Int) - (k : Int) < 4 := by omega
  go_enter Tryz.func89, Tryz.ntmps89
  go_wp2_with fail
  refine (first_any _ _ (by omega) (by omega)).mono ?_; rintro e w' ⟨rfl, rfl⟩
  rw [hsh, hsz]; clear hsh hsz
  go_wp2_with fail
  go_ret3
  exact ⟨rfl, Below.refl _ _⟩

/-- One byte. -/
theorem nx1_ok (s : ByteArray) (k : Nat) (w : World) (hs : s.size ≤ 9223372036854775807) (hk : k < s.size) (b0 : Int) (hb0 : (s[k].toNat : Int) = b0) (h0 : 0 ≤ b0) (h1 : b0 < 128) :
    Calls Tryz.prog 89 #[.string s, .int .i64 k] w fun e w' => e = .returned (.tuple #[.int .i64 b0, .int .i64 1, .int .i64 0]) ∧ Below w.heap.size w w' := by
  have hsh : shareI b0 = b0 := by unfold shareI; rw [if_pos (by omega)]
  have hsz : sizeI b0 = 1 := by unfold sizeI; rw [if_pos (by omega)]
  have hr : rightB b0 = true := rightB_true.2 (by omega)
  have hw : wid b0 = 1 := wid_1 (by omega)
  obtain ⟨cap, W, hconv, hB, -⟩ := conv_str w s (k + 1) (k + 1) 0 rfl (by omega)
  have he : s.extract (k + 1) (k + 1) = ByteArray.empty := by
    apply ByteArray.ext
    simp
  rw [he] at hconv
  clear he
  go_enter Tryz.func89, Tryz.ntmps89
  go_wp2_with fail
  refine (first_any _ _ (by omega) (by omega)).mono ?_; rintro e w' ⟨rfl, rfl⟩
  rw [hsh, hsz]; clear hsh hsz
  go_wp2_with fail
  refine wp_loop_rounds 1 ?_
  rw [rounds_succ]
  go_wp2_with fail
  refine (right_any _ _).mono ?_; rintro e w' ⟨rfl, rfl⟩
  rw [hr]
  go_wp2_with fail
  refine (width_any _ _).mono ?_; rintro e w' ⟨rfl, rfl⟩
  rw [hw]
  go_wp2_with fail
  go_ret3
  exact ⟨rfl, hB⟩

set_option maxHeartbeats 400000 in
/-- 2 bytes, the 2th does not follow. -/
theorem nx2_f1 (s : ByteArray) (k : Nat) (w : World) (hs : s.size ≤ 9223372036854775807) (hk : k < s.size) (b0 : Int) (hb0 : (s[k].toNat : Int) = b0) (h0 : 192 ≤ b0) (h1 : b0 < 224) (hm : k + 2 ≤ s.size) (c1 : Int) (hc1 : byt s (k + 1 + 0) = c1) (lo1 : 0 ≤ c1) (hi1 : c1 ≤ 255)  (f1 : followsB c1 = false) :
    Calls Tryz.prog 89 #[.string s, .int .i64 k] w fun e w' => e = .returned (.tuple #[.int .i64 0, .int .i64 0, .int .i64 1]) ∧ Below w.heap.size w w' := by
  have hsh : shareI b0 = b0 - 192 := by unfold shareI; rw [if_neg (by omega), if_neg (by omega), if_neg (by omega), if_neg (by omega)]
  have hsz : sizeI b0 = 2 := by unfold sizeI; rw [if_neg (by omega), if_neg (by omega), if_neg (by omega), if_neg (by omega)]
  obtain ⟨cap, W, hconv, hB, hcell⟩ := conv_str w s (k + 1) (k + 2) 1 (by omega) hm
  have g1 : W.cell? ⟨w.heap.size, 0, none⟩ = some (.int .u8 c1) := by rw [hcell 0 (by omega), hc1]
  have a1 : bits .and .u8 c1 63 = c1 % 64 := and63_u8 _ lo1 hi1
  have o1 : bits .or .i64 ((b0 - 192) * 64) (c1 % 64) = (b0 - 192) * 64 + c1 % 64 := or_64 _ _ (by omega) (by omega) (by omega) (by omega)
  clear hcell hc1
  go_enter Tryz.func89, Tryz.ntmps89
  go_wp2_with fail
  refine (first_any _ _ (by omega) (by omega)).mono ?_; rintro e w' ⟨rfl, rfl⟩
  rw [hsh, hsz]; clear hsh hsz
  go_wp2_with fail
  refine wp_loop_rounds 2 ?_
  rw [rounds_succ]
  go_wp2_with fail
  refine (follows_any _ _).mono ?_; rintro e w' ⟨rfl, rfl⟩
  rw [f1]
  go_wp2_with fail
  go_ret3
  exact ⟨rfl, hB⟩

set_option maxHeartbeats 400000 in
/-- 2 bytes that say no sign. -/
theorem nx2_r (s : ByteArray) (k : Nat) (w : World) (hs : s.size ≤ 9223372036854775807) (hk : k < s.size) (b0 : Int) (hb0 : (s[k].toNat : Int) = b0) (h0 : 192 ≤ b0) (h1 : b0 < 224) (hm : k + 2 ≤ s.size) (c1 : Int) (hc1 : byt s (k + 1 + 0) = c1) (lo1 : 0 ≤ c1) (hi1 : c1 ≤ 255) (f1 : followsB c1 = true) (hr : rightB ((b0 - 192) * 64 + c1 % 64) = false) :
    Calls Tryz.prog 89 #[.string s, .int .i64 k] w fun e w' => e = .returned (.tuple #[.int .i64 0, .int .i64 0, .int .i64 1]) ∧ Below w.heap.size w w' := by
  have hsh : shareI b0 = b0 - 192 := by unfold shareI; rw [if_neg (by omega), if_neg (by omega), if_neg (by omega), if_neg (by omega)]
  have hsz : sizeI b0 = 2 := by unfold sizeI; rw [if_neg (by omega), if_neg (by omega), if_neg (by omega), if_neg (by omega)]
  obtain ⟨cap, W, hconv, hB, hcell⟩ := conv_str w s (k + 1) (k + 2) 1 (by omega) hm
  have g1 : W.cell? ⟨w.heap.size, 0, none⟩ = some (.int .u8 c1) := by rw [hcell 0 (by omega), hc1]
  have a1 : bits .and .u8 c1 63 = c1 % 64 := and63_u8 _ lo1 hi1
  have o1 : bits .or .i64 ((b0 - 192) * 64) (c1 % 64) = (b0 - 192) * 64 + c1 % 64 := or_64 _ _ (by omega) (by omega) (by omega) (by omega)
  clear hcell hc1
  go_enter Tryz.func89, Tryz.ntmps89
  go_wp2_with fail
  refine (first_any _ _ (by omega) (by omega)).mono ?_; rintro e w' ⟨rfl, rfl⟩
  rw [hsh, hsz]; clear hsh hsz
  go_wp2_with fail
  refine wp_loop_rounds 2 ?_
  rw [rounds_succ]
  go_wp2_with fail
  refine (follows_any _ _).mono ?_; rintro e w' ⟨rfl, rfl⟩
  rw [f1]
  go_wp2_with fail
  rw [rounds_succ]
  go_wp2_with fail
  refine (right_any _ _).mono ?_; rintro e w' ⟨rfl, rfl⟩
  rw [hr]
  go_wp2_with fail
  go_ret3
  exact ⟨rfl, hB⟩

set_option maxHeartbeats 400000 in
/-- 2 bytes for a sign that has fewer. -/
theorem nx2_w (s : ByteArray) (k : Nat) (w : World) (hs : s.size ≤ 9223372036854775807) (hk : k < s.size) (b0 : Int) (hb0 : (s[k].toNat : Int) = b0) (h0 : 192 ≤ b0) (h1 : b0 < 224) (hm : k + 2 ≤ s.size) (c1 : Int) (hc1 : byt s (k + 1 + 0) = c1) (lo1 : 0 ≤ c1) (hi1 : c1 ≤ 255) (f1 : followsB c1 = true) (hr : rightB ((b0 - 192) * 64 + c1 % 64) = true) (hw : wid ((b0 - 192) * 64 + c1 % 64) ≠ 2) :
    Calls Tryz.prog 89 #[.string s, .int .i64 k] w fun e w' => e = .returned (.tuple #[.int .i64 0, .int .i64 0, .int .i64 1]) ∧ Below w.heap.size w w' := by
  obtain ⟨x, hx⟩ : ∃ x : Nat, wid ((b0 - 192) * 64 + c1 % 64) = x := ⟨_, rfl⟩
  rw [hx] at hw
  have hne : ((x : Int) == 2) = false := by simp; omega
  have hsh : shareI b0 = b0 - 192 := by unfold shareI; rw [if_neg (by omega), if_neg (by omega), if_neg (by omega), if_neg (by omega)]
  have hsz : sizeI b0 = 2 := by unfold sizeI; rw [if_neg (by omega), if_neg (by omega), if_neg (by omega), if_neg (by omega)]
  obtain ⟨cap, W, hconv, hB, hcell⟩ := conv_str w s (k + 1) (k + 2) 1 (by omega) hm
  have g1 : W.cell? ⟨w.heap.size, 0, none⟩ = some (.int .u8 c1) := by rw [hcell 0 (by omega), hc1]
  have a1 : bits .and .u8 c1 63 = c1 % 64 := and63_u8 _ lo1 hi1
  have o1 : bits .or .i64 ((b0 - 192) * 64) (c1 % 64) = (b0 - 192) * 64 + c1 % 64 := or_64 _ _ (by omega) (by omega) (by omega) (by omega)
  clear hcell hc1
  go_enter Tryz.func89, Tryz.ntmps89
  go_wp2_with fail
  refine (first_any _ _ (by omega) (by omega)).mono ?_; rintro e w' ⟨rfl, rfl⟩
  rw [hsh, hsz]; clear hsh hsz
  go_wp2_with fail
  refine wp_loop_rounds 2 ?_
  rw [rounds_succ]
  go_wp2_with fail
  refine (follows_any _ _).mono ?_; rintro e w' ⟨rfl, rfl⟩
  rw [f1]
  go_wp2_with fail
  rw [rounds_succ]
  go_wp2_with fail
  refine (right_any _ _).mono ?_; rintro e w' ⟨rfl, rfl⟩
  rw [hr]
  go_wp2_with fail
  refine (width_any _ _).mono ?_; rintro e w' ⟨rfl, rfl⟩
  rw [hx]; clear hx
  go_wp2_with fail
  go_ret3
  exact ⟨rfl, hB⟩

set_option maxHeartbeats 400000 in
/-- 2 bytes of a sign. -/
theorem nx2_ok (s : ByteArray) (k : Nat) (w : World) (hs : s.size ≤ 9223372036854775807) (hk : k < s.size) (b0 : Int) (hb0 : (s[k].toNat : Int) = b0) (h0 : 192 ≤ b0) (h1 : b0 < 224) (hm : k + 2 ≤ s.size) (c1 : Int) (hc1 : byt s (k + 1 + 0) = c1) (lo1 : 0 ≤ c1) (hi1 : c1 ≤ 255) (f1 : followsB c1 = true) (hr : rightB ((b0 - 192) * 64 + c1 % 64) = true) (hw : wid ((b0 - 192) * 64 + c1 % 64) = 2) :
    Calls Tryz.prog 89 #[.string s, .int .i64 k] w fun e w' => e = .returned (.tuple #[.int .i64 ((b0 - 192) * 64 + c1 % 64), .int .i64 2, .int .i64 0]) ∧ Below w.heap.size w w' := by
  have hsh : shareI b0 = b0 - 192 := by unfold shareI; rw [if_neg (by omega), if_neg (by omega), if_neg (by omega), if_neg (by omega)]
  have hsz : sizeI b0 = 2 := by unfold sizeI; rw [if_neg (by omega), if_neg (by omega), if_neg (by omega), if_neg (by omega)]
  obtain ⟨cap, W, hconv, hB, hcell⟩ := conv_str w s (k + 1) (k + 2) 1 (by omega) hm
  have g1 : W.cell? ⟨w.heap.size, 0, none⟩ = some (.int .u8 c1) := by rw [hcell 0 (by omega), hc1]
  have a1 : bits .and .u8 c1 63 = c1 % 64 := and63_u8 _ lo1 hi1
  have o1 : bits .or .i64 ((b0 - 192) * 64) (c1 % 64) = (b0 - 192) * 64 + c1 % 64 := or_64 _ _ (by omega) (by omega) (by omega) (by omega)
  clear hcell hc1
  go_enter Tryz.func89, Tryz.ntmps89
  go_wp2_with fail
  refine (first_any _ _ (by omega) (by omega)).mono ?_; rintro e w' ⟨rfl, rfl⟩
  rw [hsh, hsz]; clear hsh hsz
  go_wp2_with fail
  refine wp_loop_rounds 2 ?_
  rw [rounds_succ]
  go_wp2_with fail
  refine (follows_any _ _).mono ?_; rintro e w' ⟨rfl, rfl⟩
  rw [f1]
  go_wp2_with fail
  rw [rounds_succ]
  go_wp2_with fail
  refine (right_any _ _).mono ?_; rintro e w' ⟨rfl, rfl⟩
  rw [hr]
  go_wp2_with fail
  refine (width_any _ _).mono ?_; rintro e w' ⟨rfl, rfl⟩
  rw [hw]
  go_wp2_with fail
  go_ret3
  exact ⟨rfl, hB⟩

set_option maxHeartbeats 400000 in
/-- 3 bytes, the 2th does not follow. -/
theorem nx3_f1 (s : ByteArray) (k : Nat) (w : World) (hs : s.size ≤ 9223372036854775807) (hk : k < s.size) (b0 : Int) (hb0 : (s[k].toNat : Int) = b0) (h0 : 224 ≤ b0) (h1 : b0 < 240) (hm : k + 3 ≤ s.size) (c1 c2 : Int) (hc1 : byt s (k + 1 + 0) = c1) (lo1 : 0 ≤ c1) (hi1 : c1 ≤ 255) (hc2 : byt s (k + 1 + 1) = c2) (lo2 : 0 ≤ c2) (hi2 : c2 ≤ 255)  (f1 : followsB c1 = false) :
    Calls Tryz.prog 89 #[.string s, .int .i64 k] w fun e w' => e = .returned (.tuple #[.int .i64 0, .int .i64 0, .int .i64 1]) ∧ Below w.heap.size w w' := by
  have hsh : shareI b0 = b0 - 224 := by unfold shareI; rw [if_neg (by omega), if_neg (by omega), if_neg (by omega), if_pos (by omega)]
  have hsz : sizeI b0 = 3 := by unfold sizeI; rw [if_neg (by omega), if_neg (by omega), if_neg (by omega), if_pos (by omega)]
  obtain ⟨cap, W, hconv, hB, hcell⟩ := conv_str w s (k + 1) (k + 3) 2 (by omega) hm
  have g1 : W.cell? ⟨w.heap.size, 0, none⟩ = some (.int .u8 c1) := by rw [hcell 0 (by omega), hc1]
  have a1 : bits .and .u8 c1 63 = c1 % 64 := and63_u8 _ lo1 hi1
  have g2 : W.cell? ⟨w.heap.size, 1, none⟩ = some (.int .u8 c2) := by rw [hcell 1 (by omega), hc2]
  have a2 : bits .and .u8 c2 63 = c2 % 64 := and63_u8 _ lo2 hi2
  have o1 : bits .or .i64 ((b0 - 224) * 64) (c1 % 64) = (b0 - 224) * 64 + c1 % 64 := or_64 _ _ (by omega) (by omega) (by omega) (by omega)
  have o2 : bits .or .i64 (((b0 - 224) * 64 + c1 % 64) * 64) (c2 % 64) = ((b0 - 224) * 64 + c1 % 64) * 64 + c2 % 64 := or_64 _ _ (by omega) (by omega) (by omega) (by omega)
  clear hcell hc1 hc2
  go_enter Tryz.func89, Tryz.ntmps89
  go_wp2_with fail
  refine (first_any _ _ (by omega) (by omega)).mono ?_; rintro e w' ⟨rfl, rfl⟩
  rw [hsh, hsz]; clear hsh hsz
  go_wp2_with fail
  refine wp_loop_rounds 3 ?_
  rw [rounds_succ]
  go_wp2_with fail
  refine (follows_any _ _).mono ?_; rintro e w' ⟨rfl, rfl⟩
  rw [f1]
  go_wp2_with fail
  go_ret3
  exact ⟨rfl, hB⟩

set_option maxHeartbeats 400000 in
/-- 3 bytes, the 3th does not follow. -/
theorem nx3_f2 (s : ByteArray) (k : Nat) (w : World) (hs : s.size ≤ 9223372036854775807) (hk : k < s.size) (b0 : Int) (hb0 : (s[k].toNat : Int) = b0) (h0 : 224 ≤ b0) (h1 : b0 < 240) (hm : k + 3 ≤ s.size) (c1 c2 : Int) (hc1 : byt s (k + 1 + 0) = c1) (lo1 : 0 ≤ c1) (hi1 : c1 ≤ 255) (hc2 : byt s (k + 1 + 1) = c2) (lo2 : 0 ≤ c2) (hi2 : c2 ≤ 255) (f1 : followsB c1 = true) (f2 : followsB c2 = false) :
    Calls Tryz.prog 89 #[.string s, .int .i64 k] w fun e w' => e = .returned (.tuple #[.int .i64 0, .int .i64 0, .int .i64 1]) ∧ Below w.heap.size w w' := by
  have hsh : shareI b0 = b0 - 224 := by unfold shareI; rw [if_neg (by omega), if_neg (by omega), if_neg (by omega), if_pos (by omega)]
  have hsz : sizeI b0 = 3 := by unfold sizeI; rw [if_neg (by omega), if_neg (by omega), if_neg (by omega), if_pos (by omega)]
  obtain ⟨cap, W, hconv, hB, hcell⟩ := conv_str w s (k + 1) (k + 3) 2 (by omega) hm
  have g1 : W.cell? ⟨w.heap.size, 0, none⟩ = some (.int .u8 c1) := by rw [hcell 0 (by omega), hc1]
  have a1 : bits .and .u8 c1 63 = c1 % 64 := and63_u8 _ lo1 hi1
  have g2 : W.cell? ⟨w.heap.size, 1, none⟩ = some (.int .u8 c2) := by rw [hcell 1 (by omega), hc2]
  have a2 : bits .and .u8 c2 63 = c2 % 64 := and63_u8 _ lo2 hi2
  have o1 : bits .or .i64 ((b0 - 224) * 64) (c1 % 64) = (b0 - 224) * 64 + c1 % 64 := or_64 _ _ (by omega) (by omega) (by omega) (by omega)
  have o2 : bits .or .i64 (((b0 - 224) * 64 + c1 % 64) * 64) (c2 % 64) = ((b0 - 224) * 64 + c1 % 64) * 64 + c2 % 64 := or_64 _ _ (by omega) (by omega) (by omega) (by omega)
  clear hcell hc1 hc2
  go_enter Tryz.func89, Tryz.ntmps89
  go_wp2_with fail
  refine (first_any _ _ (by omega) (by omega)).mono ?_; rintro e w' ⟨rfl, rfl⟩
  rw [hsh, hsz]; clear hsh hsz
  go_wp2_with fail
  refine wp_loop_rounds 3 ?_
  rw [rounds_succ]
  go_wp2_with fail
  refine (follows_any _ _).mono ?_; rintro e w' ⟨rfl, rfl⟩
  rw [f1]
  go_wp2_with fail
  rw [rounds_succ]
  go_wp2_with fail
  refine (follows_any _ _).mono ?_; rintro e w' ⟨rfl, rfl⟩
  rw [f2]
  go_wp2_with fail
  go_ret3
  exact ⟨rfl, hB⟩

set_option maxHeartbeats 400000 in
/-- 3 bytes that say no sign. -/
theorem nx3_r (s : ByteArray) (k : Nat) (w : World) (hs : s.size ≤ 9223372036854775807) (hk : k < s.size) (b0 : Int) (hb0 : (s[k].toNat : Int) = b0) (h0 : 224 ≤ b0) (h1 : b0 < 240) (hm : k + 3 ≤ s.size) (c1 c2 : Int) (hc1 : byt s (k + 1 + 0) = c1) (lo1 : 0 ≤ c1) (hi1 : c1 ≤ 255) (hc2 : byt s (k + 1 + 1) = c2) (lo2 : 0 ≤ c2) (hi2 : c2 ≤ 255) (f1 : followsB c1 = true) (f2 : followsB c2 = true) (hr : rightB (((b0 - 224) * 64 + c1 % 64) * 64 + c2 % 64) = false) :
    Calls Tryz.prog 89 #[.string s, .int .i64 k] w fun e w' => e = .returned (.tuple #[.int .i64 0, .int .i64 0, .int .i64 1]) ∧ Below w.heap.size w w' := by
  have hsh : shareI b0 = b0 - 224 := by unfold shareI; rw [if_neg (by omega), if_neg (by omega), if_neg (by omega), if_pos (by omega)]
  have hsz : sizeI b0 = 3 := by unfold sizeI; rw [if_neg (by omega), if_neg (by omega), if_neg (by omega), if_pos (by omega)]
  obtain ⟨cap, W, hconv, hB, hcell⟩ := conv_str w s (k + 1) (k + 3) 2 (by omega) hm
  have g1 : W.cell? ⟨w.heap.size, 0, none⟩ = some (.int .u8 c1) := by rw [hcell 0 (by omega), hc1]
  have a1 : bits .and .u8 c1 63 = c1 % 64 := and63_u8 _ lo1 hi1
  have g2 : W.cell? ⟨w.heap.size, 1, none⟩ = some (.int .u8 c2) := by rw [hcell 1 (by omega), hc2]
  have a2 : bits .and .u8 c2 63 = c2 % 64 := and63_u8 _ lo2 hi2
  have o1 : bits .or .i64 ((b0 - 224) * 64) (c1 % 64) = (b0 - 224) * 64 + c1 % 64 := or_64 _ _ (by omega) (by omega) (by omega) (by omega)
  have o2 : bits .or .i64 (((b0 - 224) * 64 + c1 % 64) * 64) (c2 % 64) = ((b0 - 224) * 64 + c1 % 64) * 64 + c2 % 64 := or_64 _ _ (by omega) (by omega) (by omega) (by omega)
  clear hcell hc1 hc2
  go_enter Tryz.func89, Tryz.ntmps89
  go_wp2_with fail
  refine (first_any _ _ (by omega) (by omega)).mono ?_; rintro e w' ⟨rfl, rfl⟩
  rw [hsh, hsz]; clear hsh hsz
  go_wp2_with fail
  refine wp_loop_rounds 3 ?_
  rw [rounds_succ]
  go_wp2_with fail
  refine (follows_any _ _).mono ?_; rintro e w' ⟨rfl, rfl⟩
  rw [f1]
  go_wp2_with fail
  rw [rounds_succ]
  go_wp2_with fail
  refine (follows_any _ _).mono ?_; rintro e w' ⟨rfl, rfl⟩
  rw [f2]
  go_wp2_with fail
  rw [rounds_succ]
  go_wp2_with fail
  refine (right_any _ _).mono ?_; rintro e w' ⟨rfl, rfl⟩
  rw [hr]
  go_wp2_with fail
  go_ret3
  exact ⟨rfl, hB⟩

set_option maxHeartbeats 400000 in
/-- 3 bytes for a sign that has fewer. -/
theorem nx3_w (s : ByteArray) (k : Nat) (w : World) (hs : s.size ≤ 9223372036854775807) (hk : k < s.size) (b0 : Int) (hb0 : (s[k].toNat : Int) = b0) (h0 : 224 ≤ b0) (h1 : b0 < 240) (hm : k + 3 ≤ s.size) (c1 c2 : Int) (hc1 : byt s (k + 1 + 0) = c1) (lo1 : 0 ≤ c1) (hi1 : c1 ≤ 255) (hc2 : byt s (k + 1 + 1) = c2) (lo2 : 0 ≤ c2) (hi2 : c2 ≤ 255) (f1 : followsB c1 = true) (f2 : followsB c2 = true) (hr : rightB (((b0 - 224) * 64 + c1 % 64) * 64 + c2 % 64) = true) (hw : wid (((b0 - 224) * 64 + c1 % 64) * 64 + c2 % 64) ≠ 3) :
    Calls Tryz.prog 89 #[.string s, .int .i64 k] w fun e w' => e = .returned (.tuple #[.int .i64 0, .int .i64 0, .int .i64 1]) ∧ Below w.heap.size w w' := by
  obtain ⟨x, hx⟩ : ∃ x : Nat, wid (((b0 - 224) * 64 + c1 % 64) * 64 + c2 % 64) = x := ⟨_, rfl⟩
  rw [hx] at hw
  have hne : ((x : Int) == 3) = false := by simp; omega
  have hsh : shareI b0 = b0 - 224 := by unfold shareI; rw [if_neg (by omega), if_neg (by omega), if_neg (by omega), if_pos (by omega)]
  have hsz : sizeI b0 = 3 := by unfold sizeI; rw [if_neg (by omega), if_neg (by omega), if_neg (by omega), if_pos (by omega)]
  obtain ⟨cap, W, hconv, hB, hcell⟩ := conv_str w s (k + 1) (k + 3) 2 (by omega) hm
  have g1 : W.cell? ⟨w.heap.size, 0, none⟩ = some (.int .u8 c1) := by rw [hcell 0 (by omega), hc1]
  have a1 : bits .and .u8 c1 63 = c1 % 64 := and63_u8 _ lo1 hi1
  have g2 : W.cell? ⟨w.heap.size, 1, none⟩ = some (.int .u8 c2) := by rw [hcell 1 (by omega), hc2]
  have a2 : bits .and .u8 c2 63 = c2 % 64 := and63_u8 _ lo2 hi2
  have o1 : bits .or .i64 ((b0 - 224) * 64) (c1 % 64) = (b0 - 224) * 64 + c1 % 64 := or_64 _ _ (by omega) (by omega) (by omega) (by omega)
  have o2 : bits .or .i64 (((b0 - 224) * 64 + c1 % 64) * 64) (c2 % 64) = ((b0 - 224) * 64 + c1 % 64) * 64 + c2 % 64 := or_64 _ _ (by omega) (by omega) (by omega) (by omega)
  clear hcell hc1 hc2
  go_enter Tryz.func89, Tryz.ntmps89
  go_wp2_with fail
  refine (first_any _ _ (by omega) (by omega)).mono ?_; rintro e w' ⟨rfl, rfl⟩
  rw [hsh, hsz]; clear hsh hsz
  go_wp2_with fail
  refine wp_loop_rounds 3 ?_
  rw [rounds_succ]
  go_wp2_with fail
  refine (follows_any _ _).mono ?_; rintro e w' ⟨rfl, rfl⟩
  rw [f1]
  go_wp2_with fail
  rw [rounds_succ]
  go_wp2_with fail
  refine (follows_any _ _).mono ?_; rintro e w' ⟨rfl, rfl⟩
  rw [f2]
  go_wp2_with fail
  rw [rounds_succ]
  go_wp2_with fail
  refine (right_any _ _).mono ?_; rintro e w' ⟨rfl, rfl⟩
  rw [hr]
  go_wp2_with fail
  refine (width_any _ _).mono ?_; rintro e w' ⟨rfl, rfl⟩
  rw [hx]; clear hx
  go_wp2_with fail
  go_ret3
  exact ⟨rfl, hB⟩

set_option maxHeartbeats 400000 in
/-- 3 bytes of a sign. -/
theorem nx3_ok (s : ByteArray) (k : Nat) (w : World) (hs : s.size ≤ 9223372036854775807) (hk : k < s.size) (b0 : Int) (hb0 : (s[k].toNat : Int) = b0) (h0 : 224 ≤ b0) (h1 : b0 < 240) (hm : k + 3 ≤ s.size) (c1 c2 : Int) (hc1 : byt s (k + 1 + 0) = c1) (lo1 : 0 ≤ c1) (hi1 : c1 ≤ 255) (hc2 : byt s (k + 1 + 1) = c2) (lo2 : 0 ≤ c2) (hi2 : c2 ≤ 255) (f1 : followsB c1 = true) (f2 : followsB c2 = true) (hr : rightB (((b0 - 224) * 64 + c1 % 64) * 64 + c2 % 64) = true) (hw : wid (((b0 - 224) * 64 + c1 % 64) * 64 + c2 % 64) = 3) :
    Calls Tryz.prog 89 #[.string s, .int .i64 k] w fun e w' => e = .returned (.tuple #[.int .i64 (((b0 - 224) * 64 + c1 % 64) * 64 + c2 % 64), .int .i64 3, .int .i64 0]) ∧ Below w.heap.size w w' := by
  have hsh : shareI b0 = b0 - 224 := by unfold shareI; rw [if_neg (by omega), if_neg (by omega), if_neg (by omega), if_pos (by omega)]
  have hsz : sizeI b0 = 3 := by unfold sizeI; rw [if_neg (by omega), if_neg (by omega), if_neg (by omega), if_pos (by omega)]
  obtain ⟨cap, W, hconv, hB, hcell⟩ := conv_str w s (k + 1) (k + 3) 2 (by omega) hm
  have g1 : W.cell? ⟨w.heap.size, 0, none⟩ = some (.int .u8 c1) := by rw [hcell 0 (by omega), hc1]
  have a1 : bits .and .u8 c1 63 = c1 % 64 := and63_u8 _ lo1 hi1
  have g2 : W.cell? ⟨w.heap.size, 1, none⟩ = some (.int .u8 c2) := by rw [hcell 1 (by omega), hc2]
  have a2 : bits .and .u8 c2 63 = c2 % 64 := and63_u8 _ lo2 hi2
  have o1 : bits .or .i64 ((b0 - 224) * 64) (c1 % 64) = (b0 - 224) * 64 + c1 % 64 := or_64 _ _ (by omega) (by omega) (by omega) (by omega)
  have o2 : bits .or .i64 (((b0 - 224) * 64 + c1 % 64) * 64) (c2 % 64) = ((b0 - 224) * 64 + c1 % 64) * 64 + c2 % 64 := or_64 _ _ (by omega) (by omega) (by omega) (by omega)
  clear hcell hc1 hc2
  go_enter Tryz.func89, Tryz.ntmps89
  go_wp2_with fail
  refine (first_any _ _ (by omega) (by omega)).mono ?_; rintro e w' ⟨rfl, rfl⟩
  rw [hsh, hsz]; clear hsh hsz
  go_wp2_with fail
  refine wp_loop_rounds 3 ?_
  rw [rounds_succ]
  go_wp2_with fail
  refine (follows_any _ _).mono ?_; rintro e w' ⟨rfl, rfl⟩
  rw [f1]
  go_wp2_with fail
  rw [rounds_succ]
  go_wp2_with fail
  refine (follows_any _ _).mono ?_; rintro e w' ⟨rfl, rfl⟩
  rw [f2]
  go_wp2_with fail
  rw [rounds_succ]
  go_wp2_with fail
  refine (right_any _ _).mono ?_; rintro e w' ⟨rfl, rfl⟩
  rw [hr]
  go_wp2_with fail
  refine (width_any _ _).mono ?_; rintro e w' ⟨rfl, rfl⟩
  rw [hw]
  go_wp2_with fail
  go_ret3
  exact ⟨rfl, hB⟩

set_option maxHeartbeats 400000 in
/-- 4 bytes, the 2th does not follow. -/
theorem nx4_f1 (s : ByteArray) (k : Nat) (w : World) (hs : s.size ≤ 9223372036854775807) (hk : k < s.size) (b0 : Int) (hb0 : (s[k].toNat : Int) = b0) (h0 : 240 ≤ b0) (h1 : b0 < 248) (hm : k + 4 ≤ s.size) (c1 c2 c3 : Int) (hc1 : byt s (k + 1 + 0) = c1) (lo1 : 0 ≤ c1) (hi1 : c1 ≤ 255) (hc2 : byt s (k + 1 + 1) = c2) (lo2 : 0 ≤ c2) (hi2 : c2 ≤ 255) (hc3 : byt s (k + 1 + 2) = c3) (lo3 : 0 ≤ c3) (hi3 : c3 ≤ 255)  (f1 : followsB c1 = false) :
    Calls Tryz.prog 89 #[.string s, .int .i64 k] w fun e w' => e = .returned (.tuple #[.int .i64 0, .int .i64 0, .int .i64 1]) ∧ Below w.heap.size w w' := by
  have hsh : shareI b0 = b0 - 240 := by unfold shareI; rw [if_neg (by omega), if_neg (by omega), if_pos (by omega)]
  have hsz : sizeI b0 = 4 := by unfold sizeI; rw [if_neg (by omega), if_neg (by omega), if_pos (by omega)]
  obtain ⟨cap, W, hconv, hB, hcell⟩ := conv_str w s (k + 1) (k + 4) 3 (by omega) hm
  have g1 : W.cell? ⟨w.heap.size, 0, none⟩ = some (.int .u8 c1) := by rw [hcell 0 (by omega), hc1]
  have a1 : bits .and .u8 c1 63 = c1 % 64 := and63_u8 _ lo1 hi1
  have g2 : W.cell? ⟨w.heap.size, 1, none⟩ = some (.int .u8 c2) := by rw [hcell 1 (by omega), hc2]
  have a2 : bits .and .u8 c2 63 = c2 % 64 := and63_u8 _ lo2 hi2
  have g3 : W.cell? ⟨w.heap.size, 2, none⟩ = some (.int .u8 c3) := by rw [hcell 2 (by omega), hc3]
  have a3 : bits .and .u8 c3 63 = c3 % 64 := and63_u8 _ lo3 hi3
  have o1 : bits .or .i64 ((b0 - 240) * 64) (c1 % 64) = (b0 - 240) * 64 + c1 % 64 := or_64 _ _ (by omega) (by omega) (by omega) (by omega)
  have o2 : bits .or .i64 (((b0 - 240) * 64 + c1 % 64) * 64) (c2 % 64) = ((b0 - 240) * 64 + c1 % 64) * 64 + c2 % 64 := or_64 _ _ (by omega) (by omega) (by omega) (by omega)
  have o3 : bits .or .i64 ((((b0 - 240) * 64 + c1 % 64) * 64 + c2 % 64) * 64) (c3 % 64) = (((b0 - 240) * 64 + c1 % 64) * 64 + c2 % 64) * 64 + c3 % 64 := or_64 _ _ (by omega) (by omega) (by omega) (by omega)
  clear hcell hc1 hc2 hc3
  go_enter Tryz.func89, Tryz.ntmps89
  go_wp2_with fail
  refine (first_any _ _ (by omega) (by omega)).mono ?_; rintro e w' ⟨rfl, rfl⟩
  rw [hsh, hsz]; clear hsh hsz
  go_wp2_with fail
  refine wp_loop_rounds 4 ?_
  rw [rounds_succ]
  go_wp2_with fail
  refine (follows_any _ _).mono ?_; rintro e w' ⟨rfl, rfl⟩
  rw [f1]
  go_wp2_with fail
  go_ret3
  exact ⟨rfl, hB⟩

set_option maxHeartbeats 400000 in
/-- 4 bytes, the 3th does not follow. -/
theorem nx4_f2 (s : ByteArray) (k : Nat) (w : World) (hs : s.size ≤ 9223372036854775807) (hk : k < s.size) (b0 : Int) (hb0 : (s[k].toNat : Int) = b0) (h0 : 240 ≤ b0) (h1 : b0 < 248) (hm : k + 4 ≤ s.size) (c1 c2 c3 : Int) (hc1 : byt s (k + 1 + 0) = c1) (lo1 : 0 ≤ c1) (hi1 : c1 ≤ 255) (hc2 : byt s (k + 1 + 1) = c2) (lo2 : 0 ≤ c2) (hi2 : c2 ≤ 255) (hc3 : byt s (k + 1 + 2) = c3) (lo3 : 0 ≤ c3) (hi3 : c3 ≤ 255) (f1 : followsB c1 = true) (f2 : followsB c2 = false) :
    Calls Tryz.prog 89 #[.string s, .int .i64 k] w fun e w' => e = .returned (.tuple #[.int .i64 0, .int .i64 0, .int .i64 1]) ∧ Below w.heap.size w w' := by
  have hsh : shareI b0 = b0 - 240 := by unfold shareI; rw [if_neg (by omega), if_neg (by omega), if_pos (by omega)]
  have hsz : sizeI b0 = 4 := by unfold sizeI; rw [if_neg (by omega), if_neg (by omega), if_pos (by omega)]
  obtain ⟨cap, W, hconv, hB, hcell⟩ := conv_str w s (k + 1) (k + 4) 3 (by omega) hm
  have g1 : W.cell? ⟨w.heap.size, 0, none⟩ = some (.int .u8 c1) := by rw [hcell 0 (by omega), hc1]
  have a1 : bits .and .u8 c1 63 = c1 % 64 := and63_u8 _ lo1 hi1
  have g2 : W.cell? ⟨w.heap.size, 1, none⟩ = some (.int .u8 c2) := by rw [hcell 1 (by omega), hc2]
  have a2 : bits .and .u8 c2 63 = c2 % 64 := and63_u8 _ lo2 hi2
  have g3 : W.cell? ⟨w.heap.size, 2, none⟩ = some (.int .u8 c3) := by rw [hcell 2 (by omega), hc3]
  have a3 : bits .and .u8 c3 63 = c3 % 64 := and63_u8 _ lo3 hi3
  have o1 : bits .or .i64 ((b0 - 240) * 64) (c1 % 64) = (b0 - 240) * 64 + c1 % 64 := or_64 _ _ (by omega) (by omega) (by omega) (by omega)
  have o2 : bits .or .i64 (((b0 - 240) * 64 + c1 % 64) * 64) (c2 % 64) = ((b0 - 240) * 64 + c1 % 64) * 64 + c2 % 64 := or_64 _ _ (by omega) (by omega) (by omega) (by omega)
  have o3 : bits .or .i64 ((((b0 - 240) * 64 + c1 % 64) * 64 + c2 % 64) * 64) (c3 % 64) = (((b0 - 240) * 64 + c1 % 64) * 64 + c2 % 64) * 64 + c3 % 64 := or_64 _ _ (by omega) (by omega) (by omega) (by omega)
  clear hcell hc1 hc2 hc3
  go_enter Tryz.func89, Tryz.ntmps89
  go_wp2_with fail
  refine (first_any _ _ (by omega) (by omega)).mono ?_; rintro e w' ⟨rfl, rfl⟩
  rw [hsh, hsz]; clear hsh hsz
  go_wp2_with fail
  refine wp_loop_rounds 4 ?_
  rw [rounds_succ]
  go_wp2_with fail
  refine (follows_any _ _).mono ?_; rintro e w' ⟨rfl, rfl⟩
  rw [f1]
  go_wp2_with fail
  rw [rounds_succ]
  go_wp2_with fail
  refine (follows_any _ _).mono ?_; rintro e w' ⟨rfl, rfl⟩
  rw [f2]
  go_wp2_with fail
  go_ret3
  exact ⟨rfl, hB⟩

set_option maxHeartbeats 400000 in
/-- 4 bytes, the 4th does not follow. -/
theorem nx4_f3 (s : ByteArray) (k : Nat) (w : World) (hs : s.size ≤ 9223372036854775807) (hk : k < s.size) (b0 : Int) (hb0 : (s[k].toNat : Int) = b0) (h0 : 240 ≤ b0) (h1 : b0 < 248) (hm : k + 4 ≤ s.size) (c1 c2 c3 : Int) (hc1 : byt s (k + 1 + 0) = c1) (lo1 : 0 ≤ c1) (hi1 : c1 ≤ 255) (hc2 : byt s (k + 1 + 1) = c2) (lo2 : 0 ≤ c2) (hi2 : c2 ≤ 255) (hc3 : byt s (k + 1 + 2) = c3) (lo3 : 0 ≤ c3) (hi3 : c3 ≤ 255) (f1 : followsB c1 = true) (f2 : followsB c2 = true) (f3 : followsB c3 = false) :
    Calls Tryz.prog 89 #[.string s, .int .i64 k] w fun e w' => e = .returned (.tuple #[.int .i64 0, .int .i64 0, .int .i64 1]) ∧ Below w.heap.size w w' := by
  have hsh : shareI b0 = b0 - 240 := by unfold shareI; rw [if_neg (by omega), if_neg (by omega), if_pos (by omega)]
  have hsz : sizeI b0 = 4 := by unfold sizeI; rw [if_neg (by omega), if_neg (by omega), if_pos (by omega)]
  obtain ⟨cap, W, hconv, hB, hcell⟩ := conv_str w s (k + 1) (k + 4) 3 (by omega) hm
  have g1 : W.cell? ⟨w.heap.size, 0, none⟩ = some (.int .u8 c1) := by rw [hcell 0 (by omega), hc1]
  have a1 : bits .and .u8 c1 63 = c1 % 64 := and63_u8 _ lo1 hi1
  have g2 : W.cell? ⟨w.heap.size, 1, none⟩ = some (.int .u8 c2) := by rw [hcell 1 (by omega), hc2]
  have a2 : bits .and .u8 c2 63 = c2 % 64 := and63_u8 _ lo2 hi2
  have g3 : W.cell? ⟨w.heap.size, 2, none⟩ = some (.int .u8 c3) := by rw [hcell 2 (by omega), hc3]
  have a3 : bits .and .u8 c3 63 = c3 % 64 := and63_u8 _ lo3 hi3
  have o1 : bits .or .i64 ((b0 - 240) * 64) (c1 % 64) = (b0 - 240) * 64 + c1 % 64 := or_64 _ _ (by omega) (by omega) (by omega) (by omega)
  have o2 : bits .or .i64 (((b0 - 240) * 64 + c1 % 64) * 64) (c2 % 64) = ((b0 - 240) * 64 + c1 % 64) * 64 + c2 % 64 := or_64 _ _ (by omega) (by omega) (by omega) (by omega)
  have o3 : bits .or .i64 ((((b0 - 240) * 64 + c1 % 64) * 64 + c2 % 64) * 64) (c3 % 64) = (((b0 - 240) * 64 + c1 % 64) * 64 + c2 % 64) * 64 + c3 % 64 := or_64 _ _ (by omega) (by omega) (by omega) (by omega)
  clear hcell hc1 hc2 hc3
  go_enter Tryz.func89, Tryz.ntmps89
  go_wp2_with fail
  refine (first_any _ _ (by omega) (by omega)).mono ?_; rintro e w' ⟨rfl, rfl⟩
  rw [hsh, hsz]; clear hsh hsz
  go_wp2_with fail
  refine wp_loop_rounds 4 ?_
  rw [rounds_succ]
  go_wp2_with fail
  refine (follows_any _ _).mono ?_; rintro e w' ⟨rfl, rfl⟩
  rw [f1]
  go_wp2_with fail
  rw [rounds_succ]
  go_wp2_with fail
  refine (follows_any _ _).mono ?_; rintro e w' ⟨rfl, rfl⟩
  rw [f2]
  go_wp2_with fail
  rw [rounds_succ]
  go_wp2_with fail
  refine (follows_any _ _).mono ?_; rintro e w' ⟨rfl, rfl⟩
  rw [f3]
  go_wp2_with fail
  go_ret3
  exact ⟨rfl, hB⟩

set_option maxHeartbeats 400000 in
/-- 4 bytes that say no sign. -/
theorem nx4_r (s : ByteArray) (k : Nat) (w : World) (hs : s.size ≤ 9223372036854775807) (hk : k < s.size) (b0 : Int) (hb0 : (s[k].toNat : Int) = b0) (h0 : 240 ≤ b0) (h1 : b0 < 248) (hm : k + 4 ≤ s.size) (c1 c2 c3 : Int) (hc1 : byt s (k + 1 + 0) = c1) (lo1 : 0 ≤ c1) (hi1 : c1 ≤ 255) (hc2 : byt s (k + 1 + 1) = c2) (lo2 : 0 ≤ c2) (hi2 : c2 ≤ 255) (hc3 : byt s (k + 1 + 2) = c3) (lo3 : 0 ≤ c3) (hi3 : c3 ≤ 255) (f1 : followsB c1 = true) (f2 : followsB c2 = true) (f3 : followsB c3 = true) (hr : rightB ((((b0 - 240) * 64 + c1 % 64) * 64 + c2 % 64) * 64 + c3 % 64) = false) :
    Calls Tryz.prog 89 #[.string s, .int .i64 k] w fun e w' => e = .returned (.tuple #[.int .i64 0, .int .i64 0, .int .i64 1]) ∧ Below w.heap.size w w' := by
  have hsh : shareI b0 = b0 - 240 := by unfold shareI; rw [if_neg (by omega), if_neg (by omega), if_pos (by omega)]
  have hsz : sizeI b0 = 4 := by unfold sizeI; rw [if_neg (by omega), if_neg (by omega), if_pos (by omega)]
  obtain ⟨cap, W, hconv, hB, hcell⟩ := conv_str w s (k + 1) (k + 4) 3 (by omega) hm
  have g1 : W.cell? ⟨w.heap.size, 0, none⟩ = some (.int .u8 c1) := by rw [hcell 0 (by omega), hc1]
  have a1 : bits .and .u8 c1 63 = c1 % 64 := and63_u8 _ lo1 hi1
  have g2 : W.cell? ⟨w.heap.size, 1, none⟩ = some (.int .u8 c2) := by rw [hcell 1 (by omega), hc2]
  have a2 : bits .and .u8 c2 63 = c2 % 64 := and63_u8 _ lo2 hi2
  have g3 : W.cell? ⟨w.heap.size, 2, none⟩ = some (.int .u8 c3) := by rw [hcell 2 (by omega), hc3]
  have a3 : bits .and .u8 c3 63 = c3 % 64 := and63_u8 _ lo3 hi3
  have o1 : bits .or .i64 ((b0 - 240) * 64) (c1 % 64) = (b0 - 240) * 64 + c1 % 64 := or_64 _ _ (by omega) (by omega) (by omega) (by omega)
  have o2 : bits .or .i64 (((b0 - 240) * 64 + c1 % 64) * 64) (c2 % 64) = ((b0 - 240) * 64 + c1 % 64) * 64 + c2 % 64 := or_64 _ _ (by omega) (by omega) (by omega) (by omega)
  have o3 : bits .or .i64 ((((b0 - 240) * 64 + c1 % 64) * 64 + c2 % 64) * 64) (c3 % 64) = (((b0 - 240) * 64 + c1 % 64) * 64 + c2 % 64) * 64 + c3 % 64 := or_64 _ _ (by omega) (by omega) (by omega) (by omega)
  clear hcell hc1 hc2 hc3
  go_enter Tryz.func89, Tryz.ntmps89
  go_wp2_with fail
  refine (first_any _ _ (by omega) (by omega)).mono ?_; rintro e w' ⟨rfl, rfl⟩
  rw [hsh, hsz]; clear hsh hsz
  go_wp2_with fail
  refine wp_loop_rounds 4 ?_
  rw [rounds_succ]
  go_wp2_with fail
  refine (follows_any _ _).mono ?_; rintro e w' ⟨rfl, rfl⟩
  rw [f1]
  go_wp2_with fail
  rw [rounds_succ]
  go_wp2_with fail
  refine (follows_any _ _).mono ?_; rintro e w' ⟨rfl, rfl⟩
  rw [f2]
  go_wp2_with fail
  rw [rounds_succ]
  go_wp2_with fail
  refine (follows_any _ _).mono ?_; rintro e w' ⟨rfl, rfl⟩
  rw [f3]
  go_wp2_with fail
  rw [rounds_succ]
  go_wp2_with fail
  refine (right_any _ _).mono ?_; rintro e w' ⟨rfl, rfl⟩
  rw [hr]
  go_wp2_with fail
  go_ret3
  exact ⟨rfl, hB⟩

set_option maxHeartbeats 400000 in
/-- 4 bytes for a sign that has fewer. -/
theorem nx4_w (s : ByteArray) (k : Nat) (w : World) (hs : s.size ≤ 9223372036854775807) (hk : k < s.size) (b0 : Int) (hb0 : (s[k].toNat : Int) = b0) (h0 : 240 ≤ b0) (h1 : b0 < 248) (hm : k + 4 ≤ s.size) (c1 c2 c3 : Int) (hc1 : byt s (k + 1 + 0) = c1) (lo1 : 0 ≤ c1) (hi1 : c1 ≤ 255) (hc2 : byt s (k + 1 + 1) = c2) (lo2 : 0 ≤ c2) (hi2 : c2 ≤ 255) (hc3 : byt s (k + 1 + 2) = c3) (lo3 : 0 ≤ c3) (hi3 : c3 ≤ 255) (f1 : followsB c1 = true) (f2 : followsB c2 = true) (f3 : followsB c3 = true) (hr : rightB ((((b0 - 240) * 64 + c1 % 64) * 64 + c2 % 64) * 64 + c3 % 64) = true) (hw : wid ((((b0 - 240) * 64 + c1 % 64) * 64 + c2 % 64) * 64 + c3 % 64) ≠ 4) :
    Calls Tryz.prog 89 #[.string s, .int .i64 k] w fun e w' => e = .returned (.tuple #[.int .i64 0, .int .i64 0, .int .i64 1]) ∧ Below w.heap.size w w' := by
  obtain ⟨x, hx⟩ : ∃ x : Nat, wid ((((b0 - 240) * 64 + c1 % 64) * 64 + c2 % 64) * 64 + c3 % 64) = x := ⟨_, rfl⟩
  rw [hx] at hw
  have hne : ((x : Int) == 4) = false := by simp; omega
  have hsh : shareI b0 = b0 - 240 := by unfold shareI; rw [if_neg (by omega), if_neg (by omega), if_pos (by omega)]
  have hsz : sizeI b0 = 4 := by unfold sizeI; rw [if_neg (by omega), if_neg (by omega), if_pos (by omega)]
  obtain ⟨cap, W, hconv, hB, hcell⟩ := conv_str w s (k + 1) (k + 4) 3 (by omega) hm
  have g1 : W.cell? ⟨w.heap.size, 0, none⟩ = some (.int .u8 c1) := by rw [hcell 0 (by omega), hc1]
  have a1 : bits .and .u8 c1 63 = c1 % 64 := and63_u8 _ lo1 hi1
  have g2 : W.cell? ⟨w.heap.size, 1, none⟩ = some (.int .u8 c2) := by rw [hcell 1 (by omega), hc2]
  have a2 : bits .and .u8 c2 63 = c2 % 64 := and63_u8 _ lo2 hi2
  have g3 : W.cell? ⟨w.heap.size, 2, none⟩ = some (.int .u8 c3) := by rw [hcell 2 (by omega), hc3]
  have a3 : bits .and .u8 c3 63 = c3 % 64 := and63_u8 _ lo3 hi3
  have o1 : bits .or .i64 ((b0 - 240) * 64) (c1 % 64) = (b0 - 240) * 64 + c1 % 64 := or_64 _ _ (by omega) (by omega) (by omega) (by omega)
  have o2 : bits .or .i64 (((b0 - 240) * 64 + c1 % 64) * 64) (c2 % 64) = ((b0 - 240) * 64 + c1 % 64) * 64 + c2 % 64 := or_64 _ _ (by omega) (by omega) (by omega) (by omega)
  have o3 : bits .or .i64 ((((b0 - 240) * 64 + c1 % 64) * 64 + c2 % 64) * 64) (c3 % 64) = (((b0 - 240) * 64 + c1 % 64) * 64 + c2 % 64) * 64 + c3 % 64 := or_64 _ _ (by omega) (by omega) (by omega) (by omega)
  clear hcell hc1 hc2 hc3
  go_enter Tryz.func89, Tryz.ntmps89
  go_wp2_with fail
  refine (first_any _ _ (by omega) (by omega)).mono ?_; rintro e w' ⟨rfl, rfl⟩
  rw [hsh, hsz]; clear hsh hsz
  go_wp2_with fail
  refine wp_loop_rounds 4 ?_
  rw [rounds_succ]
  go_wp2_with fail
  refine (follows_any _ _).mono ?_; rintro e w' ⟨rfl, rfl⟩
  rw [f1]
  go_wp2_with fail
  rw [rounds_succ]
  go_wp2_with fail
  refine (follows_any _ _).mono ?_; rintro e w' ⟨rfl, rfl⟩
  rw [f2]
  go_wp2_with fail
  rw [rounds_succ]
  go_wp2_with fail
  refine (follows_any _ _).mono ?_; rintro e w' ⟨rfl, rfl⟩
  rw [f3]
  go_wp2_with fail
  rw [rounds_succ]
  go_wp2_with fail
  refine (right_any _ _).mono ?_; rintro e w' ⟨rfl, rfl⟩
  rw [hr]
  go_wp2_with fail
  refine (width_any _ _).mono ?_; rintro e w' ⟨rfl, rfl⟩
  rw [hx]; clear hx
  go_wp2_with fail
  go_ret3
  exact ⟨rfl, hB⟩

set_option maxHeartbeats 400000 in
/-- 4 bytes of a sign. -/
theorem nx4_ok (s : ByteArray) (k : Nat) (w : World) (hs : s.size ≤ 9223372036854775807) (hk : k < s.size) (b0 : Int) (hb0 : (s[k].toNat : Int) = b0) (h0 : 240 ≤ b0) (h1 : b0 < 248) (hm : k + 4 ≤ s.size) (c1 c2 c3 : Int) (hc1 : byt s (k + 1 + 0) = c1) (lo1 : 0 ≤ c1) (hi1 : c1 ≤ 255) (hc2 : byt s (k + 1 + 1) = c2) (lo2 : 0 ≤ c2) (hi2 : c2 ≤ 255) (hc3 : byt s (k + 1 + 2) = c3) (lo3 : 0 ≤ c3) (hi3 : c3 ≤ 255) (f1 : followsB c1 = true) (f2 : followsB c2 = true) (f3 : followsB c3 = true) (hr : rightB ((((b0 - 240) * 64 + c1 % 64) * 64 + c2 % 64) * 64 + c3 % 64) = true) (hw : wid ((((b0 - 240) * 64 + c1 % 64) * 64 + c2 % 64) * 64 + c3 % 64) = 4) :
    Calls Tryz.prog 89 #[.string s, .int .i64 k] w fun e w' => e = .returned (.tuple #[.int .i64 ((((b0 - 240) * 64 + c1 % 64) * 64 + c2 % 64) * 64 + c3 % 64), .int .i64 4, .int .i64 0]) ∧ Below w.heap.size w w' := by
  have hsh : shareI b0 = b0 - 240 := by unfold shareI; rw [if_neg (by omega), if_neg (by omega), if_pos (by omega)]
  have hsz : sizeI b0 = 4 := by unfold sizeI; rw [if_neg (by omega), if_neg (by omega), if_pos (by omega)]
  obtain ⟨cap, W, hconv, hB, hcell⟩ := conv_str w s (k + 1) (k + 4) 3 (by omega) hm
  have g1 : W.cell? ⟨w.heap.size, 0, none⟩ = some (.int .u8 c1) := by rw [hcell 0 (by omega), hc1]
  have a1 : bits .and .u8 c1 63 = c1 % 64 := and63_u8 _ lo1 hi1
  have g2 : W.cell? ⟨w.heap.size, 1, none⟩ = some (.int .u8 c2) := by rw [hcell 1 (by omega), hc2]
  have a2 : bits .and .u8 c2 63 = c2 % 64 := and63_u8 _ lo2 hi2
  have g3 : W.cell? ⟨w.heap.size, 2, none⟩ = some (.int .u8 c3) := by rw [hcell 2 (by omega), hc3]
  have a3 : bits .and .u8 c3 63 = c3 % 64 := and63_u8 _ lo3 hi3
  have o1 : bits .or .i64 ((b0 - 240) * 64) (c1 % 64) = (b0 - 240) * 64 + c1 % 64 := or_64 _ _ (by omega) (by omega) (by omega) (by omega)
  have o2 : bits .or .i64 (((b0 - 240) * 64 + c1 % 64) * 64) (c2 % 64) = ((b0 - 240) * 64 + c1 % 64) * 64 + c2 % 64 := or_64 _ _ (by omega) (by omega) (by omega) (by omega)
  have o3 : bits .or .i64 ((((b0 - 240) * 64 + c1 % 64) * 64 + c2 % 64) * 64) (c3 % 64) = (((b0 - 240) * 64 + c1 % 64) * 64 + c2 % 64) * 64 + c3 % 64 := or_64 _ _ (by omega) (by omega) (by omega) (by omega)
  clear hcell hc1 hc2 hc3
  go_enter Tryz.func89, Tryz.ntmps89
  go_wp2_with fail
  refine (first_any _ _ (by omega) (by omega)).mono ?_; rintro e w' ⟨rfl, rfl⟩
  rw [hsh, hsz]; clear hsh hsz
  go_wp2_with fail
  refine wp_loop_rounds 4 ?_
  rw [rounds_succ]
  go_wp2_with fail
  refine (follows_any _ _).mono ?_; rintro e w' ⟨rfl, rfl⟩
  rw [f1]
  go_wp2_with fail
  rw [rounds_succ]
  go_wp2_with fail
  refine (follows_any _ _).mono ?_; rintro e w' ⟨rfl, rfl⟩
  rw [f2]
  go_wp2_with fail
  rw [rounds_succ]
  go_wp2_with fail
  refine (follows_any _ _).mono ?_; rintro e w' ⟨rfl, rfl⟩
  rw [f3]
  go_wp2_with fail
  rw [rounds_succ]
  go_wp2_with fail
  refine (right_any _ _).mono ?_; rintro e w' ⟨rfl, rfl⟩
  rw [hr]
  go_wp2_with fail
  refine (width_any _ _).mono ?_; rintro e w' ⟨rfl, rfl⟩
  rw [hw]
  go_wp2_with fail
  go_ret3
  exact ⟨rfl, hB⟩

end Go.Proofs.YtcbbaognomddkaaGreatDoor

/- utf.Next reads, at any place of any bytes, the sign whose bytes begin there, or answers ErrForm: the cases put together. For every string shorter than 2^63 bytes and every offset. -/
namespace Go.Proofs.YtcbbaognomddkaaGreatDoor
open Go.RowKit
set_option maxRecDepth 100000

/-- What utf.Next answers. -/
def nextV : Option Int → Value
  | none => .tuple #[.int .i64 0, .int .i64 0, .int .i64 1]
  | some n => .tuple #[.int .i64 n, .int .i64 (wid n), .int .i64 0]

theorem nextV_some (n : Int) : nextV (some n) = .tuple #[.int .i64 n, .int .i64 (wid n), .int .i64 0] := rfl
theorem dec4_cons (b c1 c2 c3 : Int) (t : List Int) : dec4 b (c1 :: c2 :: c3 :: t) = if followsB c1 && (followsB c2 && (followsB c3 && okB 4 ((((b - 240) * 64 + c1 % 64) * 64 + c2 % 64) * 64 + c3 % 64))) then some ((((b - 240) * 64 + c1 % 64) * 64 + c2 % 64) * 64 + c3 % 64) else none := rfl
theorem dec3_cons (b c1 c2 : Int) (t : List Int) : dec3 b (c1 :: c2 :: t) = if followsB c1 && (followsB c2 && okB 3 (((b - 224) * 64 + c1 % 64) * 64 + c2 % 64)) then some (((b - 224) * 64 + c1 % 64) * 64 + c2 % 64) else none := rfl
theorem dec2_cons (b c1 : Int) (t : List Int) : dec2 b (c1 :: t) = if followsB c1 && okB 2 ((b - 192) * 64 + c1 % 64) then some ((b - 192) * 64 + c1 % 64) else none := rfl

theorem next_any (s : ByteArray) (k : Nat) (w : World) (hs : s.size ≤ 9223372036854775807) (hk : k < s.size) :
    Calls Tryz.prog 89 #[.string s, .int .i64 k] w fun e w' => e = .returned (nextV (dec ((bytesL s).drop k))) ∧ Below w.heap.size w w' := by
  have hb0 := byt_eq s k hk
  have lo := byt_lo s k
  have hi := byt_hi s k
  rw [drop_byt s k hk]
  generalize byt s k = b0 at *
  by_cases c1 : b0 < 128
  · rw [dec_1 c1]
    rw [nextV_some, wid_1 (show b0 ≤ 127 by omega)]
    exact nx1_ok s k w hs hk b0 hb0 lo c1
  by_cases c2 : b0 < 192 ∨ 248 ≤ b0
  · rw [dec_0 (by omega)]
    exact nx_0 s k w hs hk b0 hb0 lo hi (by omega)
  by_cases d4 : 240 ≤ b0
  · rw [dec_4 d4 (by omega)]
    by_cases hm : k + 4 ≤ s.size
    · rw [drop_byt s (k + 1) (by omega), drop_byt s (k + 1 + 1) (by omega), drop_byt s (k + 1 + 1 + 1) (by omega)]
      obtain ⟨x1, e1⟩ : ∃ x, byt s (k + 1 + 0) = x := ⟨_, rfl⟩
      have l1 : 0 ≤ x1 := e1 ▸ byt_lo s _
      have h1 : x1 ≤ 255 := e1 ▸ byt_hi s _
      obtain ⟨x2, e2⟩ : ∃ x, byt s (k + 1 + 1) = x := ⟨_, rfl⟩
      have l2 : 0 ≤ x2 := e2 ▸ byt_lo s _
      have h2 : x2 ≤ 255 := e2 ▸ byt_hi s _
      obtain ⟨x3, e3⟩ : ∃ x, byt s (k + 1 + 2) = x := ⟨_, rfl⟩
      have l3 : 0 ≤ x3 := e3 ▸ byt_lo s _
      have h3 : x3 ≤ 255 := e3 ▸ byt_hi s _
      rw [show byt s (k + 1) = x1 from e1, show byt s (k + 1 + 1) = x2 from e2, show byt s (k + 1 + 1 + 1) = x3 from e3]
      cases f1 : followsB x1 with
      | false =>
        have hc : ¬ (followsB x1 && (followsB x2 && (followsB x3 && okB 4 ((((b0 - 240) * 64 + x1 % 64) * 64 + x2 % 64) * 64 + x3 % 64)))) = true := by simp [f1]
        rw [dec4_cons, if_neg hc]
        exact nx4_f1 s k w hs hk b0 hb0 d4 (by omega) hm x1 x2 x3 e1 l1 h1 e2 l2 h2 e3 l3 h3 f1
      | true =>
        cases f2 : followsB x2 with
        | false =>
          have hc : ¬ (followsB x1 && (followsB x2 && (followsB x3 && okB 4 ((((b0 - 240) * 64 + x1 % 64) * 64 + x2 % 64) * 64 + x3 % 64)))) = true := by simp [f1, f2]
          rw [dec4_cons, if_neg hc]
          exact nx4_f2 s k w hs hk b0 hb0 d4 (by omega) hm x1 x2 x3 e1 l1 h1 e2 l2 h2 e3 l3 h3 f1 f2
        | true =>
          cases f3 : followsB x3 with
          | false =>
            have hc : ¬ (followsB x1 && (followsB x2 && (followsB x3 && okB 4 ((((b0 - 240) * 64 + x1 % 64) * 64 + x2 % 64) * 64 + x3 % 64)))) = true := by simp [f1, f2, f3]
            rw [dec4_cons, if_neg hc]
            exact nx4_f3 s k w hs hk b0 hb0 d4 (by omega) hm x1 x2 x3 e1 l1 h1 e2 l2 h2 e3 l3 h3 f1 f2 f3
          | true =>
            cases hr : rightB ((((b0 - 240) * 64 + x1 % 64) * 64 + x2 % 64) * 64 + x3 % 64) with
            | false =>
              have hc : ¬ (followsB x1 && (followsB x2 && (followsB x3 && okB 4 ((((b0 - 240) * 64 + x1 % 64) * 64 + x2 % 64) * 64 + x3 % 64)))) = true := by simp [okB, hr]
              rw [dec4_cons, if_neg hc]
              exact nx4_r s k w hs hk b0 hb0 d4 (by omega) hm x1 x2 x3 e1 l1 h1 e2 l2 h2 e3 l3 h3 f1 f2 f3 hr
            | true =>
              by_cases hw : wid ((((b0 - 240) * 64 + x1 % 64) * 64 + x2 % 64) * 64 + x3 % 64) = 4
              · have hc : (followsB x1 && (followsB x2 && (followsB x3 && okB 4 ((((b0 - 240) * 64 + x1 % 64) * 64 + x2 % 64) * 64 + x3 % 64)))) = true := by simp [f1, f2, f3, okB, hr, hw]
                rw [dec4_cons, if_pos hc]
                rw [nextV_some, hw]
                exact nx4_ok s k w hs hk b0 hb0 d4 (by omega) hm x1 x2 x3 e1 l1 h1 e2 l2 h2 e3 l3 h3 f1 f2 f3 hr hw
              · have hc : ¬ (followsB x1 && (followsB x2 && (followsB x3 && okB 4 ((((b0 - 240) * 64 + x1 % 64) * 64 + x2 % 64) * 64 + x3 % 64)))) = true := by simp [okB, hw]
                rw [dec4_cons, if_neg hc]
                exact nx4_w s k w hs hk b0 hb0 d4 (by omega) hm x1 x2 x3 e1 l1 h1 e2 l2 h2 e3 l3 h3 f1 f2 f3 hr hw
    · have e : dec4 b0 ((bytesL s).drop (k + 1)) = none := by
        have hl : ((bytesL s).drop (k + 1)).length < 3 := by rw [List.length_drop, bytesL_length]; omega
        match (bytesL s).drop (k + 1), hl with
        | [], _ => rfl
        | [_], _ => rfl
        | [_, _], _ => rfl
      rw [e]
      exact nx4_short s k w hs hk b0 hb0 d4 (by omega) (by omega)
  by_cases d3 : 224 ≤ b0
  · rw [dec_3 d3 (by omega)]
    by_cases hm : k + 3 ≤ s.size
    · rw [drop_byt s (k + 1) (by omega), drop_byt s (k + 1 + 1) (by omega)]
      obtain ⟨x1, e1⟩ : ∃ x, byt s (k + 1 + 0) = x := ⟨_, rfl⟩
      have l1 : 0 ≤ x1 := e1 ▸ byt_lo s _
      have h1 : x1 ≤ 255 := e1 ▸ byt_hi s _
      obtain ⟨x2, e2⟩ : ∃ x, byt s (k + 1 + 1) = x := ⟨_, rfl⟩
      have l2 : 0 ≤ x2 := e2 ▸ byt_lo s _
      have h2 : x2 ≤ 255 := e2 ▸ byt_hi s _
      rw [show byt s (k + 1) = x1 from e1, show byt s (k + 1 + 1) = x2 from e2]
      cases f1 : followsB x1 with
      | false =>
        have hc : ¬ (followsB x1 && (followsB x2 && okB 3 (((b0 - 224) * 64 + x1 % 64) * 64 + x2 % 64))) = true := by simp [f1]
        rw [dec3_cons, if_neg hc]
        exact nx3_f1 s k w hs hk b0 hb0 d3 (by omega) hm x1 x2 e1 l1 h1 e2 l2 h2 f1
      | true =>
        cases f2 : followsB x2 with
        | false =>
          have hc : ¬ (followsB x1 && (followsB x2 && okB 3 (((b0 - 224) * 64 + x1 % 64) * 64 + x2 % 64))) = true := by simp [f1, f2]
          rw [dec3_cons, if_neg hc]
          exact nx3_f2 s k w hs hk b0 hb0 d3 (by omega) hm x1 x2 e1 l1 h1 e2 l2 h2 f1 f2
        | true =>
          cases hr : rightB (((b0 - 224) * 64 + x1 % 64) * 64 + x2 % 64) with
          | false =>
            have hc : ¬ (followsB x1 && (followsB x2 && okB 3 (((b0 - 224) * 64 + x1 % 64) * 64 + x2 % 64))) = true := by simp [okB, hr]
            rw [dec3_cons, if_neg hc]
            exact nx3_r s k w hs hk b0 hb0 d3 (by omega) hm x1 x2 e1 l1 h1 e2 l2 h2 f1 f2 hr
          | true =>
            by_cases hw : wid (((b0 - 224) * 64 + x1 % 64) * 64 + x2 % 64) = 3
            · have hc : (followsB x1 && (followsB x2 && okB 3 (((b0 - 224) * 64 + x1 % 64) * 64 + x2 % 64))) = true := by simp [f1, f2, okB, hr, hw]
              rw [dec3_cons, if_pos hc]
              rw [nextV_some, hw]
              exact nx3_ok s k w hs hk b0 hb0 d3 (by omega) hm x1 x2 e1 l1 h1 e2 l2 h2 f1 f2 hr hw
            · have hc : ¬ (followsB x1 && (followsB x2 && okB 3 (((b0 - 224) * 64 + x1 % 64) * 64 + x2 % 64))) = true := by simp [okB, hw]
              rw [dec3_cons, if_neg hc]
              exact nx3_w s k w hs hk b0 hb0 d3 (by omega) hm x1 x2 e1 l1 h1 e2 l2 h2 f1 f2 hr hw
    · have e : dec3 b0 ((bytesL s).drop (k + 1)) = none := by
        have hl : ((bytesL s).drop (k + 1)).length < 2 := by rw [List.length_drop, bytesL_length]; omega
        match (bytesL s).drop (k + 1), hl with
        | [], _ => rfl
        | [_], _ => rfl
      rw [e]
      exact nx3_short s k w hs hk b0 hb0 d3 (by omega) (by omega)
  by_cases d2 : 192 ≤ b0
  · rw [dec_2 d2 (by omega)]
    by_cases hm : k + 2 ≤ s.size
    · rw [drop_byt s (k + 1) (by omega)]
      obtain ⟨x1, e1⟩ : ∃ x, byt s (k + 1 + 0) = x := ⟨_, rfl⟩
      have l1 : 0 ≤ x1 := e1 ▸ byt_lo s _
      have h1 : x1 ≤ 255 := e1 ▸ byt_hi s _
      rw [show byt s (k + 1) = x1 from e1]
      cases f1 : followsB x1 with
      | false =>
        have hc : ¬ (followsB x1 && okB 2 ((b0 - 192) * 64 + x1 % 64)) = true := by simp [f1]
        rw [dec2_cons, if_neg hc]
        exact nx2_f1 s k w hs hk b0 hb0 d2 (by omega) hm x1 e1 l1 h1 f1
      | true =>
        cases hr : rightB ((b0 - 192) * 64 + x1 % 64) with
        | false =>
          have hc : ¬ (followsB x1 && okB 2 ((b0 - 192) * 64 + x1 % 64)) = true := by simp [okB, hr]
          rw [dec2_cons, if_neg hc]
          exact nx2_r s k w hs hk b0 hb0 d2 (by omega) hm x1 e1 l1 h1 f1 hr
        | true =>
          by_cases hw : wid ((b0 - 192) * 64 + x1 % 64) = 2
          · have hc : (followsB x1 && okB 2 ((b0 - 192) * 64 + x1 % 64)) = true := by simp [f1, okB, hr, hw]
            rw [dec2_cons, if_pos hc]
            rw [nextV_some, hw]
            exact nx2_ok s k w hs hk b0 hb0 d2 (by omega) hm x1 e1 l1 h1 f1 hr hw
          · have hc : ¬ (followsB x1 && okB 2 ((b0 - 192) * 64 + x1 % 64)) = true := by simp [okB, hw]
            rw [dec2_cons, if_neg hc]
            exact nx2_w s k w hs hk b0 hb0 d2 (by omega) hm x1 e1 l1 h1 f1 hr hw
    · have e : dec2 b0 ((bytesL s).drop (k + 1)) = none := by
        have hl : ((bytesL s).drop (k + 1)).length < 1 := by rw [List.length_drop, bytesL_length]; omega
        match (bytesL s).drop (k + 1), hl with
        | [], _ => rfl
      rw [e]
      exact nx2_short s k w hs hk b0 hb0 d2 (by omega) (by omega)
  omega

end Go.Proofs.YtcbbaognomddkaaGreatDoor

/- scholiumref01.number tells, of one to four bytes, the sign whose bytes they are, or -1: in terms of 'numV'; nothing that was there is written. -/
namespace Go.Proofs.YtcbbaognomddkaaGreatDoor
open Go.RowKit
set_option maxRecDepth 100000
set_option linter.unusedVariables false

theorem num1_r (t : ByteArray) (w : World) (ht : t.size = 1) (b0 : Int) (g0 : (t[0].toNat : Int) = b0) (lo0 : 0 ≤ b0) (hi0 : b0 ≤ 255)  (hr : rightB (b0) = false) :
    Calls Tryz.prog 102 #[.string t] w fun e w' => e = .returned (.int .i64 (-1)) ∧ Below w.heap.size w w' := by
  go_enter Tryz.func102, Tryz.ntmps102
  go_wp2_with fail
  refine wp_loop_rounds 1 ?_
  rw [rounds_succ]
  go_wp2_with fail
  refine (refRight_any _ _).mono ?_; rintro e w' ⟨rfl, rfl⟩
  rw [hr]
  go_wp2_with fail
  go_ret
  exact ⟨rfl, (Below.refl _ _).alloc (Nat.le_refl _) _⟩

theorem num1_s (t : ByteArray) (w : World) (ht : t.size = 1) (b0 : Int) (g0 : (t[0].toNat : Int) = b0) (lo0 : 0 ≤ b0) (hi0 : b0 ≤ 255)  (hr : rightB (b0) = true) (hs : ((enc (b0)).toList == t.toList) = false) :
    Calls Tryz.prog 102 #[.string t] w fun e w' => e = .returned (.int .i64 (-1)) ∧ Below w.heap.size w w' := by
  have hb := rightB_true.1 hr
  obtain ⟨hb0, hb1, -⟩ := hb
  go_enter Tryz.func102, Tryz.ntmps102
  go_wp2_with fail
  refine wp_loop_rounds 1 ?_
  rw [rounds_succ]
  go_wp2_with fail
  refine (refRight_any _ _).mono ?_; rintro e w' ⟨rfl, rfl⟩
  rw [hr]
  go_wp2_with fail
  refine (refPut_any _ _ (by omega) (by omega)).mono ?_; rintro e w2 ⟨rfl, hB⟩
  go_wp2_with fail
  go_ret
  exact ⟨rfl, ((Below.refl _ _).alloc (Nat.le_refl _) _).trans (hB.mono (by simp))⟩

theorem num1_ok (t : ByteArray) (w : World) (ht : t.size = 1) (b0 : Int) (g0 : (t[0].toNat : Int) = b0) (lo0 : 0 ≤ b0) (hi0 : b0 ≤ 255)  (hr : rightB (b0) = true) (hs : ((enc (b0)).toList == t.toList) = true) :
    Calls Tryz.prog 102 #[.string t] w fun e w' => e = .returned (.int .i64 (b0)) ∧ Below w.heap.size w w' := by
  have hb := rightB_true.1 hr
  obtain ⟨hb0, hb1, -⟩ := hb
  go_enter Tryz.func102, Tryz.ntmps102
  go_wp2_with fail
  refine wp_loop_rounds 1 ?_
  rw [rounds_succ]
  go_wp2_with fail
  refine (refRight_any _ _).mono ?_; rintro e w' ⟨rfl, rfl⟩
  rw [hr]
  go_wp2_with fail
  refine (refPut_any _ _ (by omega) (by omega)).mono ?_; rintro e w2 ⟨rfl, hB⟩
  go_wp2_with fail
  go_ret
  exact ⟨rfl, ((Below.refl _ _).alloc (Nat.le_refl _) _).trans (hB.mono (by simp))⟩

theorem num2_neg (t : ByteArray) (w : World) (ht : t.size = 2) (b0 c1 : Int) (g0 : (t[0].toNat : Int) = b0) (lo0 : 0 ≤ b0) (hi0 : b0 ≤ 255) (g1 : (t[1].toNat : Int) = c1) (lo1 : 0 ≤ c1) (hi1 : c1 ≤ 255) (hn : b0 < 192) :
    Calls Tryz.prog 102 #[.string t] w fun e w' => e = .returned (.int .i64 (-1)) ∧ Below w.heap.size w w' := by
  go_enter Tryz.func102, Tryz.ntmps102
  go_wp2_with fail
  go_ret
  exact ⟨rfl, (Below.refl _ _).alloc (Nat.le_refl _) _⟩

theorem num2_r (t : ByteArray) (w : World) (ht : t.size = 2) (b0 c1 : Int) (g0 : (t[0].toNat : Int) = b0) (lo0 : 0 ≤ b0) (hi0 : b0 ≤ 255) (g1 : (t[1].toNat : Int) = c1) (lo1 : 0 ≤ c1) (hi1 : c1 ≤ 255) (hn : 192 ≤ b0) (hr : rightB ((b0 - 192) * 64 + c1 - 128) = false) :
    Calls Tryz.prog 102 #[.string t] w fun e w' => e = .returned (.int .i64 (-1)) ∧ Below w.heap.size w w' := by
  go_enter Tryz.func102, Tryz.ntmps102
  go_wp2_with fail
  refine wp_loop_rounds 2 ?_
  rw [rounds_succ]
  go_wp2_with fail
  rw [rounds_succ]
  go_wp2_with fail
  refine (refRight_any _ _).mono ?_; rintro e w' ⟨rfl, rfl⟩
  rw [hr]
  go_wp2_with fail
  go_ret
  exact ⟨rfl, (Below.refl _ _).alloc (Nat.le_refl _) _⟩

theorem num2_s (t : ByteArray) (w : World) (ht : t.size = 2) (b0 c1 : Int) (g0 : (t[0].toNat : Int) = b0) (lo0 : 0 ≤ b0) (hi0 : b0 ≤ 255) (g1 : (t[1].toNat : Int) = c1) (lo1 : 0 ≤ c1) (hi1 : c1 ≤ 255) (hn : 192 ≤ b0) (hr : rightB ((b0 - 192) * 64 + c1 - 128) = true) (hs : ((enc ((b0 - 192) * 64 + c1 - 128)).toList == t.toList) = false) :
    Calls Tryz.prog 102 #[.string t] w fun e w' => e = .returned (.int .i64 (-1)) ∧ Below w.heap.size w w' := by
  have hb := rightB_true.1 hr
  obtain ⟨hb0, hb1, -⟩ := hb
  go_enter Tryz.func102, Tryz.ntmps102
  go_wp2_with fail
  refine wp_loop_rounds 2 ?_
  rw [rounds_succ]
  go_wp2_with fail
  rw [rounds_succ]
  go_wp2_with fail
  refine (refRight_any _ _).mono ?_; rintro e w' ⟨rfl, rfl⟩
  rw [hr]
  go_wp2_with fail
  refine (refPut_any _ _ (by omega) (by omega)).mono ?_; rintro e w2 ⟨rfl, hB⟩
  go_wp2_with fail
  go_ret
  exact ⟨rfl, ((Below.refl _ _).alloc (Nat.le_refl _) _).trans (hB.mono (by simp))⟩

theorem num2_ok (t : ByteArray) (w : World) (ht : t.size = 2) (b0 c1 : Int) (g0 : (t[0].toNat : Int) = b0) (lo0 : 0 ≤ b0) (hi0 : b0 ≤ 255) (g1 : (t[1].toNat : Int) = c1) (lo1 : 0 ≤ c1) (hi1 : c1 ≤ 255) (hn : 192 ≤ b0) (hr : rightB ((b0 - 192) * 64 + c1 - 128) = true) (hs : ((enc ((b0 - 192) * 64 + c1 - 128)).toList == t.toList) = true) :
    Calls Tryz.prog 102 #[.string t] w fun e w' => e = .returned (.int .i64 ((b0 - 192) * 64 + c1 - 128)) ∧ Below w.heap.size w w' := by
  have hb := rightB_true.1 hr
  obtain ⟨hb0, hb1, -⟩ := hb
  go_enter Tryz.func102, Tryz.ntmps102
  go_wp2_with fail
  refine wp_loop_rounds 2 ?_
  rw [rounds_succ]
  go_wp2_with fail
  rw [rounds_succ]
  go_wp2_with fail
  refine (refRight_any _ _).mono ?_; rintro e w' ⟨rfl, rfl⟩
  rw [hr]
  go_wp2_with fail
  refine (refPut_any _ _ (by omega) (by omega)).mono ?_; rintro e w2 ⟨rfl, hB⟩
  go_wp2_with fail
  go_ret
  exact ⟨rfl, ((Below.refl _ _).alloc (Nat.le_refl _) _).trans (hB.mono (by simp))⟩

theorem num3_neg (t : ByteArray) (w : World) (ht : t.size = 3) (b0 c1 c2 : Int) (g0 : (t[0].toNat : Int) = b0) (lo0 : 0 ≤ b0) (hi0 : b0 ≤ 255) (g1 : (t[1].toNat : Int) = c1) (lo1 : 0 ≤ c1) (hi1 : c1 ≤ 255) (g2 : (t[2].toNat : Int) = c2) (lo2 : 0 ≤ c2) (hi2 : c2 ≤ 255) (hn : b0 < 224) :
    Calls Tryz.prog 102 #[.string t] w fun e w' => e = .returned (.int .i64 (-1)) ∧ Below w.heap.size w w' := by
  go_enter Tryz.func102, Tryz.ntmps102
  go_wp2_with fail
  go_ret
  exact ⟨rfl, (Below.refl _ _).alloc (Nat.le_refl _) _⟩

theorem num3_r (t : ByteArray) (w : World) (ht : t.size = 3) (b0 c1 c2 : Int) (g0 : (t[0].toNat : Int) = b0) (lo0 : 0 ≤ b0) (hi0 : b0 ≤ 255) (g1 : (t[1].toNat : Int) = c1) (lo1 : 0 ≤ c1) (hi1 : c1 ≤ 255) (g2 : (t[2].toNat : Int) = c2) (lo2 : 0 ≤ c2) (hi2 : c2 ≤ 255) (hn : 224 ≤ b0) (hr : rightB (((b0 - 224) * 64 + c1 - 128) * 64 + c2 - 128) = false) :
    Calls Tryz.prog 102 #[.string t] w fun e w' => e = .returned (.int .i64 (-1)) ∧ Below w.heap.size w w' := by
  go_enter Tryz.func102, Tryz.ntmps102
  go_wp2_with fail
  refine wp_loop_rounds 3 ?_
  rw [rounds_succ]
  go_wp2_with fail
  rw [rounds_succ]
  go_wp2_with fail
  rw [rounds_succ]
  go_wp2_with fail
  refine (refRight_any _ _).mono ?_; rintro e w' ⟨rfl, rfl⟩
  rw [hr]
  go_wp2_with fail
  go_ret
  exact ⟨rfl, (Below.refl _ _).alloc (Nat.le_refl _) _⟩

theorem num3_s (t : ByteArray) (w : World) (ht : t.size = 3) (b0 c1 c2 : Int) (g0 : (t[0].toNat : Int) = b0) (lo0 : 0 ≤ b0) (hi0 : b0 ≤ 255) (g1 : (t[1].toNat : Int) = c1) (lo1 : 0 ≤ c1) (hi1 : c1 ≤ 255) (g2 : (t[2].toNat : Int) = c2) (lo2 : 0 ≤ c2) (hi2 : c2 ≤ 255) (hn : 224 ≤ b0) (hr : rightB (((b0 - 224) * 64 + c1 - 128) * 64 + c2 - 128) = true) (hs : ((enc (((b0 - 224) * 64 + c1 - 128) * 64 + c2 - 128)).toList == t.toList) = false) :
    Calls Tryz.prog 102 #[.string t] w fun e w' => e = .returned (.int .i64 (-1)) ∧ Below w.heap.size w w' := by
  have hb := rightB_true.1 hr
  obtain ⟨hb0, hb1, -⟩ := hb
  go_enter Tryz.func102, Tryz.ntmps102
  go_wp2_with fail
  refine wp_loop_rounds 3 ?_
  rw [rounds_succ]
  go_wp2_with fail
  rw [rounds_succ]
  go_wp2_with fail
  rw [rounds_succ]
  go_wp2_with fail
  refine (refRight_any _ _).mono ?_; rintro e w' ⟨rfl, rfl⟩
  rw [hr]
  go_wp2_with fail
  refine (refPut_any _ _ (by omega) (by omega)).mono ?_; rintro e w2 ⟨rfl, hB⟩
  go_wp2_with fail
  go_ret
  exact ⟨rfl, ((Below.refl _ _).alloc (Nat.le_refl _) _).trans (hB.mono (by simp))⟩

theorem num3_ok (t : ByteArray) (w : World) (ht : t.size = 3) (b0 c1 c2 : Int) (g0 : (t[0].toNat : Int) = b0) (lo0 : 0 ≤ b0) (hi0 : b0 ≤ 255) (g1 : (t[1].toNat : Int) = c1) (lo1 : 0 ≤ c1) (hi1 : c1 ≤ 255) (g2 : (t[2].toNat : Int) = c2) (lo2 : 0 ≤ c2) (hi2 : c2 ≤ 255) (hn : 224 ≤ b0) (hr : rightB (((b0 - 224) * 64 + c1 - 128) * 64 + c2 - 128) = true) (hs : ((enc (((b0 - 224) * 64 + c1 - 128) * 64 + c2 - 128)).toList == t.toList) = true) :
    Calls Tryz.prog 102 #[.string t] w fun e w' => e = .returned (.int .i64 (((b0 - 224) * 64 + c1 - 128) * 64 + c2 - 128)) ∧ Below w.heap.size w w' := by
  have hb := rightB_true.1 hr
  obtain ⟨hb0, hb1, -⟩ := hb
  go_enter Tryz.func102, Tryz.ntmps102
  go_wp2_with fail
  refine wp_loop_rounds 3 ?_
  rw [rounds_succ]
  go_wp2_with fail
  rw [rounds_succ]
  go_wp2_with fail
  rw [rounds_succ]
  go_wp2_with fail
  refine (refRight_any _ _).mono ?_; rintro e w' ⟨rfl, rfl⟩
  rw [hr]
  go_wp2_with fail
  refine (refPut_any _ _ (by omega) (by omega)).mono ?_; rintro e w2 ⟨rfl, hB⟩
  go_wp2_with fail
  go_ret
  exact ⟨rfl, ((Below.refl _ _).alloc (Nat.le_refl _) _).trans (hB.mono (by simp))⟩

theorem num4_neg (t : ByteArray) (w : World) (ht : t.size = 4) (b0 c1 c2 c3 : Int) (g0 : (t[0].toNat : Int) = b0) (lo0 : 0 ≤ b0) (hi0 : b0 ≤ 255) (g1 : (t[1].toNat : Int) = c1) (lo1 : 0 ≤ c1) (hi1 : c1 ≤ 255) (g2 : (t[2].toNat : Int) = c2) (lo2 : 0 ≤ c2) (hi2 : c2 ≤ 255) (g3 : (t[3].toNat : Int) = c3) (lo3 : 0 ≤ c3) (hi3 : c3 ≤ 255) (hn : b0 < 240) :
    Calls Tryz.prog 102 #[.string t] w fun e w' => e = .returned (.int .i64 (-1)) ∧ Below w.heap.size w w' := by
  go_enter Tryz.func102, Tryz.ntmps102
  go_wp2_with fail
  go_ret
  exact ⟨rfl, (Below.refl _ _).alloc (Nat.le_refl _) _⟩

theorem num4_r (t : ByteArray) (w : World) (ht : t.size = 4) (b0 c1 c2 c3 : Int) (g0 : (t[0].toNat : Int) = b0) (lo0 : 0 ≤ b0) (hi0 : b0 ≤ 255) (g1 : (t[1].toNat : Int) = c1) (lo1 : 0 ≤ c1) (hi1 : c1 ≤ 255) (g2 : (t[2].toNat : Int) = c2) (lo2 : 0 ≤ c2) (hi2 : c2 ≤ 255) (g3 : (t[3].toNat : Int) = c3) (lo3 : 0 ≤ c3) (hi3 : c3 ≤ 255) (hn : 240 ≤ b0) (hr : rightB ((((b0 - 240) * 64 + c1 - 128) * 64 + c2 - 128) * 64 + c3 - 128) = false) :
    Calls Tryz.prog 102 #[.string t] w fun e w' => e = .returned (.int .i64 (-1)) ∧ Below w.heap.size w w' := by
  go_enter Tryz.func102, Tryz.ntmps102
  go_wp2_with fail
  refine wp_loop_rounds 4 ?_
  rw [rounds_succ]
  go_wp2_with fail
  rw [rounds_succ]
  go_wp2_with fail
  rw [rounds_succ]
  go_wp2_with fail
  rw [rounds_succ]
  go_wp2_with fail
  refine (refRight_any _ _).mono ?_; rintro e w' ⟨rfl, rfl⟩
  rw [hr]
  go_wp2_with fail
  go_ret
  exact ⟨rfl, (Below.refl _ _).alloc (Nat.le_refl _) _⟩

theorem num4_s (t : ByteArray) (w : World) (ht : t.size = 4) (b0 c1 c2 c3 : Int) (g0 : (t[0].toNat : Int) = b0) (lo0 : 0 ≤ b0) (hi0 : b0 ≤ 255) (g1 : (t[1].toNat : Int) = c1) (lo1 : 0 ≤ c1) (hi1 : c1 ≤ 255) (g2 : (t[2].toNat : Int) = c2) (lo2 : 0 ≤ c2) (hi2 : c2 ≤ 255) (g3 : (t[3].toNat : Int) = c3) (lo3 : 0 ≤ c3) (hi3 : c3 ≤ 255) (hn : 240 ≤ b0) (hr : rightB ((((b0 - 240) * 64 + c1 - 128) * 64 + c2 - 128) * 64 + c3 - 128) = true) (hs : ((enc ((((b0 - 240) * 64 + c1 - 128) * 64 + c2 - 128) * 64 + c3 - 128)).toList == t.toList) = false) :
    Calls Tryz.prog 102 #[.string t] w fun e w' => e = .returned (.int .i64 (-1)) ∧ Below w.heap.size w w' := by
  have hb := rightB_true.1 hr
  obtain ⟨hb0, hb1, -⟩ := hb
  go_enter Tryz.func102, Tryz.ntmps102
  go_wp2_with fail
  refine wp_loop_rounds 4 ?_
  rw [rounds_succ]
  go_wp2_with fail
  rw [rounds_succ]
  go_wp2_with fail
  rw [rounds_succ]
  go_wp2_with fail
  rw [rounds_succ]
  go_wp2_with fail
  refine (refRight_any _ _).mono ?_; rintro e w' ⟨rfl, rfl⟩
  rw [hr]
  go_wp2_with fail
  refine (refPut_any _ _ (by omega) (by omega)).mono ?_; rintro e w2 ⟨rfl, hB⟩
  go_wp2_with fail
  go_ret
  exact ⟨rfl, ((Below.refl _ _).alloc (Nat.le_refl _) _).trans (hB.mono (by simp))⟩

theorem num4_ok (t : ByteArray) (w : World) (ht : t.size = 4) (b0 c1 c2 c3 : Int) (g0 : (t[0].toNat : Int) = b0) (lo0 : 0 ≤ b0) (hi0 : b0 ≤ 255) (g1 : (t[1].toNat : Int) = c1) (lo1 : 0 ≤ c1) (hi1 : c1 ≤ 255) (g2 : (t[2].toNat : Int) = c2) (lo2 : 0 ≤ c2) (hi2 : c2 ≤ 255) (g3 : (t[3].toNat : Int) = c3) (lo3 : 0 ≤ c3) (hi3 : c3 ≤ 255) (hn : 240 ≤ b0) (hr : rightB ((((b0 - 240) * 64 + c1 - 128) * 64 + c2 - 128) * 64 + c3 - 128) = true) (hs : ((enc ((((b0 - 240) * 64 + c1 - 128) * 64 + c2 - 128) * 64 + c3 - 128)).toList == t.toList) = true) :
    Calls Tryz.prog 102 #[.string t] w fun e w' => e = .returned (.int .i64 ((((b0 - 240) * 64 + c1 - 128) * 64 + c2 - 128) * 64 + c3 - 128)) ∧ Below w.heap.size w w' := by
  have hb := rightB_true.1 hr
  obtain ⟨hb0, hb1, -⟩ := hb
  go_enter Tryz.func102, Tryz.ntmps102
  go_wp2_with fail
  refine wp_loop_rounds 4 ?_
  rw [rounds_succ]
  go_wp2_with fail
  rw [rounds_succ]
  go_wp2_with fail
  rw [rounds_succ]
  go_wp2_with fail
  rw [rounds_succ]
  go_wp2_with fail
  refine (refRight_any _ _).mono ?_; rintro e w' ⟨rfl, rfl⟩
  rw [hr]
  go_wp2_with fail
  refine (refPut_any _ _ (by omega) (by omega)).mono ?_; rintro e w2 ⟨rfl, hB⟩
  go_wp2_with fail
  go_ret
  exact ⟨rfl, ((Below.refl _ _).alloc (Nat.le_refl _) _).trans (hB.mono (by simp))⟩

end Go.Proofs.YtcbbaognomddkaaGreatDoor

/- scholiumref01.number and scholiumref01.Next: the sign at any place of any bytes, or that there is none, in terms of 'dec'; nothing that was there is written. For every string shorter than 2^63 bytes and every offset. -/
namespace Go.Proofs.YtcbbaognomddkaaGreatDoor
open Go.RowKit
set_option maxRecDepth 100000
set_option linter.unusedVariables false

theorem list_1 (l : List Int) (h : l.length = 1) : l = [l.getD 0 0] := by
  match l, h with
  | [_], _ => rfl
theorem list_2 (l : List Int) (h : l.length = 2) : l = [l.getD 0 0, l.getD 1 0] := by
  match l, h with
  | [_, _], _ => rfl
theorem list_3 (l : List Int) (h : l.length = 3) : l = [l.getD 0 0, l.getD 1 0, l.getD 2 0] := by
  match l, h with
  | [_, _, _], _ => rfl
theorem list_4 (l : List Int) (h : l.length = 4) : l = [l.getD 0 0, l.getD 1 0, l.getD 2 0, l.getD 3 0] := by
  match l, h with
  | [_, _, _, _], _ => rfl

theorem number_any (t : ByteArray) (w : World) (h1 : 1 ≤ t.size) (h4 : t.size ≤ 4) :
    Calls Tryz.prog 102 #[.string t] w fun e w' => e = .returned (.int .i64 (numV (bytesL t))) ∧ Below w.heap.size w w' := by
  have hl := bytesL_length t
  have hcase : t.size = 1 ∨ t.size = 2 ∨ t.size = 3 ∨ t.size = 4 := by omega
  rcases hcase with ht | ht | ht | ht
  · have hL := list_1 (bytesL t) (by omega)
    obtain ⟨x0, e0⟩ : ∃ x, byt t 0 = x := ⟨_, rfl⟩
    have g0 : (t[0].toNat : Int) = x0 := (byt_eq t 0 (by omega)).trans e0
    have l0 : 0 ≤ x0 := e0 ▸ byt_lo t _
    have u0 : x0 ≤ 255 := e0 ▸ byt_hi t _
    rw [show (bytesL t).getD 0 0 = x0 from e0] at hL
    rw [hL, numV_1]
    cases hr : rightB (x0) with
    | false => rw [fin_no hr]; exact num1_r t w ht x0 g0 l0 u0 hr
    | true =>
      by_cases he : encI (x0) = [x0]
      · rw [fin_yes hr he]; exact num1_ok t w ht x0 g0 l0 u0 hr (str_eq_true (by rw [bytesL_enc hr, hL, he]))
      · rw [fin_other he]; exact num1_s t w ht x0 g0 l0 u0 hr (str_eq_false (by rw [bytesL_enc hr, hL]; exact he))
  · have hL := list_2 (bytesL t) (by omega)
    obtain ⟨x0, e0⟩ : ∃ x, byt t 0 = x := ⟨_, rfl⟩
    have g0 : (t[0].toNat : Int) = x0 := (byt_eq t 0 (by omega)).trans e0
    have l0 : 0 ≤ x0 := e0 ▸ byt_lo t _
    have u0 : x0 ≤ 255 := e0 ▸ byt_hi t _
    obtain ⟨x1, e1⟩ : ∃ x, byt t 1 = x := ⟨_, rfl⟩
    have g1 : (t[1].toNat : Int) = x1 := (byt_eq t 1 (by omega)).trans e1
    have l1 : 0 ≤ x1 := e1 ▸ byt_lo t _
    have u1 : x1 ≤ 255 := e1 ▸ byt_hi t _
    rw [show (bytesL t).getD 0 0 = x0 from e0, show (bytesL t).getD 1 0 = x1 from e1] at hL
    rw [hL, numV_2]
    by_cases hn : x0 - 192 < 0
    · rw [if_pos hn]; exact num2_neg t w ht x0 x1 g0 l0 u0 g1 l1 u1 (by omega)
    rw [if_neg hn]
    cases hr : rightB ((x0 - 192) * 64 + x1 - 128) with
    | false => rw [fin_no hr]; exact num2_r t w ht x0 x1 g0 l0 u0 g1 l1 u1 (by omega) hr
    | true =>
      by_cases he : encI ((x0 - 192) * 64 + x1 - 128) = [x0, x1]
      · rw [fin_yes hr he]; exact num2_ok t w ht x0 x1 g0 l0 u0 g1 l1 u1 (by omega) hr (str_eq_true (by rw [bytesL_enc hr, hL, he]))
      · rw [fin_other he]; exact num2_s t w ht x0 x1 g0 l0 u0 g1 l1 u1 (by omega) hr (str_eq_false (by rw [bytesL_enc hr, hL]; exact he))
  · have hL := list_3 (bytesL t) (by omega)
    obtain ⟨x0, e0⟩ : ∃ x, byt t 0 = x := ⟨_, rfl⟩
    have g0 : (t[0].toNat : Int) = x0 := (byt_eq t 0 (by omega)).trans e0
    have l0 : 0 ≤ x0 := e0 ▸ byt_lo t _
    have u0 : x0 ≤ 255 := e0 ▸ byt_hi t _
    obtain ⟨x1, e1⟩ : ∃ x, byt t 1 = x := ⟨_, rfl⟩
    have g1 : (t[1].toNat : Int) = x1 := (byt_eq t 1 (by omega)).trans e1
    have l1 : 0 ≤ x1 := e1 ▸ byt_lo t _
    have u1 : x1 ≤ 255 := e1 ▸ byt_hi t _
    obtain ⟨x2, e2⟩ : ∃ x, byt t 2 = x := ⟨_, rfl⟩
    have g2 : (t[2].toNat : Int) = x2 := (byt_eq t 2 (by omega)).trans e2
    have l2 : 0 ≤ x2 := e2 ▸ byt_lo t _
    have u2 : x2 ≤ 255 := e2 ▸ byt_hi t _
    rw [show (bytesL t).getD 0 0 = x0 from e0, show (bytesL t).getD 1 0 = x1 from e1, show (bytesL t).getD 2 0 = x2 from e2] at hL
    rw [hL, numV_3]
    by_cases hn : x0 - 224 < 0
    · rw [if_pos hn]; exact num3_neg t w ht x0 x1 x2 g0 l0 u0 g1 l1 u1 g2 l2 u2 (by omega)
    rw [if_neg hn]
    cases hr : rightB (((x0 - 224) * 64 + x1 - 128) * 64 + x2 - 128) with
    | false => rw [fin_no hr]; exact num3_r t w ht x0 x1 x2 g0 l0 u0 g1 l1 u1 g2 l2 u2 (by omega) hr
    | true =>
      by_cases he : encI (((x0 - 224) * 64 + x1 - 128) * 64 + x2 - 128) = [x0, x1, x2]
      · rw [fin_yes hr he]; exact num3_ok t w ht x0 x1 x2 g0 l0 u0 g1 l1 u1 g2 l2 u2 (by omega) hr (str_eq_true (by rw [bytesL_enc hr, hL, he]))
      · rw [fin_other he]; exact num3_s t w ht x0 x1 x2 g0 l0 u0 g1 l1 u1 g2 l2 u2 (by omega) hr (str_eq_false (by rw [bytesL_enc hr, hL]; exact he))
  · have hL := list_4 (bytesL t) (by omega)
    obtain ⟨x0, e0⟩ : ∃ x, byt t 0 = x := ⟨_, rfl⟩
    have g0 : (t[0].toNat : Int) = x0 := (byt_eq t 0 (by omega)).trans e0
    have l0 : 0 ≤ x0 := e0 ▸ byt_lo t _
    have u0 : x0 ≤ 255 := e0 ▸ byt_hi t _
    obtain ⟨x1, e1⟩ : ∃ x, byt t 1 = x := ⟨_, rfl⟩
    have g1 : (t[1].toNat : Int) = x1 := (byt_eq t 1 (by omega)).trans e1
    have l1 : 0 ≤ x1 := e1 ▸ byt_lo t _
    have u1 : x1 ≤ 255 := e1 ▸ byt_hi t _
    obtain ⟨x2, e2⟩ : ∃ x, byt t 2 = x := ⟨_, rfl⟩
    have g2 : (t[2].toNat : Int) = x2 := (byt_eq t 2 (by omega)).trans e2
    have l2 : 0 ≤ x2 := e2 ▸ byt_lo t _
    have u2 : x2 ≤ 255 := e2 ▸ byt_hi t _
    obtain ⟨x3, e3⟩ : ∃ x, byt t 3 = x := ⟨_, rfl⟩
    have g3 : (t[3].toNat : Int) = x3 := (byt_eq t 3 (by omega)).trans e3
    have l3 : 0 ≤ x3 := e3 ▸ byt_lo t _
    have u3 : x3 ≤ 255 := e3 ▸ byt_hi t _
    rw [show (bytesL t).getD 0 0 = x0 from e0, show (bytesL t).getD 1 0 = x1 from e1, show (bytesL t).getD 2 0 = x2 from e2, show (bytesL t).getD 3 0 = x3 from e3] at hL
    rw [hL, numV_4]
    by_cases hn : x0 - 240 < 0
    · rw [if_pos hn]; exact num4_neg t w ht x0 x1 x2 x3 g0 l0 u0 g1 l1 u1 g2 l2 u2 g3 l3 u3 (by omega)
    rw [if_neg hn]
    cases hr : rightB ((((x0 - 240) * 64 + x1 - 128) * 64 + x2 - 128) * 64 + x3 - 128) with
    | false => rw [fin_no hr]; exact num4_r t w ht x0 x1 x2 x3 g0 l0 u0 g1 l1 u1 g2 l2 u2 g3 l3 u3 (by omega) hr
    | true =>
      by_cases he : encI ((((x0 - 240) * 64 + x1 - 128) * 64 + x2 - 128) * 64 + x3 - 128) = [x0, x1, x2, x3]
      · rw [fin_yes hr he]; exact num4_ok t w ht x0 x1 x2 x3 g0 l0 u0 g1 l1 u1 g2 l2 u2 g3 l3 u3 (by omega) hr (str_eq_true (by rw [bytesL_enc hr, hL, he]))
      · rw [fin_other he]; exact num4_s t w ht x0 x1 x2 x3 g0 l0 u0 g1 l1 u1 g2 l2 u2 g3 l3 u3 (by omega) hr (str_eq_false (by rw [bytesL_enc hr, hL]; exact he))

theorem number_at (s : ByteArray) (k b j : Nat) (w : World) (hj : b = k + j) (hk : b ≤ s.size) (h1 : 1 ≤ j) (h4 : j ≤ 4) :
    Calls Tryz.prog 102 #[.string (s.extract k b)] w fun e w' => e = .returned (.int .i64 (numV (((bytesL s).drop k).take j))) ∧ Below w.heap.size w w' := by
  have hs : (s.extract k b).size = j := by simp; omega
  have := number_any (s.extract k b) w (by omega) (by omega)
  rw [bytesL_extract, show b - k = j by omega] at this
  exact this

theorem refNext_1 (s : ByteArray) (k : Nat) (w : World) (hs : s.size ≤ 9223372036854775807) (hk : k + 1 ≤ s.size)  (n : Int) (v1 : numV (((bytesL s).drop k).take 1) = n) (hn : 0 ≤ n) :
    Calls Tryz.prog 84 #[.string s, .int .i64 k] w fun e w' => e = .returned (.tuple #[.int .i64 n, .int .i64 1, .bool true]) ∧ Below w.heap.size w w' := by
  go_enter Tryz.func84, Tryz.ntmps84
  go_wp2_with fail
  refine wp_loop_rounds 1 ?_
  rw [rounds_succ]
  go_wp2_with fail
  refine (number_at s k (k + 1) 1 _ rfl (by omega) (by omega) (by omega)).mono ?_; rintro e w1 ⟨rfl, hb1⟩
  rw [v1]
  go_wp2_with fail
  go_ret3
  exact ⟨rfl, hb1⟩

theorem refNext_none1 (s : ByteArray) (k : Nat) (w : World) (hs : s.size ≤ 9223372036854775807) (hk : k + 1 = s.size) (v1 : numV (((bytesL s).drop k).take 1) = -1) :
    Calls Tryz.prog 84 #[.string s, .int .i64 k] w fun e w' => e = .returned (.tuple #[.int .i64 0, .int .i64 0, .bool false]) ∧ Below w.heap.size w w' := by
  have hk1 := Nat.le_of_eq hk
  have hk2 := Nat.le_of_eq hk.symm
  clear hk
  go_enter Tryz.func84, Tryz.ntmps84
  go_wp2_with fail
  refine wp_loop_rounds 2 ?_
  rw [rounds_succ]
  go_wp2_with fail
  refine (number_at s k (k + 1) 1 _ rfl (by omega) (by omega) (by omega)).mono ?_; rintro e w1 ⟨rfl, hb1⟩
  rw [v1]
  go_wp2_with fail
  rw [rounds_succ]
  go_wp2_with fail
  go_ret3
  exact ⟨rfl, hb1⟩

theorem refNext_2 (s : ByteArray) (k : Nat) (w : World) (hs : s.size ≤ 9223372036854775807) (hk : k + 2 ≤ s.size) (v1 : numV (((bytesL s).drop k).take 1) = -1) (n : Int) (v2 : numV (((bytesL s).drop k).take 2) = n) (hn : 0 ≤ n) :
    Calls Tryz.prog 84 #[.string s, .int .i64 k] w fun e w' => e = .returned (.tuple #[.int .i64 n, .int .i64 2, .bool true]) ∧ Below w.heap.size w w' := by
  go_enter Tryz.func84, Tryz.ntmps84
  go_wp2_with fail
  refine wp_loop_rounds 2 ?_
  rw [rounds_succ]
  go_wp2_with fail
  refine (number_at s k (k + 1) 1 _ rfl (by omega) (by omega) (by omega)).mono ?_; rintro e w1 ⟨rfl, hb1⟩
  rw [v1]
  go_wp2_with fail
  rw [rounds_succ]
  go_wp2_with fail
  refine (number_at s k (k + 2) 2 _ rfl (by omega) (by omega) (by omega)).mono ?_; rintro e w2 ⟨rfl, hb2⟩
  rw [v2]
  go_wp2_with fail
  go_ret3
  exact ⟨rfl, (hb1).trans (hb2.mono (by have := (hb1).size; omega))⟩

theorem refNext_none2 (s : ByteArray) (k : Nat) (w : World) (hs : s.size ≤ 9223372036854775807) (hk : k + 2 = s.size) (v1 : numV (((bytesL s).drop k).take 1) = -1) (v2 : numV (((bytesL s).drop k).take 2) = -1) :
    Calls Tryz.prog 84 #[.string s, .int .i64 k] w fun e w' => e = .returned (.tuple #[.int .i64 0, .int .i64 0, .bool false]) ∧ Below w.heap.size w w' := by
  have hk1 := Nat.le_of_eq hk
  have hk2 := Nat.le_of_eq hk.symm
  clear hk
  go_enter Tryz.func84, Tryz.ntmps84
  go_wp2_with fail
  refine wp_loop_rounds 3 ?_
  rw [rounds_succ]
  go_wp2_with fail
  refine (number_at s k (k + 1) 1 _ rfl (by omega) (by omega) (by omega)).mono ?_; rintro e w1 ⟨rfl, hb1⟩
  rw [v1]
  go_wp2_with fail
  rw [rounds_succ]
  go_wp2_with fail
  refine (number_at s k (k + 2) 2 _ rfl (by omega) (by omega) (by omega)).mono ?_; rintro e w2 ⟨rfl, hb2⟩
  rw [v2]
  go_wp2_with fail
  rw [rounds_succ]
  go_wp2_with fail
  go_ret3
  exact ⟨rfl, (hb1).trans (hb2.mono (by have := (hb1).size; omega))⟩

theorem refNext_3 (s : ByteArray) (k : Nat) (w : World) (hs : s.size ≤ 9223372036854775807) (hk : k + 3 ≤ s.size) (v1 : numV (((bytesL s).drop k).take 1) = -1) (v2 : numV (((bytesL s).drop k).take 2) = -1) (n : Int) (v3 : numV (((bytesL s).drop k).take 3) = n) (hn : 0 ≤ n) :
    Calls Tryz.prog 84 #[.string s, .int .i64 k] w fun e w' => e = .returned (.tuple #[.int .i64 n, .int .i64 3, .bool true]) ∧ Below w.heap.size w w' := by
  go_enter Tryz.func84, Tryz.ntmps84
  go_wp2_with fail
  refine wp_loop_rounds 3 ?_
  rw [rounds_succ]
  go_wp2_with fail
  refine (number_at s k (k + 1) 1 _ rfl (by omega) (by omega) (by omega)).mono ?_; rintro e w1 ⟨rfl, hb1⟩
  rw [v1]
  go_wp2_with fail
  rw [rounds_succ]
  go_wp2_with fail
  refine (number_at s k (k + 2) 2 _ rfl (by omega) (by omega) (by omega)).mono ?_; rintro e w2 ⟨rfl, hb2⟩
  rw [v2]
  go_wp2_with fail
  rw [rounds_succ]
  go_wp2_with fail
  refine (number_at s k (k + 3) 3 _ rfl (by omega) (by omega) (by omega)).mono ?_; rintro e w3 ⟨rfl, hb3⟩
  rw [v3]
  go_wp2_with fail
  go_ret3
  exact ⟨rfl, ((hb1).trans (hb2.mono (by have := (hb1).size; omega))).trans (hb3.mono (by have := ((hb1).trans (hb2.mono (by have := (hb1).size; omega))).size; omega))⟩

theorem refNext_none3 (s : ByteArray) (k : Nat) (w : World) (hs : s.size ≤ 9223372036854775807) (hk : k + 3 = s.size) (v1 : numV (((bytesL s).drop k).take 1) = -1) (v2 : numV (((bytesL s).drop k).take 2) = -1) (v3 : numV (((bytesL s).drop k).take 3) = -1) :
    Calls Tryz.prog 84 #[.string s, .int .i64 k] w fun e w' => e = .returned (.tuple #[.int .i64 0, .int .i64 0, .bool false]) ∧ Below w.heap.size w w' := by
  have hk1 := Nat.le_of_eq hk
  have hk2 := Nat.le_of_eq hk.symm
  clear hk
  go_enter Tryz.func84, Tryz.ntmps84
  go_wp2_with fail
  refine wp_loop_rounds 4 ?_
  rw [rounds_succ]
  go_wp2_with fail
  refine (number_at s k (k + 1) 1 _ rfl (by omega) (by omega) (by omega)).mono ?_; rintro e w1 ⟨rfl, hb1⟩
  rw [v1]
  go_wp2_with fail
  rw [rounds_succ]
  go_wp2_with fail
  refine (number_at s k (k + 2) 2 _ rfl (by omega) (by omega) (by omega)).mono ?_; rintro e w2 ⟨rfl, hb2⟩
  rw [v2]
  go_wp2_with fail
  rw [rounds_succ]
  go_wp2_with fail
  refine (number_at s k (k + 3) 3 _ rfl (by omega) (by omega) (by omega)).mono ?_; rintro e w3 ⟨rfl, hb3⟩
  rw [v3]
  go_wp2_with fail
  rw [rounds_succ]
  go_wp2_with fail
  go_ret3
  exact ⟨rfl, ((hb1).trans (hb2.mono (by have := (hb1).size; omega))).trans (hb3.mono (by have := ((hb1).trans (hb2.mono (by have := (hb1).size; omega))).size; omega))⟩

theorem refNext_4 (s : ByteArray) (k : Nat) (w : World) (hs : s.size ≤ 9223372036854775807) (hk : k + 4 ≤ s.size) (v1 : numV (((bytesL s).drop k).take 1) = -1) (v2 : numV (((bytesL s).drop k).take 2) = -1) (v3 : numV (((bytesL s).drop k).take 3) = -1) (n : Int) (v4 : numV (((bytesL s).drop k).take 4) = n) (hn : 0 ≤ n) :
    Calls Tryz.prog 84 #[.string s, .int .i64 k] w fun e w' => e = .returned (.tuple #[.int .i64 n, .int .i64 4, .bool true]) ∧ Below w.heap.size w w' := by
  go_enter Tryz.func84, Tryz.ntmps84
  go_wp2_with fail
  refine wp_loop_rounds 4 ?_
  rw [rounds_succ]
  go_wp2_with fail
  refine (number_at s k (k + 1) 1 _ rfl (by omega) (by omega) (by omega)).mono ?_; rintro e w1 ⟨rfl, hb1⟩
  rw [v1]
  go_wp2_with fail
  rw [rounds_succ]
  go_wp2_with fail
  refine (number_at s k (k + 2) 2 _ rfl (by omega) (by omega) (by omega)).mono ?_; rintro e w2 ⟨rfl, hb2⟩
  rw [v2]
  go_wp2_with fail
  rw [rounds_succ]
  go_wp2_with fail
  refine (number_at s k (k + 3) 3 _ rfl (by omega) (by omega) (by omega)).mono ?_; rintro e w3 ⟨rfl, hb3⟩
  rw [v3]
  go_wp2_with fail
  rw [rounds_succ]
  go_wp2_with fail
  refine (number_at s k (k + 4) 4 _ rfl (by omega) (by omega) (by omega)).mono ?_; rintro e w4 ⟨rfl, hb4⟩
  rw [v4]
  go_wp2_with fail
  go_ret3
  exact ⟨rfl, (((hb1).trans (hb2.mono (by have := (hb1).size; omega))).trans (hb3.mono (by have := ((hb1).trans (hb2.mono (by have := (hb1).size; omega))).size; omega))).trans (hb4.mono (by have := (((hb1).trans (hb2.mono (by have := (hb1).size; omega))).trans (hb3.mono (by have := ((hb1).trans (hb2.mono (by have := (hb1).size; omega))).size; omega))).size; omega))⟩

theorem refNext_none4 (s : ByteArray) (k : Nat) (w : World) (hs : s.size ≤ 9223372036854775807) (hk : k + 4 ≤ s.size) (v1 : numV (((bytesL s).drop k).take 1) = -1) (v2 : numV (((bytesL s).drop k).take 2) = -1) (v3 : numV (((bytesL s).drop k).take 3) = -1) (v4 : numV (((bytesL s).drop k).take 4) = -1) :
    Calls Tryz.prog 84 #[.string s, .int .i64 k] w fun e w' => e = .returned (.tuple #[.int .i64 0, .int .i64 0, .bool false]) ∧ Below w.heap.size w w' := by
  go_enter Tryz.func84, Tryz.ntmps84
  go_wp2_with fail
  refine wp_loop_rounds 5 ?_
  rw [rounds_succ]
  go_wp2_with fail
  refine (number_at s k (k + 1) 1 _ rfl (by omega) (by omega) (by omega)).mono ?_; rintro e w1 ⟨rfl, hb1⟩
  rw [v1]
  go_wp2_with fail
  rw [rounds_succ]
  go_wp2_with fail
  refine (number_at s k (k + 2) 2 _ rfl (by omega) (by omega) (by omega)).mono ?_; rintro e w2 ⟨rfl, hb2⟩
  rw [v2]
  go_wp2_with fail
  rw [rounds_succ]
  go_wp2_with fail
  refine (number_at s k (k + 3) 3 _ rfl (by omega) (by omega) (by omega)).mono ?_; rintro e w3 ⟨rfl, hb3⟩
  rw [v3]
  go_wp2_with fail
  rw [rounds_succ]
  go_wp2_with fail
  refine (number_at s k (k + 4) 4 _ rfl (by omega) (by omega) (by omega)).mono ?_; rintro e w4 ⟨rfl, hb4⟩
  rw [v4]
  go_wp2_with fail
  rw [rounds_succ]
  go_wp2_with fail
  go_ret3
  exact ⟨rfl, (((hb1).trans (hb2.mono (by have := (hb1).size; omega))).trans (hb3.mono (by have := ((hb1).trans (hb2.mono (by have := (hb1).size; omega))).size; omega))).trans (hb4.mono (by have := (((hb1).trans (hb2.mono (by have := (hb1).size; omega))).trans (hb3.mono (by have := ((hb1).trans (hb2.mono (by have := (hb1).size; omega))).size; omega))).size; omega))⟩

/-- What scholiumref01.Next answers. -/
def refNextV : Option Int → Value
  | none => .tuple #[.int .i64 0, .int .i64 0, .bool false]
  | some n => .tuple #[.int .i64 n, .int .i64 (wid n), .bool true]
theorem refNextV_some (n : Int) : refNextV (some n) = .tuple #[.int .i64 n, .int .i64 (wid n), .bool true] := rfl

theorem head_nonneg (s : ByteArray) (k : Nat) : ∀ b, ((bytesL s).drop k).head? = some b → 0 ≤ b := by
  intro b hb
  by_cases hk : k < s.size
  · rw [drop_byt s k hk] at hb
    have := Option.some.inj hb
    rw [← this]; exact byt_lo s k
  · rw [drop_nil s k (by omega)] at hb; cases hb

theorem wid_pos (n : Int) : 1 ≤ wid n ∧ wid n ≤ 4 := by unfold wid; (repeat' split) <;> omega

theorem sign_fits {s : ByteArray} {k : Nat} {n : Int} (h : IsSign ((bytesL s).drop k) n) : k + wid n ≤ s.size := by
  obtain ⟨_, t, ht⟩ := h
  have := congrArg List.length ht
  rw [List.length_drop, List.length_append, encI_length, bytesL_length] at this
  have := (wid_pos n).1
  omega

theorem refNext_any (s : ByteArray) (k : Nat) (w : World) (hs : s.size ≤ 9223372036854775807) (hk : k < s.size) :
    Calls Tryz.prog 84 #[.string s, .int .i64 k] w fun e w' => e = .returned (refNextV (dec ((bytesL s).drop k))) ∧ Below w.heap.size w w' := by
  cases hd : dec ((bytesL s).drop k) with
  | none =>
    have v := fun m => numV_none hd m
    by_cases c1 : k + 1 = s.size
    · exact refNext_none1 s k w hs c1 (v 1)
    by_cases c2 : k + 2 = s.size
    · exact refNext_none2 s k w hs c2 (v 1) (v 2)
    by_cases c3 : k + 3 = s.size
    · exact refNext_none3 s k w hs c3 (v 1) (v 2) (v 3)
    · exact refNext_none4 s k w hs (by omega) (v 1) (v 2) (v 3) (v 4)
  | some n =>
    have hS := sign_of_dec (head_nonneg s k) hd
    have hf := sign_fits hS
    have v := fun m hm => numV_other hS m hm
    have v' := numV_at hS
    have hn := (rightB_true.1 hS.1).1
    rw [refNextV_some]
    have hw := wid_pos n
    have hcase : wid n = 1 ∨ wid n = 2 ∨ wid n = 3 ∨ wid n = 4 := by omega
    rcases hcase with c | c | c | c
    · rw [c] at hf v v' ⊢; exact refNext_1 s k w hs hf n v' hn
    · rw [c] at hf v v' ⊢; exact refNext_2 s k w hs hf (v 1 (by omega)) n v' hn
    · rw [c] at hf v v' ⊢; exact refNext_3 s k w hs hf (v 1 (by omega)) (v 2 (by omega)) n v' hn
    · rw [c] at hf v v' ⊢; exact refNext_4 s k w hs hf (v 1 (by omega)) (v 2 (by omega)) (v 3 (by omega)) n v' hn

end Go.Proofs.YtcbbaognomddkaaGreatDoor

/- utf.All and scholiumref01.All read a whole text: all its signs, in new memory, and the text's length; or ErrForm with the first offset at which no sign begins; or ErrLong. In terms of 'Parse'; nothing that was there is written. For every string shorter than 2^63 bytes. -/
namespace Go.Proofs.YtcbbaognomddkaaGreatDoor
open Go.RowKit
set_option maxRecDepth 100000
set_option linter.unusedVariables false

theorem grown_of_below {w w' : World} (hb : Below w.heap.size w w') : w.grownBy w' none := ⟨hb.os, hb.tape, hb.output, hb.size, fun k hk _ => hb.block k hk⟩
theorem own_below {w w' : World} {base : Nat} {e : TypeId} {size : Nat} {v : Value} {n : Nat} {xs : List Value} (h : w.ownsRow base e size v n xs) (hb : Below w.heap.size w w') : w'.ownsRow base e size v n xs :=
  h.kept (grown_of_below hb) (by cases hv : v.ownBlock <;> simp)
theorem hide {p : Prop} (h : p) : Hid p := h
theorem info3 : (Tryz.prog.info? 3).map (fun i => (i.zero, i.size, i.bytes)) = some (some (.int .i64 0), 1, 8) := by kernel_rfl

set_option maxHeartbeats 400000 in
theorem all_ok (s : ByteArray) (ns : List Int) (w : World) (hs : s.size ≤ 65535) (hp : Parse (bytesL s) ns []) :
    Calls Tryz.prog 65 #[.string s] w fun e w' => ∃ v, e = .returned (.tuple #[v, .int .i64 s.size, .int .i64 0]) ∧ w'.ownsRow w.heap.size 3 1 v ns.length (ns.map (Value.int .i64)) ∧ Below w.heap.size w w' := by
  obtain ⟨i0, hi, hz0, hz1, hz2⟩ := info_parts info3
  have hlen : s.size = (encAll ns).length := by have := parse_length hp; rw [bytesL_length] at this; simpa using this
  have hll : ns.length ≤ s.size := by rw [hlen]; exact length_encAll ns
  have hle : (encAll ns).length ≤ s.size := by omega
  have HL := hide hlen
  clear hlen
  have hd : decide ((65535 : Int) < (s.size : Int)) = false := decide_eq_false (by omega)
  go_enter Tryz.func65, Tryz.ntmps65
  go_wp2_with fail
  go_loopw [5, 6] (fun v a wr => ∃ j : Nat, j ≤ ns.length ∧ a = .int .i64 (offs ns j) ∧ wr.ownsRow w.heap.size 3 1 v j ((ns.take j).map (Value.int .i64)) ∧ Below w.heap.size w wr)
    (fun _ a _ => s.size - (intOf a).toNat)
  case atStart => exact ⟨0, Nat.zero_le _, by rw [offs_0]; rfl, World.ownsRow_nil _ _ _ _, Below.refl _ _⟩
  case round =>
    obtain ⟨j, hj, rfl, hown, hB⟩ := hrel
    have hsz := hB.size
    by_cases hlt : j < ns.length
    · have h1 := offs_lt hlt
      have h2 := hide (offs_succ ns j hlt)
      have h3 := hide (dec_at hp hlt)
      have h4 := hide (take_snocI hlt)
      have hw := wid_pos (ns.getD j 0)
      obtain ⟨n, hn⟩ : ∃ n, ns.getD j 0 = n := ⟨_, rfl⟩
      rw [hn] at h1 h2 h3 h4 hw
      have HN := hide hn
      clear hn
      have hk : offs ns j < s.size := by omega
      obtain ⟨q, hq⟩ : ∃ q, offs ns j = q := ⟨_, rfl⟩
      rw [hq] at h1 h2 h3 hk ⊢
      clear hq
      go_wp2_with fail
      refine (next_any s q _ (by omega) hk).mono ?_; rintro e w1 ⟨rfl, hb1⟩
      rw [h3.out, nextV_some]
      have hb2 := hB.trans (hb1.mono hsz)
      have hsz1 := hb2.size
      have hown1 := own_below hown hb1
      clear hown
      go_wp2_with (at_builtin; refine wpList_append_own _ rfl _ _ 32 rfl w.heap.size 3 i0 (.int .i64 0) 1 8 Tryz.underlying32 hi hz0 hz1 hz2 rfl (by decide) _ _ _ rfl (hown1.alloc _) ⟨w1.heap.size, 0, none⟩ 1 1 [.int .i64 n] rfl rfl ?c1 ?c2 ?c3 ?c4 ?c5 ?_)
      case c1 => exact cell_one_at _ _ _ _ (by simp)
      case c2 => exact one_cell _
      case c3 => unfold maxLen; omega
      case c4 => omega
      case c5 => simp; omega
      intro v2 w2 hown2 hg2 _
      have hB2 := below_append (hb2.alloc hsz1 _) (hown1.alloc _) hg2 (by simp; omega)
      clear hg2 hown1
      go_wp2_with fail
      go_roundw
      case rel =>
        refine ⟨j + 1, by omega, ?_, ?_, hB2⟩
        · rw [h2.out]; go_num
        · rw [h4.out, List.map_append, List.map_take]; exact hown2
      case measure => simp [intOf]; omega
    · have hjn : j = ns.length := by omega
      subst hjn
      have hend : offs ns ns.length = s.size := by rw [offs_all]; exact HL.out.symm
      rw [hend]
      rw [List.take_length] at hown
      clear hend
      go_wp2_with fail
      go_ret3
      exact ⟨_, rfl, hown, hB⟩

set_option maxHeartbeats 400000 in
theorem all_err (s : ByteArray) (ns r : List Int) (w : World) (hs : s.size ≤ 65535) (hp : Parse (bytesL s) ns r) (hr : r ≠ []) :
    Calls Tryz.prog 65 #[.string s] w fun e w' => e = .returned (.tuple #[.slice none 0 0, .int .i64 (encAll ns).length, .int .i64 1]) ∧ Below w.heap.size w w' := by
  obtain ⟨i0, hi, hz0, hz1, hz2⟩ := info_parts info3
  have hlen : s.size = (encAll ns).length + r.length := by have := parse_length hp; rwa [bytesL_length] at this
  have hrl : 0 < r.length := List.length_pos_iff.2 hr
  have hll : ns.length ≤ s.size := by rw [hlen]; have := length_encAll ns; omega
  have hle : (encAll ns).length < s.size := by omega
  have HL := hide hlen
  clear hlen
  have hd : decide ((65535 : Int) < (s.size : Int)) = false := decide_eq_false (by omega)
  go_enter Tryz.func65, Tryz.ntmps65
  go_wp2_with fail
  go_loopw [5, 6] (fun v a wr => ∃ j : Nat, j ≤ ns.length ∧ a = .int .i64 (offs ns j) ∧ wr.ownsRow w.heap.size 3 1 v j ((ns.take j).map (Value.int .i64)) ∧ Below w.heap.size w wr)
    (fun _ a _ => s.size - (intOf a).toNat)
  case atStart => exact ⟨0, Nat.zero_le _, by rw [offs_0]; rfl, World.ownsRow_nil _ _ _ _, Below.refl _ _⟩
  case round =>
    obtain ⟨j, hj, rfl, hown, hB⟩ := hrel
    have hsz := hB.size
    by_cases hlt : j < ns.length
    · have h1 := offs_lt hlt
      have h2 := hide (offs_succ ns j hlt)
      have h3 := hide (dec_at hp hlt)
      have h4 := hide (take_snocI hlt)
      have hw := wid_pos (ns.getD j 0)
      obtain ⟨n, hn⟩ : ∃ n, ns.getD j 0 = n := ⟨_, rfl⟩
      rw [hn] at h1 h2 h3 h4 hw
      have HN := hide hn
      clear hn
      have hk : offs ns j < s.size := by omega
      obtain ⟨q, hq⟩ : ∃ q, offs ns j = q := ⟨_, rfl⟩
      rw [hq] at h1 h2 h3 hk ⊢
      clear hq
      go_wp2_with fail
      refine (next_any s q _ (by omega) hk).mono ?_; rintro e w1 ⟨rfl, hb1⟩
      rw [h3.out, nextV_some]
      have hb2 := hB.trans (hb1.mono hsz)
      have hsz1 := hb2.size
      have hown1 := own_below hown hb1
      clear hown
      go_wp2_with (at_builtin; refine wpList_append_own _ rfl _ _ 32 rfl w.heap.size 3 i0 (.int .i64 0) 1 8 Tryz.underlying32 hi hz0 hz1 hz2 rfl (by decide) _ _ _ rfl (hown1.alloc _) ⟨w1.heap.size, 0, none⟩ 1 1 [.int .i64 n] rfl rfl ?c1 ?c2 ?c3 ?c4 ?c5 ?_)
      case c1 => exact cell_one_at _ _ _ _ (by simp)
      case c2 => exact one_cell _
      case c3 => unfold maxLen; omega
      case c4 => omega
      case c5 => simp; omega
      intro v2 w2 hown2 hg2 _
      have hB2 := below_append (hb2.alloc hsz1 _) (hown1.alloc _) hg2 (by simp; omega)
      clear hg2 hown1
      go_wp2_with fail
      go_roundw
      case rel =>
        refine ⟨j + 1, by omega, ?_, ?_, hB2⟩
        · rw [h2.out]; go_num
        · rw [h4.out, List.map_append, List.map_take]; exact hown2
      case measure => simp [intOf]; omega
    · have hjn : j = ns.length := by omega
      subst hjn
      have h3 := hide (dec_end hp)
      rw [offs_all] at h3 ⊢
      obtain ⟨q, hq⟩ : ∃ q, (encAll ns).length = q := ⟨_, rfl⟩
      rw [hq] at h3 hle ⊢
      have HQ := hide hq
      clear hq
      go_wp2_with fail
      refine (next_any s q _ (by omega) (by omega)).mono ?_; rintro e w1 ⟨rfl, hb1⟩
      rw [h3.out]
      unfold nextV
      have hb2 := hB.trans (hb1.mono hsz)
      go_wp2_with fail
      go_ret3
      exact ⟨by rw [HQ.out]; rfl, hb2⟩

set_option maxHeartbeats 400000 in
theorem refAll_ok (s : ByteArray) (ns : List Int) (w : World) (hs : s.size ≤ 65535) (hp : Parse (bytesL s) ns []) :
    Calls Tryz.prog 52 #[.string s] w fun e w' => ∃ v, e = .returned (.tuple #[v, .int .i64 s.size, .int .i64 0]) ∧ w'.ownsRow w.heap.size 3 1 v ns.length (ns.map (Value.int .i64)) ∧ Below w.heap.size w w' := by
  obtain ⟨i0, hi, hz0, hz1, hz2⟩ := info_parts info3
  have hlen : s.size = (encAll ns).length := by have := parse_length hp; rw [bytesL_length] at this; simpa using this
  have hll : ns.length ≤ s.size := by rw [hlen]; exact length_encAll ns
  have hle : (encAll ns).length ≤ s.size := by omega
  have HL := hide hlen
  clear hlen
  have hd : decide ((65535 : Int) < (s.size : Int)) = false := decide_eq_false (by omega)
  have hown0 : (w.alloc (.cells #[] 3)).ownsRow w.heap.size 3 1 (.slice (some ⟨w.heap.size, 0, none⟩) 0 0) 0 [] := World.ownsRow_made w #[] 0 (Nat.le_refl _) (Nat.zero_le _) rfl
  have hb0 : Below w.heap.size w (w.alloc (.cells #[] 3)) := (Below.refl _ _).alloc (Nat.le_refl _) _
  go_enter Tryz.func52, Tryz.ntmps52
  go_wp2_with fail
  go_loopw [5, 6] (fun v a wr => ∃ j : Nat, j ≤ ns.length ∧ a = .int .i64 (offs ns j) ∧ wr.ownsRow w.heap.size 3 1 v j ((ns.take j).map (Value.int .i64)) ∧ Below w.heap.size w wr)
    (fun _ a _ => s.size - (intOf a).toNat)
  case atStart => exact ⟨0, Nat.zero_le _, by rw [offs_0]; rfl, hown0, hb0⟩
  case round =>
    obtain ⟨j, hj, rfl, hown, hB⟩ := hrel
    have hsz := hB.size
    by_cases hlt : j < ns.length
    · have h1 := offs_lt hlt
      have h2 := hide (offs_succ ns j hlt)
      have h3 := hide (dec_at hp hlt)
      have h4 := hide (take_snocI hlt)
      have hw := wid_pos (ns.getD j 0)
      obtain ⟨n, hn⟩ : ∃ n, ns.getD j 0 = n := ⟨_, rfl⟩
      rw [hn] at h1 h2 h3 h4 hw
      have HN := hide hn
      clear hn
      have hk : offs ns j < s.size := by omega
      obtain ⟨q, hq⟩ : ∃ q, offs ns j = q := ⟨_, rfl⟩
      rw [hq] at h1 h2 h3 hk ⊢
      clear hq
      go_wp2_with fail
      refine (refNext_any s q _ (by omega) hk).mono ?_; rintro e w1 ⟨rfl, hb1⟩
      rw [h3.out, refNextV_some]
      have hb2 := hB.trans (hb1.mono hsz)
      have hsz1 := hb2.size
      have hown1 := own_below hown hb1
      clear hown
      go_wp2_with (at_builtin; refine wpList_append_own _ rfl _ _ 32 rfl w.heap.size 3 i0 (.int .i64 0) 1 8 Tryz.underlying32 hi hz0 hz1 hz2 rfl (by decide) _ _ _ rfl (hown1.alloc _) ⟨w1.heap.size, 0, none⟩ 1 1 [.int .i64 n] rfl rfl ?c1 ?c2 ?c3 ?c4 ?c5 ?_)
      case c1 => exact cell_one_at _ _ _ _ (by simp)
      case c2 => exact one_cell _
      case c3 => unfold maxLen; omega
      case c4 => omega
      case c5 => simp; omega
      intro v2 w2 hown2 hg2 _
      have hB2 := below_append (hb2.alloc hsz1 _) (hown1.alloc _) hg2 (by simp; omega)
      clear hg2 hown1
      go_wp2_with fail
      go_roundw
      case rel =>
        refine ⟨j + 1, by omega, ?_, ?_, hB2⟩
        · rw [h2.out]; go_num
        · rw [h4.out, List.map_append, List.map_take]; exact hown2
      case measure => simp [intOf]; omega
    · have hjn : j = ns.length := by omega
      subst hjn
      have hend : offs ns ns.length = s.size := by rw [offs_all]; exact HL.out.symm
      rw [hend]
      rw [List.take_length] at hown
      clear hend
      go_wp2_with fail
      go_ret3
      exact ⟨_, rfl, hown, hB⟩

set_option maxHeartbeats 400000 in
theorem refAll_err (s : ByteArray) (ns r : List Int) (w : World) (hs : s.size ≤ 65535) (hp : Parse (bytesL s) ns r) (hr : r ≠ []) :
    Calls Tryz.prog 52 #[.string s] w fun e w' => e = .returned (.tuple #[.slice none 0 0, .int .i64 (encAll ns).length, .int .i64 1]) ∧ Below w.heap.size w w' := by
  obtain ⟨i0, hi, hz0, hz1, hz2⟩ := info_parts info3
  have hlen : s.size = (encAll ns).length + r.length := by have := parse_length hp; rwa [bytesL_length] at this
  have hrl : 0 < r.length := List.length_pos_iff.2 hr
  have hll : ns.length ≤ s.size := by rw [hlen]; have := length_encAll ns; omega
  have hle : (encAll ns).length < s.size := by omega
  have HL := hide hlen
  clear hlen
  have hd : decide ((65535 : Int) < (s.size : Int)) = false := decide_eq_false (by omega)
  have hown0 : (w.alloc (.cells #[] 3)).ownsRow w.heap.size 3 1 (.slice (some ⟨w.heap.size, 0, none⟩) 0 0) 0 [] := World.ownsRow_made w #[] 0 (Nat.le_refl _) (Nat.zero_le _) rfl
  have hb0 : Below w.heap.size w (w.alloc (.cells #[] 3)) := (Below.refl _ _).alloc (Nat.le_refl _) _
  go_enter Tryz.func52, Tryz.ntmps52
  go_wp2_with fail
  go_loopw [5, 6] (fun v a wr => ∃ j : Nat, j ≤ ns.length ∧ a = .int .i64 (offs ns j) ∧ wr.ownsRow w.heap.size 3 1 v j ((ns.take j).map (Value.int .i64)) ∧ Below w.heap.size w wr)
    (fun _ a _ => s.size - (intOf a).toNat)
  case atStart => exact ⟨0, Nat.zero_le _, by rw [offs_0]; rfl, hown0, hb0⟩
  case round =>
    obtain ⟨j, hj, rfl, hown, hB⟩ := hrel
    have hsz := hB.size
    by_cases hlt : j < ns.length
    · have h1 := offs_lt hlt
      have h2 := hide (offs_succ ns j hlt)
      have h3 := hide (dec_at hp hlt)
      have h4 := hide (take_snocI hlt)
      have hw := wid_pos (ns.getD j 0)
      obtain ⟨n, hn⟩ : ∃ n, ns.getD j 0 = n := ⟨_, rfl⟩
      rw [hn] at h1 h2 h3 h4 hw
      have HN := hide hn
      clear hn
      have hk : offs ns j < s.size := by omega
      obtain ⟨q, hq⟩ : ∃ q, offs ns j = q := ⟨_, rfl⟩
      rw [hq] at h1 h2 h3 hk ⊢
      clear hq
      go_wp2_with fail
      refine (refNext_any s q _ (by omega) hk).mono ?_; rintro e w1 ⟨rfl, hb1⟩
      rw [h3.out, refNextV_some]
      have hb2 := hB.trans (hb1.mono hsz)
      have hsz1 := hb2.size
      have hown1 := own_below hown hb1
      clear hown
      go_wp2_with (at_builtin; refine wpList_append_own _ rfl _ _ 32 rfl w.heap.size 3 i0 (.int .i64 0) 1 8 Tryz.underlying32 hi hz0 hz1 hz2 rfl (by decide) _ _ _ rfl (hown1.alloc _) ⟨w1.heap.size, 0, none⟩ 1 1 [.int .i64 n] rfl rfl ?c1 ?c2 ?c3 ?c4 ?c5 ?_)
      case c1 => exact cell_one_at _ _ _ _ (by simp)
      case c2 => exact one_cell _
      case c3 => unfold maxLen; omega
      case c4 => omega
      case c5 => simp; omega
      intro v2 w2 hown2 hg2 _
      have hB2 := below_append (hb2.alloc hsz1 _) (hown1.alloc _) hg2 (by simp; omega)
      clear hg2 hown1
      go_wp2_with fail
      go_roundw
      case rel =>
        refine ⟨j + 1, by omega, ?_, ?_, hB2⟩
        · rw [h2.out]; go_num
        · rw [h4.out, List.map_append, List.map_take]; exact hown2
      case measure => simp [intOf]; omega
    · have hjn : j = ns.length := by omega
      subst hjn
      have h3 := hide (dec_end hp)
      rw [offs_all] at h3 ⊢
      obtain ⟨q, hq⟩ : ∃ q, (encAll ns).length = q := ⟨_, rfl⟩
      rw [hq] at h3 hle ⊢
      have HQ := hide hq
      clear hq
      go_wp2_with fail
      refine (refNext_any s q _ (by omega) (by omega)).mono ?_; rintro e w1 ⟨rfl, hb1⟩
      rw [h3.out]
      unfold refNextV
      have hb2 := hB.trans (hb1.mono hsz)
      go_wp2_with fail
      go_ret3
      exact ⟨by rw [HQ.out]; rfl, hb2⟩

theorem refAll_long (s : ByteArray) (w : World) (hs : 65535 < s.size) :
    Calls Tryz.prog 52 #[.string s] w fun e w' => e = .returned (.tuple #[.slice none 0 0, .int .i64 0, .int .i64 2]) ∧ Below w.heap.size w w' := by
  go_enter Tryz.func52, Tryz.ntmps52
  go_wp2_with fail
  go_ret3
  exact ⟨rfl, Below.refl _ _⟩

end Go.Proofs.YtcbbaognomddkaaGreatDoor

/- Rows that a call made: their shape, their cells; strings turned into new rows and back. No program but its types. -/
namespace Go.Proofs.YtcbbaognomddkaaGreatDoor
open Go.RowKit
set_option maxRecDepth 100000
set_option linter.unusedVariables false

theorem own_shape {w : World} {base : Nat} {e : TypeId} {v : Value} {n : Nat} {xs : List Value} (h : w.ownsRow base e 1 v n xs) : ∃ a cap, v = .slice a n cap := by
  rcases h.2 with ⟨rfl, rfl⟩ | ⟨g, cap, cur, rfl, _⟩
  · exact ⟨_, _, rfl⟩
  · exact ⟨_, _, rfl⟩

theorem own_cells {w : World} {base : Nat} {v : Value} {n : Nat} {xs : List Int} (h : w.ownsRow base 3 1 v n (xs.map (Value.int .i64))) (hx : xs.length = n) (hn : 0 < n) :
    ∃ g cap, v = .slice (some ⟨g, 0, none⟩) n cap ∧ g < w.heap.size ∧ ∀ i, i < n → w.cell? ⟨g, 0 + i, none⟩ = some (.int .i64 (xs.getD i 0)) := by
  obtain ⟨g, cap, rfl, _, hlt, hc⟩ := own_open h hn
  refine ⟨g, cap, rfl, hlt, fun i hi => ?_⟩
  have := hc i (.int .i64 (xs.getD i 0)) (by simp [List.getD, show i < xs.length by omega])
  rwa [Addr.add_lit] at this

end Go.Proofs.YtcbbaognomddkaaGreatDoor
