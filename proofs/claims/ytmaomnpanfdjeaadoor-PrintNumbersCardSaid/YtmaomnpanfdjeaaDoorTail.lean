/- scholiumref01.tail: the bytes of six bits each, from the highest on, for the three numbers of bytes with which it is called: a new slice that holds just them; nothing that was there is written. For 0 to 1114111. -/
import Derived.Test.YtmaomnpanfdjeaaDoorEnc
import Derived.OwnWalk
import Derived.Maps.AppendAt
namespace Go.Proofs.YtmaomnpanfdjeaaDoor
open Go.RowKit

theorem info5 : (Tryd.prog.info? 5).map (fun i => (i.zero, i.size, i.bytes)) = some (some (.int .u8 0), 1, 1) := by kernel_rfl

theorem cell_one_new' (w : World) (x : Value) (t : TypeId) : ∀ j u, [x][j]? = some u → (w.alloc (.cells #[x] t)).cell? ((⟨w.heap.size, 0, none⟩ : Addr).add j) = some u := by
  intro j u hj
  match j, hj with
  | 0, hj =>
    obtain rfl : x = u := by simpa using hj
    have : (⟨w.heap.size, 0, none⟩ : Addr).add 0 = ⟨w.heap.size, 0, none⟩ := rfl
    rw [this, World.cell?_alloc_mark]
    rfl

theorem cell_one_at (w : World) (x : Value) (t : TypeId) (g : Nat) (hg : g = w.heap.size) : ∀ j u, [x][j]? = some u → (w.alloc (.cells #[x] t)).cell? ((⟨g, 0, none⟩ : Addr).add j) = some u := by
  subst hg; exact cell_one_new' w x t

theorem one_cell {k : IntKind} (n : Int) : ∀ u ∈ [Value.int k n], u.oneCell' = true := by
  intro u hu; simp at hu; subst hu; rfl

theorem below_append {B : Nat} {a W w1 : World} {e : TypeId} {s n : Nat} {v : Value} {xs : List Value} (h : Below B a W) (hown : W.ownsRow B e s v n xs) (hg : W.grownBy w1 v.ownBlock) (hB : B ≤ W.heap.size) : Below B a w1 :=
  h.grown hg hB (fun k hk => (hown.lt k hk).1)

/-- What an owned row that is not empty is. -/
theorem own_open {w : World} {base : Nat} {e : TypeId} {v : Value} {n : Nat} {xs : List Value} (h : w.ownsRow base e 1 v n xs) (hn : 0 < n) :
    ∃ g cap, v = .slice (some ⟨g, 0, none⟩) n cap ∧ base ≤ g ∧ g < w.heap.size ∧ ∀ j u, xs[j]? = some u → w.cell? ((⟨g, 0, none⟩ : Addr).add j) = some u := by
  rcases h.2 with ⟨_, h0⟩ | ⟨g, cap, cur, rfl, hb, hg, hr⟩
  · omega
  · have hl := h.lt g rfl
    exact ⟨g, cap, rfl, hl.1, hl.2, h.cells (g := g) rfl⟩

set_option maxHeartbeats 400000 in
theorem tail_1 (n : Int) (w : World) (h0 : 0 ≤ n) (h1 : n ≤ 1114111) :
    Calls Tryd.prog 94 #[.int .i64 n, .int .i64 1] w fun e w' => ∃ g cap, e = .returned (.slice (some ⟨g, 0, none⟩) 1 cap) ∧ w.heap.size ≤ g ∧ g < w'.heap.size ∧
      (∀ j u, ([.int .u8 (128 + n % 64)] : List Value)[j]? = some u → w'.cell? ((⟨g, 0, none⟩ : Addr).add j) = some u) ∧ Below w.heap.size w w' := by
  obtain ⟨i0, hi, hz0, hz1, hz2⟩ := info_parts info5
  have hown0 : (w.alloc (.cells #[] 5)).ownsRow w.heap.size 5 1 (.slice (some ⟨w.heap.size, 0, none⟩) 0 0) 0 [] := World.ownsRow_made w #[] 0 (Nat.le_refl _) (Nat.zero_le _) rfl
  have hb0 : Below w.heap.size w (w.alloc (.cells #[] 5)) := (Below.refl _ _).alloc (Nat.le_refl _) _
  go_enter Tryd.func94, Tryd.ntmps94
  go_wp2_with fail
  refine wp_loop_rounds 2 ?_
  rw [rounds_succ]
  go_wp2_with fail
  refine wp_loop_rounds 1 ?_
  rw [rounds_succ]
  go_wp2_with (at_builtin; refine wpList_append_own _ rfl _ _ 53 rfl w.heap.size 5 i0 (.int .u8 0) 1 1 Tryd.underlying53 hi hz0 hz1 hz2 rfl (by decide) _ _ _ rfl (hown0.alloc _) ⟨w.heap.size + 1, 0, none⟩ 1 1 [.int .u8 (128 + n % 64)] rfl rfl ?c11 ?c21 ?c31 ?c41 ?c51 ?_)
  case c11 => exact cell_one_at _ _ _ _ (by simp)
  case c21 => exact one_cell _
  case c31 => decide
  case c41 => decide
  case c51 => simp; omega
  intro v1 w1 hown1 hg1 _
  have hb1 := below_append (hb0.alloc (by first | omega | (simp; done) | (simp; omega)) _) (hown0.alloc _) hg1 (by first | (simp; done) | (simp; omega))
  have sz1 := hb1.size
  try simp only [Nat.zero_add, Nat.reduceAdd, List.nil_append, List.cons_append] at hown1
  clear hg1 hown0
  go_wp2_with fail
  rw [rounds_succ]
  go_wp2_with fail
  go_ret
  obtain ⟨g, cap, rfl, hge, hlt, hcells⟩ := own_open hown1 (by decide)
  exact ⟨g, cap, rfl, hge, hlt, hcells, hb1⟩

set_option maxHeartbeats 400000 in
theorem tail_2 (n : Int) (w : World) (h0 : 0 ≤ n) (h1 : n ≤ 1114111) :
    Calls Tryd.prog 94 #[.int .i64 n, .int .i64 2] w fun e w' => ∃ g cap, e = .returned (.slice (some ⟨g, 0, none⟩) 2 cap) ∧ w.heap.size ≤ g ∧ g < w'.heap.size ∧
      (∀ j u, ([.int .u8 (128 + n / 64 % 64), .int .u8 (128 + n % 64)] : List Value)[j]? = some u → w'.cell? ((⟨g, 0, none⟩ : Addr).add j) = some u) ∧ Below w.heap.size w w' := by
  obtain ⟨i0, hi, hz0, hz1, hz2⟩ := info_parts info5
  have hown0 : (w.alloc (.cells #[] 5)).ownsRow w.heap.size 5 1 (.slice (some ⟨w.heap.size, 0, none⟩) 0 0) 0 [] := World.ownsRow_made w #[] 0 (Nat.le_refl _) (Nat.zero_le _) rfl
  have hb0 : Below w.heap.size w (w.alloc (.cells #[] 5)) := (Below.refl _ _).alloc (Nat.le_refl _) _
  go_enter Tryd.func94, Tryd.ntmps94
  go_wp2_with fail
  refine wp_loop_rounds 3 ?_
  rw [rounds_succ]
  go_wp2_with fail
  refine wp_loop_rounds 2 ?_
  rw [rounds_succ]
  go_wp2_with fail
  rw [rounds_succ]
  go_wp2_with (at_builtin; refine wpList_append_own _ rfl _ _ 53 rfl w.heap.size 5 i0 (.int .u8 0) 1 1 Tryd.underlying53 hi hz0 hz1 hz2 rfl (by decide) _ _ _ rfl (hown0.alloc _) ⟨w.heap.size + 1, 0, none⟩ 1 1 [.int .u8 (128 + n / 64 % 64)] rfl rfl ?c11 ?c21 ?c31 ?c41 ?c51 ?_)
  case c11 => exact cell_one_at _ _ _ _ (by simp)
  case c21 => exact one_cell _
  case c31 => decide
  case c41 => decide
  case c51 => simp; omega
  intro v1 w1 hown1 hg1 _
  have hb1 := below_append (hb0.alloc (by first | omega | (simp; done) | (simp; omega)) _) (hown0.alloc _) hg1 (by first | (simp; done) | (simp; omega))
  have sz1 := hb1.size
  try simp only [Nat.zero_add, Nat.reduceAdd, List.nil_append, List.cons_append] at hown1
  clear hg1 hown0
  go_wp2_with fail
  rw [rounds_succ]
  go_wp2_with fail
  refine wp_loop_rounds 1 ?_
  rw [rounds_succ]
  go_wp2_with (at_builtin; refine wpList_append_own _ rfl _ _ 53 rfl w.heap.size 5 i0 (.int .u8 0) 1 1 Tryd.underlying53 hi hz0 hz1 hz2 rfl (by decide) _ _ _ rfl (hown1.alloc _) ⟨w1.heap.size, 0, none⟩ 1 1 [.int .u8 (128 + n % 64)] rfl rfl ?c12 ?c22 ?c32 ?c42 ?c52 ?_)
  case c12 => exact cell_one_at _ _ _ _ (by simp)
  case c22 => exact one_cell _
  case c32 => decide
  case c42 => decide
  case c52 => simp; omega
  intro v2 w2 hown2 hg2 _
  have hb2 := below_append (hb1.alloc (by first | omega | (simp; done) | (simp; omega)) _) (hown1.alloc _) hg2 (by first | (simp; done) | (simp; omega))
  have sz2 := hb2.size
  try simp only [Nat.zero_add, Nat.reduceAdd, List.nil_append, List.cons_append] at hown2
  clear hg2 hown1
  go_wp2_with fail
  rw [rounds_succ]
  go_wp2_with fail
  go_ret
  obtain ⟨g, cap, rfl, hge, hlt, hcells⟩ := own_open hown2 (by decide)
  exact ⟨g, cap, rfl, hge, hlt, hcells, hb2⟩

set_option maxHeartbeats 400000 in
theorem tail_3 (n : Int) (w : World) (h0 : 0 ≤ n) (h1 : n ≤ 1114111) :
    Calls Tryd.prog 94 #[.int .i64 n, .int .i64 3] w fun e w' => ∃ g cap, e = .returned (.slice (some ⟨g, 0, none⟩) 3 cap) ∧ w.heap.size ≤ g ∧ g < w'.heap.size ∧
      (∀ j u, ([.int .u8 (128 + n / 64 / 64 % 64), .int .u8 (128 + n / 64 % 64), .int .u8 (128 + n % 64)] : List Value)[j]? = some u → w'.cell? ((⟨g, 0, none⟩ : Addr).add j) = some u) ∧ Below w.heap.size w w' := by
  obtain ⟨i0, hi, hz0, hz1, hz2⟩ := info_parts info5
  have hown0 : (w.alloc (.cells #[] 5)).ownsRow w.heap.size 5 1 (.slice (some ⟨w.heap.size, 0, none⟩) 0 0) 0 [] := World.ownsRow_made w #[] 0 (Nat.le_refl _) (Nat.zero_le _) rfl
  have hb0 : Below w.heap.size w (w.alloc (.cells #[] 5)) := (Below.refl _ _).alloc (Nat.le_refl _) _
  go_enter Tryd.func94, Tryd.ntmps94
  go_wp2_with fail
  refine wp_loop_rounds 4 ?_
  rw [rounds_succ]
  go_wp2_with fail
  refine wp_loop_rounds 3 ?_
  rw [rounds_succ]
  go_wp2_with fail
  rw [rounds_succ]
  go_wp2_with fail
  rw [rounds_succ]
  go_wp2_with (at_builtin; refine wpList_append_own _ rfl _ _ 53 rfl w.heap.size 5 i0 (.int .u8 0) 1 1 Tryd.underlying53 hi hz0 hz1 hz2 rfl (by decide) _ _ _ rfl (hown0.alloc _) ⟨w.heap.size + 1, 0, none⟩ 1 1 [.int .u8 (128 + n / 64 / 64 % 64)] rfl rfl ?c11 ?c21 ?c31 ?c41 ?c51 ?_)
  case c11 => exact cell_one_at _ _ _ _ (by simp)
  case c21 => exact one_cell _
  case c31 => decide
  case c41 => decide
  case c51 => simp; omega
  intro v1 w1 hown1 hg1 _
  have hb1 := below_append (hb0.alloc (by first | omega | (simp; done) | (simp; omega)) _) (hown0.alloc _) hg1 (by first | (simp; done) | (simp; omega))
  have sz1 := hb1.size
  try simp only [Nat.zero_add, Nat.reduceAdd, List.nil_append, List.cons_append] at hown1
  clear hg1 hown0
  go_wp2_with fail
  rw [rounds_succ]
  go_wp2_with fail
  refine wp_loop_rounds 2 ?_
  rw [rounds_succ]
  go_wp2_with fail
  rw [rounds_succ]
  go_wp2_with (at_builtin; refine wpList_append_own _ rfl _ _ 53 rfl w.heap.size 5 i0 (.int .u8 0) 1 1 Tryd.underlying53 hi hz0 hz1 hz2 rfl (by decide) _ _ _ rfl (hown1.alloc _) ⟨w1.heap.size, 0, none⟩ 1 1 [.int .u8 (128 + n / 64 % 64)] rfl rfl ?c12 ?c22 ?c32 ?c42 ?c52 ?_)
  case c12 => exact cell_one_at _ _ _ _ (by simp)
  case c22 => exact one_cell _
  case c32 => decide
  case c42 => decide
  case c52 => simp; omega
  intro v2 w2 hown2 hg2 _
  have hb2 := below_append (hb1.alloc (by first | omega | (simp; done) | (simp; omega)) _) (hown1.alloc _) hg2 (by first | (simp; done) | (simp; omega))
  have sz2 := hb2.size
  try simp only [Nat.zero_add, Nat.reduceAdd, List.nil_append, List.cons_append] at hown2
  clear hg2 hown1
  go_wp2_with fail
  rw [rounds_succ]
  go_wp2_with fail
  refine wp_loop_rounds 1 ?_
  rw [rounds_succ]
  go_wp2_with (at_builtin; refine wpList_append_own _ rfl _ _ 53 rfl w.heap.size 5 i0 (.int .u8 0) 1 1 Tryd.underlying53 hi hz0 hz1 hz2 rfl (by decide) _ _ _ rfl (hown2.alloc _) ⟨w2.heap.size, 0, none⟩ 1 1 [.int .u8 (128 + n % 64)] rfl rfl ?c13 ?c23 ?c33 ?c43 ?c53 ?_)
  case c13 => exact cell_one_at _ _ _ _ (by simp)
  case c23 => exact one_cell _
  case c33 => decide
  case c43 => decide
  case c53 => simp; omega
  intro v3 w3 hown3 hg3 _
  have hb3 := below_append (hb2.alloc (by first | omega | (simp; done) | (simp; omega)) _) (hown2.alloc _) hg3 (by first | (simp; done) | (simp; omega))
  have sz3 := hb3.size
  try simp only [Nat.zero_add, Nat.reduceAdd, List.nil_append, List.cons_append] at hown3
  clear hg3 hown2
  go_wp2_with fail
  rw [rounds_succ]
  go_wp2_with fail
  go_ret
  obtain ⟨g, cap, rfl, hge, hlt, hcells⟩ := own_open hown3 (by decide)
  exact ⟨g, cap, rfl, hge, hlt, hcells, hb3⟩

end Go.Proofs.YtmaomnpanfdjeaaDoor
