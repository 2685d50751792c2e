/- How much of a tree scholiumlaw04.budget copies: all of it, unless it is very great. No program. -/
import Derived.Test.YtkccjfbgepmfkaaB1
import Derived.LoopTactic
import Derived.LoopN
import Derived.Deep.RegionHeld3
import Derived.IntWalk
import Derived.Test.YtkccjfbgepmfkaaC8
namespace Go.Proofs.Ytkccjfbgepmfkaa
open Go.RowKit
set_option linter.unusedVariables false

mutual
def bud : RT → Int → RT × Int
  | .node k a s n l, x => (.node k a s n (budL l (x - 1)).1, (budL l (x - 1)).2)
def budL : List RT → Int → List RT × Int
  | [], x => ([], x)
  | t :: r, x => if -9000 < x then ((bud t x).1 :: (budL r (bud t x).2).1, (budL r (bud t x).2).2) else ([], x)
end
theorem bud_node (k a : Int) (s : ByteArray) (n : Int) (l : List RT) (x : Int) : bud (.node k a s n l) x = (.node k a s n (budL l (x - 1)).1, (budL l (x - 1)).2) := by rw [bud]
theorem budL_nil (x : Int) : budL [] x = ([], x) := by rw [budL]
theorem budL_go {t : RT} {r : List RT} {x : Int} (h : -9000 < x) : budL (t :: r) x = ((bud t x).1 :: (budL r (bud t x).2).1, (budL r (bud t x).2).2) := by rw [budL, if_pos h]
theorem budL_stop {l : List RT} {x : Int} (h : ¬ -9000 < x) : budL l x = ([], x) := by
  cases l with
  | nil => rw [budL]
  | cons t r => rw [budL, if_neg h]

/-- Either all was copied, or no more were left. -/
def BudOk (t : RT) : Prop := ∀ x : Int, -9000 < x → ((bud t x).1 = t ∧ x - (bud t x).2 = t.size ∧ -9000 ≤ (bud t x).2) ∨ ((bud t x).2 = -9000 ∧ x + 9000 ≤ t.size)
theorem budL_ok : ∀ (l : List RT), (∀ t ∈ l, BudOk t) → ∀ x : Int, -9000 ≤ x → ((budL l x).1 = l ∧ x - (budL l x).2 = sizeL l ∧ -9000 ≤ (budL l x).2) ∨ ((budL l x).2 = -9000 ∧ x + 9000 ≤ sizeL l)
  | [], _, x, hx => by rw [budL_nil, sizeL_nil]; left; exact ⟨rfl, by simp, hx⟩
  | t :: r, h, x, hx => by
    by_cases hx' : -9000 < x
    · rw [budL_go hx', sizeL_cons]
      rcases h t (List.mem_cons_self) x hx' with ⟨h1, h2, h3⟩ | ⟨h1, h2⟩
      · rcases budL_ok r (fun u hu => h u (List.mem_cons_of_mem _ hu)) (bud t x).2 h3 with ⟨g1, g2, g3⟩ | ⟨g1, g2⟩
        · left; exact ⟨by rw [h1, g1], by omega, g3⟩
        · right; exact ⟨g1, by omega⟩
      · right
        have e : budL r (bud t x).2 = ([], (bud t x).2) := budL_stop (by omega)
        rw [e]
        exact ⟨h1, by omega⟩
    · rw [budL_stop hx']
      right; exact ⟨by show x = -9000; omega, by omega⟩
theorem bud_ok : ∀ t, BudOk t := by
  intro t
  induction t using RT.ind with
  | h k a s n l ih =>
    intro x hx
    rw [bud_node, size_node]
    rcases budL_ok l ih (x - 1) (by omega) with ⟨h1, h2, h3⟩ | ⟨h1, h2⟩
    · left; exact ⟨by rw [h1], by show x - (budL l (x - 1)).2 = _; omega, h3⟩
    · right; exact ⟨h1, by omega⟩
theorem bud_range (t : RT) {x : Int} (hx : -9000 < x) : -9000 ≤ (bud t x).2 ∧ (bud t x).2 + 1 ≤ x := by
  have := size_pos t
  rcases bud_ok t x hx with ⟨_, h2, h3⟩ | ⟨h1, _⟩ <;> omega
/-- A tree that was copied whole. -/
theorem bud_yes {t : RT} (h : -8900 < (bud t 1000).2) : (bud t 1000).1 = t ∧ t.size < 9900 := by
  rcases bud_ok t 1000 (by omega) with ⟨h1, h2, h3⟩ | ⟨h1, _⟩
  · exact ⟨h1, by omega⟩
  · omega
theorem bud_no {t : RT} (h : ¬ -8900 < (bud t 1000).2) : 9900 ≤ t.size := by
  rcases bud_ok t 1000 (by omega) with ⟨_, h2, h3⟩ | ⟨_, h2⟩ <;> omega

theorem budL_step {l : List RT} {x0 x : Int} {O : List RT} {i : Nat} (hi : i < l.length) (hx : -9000 < x) (h : budL l x0 = (O ++ (budL (l.drop i) x).1, (budL (l.drop i) x).2)) :
    budL l x0 = ((O ++ [(bud l[i] x).1]) ++ (budL (l.drop (i + 1)) (bud l[i] x).2).1, (budL (l.drop (i + 1)) (bud l[i] x).2).2) := by
  rw [List.drop_eq_getElem_cons hi, budL_go hx] at h
  rw [h]; simp
theorem budL_end {l : List RT} {x0 x : Int} {O : List RT} {i : Nat} (hi : ¬ i < l.length ∨ ¬ -9000 < x) (h : budL l x0 = (O ++ (budL (l.drop i) x).1, (budL (l.drop i) x).2)) : budL l x0 = (O, x) := by
  have e : budL (l.drop i) x = ([], x) := by
    rcases hi with hi | hx
    · rw [List.drop_eq_nil_of_le (by omega), budL_nil]
    · exact budL_stop hx
  rw [h, e]; simp

end Go.Proofs.Ytkccjfbgepmfkaa

/- scholiumlaw04.budget: a tree as the document's, in new memory. -/
namespace Go.Proofs.Ytkccjfbgepmfkaa
open Go.RowKit
set_option linter.unusedVariables false
set_option maxRecDepth 100000

def BudIs (t : RT) (x : Int) (w : World) (e : Ending) (w' : World) : Prop :=
  ∃ A cap, e = .returned (.tuple #[nodeV (bud t x).1 A cap, .int .i64 (bud t x).2]) ∧ IsNode w' w.heap.size w'.heap.size (bud t x).1 A cap ∧ Below w.heap.size w w'

end Go.Proofs.Ytkccjfbgepmfkaa

/- scholiumref04.Size: how many nodes, by a list of what is to be done. -/
namespace Go.Proofs.Ytkccjfbgepmfkaa
open Go.RowKit
set_option linter.unusedVariables false
set_option maxRecDepth 100000

/-- The first Subs of a node, as a source. -/
theorem NodeIn.first {w : World} {P : Nat → Prop} {t : RT} {A : Option Addr} {cap : Nat} (h : NodeIn w P t A cap) (m : Nat) (hm : m ≤ t.l.length) :
    ∃ ps : List (RT × Option Addr × Nat), ps.map (·.1) = t.l.take m ∧ ps.length = m ∧ (∀ W : World, (∀ b o, P b → W.cell? ⟨b, o, none⟩ = w.cell? ⟨b, o, none⟩) → Src W 5 A m (flatP ps)) ∧ ∀ p ∈ ps, NodeIn w P p.1 p.2.1 p.2.2 := by
  cases h with
  | mk k a s n l A cap F C hs hl hmx hc hn =>
    have hm' : m ≤ l.length := hm
    have hlt : ∀ i : Fin m, i.val < l.length := fun i => by have := i.isLt; omega
    refine ⟨List.ofFn fun i : Fin m => (l[i.val]'(hlt i), F i.val, C i.val), ?_, by simp, ?_, ?_⟩
    · apply List.ext_getElem
      · simp [RT.l]; omega
      · intro i h1 h2
        simp [RT.l]
    · have hlen : ∀ ps : List (RT × Option Addr × Nat), (flatP ps).length = ps.length * 5 := by
        intro ps
        induction ps with
        | nil => rfl
        | cons p ps ih =>
          show (cellsP p ++ flatP ps).length = _
          rw [List.length_append, ih]; simp [cellsP]; omega
      refine fun W hW => ⟨by rw [hlen]; simp, fun h0 => ?_⟩
      obtain ⟨b, o, hA, hPb, hx⟩ := hc (by omega)
      refine ⟨_, hA, fun j u hu => ?_⟩
      have hj : j < m * 5 := by
        have := (List.getElem?_eq_some_iff.1 hu).1
        rw [hlen] at this
        simpa using this
      have hjm : j / 5 < m := by omega
      have e : j = j / 5 * 5 + j % 5 := by omega
      have hat := flatP_at (List.ofFn fun i : Fin m => (l[i.val]'(hlt i), F i.val, C i.val)) (j / 5) (j % 5) (by simpa using hjm) (by omega)
      rw [← e, hu] at hat
      have hcell := hx (j / 5) (by omega)
      rw [Addr.add_lit]
      have e2 : o + j = o + j / 5 * 5 + j % 5 := by omega
      rw [e2, hW b _ hPb]
      obtain ⟨y0, y1, y2, y3, y4⟩ := hcell
      have h5 : j % 5 = 0 ∨ j % 5 = 1 ∨ j % 5 = 2 ∨ j % 5 = 3 ∨ j % 5 = 4 := by omega
      simp only [List.getElem_ofFn] at hat
      rcases h5 with h5 | h5 | h5 | h5 | h5 <;> rw [h5] at hat ⊢
      · rw [Nat.add_zero, y0, hat]; rfl
      · rw [y1, hat]; rfl
      · rw [y2, hat]; rfl
      · rw [y3, hat]; rfl
      · rw [y4, hat]; rfl
    · intro p hp
      obtain ⟨i, rfl⟩ := (List.mem_ofFn).1 hp
      exact hn _ _

theorem flatP_length (ps : List (RT × Option Addr × Nat)) : (flatP ps).length = ps.length * 5 := by
  induction ps with
  | nil => rfl
  | cons p ps ih =>
    show (cellsP p ++ flatP ps).length = _
    rw [List.length_append, ih]; simp [cellsP]; omega
theorem flatP_one (ps : List (RT × Option Addr × Nat)) : ∀ u ∈ flatP ps, u.oneCell' = true := by
  intro u hu
  obtain ⟨p, _, h⟩ := List.mem_flatMap.1 hu
  exact cellsP_one p u h
theorem flatP_append (ps qs : List (RT × Option Addr × Nat)) : flatP (ps ++ qs) = flatP ps ++ flatP qs := by unfold flatP; rw [List.flatMap_append]
/-- Rows that a call made: many more at once. -/
theorem NodeRow.more {w w' : World} {base : Nat} {e : TypeId} {v v' : Value} {ps qs : List (RT × Option Addr × Nat)} {P : Nat → Prop} (h : NodeRow w base e v ps P)
    (hn : ∀ p ∈ qs, NodeIn w P p.1 p.2.1 p.2.2) (ha : AppTo w base e 5 v (ps.length + qs.length) (flatP ps ++ flatP qs) v' w') : NodeRow w' base e v' (ps ++ qs) P := by
  obtain ⟨hr, hg, ho⟩ := ha
  have hcell : ∀ b o, P b → w'.cell? ⟨b, o, none⟩ = w.cell? ⟨b, o, none⟩ := fun b o hb' => World.cell?_of_block (a := ⟨b, o, none⟩) (hg.block b (h.far b hb').1 (fun e => (h.far b hb').2 e.symm))
  refine ⟨by rw [flatP_append, List.length_append]; exact hr, fun b hb' => ⟨Nat.lt_of_lt_of_le (h.far b hb').1 hg.size, fun e => ?_⟩, fun q hq => ?_⟩
  · rcases ho with ho | ho
    · exact (h.far b hb').2 (ho.symm.trans e)
    · have := (h.far b hb').1
      rw [ho] at e
      injection e with e
      omega
  · rcases List.mem_append.1 hq with hq | hq
    · exact (h.node q hq).imp hcell (fun _ h => h)
    · exact (hn q hq).imp hcell (fun _ h => h)
theorem NodeRow.app {w w' : World} {base : Nat} {e : TypeId} {v v' : Value} {ps qs : List (RT × Option Addr × Nat)} {P : Nat → Prop} {n m : Nat} (h : NodeRow w base e v ps P) (hn : ps.length = n) (hm : qs.length = m)
    (hq : ∀ p ∈ qs, NodeIn w P p.1 p.2.1 p.2.2) (ha : AppTo w base e 5 v (n + m) (flatP ps ++ flatP qs) v' w') : NodeRow w' base e v' (ps ++ qs) P := by
  subst hn; subst hm; exact h.more hq ha
theorem row_snoc {α : Type} {l : List α} (h : 0 < l.length) : ∃ q x, l = q ++ [x] ∧ l.length = q.length + 1 := by
  obtain ⟨q, x, rfl⟩ : ∃ q x, l = q ++ [x] := by
    rcases List.eq_nil_or_concat l with rfl | ⟨q, x, rfl⟩
    · simp at h
    · exact ⟨q, x, by simp⟩
  exact ⟨q, x, rfl, by simp⟩

end Go.Proofs.Ytkccjfbgepmfkaa

/- scholiumref04.good: the document's rule, for every tree. -/
namespace Go.Proofs.Ytkccjfbgepmfkaa
open Go.RowKit
set_option linter.unusedVariables false

theorem goodL_take {l : List RT} {p : Bool} {i : Nat} (h : i < l.length) : goodL (l.take (i + 1)) p = (goodL (l.take i) p && goodB l[i] p) := by
  rw [goodL_all, goodL_all, take_snoc h, List.all_append]; simp
theorem goodL_no {l : List RT} {p : Bool} {i : Nat} (h : i < l.length) (hg : goodB l[i] p = false) : goodL l p = false := by
  cases e : goodL l p with
  | false => rfl
  | true =>
    rw [goodL_all, List.all_eq_true] at e
    have := e _ (List.getElem_mem h)
    rw [hg] at this; cases this

end Go.Proofs.Ytkccjfbgepmfkaa

/- scholiumref04.Depth: level by level; the document's Expr, Pattern. -/
namespace Go.Proofs.Ytkccjfbgepmfkaa
open Go.RowKit
set_option linter.unusedVariables false
set_option maxRecDepth 100000

theorem depthL_level : ∀ ts : List RT, 0 < ts.length → depthL ts = 1 + depthL (ts.flatMap RT.l)
  | [t], _ => by
    have e : t.depth = depthL t.l + 1 := by rw [t.eta, depth_node]; rfl
    rw [depthL_cons, depthL_nil, e]
    simp
    omega
  | t :: u :: r, _ => by
    have e : t.depth = depthL t.l + 1 := by rw [t.eta, depth_node]; rfl
    have e2 : (t :: u :: r).flatMap RT.l = t.l ++ (u :: r).flatMap RT.l := rfl
    rw [depthL_cons, depthL_level (u :: r) (by simp), e, e2, depthL_append]
    omega
theorem sizeL_level : ∀ ts : List RT, sizeL ts = ts.length + sizeL (ts.flatMap RT.l)
  | [] => by simp [sizeL_nil]
  | t :: r => by
    have e : t.size = sizeL t.l + 1 := by rw [t.eta, size_node]; rfl
    rw [sizeL_cons, sizeL_level r, e, List.flatMap_cons, sizeL_append, List.length_cons]
    omega
theorem sizeL_level_take (ts : List RT) (i : Nat) : sizeL ((ts.take i).flatMap RT.l) ≤ sizeL ts := by
  have h := sizeL_level (ts.take i)
  have := sizeL_take_le ts i
  omega

theorem NodeRow.base {w : World} {base base' : Nat} {e : TypeId} {v : Value} {ps : List (RT × Option Addr × Nat)} {P : Nat → Prop} (h : NodeRow w base e v ps P) (hb : base' ≤ base) : NodeRow w base' e v ps P := by
  refine ⟨⟨h.row.1, ?_⟩, h.far, h.node⟩
  rcases h.row.2 with h1 | ⟨g, cap, cur, h1, h2, h3⟩
  · exact .inl h1
  · exact .inr ⟨g, cap, cur, h1, by omega, h3⟩
/-- A row stays over an append to another one. -/
theorem NodeRow.over {w w' : World} {base : Nat} {e : TypeId} {v : Value} {ps : List (RT × Option Addr × Nat)} {P : Nat → Prop} {row : Option Nat} (h : NodeRow w base e v ps P) (hg : w.grownBy w' row) (h1 : v.ownBlock = none ∨ v.ownBlock ≠ row) (h2 : ∀ b, P b → some b ≠ row) : NodeRow w' base e v ps P :=
  h.kept hg.size (h.row.kept hg h1) (fun b hb => hg.block b (h.far b hb).1 (h2 b hb))
end Go.Proofs.Ytkccjfbgepmfkaa
