/- What the texts of names and places need besides. -/
import Derived.Test.YtchllgkgjompgaaGreatDoorM3
import Derived.Test.YtchllgkgjompgaaGreatDoorM4
import Derived.Test.YtchllgkgjompgaaGreatDoorM8
import Derived.Test.YtchllgkgjompgaaGreatDoorU3
import Derived.Test.YtchllgkgjompgaaGreatDoorMe
namespace Go.Proofs.YtchllgkgjompgaaGreatDoor
open Go.RowKit
set_option linter.unusedVariables false
set_option maxRecDepth 100000
mutual
def hasT : TM → Int → Bool
  | .node k n l, m => if k = 1 then decide (n = m) else hasL k 0 l m
def hasL (k : Int) (i : Nat) : List TM → Int → Bool
  | [], _ => false
  | t :: r, m => hasT t (m + bndR k i) || hasL k (i + 1) r m
end

theorem hasT_node (k n : Int) (l : List TM) (m : Int) : hasT (.node k n l) m = if k = 1 then decide (n = m) else hasL k 0 l m := by rw [hasT]
theorem hasL_nil (k : Int) (i : Nat) (m : Int) : hasL k i [] m = false := by rw [hasL]
theorem hasL_cons (k : Int) (i : Nat) (t : TM) (r : List TM) (m : Int) : hasL k i (t :: r) m = (hasT t (m + bndR k i) || hasL k (i + 1) r m) := by rw [hasL]
theorem hasL_snoc : ∀ (l : List TM) (k : Int) (i : Nat) (t : TM) (m : Int), hasL k i (l ++ [t]) m = (hasL k i l m || hasT t (m + bndR k (i + l.length)))
  | [], k, i, t, m => by rw [List.nil_append, hasL_cons, hasL_nil, hasL_nil]; simp
  | u :: l, k, i, t, m => by
    rw [List.cons_append, hasL_cons, hasL_snoc l, hasL_cons]
    have e : i + 1 + l.length = i + (u :: l).length := by simp; omega
    rw [e, Bool.or_assoc]
theorem hasL_app (k m : Int) : ∀ (r s : List TM) (i : Nat), hasL k i (r ++ s) m = (hasL k i r m || hasL k (i + r.length) s m)
  | [], s, i => by rw [List.nil_append, hasL_nil]; simp
  | u :: r, s, i => by
    rw [List.cons_append, hasL_cons, hasL_app k m r s, hasL_cons, Bool.or_assoc]
    have e : i + 1 + r.length = i + (u :: r).length := by simp; omega
    rw [e]
theorem hasL_take (k m : Int) {l : List TM} {i : Nat} (h : i < l.length) : hasL k 0 (l.take (i + 1)) m = (hasL k 0 (l.take i) m || hasT l[i] (m + bndR k i)) := by
  rw [take_snocM h, hasL_snoc]
  have e : 0 + (l.take i).length = i := by simp; omega
  rw [e]
theorem hasL_yes (k m : Int) {l : List TM} {i : Nat} (h : i < l.length) (hy : hasT l[i] (m + bndR k i) = true) : hasL k 0 l m = true := by
  have h1 := hasL_app k m (l.take (i + 1)) (l.drop (i + 1)) 0
  rw [List.take_append_drop, hasL_take k m h, hy] at h1
  rw [h1]; simp


theorem compactUpTo_rising (d : Array Int) (hs : ∀ i j : Nat, i ≤ j → j < d.size → d[i]! ≤ d[j]!) : ∀ m, m ≤ d.size →
    (Lib.compactUpTo d m).Pairwise (· < ·) ∧ (∀ x, x ∈ Lib.compactUpTo d m ↔ ∃ j, j < m ∧ d[j]! = x)
  | 0, _ => by
    have e : Lib.compactUpTo d 0 = [] := rfl
    rw [e]
    exact ⟨List.Pairwise.nil, fun x => ⟨(fun h => by cases h), (fun h => by obtain ⟨j, hj, _⟩ := h; omega)⟩⟩
  | m + 1, hm => by
    obtain ⟨h1, h2⟩ := compactUpTo_rising d hs m (by omega)
    rw [Lib.compactUpTo_succ]
    by_cases hk : Lib.keeps d m = true
    · rw [if_pos hk]
      have hk' : m = 0 ∨ d[m]! ≠ d[m - 1]! := by simpa [Lib.keeps] using hk
      refine ⟨List.pairwise_append.2 ⟨h1, List.pairwise_singleton _ _, fun a ha b hb => ?_⟩, fun x => ?_⟩
      · obtain rfl : b = d[m]! := by simpa using hb
        obtain ⟨j, hj, rfl⟩ := (h2 a).1 ha
        have g1 := hs j (m - 1) (by omega) (by omega)
        have g2 := hs (m - 1) m (by omega) (by omega)
        rcases hk' with e | e
        · omega
        · omega
      · rw [List.mem_append, h2]
        constructor
        · rintro (⟨j, hj, e⟩ | h)
          · exact ⟨j, by omega, e⟩
          · obtain rfl : x = d[m]! := by simpa using h
            exact ⟨m, by omega, rfl⟩
        · rintro ⟨j, hj, e⟩
          by_cases hjm : j < m
          · exact .inl ⟨j, hjm, e⟩
          · obtain rfl : j = m := by omega
            exact .inr (by simpa using e.symm)
    · rw [if_neg hk, List.append_nil]
      have hk' : m ≠ 0 ∧ d[m]! = d[m - 1]! := by
        have : ¬ (m = 0 ∨ d[m]! ≠ d[m - 1]!) := by simpa [Lib.keeps] using hk
        exact ⟨fun e => this (.inl e), Classical.byContradiction fun e => this (.inr e)⟩
      refine ⟨h1, fun x => ?_⟩
      rw [h2]
      constructor
      · rintro ⟨j, hj, e⟩
        exact ⟨j, by omega, e⟩
      · rintro ⟨j, hj, e⟩
        by_cases hjm : j < m
        · exact ⟨j, hjm, e⟩
        · obtain rfl : j = m := by omega
          exact ⟨j - 1, by omega, by rw [← hk'.2]; exact e⟩

theorem setL_spec (l : List Int) : (setL l).Pairwise (· < ·) ∧ ∀ x, x ∈ setL l ↔ x ∈ l := by
  have hp := List.mergeSort_perm l fun x y => decide (x ≤ y)
  have hsd : (l.mergeSort fun x y => decide (x ≤ y)).Pairwise (fun x y => decide (x ≤ y) = true) := List.pairwise_mergeSort (fun a b c h1 h2 => by simp at h1 h2 ⊢; omega) (fun a b => by simp; omega) l
  obtain ⟨zs, hz⟩ : ∃ zs, l.mergeSort (fun x y => decide (x ≤ y)) = zs := ⟨_, rfl⟩
  unfold setL
  rw [hz] at hp hsd ⊢
  have hidx : ∀ i, i < zs.length → zs.toArray[i]! = zs.getD i 0 := fun i hi => by simp [List.getD, hi]
  have hs : ∀ i j : Nat, i ≤ j → j < zs.toArray.size → zs.toArray[i]! ≤ zs.toArray[j]! := fun i j hij hj => by
    have hj' : j < zs.length := by simpa using hj
    by_cases e : i = j
    · subst e; omega
    · have := List.pairwise_iff_getElem.1 hsd i j (by omega) hj' (by omega)
      simpa [show i < zs.length by omega, hj'] using this
  have h := compactUpTo_rising zs.toArray hs zs.length (by simp)
  refine ⟨h.1, fun x => ?_⟩
  rw [show Lib.compact zs = Lib.compactUpTo zs.toArray zs.length from rfl, h.2, ← hp.mem_iff]
  constructor
  · rintro ⟨j, hj, e⟩
    rw [← e]
    simp [hj]
  · intro hx
    obtain ⟨i, hi, e⟩ := List.getElem_of_mem hx
    exact ⟨i, hi, by rw [← e]; simp [hi]⟩
theorem setL_mem {l : List Int} {x : Int} : x ∈ setL l ↔ x ∈ l := (setL_spec l).2 x
theorem putM_len (H : Put) (k b : Int) : ∀ (l : List TM) (i : Nat), (putM H k i l b).length = l.length
  | [], i => by rw [putM_nil]
  | t :: l, i => by rw [putM_cons, List.length_cons, putM_len H k b l, List.length_cons]

theorem putM_at (H : Put) (k b : Int) : ∀ (l : List TM) (i j : Nat) (h : j < (putM H k i l b).length) (h2 : j < l.length), (putM H k i l b)[j] = putT H l[j] (b + bnd k (i + j))
  | t :: l, i, 0, h, h2 => by simp only [putM_cons, List.getElem_cons_zero, Nat.add_zero]
  | t :: l, i, j + 1, h, h2 => by
    have h3 : j < (putM H k (i + 1) l b).length := by rw [putM_cons, List.length_cons] at h; omega
    simp only [putM_cons, List.getElem_cons_succ]
    rw [putM_at H k b l (i + 1) j h3 (by simpa using h2)]
    have e : i + 1 + j = i + (j + 1) := by omega
    rw [e]
theorem new_no (n : Int) (hn : n < 0 ∨ 1048576 < n) (w : World) : Calls Tryz.prog 23 #[.int .i64 n] w fun e w' => e = .returned (.tuple #[.pointer none, .int .i64 5]) ∧ w' = w := by
  by_cases h0 : n < 0
  · clear hn
    go_enter Tryz.func23, Tryz.ntmps23
    go_wp2
    go_ret2
    exact ⟨rfl, rfl⟩
  · have h1 : 1048576 < n := by omega
    clear hn
    go_enter Tryz.func23, Tryz.ntmps23
    go_wp2
    go_ret2
    exact ⟨rfl, rfl⟩
end Go.Proofs.YtchllgkgjompgaaGreatDoor
