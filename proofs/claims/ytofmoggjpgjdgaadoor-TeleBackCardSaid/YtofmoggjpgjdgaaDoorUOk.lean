/- What an answer without an error says. No walk. -/
import Derived.Test.YtofmoggjpgjdgaaDoorUMath
namespace Go.Proofs.YtofmoggjpgjdgaaDoor
open Go.RowKit
set_option linter.unusedVariables false

theorem got_ok {u x : TM} (h : gotX u = (x, 0)) : x = u ∧ shapedB u = true := by
  unfold gotX at h
  cases e : shapedB u with
  | true => rw [e, if_pos rfl] at h; injection h with h1 h2; exact ⟨h1.symm, rfl⟩
  | false => rw [e] at h; injection h with h1 h2; cases h2
theorem many_ok {t x : TM} {l : List TM} (h : manyX t l = (x, 0)) : shapedB t = true ∧ l.all shapedB = true ∧ x = putT (firstP l) t 0 ∧ shapedB x = true := by
  unfold manyX at h
  cases e : shapedB t && l.all shapedB with
  | true =>
    rw [e, if_pos rfl] at h
    obtain ⟨h1, h2⟩ := got_ok h
    obtain ⟨h3, h4⟩ := (Bool.and_eq_true _ _).mp e
    exact ⟨h3, h4, h1, by rw [h1]; exact h2⟩
  | false => rw [e] at h; injection h with h1 h2; cases h2
theorem at_ok {t a x : TM} {N : Int} (h : atX t a N = (x, 0)) : x = putT (atP a N) t 0 := by
  unfold atX at h
  cases e : shapedB t && (shapedB a && fitsB N) with
  | true => rw [e, if_pos rfl] at h; exact (got_ok h).1
  | false => rw [e] at h; injection h with h1 h2; cases h2
theorem bind_ok {t x : TM} {N : Int} (h : bindX t N = (x, 0)) : shapedB t = true ∧ fitsB N = true ∧ x = putT (bindP N) t 0 ∧ shapedB x = true := by
  unfold bindX at h
  cases e : shapedB t && fitsB N with
  | true =>
    rw [e, if_pos rfl] at h
    obtain ⟨h1, h2⟩ := got_ok h
    obtain ⟨h3, h4⟩ := (Bool.and_eq_true _ _).mp e
    exact ⟨h3, h4, h1, by rw [h1]; exact h2⟩
  | false => rw [e] at h; injection h with h1 h2; cases h2
theorem twice_same {t a b x y u v z : TM} (h1 : manyX t [a] = (x, 0)) (h2 : manyX x [b] = (y, 0)) (h3 : atX t b 1 = (u, 0)) (h4 : manyX a [b] = (v, 0)) (h5 : manyX u [v] = (z, 0)) : y = z := by
  obtain ⟨s1, s2, e1, _⟩ := many_ok h1
  obtain ⟨_, s3, e2, _⟩ := many_ok h2
  have e3 := at_ok h3
  obtain ⟨_, _, e4, _⟩ := many_ok h4
  obtain ⟨_, _, e5, _⟩ := many_ok h5
  rw [List.all_cons, List.all_nil, Bool.and_true] at s2 s3
  rw [e2, e1, e5, e3, e4]
  exact put_twice a b (shapedB_true.1 s2).2.2 (shapedB_true.1 s3).2.2 t 0 (shapedB_true.1 s1).2.2 (Int.le_refl _)
theorem free_shaped {n : Int} (h : fitsB n = true) : shapedB (.node 8 n []) = true := by
  obtain ⟨h0, h1⟩ := fitsB_true.1 h
  refine shapedB_true.2 ⟨by rw [tsize_node, sizeM_nil]; omega, by rw [tdepth_node, depthM_nil]; omega, ?_⟩
  rw [tgoodB_node, tgoodL_all]
  unfold ttopB manyM mostM
  simp [h0, h1]
/-- P9.4's first half: bound, and opened. -/
theorem back_open {t a : TM} {n : Int} (h : bindX t n = (a, 0)) : manyX a [.node 8 n []] = (t, 0) := by
  obtain ⟨s1, s2, e1, s3⟩ := bind_ok h
  have e := bind_open n t 0 (shapedB_true.1 s1).2.2 (Int.le_refl _)
  unfold manyX
  rw [s3, List.all_cons, free_shaped s2, List.all_nil, if_pos (show (true && (true && true)) = true from rfl), e1, e]
  unfold gotX
  rw [s1, if_pos rfl]
/-- As great and as deep, and as good: opened with one that may be. -/
theorem open_good {N : Int} (hN : fitsB N = true) : ∀ (t : TM) (d : Int), tgoodB t = true → 0 ≤ d → (putT (firstP [.node 8 N []]) t d).size = t.size ∧ (putT (firstP [.node 8 N []]) t d).depth = t.depth ∧ tgoodB (putT (firstP [.node 8 N []]) t d) = true ∧ (t.k = 2 → (putT (firstP [.node 8 N []]) t d).k = 2) := by
  intro t
  induction t using TM.ind with
  | h k n l ih =>
    intro d hg hd
    obtain ⟨g1, g2, g3, g4, g5, g6, hgp⟩ := good_parts hg
    have hg0 := hg
    by_cases hv : isV k n d
    · obtain rfl := leaf_nil (b := 0) hg (isV_leaf hv)
      rw [putT_node, if_pos hv]
      unfold firstP
      by_cases h8 : k = 8
      · rw [if_pos h8]; exact ⟨rfl, rfl, hg0, fun h => h⟩
      · have hdn : d ≤ n := by rcases hv with h | h; exact absurd h h8; exact h.2
        have hk : k = 1 := by rcases hv with h | h; exact absurd h h8; exact h.1
        rw [if_neg h8]
        by_cases h0 : n - d = 0
        · rw [if_pos (by simp; omega), h0]
          show (moveT d (.node 8 N []) 0).size = _ ∧ (moveT d (.node 8 N []) 0).depth = _ ∧ tgoodB (moveT d (.node 8 N []) 0) = true ∧ (_ → (moveT d (.node 8 N []) 0).k = 2)
          rw [moveT_node, if_neg (by omega), moveM_nil]
          refine ⟨?_, ?_, (shapedB_true.1 (free_shaped hN)).2.2, fun h => ?_⟩
          · rw [tsize_node, tsize_node]
          · rw [tdepth_node, tdepth_node]
          · rw [hk] at h; exact absurd (show (1 : Int) = 2 from h) (by omega)
        · rw [if_neg (by simp; omega)]
          refine ⟨?_, ?_, ?_, fun h => ?_⟩
          · rw [tsize_node, tsize_node]
          · rw [tdepth_node, tdepth_node]
          · rw [leaf_good, decide_eq_true (show 0 ≤ n - (([.node 8 N []] : List TM).length : Int) by simp; omega), decide_eq_true (show n - (([.node 8 N []] : List TM).length : Int) ≤ 1048576 by simp; omega)]; rfl
          · rw [hk] at h; exact absurd (show (1 : Int) = 2 from h) (by omega)
    · rw [putT_node, if_neg hv]
      have hL : ∀ (r : List TM) (i : Nat), (∀ u ∈ r, u ∈ l) → sizeM (putM (firstP [.node 8 N []]) k i r d) = sizeM r ∧ depthM (putM (firstP [.node 8 N []]) k i r d) = depthM r ∧ tgoodL (putM (firstP [.node 8 N []]) k i r d) = true ∧ (firstM r = true → firstM (putM (firstP [.node 8 N []]) k i r d) = true) := by
        intro r
        induction r with
        | nil => intro i _; rw [putM_nil]; exact ⟨rfl, rfl, by rw [tgoodL], fun h => h⟩
        | cons u r ihr =>
          intro i hm
          have hu := hm u List.mem_cons_self
          have h01 := bnd_01 k i
          obtain ⟨a1, a2, a3, a4⟩ := ih u hu (d + bnd k i) (hgp u hu) (by omega)
          obtain ⟨b1, b2, b3, b4⟩ := ihr (i + 1) (fun v hv => hm v (List.mem_cons_of_mem _ hv))
          rw [putM_cons, sizeM_cons, sizeM_cons, depthM_cons, depthM_cons, a1, a2, b1, b2, tgoodL_all, List.all_cons, ← tgoodL_all, a3, b3]
          refine ⟨rfl, rfl, rfl, fun h => ?_⟩
          unfold firstM at h ⊢
          simp only [decide_eq_true_eq] at h ⊢
          exact a4 h
      obtain ⟨a1, a2, a3, a4⟩ := hL l 0 (fun _ h => h)
      rw [tsize_node, tsize_node, tdepth_node, tdepth_node, a1, a2, tgoodB_node, a3, Bool.and_true]
      obtain ⟨q1, q2, q3, q4, q5, q6⟩ := ttop_facts g6
      exact ⟨rfl, rfl, ttop_mk q1 q2 (by rw [putM_len]; exact q3) q4 q5 (fun h => a4 (q6 h)), fun h => h⟩
/-- P9.4's second half: opened with what it has not, and bound. -/
theorem back_bind {t : TM} {N : Int} (hN : fitsB N = true) (hs : shapedB t = true) (hf : freeN N t = true) : ∃ c, manyX t [.node 8 N []] = (c, 0) ∧ bindX c N = (t, 0) := by
  obtain ⟨s1, s2, s3⟩ := shapedB_true.1 hs
  obtain ⟨o1, o2, o3, _⟩ := open_good hN t 0 s3 (Int.le_refl _)
  have hsc : shapedB (putT (firstP [.node 8 N []]) t 0) = true := shapedB_true.2 ⟨by omega, by omega, o3⟩
  refine ⟨putT (firstP [.node 8 N []]) t 0, ?_, ?_⟩
  · unfold manyX
    rw [hs, List.all_cons, free_shaped hN, List.all_nil, if_pos (show (true && (true && true)) = true from rfl)]
    unfold gotX
    rw [hsc, if_pos rfl]
  · unfold bindX
    rw [hsc, hN, if_pos (show (true && true) = true from rfl), open_bind N t 0 s3 hf (Int.le_refl _)]
    unfold gotX
    rw [hs, if_pos rfl]
/-- P9.2. -/
theorem lifted_many {t a : TM} {l : List TM} (hl : l.all shapedB = true) (h : liftX t l.length 0 = (a, 0)) : manyX a l = (t, 0) := by
  rw [liftX_eq] at h
  cases e : fitsB (l.length : Int) && (fitsB 0 && shapedB t) with
  | false => rw [e] at h; injection h with h1 h2; cases h2
  | true =>
    rw [e, if_pos rfl] at h
    simp only [Bool.and_eq_true] at e
    have hs := e.2.2
    obtain ⟨s1, s2, s3⟩ := shapedB_true.1 hs
    cases e2 : tgoodB (moveT l.length t 0) with
    | false => rw [e2] at h; injection h with h1 h2; cases h2
    | true =>
      rw [e2, if_pos rfl] at h
      injection h with h1 h2
      obtain ⟨m1, m2⟩ := moveT_size (l.length : Int) t 0 s3
      have hsa : shapedB a = true := by rw [← h1]; exact shapedB_true.2 ⟨by omega, by omega, e2⟩
      have h3 := put_lifted l 0 (Int.le_refl _) t 0 s3 (Int.le_refl _)
      rw [Int.zero_add, Int.add_zero, move_zero t 0 s3] at h3
      unfold manyX
      rw [hsa, hl, if_pos (show (true && true) = true from rfl), ← h1, h3]
      unfold gotX
      rw [hs, if_pos rfl]
theorem lift_err {t : TM} {k : Int} {a : TM} {e : Int} (hk : fitsB k = true) (hs : shapedB t = true) (h : liftX t k 0 = (a, e)) (he : e ≠ 0) : e = 2 := by
  rw [liftX_eq, hk, hs, if_pos (show (true && (fitsB 0 && true)) = true by decide)] at h
  split at h
  · injection h with h1 h2; exact absurd h2.symm he
  · injection h with h1 h2; exact h2.symm

end Go.Proofs.YtofmoggjpgjdgaaDoor
