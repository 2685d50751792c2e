/- What becomes of a term when its loose variables are moved, plainly: as the program goes over it (movT: each loose variable becomes what a function says), as the document does (moveT, swapT, betweenT); both are the same. No walk. -/
import Derived.Test.YtcobionbgiaomaaDoorTBox
import Derived.Test.YtcobionbgiaomaaDoorM3
namespace Go.Proofs.YtcobionbgiaomaaDoor
open Go.RowKit
set_option linter.unusedVariables false

/-- What loose variable m becomes beneath b binders; G says first the number, then the error. -/
def varT (G : Int → Int × Int) (m b : Int) : Except Int TM := if (G m).2 = 0 then (if (G m).1 > 1048576 - b then .error 2 else .ok (.node 1 ((G m).1 + b) [])) else .error (G m).2
mutual
def movT (G : Int → Int × Int) : TM → Int → Except Int TM
  | .node k n l, b => if k = 1 ∧ b ≤ n then varT G (n - b) b else
    match movM G k 0 l b with
    | .error c => .error c
    | .ok r => .ok (.node k n r)
def movM (G : Int → Int × Int) (k : Int) (i : Nat) : List TM → Int → Except Int (List TM)
  | [], _ => .ok []
  | t :: r, b =>
    match movT G t (b + bnd k i) with
    | .error c => .error c
    | .ok u =>
      match movM G k (i + 1) r b with
      | .error c => .error c
      | .ok us => .ok (u :: us)
end
theorem movT_node (G : Int → Int × Int) (k n : Int) (l : List TM) (b : Int) : movT G (.node k n l) b = if k = 1 ∧ b ≤ n then varT G (n - b) b else
    match movM G k 0 l b with
    | .error c => .error c
    | .ok r => .ok (.node k n r) := by rw [movT]
theorem movM_nil (G : Int → Int × Int) (k : Int) (i : Nat) (b : Int) : movM G k i [] b = .ok [] := by rw [movM]
theorem movM_cons (G : Int → Int × Int) (k : Int) (i : Nat) (t : TM) (r : List TM) (b : Int) : movM G k i (t :: r) b =
    match movT G t (b + bnd k i) with
    | .error c => .error c
    | .ok u =>
      match movM G k (i + 1) r b with
      | .error c => .error c
      | .ok us => .ok (u :: us) := by rw [movM]
theorem movM_append (G : Int → Int × Int) : ∀ (l r : List TM) (k : Int) (i : Nat) (b : Int), movM G k i (l ++ r) b =
    match movM G k i l b with
    | .error c => .error c
    | .ok us =>
      match movM G k (i + l.length) r b with
      | .error c => .error c
      | .ok vs => .ok (us ++ vs)
  | [], r, k, i, b => by
    rw [List.nil_append, movM_nil]
    simp only [List.length_nil, Nat.add_zero]
    cases movM G k i r b <;> rfl
  | t :: l, r, k, i, b => by
    rw [List.cons_append, movM_cons, movM_cons, movM_append G l r]
    have e : i + 1 + l.length = i + (t :: l).length := by simp; omega
    rw [e]
    cases movT G t (b + bnd k i) with
    | error c => rfl
    | ok u =>
      cases movM G k (i + 1) l b with
      | error c => rfl
      | ok us =>
        cases movM G k (i + (t :: l).length) r b <;> rfl
theorem movM_take (G : Int → Int × Int) (k b : Int) {l : List TM} {i : Nat} (h : i < l.length) {us : List TM} (hu : movM G k 0 (l.take i) b = .ok us) : movM G k 0 (l.take (i + 1)) b =
    match movT G l[i] (b + bnd k i) with
    | .error c => .error c
    | .ok u => .ok (us ++ [u]) := by
  rw [take_snocM h, movM_append, hu]
  have e : 0 + (l.take i).length = i := by simp; omega
  rw [e, movM_cons, movM_nil]
  cases movT G l[i] (b + bnd k i) <;> rfl
theorem movM_err (G : Int → Int × Int) (k b : Int) {l : List TM} {i : Nat} {c : Int} (h : movM G k 0 (l.take i) b = .error c) : movM G k 0 l b = .error c := by
  have := movM_append G (l.take i) (l.drop i) k 0 b
  rw [List.take_append_drop, h] at this
  exact this
/-- As the program answers it: a term and an error. -/
def resU : Except Int TM → TM × Int
  | .ok u => (u, 0)
  | .error c => (.node 0 0 [], c)
theorem resU_ok (u : TM) : resU (.ok u) = (u, 0) := rfl
theorem resU_error (c : Int) : resU (.error c) = (.node 0 0 [], c) := rfl

theorem varT_ok {G : Int → Int × Int} {m b x : Int} (h : G m = (x, 0)) : varT G m b = if x > 1048576 - b then .error 2 else .ok (.node 1 (x + b) []) := by
  unfold varT
  rw [h, if_pos rfl]
theorem varT_err {G : Int → Int × Int} {m b x c : Int} (h : G m = (x, c)) (hc : c ≠ 0) : varT G m b = .error c := by
  unfold varT
  rw [h, if_neg hc]
/-- An error is never OK. -/
theorem varT_ne (G : Int → Int × Int) (m b c : Int) (h : varT G m b = .error c) : c ≠ 0 := by
  unfold varT at h
  split at h
  · split at h
    · injection h with h; omega
    · cases h
  · injection h with h; subst h; assumption
theorem movT_ne (G : Int → Int × Int) : ∀ (t : TM) (b c : Int), movT G t b = .error c → c ≠ 0 := by
  intro t
  induction t using TM.ind with
  | h k n l ih =>
    intro b c h
    rw [movT_node] at h
    split at h
    · exact varT_ne _ _ _ _ h
    · have hL : ∀ (r : List TM), (∀ u ∈ r, u ∈ l) → ∀ (i : Nat) (c : Int), movM G k i r b = .error c → c ≠ 0 := by
        intro r
        induction r with
        | nil => intro _ i c h; rw [movM_nil] at h; cases h
        | cons u r ihr =>
          intro hm i c h
          rw [movM_cons] at h
          cases e : movT G u (b + bnd k i) with
          | error d => rw [e] at h; injection h with h; subst h; exact ih u (hm u List.mem_cons_self) _ _ e
          | ok v =>
            rw [e] at h
            cases e2 : movM G k (i + 1) r b with
            | error d => rw [e2] at h; injection h with h; subst h; exact ihr (fun v hv => hm v (List.mem_cons_of_mem _ hv)) _ _ e2
            | ok vs => rw [e2] at h; cases h
      cases e : movM G k 0 l b with
      | error d => rw [e] at h; injection h with h; subst h; exact hL l (fun _ h => h) 0 d e
      | ok vs => rw [e] at h; cases h

/-- The document's Move. -/
def moveT (y : Int) : TM → Int → TM
  | .node k n l, m => if k = 1 then (if n < m then .node k n l else .node 1 (n + y) []) else .node k n (moveM y k 0 l m)
where moveM (y k : Int) (i : Nat) : List TM → Int → List TM
  | [], _ => []
  | t :: r, m => moveT y t (m + bndR k i) :: moveM y k (i + 1) r m
abbrev moveM := moveT.moveM
theorem moveT_node (y k n : Int) (l : List TM) (m : Int) : moveT y (.node k n l) m = if k = 1 then (if n < m then .node k n l else .node 1 (n + y) []) else .node k n (moveM y k 0 l m) := by rw [moveT]
theorem moveM_nil (y k : Int) (i : Nat) (m : Int) : moveM y k i [] m = [] := by unfold moveM; rw [moveT.moveM]
theorem moveM_cons (y k : Int) (i : Nat) (t : TM) (r : List TM) (m : Int) : moveM y k i (t :: r) m = moveT y t (m + bndR k i) :: moveM y k (i + 1) r m := by unfold moveM; rw [moveT.moveM]
/-- The document's swap. -/
def swapT : TM → Int → TM
  | .node k n l, m => if k = 1 ∧ n = m then .node 1 (m + 1) [] else if k = 1 ∧ n = m + 1 then .node 1 m [] else .node k n (swapM k 0 l m)
where swapM (k : Int) (i : Nat) : List TM → Int → List TM
  | [], _ => []
  | t :: r, m => swapT t (m + bndR k i) :: swapM k (i + 1) r m
abbrev swapM := swapT.swapM
theorem swapT_node (k n : Int) (l : List TM) (m : Int) : swapT (.node k n l) m = if k = 1 ∧ n = m then .node 1 (m + 1) [] else if k = 1 ∧ n = m + 1 then .node 1 m [] else .node k n (swapM k 0 l m) := by rw [swapT]
theorem swapM_nil (k : Int) (i : Nat) (m : Int) : swapM k i [] m = [] := by unfold swapM; rw [swapT.swapM]
theorem swapM_cons (k : Int) (i : Nat) (t : TM) (r : List TM) (m : Int) : swapM k i (t :: r) m = swapT t (m + bndR k i) :: swapM k (i + 1) r m := by unfold swapM; rw [swapT.swapM]
/-- The document's between. -/
def betweenT : TM → Int → Int → Bool
  | .node k n l, a, b => if k = 1 then decide (a ≤ n) && decide (n < b) else betweenL k 0 l a b
where betweenL (k : Int) (i : Nat) : List TM → Int → Int → Bool
  | [], _, _ => false
  | t :: r, a, b => betweenT t (a + bndR k i) (b + bndR k i) || betweenL k (i + 1) r a b
abbrev betweenL := betweenT.betweenL
theorem betweenT_node (k n : Int) (l : List TM) (a b : Int) : betweenT (.node k n l) a b = if k = 1 then decide (a ≤ n) && decide (n < b) else betweenL k 0 l a b := by rw [betweenT]
theorem betweenL_nil (k : Int) (i : Nat) (a b : Int) : betweenL k i [] a b = false := by unfold betweenL; rw [betweenT.betweenL]
theorem betweenL_cons (k : Int) (i : Nat) (t : TM) (r : List TM) (a b : Int) : betweenL k i (t :: r) a b = (betweenT t (a + bndR k i) (b + bndR k i) || betweenL k (i + 1) r a b) := by unfold betweenL; rw [betweenT.betweenL]

/-- The binders above a Sub: the program counts them for Pi and Lam, the document for all of two but App: the same for good terms. -/
theorem bnd_good {k : Int} {i m : Nat} (h1 : 1 ≤ k) (h2 : k ≤ 8) (h : i + m = manyM k) (hm : 0 < m) : bnd k i = bndR k i := by
  unfold bnd bndR
  unfold manyM at h
  by_cases hi : i = 1
  · subst hi
    by_cases h3 : k = 3
    · subst h3; rfl
    by_cases h4 : k = 4
    · subst h4; rfl
    by_cases h5 : k = 5
    · subst h5; rfl
    rw [if_neg (by omega)] at h
    split at h <;> omega
  · rw [if_neg (by omega), if_neg (by omega)]

theorem leaf_good {n : Int} : tgoodB (.node 1 n []) = (decide (0 ≤ n) && decide (n ≤ 1048576)) := by
  rw [tgoodB_node, tgoodL_all]
  unfold ttopB manyM mostM
  simp
theorem var_nil {k n : Int} {l : List TM} (h : tgoodB (.node k n l) = true) (hk : k = 1) : l = [] := by
  rw [tgoodB_node, Bool.and_eq_true] at h
  have := (ttop_facts h.1).2.2.1
  subst hk
  unfold manyM at this
  simp at this
  exact this
theorem good_parts {k n : Int} {l : List TM} (h : tgoodB (.node k n l) = true) : 1 ≤ k ∧ k ≤ 8 ∧ l.length = manyM k ∧ 0 ≤ n ∧ n ≤ 1048576 ∧ ttopB k n l = true ∧ (∀ u ∈ l, tgoodB u = true) := by
  have h0 := good_num h
  rw [tgoodB_node, Bool.and_eq_true] at h
  obtain ⟨h1, h2, h3, h4, h5, h6⟩ := ttop_facts h.1
  refine ⟨h1, h2, h3, h4, h0.2, h.1, fun u hu => ?_⟩
  have := h.2
  rw [tgoodL_all, List.all_eq_true] at this
  exact this u hu
/-- A list of the same length, whose first is of the same kind, serves as well. -/
theorem ttop_like {k n : Int} {l r : List TM} (h : ttopB k n l = true) (hl : r.length = l.length) (hf : r.head?.map TM.k = l.head?.map TM.k) : ttopB k n r = true := by
  obtain ⟨h1, h2, h3, h4, h5, h6⟩ := ttop_facts h
  refine ttop_mk h1 h2 (hl.trans h3) h4 h5 (fun e => ?_)
  have := h6 e
  unfold firstM at this ⊢
  cases r with
  | nil => rfl
  | cons u r =>
    cases l with
    | nil => simp at hl
    | cons v l =>
      simp at hf
      show decide (u.k = 2) = true
      rw [hf]; exact this
theorem moveT_k (y : Int) (t : TM) (m : Int) : (moveT y t m).k = t.k := by
  obtain ⟨k, n, l⟩ := t
  rw [moveT_node]
  split
  · split
    · rfl
    · rename_i h _; exact h.symm
  · rfl
theorem swapT_k (t : TM) (m : Int) : (swapT t m).k = t.k := by
  obtain ⟨k, n, l⟩ := t
  rw [swapT_node]
  split
  · rename_i h; exact h.1.symm
  · split
    · rename_i h; exact h.1.symm
    · rfl
theorem moveM_len (y k : Int) (m : Int) : ∀ (l : List TM) (i : Nat), (moveM y k i l m).length = l.length
  | [], i => by rw [moveM_nil]
  | t :: l, i => by rw [moveM_cons, List.length_cons, moveM_len y k m l, List.length_cons]
theorem swapM_len (k : Int) (m : Int) : ∀ (l : List TM) (i : Nat), (swapM k i l m).length = l.length
  | [], i => by rw [swapM_nil]
  | t :: l, i => by rw [swapM_cons, List.length_cons, swapM_len k m l, List.length_cons]
theorem moveM_head (y k : Int) (m : Int) (l : List TM) (i : Nat) : (moveM y k i l m).head?.map TM.k = l.head?.map TM.k := by
  cases l with
  | nil => rw [moveM_nil]
  | cons t l => rw [moveM_cons]; simp [moveT_k]
theorem swapM_head (k : Int) (m : Int) (l : List TM) (i : Nat) : (swapM k i l m).head?.map TM.k = l.head?.map TM.k := by
  cases l with
  | nil => rw [swapM_nil]
  | cons t l => rw [swapM_cons]; simp [swapT_k]

/-- As great and as deep. -/
theorem moveT_size (y : Int) : ∀ (t : TM) (m : Int), tgoodB t = true → (moveT y t m).size = t.size ∧ (moveT y t m).depth = t.depth := by
  intro t
  induction t using TM.ind with
  | h k n l ih =>
    intro m h
    obtain ⟨h1, h2, h3, h4, h5, h6, h7⟩ := good_parts h
    rw [moveT_node]
    split
    · rename_i hk
      obtain rfl := var_nil h hk
      split
      · exact ⟨rfl, rfl⟩
      · rw [tsize_node, tsize_node, tdepth_node, tdepth_node]; exact ⟨rfl, rfl⟩
    · have hL : ∀ (r : List TM), (∀ u ∈ r, u ∈ l) → ∀ (i : Nat), sizeM (moveM y k i r m) = sizeM r ∧ depthM (moveM y k i r m) = depthM r := by
        intro r
        induction r with
        | nil => intro _ i; rw [moveM_nil]; exact ⟨rfl, rfl⟩
        | cons u r ihr =>
          intro hm i
          have e1 := ih u (hm u List.mem_cons_self) (m + bndR k i) (h7 u (hm u List.mem_cons_self))
          have e2 := ihr (fun v hv => hm v (List.mem_cons_of_mem _ hv)) (i + 1)
          rw [moveM_cons, sizeM_cons, sizeM_cons, depthM_cons, depthM_cons, e1.1, e1.2, e2.1, e2.2]
          exact ⟨rfl, rfl⟩
      obtain ⟨e1, e2⟩ := hL l (fun _ h => h) 0
      rw [tsize_node, tsize_node, tdepth_node, tdepth_node, e1, e2]
      exact ⟨rfl, rfl⟩
theorem swapT_size : ∀ (t : TM) (m : Int), tgoodB t = true → (swapT t m).size = t.size ∧ (swapT t m).depth = t.depth := by
  intro t
  induction t using TM.ind with
  | h k n l ih =>
    intro m h
    obtain ⟨h1, h2, h3, h4, h5, h6, h7⟩ := good_parts h
    rw [swapT_node]
    split
    · rename_i hk
      obtain rfl := var_nil h hk.1
      rw [tsize_node, tsize_node, tdepth_node, tdepth_node]; exact ⟨rfl, rfl⟩
    · split
      · rename_i hk
        obtain rfl := var_nil h hk.1
        rw [tsize_node, tsize_node, tdepth_node, tdepth_node]; exact ⟨rfl, rfl⟩
      have hL : ∀ (r : List TM), (∀ u ∈ r, u ∈ l) → ∀ (i : Nat), sizeM (swapM k i r m) = sizeM r ∧ depthM (swapM k i r m) = depthM r := by
        intro r
        induction r with
        | nil => intro _ i; rw [swapM_nil]; exact ⟨rfl, rfl⟩
        | cons u r ihr =>
          intro hm i
          have e1 := ih u (hm u List.mem_cons_self) (m + bndR k i) (h7 u (hm u List.mem_cons_self))
          have e2 := ihr (fun v hv => hm v (List.mem_cons_of_mem _ hv)) (i + 1)
          rw [swapM_cons, sizeM_cons, sizeM_cons, depthM_cons, depthM_cons, e1.1, e1.2, e2.1, e2.2]
          exact ⟨rfl, rfl⟩
      obtain ⟨e1, e2⟩ := hL l (fun _ h => h) 0
      rw [tsize_node, tsize_node, tdepth_node, tdepth_node, e1, e2]
      exact ⟨rfl, rfl⟩
theorem moveT_shaped {y m : Int} {t : TM} (h : shapedB t = true) : shapedB (moveT y t m) = tgoodB (moveT y t m) := by
  obtain ⟨h1, h2, h3⟩ := shapedB_true.1 h
  obtain ⟨e1, e2⟩ := moveT_size y t m h3
  cases e : tgoodB (moveT y t m) with
  | true => exact shapedB_true.2 ⟨by omega, by omega, e⟩
  | false =>
    cases e3 : shapedB (moveT y t m) with
    | false => rfl
    | true => rw [(shapedB_true.1 e3).2.2] at e; cases e
theorem swapT_shaped {m : Int} {t : TM} (h : shapedB t = true) : shapedB (swapT t m) = tgoodB (swapT t m) := by
  obtain ⟨h1, h2, h3⟩ := shapedB_true.1 h
  obtain ⟨e1, e2⟩ := swapT_size t m h3
  cases e : tgoodB (swapT t m) with
  | true => exact shapedB_true.2 ⟨by omega, by omega, e⟩
  | false =>
    cases e3 : shapedB (swapT t m) with
    | false => rfl
    | true => rw [(shapedB_true.1 e3).2.2] at e; cases e

/-- What becomes of a loose variable: lifted, lowered, swapped. -/
def liftG (k n m : Int) : Int × Int := if n ≤ m then (m + k, 0) else (m, 0)
def lowerG (k n m : Int) : Int × Int := if m < n then (m, 0) else if m < n + k then (0, 3) else (m - k, 0)
def swapG (n m : Int) : Int × Int := if m = n then (n + 1, 0) else if m = n + 1 then (n, 0) else (m, 0)

/-- Over the Subs of a good node: by a step that is known of each. -/
theorem movM_by {G : Int → Int × Int} {k b : Int} {l : List TM} (F : TM → Int → Except Int TM) (c : Int) (hx1 : 1 ≤ k) (hx2 : k ≤ 8)
    (hst : ∀ u ∈ l, ∀ d, 0 ≤ d → movT G u (b + d) = F u d) (P : TM → Int → Bool) (M : TM → Int → TM)
    (hF : ∀ u d, F u d = if P u d then .ok (M u d) else .error c) :
    ∀ (r : List TM) (i : Nat), (∀ u ∈ r, u ∈ l) → i + r.length = manyM k → movM G k i r b = if (r.zipIdx i).all (fun p => P p.1 (bndR k p.2)) then .ok ((r.zipIdx i).map (fun p => M p.1 (bndR k p.2))) else .error c
  | [], i, _, _ => by rw [movM_nil]; rfl
  | u :: r, i, hm, hl => by
    rw [movM_cons, bnd_good hx1 hx2 (m := (u :: r).length) hl (by simp), hst u (hm u List.mem_cons_self) _ (bndR_01 k i).1, hF, movM_by F c hx1 hx2 hst P M hF r (i + 1) (fun v hv => hm v (List.mem_cons_of_mem _ hv)) (by simp at hl; omega)]
    rw [List.zipIdx_cons, List.all_cons, List.map_cons]
    cases P u (bndR k i) with
    | false => rfl
    | true =>
      cases (r.zipIdx (i + 1)).all (fun p => P p.1 (bndR k p.2)) with
      | false => rfl
      | true => rfl
theorem moveM_zip (y k m : Int) : ∀ (l : List TM) (i : Nat), moveM y k i l m = (l.zipIdx i).map (fun p => moveT y p.1 (m + bndR k p.2))
  | [], i => by rw [moveM_nil]; rfl
  | t :: l, i => by rw [moveM_cons, moveM_zip y k m l, List.zipIdx_cons, List.map_cons]
theorem swapM_zip (k m : Int) : ∀ (l : List TM) (i : Nat), swapM k i l m = (l.zipIdx i).map (fun p => swapT p.1 (m + bndR k p.2))
  | [], i => by rw [swapM_nil]; rfl
  | t :: l, i => by rw [swapM_cons, swapM_zip k m l, List.zipIdx_cons, List.map_cons]
theorem betweenL_zip (k a b : Int) : ∀ (l : List TM) (i : Nat), betweenL k i l a b = (l.zipIdx i).any (fun p => betweenT p.1 (a + bndR k p.2) (b + bndR k p.2))
  | [], i => by rw [betweenL_nil]; rfl
  | t :: l, i => by rw [betweenL_cons, betweenL_zip k a b l, List.zipIdx_cons, List.any_cons]
theorem all_map {α β : Type} (f : β → Bool) (g : α → β) (l : List α) : (l.map g).all f = l.all (fun a => f (g a)) := by
  induction l with
  | nil => rfl
  | cons a l ih => rw [List.map_cons, List.all_cons, List.all_cons, ih]
theorem good_move {y k n m : Int} {l : List TM} (hk : k ≠ 1) (h : tgoodB (.node k n l) = true) : tgoodB (moveT y (.node k n l) m) = (l.zipIdx 0).all (fun p => tgoodB (moveT y p.1 (m + bndR k p.2))) := by
  rw [moveT_node, if_neg hk, tgoodB_node, ttop_like (good_parts h).2.2.2.2.2.1 (moveM_len _ _ _ _ _) (moveM_head _ _ _ _ _), Bool.true_and, tgoodL_all, moveM_zip, all_map]
theorem good_swap {k n m : Int} {l : List TM} (hk : k ≠ 1) (h : tgoodB (.node k n l) = true) : tgoodB (swapT (.node k n l) m) = (l.zipIdx 0).all (fun p => tgoodB (swapT p.1 (m + bndR k p.2))) := by
  rw [swapT_node, if_neg (by omega), if_neg (by omega), tgoodB_node, ttop_like (good_parts h).2.2.2.2.2.1 (swapM_len _ _ _ _) (swapM_head _ _ _ _), Bool.true_and, tgoodL_all, swapM_zip, all_map]

theorem lift_eq (k n : Int) (hk : 0 ≤ k) (hn : 0 ≤ n) : ∀ (t : TM) (b : Int), 0 ≤ b → tgoodB t = true → movT (liftG k n) t b = if tgoodB (moveT k t (n + b)) then .ok (moveT k t (n + b)) else .error 2 := by
  intro t
  induction t using TM.ind with
  | h kk N l ih =>
    intro b hb h
    obtain ⟨h1, h2, h3, h4, h5, h6, h7⟩ := good_parts h
    by_cases h0 : kk = 1
    · obtain rfl := var_nil h h0
      subst h0
      rw [movT_node, moveT_node, if_pos rfl, movM_nil]
      by_cases hb2 : b ≤ N
      · rw [if_pos ⟨rfl, hb2⟩]
        by_cases hm : n ≤ N - b
        · rw [varT_ok (show liftG k n (N - b) = (N - b + k, 0) by unfold liftG; rw [if_pos hm]), if_neg (show ¬ N < n + b by omega), leaf_good]
          by_cases hx : N - b + k > 1048576 - b
          · rw [if_pos hx, decide_eq_false (show ¬ N + k ≤ 1048576 by omega), Bool.and_false]; rfl
          · rw [if_neg hx, decide_eq_true (show N + k ≤ 1048576 by omega), decide_eq_true (show 0 ≤ N + k by omega)]
            have e : N - b + k + b = N + k := by omega
            rw [e]; rfl
        · rw [varT_ok (show liftG k n (N - b) = (N - b, 0) by unfold liftG; rw [if_neg hm]), if_pos (show N < n + b by omega), h, if_neg (show ¬ N - b > 1048576 - b by omega)]
          have e : N - b + b = N := by omega
          rw [e]; rfl
      · rw [if_neg (fun e => hb2 e.2), if_pos (show N < n + b by omega), h]
        rfl
    · rw [good_move h0 h, movT_node, if_neg (fun e => h0 e.1), movM_by (fun u d => if tgoodB (moveT k u (n + b + d)) then .ok (moveT k u (n + b + d)) else .error 2) 2 h1 h2
        (fun u hu d hd => by rw [ih u hu (b + d) (by omega) (h7 u hu), Int.add_assoc]) _ _ (fun _ _ => rfl) l 0 (fun _ h => h) (by omega)]
      rw [moveT_node, if_neg h0, moveM_zip]
      cases (l.zipIdx 0).all (fun p => tgoodB (moveT k p.1 (n + b + bndR kk p.2))) <;> rfl

theorem swap_eq (n : Int) (hn : 0 ≤ n) : ∀ (t : TM) (b : Int), 0 ≤ b → tgoodB t = true → movT (swapG n) t b = if tgoodB (swapT t (n + b)) then .ok (swapT t (n + b)) else .error 2 := by
  intro t
  induction t using TM.ind with
  | h kk N l ih =>
    intro b hb h
    obtain ⟨h1, h2, h3, h4, h5, h6, h7⟩ := good_parts h
    by_cases h0 : kk = 1
    · obtain rfl := var_nil h h0
      subst h0
      rw [movT_node, swapT_node, movM_nil, swapM_nil]
      by_cases hb2 : b ≤ N
      · rw [if_pos ⟨rfl, hb2⟩]
        by_cases hm : N - b = n
        · rw [varT_ok (show swapG n (N - b) = (n + 1, 0) by unfold swapG; rw [if_pos hm]), if_pos (show (1 : Int) = 1 ∧ N = n + b from ⟨rfl, by omega⟩), leaf_good]
          by_cases hx : n + 1 > 1048576 - b
          · rw [if_pos hx, decide_eq_false (show ¬ n + b + 1 ≤ 1048576 by omega), Bool.and_false]; rfl
          · rw [if_neg hx, decide_eq_true (show n + b + 1 ≤ 1048576 by omega), decide_eq_true (show 0 ≤ n + b + 1 by omega)]
            have e : n + 1 + b = n + b + 1 := by omega
            rw [e]; rfl
        · rw [if_neg (show ¬ ((1 : Int) = 1 ∧ N = n + b) from fun e => hm (by omega))]
          by_cases hm2 : N - b = n + 1
          · rw [varT_ok (show swapG n (N - b) = (n, 0) by unfold swapG; rw [if_neg hm, if_pos hm2]), if_pos (show (1 : Int) = 1 ∧ N = n + b + 1 from ⟨rfl, by omega⟩), leaf_good, decide_eq_true (show n + b ≤ 1048576 by omega), decide_eq_true (show 0 ≤ n + b by omega), if_neg (show ¬ n > 1048576 - b by omega)]; rfl
          · rw [varT_ok (show swapG n (N - b) = (N - b, 0) by unfold swapG; rw [if_neg hm, if_neg hm2]), if_neg (show ¬ ((1 : Int) = 1 ∧ N = n + b + 1) from fun e => hm2 (by omega)), h, if_neg (show ¬ N - b > 1048576 - b by omega)]
            have e : N - b + b = N := by omega
            rw [e]; rfl
      · rw [if_neg (fun e => hb2 e.2), if_neg (show ¬ ((1 : Int) = 1 ∧ N = n + b) from fun e => hb2 (by omega)), if_neg (show ¬ ((1 : Int) = 1 ∧ N = n + b + 1) from fun e => hb2 (by omega)), h]
        rfl
    · rw [good_swap h0 h, movT_node, if_neg (fun e => h0 e.1), movM_by (fun u d => if tgoodB (swapT u (n + b + d)) then .ok (swapT u (n + b + d)) else .error 2) 2 h1 h2
        (fun u hu d hd => by rw [ih u hu (b + d) (by omega) (h7 u hu), Int.add_assoc]) _ _ (fun _ _ => rfl) l 0 (fun _ h => h) (by omega)]
      rw [swapT_node, if_neg (show ¬ (kk = 1 ∧ N = n + b) from fun e => h0 e.1), if_neg (show ¬ (kk = 1 ∧ N = n + b + 1) from fun e => h0 e.1), swapM_zip]
      cases (l.zipIdx 0).all (fun p => tgoodB (swapT p.1 (n + b + bndR kk p.2))) <;> rfl
theorem not_any {α : Type} (f : α → Bool) (l : List α) : l.any f = !(l.all (fun a => !f a)) := by
  induction l with
  | nil => rfl
  | cons a l ih => rw [List.any_cons, List.all_cons, ih]; cases f a <;> simp

theorem lower_eq (k n : Int) (hk : 0 ≤ k) (hn : 0 ≤ n) : ∀ (t : TM) (b : Int), 0 ≤ b → tgoodB t = true → movT (lowerG k n) t b = if !betweenT t (n + b) (n + k + b) then .ok (moveT (-k) t (n + k + b)) else .error 3 := by
  intro t
  induction t using TM.ind with
  | h kk N l ih =>
    intro b hb h
    obtain ⟨h1, h2, h3, h4, h5, h6, h7⟩ := good_parts h
    by_cases h0 : kk = 1
    · obtain rfl := var_nil h h0
      subst h0
      rw [movT_node, moveT_node, if_pos rfl, movM_nil, betweenT_node, if_pos rfl]
      by_cases hb2 : b ≤ N
      · rw [if_pos ⟨rfl, hb2⟩]
        by_cases hm : N - b < n
        · rw [varT_ok (show lowerG k n (N - b) = (N - b, 0) by unfold lowerG; rw [if_pos hm]), if_pos (show N < n + k + b by omega), decide_eq_false (show ¬ n + b ≤ N by omega), if_neg (show ¬ N - b > 1048576 - b by omega)]
          have e : N - b + b = N := by omega
          rw [e]; rfl
        · by_cases hm2 : N - b < n + k
          · rw [varT_err (show lowerG k n (N - b) = (0, 3) by unfold lowerG; rw [if_neg hm, if_pos hm2]) (by omega), decide_eq_true (show n + b ≤ N by omega), decide_eq_true (show N < n + k + b by omega)]; rfl
          · rw [varT_ok (show lowerG k n (N - b) = (N - b - k, 0) by unfold lowerG; rw [if_neg hm, if_neg hm2]), if_neg (show ¬ N < n + k + b by omega), decide_eq_true (show n + b ≤ N by omega), decide_eq_false (show ¬ N < n + k + b by omega), if_neg (show ¬ N - b - k > 1048576 - b by omega)]
            have e : N - b - k + b = N + -k := by omega
            rw [e]; rfl
      · rw [if_neg (fun e => hb2 e.2), if_pos (show N < n + k + b by omega), decide_eq_false (show ¬ n + b ≤ N by omega)]
        rfl
    · rw [betweenT_node, if_neg h0, betweenL_zip, movT_node, if_neg (fun e => h0 e.1), movM_by (fun u d => if !betweenT u (n + b + d) (n + k + b + d) then .ok (moveT (-k) u (n + k + b + d)) else .error 3) 3 h1 h2
        (fun u hu d hd => by rw [ih u hu (b + d) (by omega) (h7 u hu), show n + (b + d) = n + b + d by omega, show n + k + (b + d) = n + k + b + d by omega]) _ _ (fun _ _ => rfl) l 0 (fun _ h => h) (by omega)]
      rw [moveT_node, if_neg h0, moveM_zip, not_any, Bool.not_not]
      cases (l.zipIdx 0).all (fun p => !betweenT p.1 (n + b + bndR kk p.2) (n + k + b + bndR kk p.2)) <;> rfl

end Go.Proofs.YtcobionbgiaomaaDoor
