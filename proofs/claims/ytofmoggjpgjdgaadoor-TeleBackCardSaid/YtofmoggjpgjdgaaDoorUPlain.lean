/- What becomes of a term when terms are put in the place of its variables, plainly: as the program goes over it, with a room that is left (witT), and as it should be (putT); what comes of both is the same. No walk. -/
import Derived.Test.YtofmoggjpgjdgaaDoorLFacts
namespace Go.Proofs.YtofmoggjpgjdgaaDoor
open Go.RowKit
set_option linter.unusedVariables false

/-- A place that may be put something in: a named variable, or one that none of the b binders binds. -/
def isV (k n b : Int) : Prop := k = 8 ∨ (k = 1 ∧ b ≤ n)
instance (k n b : Int) : Decidable (isV k n b) := by unfold isV; infer_instance
/-- What becomes of it: a term and an error. -/
abbrev Bec := Int → Int → Int → TM × Int
def leafR (p : TM × Int) (r : Int) : Except Int (TM × Int) := if r - (topN p.1.size : Int) < 0 then .error 2 else if p.2 = 0 then .ok (p.1, r - (topN p.1.size : Int)) else .error p.2
mutual
def witT (G : Bec) : TM → Int → Int → Except Int (TM × Int)
  | .node k n l, b, r => if isV k n b then leafR (G k n b) r else
    match witM G k 0 l b r with
    | .error c => .error c
    | .ok (us, q) => .ok (.node k n us, q)
def witM (G : Bec) (k : Int) (i : Nat) : List TM → Int → Int → Except Int (List TM × Int)
  | [], _, r => .ok ([], r)
  | t :: l, b, r =>
    match witT G t (b + bnd k i) r with
    | .error c => .error c
    | .ok (u, q) =>
      match witM G k (i + 1) l b q with
      | .error c => .error c
      | .ok (us, s) => .ok (u :: us, s)
end
theorem witT_node (G : Bec) (k n : Int) (l : List TM) (b r : Int) : witT G (.node k n l) b r = if isV k n b then leafR (G k n b) r else
    match witM G k 0 l b r with
    | .error c => .error c
    | .ok (us, q) => .ok (.node k n us, q) := by rw [witT]
theorem witM_nil (G : Bec) (k : Int) (i : Nat) (b r : Int) : witM G k i [] b r = .ok ([], r) := by rw [witM]
theorem witM_cons (G : Bec) (k : Int) (i : Nat) (t : TM) (l : List TM) (b r : Int) : witM G k i (t :: l) b r =
    match witT G t (b + bnd k i) r with
    | .error c => .error c
    | .ok (u, q) =>
      match witM G k (i + 1) l b q with
      | .error c => .error c
      | .ok (us, s) => .ok (u :: us, s) := by rw [witM]
theorem witM_append (G : Bec) : ∀ (l m : List TM) (k : Int) (i : Nat) (b r : Int), witM G k i (l ++ m) b r =
    match witM G k i l b r with
    | .error c => .error c
    | .ok (us, q) =>
      match witM G k (i + l.length) m b q with
      | .error c => .error c
      | .ok (vs, s) => .ok (us ++ vs, s)
  | [], m, k, i, b, r => by
    rw [List.nil_append, witM_nil]
    simp only [List.length_nil, Nat.add_zero]
    cases h : witM G k i m b r with
    | error c => rfl
    | ok p => obtain ⟨us, s⟩ := p; rfl
  | t :: l, m, k, i, b, r => by
    rw [List.cons_append, witM_cons, witM_cons]
    have e : i + 1 + l.length = i + (t :: l).length := by simp; omega
    cases witT G t (b + bnd k i) r with
    | error c => rfl
    | ok p =>
      obtain ⟨u, q⟩ := p
      simp only []
      rw [witM_append G l, e]
      cases witM G k (i + 1) l b q with
      | error c => rfl
      | ok p =>
        obtain ⟨us, s⟩ := p
        simp only []
        cases witM G k (i + (t :: l).length) m b s with
        | error c => rfl
        | ok p => obtain ⟨vs, x⟩ := p; rfl
theorem witM_take (G : Bec) (k b r : Int) {l : List TM} {i : Nat} (h : i < l.length) {us : List TM} {q : Int} (hu : witM G k 0 (l.take i) b r = .ok (us, q)) : witM G k 0 (l.take (i + 1)) b r =
    match witT G l[i] (b + bnd k i) q with
    | .error c => .error c
    | .ok (u, s) => .ok (us ++ [u], s) := by
  rw [take_snocM h, witM_append, hu]
  have e : 0 + (l.take i).length = i := by simp; omega
  simp only []
  rw [e, witM_cons]
  cases witT G l[i] (b + bnd k i) q with
  | error c => rfl
  | ok p => obtain ⟨u, s⟩ := p; simp only []; rw [witM_nil]
theorem witM_err (G : Bec) (k b r : Int) {l : List TM} {i : Nat} {c : Int} (h : witM G k 0 (l.take i) b r = .error c) : witM G k 0 l b r = .error c := by
  have := witM_append G (l.take i) (l.drop i) k 0 b r
  rw [List.take_append_drop, h] at this
  exact this

/-- As it should be. -/
abbrev Put := Int → Int → Int → TM
mutual
def putT (H : Put) : TM → Int → TM
  | .node k n l, b => if isV k n b then H k n b else .node k n (putM H k 0 l b)
def putM (H : Put) (k : Int) (i : Nat) : List TM → Int → List TM
  | [], _ => []
  | t :: l, b => putT H t (b + bnd k i) :: putM H k (i + 1) l b
end
theorem putT_node (H : Put) (k n : Int) (l : List TM) (b : Int) : putT H (.node k n l) b = if isV k n b then H k n b else .node k n (putM H k 0 l b) := by rw [putT]
theorem putM_nil (H : Put) (k : Int) (i : Nat) (b : Int) : putM H k i [] b = [] := by rw [putM]
theorem putM_cons (H : Put) (k : Int) (i : Nat) (t : TM) (l : List TM) (b : Int) : putM H k i (t :: l) b = putT H t (b + bnd k i) :: putM H k (i + 1) l b := by rw [putM]
theorem putM_len (H : Put) (k b : Int) : ∀ (l : List TM) (i : Nat), (putM H k i l b).length = l.length
  | [], i => by rw [putM_nil]
  | t :: l, i => by rw [putM_cons, List.length_cons, putM_len H k b l, List.length_cons]

/-- A variable that may stand beneath b binders. -/
def varOk (k n b : Int) : Prop := isV k n b ∧ 0 ≤ n ∧ n ≤ 1048576 ∧ 0 ≤ b ∧ b ≤ 200
/-- What the program makes of each variable is as it should be, or would be no right term. -/
def Fair (G : Bec) (H : Put) : Prop := ∀ k n b, varOk k n b → G k n b = (H k n b, 0) ∨ ((G k n b).2 = 2 ∧ tgoodB (H k n b) = false)
theorem wit_put {G : Bec} {H : Put} (hf : Fair G H) : ∀ (t : TM) (b r : Int), tgoodB t = true → 0 ≤ b → b + t.depth ≤ 200 → 0 ≤ r → r ≤ 8192 →
    (∀ u q, witT G t b r = .ok (u, q) → u = putT H t b ∧ r - (u.size : Int) ≤ q ∧ q ≤ r ∧ 0 ≤ q) ∧
    (∀ c, witT G t b r = .error c → c = 2 ∧ (tgoodB (putT H t b) = false ∨ r < ((putT H t b).size : Int))) := by
  intro t
  induction t using TM.ind with
  | h k n l ih =>
    intro b r hg hb0 hb1 hr0 hr1
    obtain ⟨g1, g2, g3, g4, g5, g6, g7⟩ := good_parts hg
    rw [witT_node, putT_node]
    by_cases hv : isV k n b
    · rw [if_pos hv, if_pos hv]
      rw [tdepth_node] at hb1
      have hvo : varOk k n b := ⟨hv, g4, g5, hb0, by omega⟩
      obtain ⟨p, hp⟩ : ∃ p, G k n b = p := ⟨_, rfl⟩
      have hF := hf k n b hvo
      rw [hp] at hF ⊢
      unfold leafR
      have ht1 := topN_le' p.1.size
      rcases hF with rfl | ⟨h2, hno⟩
      · by_cases hl : r - (topN (H k n b).size : Int) < 0
        · rw [if_pos hl]
          refine ⟨fun u q h => (nomatch h), fun c h => ?_⟩
          injection h with h; subst h
          exact ⟨rfl, .inr (by simp only at ht1; omega)⟩
        · rw [if_neg hl, if_pos rfl]
          refine ⟨fun u q h => ?_, fun c h => (nomatch h)⟩
          injection h with h; injection h with h1 h2; subst h1; subst h2
          simp only at ht1
          exact ⟨rfl, by dsimp only; omega, by dsimp only; omega, by dsimp only; omega⟩
      · rw [h2]
        by_cases hl : r - (topN p.1.size : Int) < 0
        · rw [if_pos hl]
          refine ⟨fun u q h => (nomatch h), fun c h => ?_⟩
          injection h with h; subst h
          exact ⟨rfl, .inl hno⟩
        · rw [if_neg hl, if_neg (by omega)]
          refine ⟨fun u q h => (nomatch h), fun c h => ?_⟩
          injection h with h; subst h
          exact ⟨rfl, .inl hno⟩
    · rw [if_neg hv, if_neg hv]
      rw [tdepth_node] at hb1
      have hL : ∀ (m : List TM), (∀ u ∈ m, u ∈ l) → ∀ (i : Nat) (r : Int), 0 ≤ r → r ≤ 8192 →
          (∀ us q, witM G k i m b r = .ok (us, q) → us = putM H k i m b ∧ r - (sizeM us : Int) ≤ q ∧ q ≤ r ∧ 0 ≤ q) ∧
          (∀ c, witM G k i m b r = .error c → c = 2 ∧ (tgoodL (putM H k i m b) = false ∨ r < (sizeM (putM H k i m b) : Int))) := by
        intro m
        induction m with
        | nil =>
          intro _ i r h0 h1
          rw [witM_nil, putM_nil]
          refine ⟨fun us q h => ?_, fun c h => (nomatch h)⟩
          injection h with h; injection h with h2 h3; subst h2; subst h3
          exact ⟨rfl, by rw [sizeM_nil]; omega, by omega, by omega⟩
        | cons u m ihm =>
          intro hm i r h0 h1
          have hb01 := bnd_01 k i
          have hdep : u.depth ≤ depthM l := depth_mem (hm u List.mem_cons_self)
          obtain ⟨A1, A2⟩ := ih u (hm u List.mem_cons_self) (b + bnd k i) r (g7 u (hm u List.mem_cons_self)) (by omega) (by omega) h0 h1
          rw [witM_cons, putM_cons, sizeM_cons]
          cases e : witT G u (b + bnd k i) r with
          | error c =>
            obtain ⟨rfl, hc⟩ := A2 c e
            refine ⟨fun us q h => (nomatch h), fun c h => ?_⟩
            injection h with h; subst h
            refine ⟨rfl, ?_⟩
            rcases hc with hc | hc
            · left; rw [tgoodL_all, List.all_cons, hc]; rfl
            · right; omega
          | ok p =>
            obtain ⟨v, q⟩ := p
            obtain ⟨rfl, a1, a2, a3⟩ := A1 v q e
            obtain ⟨B1, B2⟩ := ihm (fun v hv => hm v (List.mem_cons_of_mem _ hv)) (i + 1) q a3 (by omega)
            simp only []
            cases e2 : witM G k (i + 1) m b q with
            | error c =>
              obtain ⟨rfl, hc⟩ := B2 c e2
              refine ⟨fun us q h => (nomatch h), fun c h => ?_⟩
              injection h with h; subst h
              refine ⟨rfl, ?_⟩
              rcases hc with hc | hc
              · left; rw [tgoodL_all, List.all_cons, ← tgoodL_all, hc]; simp
              · right; omega
            | ok p =>
              obtain ⟨vs, s⟩ := p
              obtain ⟨rfl, c1, c2, c3⟩ := B1 vs s e2
              refine ⟨fun us q h => ?_, fun c h => (nomatch h)⟩
              injection h with h; injection h with h1 h2; subst h1; subst h2
              exact ⟨rfl, by rw [sizeM_cons]; omega, by omega, by omega⟩
      obtain ⟨B1, B2⟩ := hL l (fun _ h => h) 0 r hr0 hr1
      cases e : witM G k 0 l b r with
      | error c =>
        obtain ⟨rfl, hc⟩ := B2 c e
        refine ⟨fun us q h => (nomatch h), fun c h => ?_⟩
        injection h with h; subst h
        refine ⟨rfl, ?_⟩
        rcases hc with hc | hc
        · left; rw [tgoodB_node, hc]; simp
        · right; rw [tsize_node]; omega
      | ok p =>
        obtain ⟨vs, s⟩ := p
        obtain ⟨rfl, c1, c2, c3⟩ := B1 vs s e
        refine ⟨fun us q h => ?_, fun c h => (nomatch h)⟩
        injection h with h; injection h with h1 h2; subst h1; subst h2
        exact ⟨rfl, by rw [tsize_node]; omega, by omega, by omega⟩
where
  depth_mem {t : TM} {l : List TM} (h : t ∈ l) : t.depth ≤ depthM l := by
    induction l with
    | nil => cases h
    | cons u l ih =>
      rw [depthM_cons]
      rcases List.mem_cons.1 h with rfl | h
      · omega
      · have := ih h; omega
/-- What the call tells of what came. -/
def gotX (u : TM) : TM × Int := if shapedB u then (u, 0) else (.node 0 0 [], 2)
def changedX (G : Bec) (t : TM) : TM × Int := match witT G t 0 8192 with | .error c => (.node 0 0 [], c) | .ok (u, _) => if shapedB u then (u, 0) else (.node 0 0 [], 2)
theorem changedX_eq {G : Bec} {H : Put} (hf : Fair G H) {t : TM} (h : shapedB t = true) : changedX G t = gotX (putT H t 0) := by
  obtain ⟨h1, h2, h3⟩ := shapedB_true.1 h
  obtain ⟨A, B⟩ := wit_put hf t 0 8192 h3 (by omega) (by omega) (by omega) (by omega)
  unfold changedX gotX
  cases e : witT G t 0 8192 with
  | error c =>
    obtain ⟨rfl, hc⟩ := B c e
    have : shapedB (putT H t 0) = false := by
      cases e2 : shapedB (putT H t 0) with
      | false => rfl
      | true =>
        obtain ⟨s1, s2, s3⟩ := shapedB_true.1 e2
        rcases hc with hc | hc
        · rw [hc] at s3; cases s3
        · omega
    rw [this]; rfl
  | ok p =>
    obtain ⟨u, q⟩ := p
    obtain ⟨rfl, _⟩ := A u q e
    rfl

/-- No shaped term has a part that is none. -/
theorem shaped_part {k n : Int} {l : List TM} {t : TM} (h : t ∈ l) (hs : shapedB (.node k n l) = true) : shapedB t = true := by
  obtain ⟨s1, s2, s3⟩ := shapedB_true.1 hs
  rw [tsize_node] at s1
  rw [tdepth_node] at s2
  have h1 := tsize_mem h
  have h2 := wit_put.depth_mem h
  exact shapedB_true.2 ⟨by omega, by omega, (good_parts s3).2.2.2.2.2.2 t h⟩
/-- What the document's going over tells of a term that should come: a term, or that it is too great. -/
structure GotIs (u T : TM) (long : Bool) : Prop where
  yes : long = true → shapedB u = false
  no : long = false → T = u

end Go.Proofs.YtofmoggjpgjdgaaDoor
