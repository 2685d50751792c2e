/- What becomes of a term when terms are put in the place of its variables, plainly: as the program goes over it, with a room that is left (witT), and as it should be (putT); what comes of both is the same. No walk. -/
import Derived.Test.YtcbbaognomddkaaGreatDoorM7
import Derived.Test.YtcbbaognomddkaaGreatDoorR2
namespace Go.Proofs.YtcbbaognomddkaaGreatDoor
open Go.RowKit
set_option linter.unusedVariables false

/-- A place that may be put something in: a named variable, or one that none of the b binders binds. -/
def isV (k n b : Int) : Prop := k = 8 ∨ (k = 1 ∧ b ≤ n)
instance (k n b : Int) : Decidable (isV k n b) := by unfold isV; infer_instance
/-- What becomes of it: a term and an error. -/
abbrev Bec := Int → Int → Int → TM × Int
def leafR (p : TM × Int) (r : Int) : Except Int (TM × Int) := if r - (topN p.1.size : Int) < 0 then .error 2 else if p.2 = 0 then .ok (p.1, r - (topN p.1.size : Int)) else .error p.2
mutual
def witT (G : Bec) : TM → Int → Int → Except Int (TM × Int)
  | .node k n l, b, r => if isV k n b then leafR (G k n b) r else
    match witM G k 0 l b r with
    | .error c => .error c
    | .ok (us, q) => .ok (.node k n us, q)
def witM (G : Bec) (k : Int) (i : Nat) : List TM → Int → Int → Except Int (List TM × Int)
  | [], _, r => .ok ([], r)
  | t :: l, b, r =>
    match witT G t (b + bnd k i) r with
    | .error c => .error c
    | .ok (u, q) =>
      match witM G k (i + 1) l b q with
      | .error c => .error c
      | .ok (us, s) => .ok (u :: us, s)
end
theorem witT_node (G : Bec) (k n : Int) (l : List TM) (b r : Int) : witT G (.node k n l) b r = if isV k n b then leafR (G k n b) r else
    match witM G k 0 l b r with
    | .error c => .error c
    | .ok (us, q) => .ok (.node k n us, q) := by rw [witT]
theorem witM_nil (G : Bec) (k : Int) (i : Nat) (b r : Int) : witM G k i [] b r = .ok ([], r) := by rw [witM]
theorem witM_cons (G : Bec) (k : Int) (i : Nat) (t : TM) (l : List TM) (b r : Int) : witM G k i (t :: l) b r =
    match witT G t (b + bnd k i) r with
    | .error c => .error c
    | .ok (u, q) =>
      match witM G k (i + 1) l b q with
      | .error c => .error c
      | .ok (us, s) => .ok (u :: us, s) := by rw [witM]
/-- As it should be. -/
abbrev Put := Int → Int → Int → TM
mutual
def putT (H : Put) : TM → Int → TM
  | .node k n l, b => if isV k n b then H k n b else .node k n (putM H k 0 l b)
def putM (H : Put) (k : Int) (i : Nat) : List TM → Int → List TM
  | [], _ => []
  | t :: l, b => putT H t (b + bnd k i) :: putM H k (i + 1) l b
end
theorem putT_node (H : Put) (k n : Int) (l : List TM) (b : Int) : putT H (.node k n l) b = if isV k n b then H k n b else .node k n (putM H k 0 l b) := by rw [putT]
theorem putM_nil (H : Put) (k : Int) (i : Nat) (b : Int) : putM H k i [] b = [] := by rw [putM]
theorem putM_cons (H : Put) (k : Int) (i : Nat) (t : TM) (l : List TM) (b : Int) : putM H k i (t :: l) b = putT H t (b + bnd k i) :: putM H k (i + 1) l b := by rw [putM]
/-- A variable that may stand beneath b binders. -/
def varOk (k n b : Int) : Prop := isV k n b ∧ 0 ≤ n ∧ n ≤ 1048576 ∧ 0 ≤ b ∧ b ≤ 200
/-- What the program makes of each variable is as it should be, or would be no right term. -/
def Fair (G : Bec) (H : Put) : Prop := ∀ k n b, varOk k n b → G k n b = (H k n b, 0) ∨ ((G k n b).2 = 2 ∧ tgoodB (H k n b) = false)
theorem wit_put {G : Bec} {H : Put} (hf : Fair G H) : ∀ (t : TM) (b r : Int), tgoodB t = true → 0 ≤ b → b + t.depth ≤ 200 → 0 ≤ r → r ≤ 8192 →
    (∀ u q, witT G t b r = .ok (u, q) → u = putT H t b ∧ r - (u.size : Int) ≤ q ∧ q ≤ r ∧ 0 ≤ q) ∧
    (∀ c, witT G t b r = .error c → c = 2 ∧ (tgoodB (putT H t b) = false ∨ r < ((putT H t b).size : Int))) := by
  intro t
  induction t using TM.ind with
  | h k n l ih =>
    intro b r hg hb0 hb1 hr0 hr1
    obtain ⟨g1, g2, g3, g4, g5, g6, g7⟩ := good_parts hg
    rw [witT_node, putT_node]
    by_cases hv : isV k n b
    · rw [if_pos hv, if_pos hv]
      rw [tdepth_node] at hb1
      have hvo : varOk k n b := ⟨hv, g4, g5, hb0, by omega⟩
      obtain ⟨p, hp⟩ : ∃ p, G k n b = p := ⟨_, rfl⟩
      have hF := hf k n b hvo
      rw [hp] at hF ⊢
      unfold leafR
      have ht1 := topN_le' p.1.size
      rcases hF with rfl | ⟨h2, hno⟩
      · by_cases hl : r - (topN (H k n b).size : Int) < 0
        · rw [if_pos hl]
          refine ⟨fun u q h => (nomatch h), fun c h => ?_⟩
          injection h with h; subst h
          exact ⟨rfl, .inr (by simp only at ht1; omega)⟩
        · rw [if_neg hl, if_pos rfl]
          refine ⟨fun u q h => ?_, fun c h => (nomatch h)⟩
          injection h with h; injection h with h1 h2; subst h1; subst h2
          simp only at ht1
          exact ⟨rfl, by dsimp only; omega, by dsimp only; omega, by dsimp only; omega⟩
      · rw [h2]
        by_cases hl : r - (topN p.1.size : Int) < 0
        · rw [if_pos hl]
          refine ⟨fun u q h => (nomatch h), fun c h => ?_⟩
          injection h with h; subst h
          exact ⟨rfl, .inl hno⟩
        · rw [if_neg hl, if_neg (by omega)]
          refine ⟨fun u q h => (nomatch h), fun c h => ?_⟩
          injection h with h; subst h
          exact ⟨rfl, .inl hno⟩
    · rw [if_neg hv, if_neg hv]
      rw [tdepth_node] at hb1
      have hL : ∀ (m : List TM), (∀ u ∈ m, u ∈ l) → ∀ (i : Nat) (r : Int), 0 ≤ r → r ≤ 8192 →
          (∀ us q, witM G k i m b r = .ok (us, q) → us = putM H k i m b ∧ r - (sizeM us : Int) ≤ q ∧ q ≤ r ∧ 0 ≤ q) ∧
          (∀ c, witM G k i m b r = .error c → c = 2 ∧ (tgoodL (putM H k i m b) = false ∨ r < (sizeM (putM H k i m b) : Int))) := by
        intro m
        induction m with
        | nil =>
          intro _ i r h0 h1
          rw [witM_nil, putM_nil]
          refine ⟨fun us q h => ?_, fun c h => (nomatch h)⟩
          injection h with h; injection h with h2 h3; subst h2; subst h3
          exact ⟨rfl, by rw [sizeM_nil]; omega, by omega, by omega⟩
        | cons u m ihm =>
          intro hm i r h0 h1
          have hb01 := bnd_01 k i
          have hdep : u.depth ≤ depthM l := depth_mem (hm u List.mem_cons_self)
          obtain ⟨A1, A2⟩ := ih u (hm u List.mem_cons_self) (b + bnd k i) r (g7 u (hm u List.mem_cons_self)) (by omega) (by omega) h0 h1
          rw [witM_cons, putM_cons, sizeM_cons]
          cases e : witT G u (b + bnd k i) r with
          | error c =>
            obtain ⟨rfl, hc⟩ := A2 c e
            refine ⟨fun us q h => (nomatch h), fun c h => ?_⟩
            injection h with h; subst h
            refine ⟨rfl, ?_⟩
            rcases hc with hc | hc
            · left; rw [tgoodL_all, List.all_cons, hc]; rfl
            · right; omega
          | ok p =>
            obtain ⟨v, q⟩ := p
            obtain ⟨rfl, a1, a2, a3⟩ := A1 v q e
            obtain ⟨B1, B2⟩ := ihm (fun v hv => hm v (List.mem_cons_of_mem _ hv)) (i + 1) q a3 (by omega)
            simp only []
            cases e2 : witM G k (i + 1) m b q with
            | error c =>
              obtain ⟨rfl, hc⟩ := B2 c e2
              refine ⟨fun us q h => (nomatch h), fun c h => ?_⟩
              injection h with h; subst h
              refine ⟨rfl, ?_⟩
              rcases hc with hc | hc
              · left; rw [tgoodL_all, List.all_cons, ← tgoodL_all, hc]; simp
              · right; omega
            | ok p =>
              obtain ⟨vs, s⟩ := p
              obtain ⟨rfl, c1, c2, c3⟩ := B1 vs s e2
              refine ⟨fun us q h => ?_, fun c h => (nomatch h)⟩
              injection h with h; injection h with h1 h2; subst h1; subst h2
              exact ⟨rfl, by rw [sizeM_cons]; omega, by omega, by omega⟩
      obtain ⟨B1, B2⟩ := hL l (fun _ h => h) 0 r hr0 hr1
      cases e : witM G k 0 l b r with
      | error c =>
        obtain ⟨rfl, hc⟩ := B2 c e
        refine ⟨fun us q h => (nomatch h), fun c h => ?_⟩
        injection h with h; subst h
        refine ⟨rfl, ?_⟩
        rcases hc with hc | hc
        · left; rw [tgoodB_node, hc]; simp
        · right; rw [tsize_node]; omega
      | ok p =>
        obtain ⟨vs, s⟩ := p
        obtain ⟨rfl, c1, c2, c3⟩ := B1 vs s e
        refine ⟨fun us q h => ?_, fun c h => (nomatch h)⟩
        injection h with h; injection h with h1 h2; subst h1; subst h2
        exact ⟨rfl, by rw [tsize_node]; omega, by omega, by omega⟩
where
  depth_mem {t : TM} {l : List TM} (h : t ∈ l) : t.depth ≤ depthM l := by
    induction l with
    | nil => cases h
    | cons u l ih =>
      rw [depthM_cons]
      rcases List.mem_cons.1 h with rfl | h
      · omega
      · have := ih h; omega
/-- No shaped term has a part that is none. -/
theorem shaped_part {k n : Int} {l : List TM} {t : TM} (h : t ∈ l) (hs : shapedB (.node k n l) = true) : shapedB t = true := by
  obtain ⟨s1, s2, s3⟩ := shapedB_true.1 hs
  rw [tsize_node] at s1
  rw [tdepth_node] at s2
  have h1 := tsize_mem h
  have h2 := wit_put.depth_mem h
  exact shapedB_true.2 ⟨by omega, by omega, (good_parts s3).2.2.2.2.2.2 t h⟩
end Go.Proofs.YtcbbaognomddkaaGreatDoor

/- Worlds of which one block alone, g, and new ones have turned: what lies elsewhere stays. No walk. -/
namespace Go.Proofs.YtcbbaognomddkaaGreatDoor
open Go.RowKit
set_option linter.unusedVariables false

/-- Below block number B, but for block g, the world b is as a was. -/
structure Near (g B : Nat) (a b : World) : Prop where
  os : b.os = a.os
  tape : b.tape = a.tape
  output : b.output = a.output
  size : a.heap.size ≤ b.heap.size
  block : ∀ k, k < B → k ≠ g → b.heap[k]? = a.heap[k]?
theorem Near.refl (g B : Nat) (w : World) : Near g B w w := ⟨rfl, rfl, rfl, Nat.le_refl _, fun _ _ _ => rfl⟩
theorem Near.of {g B : Nat} {a b : World} (h : Below B a b) : Near g B a b := ⟨h.os, h.tape, h.output, h.size, fun k hk _ => h.block k hk⟩
theorem Near.trans {g B : Nat} {a b c : World} (h : Near g B a b) (k : Near g B b c) : Near g B a c :=
  ⟨k.os.trans h.os, k.tape.trans h.tape, k.output.trans h.output, Nat.le_trans h.size k.size, fun i hi hg => (k.block i hi hg).trans (h.block i hi hg)⟩
theorem Near.mono {g B B' : Nat} {w w' : World} (h : Near g B w w') (hB : B' ≤ B) : Near g B' w w' := ⟨h.os, h.tape, h.output, h.size, fun k hk => h.block k (Nat.lt_of_lt_of_le hk hB)⟩
theorem Near.drew {g B : Nat} {a w : World} (h : Near g B a w) : Near g B a w.drew := ⟨h.os, h.tape, h.output, h.size, h.block⟩
theorem Near.alloc {g B : Nat} {a w : World} (h : Near g B a w) (hB : B ≤ w.heap.size) (o : Obj) : Near g B a (w.alloc o) :=
  h.trans (Near.of ((Below.refl B w).alloc hB o))
theorem Near.setCell {g B : Nat} {a w : World} (h : Near g B a w) {p : Addr} (hp : B ≤ p.block) (u : Value) : Near g B a (w.setCell p u) :=
  h.trans (Near.of ((Below.refl B w).setCell hp u))
/-- A store into block g itself. -/
theorem Near.own {g B : Nat} {a w : World} (h : Near g B a w) (o : Nat) (u : Value) : Near g B a (w.setCell ⟨g, o, none⟩ u) :=
  h.trans ⟨rfl, rfl, rfl, by simp [World.setCell], fun k _ hk => Below.heap_setCell _ _ _ _ hk⟩
theorem Near.grown {g B : Nat} {a w w' : World} {row : Option Nat} (h : Near g B a w) (hg : w.grownBy w' row) (hB : B ≤ w.heap.size) (hr : ∀ k, row = some k → B ≤ k) : Near g B a w' :=
  h.trans (Near.of ((Below.refl B w).grown hg hB hr))
theorem Near.cell {g B : Nat} {w w' : World} (h : Near g B w w') {b o : Nat} (hb : b < B) (hg : b ≠ g) : w'.cell? ⟨b, o, none⟩ = w.cell? ⟨b, o, none⟩ := World.cell?_of_block (a := ⟨b, o, none⟩) (h.block b hb hg)
/-- What lies below g is as it was. -/
theorem Near.below {g B A : Nat} {a b c : World} (h : Below A a b) (k : Near g B b c) (hA : A ≤ g) (hB : A ≤ B) : Below A a c :=
  h.trans ⟨k.os, k.tape, k.output, k.size, fun i hi => k.block i (by omega) (by omega)⟩
end Go.Proofs.YtcbbaognomddkaaGreatDoor

/- Package subst: what becomes of one variable: the four closures; how many binders a term lays above its Subs; may a variable bear a number? -/
namespace Go.Proofs.YtcbbaognomddkaaGreatDoor
open Go.RowKit
set_option linter.unusedVariables false
set_option maxRecDepth 100000

end Go.Proofs.YtcbbaognomddkaaGreatDoor

/- What should become of each variable: of a list put in, one put in at a place, a named one put in, a named one bound; what the calls answer, plainly. No walk. -/
namespace Go.Proofs.YtcbbaognomddkaaGreatDoor
open Go.RowKit
set_option linter.unusedVariables false

end Go.Proofs.YtcbbaognomddkaaGreatDoor

/- What follows of putting terms in, plainly: of what was lifted, in either order, and back. No walk. -/
namespace Go.Proofs.YtcbbaognomddkaaGreatDoor
open Go.RowKit
set_option linter.unusedVariables false

end Go.Proofs.YtcbbaognomddkaaGreatDoor

/- What an answer without an error says. No walk. -/
namespace Go.Proofs.YtcbbaognomddkaaGreatDoor
open Go.RowKit
set_option linter.unusedVariables false

end Go.Proofs.YtcbbaognomddkaaGreatDoor

/- Telescopes, plainly: types laid around a term, taken off it; a type of functions with its arguments; what each argument's type must be. No walk. -/
namespace Go.Proofs.YtcbbaognomddkaaGreatDoor
open Go.RowKit
set_option linter.unusedVariables false

/-- How many outermost types of functions there are. -/
def pisN : TM → Nat
  | .node k _ l => if k = 3 then pisL l + 1 else 0
where pisL : List TM → Nat
  | [_, b] => pisN b
  | _ => 0
theorem pisN_not {t : TM} (h : t.k ≠ 3) : pisN t = 0 := by
  obtain ⟨k, n, l⟩ := t
  rw [pisN, if_neg (show ¬ k = 3 from h)]
theorem pisN_pi (n : Int) (a b : TM) : pisN (.node 3 n [a, b]) = pisN b + 1 := by rw [pisN, if_pos rfl, pisN.pisL]
/-- So many outermost types, and what stands beneath; nothing, where there are fewer. -/
def takeT : Nat → TM → Option (List TM × TM)
  | 0, t => some ([], t)
  | n + 1, t => if t.k = 3 then (takeT n (t.l.getD 1 (.node 0 0 []))).map (fun p => (t.l.getD 0 (.node 0 0 []) :: p.1, p.2)) else none
theorem takeT_not {n : Nat} {t : TM} (h : t.k ≠ 3) : takeT (n + 1) t = none := by
  rw [takeT, if_neg h]
theorem takeT_pi (n : Nat) (m : Int) (a b : TM) : takeT (n + 1) (.node 3 m [a, b]) = (takeT n b).map (fun p => (a :: p.1, p.2)) := by
  rw [takeT]; exact if_pos rfl
def splitX (t : TM) (n : Int) : List TM × TM × Int :=
  if shapedB t && decide (0 ≤ n) then (if 24 < n then ([], .node 0 0 [], 2) else match takeT n.toNat t with | some p => (p.1, p.2, 0) | none => ([], .node 0 0 [], 6)) else ([], .node 0 0 [], 5)
theorem pi_parts {t : TM} (h : tgoodB t = true) (hk : t.k = 3) : ∃ n a b, t = .node 3 n [a, b] ∧ tgoodB a = true ∧ tgoodB b = true := by
  obtain ⟨k, n, l⟩ := t
  obtain rfl : k = 3 := hk
  obtain ⟨g1, g2, g3, g4, g5, g6, gp⟩ := good_parts h
  match l, g3, gp with
  | [a, b], _, gp => exact ⟨n, a, b, rfl, gp a List.mem_cons_self, gp b (List.mem_cons_of_mem _ List.mem_cons_self)⟩
theorem pi_shaped {n : Int} {a b : TM} (h : shapedB (.node 3 n [a, b]) = true) : shapedB a = true ∧ shapedB b = true :=
  ⟨shaped_part List.mem_cons_self h, shaped_part (List.mem_cons_of_mem _ List.mem_cons_self) h⟩
theorem pisN_depth : ∀ t : TM, pisN t ≤ t.depth := by
  intro t
  induction t using TM.ind with
  | h k n l ih =>
    by_cases hk : k = 3
    · subst hk
      rw [pisN, if_pos rfl, tdepth_node]
      unfold pisN.pisL
      split
      · rename_i a b
        have := ih b (by simp)
        rw [depthM_cons, depthM_cons, depthM_nil]
        omega
      · omega
    · rw [pisN_not (t := .node k n l) hk]; omega
/-- Variables of a telescope: of so many, from the last to the first. -/
def varsT (n : Nat) : List TM := (List.range n).map fun (i : Nat) => TM.node 1 ((n - 1 - i : Nat) : Int) []
theorem varsT_len (n : Nat) : (varsT n).length = n := by unfold varsT; simp
/- A closed term: nothing becomes of it. -/
end Go.Proofs.YtcbbaognomddkaaGreatDoor
