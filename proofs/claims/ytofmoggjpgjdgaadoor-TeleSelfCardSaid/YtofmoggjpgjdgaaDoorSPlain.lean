/- A term's head and arguments, plainly; a term applied to others; term.applied; a term in memory is one alone. -/
import Derived.Test.YtofmoggjpgjdgaaDoorLTerms
import Derived.Test.YtofmoggjpgjdgaaDoorTBox
import Derived.Test.YtofmoggjpgjdgaaDoorM2
namespace Go.Proofs.YtofmoggjpgjdgaaDoor
open Go.RowKit
set_option linter.unusedVariables false
set_option maxRecDepth 100000

def headT : TM → TM
  | .node k n l => if k = 5 then headF (.node k n l) l else .node k n l
where headF (d : TM) : List TM → TM
  | [] => d
  | t :: _ => headT t
def argsT : TM → List TM
  | .node k n l => if k = 5 then argsF l else []
where argsF : List TM → List TM
  | [] => []
  | [_] => []
  | t :: a :: _ => argsT t ++ [a]
theorem headT_app (n : Int) (f a : TM) : headT (.node 5 n [f, a]) = headT f := by rw [headT, if_pos rfl, headT.headF]
theorem headT_not {k : Int} (n : Int) (l : List TM) (h : k ≠ 5) : headT (.node k n l) = .node k n l := by rw [headT, if_neg h]
theorem argsT_app (n : Int) (f a : TM) : argsT (.node 5 n [f, a]) = argsT f ++ [a] := by rw [argsT, if_pos rfl, argsT.argsF]
theorem argsT_not {k : Int} (n : Int) (l : List TM) (h : k ≠ 5) : argsT (.node k n l) = [] := by rw [argsT, if_neg h]
def applyT (t : TM) (xs : List TM) : TM := xs.foldl (fun f a => .node 5 0 [f, a]) t
theorem applyT_take {xs : List TM} {i : Nat} (t : TM) (h : i < xs.length) : applyT t (xs.take (i + 1)) = .node 5 0 [applyT t (xs.take i), xs[i]] := by
  unfold applyT
  rw [take_snocM h, List.foldl_append]; rfl
theorem applyT_snoc (t a : TM) (xs : List TM) : applyT t (xs ++ [a]) = .node 5 0 [applyT t xs, a] := by
  unfold applyT
  rw [List.foldl_append]; rfl
/-- A good application has two Subs, and no number. -/
theorem app_parts {n : Int} {l : List TM} (h : tgoodB (.node 5 n l) = true) : ∃ f a, l = [f, a] ∧ n = 0 ∧ tgoodB f = true ∧ tgoodB a = true := by
  rw [tgoodB_node, Bool.and_eq_true] at h
  obtain ⟨_, _, h3, h4, h5, _⟩ := ttop_facts h.1
  unfold manyM at h3
  unfold mostM at h5
  simp at h3 h5
  obtain ⟨f, a, rfl⟩ : ∃ f a, l = [f, a] := by
    match l, h3 with
    | [f, a], _ => exact ⟨f, a, rfl⟩
  have hh := h.2
  rw [tgoodL_all] at hh
  simp at hh
  exact ⟨f, a, rfl, by omega, hh.1, hh.2⟩
theorem spine_back : ∀ (t : TM), tgoodB t = true → applyT (headT t) (argsT t) = t := by
  intro t
  induction t using TM.ind with
  | h k n l ih =>
    intro h
    by_cases hk : k = 5
    · subst hk
      obtain ⟨f, a, rfl, rfl, hf, ha⟩ := app_parts h
      rw [headT_app, argsT_app, applyT_snoc, ih f List.mem_cons_self hf]
    · rw [headT_not n l hk, argsT_not n l hk]; rfl
theorem args_depth : ∀ (t : TM), tgoodB t = true → (argsT t).length ≤ t.depth := by
  intro t
  induction t using TM.ind with
  | h k n l ih =>
    intro h
    by_cases hk : k = 5
    · subst hk
      obtain ⟨f, a, rfl, rfl, hf, ha⟩ := app_parts h
      have := ih f List.mem_cons_self hf
      rw [argsT_app, tdepth_node, depthM_cons, List.length_append]
      simp
      omega
    · rw [argsT_not n l hk]; simp

/-- What lies in memory at a place is one term. -/
theorem TermIn.unique {w : World} {P : Nat → Prop} {t : TM} {A : Option Addr} {cap : Nat} (h : TermIn w P t A cap) : ∀ {P' : Nat → Prop} {t' : TM} {cap' : Nat}, TermIn w P' t' A cap' → t'.k = t.k → t'.n = t.n → t'.l.length = t.l.length → t' = t := by
  induction h with
  | mk k n l A cap F C hl hm hc hn ih =>
    intro P' t' cap' h' e1 e2 e3
    cases h' with
    | mk k' n' l' _ _ F' C' hl' hm' hc' hn' =>
      simp only [TM.k, TM.n, TM.l] at e1 e2 e3
      subst e1 e2
      congr 1
      refine List.ext_getElem e3 fun i h1 h2 => ?_
      obtain ⟨b, o, hA, _, hx⟩ := hc (by omega)
      obtain ⟨b', o', hA', _, hx'⟩ := hc' (by omega)
      rw [hA] at hA'
      obtain ⟨rfl, rfl⟩ : b = b' ∧ o = o' := by
        injection hA' with hA'
        injection hA' with q1 q2
        exact ⟨q1, q2⟩
      obtain ⟨x0, x1, x2⟩ := hx i h2
      obtain ⟨y0, y1, y2⟩ := hx' i h1
      rw [x0] at y0
      rw [x1] at y1
      rw [x2] at y2
      have hk : l[i].k = l'[i].k := by injection y0 with q; injection q with q
      have hq : l[i].n = l'[i].n := by injection y1 with q; injection q with q
      have h3 : F i = F' i ∧ l[i].l.length = l'[i].l.length := by injection y2 with q; injection q with q1 q2 q3; exact ⟨q1, q2⟩
      have hh := hn' i h1
      rw [← h3.1] at hh
      exact ih i h2 hh hk.symm hq.symm h3.2.symm

end Go.Proofs.YtofmoggjpgjdgaaDoor
