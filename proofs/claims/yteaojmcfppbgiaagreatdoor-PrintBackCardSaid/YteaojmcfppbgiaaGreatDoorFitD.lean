/- An error stays; so, where none is told, each whole is small enough; declarations that are the same but for offsets are the same. No program. -/
import Derived.Test.YteaojmcfppbgiaaGreatDoorC3
import Derived.Test.YteaojmcfppbgiaaGreatDoorDSame
namespace Go.Proofs.YteaojmcfppbgiaaGreatDoor
open Go.RowKit
set_option linter.unusedVariables false
set_option maxRecDepth 100000

/-- An error stays. -/
def Keep (s s' : St) : Prop := s.e ≠ 0 → s'.e ≠ 0
theorem Keep.refl (s : St) : Keep s s := fun h => h
theorem Keep.trans {a b c : St} (h : Keep a b) (k : Keep b c) : Keep a c := fun x => k (h x)
theorem Keep.zero {s s' : St} (h : Keep s s') (h0 : s'.e = 0) : s.e = 0 := Classical.byContradiction fun x => h x h0
theorem keep_step (L : List Tk) (s : St) : Keep s (stepS L s) := by
  intro h
  unfold stepS
  split
  · exact h
  · exact h
theorem keep_fail (L : List Tk) (s : St) (a e : Int) : Keep s (failS L s a e) := by
  intro h
  unfold failS
  show (if s.e = 0 then e else s.e) ≠ 0
  rw [if_neg h]; exact h
theorem fail_ne (L : List Tk) (s : St) (a : Int) {e : Int} (he : e ≠ 0) : (failS L s a e).e ≠ 0 := by
  unfold failS
  show (if s.e = 0 then e else s.e) ≠ 0
  split
  · exact he
  · assumption
theorem keep_take (L : List Tk) (s : St) (u : ByteArray) : Keep s (takeS L u s) := by
  unfold takeS
  split
  · exact keep_step L s
  · exact (keep_fail L s _ _).trans (keep_step L _)
theorem keep_var (L : List Tk) (s : St) : Keep s (varS L s) := by
  unfold varS
  split
  · exact Keep.refl s
  · exact keep_fail L s _ _
theorem keep_name (L : List Tk) (s : St) : Keep s (nameS L s) := by
  unfold nameS
  split
  · exact Keep.refl s
  · exact keep_fail L s _ _
theorem keep_level {L : List Tk} {s s' : St} {v : Nat} (h : LevelR L s v s') : Keep s s' := by
  obtain ⟨M, B, _, ⟨_, _, _, rfl⟩ | ⟨_, _, rfl⟩⟩ := h
  · exact keep_step L s
  · exact Keep.refl s
theorem keep_re {L : List Tk} {j : Job} {s s' : St} {l : List RT} (h : RE L j s l s') : Keep s s' := by
  induction h with
  | lam _ _ ih => exact (keep_step L _).trans ih
  | pi _ _ _ ih => exact ih
  | plain _ _ _ _ ih => exact ih
  | arr _ _ _ _ _ ih1 ih2 => exact ih1.trans ((keep_step L _).trans ih2)
  | @bound kd a s s1 s2 s3 s4 s5 s6 s7 z t u h1 h2 h3 h4 _ h5 h6 _ ih1 ih2 =>
    subst h1; subst h3; subst h4; subst h5; subst h6
    exact (keep_take L _ _).trans ((keep_var L _).trans ((keep_step L _).trans ((keep_take L _ _).trans (ih1.trans ((keep_take L _ _).trans ((keep_take L _ _).trans ih2))))))
  | app _ _ ih1 ih2 => exact ih1.trans ih2
  | atomsStop _ => exact Keep.refl _
  | atomsFull _ _ _ => exact keep_fail L _ _ _
  | atomsNext _ _ _ _ _ ih1 ih2 => exact ih1.trans ih2
  | atomName _ => exact keep_step L _
  | atomSet _ _ h => exact (keep_step L _).trans (keep_level h)
  | atomPar _ _ _ _ ih => exact (keep_step L _).trans (ih.trans (keep_take L _ _))
  | atomBad _ _ _ => exact keep_fail L _ _ _
  | patName _ => exact keep_step L _
  | patAny _ _ => exact keep_step L _
  | patDot _ _ _ _ ih => exact (keep_step L _).trans ih
  | patPar _ _ _ _ _ ih => exact ih
  | patBad _ _ _ _ => exact keep_fail L _ _ _
  | encName _ _ ih => exact (keep_step L _).trans (ih.trans (keep_take L _ _))
  | encNone _ _ => exact (keep_step L _).trans (keep_take L _ _)
  | encPat _ _ _ ih => exact (keep_step L _).trans (ih.trans (keep_take L _ _))
  | applNil _ _ ih => exact (keep_step L _).trans ih
  | applCons _ _ ih => exact (keep_step L _).trans ih
  | patsStop _ => exact Keep.refl _
  | patsFull _ _ _ => exact keep_fail L _ _ _
  | patsNext _ _ _ _ _ ih1 ih2 => exact ih1.trans ih2
theorem whole_zero {L : List Tk} {s s1 : St} {t : RT} (h : (wholeS L s t s1).e = 0) : s1.e = 0 ∧ fitB t = true := by
  unfold wholeS at h
  split at h
  · exact absurd h (fail_ne L s1 _ (by decide))
  · rename_i hd
    exact ⟨h, by unfold fitB; exact decide_eq_true (by omega)⟩
theorem keep_whole {L : List Tk} {s s1 : St} {t : RT} : Keep s1 (wholeS L s t s1) := by
  unfold wholeS
  split
  · exact keep_fail L s1 _ _
  · exact Keep.refl _
theorem keep_expr {L : List Tk} {s s' : St} {t : RT} (h : ExprR L s t s') : Keep s s' := by
  obtain ⟨s1, hr, rfl⟩ := h
  exact (keep_re hr).trans keep_whole
theorem expr_fit {L : List Tk} {s s' : St} {t : RT} (h : ExprR L s t s') (h0 : s'.e = 0) : fitB t = true := by
  obtain ⟨s1, hr, rfl⟩ := h
  exact (whole_zero h0).2
theorem pats_fit {L : List Tk} {n : Nat} {s s' : St} {l : List RT} (h : PatsR L n s l s') : Keep s s' ∧ (s'.e = 0 → ∀ t ∈ l, fitB t = true) := by
  induction h with
  | stop _ => exact ⟨Keep.refl _, fun _ t ht => absurd ht (by simp)⟩
  | full _ _ _ => exact ⟨keep_fail _ _ _ _, fun _ t ht => absurd ht (by simp)⟩
  | next _ _ _ hr _ ih =>
    refine ⟨(keep_re hr).trans (keep_whole.trans ih.1), fun h0 t ht => ?_⟩
    rcases List.mem_cons.1 ht with rfl | ht
    · exact (whole_zero (ih.1.zero h0)).2
    · exact ih.2 h0 t ht
theorem chain_fit {α : Type} {L : List Tk} {one : St → α → St → Prop} {F : α → Prop} {more : Nat → Bool} {most n : Nat} {s s' : St} {l : List α} (hone : ∀ s x s', one s x s' → Keep s s' ∧ (s'.e = 0 → F x)) (h : ChainX L one more most n s l s') : Keep s s' ∧ (s'.e = 0 → ∀ x ∈ l, F x) := by
  induction h with
  | stop _ => exact ⟨Keep.refl _, fun _ t ht => absurd ht (by simp)⟩
  | full _ _ _ => exact ⟨keep_fail _ _ _ _, fun _ t ht => absurd ht (by simp)⟩
  | next _ _ _ ho _ ih =>
    obtain ⟨k1, f1⟩ := hone _ _ _ ho
    refine ⟨k1.trans ih.1, fun h0 t ht => ?_⟩
    rcases List.mem_cons.1 ht with rfl | ht
    · exact f1 (ih.1.zero h0)
    · exact ih.2 h0 t ht
def FitB (x : BT) : Prop := fitB x.t = true
def FitR (x : CT) : Prop := (∀ t ∈ x.ps, fitB t = true) ∧ fitB x.t = true
def FitD (x : DT) : Prop := (∀ b ∈ x.te, FitB b) ∧ fitB x.t = true ∧ (∀ b ∈ x.co, FitB b) ∧ ∀ r ∈ x.ro, FitR r
theorem typed_fit {L : List Tk} (s : St) (x : BT) (s' : St) (h : TypedR L s x s') : Keep s s' ∧ (s'.e = 0 → FitB x) := by
  obtain ⟨t, rfl, he⟩ := h
  exact ⟨(keep_name L s).trans ((keep_step L _).trans ((keep_take L _ _).trans (keep_expr he))), fun h0 => expr_fit he h0⟩
theorem bindR_fit {L : List Tk} (s : St) (x : BT) (s' : St) (h : BindRl L s x s') : Keep s s' ∧ (s'.e = 0 → FitB x) := by
  obtain ⟨s2, ht, rfl⟩ := h
  obtain ⟨k, f⟩ := typed_fit _ _ _ ht
  exact ⟨(keep_take L _ _).trans (k.trans (keep_take L _ _)), fun h0 => f ((keep_take L s2 _).zero h0)⟩
theorem conR_fit {L : List Tk} (s : St) (x : BT) (s' : St) (h : ConRl L s x s') : Keep s s' ∧ (s'.e = 0 → FitB x) := by
  obtain ⟨s2, ht, rfl⟩ := h
  obtain ⟨k, f⟩ := typed_fit _ _ _ ht
  exact ⟨k.trans (keep_take L _ _), fun h0 => f ((keep_take L s2 _).zero h0)⟩
theorem zero_fit : fitB zeroT = true := fitB_true.2 ⟨by unfold zeroT; rw [size_node, sizeL_nil]; omega, by unfold zeroT; rw [depth_node, depthL_nil]; omega⟩
theorem rowR_fit {L : List Tk} (s : St) (x : CT) (s' : St) (h : RowRl L s x s') : Keep s s' ∧ (s'.e = 0 → FitR x) := by
  obtain ⟨l, s1, hp, ⟨hm, t, s3, he, rfl, rfl⟩ | ⟨hm, rfl, rfl⟩⟩ := h
  · obtain ⟨k, f⟩ := pats_fit hp
    refine ⟨k.trans ((keep_step L _).trans ((keep_expr he).trans (keep_take L _ _))), fun h0 => ?_⟩
    have h3 := (keep_take L s3 _).zero h0
    exact ⟨f ((keep_step L s1).zero ((keep_expr he).zero h3)), expr_fit he h3⟩
  · obtain ⟨k, f⟩ := pats_fit hp
    exact ⟨k.trans (keep_take L _ _), fun h0 => ⟨f ((keep_take L s1 _).zero h0), zero_fit⟩⟩
theorem keep_kind {L : List Tk} {s s' : St} {v : Int} (h : KindR L s v s') : Keep s s' := by
  rcases h with ⟨_, _, rfl⟩ | ⟨_, _, _, rfl⟩ | ⟨_, _, _, _, rfl⟩ | ⟨_, _, _, _, rfl⟩
  · exact Keep.refl _
  · exact Keep.refl _
  · exact Keep.refl _
  · exact keep_fail L s _ _
theorem declR_fit {L : List Tk} (s : St) (x : DT) (s' : St) (h : DeclRl L s x s') : Keep s s' ∧ (s'.e = 0 → FitD x) := by
  obtain ⟨v, s1, hk, hc⟩ := h
  have k1 := (keep_kind hk).trans ((keep_step L s1).trans ((keep_name L (stepS L s1)).trans (keep_step L _)))
  rcases hc with ⟨hv, te, s4, t, s6, co, s8, ht, he, hl, rfl, rfl⟩ | ⟨hv, t, s6, ro, s8, he, hl, rfl, rfl⟩
  · obtain ⟨k2, f2⟩ := chain_fit bindR_fit ht
    obtain ⟨k3, f3⟩ := chain_fit conR_fit hl
    refine ⟨k1.trans (k2.trans ((keep_take L _ _).trans ((keep_expr he).trans ((keep_take L _ _).trans (k3.trans (keep_take L _ _)))))), fun h0 => ?_⟩
    have h8 := (keep_take L s8 _).zero h0
    have h6 := (keep_take L s6 _).zero (k3.zero h8)
    have h4 := (keep_take L s4 _).zero ((keep_expr he).zero h6)
    exact ⟨f2 h4, expr_fit he h6, f3 h8, fun r hr => absurd hr (by simp)⟩
  · obtain ⟨k3, f3⟩ := chain_fit rowR_fit hl
    refine ⟨k1.trans ((keep_take L _ _).trans ((keep_expr he).trans ((keep_take L _ _).trans (k3.trans (keep_take L _ _))))), fun h0 => ?_⟩
    have h8 := (keep_take L s8 _).zero h0
    have h6 := (keep_take L s6 _).zero (k3.zero h8)
    exact ⟨fun r hr => absurd hr (by simp), expr_fit he h6, fun r hr => absurd hr (by simp), f3 h8⟩
theorem fileR_fit {L : List Tk} {s s' : St} {l : List DT} (h : FileR L s l s') (h0 : s'.e = 0) : ∀ x ∈ l, FitD x := (chain_fit declR_fit h).2 h0
/-! ### the same -/
theorem eqv_same {t u : RT} (h : Eqv t u) : same t u = true := by
  induction h with
  | @node k a a' s n l l' hl _ ih =>
    rw [same_node]
    have hp : pairsB same l l' = true := by
      unfold pairsB
      rw [decide_eq_true hl, Bool.true_and, allB_true]
      intro i hi
      rw [pairAt_of _ hi (by omega)]
      exact ih i hi (by omega)
    simp [hp]
theorem eqv_sameB {t u : RT} (h : Eqv t u) (hf : fitB t = true) : sameB t u = true := by
  have hu : fitB u = true := by unfold fitB at *; rw [← deep_eqv h]; exact hf
  unfold sameB
  rw [hf, hu, eqv_same h]; rfl
theorem pairs_all {α : Type} {E : α → α → Prop} {f : α → α → Bool} : ∀ {l l' : List α}, All2 E l l' → (∀ x y, x ∈ l → E x y → f x y = true) → pairsX f l l' = true := by
  intro l l' h
  induction h with
  | nil => intro _; rfl
  | @cons x y l l' he hl ih =>
    intro hf
    have h1 := ih (fun a b ha hb => hf a b (List.mem_cons_of_mem _ ha) hb)
    have hlen := hl.length
    rw [pairsX_eq (by simp [hlen]), allB_true]
    rw [pairsX_eq hlen, allB_true] at h1
    intro i hi
    match i with
    | 0 => exact hf x y (by simp) he
    | i + 1 => exact h1 i (by simpa using hi)
theorem eqv_sameD {x y : DT} (h : EqvD x y) (hf : FitD x) : sameDc x y = true := by
  obtain ⟨h1, h2, h3, h4, h5, h6⟩ := h
  obtain ⟨f1, f2, f3, f4⟩ := hf
  have hb : ∀ l l', All2 EqvB l l' → (∀ b ∈ l, FitB b) → pairsX sameBd l l' = true := fun l l' ha hl => pairs_all ha (fun x y hx he => by
    unfold sameBd
    rw [decide_eq_true he.1, eqv_sameB he.2 (hl x hx)]; rfl)
  have hr : pairsX sameRw x.ro y.ro = true := pairs_all h6 (fun a b ha he => by
    unfold sameRw
    obtain ⟨e1, e2, e3⟩ := he
    have hp : pairsB sameB a.ps b.ps = true := by
      unfold pairsB
      rw [decide_eq_true e2.1, Bool.true_and, allB_true]
      intro i hi
      rw [pairAt_of _ hi (by have := e2.1; omega)]
      exact eqv_sameB (e2.2 i hi (by have := e2.1; omega)) ((f4 a ha).1 _ (List.getElem_mem _))
    rw [e1, hp, eqv_sameB e3 (f4 a ha).2]; simp)
  unfold sameDc
  rw [decide_eq_true h1, decide_eq_true h2, hb _ _ h3 f1, eqv_sameB h4 f2, hb _ _ h5 f3, hr]
  rfl

end Go.Proofs.YteaojmcfppbgiaaGreatDoor
