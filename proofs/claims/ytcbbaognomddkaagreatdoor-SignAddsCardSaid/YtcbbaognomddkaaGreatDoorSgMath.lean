/- The program's and the document's words for a formed signature are the same; the beginning of a formed one is formed. No walk. -/
import Derived.Test.YtcbbaognomddkaaGreatDoorS7
namespace Go.Proofs.YtcbbaognomddkaaGreatDoor
open Go.RowKit
set_option linter.unusedVariables false
set_option maxRecDepth 100000

/-- Is an entry what it must be, as the document's text asks? -/
noncomputable def entD (l : List ET) (i : Nat) (x : ET) : Bool := nmB x.s && (closedE x.t i &&
  (if x.k = 1 then famR l i x else if x.k = 3 then defR i x else if x.k = 2 then ownR l i x && conR l x else if x.k = 4 then ownR l i x && fldR l x else false))
noncomputable def entE (l : List ET) (i : Nat) : Bool := match l[i]? with | some x => entD l i x | none => false
noncomputable def formedD (l : List ET) : Bool := decide (l.length ≤ 256) && (distB (namesE l) && allB (entE l) l.length)
theorem entE_at {l : List ET} {i : Nat} (h : i < l.length) : entE l i = entD l i l[i] := by unfold entE; rw [List.getElem?_eq_getElem h]

theorem isB_of_take {l : List ET} {i : Nat} {n k : Int} (h : isB (l.take i) n k = true) : isB l n k = true := by
  obtain ⟨j, rfl, _, hj, hk⟩ := isB_take h
  rw [isB_nat hj, hk]; exact decide_eq_true rfl
theorem isB_to_take {l : List ET} {i : Nat} {n k : Int} (h : isB l n k = true) (hn : n < (i : Int)) : isB (l.take i) n k = true := by
  obtain ⟨j, rfl, hj, hk⟩ := isB_true h
  rw [isB_nat (by rw [List.length_take]; omega), List.getElem_take, hk]; exact decide_eq_true rfl
theorem beh_place {l : List ET} {i first : Int} {places : List Int} {k : Int} (h : behB l i first places k = true) {q : Nat} (hq : q < places.length) :
    places[q] = first + (q : Int) ∧ ∃ m : Nat, places[q] = (m : Int) ∧ ∃ hm : m < l.length, l[m].k = k ∧ l[m].f = i ∧ l[m].p = (q : Int) := by
  unfold behB at h
  have h1 := allB_true.1 h q hq
  unfold behQ at h1
  rw [List.getElem?_eq_getElem hq] at h1
  simp only [placeOk, Bool.and_eq_true, decide_eq_true_eq] at h1
  obtain ⟨e1, e2, e3⟩ := h1
  obtain ⟨m, e4, hm, hk⟩ := isB_true e2
  rw [e4, Int.toNat_natCast, List.getElem?_eq_getElem hm] at e3
  simp only [Bool.and_eq_true, decide_eq_true_eq] at e3
  exact ⟨e1, m, e4, hm, hk, e3.1, e3.2⟩

theorem idle_split {x : ET} : idleB x = true → (x.k = 1 → x.f = 0 ∧ x.p = 0 ∧ zeroT x.b = true) ∧ (x.k = 2 ∨ x.k = 4 → x.i = 0 ∧ x.v = 0 ∧ x.c.length = 0 ∧ x.d.length = 0 ∧ zeroT x.b = true) ∧
    (x.k = 3 → x.f = 0 ∧ x.p = 0 ∧ x.a = 0 ∧ x.i = 0 ∧ x.v = 0 ∧ x.c.length = 0 ∧ x.d.length = 0) := by
  intro h
  unfold idleB at h
  refine ⟨fun hk => ?_, fun hk => ?_, fun hk => ?_⟩
  · rw [if_pos hk] at h
    simpa only [Bool.and_eq_true, decide_eq_true_eq] using h
  · rw [if_neg (by omega), if_pos hk] at h
    simpa only [Bool.and_eq_true, decide_eq_true_eq] using h
  · rw [if_neg (by omega), if_neg (by omega), if_pos hk] at h
    simpa only [Bool.and_eq_true, decide_eq_true_eq] using h

/-- What a family says of one of its own. -/
theorem fam_con {l : List ET} {j : Nat} {y : ET} (h : famB l j y = true) : behB l j (j + 1) y.c 2 = true ∧ (y.d.length = 0 ∨ (y.i = 0 ∧ behB l j (j + 2) y.d 4 = true)) := by
  unfold famB at h
  simp only [Bool.and_eq_true, Bool.or_eq_true, decide_eq_true_eq] at h
  obtain ⟨_, _, _, _, _, hb, hd⟩ := h
  refine ⟨hb, ?_⟩
  rcases hd with hd | hd
  · exact .inl hd
  · unfold recB at hd
    simp only [Bool.and_eq_true, decide_eq_true_eq] at hd
    exact .inr ⟨hd.1, hd.2.2.2⟩
theorem contains_at {c : List Int} {n : Int} (h : c.contains n = true) : ∃ q, ∃ hq : q < c.length, c[q] = n := by
  rw [List.contains_iff_mem] at h
  obtain ⟨q, hq, e⟩ := List.getElem_of_mem h
  exact ⟨q, hq, e⟩
theorem own_any {x : ET} {i : Nat} {c : List Int} : (!(allB (fun q => !atB x i c q) c.length)) = true ↔ ∃ q, ∃ hq : q < c.length, c[q] = (i : Int) ∧ x.p = (q : Int) := by
  rw [Bool.not_eq_true']
  constructor
  · intro h
    apply Classical.byContradiction
    intro hn
    have : allB (fun q => !atB x i c q) c.length = true := allB_true.2 fun q hq => by
      cases e : atB x i c q with
      | false => rfl
      | true =>
        unfold atB at e
        rw [List.getElem?_eq_getElem hq] at e
        simp only [Bool.and_eq_true, decide_eq_true_eq] at e
        exact absurd ⟨q, hq, e⟩ hn
    rw [this] at h; cases h
  · rintro ⟨q, hq, h1, h2⟩
    apply allB_noM hq
    unfold atB
    rw [List.getElem?_eq_getElem hq]
    dsimp only
    rw [decide_eq_true h1, decide_eq_true h2]
    rfl

theorem ent_pd {l : List ET} (h : allB (entQ l) l.length = true) : allB (entE l) l.length = true := by
  refine allB_true.2 fun i hi => ?_
  have hall := fun j (hj : j < l.length) => (entQ_at hj).symm.trans (allB_true.1 h j hj)
  have h1 := hall i hi
  rw [entE_at hi]
  obtain ⟨x, hx⟩ : ∃ x, l[i] = x := ⟨_, rfl⟩
  rw [hx] at h1 ⊢
  unfold entP at h1
  simp only [Bool.and_eq_true] at h1
  obtain ⟨hn, hc, hid, hk⟩ := h1
  obtain ⟨i1, i2, i3⟩ := idle_split hid
  unfold entD
  rw [hn, hc, Bool.true_and, Bool.true_and]
  by_cases k1 : x.k = 1
  · rw [if_pos k1] at hk ⊢
    obtain ⟨z1, z2, z3⟩ := i1 k1
    unfold famB at hk
    simp only [Bool.and_eq_true, Bool.or_eq_true, decide_eq_true_eq] at hk
    obtain ⟨a1, a2, a3, a4, a5, a6, a7⟩ := hk
    unfold famR
    simp only [Bool.and_eq_true, Bool.or_eq_true, decide_eq_true_eq]
    refine ⟨a1, a2, a3, z1, z2, z3, a5, a4, a6, ?_⟩
    rcases a7 with a7 | a7
    · exact .inl a7
    · unfold recB at a7
      simp only [Bool.and_eq_true, decide_eq_true_eq] at a7
      unfold recR
      simp only [Bool.and_eq_true, decide_eq_true_eq]
      exact .inr ⟨a7.1, a7.2.1, a7.2.2.2, a7.2.2.1.1⟩
  rw [if_neg k1] at hk ⊢
  by_cases k2 : x.k = 2
  · rw [if_pos k2] at hk
    rw [if_neg (show ¬ x.k = 3 by omega), if_pos k2]
    obtain ⟨z1, z2, z3, z4, z5⟩ := i2 (.inl k2)
    unfold conB at hk
    rw [Bool.and_eq_true] at hk
    obtain ⟨hb, hm⟩ := hk
    obtain ⟨j, hf, hji, hj, hjk⟩ := isB_take hb
    rw [famAt_nat hf hj] at hm
    simp only [Bool.and_eq_true, decide_eq_true_eq] at hm
    obtain ⟨m1, m2, m3, m4, m5⟩ := hm
    have hfam := hall j hj
    unfold entP at hfam
    rw [if_pos hjk] at hfam
    simp only [Bool.and_eq_true] at hfam
    obtain ⟨hbe, _⟩ := fam_con hfam.2.2.2
    obtain ⟨q, hq, e⟩ := contains_at m1
    obtain ⟨_, m, e4, hml, _, _, hp⟩ := beh_place hbe hq
    have hmi : m = i := by omega
    subst hmi
    rw [hx] at hp
    unfold ownR conR
    rw [isB_of_take hb, famAt_nat hf hj, z5]
    have hlo : listOf x l[j] = l[j].c := by unfold listOf; rw [if_neg (by omega)]
    have hown := own_any.2 ⟨q, hq, e, hp⟩
    simp only [hlo, hown, Bool.true_and, Bool.and_true, Bool.and_eq_true, decide_eq_true_eq]
    exact ⟨⟨by omega, z1, z2, z3, z4, m2⟩, m3, m4, m5⟩
  rw [if_neg k2] at hk
  by_cases k4 : x.k = 4
  · rw [if_pos k4] at hk
    rw [if_neg (show ¬ x.k = 3 by omega), if_neg k2, if_pos k4]
    obtain ⟨z1, z2, z3, z4, z5⟩ := i2 (.inr k4)
    unfold fldB at hk
    rw [Bool.and_eq_true] at hk
    obtain ⟨hb, hm⟩ := hk
    obtain ⟨j, hf, hji, hj, hjk⟩ := isB_take hb
    rw [famAt_nat hf hj] at hm
    simp only [Bool.and_eq_true, decide_eq_true_eq] at hm
    obtain ⟨m1, m2, m3, m4, m5⟩ := hm
    have hfam := hall j hj
    unfold entP at hfam
    rw [if_pos hjk] at hfam
    simp only [Bool.and_eq_true] at hfam
    obtain ⟨q, hq, e⟩ := contains_at m1
    obtain ⟨_, hbd⟩ := fam_con hfam.2.2.2
    rcases hbd with hbd | ⟨hyi, hbd⟩
    · omega
    obtain ⟨_, m, e4, hml, _, _, hp⟩ := beh_place hbd hq
    have hmi : m = i := by omega
    subst hmi
    rw [hx] at hp
    unfold ownR fldR
    rw [isB_of_take hb, famAt_nat hf hj, z5]
    have hlo : listOf x l[j] = l[j].d := by unfold listOf; rw [if_pos k4]
    have hown := own_any.2 ⟨q, hq, e, hp⟩
    rw [hyi] at m5
    simp only [hlo, hown, Bool.true_and, Bool.and_true, Bool.and_eq_true, decide_eq_true_eq]
    exact ⟨⟨by omega, z1, z2, z3, z4, m2⟩, m3, m4, m5⟩
  rw [if_neg k4] at hk
  by_cases k3 : x.k = 3
  · rw [if_pos k3] at hk
    rw [if_pos k3]
    obtain ⟨z1, z2, z3, z4, z5, z6, z7⟩ := i3 k3
    unfold defR
    simp only [Bool.and_eq_true, decide_eq_true_eq]
    exact ⟨hk, z1, z2, z3, z4, z5, z6, z7⟩
  · rw [if_neg k3] at hk
    cases hk

theorem ent_dp {l : List ET} (h : allB (entE l) l.length = true) : allB (entQ l) l.length = true := by
  refine allB_true.2 fun i hi => ?_
  have hall := fun j (hj : j < l.length) => (entE_at hj).symm.trans (allB_true.1 h j hj)
  have h1 := hall i hi
  rw [entQ_at hi]
  obtain ⟨x, hx⟩ : ∃ x, l[i] = x := ⟨_, rfl⟩
  rw [hx] at h1 ⊢
  unfold entD at h1
  simp only [Bool.and_eq_true] at h1
  obtain ⟨hn, hc, hk⟩ := h1
  unfold entP
  rw [hn, hc, Bool.true_and, Bool.true_and]
  by_cases k1 : x.k = 1
  · rw [if_pos k1] at hk ⊢
    unfold famR at hk
    simp only [Bool.and_eq_true, Bool.or_eq_true, decide_eq_true_eq] at hk
    obtain ⟨a1, a2, a3, z1, z2, z3, a5, a4, a6, a7⟩ := hk
    unfold idleB famB
    rw [if_pos k1]
    simp only [Bool.and_eq_true, Bool.or_eq_true, decide_eq_true_eq]
    refine ⟨⟨z1, z2, z3⟩, a1, a2, a3, a4, a5, a6, ?_⟩
    rcases a7 with a7 | a7
    · exact .inl a7
    · unfold recR at a7
      simp only [Bool.and_eq_true, decide_eq_true_eq] at a7
      obtain ⟨r1, r2, r3, r4⟩ := a7
      unfold recB
      simp only [Bool.and_eq_true, decide_eq_true_eq]
      refine .inr ⟨r1, r2, ⟨r4, ?_⟩, r3⟩
      obtain ⟨hi2, hk2⟩ := beh_next (show behB l i ((i + 1 : Nat) : Int) x.c 2 = true from a6) r2
      have hnx := hall (i + 1) hi2
      unfold entD at hnx
      simp only [Bool.and_eq_true] at hnx
      have h3 := hnx.2.2
      rw [if_neg (by omega), if_neg (by omega), if_pos hk2, Bool.and_eq_true] at h3
      have h4 := h3.2
      unfold conR at h4
      rw [Bool.and_eq_true] at h4
      unfold fewB
      rw [List.getElem?_eq_getElem hi2]
      exact h4.1
  rw [if_neg k1] at hk ⊢
  by_cases k3 : x.k = 3
  · rw [if_pos k3] at hk
    rw [if_neg (show ¬ x.k = 2 by omega), if_neg (show ¬ x.k = 4 by omega), if_pos k3]
    unfold defR at hk
    simp only [Bool.and_eq_true, decide_eq_true_eq] at hk
    unfold idleB
    rw [if_neg k1, if_neg (by omega), if_pos k3]
    simp only [Bool.and_eq_true, decide_eq_true_eq]
    exact ⟨hk.2, hk.1⟩
  rw [if_neg k3] at hk
  by_cases k2 : x.k = 2
  · rw [if_pos k2, Bool.and_eq_true] at hk
    rw [if_pos k2]
    obtain ⟨ho, hcn⟩ := hk
    unfold ownR at ho
    simp only [Bool.and_eq_true, decide_eq_true_eq] at ho
    obtain ⟨hb, hlt, z5, z1, z2, z3, z4, hm⟩ := ho
    obtain ⟨j, hf, hj, hjk⟩ := isB_true hb
    rw [famAt_nat hf hj] at hm
    simp only [Bool.and_eq_true, decide_eq_true_eq] at hm
    obtain ⟨m2, hown⟩ := hm
    have hlo : listOf x l[j] = l[j].c := by unfold listOf; rw [if_neg (by omega)]
    rw [hlo] at hown
    obtain ⟨q, hq, e, hp⟩ := own_any.1 hown
    unfold conR at hcn
    rw [famAt_nat hf hj] at hcn
    simp only [Bool.and_eq_true, decide_eq_true_eq] at hcn
    have hct : l[j].c.contains (i : Int) = true := by rw [List.contains_iff_mem, ← e]; exact List.getElem_mem hq
    unfold idleB conB
    rw [if_neg k1, if_pos (.inl k2), isB_to_take hb hlt, famAt_nat hf hj]
    simp only [hct, Bool.true_and, Bool.and_eq_true, decide_eq_true_eq]
    exact ⟨⟨z1, z2, z3, z4, z5⟩, m2, hcn.1, hcn.2.1, hcn.2.2⟩
  rw [if_neg k2] at hk ⊢
  by_cases k4 : x.k = 4
  · rw [if_pos k4, Bool.and_eq_true] at hk
    rw [if_pos k4]
    obtain ⟨ho, hcn⟩ := hk
    unfold ownR at ho
    simp only [Bool.and_eq_true, decide_eq_true_eq] at ho
    obtain ⟨hb, hlt, z5, z1, z2, z3, z4, hm⟩ := ho
    obtain ⟨j, hf, hj, hjk⟩ := isB_true hb
    rw [famAt_nat hf hj] at hm
    simp only [Bool.and_eq_true, decide_eq_true_eq] at hm
    obtain ⟨m2, hown⟩ := hm
    have hlo : listOf x l[j] = l[j].d := by unfold listOf; rw [if_pos k4]
    rw [hlo] at hown
    obtain ⟨q, hq, e, hp⟩ := own_any.1 hown
    unfold fldR at hcn
    simp only [Bool.and_eq_true, decide_eq_true_eq] at hcn
    have hct : l[j].d.contains (i : Int) = true := by rw [List.contains_iff_mem, ← e]; exact List.getElem_mem hq
    have hfam := hall j hj
    unfold entD at hfam
    rw [if_pos hjk] at hfam
    simp only [Bool.and_eq_true] at hfam
    have hfr := hfam.2.2
    have hyi : l[j].i = 0 := by
      unfold famR at hfr
      simp only [Bool.and_eq_true, Bool.or_eq_true, decide_eq_true_eq] at hfr
      obtain ⟨_, _, _, _, _, _, _, _, _, a7⟩ := hfr
      rcases a7 with a7 | a7
      · omega
      · unfold recR at a7
        simp only [Bool.and_eq_true, decide_eq_true_eq] at a7
        exact a7.1
    unfold idleB fldB
    rw [if_neg k1, if_pos (.inr k4), isB_to_take hb hlt, famAt_nat hf hj]
    simp only [hct, hyi, Bool.true_and, Bool.and_eq_true, decide_eq_true_eq]
    exact ⟨⟨z1, z2, z3, z4, z5⟩, m2, hcn.1, hcn.2.1, hcn.2.2⟩
  · rw [if_neg k4] at hk
    cases hk
theorem formed_same (l : List ET) : formedB l = formedD l := by
  unfold formedB formedD
  have : allB (entQ l) l.length = allB (entE l) l.length := by
    rw [Bool.eq_iff_iff]
    exact ⟨ent_pd, ent_dp⟩
  rw [this]

end Go.Proofs.YtcbbaognomddkaaGreatDoor
