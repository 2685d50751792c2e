/- Tokens of the same kinds and texts are read alike: the same trees but for offsets. No program. -/
import Derived.Test.YteaojmcfppbgiaaGreatDoorB7
import Derived.Test.YteaojmcfppbgiaaGreatDoorA6
namespace Go.Proofs.YteaojmcfppbgiaaGreatDoor
open Go.RowKit
set_option linter.unusedVariables false
set_option maxRecDepth 100000

/-- The same but for offsets. -/
structure SameTk (L M : List Tk) : Prop where
  len : L.length = M.length
  kind : ∀ k, (tk L k).1 = (tk M k).1
  text : ∀ k, (tk L k).2.1 = (tk M k).2.1
inductive Eqv : RT → RT → Prop
  | node {k a a' : Int} {s : ByteArray} {n : Int} {l l' : List RT} : l.length = l'.length → (∀ i (h : i < l.length) (h' : i < l'.length), Eqv l[i] l'[i]) → Eqv (.node k a s n l) (.node k a' s n l')
def EqvL (l l' : List RT) : Prop := l.length = l'.length ∧ ∀ i (h : i < l.length) (h' : i < l'.length), Eqv l[i] l'[i]
theorem EqvL.nil : EqvL [] [] := ⟨rfl, fun i h => by simp at h⟩
theorem EqvL.cons {t u : RT} {l l' : List RT} (h : Eqv t u) (hl : EqvL l l') : EqvL (t :: l) (u :: l') := by
  refine ⟨by simp [hl.1], fun i h1 h2 => ?_⟩
  match i, h1, h2 with
  | 0, _, _ => exact h
  | i + 1, h1, h2 => exact hl.2 i (by simpa using h1) (by simpa using h2)
theorem EqvL.head {t : RT} {l : List RT} {m : List RT} (h : EqvL (t :: l) m) : ∃ u l', m = u :: l' ∧ Eqv t u ∧ EqvL l l' := by
  obtain ⟨hl, he⟩ := h
  match m, hl, he with
  | u :: l', hl, he =>
    exact ⟨u, l', rfl, he 0 (by simp) (by simp), by simpa using hl, fun i h1 h2 => he (i + 1) (by simpa using h1) (by simpa using h2)⟩
theorem EqvL.one {t : RT} {m : List RT} (h : EqvL [t] m) : ∃ u, m = [u] ∧ Eqv t u := by
  obtain ⟨u, l', rfl, he, hn⟩ := h.head
  have : l' = [] := List.eq_nil_of_length_eq_zero (by have := hn.1; simpa using this.symm)
  subst this
  exact ⟨u, rfl, he⟩
theorem Eqv.leaf (k a a' : Int) (s : ByteArray) (n : Int) : Eqv (.node k a s n []) (.node k a' s n []) := .node rfl (fun i h => by simp at h)
theorem Eqv.list {k a a' : Int} {s : ByteArray} {n : Int} {l l' : List RT} (h : EqvL l l') : Eqv (.node k a s n l) (.node k a' s n l') := .node h.1 h.2
theorem Eqv.two {k a a' : Int} {s : ByteArray} {n : Int} {t u t' u' : RT} (h : Eqv t t') (g : Eqv u u') : Eqv (.node k a s n [t, u]) (.node k a' s n [t', u']) := .list (.cons h (.cons g .nil))
end Go.Proofs.YteaojmcfppbgiaaGreatDoor

/- Trees that are the same but for offsets are as great and as deep; wholes over tokens of the same kinds and texts. No program. -/
namespace Go.Proofs.YteaojmcfppbgiaaGreatDoor
open Go.RowKit
set_option linter.unusedVariables false
set_option maxRecDepth 100000

theorem sizeL_eqv : ∀ (l l' : List RT), l.length = l'.length → (∀ i (h : i < l.length) (h' : i < l'.length), l[i].size = l'[i].size) → sizeL l = sizeL l'
  | [], l', h, _ => by
    have : l' = [] := List.eq_nil_of_length_eq_zero (by simpa using h.symm)
    subst this; rfl
  | t :: l, u :: l', h, he => by
    rw [sizeL_cons, sizeL_cons, sizeL_eqv l l' (by simpa using h) (fun i h1 h2 => he (i + 1) (by simpa using h1) (by simpa using h2))]
    have := he 0 (by simp) (by simp)
    simp only [List.getElem_cons_zero] at this
    omega
theorem depthL_eqv : ∀ (l l' : List RT), l.length = l'.length → (∀ i (h : i < l.length) (h' : i < l'.length), l[i].depth = l'[i].depth) → depthL l = depthL l'
  | [], l', h, _ => by
    have : l' = [] := List.eq_nil_of_length_eq_zero (by simpa using h.symm)
    subst this; rfl
  | t :: l, u :: l', h, he => by
    rw [depthL_cons, depthL_cons, depthL_eqv l l' (by simpa using h) (fun i h1 h2 => he (i + 1) (by simpa using h1) (by simpa using h2))]
    have := he 0 (by simp) (by simp)
    simp only [List.getElem_cons_zero] at this
    omega
theorem eqv_size {t u : RT} (h : Eqv t u) : t.size = u.size ∧ t.depth = u.depth := by
  induction h with
  | node hl _ ih =>
    refine ⟨?_, ?_⟩
    · rw [size_node, size_node, sizeL_eqv _ _ hl (fun i h1 h2 => (ih i h1 h2).1)]
    · rw [depth_node, depth_node, depthL_eqv _ _ hl (fun i h1 h2 => (ih i h1 h2).2)]
theorem deep_eqv {t u : RT} (h : Eqv t u) : deepN t = deepN u := by
  obtain ⟨h1, h2⟩ := eqv_size h
  unfold deepN
  rw [h1, h2]
end Go.Proofs.YteaojmcfppbgiaaGreatDoor

/- The text made of tokens' texts and gaps: it is UTF-8, it isn't long, and its tokens are read alike. No walk. -/
namespace Go.Proofs.YteaojmcfppbgiaaGreatDoor
open Go.RowKit
set_option linter.unusedVariables false
set_option maxRecDepth 100000

/-- A list of bytes that is the bytes of some signs. -/
def Fine (l : List Int) : Prop := ∃ ns, l = encAll ns ∧ ∀ n ∈ ns, rightB n = true
theorem Fine.app {l m : List Int} (h : Fine l) (k : Fine m) : Fine (l ++ m) := by
  obtain ⟨ns, rfl, h⟩ := h
  obtain ⟨ms, rfl, k⟩ := k
  exact ⟨ns ++ ms, (encAll_append _ _).symm, fun n hn => (List.mem_append.1 hn).elim (h n) (k n)⟩
theorem Fine.ascii : ∀ (l : List Int), (∀ b ∈ l, 0 ≤ b ∧ b < 128) → Fine l
  | [], _ => ⟨[], rfl, fun n hn => by cases hn⟩
  | b :: l, h => by
    have hb := h b (List.mem_cons_self ..)
    have e : encI b = [b] := encI_1 (by omega)
    have hr : rightB b = true := by unfold rightB; simp; omega
    have := Fine.app (l := [b]) ⟨[b], by show [b] = encI b ++ []; rw [e]; rfl, fun n hn => by rw [List.mem_singleton] at hn; rw [hn]; exact hr⟩ (Fine.ascii l (fun x hx => h x (List.mem_cons_of_mem _ hx)))
    exact this
theorem Fine.parse {l : List Int} (h : Fine l) : ∃ ns, Parse l ns [] := by
  obtain ⟨ns, e, h⟩ := h
  exact ⟨ns, by rw [e, List.append_nil], h, rfl⟩
theorem tok_fine {t u : ByteArray} {k : Int} {m : Nat} (h : TokOf t k u m) : Fine (bytesL u) ∧ 0 < u.size ∧ u.size ≤ m := by
  obtain ⟨_, n, hd, ⟨hw, hk, hwd, ⟨ns, r, hp, hu⟩, hm⟩ | ⟨hw, hk, hm⟩⟩ := h
  · obtain ⟨h0, hn0⟩ := parse_head hd hp
    have hpos : 0 < lead ns := lead_pos h0 (by rw [hn0]; exact hw)
    have hbu : bytesL u = encAll (ns.take (lead ns)) := by
      rw [hu, bytesL_extract, List.drop_zero, Nat.sub_zero, hp.eq]
      have h1 := offs_le ns (lead ns)
      rw [List.take_append_of_le_length h1, offs_take]
    refine ⟨⟨_, hbu, fun n hn => hp.right n (List.mem_of_mem_take hn)⟩, ?_, by rw [hm]; exact Nat.le_refl _⟩
    rw [← bytesL_length, hbu]
    have := offs_pos hpos h0
    exact this
  · rcases hm with ⟨hn, hbu, rfl⟩ | ⟨_, rfl, rfl⟩ | ⟨_, rfl, rfl⟩ | ⟨_, _, rfl, rfl⟩
    · have h1 := (within_mark hn).1
      have hs : u.size = 1 := by rw [← bytesL_length, hbu]; rfl
      have hn0 : 0 ≤ n := bytesL_nonneg u n (by rw [hbu]; exact List.mem_singleton_self _)
      exact ⟨by rw [hbu]; exact Fine.ascii _ (fun b hb => by rw [List.mem_singleton] at hb; omega), by omega, by omega⟩
    · exact ⟨Fine.ascii _ (by decide), by decide, by decide⟩
    · exact ⟨Fine.ascii _ (by decide), by decide, by decide⟩
    · exact ⟨Fine.ascii _ (by decide), by decide, by decide⟩
end Go.Proofs.YteaojmcfppbgiaaGreatDoor

/- A plain text given as its tokens, with blanks behind each: it is cut into just these. No program. -/
namespace Go.Proofs.YteaojmcfppbgiaaGreatDoor
open Go.RowKit
set_option linter.unusedVariables false
set_option maxRecDepth 100000

def ascB (l : List Int) : Bool := l.all fun b => decide (0 ≤ b) && decide (b < 128)
theorem asc_true {l : List Int} (h : ascB l = true) : ∀ b ∈ l, 0 ≤ b ∧ b < 128 := fun b hb => by
  have := List.all_eq_true.1 h b hb
  simpa using this
theorem asc_enc : ∀ {l : List Int}, ascB l = true → encAll l = l ∧ ∀ n ∈ l, rightB n = true
  | [], _ => ⟨rfl, fun n hn => by cases hn⟩
  | b :: l, h => by
    have hb := asc_true h b (List.mem_cons_self ..)
    have hl : ascB l = true := by unfold ascB at h ⊢; rw [List.all_cons, Bool.and_eq_true] at h; exact h.2
    obtain ⟨e1, e2⟩ := asc_enc hl
    refine ⟨?_, fun n hn => ?_⟩
    · show encI b ++ encAll l = _
      rw [encI_1 (by omega), e1]; rfl
    · rcases List.mem_cons.1 hn with rfl | hn
      · exact rightB_true.2 (by omega)
      · exact e2 n hn
/-- The head is no digit. -/
def noDigB (l : List Int) : Bool := match l with
  | [] => false
  | b :: _ => decide (b < 48 ∨ 57 < b)
theorem noDig_num {l : List Int} (h : noDigB l = true) : IsNum l 0 false := by
  refine IsNum.no fun n hn hd => ?_
  unfold noDigB at h
  split at h
  · cases h
  · rename_i b q
    have := digs_mem (i := n) (x := b) (by rw [hd]; exact List.mem_cons_self ..)
    have := of_decide_eq_true h
    omega
def wordB (k : Int) (u : ByteArray) : Bool :=
  ascB (bytesL u) && ((bytesL u).all withinB && (decide (0 < u.size) && ((decide (k = 2) && keyB u) || (decide (k = 1) && (!keyB u && (noDigB (bytesL u) && (decide (u.size ≤ 40) && begB (bytesL u))))))))
def stopB (l : List Int) : Bool := match l with
  | [] => true
  | b :: _ => decide (0 ≤ b) && (decide (b < 128) && !withinB b)
theorem word_tok {t u : ByteArray} {k : Int} {rest : List Int} (h : wordB k u = true) (hr : stopB rest = true) (e : bytesL t = bytesL u ++ rest) : TokOf t k u u.size := by
  unfold wordB at h
  simp only [Bool.and_eq_true, Bool.or_eq_true, decide_eq_true_eq, Bool.not_eq_true'] at h
  obtain ⟨ha, hw, hpos, hk⟩ := h
  obtain ⟨e1, e2⟩ := asc_enc ha
  have hlen : (bytesL u).length = u.size := bytesL_length u
  have hall : ∀ i, i < (bytesL u).length → withinB ((bytesL u).getD i 0) = true := fun i hi => by
    rw [List.getD_eq_getElem?_getD, List.getElem?_eq_getElem hi]
    exact List.all_eq_true.1 hw _ (List.getElem_mem hi)
  have hwd : WordOf u k := by
    rcases hk with ⟨rfl, h⟩ | ⟨rfl, h1, h2, h3, h4⟩
    · exact .inl ⟨h, rfl⟩
    · exact .inr (.inr (.inl ⟨h1, noDig_num h2, .inr ⟨bytesL u, ⟨by rw [e1, List.append_nil], e2, rfl⟩, h3, h1, h4, hw⟩, rfl⟩))
  have hk0 : k ≠ 0 := by rcases hk with ⟨rfl, _⟩ | ⟨rfl, _⟩ <;> decide
  obtain ⟨rs, r0, hp0⟩ := parse_exists _ rest (Nat.le_refl _) (fun x hx => bytesL_nonneg t x (by rw [e]; exact List.mem_append_right _ hx))
  have hrs : withinB (rs.getD 0 0) = false := by
    cases rest with
    | nil =>
      have : rs = [] := by
        cases rs with
        | nil => rfl
        | cons n ns =>
          have := congrArg List.length hp0.eq
          have hw1 : 1 ≤ wid n := by unfold wid; (repeat' split) <;> omega
          rw [encAll, List.length_append, List.length_append, encI_length] at this
          simp at this; omega
      rw [this]; decide
    | cons b q =>
      unfold stopB at hr
      simp only [Bool.and_eq_true, decide_eq_true_eq, Bool.not_eq_true'] at hr
      rw [(parse_nil_head rfl hr.2.1 hp0).2]; exact hr.2.2
  have hp' : Parse (bytesL t) (bytesL u ++ rs) r0 := ⟨by rw [e, encAll_append, e1, List.append_assoc, ← hp0.eq], fun x hx => by
    rcases List.mem_append.1 hx with hx | hx
    · exact e2 x hx
    · exact hp0.right x hx, hp0.stop⟩
  have hlead : lead (bytesL u ++ rs) = u.size := by rw [lead_app hall hrs, hlen]
  have hd' : dec (bytesL t) = some ((bytesL u).getD 0 0) := by
    have h1 := dec_at hp' (j := 0) (by rw [List.length_append]; omega)
    rw [offs_0, List.drop_zero] at h1
    rw [h1]
    congr 1
    rw [List.getD_eq_getElem?_getD, List.getElem?_append_left (by omega), ← List.getD_eq_getElem?_getD]
  have hw0 := hall 0 (by omega)
  refine ⟨p2_false_of hd' (fun h => by rw [h] at hw0; exact absurd hw0 (by decide)), _, hd', .inl ⟨hw0, hk0, hwd, ⟨_, r0, hp', ?_⟩, rfl⟩⟩
  apply bytesL_inj
  rw [hlead, bytesL_extract, List.drop_zero, Nat.sub_zero, hp'.eq]
  have h2 : offs (bytesL u ++ rs) u.size = u.size := by
    unfold offs
    rw [← hlen, List.take_append_of_le_length (Nat.le_refl _), List.take_of_length_le (Nat.le_refl _), e1]
  rw [h2, encAll_append, e1, List.append_assoc, List.take_append_of_le_length (by omega), List.take_of_length_le (by omega)]
def signB (u : ByteArray) (rest : List Int) : Bool := match bytesL u with
  | [z] => oneMarks.contains z && !(decide (z = 123) && decide (rest.head? = some 45))
  | [45, 62] => true
  | _ => false
theorem sign_tok {t u : ByteArray} {rest : List Int} (h : signB u rest = true) (e : bytesL t = bytesL u ++ rest) : TokOf t 4 u u.size := by
  unfold signB at h
  split at h
  · rename_i z hz
    rw [hz] at e
    simp only [Bool.and_eq_true, Bool.not_eq_true', Bool.and_eq_false_iff, decide_eq_false_iff_not] at h
    obtain ⟨hm, hc⟩ := h
    have hm : z ∈ oneMarks := by simpa using hm
    have hwz : withinB z = false := by
      simp only [oneMarks, List.mem_cons, List.not_mem_nil, or_false] at hm
      rcases hm with rfl | rfl | rfl | rfl | rfl | rfl | rfl | rfl | rfl | rfl | rfl <;> decide
    have hus : u.size = 1 := by rw [← bytesL_length, hz]; rfl
    refine ⟨?_, z, by rw [e]; exact dec_1 (within_mark hm).1, .inr ⟨hwz, rfl, .inl ⟨hm, hz, hus⟩⟩⟩
    cases h2 : p2 (bytesL t) 123 45 with
    | false => rfl
    | true =>
      obtain ⟨q, hq⟩ := p2_cases h2
      rw [e] at hq
      injection hq with h3 h4
      have h4 : rest = 45 :: q := h4
      rw [h4] at hc
      rcases hc with hc | hc
      · exact absurd h3 hc
      · exact absurd rfl hc
  · rename_i hz
    rw [hz] at e
    have e2 : bytesL t = 45 :: 62 :: rest := e
    have hus : u.size = 2 := by rw [← bytesL_length, hz]; rfl
    have hu : u = ⟨#[45, 62]⟩ := bytesL_inj hz
    refine ⟨by rw [e2]; simp [p2], 45, by rw [e2]; exact dec_1 (by omega), .inr ⟨by decide, rfl, .inr (.inr (.inr ⟨rfl, ?_, hu, hus⟩))⟩⟩
    rw [pre_p2, e2]; rfl
  · cases h

/-- A token's kind, its text, how many blanks stand behind it. -/
abbrev Pc := Int × ByteArray × Nat
def pcsL (P : List Pc) : List Int := P.flatMap fun p => bytesL p.2.1 ++ List.replicate p.2.2 32
theorem pcsL_cons (p : Pc) (P : List Pc) : pcsL (p :: P) = bytesL p.2.1 ++ (List.replicate p.2.2 32 ++ pcsL P) := by unfold pcsL; rw [List.flatMap_cons, List.append_assoc]
def toksPc : List Pc → Nat → List Tk
  | [], _ => []
  | (k, u, g) :: P, a => (k, u, a) :: toksPc P (a + u.size + g)
end Go.Proofs.YteaojmcfppbgiaaGreatDoor
