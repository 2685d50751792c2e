/- A text given as its tokens, whatever signs its names have, with blanks behind each: it is cut into just these. No program. -/
import Derived.Test.YteaojmcfppbgiaaGreatDoorB8
import Derived.Test.YteaojmcfppbgiaaGreatDoorC8
import Derived.Test.YteaojmcfppbgiaaGreatDoorD1
namespace Go.Proofs.YteaojmcfppbgiaaGreatDoor
open Go.RowKit
set_option linter.unusedVariables false
set_option maxRecDepth 100000

/-- It is cut off as a token, where this stands behind it. -/
def PcOk (k : Int) (u : ByteArray) (rest : List Int) : Prop := ∀ t : ByteArray, bytesL t = bytesL u ++ rest → TokOf t k u u.size
theorem word_tokP {u : ByteArray} {k : Int} {ns rest : List Int} (hp : Parse (bytesL u) ns []) (hw : ns.all withinB = true) (hpos : 0 < u.size) (hk0 : k ≠ 0) (hwd : WordOf u k) (hr : stopB rest = true) : PcOk k u rest := by
  intro t e
  have e1 : bytesL u = encAll ns := by have := hp.eq; rw [List.append_nil] at this; exact this
  have hlen : (bytesL u).length = u.size := bytesL_length u
  have hns : 0 < ns.length := by
    cases ns with
    | nil => rw [e1] at hlen; have : (encAll []).length = 0 := rfl; omega
    | cons n ns => simp
  have hall : ∀ i, i < ns.length → withinB (ns.getD i 0) = true := fun i hi => by
    rw [List.getD_eq_getElem?_getD, List.getElem?_eq_getElem hi]
    exact List.all_eq_true.1 hw _ (List.getElem_mem hi)
  obtain ⟨rs, r0, hp0⟩ := parse_exists _ rest (Nat.le_refl _) (fun x hx => bytesL_nonneg t x (by rw [e]; exact List.mem_append_right _ hx))
  have hrs : withinB (rs.getD 0 0) = false := by
    cases rest with
    | nil =>
      have : rs = [] := by
        cases rs with
        | nil => rfl
        | cons n ns =>
          have := congrArg List.length hp0.eq
          have hw1 : 1 ≤ wid n := by unfold wid; (repeat' split) <;> omega
          rw [encAll, List.length_append, List.length_append, encI_length] at this
          simp at this; omega
      rw [this]; decide
    | cons b q =>
      unfold stopB at hr
      simp only [Bool.and_eq_true, decide_eq_true_eq, Bool.not_eq_true'] at hr
      rw [(parse_nil_head rfl hr.2.1 hp0).2]; exact hr.2.2
  have hp' : Parse (bytesL t) (ns ++ rs) r0 := ⟨by rw [e, e1, encAll_append, List.append_assoc, ← hp0.eq], fun x hx => by
    rcases List.mem_append.1 hx with hx | hx
    · exact hp.right x hx
    · exact hp0.right x hx, hp0.stop⟩
  have hlead : lead (ns ++ rs) = ns.length := lead_app hall hrs
  have hd' : dec (bytesL t) = some (ns.getD 0 0) := by
    have h1 := dec_at hp' (j := 0) (by rw [List.length_append]; omega)
    rw [offs_0, List.drop_zero] at h1
    rw [h1]
    congr 1
    rw [List.getD_eq_getElem?_getD, List.getElem?_append_left (by omega), ← List.getD_eq_getElem?_getD]
  have hw0 := hall 0 hns
  refine ⟨p2_false_of hd' (fun h => by rw [h] at hw0; exact absurd hw0 (by decide)), _, hd', .inl ⟨hw0, hk0, hwd, ⟨_, r0, hp', ?_⟩, rfl⟩⟩
  apply bytesL_inj
  rw [hlead, bytesL_extract, List.drop_zero, Nat.sub_zero, hp'.eq]
  have h2 : offs (ns ++ rs) ns.length = (encAll ns).length := by
    unfold offs
    rw [List.take_append_of_le_length (Nat.le_refl _), List.take_of_length_le (Nat.le_refl _)]
  rw [h2, e1, encAll_append, List.append_assoc, List.take_append_of_le_length (Nat.le_refl _), List.take_of_length_le (Nat.le_refl _)]
theorem name_not_num {s : ByteArray} {ns : List Int} (h : IsName s ns) : IsNum (bytesL s) 0 false := by
  refine IsNum.no fun n hn hd => ?_
  have e1 : bytesL s = encAll ns := by have := h.parse.eq; rw [List.append_nil] at this; exact this
  cases ns with
  | nil => exact absurd h.beg (by decide)
  | cons a r =>
    have hb : (letterB a || (decide (a = 95) && decide (0 < r.length))) = true := h.beg
    have ha : ¬ (48 ≤ a ∧ a ≤ 57) := fun ha => by
      have h1 : letterB a = false := by
        unfold letterB plainB wideB
        simp
        omega
      rw [h1] at hb
      simp at hb
      omega
    by_cases h1 : a < 128
    · have h0 : 0 ≤ a := (rightB_true.1 (h.parse.right a (List.mem_cons_self ..))).1
      have e2 : encI a = [a] := encI_1 (by omega)
      rw [e1, encAll, e2] at hd
      have := digs_mem (i := n) (x := a) (by rw [hd]; exact List.mem_cons_self ..)
      omega
    · have hne : ∃ b q, encI a = b :: q ∧ 128 ≤ b := by
        by_cases h2 : a ≤ 2047
        · exact ⟨_, _, encI_2 (by omega) h2, by omega⟩
        · by_cases h3 : a ≤ 65535
          · exact ⟨_, _, encI_3 (by omega) h3, by omega⟩
          · exact ⟨_, _, encI_4 (by omega), by omega⟩
      obtain ⟨b, q, hb1, hb2⟩ := hne
      rw [e1, encAll, hb1] at hd
      have := digs_mem (i := n) (x := b) (by rw [hd]; exact List.mem_cons_self ..)
      omega
/-- The pieces, and what stands behind them all. -/
def OkPcs : List Pc → List Int → Prop
  | [], _ => True
  | (k, u, g) :: P, R => PcOk k u (List.replicate g 32 ++ (pcsL P ++ R)) ∧ OkPcs P R
theorem pcsL_app (P Q : List Pc) : pcsL (P ++ Q) = pcsL P ++ pcsL Q := by unfold pcsL; rw [List.flatMap_append]
theorem okPcs_app : ∀ {P Q : List Pc} {R : List Int}, OkPcs P (pcsL Q ++ R) → OkPcs Q R → OkPcs (P ++ Q) R
  | [], _, _, _, h2 => h2
  | (k, u, g) :: P, Q, R, h1, h2 => by
    refine ⟨?_, okPcs_app h1.2 h2⟩
    show PcOk k u (List.replicate g 32 ++ (pcsL (P ++ Q) ++ R))
    rw [pcsL_app, List.append_assoc]
    exact h1.1
/-- Names, keywords, digits, signs as pieces. -/
theorem name_pc {s : ByteArray} {ns rest : List Int} (h : IsName s ns) (hr : stopB rest = true) : PcOk 1 s rest := by
  have hpos : 0 < s.size := by
    cases ns with
    | nil => exact absurd h.beg (by decide)
    | cons a r =>
      have hl := congrArg List.length h.parse.eq
      have hw1 : 1 ≤ wid a := by unfold wid; (repeat' split) <;> omega
      rw [bytesL_length, encAll, List.length_append, List.length_append, encI_length] at hl
      omega
  exact word_tokP h.parse h.all hpos (by decide) (.inr (.inr (.inl ⟨h.key, name_not_num h, .inr ⟨ns, h⟩, rfl⟩))) hr
theorem word_pc {u : ByteArray} {k : Int} {rest : List Int} (h : wordB k u = true) (hr : stopB rest = true) : PcOk k u rest := fun t e => word_tok h hr e
theorem sign_pc {u : ByteArray} {rest : List Int} (h : signB u rest = true) : PcOk 4 u rest := fun t e => sign_tok h e
theorem one_parse {l : List Int} {x : Int} (e : l = [x]) (h1 : rightB x = true) (h2 : encI x = [x]) : Parse l [x] [] := by
  refine ⟨by rw [e, List.append_nil]; show _ = encI x ++ []; rw [h2]; rfl, fun n hn => ?_, rfl⟩
  rcases List.mem_cons.1 hn with h | h
  · rw [h]; exact h1
  · cases h
theorem low_pc {rest : List Int} (hr : stopB rest = true) : PcOk 1 ⟨#[95]⟩ rest := by
  have e : bytesL ⟨#[95]⟩ = [95] := rfl
  exact word_tokP (one_parse e (by decide) (by decide)) (by decide) (by decide) (by decide) (.inr (.inr (.inl ⟨by kernel_rfl, noDig_num (by rw [e]; decide), .inl (by kernel_rfl), rfl⟩))) hr
theorem digit_pc {n : Nat} {rest : List Int} (h1 : 1 ≤ n) (h7 : n ≤ 7) (hr : stopB rest = true) : PcOk 3 ⟨#[UInt8.ofNat (48 + n)]⟩ rest := by
  have hn : n = 1 ∨ n = 2 ∨ n = 3 ∨ n = 4 ∨ n = 5 ∨ n = 6 ∨ n = 7 := by omega
  have go : ∀ (b : UInt8) (m : Nat), (∃ x : Int, bytesL ⟨#[b]⟩ = [x] ∧ rightB x = true ∧ encI x = [x] ∧ withinB x = true ∧ keyB ⟨#[b]⟩ = false ∧ digs m = [x]) → m < 1000 → PcOk 3 ⟨#[b]⟩ rest := fun b m hx hm => by
    obtain ⟨x, e, hx1, hx2, hx3, hx4, hx5⟩ := hx
    exact word_tokP (one_parse e hx1 hx2) (by rw [List.all_cons, hx3]; rfl) (show 0 < 1 by omega) (by decide) (.inr (.inl ⟨hx4, ⟨m, IsNum.yes hm (by rw [hx5, e])⟩, rfl⟩)) hr
  rcases hn with rfl | rfl | rfl | rfl | rfl | rfl | rfl
  · exact go 49 1 ⟨49, rfl, by decide, by decide, by decide, by kernel_rfl, by kernel_rfl⟩ (by decide)
  · exact go 50 2 ⟨50, rfl, by decide, by decide, by decide, by kernel_rfl, by kernel_rfl⟩ (by decide)
  · exact go 51 3 ⟨51, rfl, by decide, by decide, by decide, by kernel_rfl, by kernel_rfl⟩ (by decide)
  · exact go 52 4 ⟨52, rfl, by decide, by decide, by decide, by kernel_rfl, by kernel_rfl⟩ (by decide)
  · exact go 53 5 ⟨53, rfl, by decide, by decide, by decide, by kernel_rfl, by kernel_rfl⟩ (by decide)
  · exact go 54 6 ⟨54, rfl, by decide, by decide, by decide, by kernel_rfl, by kernel_rfl⟩ (by decide)
  · exact go 55 7 ⟨55, rfl, by decide, by decide, by decide, by kernel_rfl, by kernel_rfl⟩ (by decide)

end Go.Proofs.YteaojmcfppbgiaaGreatDoor

/- An expression's printed text, as pieces; that it is read back as the expression, but for offsets. No program but what Rel names. -/
namespace Go.Proofs.YteaojmcfppbgiaaGreatDoor
open Go.RowKit
set_option linter.unusedVariables false
set_option maxRecDepth 100000

def lowT : ByteArray := ⟨#[95]⟩
def digT (n : Int) : ByteArray := ⟨#[UInt8.ofNat (48 + n.toNat)]⟩
/-- The pieces of an expression at a level, with so many blanks behind. -/
inductive PE : RT → Nat → Nat → List Pc → Prop
  | nm {a : Int} {s : ByteArray} {ns : List Int} {lv g : Nat} : IsName s ns → PE (.node 1 a s 0 []) lv g [(1, s, g)]
  | set0 {a : Int} {lv g : Nat} : PE (.node 2 a ⟨#[]⟩ 0 []) lv g [(2, setT, g)]
  | setN {a n : Int} {lv g : Nat} : 1 ≤ n → n ≤ 7 → PE (.node 2 a ⟨#[]⟩ n []) lv g [(2, setT, 1), (3, digT n, g)]
  | arr {a : Int} {x y : RT} {g : Nat} {P Q : List Pc} : PE x 1 1 P → PE y 0 g Q → PE (.node 3 a lowT 0 [x, y]) 0 g (P ++ (4, arrowT, 1) :: Q)
  | pi {a : Int} {s : ByteArray} {ns : List Int} {x y : RT} {g : Nat} {P Q : List Pc} : IsName s ns → PE x 0 0 P → PE y 0 g Q → PE (.node 3 a s 0 [x, y]) 0 g ((4, openT, 0) :: (1, s, 1) :: (4, colonT, 1) :: (P ++ (4, closeT, 1) :: (4, arrowT, 1) :: Q))
  | lam {a : Int} {s : ByteArray} {x y : RT} {g : Nat} {P Q : List Pc} : (s = lowT ∨ ∃ ns, IsName s ns) → PE x 0 0 P → PE y 0 g Q → PE (.node 4 a s 0 [x, y]) 0 g ((4, lamT, 1) :: (4, openT, 0) :: (1, s, 1) :: (4, colonT, 1) :: (P ++ (4, closeT, 1) :: (4, arrowT, 1) :: Q))
  | app {a : Int} {x y : RT} {lv g : Nat} {P Q : List Pc} : lv ≤ 1 → PE x 1 1 P → PE y 2 g Q → PE (.node 5 a ⟨#[]⟩ 0 [x, y]) lv g (P ++ Q)
  | par {t : RT} {lv g : Nat} {P : List Pc} : ((t.k = 3 ∨ t.k = 4) ∧ 1 ≤ lv) ∨ (t.k = 5 ∧ 2 ≤ lv) → PE t 0 0 P → PE t lv g ((4, openT, 0) :: (P ++ [(4, closeT, g)]))
/-- An expression such as may be printed. -/
inductive WfE : RT → Prop
  | nm {a : Int} {s : ByteArray} {ns : List Int} : IsName s ns → WfE (.node 1 a s 0 [])
  | set {a n : Int} : 0 ≤ n → n ≤ 7 → WfE (.node 2 a ⟨#[]⟩ n [])
  | arr {a : Int} {x y : RT} : WfE x → WfE y → WfE (.node 3 a lowT 0 [x, y])
  | pi {a : Int} {s : ByteArray} {ns : List Int} {x y : RT} : IsName s ns → WfE x → WfE y → WfE (.node 3 a s 0 [x, y])
  | lam {a : Int} {s : ByteArray} {x y : RT} : (s = lowT ∨ ∃ ns, IsName s ns) → WfE x → WfE y → WfE (.node 4 a s 0 [x, y])
  | app {a : Int} {x y : RT} : WfE x → WfE y → WfE (.node 5 a ⟨#[]⟩ 0 [x, y])
theorem pe_ex {t : RT} (h : WfE t) : ∀ lv g, ∃ P, PE t lv g P := by
  induction h with
  | nm h => exact fun lv g => ⟨_, .nm h⟩
  | @set a n h0 h7 =>
    intro lv g
    by_cases hn : n = 0
    · subst hn; exact ⟨_, .set0⟩
    · exact ⟨_, .setN (by omega) h7⟩
  | arr _ _ ih1 ih2 =>
    intro lv g
    by_cases hl : lv = 0
    · subst hl
      obtain ⟨P, hP⟩ := ih1 1 1
      obtain ⟨Q, hQ⟩ := ih2 0 g
      exact ⟨_, .arr hP hQ⟩
    · obtain ⟨P, hP⟩ := ih1 1 1
      obtain ⟨Q, hQ⟩ := ih2 0 0
      exact ⟨_, .par (.inl ⟨.inl rfl, by omega⟩) (.arr hP hQ)⟩
  | pi h _ _ ih1 ih2 =>
    intro lv g
    obtain ⟨P, hP⟩ := ih1 0 0
    by_cases hl : lv = 0
    · subst hl
      obtain ⟨Q, hQ⟩ := ih2 0 g
      exact ⟨_, .pi h hP hQ⟩
    · obtain ⟨Q, hQ⟩ := ih2 0 0
      exact ⟨_, .par (.inl ⟨.inl rfl, by omega⟩) (.pi h hP hQ)⟩
  | lam h _ _ ih1 ih2 =>
    intro lv g
    obtain ⟨P, hP⟩ := ih1 0 0
    by_cases hl : lv = 0
    · subst hl
      obtain ⟨Q, hQ⟩ := ih2 0 g
      exact ⟨_, .lam h hP hQ⟩
    · obtain ⟨Q, hQ⟩ := ih2 0 0
      exact ⟨_, .par (.inl ⟨.inr rfl, by omega⟩) (.lam h hP hQ)⟩
  | app _ _ ih1 ih2 =>
    intro lv g
    obtain ⟨P, hP⟩ := ih1 1 1
    by_cases hl : lv ≤ 1
    · obtain ⟨Q, hQ⟩ := ih2 2 g
      exact ⟨_, .app hl hP hQ⟩
    · obtain ⟨Q, hQ⟩ := ih2 2 0
      exact ⟨_, .par (.inr ⟨rfl, by omega⟩) (.app (by omega) hP hQ)⟩

/-! ### reading -/
def At (L : List Tk) (k : Nat) (P : List Pc) : Prop := ∀ i (h : i < P.length), (tk L (k + i)).1 = P[i].1 ∧ (tk L (k + i)).2.1 = P[i].2.1
theorem at_cons {L : List Tk} {k : Nat} {p : Pc} {P : List Pc} (h : At L k (p :: P)) : (tk L k).1 = p.1 ∧ (tk L k).2.1 = p.2.1 ∧ At L (k + 1) P :=
  ⟨(h 0 (by simp)).1, (h 0 (by simp)).2, fun i hi => by
    have := h (i + 1) (by simpa using hi)
    rw [show k + (i + 1) = k + 1 + i by omega] at this
    exact this⟩
theorem at_app {L : List Tk} {k : Nat} {P Q : List Pc} (h : At L k (P ++ Q)) : At L k P ∧ At L (k + P.length) Q :=
  ⟨fun i hi => by
    have := h i (by rw [List.length_append]; omega)
    rw [List.getElem_append_left hi] at this
    exact this, fun i hi => by
    have := h (P.length + i) (by rw [List.length_append]; omega)
    rw [List.getElem_append_right (by omega)] at this
    simp only [Nat.add_sub_cancel_left] at this
    rw [show k + (P.length + i) = k + P.length + i by omega] at this
    exact this⟩
theorem isB_at {L : List Tk} {k : Nat} {d : Int} {u : ByteArray} (h1 : (tk L k).1 = d) (h2 : (tk L k).2.1 = u) : isB L k d u = true := by unfold isB; rw [h1, h2]; simp
theorem isB_ne {L : List Tk} {k : Nat} {d d' : Int} {u : ByteArray} (h1 : (tk L k).1 = d') (h : d' ≠ d) : isB L k d u = false := by unfold isB; rw [h1, decide_eq_false h]; rfl
theorem isB_tx {L : List Tk} {k : Nat} {d : Int} {u v : ByteArray} (h2 : (tk L k).2.1 = v) (h : (v.toList == u.toList) = false) : isB L k d u = false := by unfold isB; rw [h2, h]; simp
def colB (L : List Tk) (k : Nat) : Bool := decide ((tk L k).1 = 4) && ((tk L k).2.1.toList == [58])
/-- What may stand behind an expression: no number, no colon. -/
def Nx (L : List Tk) (k : Nat) : Prop := IsNum (bytesL (tk L k).2.1) 0 false ∧ colB L k = false
def mv (s : St) (m : Nat) : St := ⟨s.k + m, s.f, s.e⟩
theorem mv_mv (s : St) (a b : Nat) : mv (mv s a) b = mv s (a + b) := by unfold mv; simp [Nat.add_assoc]
theorem step_ok {L : List Tk} {s : St} (h : s.k + 1 < L.length) : stepS L s = mv s 1 := by unfold stepS mv; rw [if_pos h]
theorem take_ok {L : List Tk} {s : St} {u : ByteArray} (h : s.k + 1 < L.length) (hm : mkB L s.k u = true) : takeS L u s = mv s 1 := by unfold takeS; rw [hm, if_pos rfl]; exact step_ok h
theorem name_low {s : ByteArray} {ns : List Int} (h : IsName s ns) : (s.toList == [95]) = false := by
  cases e : (s.toList == [95]) with
  | false => rfl
  | true =>
    exfalso
    have e2 : s.toList = [95] := by simpa using e
    have hb : bytesL s = [95] := by
      unfold bytesL
      rw [ByteArray.toList_eq] at e2
      rw [e2]; rfl
    have hp := (parse_unique h.parse (one_parse hb (by decide) (by decide))).1
    have := h.beg
    rw [hp] at this
    exact absurd this (by decide)
theorem agB_mark {L : List Tk} {k : Nat} (h1 : (tk L k).1 = 4) (h2 : ((tk L k).2.1.toList == [40]) = false) : agB L k = false := by
  unfold agB nmdB kyB mkB
  rw [isB_ne h1 (by decide), h1]
  have : isB L k 4 ⟨#[40]⟩ = false := by
    unfold isB
    have e : (⟨#[40]⟩ : ByteArray).toList = [40] := by kernel_rfl
    rw [e, h2]; simp
  rw [this]; rfl
theorem col_mark {L : List Tk} {k : Nat} {u : ByteArray} (h2 : (tk L k).2.1 = u) (h : (u.toList == [58]) = false) : colB L k = false := by unfold colB; rw [h2, h]; simp
theorem col_kind {L : List Tk} {k : Nat} {d : Int} (h1 : (tk L k).1 = d) (h : d ≠ 4) : colB L k = false := by unfold colB; rw [h1, decide_eq_false h]; rfl
theorem fn_not {L : List Tk} {k : Nat} (h : mkB L k openT = false ∨ ((tk L (k + 1)).1 = 1 → colB L (k + 2) = false)) : fnB L k = false := by
  unfold fnB
  rcases h with h | h
  · have h : mkB L k ⟨#[40]⟩ = false := h
    rw [h]; rfl
  · by_cases h1 : (tk L (k + 1)).1 = 1
    · have := h h1
      unfold colB at this
      rw [this]; simp
    · rw [decide_eq_false h1]; simp
theorem arrow_list : (arrowT.toList == [40]) = false ∧ (arrowT.toList == [58]) = false ∧ (closeT.toList == [40]) = false ∧ (closeT.toList == [58]) = false ∧ (openT.toList == [58]) = false ∧ (lamT.toList == [58]) = false ∧ (openT.toList == lamT.toList) = false ∧ (closeT.toList == arrowT.toList) = false ∧ (lamT.toList == openT.toList) = false := by
  refine ⟨?_, ?_, ?_, ?_, ?_, ?_, ?_, ?_, ?_⟩ <;> kernel_rfl
theorem mark_nums : IsNum (bytesL arrowT) 0 false ∧ IsNum (bytesL closeT) 0 false ∧ IsNum (bytesL openT) 0 false ∧ IsNum (bytesL setT) 0 false ∧ IsNum (bytesL lamT) 0 false := by
  refine ⟨noDig_num ?_, noDig_num ?_, noDig_num ?_, noDig_num ?_, noDig_num ?_⟩ <;> kernel_rfl
/-- How an expression's pieces begin. -/
theorem pe_first {t : RT} {lv g : Nat} {P : List Pc} (h : PE t lv g P) : ∃ p Q, P = p :: Q ∧ IsNum (bytesL p.2.1) 0 false ∧ (p.1 ≠ 4 ∨ (p.2.1.toList == [58]) = false) := by
  induction h with
  | nm h => exact ⟨_, _, rfl, name_not_num h, .inl (show (1 : Int) ≠ 4 by decide)⟩
  | set0 => exact ⟨_, _, rfl, mark_nums.2.2.2.1, .inl (show (2 : Int) ≠ 4 by decide)⟩
  | setN => exact ⟨_, _, rfl, mark_nums.2.2.2.1, .inl (show (2 : Int) ≠ 4 by decide)⟩
  | arr _ _ ih _ => obtain ⟨p, Q, rfl, h1, h2⟩ := ih; exact ⟨p, _, rfl, h1, h2⟩
  | pi => exact ⟨_, _, rfl, mark_nums.2.2.1, .inr arrow_list.2.2.2.2.1⟩
  | lam => exact ⟨_, _, rfl, mark_nums.2.2.2.2, .inr arrow_list.2.2.2.2.2.1⟩
  | app _ _ _ ih _ => obtain ⟨p, Q, rfl, h1, h2⟩ := ih; exact ⟨p, _, rfl, h1, h2⟩
  | par => exact ⟨_, _, rfl, mark_nums.2.2.1, .inr arrow_list.2.2.2.2.1⟩
theorem first_nx {L : List Tk} {k : Nat} {t : RT} {lv g : Nat} {P : List Pc} (h : PE t lv g P) (ha : At L k P) : Nx L k := by
  obtain ⟨p, Q, rfl, h1, h2⟩ := pe_first h
  obtain ⟨a1, a2, _⟩ := at_cons ha
  refine ⟨by rw [a2]; exact h1, ?_⟩
  rcases h2 with h2 | h2
  · exact col_kind a1 h2
  · exact col_mark a2 h2
/-- Where a name comes first, no colon comes second. -/
theorem pe_second {L : List Tk} {t : RT} {lv g : Nat} {P : List Pc} (h : PE t lv g P) : ∀ k, At L k P → colB L (k + P.length) = false → (tk L k).1 = 1 → colB L (k + 1) = false := by
  induction h with
  | nm h => intro k ha he h1; exact he
  | set0 => intro k ha he h1; exact absurd ((at_cons ha).1.symm.trans h1) (show ¬ (2 : Int) = 1 by decide)
  | setN => intro k ha he h1; exact absurd ((at_cons ha).1.symm.trans h1) (by decide)
  | arr hx hy ih _ =>
    intro k ha he h1
    obtain ⟨a1, a2⟩ := at_app ha
    exact ih k a1 (col_mark (at_cons a2).2.1 arrow_list.2.1) h1
  | pi => intro k ha he h1; exact absurd ((at_cons ha).1.symm.trans h1) (by decide)
  | lam => intro k ha he h1; exact absurd ((at_cons ha).1.symm.trans h1) (by decide)
  | app _ hx hy ih _ =>
    intro k ha he h1
    obtain ⟨a1, a2⟩ := at_app ha
    exact ih k a1 (first_nx hy a2).2 h1
  | par => intro k ha he h1; exact absurd ((at_cons ha).1.symm.trans h1) (by decide)
/-- So many arguments, one behind the other. -/
inductive Steps (L : List Tk) : St → List RT → St → Prop
  | nil {s : St} : Steps L s [] s
  | cons {s s1 s2 : St} {t : RT} {l : List RT} : s.e = 0 → agB L s.k = true → RE L .atom s [t] s1 → Steps L s1 l s2 → Steps L s (t :: l) s2
theorem steps_snoc {L : List Tk} {s s1 s2 : St} {t : RT} {l : List RT} (h : Steps L s l s1) (he : s1.e = 0) (ha : agB L s1.k = true) (hr : RE L .atom s1 [t] s2) : Steps L s (l ++ [t]) s2 := by
  induction h with
  | nil => exact .cons he ha hr .nil
  | cons h1 h2 h3 _ ih => exact .cons h1 h2 h3 (ih he ha hr)
theorem steps_re {L : List Tk} {s s2 : St} {l : List RT} (h : Steps L s l s2) (ha : agB L s2.k = false) : ∀ n, n + l.length ≤ 8192 → RE L (.atoms n) s l s2 := by
  induction h with
  | nil => exact fun n _ => .atomsStop (fun h => by rw [ha] at h; cases h.2)
  | cons h1 h2 h3 _ ih =>
    intro n hn
    rw [List.length_cons] at hn
    exact .atomsNext h1 h2 (by omega) h3 (ih ha (n + 1) (by omega))
def Parts (L : List Tk) (s : St) (t : RT) (m : Nat) : Prop :=
  ∃ h l s1, RE L .atom s [h] s1 ∧ Steps L s1 l (mv s m) ∧ Eqv (l.foldl mkApp h) t ∧ l.length + 1 ≤ m ∧ fnB L s.k = false ∧ mkB L s.k lamT = false
theorem parts_app {L : List Tk} {s : St} {t : RT} {m : Nat} (h : Parts L s t m) (hm : m ≤ 8192) (ha : agB L (s.k + m) = false) : ∃ t', Eqv t' t ∧ RE L .app s [t'] (mv s m) := by
  obtain ⟨x, l, s1, h1, h2, h3, h4, _, _⟩ := h
  exact ⟨_, h3, .app h1 (steps_re h2 ha 0 (by omega))⟩
theorem parts_expr {L : List Tk} {s : St} {t : RT} {m : Nat} (h : Parts L s t m) (hm : m ≤ 8192) (ha : agB L (s.k + m) = false) (hr : mkB L (s.k + m) arrowT = false) : ∃ t', Eqv t' t ∧ RE L .expr s [t'] (mv s m) := by
  obtain ⟨t', h1, h2⟩ := parts_app h hm ha
  obtain ⟨_, _, _, _, _, _, _, h5, h6⟩ := h
  exact ⟨t', h1, .plain h6 h5 h2 hr⟩
theorem parts_atom {L : List Tk} {s : St} {t t' : RT} {m : Nat} (h : RE L .atom s [t'] (mv s m)) (he : Eqv t' t) (hm : 1 ≤ m) (hf : fnB L s.k = false) (hl : mkB L s.k lamT = false) : Parts L s t m :=
  ⟨t', [], mv s m, h, .nil, he, by simpa using hm, hf, hl⟩

theorem bound_read {L : List Tk} {kd a : Int} {s : St} {x y : RT} {p q : Nat} (hL : L.length ≤ 8193) (he : s.e = 0) (a1 : (tk L s.k).1 = 4) (a2 : (tk L s.k).2.1 = openT) (b1 : (tk L (s.k + 1)).1 = 1) (c1 : (tk L (s.k + 1 + 1)).1 = 4) (c2 : (tk L (s.k + 1 + 1)).2.1 = colonT)
    (d1 : (tk L (s.k + 3 + p)).1 = 4) (d2 : (tk L (s.k + 3 + p)).2.1 = closeT) (f1 : (tk L (s.k + 3 + p + 1)).1 = 4) (f2 : (tk L (s.k + 3 + p + 1)).2.1 = arrowT) (hk : s.k + 3 + p + 2 < L.length)
    (hx : (0 : Nat) = 0 → agB L ((mv s 3).k + p) = false → mkB L ((mv s 3).k + p) arrowT = false → ∃ x', Eqv x' x ∧ RE L .expr (mv s 3) [x'] (mv (mv s 3) p))
    (hy : (0 : Nat) = 0 → agB L ((mv s (3 + p + 2)).k + q) = false → mkB L ((mv s (3 + p + 2)).k + q) arrowT = false → ∃ y', Eqv y' y ∧ RE L .expr (mv s (3 + p + 2)) [y'] (mv (mv s (3 + p + 2)) q))
    (hg : agB L (s.k + (3 + p + 2) + q) = false) (hr : mkB L (s.k + (3 + p + 2) + q) arrowT = false) :
    ∃ x' y', Eqv x' x ∧ Eqv y' y ∧ RE L (.bound kd a) s [.node kd a (tk L (s.k + 1)).2.1 0 [x', y']] (mv s (3 + p + 2 + q)) := by
  obtain ⟨x', e1, r1⟩ := hx rfl (agB_mark d1 (by rw [show (tk L ((mv s 3).k + p)).2.1 = closeT from d2]; exact arrow_list.2.2.1)) (isB_tx d2 arrow_list.2.2.2.2.2.2.2.1)
  obtain ⟨y', e2, r2⟩ := hy rfl hg hr
  refine ⟨x', y', e1, e2, ?_⟩
  have t1 : takeS L openT s = mv s 1 := take_ok (by omega) (isB_at a1 a2)
  have t2 : varS L (mv s 1) = mv s 1 := by unfold varS; exact if_pos b1
  have t3 : stepS L (varS L (mv s 1)) = mv s 2 := by rw [t2, step_ok (by show s.k + 1 + 1 < _; omega), mv_mv]
  have t4 : takeS L colonT (mv s 2) = mv s 3 := by rw [take_ok (by show s.k + 2 + 1 < _; omega) (isB_at c1 c2), mv_mv]
  have t5 : takeS L closeT (mv (mv s 3) p) = mv s (3 + p + 1) := by rw [take_ok (by show s.k + 3 + p + 1 < _; omega) (isB_at d1 d2), mv_mv, mv_mv]; rfl
  have t6 : takeS L arrowT (mv s (3 + p + 1)) = mv s (3 + p + 2) := by
    rw [take_ok (by show s.k + (3 + p + 1) + 1 < _; omega) (isB_at (by rw [show (mv s (3 + p + 1)).k = s.k + 3 + p + 1 by show s.k + (3 + p + 1) = _; omega]; exact f1) (by rw [show (mv s (3 + p + 1)).k = s.k + 3 + p + 1 by show s.k + (3 + p + 1) = _; omega]; exact f2)), mv_mv]
  have := RE.bound (kd := kd) (a := a) t1 (z := s.k + 1) (by rw [t2]; rfl) t3 t4 r1 t5 t6 r2
  rw [mv_mv] at this
  exact this

theorem pe_read {L : List Tk} (hL : L.length ≤ 8193) {t : RT} {lv g : Nat} {P : List Pc} (h : PE t lv g P) : ∀ s : St, s.e = 0 → At L s.k P → s.k + P.length < L.length → Nx L (s.k + P.length) →
    ((1 ≤ lv ∨ t.k = 1 ∨ t.k = 2 ∨ t.k = 5) → Parts L s t P.length) ∧
    (lv = 0 → agB L (s.k + P.length) = false → mkB L (s.k + P.length) arrowT = false → ∃ t', Eqv t' t ∧ RE L .expr s [t'] (mv s P.length)) ∧
    (2 ≤ lv → ∃ t', Eqv t' t ∧ RE L .atom s [t'] (mv s P.length) ∧ agB L s.k = true) := by
  induction h with
  | @nm a s0 ns lv g hn =>
    intro s he ha hk hx
    obtain ⟨a1, a2, _⟩ := at_cons ha
    have hnm : nmdB L s.k = true := by
      unfold nmdB loB isB
      rw [a1, a2]
      have e : (⟨#[95]⟩ : ByteArray).toList = [95] := by kernel_rfl
      rw [e, name_low hn]; simp
    have hat : RE L .atom s [.node 1 (tk L s.k).2.2 (tk L s.k).2.1 0 []] (mv s 1) := by
      have := RE.atomName (L := L) (s := s) hnm
      rw [step_ok (by simpa using hk)] at this
      exact this
    rw [a2] at hat
    have hf : fnB L s.k = false := fn_not (.inl (isB_ne a1 (show (1 : Int) ≠ 4 by decide)))
    have hl : mkB L s.k lamT = false := isB_ne a1 (show (1 : Int) ≠ 4 by decide)
    have hp := parts_atom hat (Eqv.leaf 1 _ a s0 0) (Nat.le_refl _) hf hl
    refine ⟨fun _ => hp, fun _ h1 h2 => parts_expr hp (by simp) h1 h2, fun _ => ⟨_, Eqv.leaf 1 _ a s0 0, hat, by unfold agB; rw [hnm]; rfl⟩⟩
  | @set0 a lv g =>
    intro s he ha hk hx
    obtain ⟨a1, a2, _⟩ := at_cons ha
    have hnm : nmdB L s.k = false := by unfold nmdB; rw [a1]; rfl
    have hky : kyB L s.k setT = true := isB_at a1 a2
    have hst : stepS L s = mv s 1 := step_ok (by simpa using hk)
    have hlv : LevelR L (stepS L s) 0 (stepS L s) := ⟨0, false, by rw [hst]; exact hx.1, .inr ⟨fun h => (by cases h.1), rfl, rfl⟩⟩
    have hat : RE L .atom s [.node 2 (tk L s.k).2.2 ⟨#[]⟩ ((0 : Nat) : Int) []] (mv s 1) := by
      have := RE.atomSet (L := L) (s := s) hnm hky hlv
      rw [hst] at this
      exact this
    have hf : fnB L s.k = false := fn_not (.inl (isB_ne a1 (show (2 : Int) ≠ 4 by decide)))
    have hl : mkB L s.k lamT = false := isB_ne a1 (show (2 : Int) ≠ 4 by decide)
    have hp := parts_atom hat (Eqv.leaf 2 _ a _ 0) (Nat.le_refl _) hf hl
    refine ⟨fun _ => hp, fun _ h1 h2 => parts_expr hp (by simp) h1 h2, fun _ => ⟨_, Eqv.leaf 2 _ a _ 0, hat, by
      have hky2 : kyB L s.k ⟨#[83, 101, 116]⟩ = true := hky
      unfold agB; rw [hky2]; simp⟩⟩
  | @setN a n lv g h1n h7n =>
    intro s he ha hk hx
    obtain ⟨a1, a2, ha2⟩ := at_cons ha
    obtain ⟨b1, b2, _⟩ := at_cons ha2
    have hk2 : s.k + 1 + 1 < L.length := by simpa using hk
    have hnm : nmdB L s.k = false := by unfold nmdB; rw [a1]; rfl
    have hky : kyB L s.k setT = true := isB_at a1 a2
    have hst : stepS L s = mv s 1 := step_ok (by omega)
    obtain ⟨m, rfl⟩ : ∃ m : Nat, n = (m : Int) := ⟨n.toNat, by omega⟩
    have hnum : IsNum (bytesL (digT (m : Int))) m true := by
      have hm : m = 1 ∨ m = 2 ∨ m = 3 ∨ m = 4 ∨ m = 5 ∨ m = 6 ∨ m = 7 := by omega
      rcases hm with rfl | rfl | rfl | rfl | rfl | rfl | rfl <;> exact IsNum.yes (by decide) (by kernel_rfl)
    have hlv : LevelR L (stepS L s) m (mv s 2) := ⟨m, true, by rw [hst]; show IsNum (bytesL (tk L (s.k + 1)).2.1) m true; rw [b2]; exact hnum, .inl ⟨rfl, by omega, rfl, by rw [hst, step_ok (by show s.k + 1 + 1 < _; omega), mv_mv]⟩⟩
    have hat : RE L .atom s [.node 2 (tk L s.k).2.2 ⟨#[]⟩ (m : Int) []] (mv s 2) := RE.atomSet (L := L) (s := s) hnm hky hlv
    have hf : fnB L s.k = false := fn_not (.inl (isB_ne a1 (by decide)))
    have hl : mkB L s.k lamT = false := isB_ne a1 (by decide)
    have hp := parts_atom hat (Eqv.leaf 2 _ a _ (m : Int)) (by decide) hf hl
    refine ⟨fun _ => hp, fun _ h1 h2 => parts_expr hp (by simp) h1 h2, fun _ => ⟨_, Eqv.leaf 2 _ a _ (m : Int), hat, by
      have hky2 : kyB L s.k ⟨#[83, 101, 116]⟩ = true := hky
      unfold agB; rw [hky2]; simp⟩⟩
  | @arr a x y g P Q hx hy ih1 ih2 =>
    intro s he ha hk hxx
    obtain ⟨a1, a2⟩ := at_app ha
    obtain ⟨b1, b2, b3⟩ := at_cons a2
    rw [List.length_append, List.length_cons] at hk hxx ⊢
    have hag : agB L (s.k + P.length) = false := agB_mark b1 (by rw [b2]; exact arrow_list.1)
    have hpx := (ih1 s he a1 (by omega) ⟨by rw [b2]; exact mark_nums.1, col_mark b2 arrow_list.2.1⟩).1 (.inl (Nat.le_refl _))
    obtain ⟨x', e1, r1⟩ := parts_app hpx (by omega) hag
    obtain ⟨_, _, _, _, _, _, _, hf, hl⟩ := hpx
    have hst : stepS L (mv s P.length) = mv s (P.length + 1) := by rw [step_ok (by show s.k + P.length + 1 < _; omega), mv_mv]
    refine ⟨fun h => (by rcases h with h | h | h | h <;> first | omega | cases h), fun _ hag2 har2 => ?_, fun h => by omega⟩
    have hy2 := (ih2 (mv s (P.length + 1)) he (by show At L (s.k + (P.length + 1)) Q; rw [← Nat.add_assoc]; exact b3) (by show s.k + (P.length + 1) + Q.length < _; omega) (by
      show Nx L (s.k + (P.length + 1) + Q.length)
      rw [show s.k + (P.length + 1) + Q.length = s.k + (P.length + (Q.length + 1)) by omega]; exact hxx)).2.1 rfl (by
      show agB L (s.k + (P.length + 1) + Q.length) = false
      rw [show s.k + (P.length + 1) + Q.length = s.k + (P.length + (Q.length + 1)) by omega]; exact hag2) (by
      show mkB L (s.k + (P.length + 1) + Q.length) arrowT = false
      rw [show s.k + (P.length + 1) + Q.length = s.k + (P.length + (Q.length + 1)) by omega]; exact har2)
    obtain ⟨y', e2, r2⟩ := hy2
    rw [mv_mv, show P.length + 1 + Q.length = P.length + (Q.length + 1) by omega] at r2
    exact ⟨_, Eqv.two e1 e2, .arr hl hf r1 (isB_at b1 b2) (by rw [hst]; exact r2)⟩
  | @pi a s0 ns x y g P Q hn hx hy ih1 ih2 =>
    intro s he ha hk hxx
    obtain ⟨a1, a2, ha2⟩ := at_cons ha
    obtain ⟨b1, b2, ha3⟩ := at_cons ha2
    obtain ⟨c1, c2, ha4⟩ := at_cons ha3
    obtain ⟨a5, a6⟩ := at_app ha4
    obtain ⟨d1, d2, ha7⟩ := at_cons a6
    obtain ⟨f1, f2, ha8⟩ := at_cons ha7
    simp only [List.length_cons, List.length_append] at hk hxx ⊢
    have k3 : s.k + 1 + 1 + 1 = s.k + 3 := by omega
    rw [k3] at a5 d1 d2 f1 f2 ha8
    refine ⟨fun h => (by rcases h with h | h | h | h <;> first | omega | cases h), fun _ hag2 har2 => ?_, fun h => by omega⟩
    have hfn : fnB L s.k = true := by
      unfold fnB
      have q1 : mkB L s.k ⟨#[40]⟩ = true := isB_at a1 a2
      have q2 : (colonT.toList == [58]) = true := by kernel_rfl
      rw [q1, b1, show s.k + 2 = s.k + 1 + 1 by omega, c1, c2, q2]; rfl
    have e := bound_read (L := L) (kd := 3) (a := (tk L s.k).2.2) (s := s) hL he a1 a2 b1 c1 c2 d1 d2 f1 f2 (by omega) (ih1 (mv s 3) he a5 (by show s.k + 3 + P.length < _; omega) ⟨by show IsNum (bytesL (tk L (s.k + 3 + P.length)).2.1) 0 false; rw [d2]; exact mark_nums.2.1, col_mark d2 arrow_list.2.2.2.1⟩).2.1 (ih2 (mv s (3 + P.length + 2)) he (by
        show At L (s.k + (3 + P.length + 2)) Q
        rw [show s.k + (3 + P.length + 2) = s.k + 3 + P.length + 1 + 1 by omega]; exact ha8) (by show s.k + (3 + P.length + 2) + Q.length < _; omega) (by
        show Nx L (s.k + (3 + P.length + 2) + Q.length)
        rw [show s.k + (3 + P.length + 2) + Q.length = s.k + (P.length + (Q.length + 1 + 1) + 1 + 1 + 1) by omega]; exact hxx)).2.1 (by
        rw [show s.k + (3 + P.length + 2) + Q.length = s.k + (P.length + (Q.length + 1 + 1) + 1 + 1 + 1) by omega]; exact hag2) (by
        rw [show s.k + (3 + P.length + 2) + Q.length = s.k + (P.length + (Q.length + 1 + 1) + 1 + 1 + 1) by omega]; exact har2)
    obtain ⟨x', y', e1, e2, r⟩ := e
    rw [b2, show 3 + P.length + 2 + Q.length = P.length + (Q.length + 1 + 1) + 1 + 1 + 1 by omega] at r
    exact ⟨_, Eqv.two e1 e2, .pi (isB_tx a2 arrow_list.2.2.2.2.2.2.1) hfn r⟩
  | @lam a s0 x y g P Q hn hx hy ih1 ih2 =>
    intro s he ha hk hxx
    obtain ⟨l1, l2, ha1⟩ := at_cons ha
    obtain ⟨a1, a2, ha2⟩ := at_cons ha1
    obtain ⟨b1, b2, ha3⟩ := at_cons ha2
    obtain ⟨c1, c2, ha4⟩ := at_cons ha3
    obtain ⟨a5, a6⟩ := at_app ha4
    obtain ⟨d1, d2, ha7⟩ := at_cons a6
    obtain ⟨f1, f2, ha8⟩ := at_cons ha7
    simp only [List.length_cons, List.length_append] at hk hxx ⊢
    have k4 : s.k + 1 + 1 + 1 + 1 = s.k + 1 + 3 := by omega
    rw [k4] at a5 d1 d2 f1 f2 ha8
    refine ⟨fun h => (by rcases h with h | h | h | h <;> first | omega | cases h), fun _ hag2 har2 => ?_, fun h => by omega⟩
    have e := bound_read (L := L) (kd := 4) (a := (tk L s.k).2.2) (s := mv s 1) hL he a1 a2 b1 c1 c2 d1 d2 f1 f2 (by show s.k + 1 + 3 + P.length + 2 < _; omega) (ih1 (mv (mv s 1) 3) he a5 (by show s.k + 1 + 3 + P.length < _; omega) ⟨by show IsNum (bytesL (tk L (s.k + 1 + 3 + P.length)).2.1) 0 false; rw [d2]; exact mark_nums.2.1, col_mark d2 arrow_list.2.2.2.1⟩).2.1 (ih2 (mv (mv s 1) (3 + P.length + 2)) he (by
        show At L (s.k + 1 + (3 + P.length + 2)) Q
        rw [show s.k + 1 + (3 + P.length + 2) = s.k + 1 + 3 + P.length + 1 + 1 by omega]; exact ha8) (by show s.k + 1 + (3 + P.length + 2) + Q.length < _; omega) (by
        show Nx L (s.k + 1 + (3 + P.length + 2) + Q.length)
        rw [show s.k + 1 + (3 + P.length + 2) + Q.length = s.k + (P.length + (Q.length + 1 + 1) + 1 + 1 + 1 + 1) by omega]; exact hxx)).2.1 (by
        show agB L (s.k + 1 + (3 + P.length + 2) + Q.length) = false
        rw [show s.k + 1 + (3 + P.length + 2) + Q.length = s.k + (P.length + (Q.length + 1 + 1) + 1 + 1 + 1 + 1) by omega]; exact hag2) (by
        show mkB L (s.k + 1 + (3 + P.length + 2) + Q.length) arrowT = false
        rw [show s.k + 1 + (3 + P.length + 2) + Q.length = s.k + (P.length + (Q.length + 1 + 1) + 1 + 1 + 1 + 1) by omega]; exact har2)
    obtain ⟨x', y', e1, e2, r⟩ := e
    have b2' : (tk L ((mv s 1).k + 1)).2.1 = s0 := b2
    rw [b2', mv_mv, show 1 + (3 + P.length + 2 + Q.length) = P.length + (Q.length + 1 + 1) + 1 + 1 + 1 + 1 by omega] at r
    exact ⟨_, Eqv.two e1 e2, .lam (isB_at l1 l2) (by rw [step_ok (by omega)]; exact r)⟩
  | @app a x y lv g P Q hlv hx hy ih1 ih2 =>
    intro s he ha hk hxx
    obtain ⟨a1, a2⟩ := at_app ha
    rw [List.length_append] at hk hxx ⊢
    obtain ⟨y', e2, r2, hag⟩ := (ih2 (mv s P.length) he a2 (by show s.k + P.length + Q.length < _; omega) (by
      show Nx L (s.k + P.length + Q.length)
      rw [Nat.add_assoc]; exact hxx)).2.2 (Nat.le_refl _)
    rw [mv_mv] at r2
    have hpx := (ih1 s he a1 (by omega) (first_nx hy a2)).1 (.inl (Nat.le_refl _))
    obtain ⟨hd, l, s1, h1, h2, h3, h4, h5, h6⟩ := hpx
    obtain ⟨p, Q', hQ, _⟩ := pe_first hy
    have hq : 1 ≤ Q.length := by rw [hQ]; simp
    have hp : Parts L s (.node 5 a ⟨#[]⟩ 0 [x, y]) (P.length + Q.length) := by
      refine ⟨hd, l ++ [y'], s1, h1, steps_snoc h2 he hag r2, ?_, by simp; omega, h5, h6⟩
      rw [List.foldl_append]
      exact Eqv.two h3 e2
    exact ⟨fun _ => hp, fun _ g1 g2 => parts_expr hp (by omega) g1 g2, fun h => by omega⟩
  | @par t lv g P hc hp ih =>
    intro s he ha hk hxx
    obtain ⟨a1, a2, ha2⟩ := at_cons ha
    obtain ⟨b1, b2⟩ := at_app ha2
    obtain ⟨c1, c2, _⟩ := at_cons b2
    simp only [List.length_cons, List.length_append, List.length_nil] at hk hxx ⊢
    have hcl : (tk L (s.k + (1 + P.length))).1 = 4 ∧ (tk L (s.k + (1 + P.length))).2.1 = closeT := by
      rw [show s.k + (1 + P.length) = s.k + 1 + P.length by omega]; exact ⟨c1, c2⟩
    have hnx : Nx L (s.k + 1 + P.length) := ⟨by rw [c2]; exact mark_nums.2.1, col_mark c2 arrow_list.2.2.2.1⟩
    obtain ⟨t', e1, r1⟩ := (ih (mv s 1) he b1 (by show s.k + 1 + P.length < _; omega) hnx).2.1 rfl (agB_mark c1 (by rw [show (tk L ((mv s 1).k + P.length)).2.1 = closeT from c2]; exact arrow_list.2.2.1)) (isB_tx c2 arrow_list.2.2.2.2.2.2.2.1)
    have hfn : fnB L s.k = false := fn_not (.inr fun h1 => by
      have := pe_second hp (L := L) (s.k + 1) b1 hnx.2 h1
      rw [show s.k + 2 = s.k + 1 + 1 by omega]; exact this)
    have hnm : nmdB L s.k = false := by unfold nmdB; rw [a1]; rfl
    have hky : kyB L s.k setT = false := isB_ne a1 (by decide)
    have hop : mkB L s.k openT = true := isB_at a1 a2
    have hat : RE L .atom s [t'] (mv s (P.length + 1 + 1)) := by
      have h1 := RE.atomPar (L := L) (s := s) hnm hky hop (by rw [step_ok (by omega)]; exact r1)
      rw [mv_mv, take_ok (by show s.k + (1 + P.length) + 1 < _; omega) (isB_at hcl.1 hcl.2), mv_mv, show 1 + P.length + 1 = P.length + 1 + 1 by omega] at h1
      exact h1
    have hlm : mkB L s.k lamT = false := isB_tx a2 arrow_list.2.2.2.2.2.2.1
    have hpt := parts_atom hat e1 (by omega) hfn hlm
    refine ⟨fun _ => hpt, fun h0 => by rcases hc with h | h <;> omega, fun _ => ⟨t', e1, hat, ?_⟩⟩
    have hop2 : mkB L s.k ⟨#[40]⟩ = true := hop
    unfold agB
    rw [hop2, hfn]; simp

end Go.Proofs.YteaojmcfppbgiaaGreatDoor

/- An expression's printed text is its pieces'; it is cut into just these. No program. -/
namespace Go.Proofs.YteaojmcfppbgiaaGreatDoor
open Go.RowKit
set_option linter.unusedVariables false
set_option maxRecDepth 100000

def toI (l : Tx) : List Int := l.map fun b => (b.toNat : Int)
theorem toI_app (a b : Tx) : toI (a ++ b) = toI a ++ toI b := List.map_append
theorem toI_tx (s : ByteArray) : toI (tx s) = bytesL s := rfl
theorem pcsL_one (k : Int) (u : ByteArray) (g : Nat) : pcsL [(k, u, g)] = bytesL u ++ List.replicate g 32 := by rw [pcsL_cons]; show _ ++ (_ ++ []) = _; rw [List.append_nil]
theorem sub_two0 (x y : RT) (lv : Nat) : subT (exprXL [x, y]) 0 lv = exprX x lv := by rw [exprXL, exprXL, exprXL]; rfl
theorem sub_two1 (x y : RT) (lv : Nat) : subT (exprXL [x, y]) 1 lv = exprX y lv := by rw [exprXL, exprXL, exprXL]; rfl
theorem low_T : lowB lowT = true := by kernel_rfl
theorem mark_bytes : bytesL openT = [40] ∧ bytesL closeT = [41] ∧ bytesL arrowT = [45, 62] ∧ bytesL lamT = [92] ∧ bytesL colonT = [58] ∧ bytesL setT = [83, 101, 116] := ⟨rfl, rfl, rfl, rfl, rfl, rfl⟩
theorem pe_text {t : RT} {lv g : Nat} {P : List Pc} (h : PE t lv g P) : lv ≤ 2 → pcsL P = toI (exprX t lv) ++ List.replicate g 32 := by
  have hm := mark_bytes
  induction h with
  | @nm a s ns lv g hn =>
    intro hl
    have hlo : ¬ lowest 1 ≤ lv := by unfold lowest; simp; omega
    rw [pcsL_one, exprX_bare hlo]
    rfl
  | @set0 a lv g =>
    intro hl
    have hlo : ¬ lowest 2 ≤ lv := by unfold lowest; simp; omega
    rw [pcsL_one, exprX_bare hlo]
    rfl
  | @setN a n lv g h1 h7 =>
    intro hl
    have hlo : ¬ lowest 2 ≤ lv := by unfold lowest; simp; omega
    rw [pcsL_cons, pcsL_one, exprX_bare hlo]
    have hn : n = 1 ∨ n = 2 ∨ n = 3 ∨ n = 4 ∨ n = 5 ∨ n = 6 ∨ n = 7 := by omega
    show bytesL setT ++ ([32] ++ (bytesL (digT n) ++ List.replicate g 32)) = toI (setX n) ++ List.replicate g 32
    have e : toI (setX n) = bytesL setT ++ ([32] ++ bytesL (digT n)) := by
      rcases hn with rfl | rfl | rfl | rfl | rfl | rfl | rfl <;> kernel_rfl
    rw [e, List.append_assoc, List.append_assoc]
  | @arr a x y g P Q hx hy ih1 ih2 =>
    intro hl
    have hlo : ¬ lowest 3 ≤ 0 := by unfold lowest; simp
    rw [pcsL_app, pcsL_cons, ih1 (by omega), ih2 (by omega), exprX_bare hlo]
    unfold innerX
    rw [if_neg (by decide), if_neg (by decide), if_neg (by decide), if_pos ⟨rfl, low_T⟩, sub_two0, sub_two1]
    simp only [toI_app, List.append_assoc, hm.2.2.1]
    rfl
  | @pi a s ns x y g P Q hn hx hy ih1 ih2 =>
    intro hl
    have hlo : ¬ lowest 3 ≤ 0 := by unfold lowest; simp
    have hlow : lowB s = false := name_low hn
    rw [pcsL_cons, pcsL_cons, pcsL_cons, pcsL_app, pcsL_cons, pcsL_cons, ih1 (by omega), ih2 (by omega), exprX_bare hlo]
    unfold innerX
    rw [if_neg (by decide), if_neg (by decide), if_neg (by decide), if_neg (by rw [hlow]; simp), if_neg (by decide), sub_two0, sub_two1]
    unfold bindX typedX
    simp only [toI_app, List.append_assoc, hm.1, hm.2.1, hm.2.2.1, hm.2.2.2.2.1, toI_tx]
    rfl
  | @lam a s x y g P Q hn hx hy ih1 ih2 =>
    intro hl
    have hlo : ¬ lowest 4 ≤ 0 := by unfold lowest; simp
    rw [pcsL_cons, pcsL_cons, pcsL_cons, pcsL_cons, pcsL_app, pcsL_cons, pcsL_cons, ih1 (by omega), ih2 (by omega), exprX_bare hlo]
    unfold innerX
    rw [if_neg (by decide), if_neg (by decide), if_neg (by decide), if_neg (by simp), if_pos rfl, sub_two0, sub_two1]
    unfold bindX typedX
    simp only [toI_app, List.append_assoc, hm.1, hm.2.1, hm.2.2.1, hm.2.2.2.1, hm.2.2.2.2.1, toI_tx]
    rfl
  | @app a x y lv g P Q hlv hx hy ih1 ih2 =>
    intro hl
    have hlo : ¬ lowest 5 ≤ lv := by unfold lowest; simp; omega
    rw [pcsL_app, ih1 (by omega), ih2 (by omega), exprX_bare hlo]
    unfold innerX
    rw [if_neg (by decide), if_neg (by decide), if_pos rfl, sub_two0, sub_two1]
    simp only [toI_app, List.append_assoc]
    rfl
  | @par t lv g P hc hp ih =>
    intro hl
    have hlo : lowest t.k ≤ lv := by
      unfold lowest
      rcases hc with ⟨h, h1⟩ | ⟨h, h1⟩
      · rw [if_pos h]; exact h1
      · rw [if_neg (by omega), if_pos h]; exact h1
    obtain ⟨k, a, s, n, l⟩ := t
    have hlo2 : lowest k ≤ lv := hlo
    rw [pcsL_cons, pcsL_app, pcsL_one, ih (by omega), exprX_par hlo2]
    simp only [toI_app, List.append_assoc, hm.1, hm.2.1]
    rfl

/-! ### cutting -/
theorem sign_open (rest : List Int) : signB openT rest = true ∧ signB closeT rest = true ∧ signB arrowT rest = true ∧ signB lamT rest = true ∧ signB colonT rest = true := by
  obtain ⟨h1, h2, h3, h4, h5, _⟩ := mark_bytes
  refine ⟨?_, ?_, ?_, ?_, ?_⟩
  · unfold signB; rw [h1]; simp [oneMarks]
  · unfold signB; rw [h2]; simp [oneMarks]
  · unfold signB; rw [h3]; rfl
  · unfold signB; rw [h4]; simp [oneMarks]
  · unfold signB; rw [h5]; simp [oneMarks]
theorem word_set : wordB 2 setT = true := by kernel_rfl
theorem stop_sp (R : List Int) : stopB (32 :: R) = true := rfl
theorem stop_close (R : List Int) : stopB (41 :: R) = true := by
  show (decide ((0 : Int) ≤ 41) && (decide ((41 : Int) < 128) && !withinB 41)) = true
  kernel_rfl
theorem pe_ok {t : RT} {lv g : Nat} {P : List Pc} (h : PE t lv g P) : ∀ R, stopB (List.replicate g 32 ++ R) = true → OkPcs P R := by
  induction h with
  | nm h => intro R hr; exact ⟨name_pc h hr, trivial⟩
  | set0 => intro R hr; exact ⟨word_pc word_set hr, trivial⟩
  | @setN a n lv g h1 h7 =>
    intro R hr
    refine ⟨word_pc word_set (stop_sp _), ?_, trivial⟩
    exact digit_pc (n := n.toNat) (by omega) (by omega) hr
  | arr _ _ ih1 ih2 =>
    intro R hr
    refine okPcs_app (ih1 _ (stop_sp _)) ⟨sign_pc (sign_open _).2.2.1, ih2 R hr⟩
  | pi h _ _ ih1 ih2 =>
    intro R hr
    refine ⟨sign_pc (sign_open _).1, name_pc h (stop_sp _), sign_pc (sign_open _).2.2.2.2, okPcs_app (ih1 _ ?_) ⟨sign_pc (sign_open _).2.1, sign_pc (sign_open _).2.2.1, ih2 R hr⟩⟩
    rw [pcsL_cons, mark_bytes.2.1]
    exact stop_close _
  | lam h _ _ ih1 ih2 =>
    intro R hr
    refine ⟨sign_pc (sign_open _).2.2.2.1, sign_pc (sign_open _).1, ?_, sign_pc (sign_open _).2.2.2.2, okPcs_app (ih1 _ ?_) ⟨sign_pc (sign_open _).2.1, sign_pc (sign_open _).2.2.1, ih2 R hr⟩⟩
    · rcases h with rfl | ⟨ns, h⟩
      · exact low_pc (stop_sp _)
      · exact name_pc h (stop_sp _)
    · rw [pcsL_cons, mark_bytes.2.1]
      exact stop_close _
  | app _ _ _ ih1 ih2 =>
    intro R hr
    exact okPcs_app (ih1 _ (stop_sp _)) (ih2 R hr)
  | par _ _ ih =>
    intro R hr
    refine ⟨sign_pc (sign_open _).1, okPcs_app (ih _ ?_) ⟨sign_pc (sign_open _).2.1, trivial⟩⟩
    rw [pcsL_one, mark_bytes.2.1]
    exact stop_close _
theorem toksPc_length : ∀ (P : List Pc) (a : Nat), (toksPc P a).length = P.length
  | [], _ => rfl
  | (k, u, g) :: P, a => by rw [toksPc, List.length_cons, List.length_cons, toksPc_length P]
theorem toksPc_at : ∀ (P : List Pc) (a i : Nat) (h : i < P.length) (h' : i < (toksPc P a).length), (toksPc P a)[i].1 = P[i].1 ∧ (toksPc P a)[i].2.1 = P[i].2.1
  | (k, u, g) :: P, a, 0, _, _ => ⟨rfl, rfl⟩
  | (k, u, g) :: P, a, i + 1, h, h' => by
    simp only [toksPc, List.getElem_cons_succ]
    exact toksPc_at P _ i (by simpa using h) _
theorem at_toks (P : List Pc) (a n : Nat) : At (withEnd (toksPc P a) n) 0 P := by
  intro i h
  have hl : i < (toksPc P a).length := by rw [toksPc_length]; exact h
  rw [Nat.zero_add, withEnd_at hl]
  exact toksPc_at P a i h hl
theorem end_toks (P : List Pc) (a n : Nat) : tk (withEnd (toksPc P a) n) P.length = (5, ⟨#[]⟩, n) := by
  have := withEnd_last (toksPc P a) n
  rw [toksPc_length] at this
  exact this
theorem nil_num : IsNum (bytesL ⟨#[]⟩) 0 false := by
  refine IsNum.no fun n hn hd => ?_
  have h1 := congrArg List.length hd
  rw [digs_length] at h1
  have h2 := Lib.nDigits_pos n
  have h3 : (bytesL ⟨#[]⟩).length = 0 := rfl
  omega

end Go.Proofs.YteaojmcfppbgiaaGreatDoor

/- A pattern's printed text, as pieces; that it is read back as the pattern, but for offsets. -/
namespace Go.Proofs.YteaojmcfppbgiaaGreatDoor
open Go.RowKit
set_option linter.unusedVariables false
set_option maxRecDepth 100000

/-- The pieces of patterns, a blank between two, so many blanks behind the last. -/
inductive PP : List RT → Nat → List Pc → Prop
  | nm {a : Int} {s : ByteArray} {ns : List Int} {g : Nat} : IsName s ns → PP [.node 6 a s 0 []] g [(1, s, g)]
  | any {a : Int} {g : Nat} : PP [.node 7 a ⟨#[]⟩ 0 []] g [(1, lowT, g)]
  | none {a : Int} {g : Nat} : PP [.node 9 a ⟨#[]⟩ 0 []] g [(4, openT, 0), (4, closeT, g)]
  | dot {a : Int} {e : RT} {g : Nat} {P : List Pc} : PE e 2 g P → PP [.node 10 a ⟨#[]⟩ 0 [e]] g ((4, dotT, 0) :: P)
  | con {a : Int} {s : ByteArray} {ns : List Int} {l : List RT} {g : Nat} {P : List Pc} : IsName s ns → 0 < l.length → PP l 0 P → PP [.node 8 a s 0 l] g ((4, openT, 0) :: (1, s, 1) :: (P ++ [(4, closeT, g)]))
  | cons {t : RT} {l : List RT} {g : Nat} {P Q : List Pc} : 0 < l.length → PP [t] 1 P → PP l g Q → PP (t :: l) g (P ++ Q)
theorem dot_list : (dotT.toList == [58]) = false ∧ (openT.toList == dotT.toList) = false ∧ (closeT.toList == openT.toList) = false ∧ (closeT.toList == dotT.toList) = false := by
  refine ⟨?_, ?_, ?_, ?_⟩ <;> kernel_rfl
theorem dot_num : IsNum (bytesL dotT) 0 false ∧ IsNum (bytesL lowT) 0 false := ⟨noDig_num (by kernel_rfl), noDig_num (by kernel_rfl)⟩
theorem pp_first {l : List RT} {g : Nat} {P : List Pc} (h : PP l g P) : ∃ p Q, P = p :: Q ∧ IsNum (bytesL p.2.1) 0 false ∧ (p.1 ≠ 4 ∨ (p.2.1.toList == [58]) = false) := by
  induction h with
  | nm h => exact ⟨_, _, rfl, name_not_num h, .inl (show (1 : Int) ≠ 4 by decide)⟩
  | any => exact ⟨_, _, rfl, dot_num.2, .inl (show (1 : Int) ≠ 4 by decide)⟩
  | none => exact ⟨_, _, rfl, mark_nums.2.2.1, .inr arrow_list.2.2.2.2.1⟩
  | dot => exact ⟨_, _, rfl, dot_num.1, .inr dot_list.1⟩
  | con => exact ⟨_, _, rfl, mark_nums.2.2.1, .inr arrow_list.2.2.2.2.1⟩
  | cons _ _ _ ih _ => obtain ⟨p, Q, rfl, h1, h2⟩ := ih; exact ⟨p, _, rfl, h1, h2⟩
theorem pfirst_nx {L : List Tk} {k : Nat} {l : List RT} {g : Nat} {P : List Pc} (h : PP l g P) (ha : At L k P) : Nx L k := by
  obtain ⟨p, Q, rfl, h1, h2⟩ := pp_first h
  obtain ⟨a1, a2, _⟩ := at_cons ha
  refine ⟨by rw [a2]; exact h1, ?_⟩
  rcases h2 with h2 | h2
  · exact col_kind a1 h2
  · exact col_mark a2 h2
/-- So many patterns, one behind the other. -/
inductive PSteps (L : List Tk) : St → List RT → St → Prop
  | nil {s : St} : PSteps L s [] s
  | cons {s s1 s2 : St} {t : RT} {l : List RT} : s.e = 0 → ptB L s.k = true → RE L .pat s [t] s1 → PSteps L s1 l s2 → PSteps L s (t :: l) s2
theorem psteps_re {L : List Tk} {s s2 : St} {l : List RT} (h : PSteps L s l s2) (ha : ptB L s2.k = false) : ∀ n, n + l.length ≤ 8192 → RE L (.pats n) s l s2 := by
  induction h with
  | nil => exact fun n _ => .patsStop (fun h => by rw [ha] at h; cases h.2)
  | cons h1 h2 h3 _ ih =>
    intro n hn
    rw [List.length_cons] at hn
    exact .patsNext h1 h2 (by omega) h3 (ih ha (n + 1) (by omega))
theorem nmd_name {L : List Tk} {k : Nat} {s : ByteArray} {ns : List Int} (h : IsName s ns) (a1 : (tk L k).1 = 1) (a2 : (tk L k).2.1 = s) : nmdB L k = true := by
  unfold nmdB loB isB
  rw [a1, a2]
  have e : (⟨#[95]⟩ : ByteArray).toList = [95] := by kernel_rfl
  rw [e, name_low h]; simp
theorem nmd_kind {L : List Tk} {k : Nat} {d : Int} (a1 : (tk L k).1 = d) (h : d ≠ 1) : nmdB L k = false := by unfold nmdB; rw [a1, decide_eq_false h]; rfl
theorem pt_close {L : List Tk} {k : Nat} (a1 : (tk L k).1 = 4) (a2 : (tk L k).2.1 = closeT) : ptB L k = false := by
  unfold ptB
  have h1 : loB L k = false := isB_ne a1 (by decide)
  have h2 : mkB L k ⟨#[40]⟩ = false := isB_tx a2 dot_list.2.2.1
  have h3 : mkB L k ⟨#[46]⟩ = false := isB_tx a2 dot_list.2.2.2
  rw [nmd_kind a1 (by decide), h1, h2, h3]; rfl
theorem pp_read {L : List Tk} (hL : L.length ≤ 8193) {l : List RT} {g : Nat} {P : List Pc} (h : PP l g P) : ∀ s : St, s.e = 0 → At L s.k P → s.k + P.length < L.length → Nx L (s.k + P.length) →
    ∃ l', EqvL l' l ∧ PSteps L s l' (mv s P.length) ∧ l'.length ≤ P.length := by
  have one : ∀ {s : St} {t t' : RT} {m : Nat}, s.e = 0 → ptB L s.k = true → RE L .pat s [t'] (mv s m) → Eqv t' t → 1 ≤ m → ∃ l', EqvL l' [t] ∧ PSteps L s l' (mv s m) ∧ l'.length ≤ m :=
    fun he hp hr hq hm => ⟨[_], .cons hq .nil, .cons he hp hr .nil, by simpa using hm⟩
  induction h with
  | @nm a s0 ns g hn =>
    intro s he ha hk hx
    obtain ⟨a1, a2, _⟩ := at_cons ha
    have hnm := nmd_name hn a1 a2
    have hr := RE.patName (L := L) (s := s) hnm
    rw [step_ok (by simpa using hk), a2] at hr
    exact one he (by unfold ptB; rw [hnm]; rfl) hr (Eqv.leaf 6 _ a s0 0) (Nat.le_refl _)
  | @any a g =>
    intro s he ha hk hx
    obtain ⟨a1, a2, _⟩ := at_cons ha
    have hlo : loB L s.k = true := isB_at a1 a2
    have hnm : nmdB L s.k = false := by unfold nmdB; rw [hlo]; simp
    have hr := RE.patAny (L := L) (s := s) hnm hlo
    rw [step_ok (by simpa using hk)] at hr
    exact one he (by unfold ptB; rw [hlo]; simp) hr (Eqv.leaf 7 _ a _ 0) (Nat.le_refl _)
  | @none a g =>
    intro s he ha hk hx
    obtain ⟨a1, a2, ha2⟩ := at_cons ha
    obtain ⟨b1, b2, _⟩ := at_cons ha2
    have hk2 : s.k + 1 + 1 < L.length := by simpa using hk
    have hnm : nmdB L s.k = false := nmd_kind a1 (by decide)
    have hlo : loB L s.k = false := isB_ne a1 (by decide)
    have hdo : mkB L s.k dotT = false := isB_tx a2 dot_list.2.1
    have hop : mkB L s.k openT = true := isB_at a1 a2
    have hst : stepS L s = mv s 1 := step_ok (by omega)
    have hr := RE.patPar (L := L) (s := s) hnm hlo hdo hop (RE.encNone (by rw [hst]; exact nmd_kind b1 (show (4 : Int) ≠ 1 by decide)) (by rw [hst]; exact isB_at b1 b2))
    rw [hst, take_ok (by show s.k + 1 + 1 < _; omega) (isB_at b1 b2), mv_mv] at hr
    have hop2 : mkB L s.k ⟨#[40]⟩ = true := hop
    exact one he (by unfold ptB; rw [hop2]; simp) hr (Eqv.leaf 9 _ a _ 0) (by simp)
  | @dot a e g P hp =>
    intro s he ha hk hx
    obtain ⟨a1, a2, ha2⟩ := at_cons ha
    rw [List.length_cons] at hk hx ⊢
    have hnm : nmdB L s.k = false := nmd_kind a1 (by decide)
    have hlo : loB L s.k = false := isB_ne a1 (by decide)
    have hdo : mkB L s.k dotT = true := isB_at a1 a2
    have hst : stepS L s = mv s 1 := step_ok (by omega)
    obtain ⟨t', e1, r1, _⟩ := (pe_read hL hp (mv s 1) he ha2 (by show s.k + 1 + P.length < _; omega) (by show Nx L (s.k + 1 + P.length); rw [show s.k + 1 + P.length = s.k + (P.length + 1) by omega]; exact hx)).2.2 (Nat.le_refl _)
    have hr := RE.patDot (L := L) (s := s) hnm hlo hdo (by rw [hst]; exact r1)
    rw [mv_mv, Nat.add_comm 1] at hr
    have hdo2 : mkB L s.k ⟨#[46]⟩ = true := hdo
    exact one he (by unfold ptB; rw [hdo2]; simp) hr (.list (.cons e1 .nil)) (by omega)
  | @con a s0 ns l g P hn hl hp ih =>
    intro s he ha hk hx
    obtain ⟨a1, a2, ha2⟩ := at_cons ha
    obtain ⟨b1, b2, ha3⟩ := at_cons ha2
    obtain ⟨c1, c2⟩ := at_app ha3
    obtain ⟨d1, d2, _⟩ := at_cons c2
    simp only [List.length_cons, List.length_append, List.length_nil] at hk hx ⊢
    have hnm : nmdB L s.k = false := nmd_kind a1 (by decide)
    have hlo : loB L s.k = false := isB_ne a1 (by decide)
    have hdo : mkB L s.k dotT = false := isB_tx a2 dot_list.2.1
    have hop : mkB L s.k openT = true := isB_at a1 a2
    have hst : stepS L s = mv s 1 := step_ok (by omega)
    have hst2 : stepS L (mv s 1) = mv s 2 := by rw [step_ok (by show s.k + 1 + 1 < _; omega), mv_mv]
    have k2 : (mv s 2).k + P.length = s.k + 1 + 1 + P.length := rfl
    obtain ⟨l', e1, r1, hlen⟩ := ih (mv s 2) he c1 (by show s.k + 2 + P.length < _; omega) ⟨by rw [k2, d2]; exact mark_nums.2.1, by rw [k2]; exact col_mark d2 arrow_list.2.2.2.1⟩
    rw [mv_mv] at r1
    have k3 : (mv s (2 + P.length)).k = s.k + 1 + 1 + P.length := by show s.k + (2 + P.length) = _; omega
    have hps := psteps_re r1 (by rw [k3]; exact pt_close d1 d2) 0 (by omega)
    have hl' : l'.length ≠ 0 := by rw [e1.1]; omega
    have hr := RE.patPar (L := L) (s := s) hnm hlo hdo hop (RE.encName (by rw [hst]; exact nmd_name hn b1 b2) (by rw [hst]; exact RE.applCons hl' (by rw [hst2]; exact hps)))
    rw [take_ok (by rw [k3]; omega) (by rw [k3]; exact isB_at d1 d2), mv_mv, show 2 + P.length + 1 = P.length + 1 + 1 + 1 by omega] at hr
    have hb2 : (tk L (mv s 1).k).2.1 = s0 := b2
    rw [hb2] at hr
    have hop2 : mkB L s.k ⟨#[40]⟩ = true := hop
    exact one he (by unfold ptB; rw [hop2]; simp) hr (.list e1) (by omega)
  | @cons t l g P Q hl hp hq ih1 ih2 =>
    intro s he ha hk hx
    obtain ⟨a1, a2⟩ := at_app ha
    rw [List.length_append] at hk hx ⊢
    obtain ⟨l1, e1, r1, h1⟩ := ih1 s he a1 (by omega) (pfirst_nx hq a2)
    obtain ⟨l2, e2, r2, h2⟩ := ih2 (mv s P.length) he a2 (by show s.k + P.length + Q.length < _; omega) (by show Nx L (s.k + P.length + Q.length); rw [Nat.add_assoc]; exact hx)
    rw [mv_mv] at r2
    match l1, e1, r1, h1 with
    | [t'], e1, r1, h1 =>
      cases r1 with
      | cons g1 g2 g3 g4 =>
        cases g4 with
        | nil =>
          refine ⟨t' :: l2, .cons (e1.2 0 (by simp) (by simp)) e2, .cons g1 g2 g3 r2, ?_⟩
          obtain ⟨p, P', hP, _⟩ := pp_first hp
          have : 1 ≤ P.length := by rw [hP]; simp
          simp
          omega
    | [], e1, _, _ => exact absurd e1.1 (by simp)
    | _ :: _ :: _, e1, _, _ => exact absurd e1.1 (by simp)
/-- One pattern alone. -/
theorem pp_one {L : List Tk} (hL : L.length ≤ 8193) {t : RT} {g : Nat} {P : List Pc} (h : PP [t] g P) (s : St) (he : s.e = 0) (ha : At L s.k P) (hk : s.k + P.length < L.length) (hx : Nx L (s.k + P.length)) :
    ∃ t', Eqv t' t ∧ RE L .pat s [t'] (mv s P.length) ∧ ptB L s.k = true := by
  obtain ⟨l1, e1, r1, h1⟩ := pp_read hL h s he ha hk hx
  match l1, e1, r1 with
  | [t'], e1, r1 =>
    cases r1 with
    | cons g1 g2 g3 g4 =>
      cases g4 with
      | nil => exact ⟨t', e1.2 0 (by simp) (by simp), g3, g2⟩
  | [], e1, _ => exact absurd e1.1 (by simp)
  | _ :: _ :: _, e1, _ => exact absurd e1.1 (by simp)

/-! ### text -/
theorem dot_sign (rest : List Int) : signB dotT rest = true := by
  have h : bytesL dotT = [46] := rfl
  unfold signB; rw [h]; simp [oneMarks]
/-- The texts, a blank between two. -/
def patsX : List RT → Tx
  | [] => []
  | [t] => patX t
  | t :: u :: r => patX t ++ ([32] ++ patsX (u :: r))
theorem patsX_cons (t : RT) {l : List RT} (h : 0 < l.length) : patsX (t :: l) = patX t ++ ([32] ++ patsX l) := by
  match l, h with
  | u :: r, _ => rw [patsX]
theorem patXL_pats : ∀ {l : List RT}, 0 < l.length → patXL l = [32] ++ patsX l
  | [t], _ => by rw [patXL_cons, patXL_nil, List.append_nil, patsX]
  | t :: u :: r, _ => by
    rw [patXL_cons, patXL_pats (l := u :: r) (by simp), patsX_cons t (by simp)]
    simp
theorem pp_text {l : List RT} {g : Nat} {P : List Pc} (h : PP l g P) : pcsL P = toI (patsX l) ++ List.replicate g 32 := by
  have hm := mark_bytes
  induction h with
  | nm h => rw [pcsL_one, patsX, patX_node, if_pos rfl]; rfl
  | any => rw [pcsL_one, patsX, patX_node, if_neg (by decide), if_pos rfl]; rfl
  | none => rw [pcsL_cons, pcsL_one, patsX, patX_node, if_neg (by decide), if_neg (by decide), if_pos rfl]; rfl
  | @dot a e g P hp =>
    have e0 : subT (exprXL [e]) 0 2 = exprX e 2 := by rw [exprXL, exprXL]; rfl
    rw [pcsL_cons, pe_text hp (Nat.le_refl _), patsX, patX_node, if_neg (by decide), if_neg (by decide), if_neg (by decide), if_pos rfl, e0, toI_app, List.append_assoc]
    rfl
  | @con a s0 ns l g P hn hl hp ih =>
    rw [pcsL_cons, pcsL_cons, pcsL_app, pcsL_one, ih, patsX, patX_node, if_neg (by decide), if_neg (by decide), if_neg (by decide), if_neg (by decide), patXL_pats hl]
    simp only [toI_app, List.append_assoc, hm.1, hm.2.1, toI_tx]
    rfl
  | @cons t l g P Q hl hp hq ih1 ih2 =>
    rw [pcsL_app, ih1, ih2, patsX_cons t hl, patsX]
    simp only [toI_app, List.append_assoc]
    rfl
theorem pp_ok {l : List RT} {g : Nat} {P : List Pc} (h : PP l g P) : ∀ R, stopB (List.replicate g 32 ++ R) = true → OkPcs P R := by
  induction h with
  | nm h => intro R hr; exact ⟨name_pc h hr, trivial⟩
  | any => intro R hr; exact ⟨low_pc hr, trivial⟩
  | none => intro R hr; exact ⟨sign_pc (sign_open _).1, sign_pc (sign_open _).2.1, trivial⟩
  | dot hp => intro R hr; exact ⟨sign_pc (dot_sign _), pe_ok hp R hr⟩
  | con h _ _ ih =>
    intro R hr
    refine ⟨sign_pc (sign_open _).1, name_pc h (stop_sp _), okPcs_app (ih _ ?_) ⟨sign_pc (sign_open _).2.1, trivial⟩⟩
    rw [pcsL_one, mark_bytes.2.1]
    exact stop_close _
  | cons _ _ _ ih1 ih2 =>
    intro R hr
    exact okPcs_app (ih1 _ (stop_sp _)) (ih2 R hr)

end Go.Proofs.YteaojmcfppbgiaaGreatDoor
