/- What token.All hands back, as the tokens of a reader. No program. -/
import Derived.Test.YteaojmcfppbgiaaGreatDoorB6
import Derived.ProofKit
import Derived.BigRegion
namespace Go.Proofs.YteaojmcfppbgiaaGreatDoor
open Go.RowKit
set_option linter.unusedVariables false
set_option maxRecDepth 100000

theorem tk_cons (t : Tk) (L : List Tk) (k : Nat) : tk (t :: L) (k + 1) = tk L k := rfl
theorem cellsL_at : ∀ (L : List Tk) (i : Nat), i < L.length → (cellsL L)[i * 3]? = some (.int .i64 (tk L i).1) ∧ (cellsL L)[i * 3 + 1]? = some (.string (tk L i).2.1) ∧ (cellsL L)[i * 3 + 2]? = some (.int .i64 (tk L i).2.2)
  | (k, u, a) :: L, 0, _ => ⟨rfl, rfl, rfl⟩
  | (k, u, a) :: L, i + 1, h => by
    obtain ⟨h1, h2, h3⟩ := cellsL_at L i (by simpa using h)
    have e : (i + 1) * 3 = i * 3 + 1 + 1 + 1 := by omega
    rw [tk_cons, e]
    refine ⟨?_, ?_, ?_⟩
    · rw [cellsL]; simp only [List.getElem?_cons_succ]; exact h1
    · rw [cellsL, show i * 3 + 1 + 1 + 1 + 1 = (i * 3 + 1) + 1 + 1 + 1 by omega]; simp only [List.getElem?_cons_succ]; exact h2
    · rw [cellsL, show i * 3 + 1 + 1 + 1 + 2 = (i * 3 + 2) + 1 + 1 + 1 by omega]; simp only [List.getElem?_cons_succ]; exact h3
/-- The tokens with the end behind. -/
def withEnd (l : List Tk) (n : Nat) : List Tk := l ++ [(5, ⟨#[]⟩, n)]
theorem withEnd_length (l : List Tk) (n : Nat) : (withEnd l n).length = l.length + 1 := by simp [withEnd]
theorem withEnd_at {l : List Tk} {n i : Nat} (h : i < l.length) : tk (withEnd l n) i = l[i] := by
  unfold tk withEnd
  rw [List.getD_eq_getElem?_getD, List.getElem?_append_left h, List.getElem?_eq_getElem h]; rfl
theorem withEnd_last (l : List Tk) (n : Nat) : tk (withEnd l n) l.length = (5, ⟨#[]⟩, n) := by
  unfold tk withEnd
  rw [List.getD_eq_getElem?_getD, List.getElem?_append_right (Nat.le_refl _), Nat.sub_self]; rfl

theorem one_size {u : ByteArray} {n : Int} (h : bytesL u = [n]) : u.size = 1 := by
  have := congrArg List.length h
  rw [bytesL_length] at this
  simpa using this
theorem tok_kind {t u : ByteArray} {k : Int} {m : Nat} (h : TokOf t k u m) : k ≠ 5 := by
  obtain ⟨_, n, _, ⟨_, _, hw, _⟩ | ⟨_, rfl, _⟩⟩ := h
  · rcases hw with ⟨_, rfl⟩ | ⟨_, _, rfl⟩ | ⟨_, _, _, rfl⟩ | ⟨_, _, _, _, rfl⟩ <;> decide
  · decide
theorem tok_text {t u : ByteArray} {k : Int} {m : Nat} (h : TokOf t k u m) : u.size ≤ t.size + 2 := by
  obtain ⟨_, n, _, ⟨_, _, _, ⟨ns, r, _, rfl⟩, _⟩ | ⟨_, _, hm⟩⟩ := h
  · simp; omega
  · rcases hm with ⟨_, hu, _⟩ | ⟨_, rfl, _⟩ | ⟨_, rfl, _⟩ | ⟨_, _, rfl, _⟩
    · rw [one_size hu]; omega
    · show 1 ≤ _; omega
    · show 2 ≤ _; omega
    · show 2 ≤ _; omega
theorem lex_toks {s : ByteArray} (hs : s.size ≤ 65535) {a c stop : Nat} {l : List Tk} {e : Int} (h : Lex s a c l stop e) : (∀ t ∈ l, t.1 ≠ 5 ∧ t.2.1.size ≤ 65537) ∧ (c ≤ 8192 → c + l.length ≤ 8192) := by
  induction h with
  | done h => exact ⟨fun t ht => absurd ht (by simp), fun h => by simpa using h⟩
  | long _ _ => exact ⟨fun t ht => absurd ht (by simp), fun h => by simpa using h⟩
  | form _ _ _ => exact ⟨fun t ht => absurd ht (by simp), fun h => by simpa using h⟩
  | tok h1 h2 h3 _ ih =>
    refine ⟨fun t ht => ?_, fun hc => ?_⟩
    · rcases List.mem_cons.1 ht with rfl | ht
      · refine ⟨tok_kind h3, ?_⟩
        have h4 := tok_text h3
        simp only [ByteArray.size_extract] at h4
        exact Nat.le_trans h4 (by omega)
      · exact ih.1 t ht
    · have := ih.2 (by omega)
      simp; omega
theorem toks_of {w w' : World} {v : Value} {s : ByteArray} {l : List Tk} {a stop : Nat} (hs : s.size ≤ 65535) (hx : Lex s a 0 l stop 0) (h : AllOut w w' v l s.size 0) :
    ∃ g cap, v = .slice (some ⟨g, 0, none⟩) (l.length + 1) cap ∧ w.heap.size ≤ g ∧ Toks w' g (withEnd l s.size) cap := by
  obtain ⟨hk, hn⟩ := lex_toks hs hx
  have hn := hn (by omega)
  have hrow := h.1 rfl
  rcases hrow.2 with ⟨_, h0⟩ | ⟨g, cap, cur, rfl, hg, hb, h1, h2, _⟩
  · omega
  · refine ⟨g, cap, rfl, hg, by rw [withEnd_length]; exact h1, h2, ?_, fun i hi => ?_, fun i hi => ?_, fun i hi => ?_, by rw [withEnd_length]; omega⟩
    · rcases Nat.lt_or_ge g w'.heap.size with hlt | hge
      · exact hlt
      · rw [Array.getElem?_eq_none hge] at hb; cases hb
    · rw [withEnd_length] at hi
      have e : cellsL l ++ [.int .i64 5, .string ⟨#[]⟩, .int .i64 s.size] = cellsL (withEnd l s.size) := by unfold withEnd; rw [cellsL_append]; rfl
      rw [e] at hrow
      obtain ⟨q1, q2, q3⟩ := cellsL_at (withEnd l s.size) i (by rw [withEnd_length]; exact hi)
      exact ⟨(hrow.cellAt _ (by omega)).trans q1, (hrow.cellAt _ (by omega)).trans q2, (hrow.cellAt _ (by omega)).trans q3⟩
    · rw [withEnd_length] at hi
      rcases Nat.lt_or_ge i l.length with hlt | hge
      · rw [withEnd_at hlt]
        have := (hk _ (List.getElem_mem hlt)).2
        unfold maxLen; omega
      · obtain rfl : i = l.length := by omega
        rw [withEnd_last]
        show (⟨#[]⟩ : ByteArray).size ≤ maxLen
        decide
    · rw [withEnd_length] at hi ⊢
      rcases Nat.lt_or_ge i l.length with hlt | hge
      · rw [withEnd_at hlt]
        have := (hk _ (List.getElem_mem hlt)).1
        exact ⟨fun h => absurd h this, fun h => by omega⟩
      · obtain rfl : i = l.length := by omega
        rw [withEnd_last]
        exact ⟨fun _ => rfl, fun _ => rfl⟩
end Go.Proofs.YteaojmcfppbgiaaGreatDoor

/- parse.read of patterns: a text cut, and read to its end. -/
namespace Go.Proofs.YteaojmcfppbgiaaGreatDoor
open Go.RowKit
set_option linter.unusedVariables false
set_option maxRecDepth 100000

theorem Kp.under {r B : Nat} {w w' : World} (h : Kp r w w') (hr : B ≤ r) (hB : B ≤ w.heap.size) : Below B w w' := ⟨h.os, h.tape, h.output, h.size, fun k hk => h.block k (by omega) (fun e => by injection e; omega)⟩
/-- What is left at the end is none's. -/
def endS (L : List Tk) (s : St) : St := if enB L s.k then s else badS L s
def s0 : St := ⟨0, 0, 0⟩
theorem NodesAt.wide {w : World} {lo hi lo' hi' : Nat} {A : Option Addr} {l : List RT} (h : NodesAt w lo hi A l) (h1 : lo' ≤ lo) (h2 : hi ≤ hi') : NodesAt w lo' hi' A l := by
  intro i hi0
  obtain ⟨b, o, F, C, hA, h3, h4, h5, h6⟩ := h i hi0
  exact ⟨b, o, F, C, hA, by omega, by omega, h5, h6.wide h1 h2⟩

end Go.Proofs.YteaojmcfppbgiaaGreatDoor

/- parse.Pats, parse.read of an expression, parse.Expr: a text cut, and read to its end. -/
namespace Go.Proofs.YteaojmcfppbgiaaGreatDoor
open Go.RowKit
set_option linter.unusedVariables false
set_option maxRecDepth 100000

end Go.Proofs.YteaojmcfppbgiaaGreatDoor

/- parse.Expr: a text that is one expression. -/
namespace Go.Proofs.YteaojmcfppbgiaaGreatDoor
open Go.RowKit
set_option linter.unusedVariables false
set_option maxRecDepth 100000

end Go.Proofs.YteaojmcfppbgiaaGreatDoor

/- Wholes as relations: an expression, patterns; there is one at every state; the program's functions do just this. -/
namespace Go.Proofs.YteaojmcfppbgiaaGreatDoor
open Go.RowKit
set_option linter.unusedVariables false
set_option maxRecDepth 100000

/-- An expression that is no part of another one. -/
def ExprR (L : List Tk) (s : St) (t : RT) (s' : St) : Prop := ∃ s1, RE L .expr s [t] s1 ∧ wholeS L s t s1 = s'
/-- Patterns, each of them whole, n being those ahead. -/
inductive PatsR (L : List Tk) : Nat → St → List RT → St → Prop
  | stop {n : Nat} {s : St} : ¬ (s.e = 0 ∧ ptB L s.k = true) → PatsR L n s [] s
  | full {n : Nat} {s : St} : s.e = 0 → ptB L s.k = true → n = 24 → PatsR L n s [] (failS L s (tk L s.k).2.2 2)
  | next {n : Nat} {s s1 s2 : St} {t : RT} {l : List RT} : s.e = 0 → ptB L s.k = true → n ≠ 24 → RE L .pat s [t] s1 → PatsR L (n + 1) (wholeS L s t s1) l s2 → PatsR L n s (t :: l) s2

theorem exprR_one {L : List Tk} {s s' : St} {t : RT} (h : ExprR L s t s') (r g cap : Nat) : One 38 r g L cap s t s' := by
  obtain ⟨s1, hr, rfl⟩ := h
  exact expression_c (one_of (re_ok hr))
theorem patsR_chain {L : List Tk} {n : Nat} {s s' : St} {l : List RT} (h : PatsR L n s l s') (r g cap : Nat) : Chain L (One 82 r g L cap) (ptB L) 24 n s l s' := by
  induction h with
  | stop h => exact .stop h
  | full h1 h2 h3 => exact .full h1 h2 h3
  | next h1 h2 h3 h4 _ ih => exact .next h1 h2 h3 (pattern_c (one_of (re_ok h4))) ih

theorem whole_lt {L : List Tk} {s s1 : St} {t : RT} (h : Fwd L s s1) : Fwd L s (wholeS L s t s1) := by
  unfold wholeS
  split
  · exact h.trans (fail_fwd h.1 _ _)
  · exact h
theorem exprR_ex {L : List Tk} (hL : EndAt L) (s : St) (hk : s.k < L.length) : ∃ t s', ExprR L s t s' ∧ Fwd L s s' := by
  obtain ⟨t, s1, hr, hf⟩ := (reads_all hL s hk).expr
  exact ⟨t, _, ⟨s1, hr, rfl⟩, whole_lt hf⟩
theorem patsR_ex {L : List Tk} (hL : EndAt L) (m : Nat) : ∀ (n : Nat) (s : St), 24 - n ≤ m → n ≤ 24 → s.k < L.length → ∃ l s', PatsR L n s l s' ∧ s.k ≤ s'.k ∧ s'.k < L.length := by
  induction m with
  | zero =>
    intro n s h1 h2 hk
    by_cases hp : s.e = 0 ∧ ptB L s.k = true
    · have := fail_fwd (L := L) hk (tk L s.k).2.2 2
      exact ⟨_, _, .full hp.1 hp.2 (by omega), this.2.1, this.1⟩
    · exact ⟨_, _, .stop hp, Nat.le_refl _, hk⟩
  | succ m ih =>
    intro n s h1 h2 hk
    by_cases hp : s.e = 0 ∧ ptB L s.k = true
    · by_cases hn : n = 24
      · have := fail_fwd (L := L) hk (tk L s.k).2.2 2
        exact ⟨_, _, .full hp.1 hp.2 hn, this.2.1, this.1⟩
      · obtain ⟨t, s1, hr, hf⟩ := (reads_all hL s hk).pat
        have hw := whole_lt (t := t) hf
        obtain ⟨l, s2, hr2, h3, h4⟩ := ih (n + 1) (wholeS L s t s1) (by omega) (by omega) hw.1
        exact ⟨_, _, .next hp.1 hp.2 hn hr hr2, Nat.le_trans hw.2.1 h3, h4⟩
    · exact ⟨_, _, .stop hp, Nat.le_refl _, hk⟩

end Go.Proofs.YteaojmcfppbgiaaGreatDoor
