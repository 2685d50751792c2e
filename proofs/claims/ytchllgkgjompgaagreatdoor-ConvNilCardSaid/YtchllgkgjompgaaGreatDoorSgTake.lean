/- Steps of a drawn region, shorter said. No program. -/
import Derived.OrdersHeld
import Derived.Says
namespace Go.Proofs.YtchllgkgjompgaaGreatDoor

set_option linter.unusedVariables false

section
variable {P : Program} {md : Region.Mode} {ops : Array Oper} {Q : Exit → Act → World → Prop} {S : World → Prop}
/-- Slots that are left empty, one after another. -/
def offA : List (Nat × Nat) → Act → Act
  | [], a => a
  | p :: r, a => offA r (a.put (some p.2) undef)
def offL : List (Nat × Nat) → Array Bool → Array Bool
  | [], l => l
  | p :: r, l => offL r (l.setIfInBounds p.1 true)
def offOk (md : Region.Mode) (ops : Array Oper) : List (Nat × Nat) → Array Bool → Act → Bool
  | [], _, _ => true
  | p :: r, l, a => (match ops[p.1]? with
    | some o => o.dst == some p.2 && (Region.free md ops l p.1 && ((Region.ready md ops l).contains p.1 && !(Region.wanted o (yielded ops a.tmps))))
    | none => false) && offOk md ops r (l.setIfInBounds p.1 true) (a.put (some p.2) undef)
/-- Operations whose guards say no, taken one after another. -/
theorem tko {w : World} {fuel : Nat} (hs : Region.noSelect ops = true) (hQ : ∀ c a w (d : Nat), Q (.panic c) (a.put (some d) undef) w → Q (.panic c) a w) (hS : S w) : ∀ (is : List (Nat × Nat)) (n : Nat) (hn : is.length = n) (l : Array Bool) (a : Act), offOk md ops is l a = true →
    wpAnyH P md ops Q S fuel (offL is l) (offA is a) w → wpAnyH P md ops Q S (fuel + n) l a w
  | [], n, hn, l, a, _, h => by subst hn; exact h
  | p :: r, n, hn, l, a, hb, h => by
    subst hn
    unfold offOk at hb
    rw [Bool.and_eq_true] at hb
    obtain ⟨h1, h2⟩ := hb
    cases ho : ops[p.1]? with
    | none => rw [ho] at h1; cases h1
    | some o =>
      rw [ho] at h1
      simp only [Bool.and_eq_true, beq_iff_eq] at h1
      obtain ⟨e1, e2, e3, e4⟩ := h1
      refine wpAnyH_take (i := p.1) (oi := o) (v := undef) ho hs e2 e3 (fun c a w h => hQ c a w p.2 (by rw [e1] at h; exact h)) (Or.inr ⟨by simpa using e4, rfl⟩) hS ?_
      rw [e1]
      exact tko hs hQ hS r _ rfl _ _ h2 h
/-- One operation that yields. -/
theorem tk {i : Nat} {oi : Oper} {v : Value} {fuel : Nat} {l : Array Bool} {a : Act} {w : World} (hi : ops[i]? = some oi) (hb : (Region.noSelect ops && (Region.free md ops l i && (Region.ready md ops l).contains i)) = true)
    (hQ : ∀ c a w, Q (.panic c) (a.put oi.dst v) w → Q (.panic c) a w) (hw : Region.wanted oi (yielded ops a.tmps) = true) (hy : ∀ w, S w → (execOp a.eval oi).run P w = .ok (.value v) w) (hS : S w)
    (h : wpAnyH P md ops Q S fuel (l.setIfInBounds i true) (a.put oi.dst v) w) : wpAnyH P md ops Q S (fuel + 1) l a w := by
  simp only [Bool.and_eq_true] at hb
  exact wpAnyH_take hi hb.1 hb.2.1 hb.2.2 hQ (Or.inl ⟨hw, hy⟩) hS h
/-- The same with the numbers of the steps to come beside it. -/
def wpPl (P : Program) (md : Region.Mode) (ops : Array Oper) (Q : Exit → Act → World → Prop) (S : World → Prop) (fuel : Nat) (is : List Nat) (l : Array Bool) (a : Act) (w : World) : Prop := wpAnyH P md ops Q S fuel l a w
theorem tkp {l : Array Bool} {a : Act} {w : World} {fuel : Nat} (is : List Nat) (h : wpPl P md ops Q S fuel is l a w) : wpAnyH P md ops Q S fuel l a w := h
theorem tke {l : Array Bool} {a : Act} {w : World} {fuel : Nat} (h : wpAnyH P md ops Q S fuel l a w) : wpPl P md ops Q S fuel [] l a w := h
def opAt : List Oper → Nat → Option Oper
  | [], _ => none
  | o :: _, 0 => some o
  | _ :: r, n + 1 => opAt r n
theorem opAt_eq : ∀ (l : List Oper) (i : Nat), opAt l i = l[i]?
  | [], _ => by simp [opAt]
  | o :: _, 0 => by simp [opAt]
  | _ :: r, n + 1 => by simp [opAt, opAt_eq r n]
/-- One operation that yields, the first of the plan. -/
theorem tkq {i : Nat} {is : List Nat} {oi : Oper} {v : Value} {fuel : Nat} {l : Array Bool} {a : Act} {w : World} (hi : opAt ops.toList i = some oi) (hb : (Region.noSelect ops && (Region.free md ops l i && (Region.ready md ops l).contains i)) = true)
    (hQ : ∀ c a w, Q (.panic c) (a.put oi.dst v) w → Q (.panic c) a w) (hw : Region.wanted oi (yielded ops a.tmps) = true) (hS : S w) (hy : ∀ w, S w → (execOp a.eval oi).run P w = .ok (.value v) w)
    (h : wpPl P md ops Q S fuel is (l.setIfInBounds i true) (a.put oi.dst v) w) : wpPl P md ops Q S (fuel + 1) (i :: is) l a w :=
  tk (by rw [opAt_eq, Array.getElem?_toList] at hi; exact hi) hb hQ hw hy hS h
end

end Go.Proofs.YtchllgkgjompgaaGreatDoor
