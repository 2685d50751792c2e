/- The texts that the law ParseLimits reads: what parse says of them. No walk. -/
import Derived.Test.YtkccjfbgepmfkaaB8
import Derived.Test.YtkccjfbgepmfkaaC3
namespace Go.Proofs.Ytkccjfbgepmfkaa
open Go.RowKit
set_option linter.unusedVariables false
set_option maxRecDepth 100000

def limF : ByteArray := ⟨#[102]⟩
def limX : ByteArray := ⟨#[120]⟩
/-- 'f' and m times ' x'. -/
def limE (m : Nat) : List Pc := match m with
  | 0 => [(1, limF, 0)]
  | m + 1 => (1, limF, 1) :: (List.replicate m (1, limX, 1) ++ [(1, limX, 0)])
def limL (m : Nat) : List Tk := withEnd (toksPc (limE m) 0) (2 * m + 1)
theorem limE_ok : okPc (limE 126) = true ∧ okPc (limE 127) = true ∧ okPc (limE 128) = true := by
  refine ⟨?_, ?_, ?_⟩ <;> kernel_rfl
def limB (m : Nat) (e f : Int) : Bool := match exprC (limL m) 600 s0 with
  | some (t, s') => decide ((endS (limL m) s').e = e) && decide ((endS (limL m) s').f = f)
  | none => false
theorem lim_true : limB 126 0 0 = true ∧ limB 127 0 0 = true ∧ limB 128 2 0 = true := by
  refine ⟨?_, ?_, ?_⟩ <;> kernel_rfl
/-- m times 'x '. -/
def limP (m : Nat) : List Pc := List.replicate m (1, limX, 1)
def limPL (m : Nat) : List Tk := withEnd (toksPc (limP m) 0) (2 * m)
theorem limP_ok : okPc (limP 23) = true ∧ okPc (limP 24) = true ∧ okPc (limP 25) = true := by
  refine ⟨?_, ?_, ?_⟩ <;> kernel_rfl
def limPB (m : Nat) (n : Nat) (e f : Int) : Bool := match patsC (limPL m) 600 s0 with
  | some (l, s') => decide (l.length = n) && (decide ((endS (limPL m) s').e = e) && decide ((endS (limPL m) s').f = f))
  | none => false
theorem limP_true : limPB 23 23 0 0 = true ∧ limPB 24 24 0 0 = true ∧ limPB 25 24 2 48 = true := by
  refine ⟨?_, ?_, ?_⟩ <;> kernel_rfl
/-- 'def f : Set {', m times 'x;', '}'. -/
def limD (m : Nat) : List Pc := [(2, ⟨#[100, 101, 102]⟩, 1), (1, limF, 1), (4, ⟨#[58]⟩, 1), (2, ⟨#[83, 101, 116]⟩, 1), (4, ⟨#[123]⟩, 0)] ++ ((List.replicate m [(1, limX, 0), (4, ⟨#[59]⟩, 0)]).flatten ++ [(4, ⟨#[125]⟩, 0)])
def limDL (m : Nat) : List Tk := withEnd (toksPc (limD m) 0) (14 + 2 * m)
theorem limD_ok : okPc (limD 31) = true ∧ okPc (limD 32) = true ∧ okPc (limD 33) = true := by
  refine ⟨?_, ?_, ?_⟩ <;> kernel_rfl
def limDB (m : Nat) (n : Nat) (e f : Int) : Bool := match fileC (limDL m) 600 s0 with
  | some (l, s') => decide ((endS (limDL m) s').e = e) && (decide ((endS (limDL m) s').f = f) && (match l with
    | [d] => decide (d.ro.length = n)
    | _ => false))
  | none => false
theorem limD_true : limDB 31 31 0 0 = true ∧ limDB 32 32 0 0 = true ∧ limDB 33 32 2 77 = true := by
  refine ⟨?_, ?_, ?_⟩ <;> kernel_rfl

end Go.Proofs.Ytkccjfbgepmfkaa
