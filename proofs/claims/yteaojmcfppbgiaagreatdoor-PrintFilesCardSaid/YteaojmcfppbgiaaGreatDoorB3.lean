/- parse.list over nodes: one after the other, as long as there are more, but not more than there may be. The reader alone is written. -/
import Derived.Test.YteaojmcfppbgiaaGreatDoorB2
import Derived.Test.YteaojmcfppbgiaaGreatDoorB1
import Derived.ProofKit
namespace Go.Proofs.YteaojmcfppbgiaaGreatDoor
open Go.RowKit
set_option linter.unusedVariables false
set_option maxRecDepth 100000

theorem Kp.next {r : Nat} {w w1 w2 : World} (h : Kp r w w1) (hb : Below w.heap.size w1 w2) : Kp r w w2 := ⟨hb.os.trans h.os, hb.tape.trans h.tape, hb.output.trans h.output, Nat.le_trans h.size hb.size, fun k hk hr => (hb.block k hk).trans (h.block k hk hr)⟩
/-- A node, and the reader moved. -/
def TreeR (t : RT) (r g : Nat) (L : List Tk) (cap : Nat) (s' : St) (w : World) (e : Ending) (w' : World) : Prop :=
  ∃ A c, e = .returned (nodeV t A c) ∧ IsNode w' w.heap.size w'.heap.size t A c ∧ Rd w' r g L cap s' ∧ Kp r w w'
/-- What one call of function number f does. -/
def One (f : Nat) (r g : Nat) (L : List Tk) (cap : Nat) (s : St) (t : RT) (s' : St) : Prop :=
  ∀ w, Rd w r g L cap s → Calls Tryz.prog f #[.pointer (some ⟨r, 0, none⟩)] w (TreeR t r g L cap s' w)
end Go.Proofs.YteaojmcfppbgiaaGreatDoor

/- A token's field, out of a call's result. -/
namespace Go.Proofs.YteaojmcfppbgiaaGreatDoor
open Go.RowKit

@[go_sem] theorem run_field_at (a : Int) (s : ByteArray) (b : Int) (w : World) : (Instr.field 143 (.agg #[.int .i64 a, .string s, .int .i64 b]) 2).run Tryz.prog w = .ok (.int .i64 b) w := by
  simp [Instr.field, run_underlying Tryz.underlying143, part, asAgg, isAgg, run_underlying Tryz.underlying3, go_sem]
@[go_sem] theorem run_field_text (a : Int) (s : ByteArray) (b : Int) (w : World) : (Instr.field 143 (.agg #[.int .i64 a, .string s, .int .i64 b]) 1).run Tryz.prog w = .ok (.string s) w := by
  simp [Instr.field, run_underlying Tryz.underlying143, part, asAgg, isAgg, run_underlying Tryz.underlying9, go_sem]

end Go.Proofs.YteaojmcfppbgiaaGreatDoor

/- parse.list over patterns: within a pattern, and as wholes. The reader alone is written. -/
namespace Go.Proofs.YteaojmcfppbgiaaGreatDoor
open Go.RowKit
set_option linter.unusedVariables false
set_option maxRecDepth 100000

end Go.Proofs.YteaojmcfppbgiaaGreatDoor
