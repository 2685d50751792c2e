/-
  NARROWER THAN 'FOR EVERY INPUT', by the rows' own cells (each row's printed sentence says how): NormAgain: loops, laid · NormValues: loops, laid · NormNil: loops, laid.
  DERIVED. THE GIVEN ROWS OF THIS SEAT. 3 by the template 'for every input the law returns true; each argument reads behind the call as it read before'; 0 by the template 'total and deterministic' (their statements: YtondjkeakfkefaaGreatDoorTotals.lean).
  GIVEN WITH THE SEED: the statements are not yours to turn. If you find one false, say at which input.
  Laid BY PROGRAM, IN A SANDBOX (cutbox-rows.mjs): the forced cells as the released guide's own fill.sh prints them over the translation d65c6e9a38ac5f3d… (all of the seat's roots in one cut). By AI agents, Wed Nov 11 2026. No macro, syntax, notation, axiom, sorry.
-/
import Derived.Test.YtondjkeakfkefaaGreatDoorChecked
import GoSem.Claim
import GoSem.ClaimJoined
import GoSem.ClaimMapViews
import Derived.JoinedTies
import Derived.KernelRfl
namespace Go.Proofs.YtondjkeakfkefaaGreatDoor
/- THE CELL 'sum', in the pinned program and in every row, IS THE sha256 OF THE DUMP (.gsa) THAT YtondjkeakfkefaaGreatDoorProg.lean LOADS. Nothing in Lean hashes anything: it is a label: what it is worth is what the hold of that sum in a sandbox is worth. -/
noncomputable def Tryz.pinned : Pinned := { name := "ytondjkeakfkefaagreatdoor", sum := "d65c6e9a38ac5f3d52859f68e66f50f07a11650efafa9c38b38f922c6c16a142", checked := Tryz.checked }
namespace Rows
def none {H : Type} : Left H := { results := [], args := [] }

/- WHAT THE LISTED PACKAGE-LEVEL VARIABLES READ AS WHEN THE CALL BEGINS. Each datum BY PROGRAM (the guide's laid-datum.mjs) off the statement by which the dump's own 'gosem.cut.vars' lays the variable. In a bare row this is a premise. The card (YtondjkeakfkefaaGreatDoorCards.lean) ties it to the program's text. -/
def laid_scholium_term_shapes {H : Type} : DataW H := .agg [.agg [.lit (.int .i64 0), .lit (.int .i64 0), .lit (.int .i64 0), .agg [.lit (.int .i64 0), .lit (.int .i64 0)]], .agg [.lit (.int .i64 1048576), .lit (.int .i64 0), .lit (.int .i64 0), .agg [.lit (.int .i64 0), .lit (.int .i64 0)]], .agg [.lit (.int .i64 7), .lit (.int .i64 0), .lit (.int .i64 0), .agg [.lit (.int .i64 0), .lit (.int .i64 0)]], .agg [.lit (.int .i64 0), .lit (.int .i64 2), .lit (.int .i64 0), .agg [.lit (.int .i64 0), .lit (.int .i64 1)]], .agg [.lit (.int .i64 0), .lit (.int .i64 2), .lit (.int .i64 0), .agg [.lit (.int .i64 0), .lit (.int .i64 1)]], .agg [.lit (.int .i64 0), .lit (.int .i64 2), .lit (.int .i64 0), .agg [.lit (.int .i64 0), .lit (.int .i64 0)]], .agg [.lit (.int .i64 1048576), .lit (.int .i64 0), .lit (.int .i64 0), .agg [.lit (.int .i64 0), .lit (.int .i64 0)]], .agg [.lit (.int .i64 1048576), .lit (.int .i64 1), .lit (.int .i64 2), .agg [.lit (.int .i64 0), .lit (.int .i64 0)]], .agg [.lit (.int .i64 1048576), .lit (.int .i64 0), .lit (.int .i64 0), .agg [.lit (.int .i64 0), .lit (.int .i64 0)]]]

/-- 'scholiumlaw15.NormAgain': WHATEVER THE INPUT: true; the input reads as it did. -/
def normAgainSpec : ChangeSpec := { name := "normAgain", fn := fun _ => fun
  | [d1, d2] => { results := [.lit (.bool true)], args := [d1, d2] }
  | _ => none }
def normAgainRow : OpenClaim := { program := "ytondjkeakfkefaagreatdoor", sum := "d65c6e9a38ac5f3d52859f68e66f50f07a11650efafa9c38b38f922c6c16a142", func := "scholium/scholiumlaw15.NormAgain", spec := "normAgain", inPlace := ["sync/atomic.StoreInt64", "sync/atomic.LoadInt64", "sync/atomic.CompareAndSwapInt64"], unfollowed := true, recurses := true, named := ["scholium/term.shapes"], loops := true, apart := false, laid := [("scholium/term.shapes", laid_scholium_term_shapes)] }
def NormAgainSaid : Prop := normAgainRow.holds Tryz.pinned (OpenSpec.ofChange normAgainSpec)

/-- ITS FALSE NEIGHBOUR: 'it returns false'. Refute it at one input. -/
def normAgainWrong : ChangeSpec := { name := "normAgain", fn := fun _ => fun
  | [d1, d2] => { results := [.lit (.bool false)], args := [d1, d2] }
  | _ => none }
def NormAgainWrongFalsely : Prop := normAgainRow.holds Tryz.pinned (OpenSpec.ofChange normAgainWrong)

/-- 'scholiumlaw15.NormValues': WHATEVER THE INPUT: true; the input reads as it did. -/
def normValuesSpec : ChangeSpec := { name := "normValues", fn := fun _ => fun
  | [d1, d2] => { results := [.lit (.bool true)], args := [d1, d2] }
  | _ => none }
def normValuesRow : OpenClaim := { program := "ytondjkeakfkefaagreatdoor", sum := "d65c6e9a38ac5f3d52859f68e66f50f07a11650efafa9c38b38f922c6c16a142", func := "scholium/scholiumlaw15.NormValues", spec := "normValues", inPlace := ["sync/atomic.StoreInt64", "sync/atomic.LoadInt64", "sync/atomic.CompareAndSwapInt64"], unfollowed := true, recurses := true, named := ["scholium/term.shapes"], loops := true, apart := false, laid := [("scholium/term.shapes", laid_scholium_term_shapes)] }
def NormValuesSaid : Prop := normValuesRow.holds Tryz.pinned (OpenSpec.ofChange normValuesSpec)

/-- ITS FALSE NEIGHBOUR: 'it returns false'. Refute it at one input. -/
def normValuesWrong : ChangeSpec := { name := "normValues", fn := fun _ => fun
  | [d1, d2] => { results := [.lit (.bool false)], args := [d1, d2] }
  | _ => none }
def NormValuesWrongFalsely : Prop := normValuesRow.holds Tryz.pinned (OpenSpec.ofChange normValuesWrong)

/-- 'scholiumlaw15.NormNil': WHATEVER THE INPUT: true; the input reads as it did. -/
def normNilSpec : ChangeSpec := { name := "normNil", fn := fun _ => fun
  | [d] => { results := [.lit (.bool true)], args := [d] }
  | _ => none }
def normNilRow : OpenClaim := { program := "ytondjkeakfkefaagreatdoor", sum := "d65c6e9a38ac5f3d52859f68e66f50f07a11650efafa9c38b38f922c6c16a142", func := "scholium/scholiumlaw15.NormNil", spec := "normNil", inPlace := ["sync/atomic.StoreInt64", "sync/atomic.LoadInt64", "sync/atomic.CompareAndSwapInt64"], unfollowed := true, recurses := true, named := ["scholium/term.shapes"], loops := true, apart := false, laid := [("scholium/term.shapes", laid_scholium_term_shapes)] }
def NormNilSaid : Prop := normNilRow.holds Tryz.pinned (OpenSpec.ofChange normNilSpec)

/-- ITS FALSE NEIGHBOUR: 'it returns false'. Refute it at one input. -/
def normNilWrong : ChangeSpec := { name := "normNil", fn := fun _ => fun
  | [d] => { results := [.lit (.bool false)], args := [d] }
  | _ => none }
def NormNilWrongFalsely : Prop := normNilRow.holds Tryz.pinned (OpenSpec.ofChange normNilWrong)

/- THE SECOND FORM. 'bulk': how many values and letters a reading holds, each counted each time it is reached (what is shared counts as often as it is met; a slice's spare places count too). A statement '..UptoSaid' is the law's where the arguments, and the package variables that the reading takes, are together of bulk at most 1048576: NARROWER than '..Said'. Prove '..Said' where nothing that the law and all that it calls make is longer than what came in: it says more and counts as full. Else prove '..UptoSaid'. A law counts once. -/
mutual
def uptoBulk {H : Type} : DataW H → Nat
  | .lit (.string bytes) => bytes.length + 1
  | .lit _ => 1
  | .nil => 1
  | .ptr d => uptoBulk d + 1
  | .slice elems spare => uptoBulkAll elems + uptoBulkAll spare + 1
  | .agg parts => uptoBulkAll parts + 1
  | .iface _ d => uptoBulk d + 1
  | .map entries => uptoBulkEntries entries + 1
  | .held _ => 1
def uptoBulkAll {H : Type} : List (DataW H) → Nat
  | [] => 0
  | d :: r => uptoBulk d + uptoBulkAll r
def uptoBulkEntries {H : Type} : List (Lit × DataW H) → Nat
  | [] => 0
  | x :: r => uptoBulkEntry x + uptoBulkEntries r
def uptoBulkEntry {H : Type} : Lit × DataW H → Nat
  | (.string bytes, d) => bytes.length + uptoBulk d + 1
  | (_, d) => uptoBulk d + 1
 end
def uptoSmall : (H : Type) → List (DataW H) → Bool := fun _ ds => decide (uptoBulkAll ds ≤ 1048576)
def OpenSpec.upto (s : _root_.Go.ChangeSpec) : _root_.Go.OpenSpec := { _root_.Go.OpenSpec.ofChange s with cond := some uptoSmall }

/-- 'scholiumlaw15.NormAgain', WHERE WHAT IT READS IS OF BULK AT MOST 1048576: true; the input reads as it did. -/
def normAgainUptoRow : OpenClaim := { program := "ytondjkeakfkefaagreatdoor", sum := "d65c6e9a38ac5f3d52859f68e66f50f07a11650efafa9c38b38f922c6c16a142", func := "scholium/scholiumlaw15.NormAgain", spec := "normAgain", inPlace := ["sync/atomic.StoreInt64", "sync/atomic.LoadInt64", "sync/atomic.CompareAndSwapInt64"], unfollowed := true, recurses := true, named := ["scholium/term.shapes"], loops := true, apart := false, laid := [("scholium/term.shapes", laid_scholium_term_shapes)], narrowed := true }
def NormAgainUptoSaid : Prop := normAgainUptoRow.holds Tryz.pinned (OpenSpec.upto normAgainSpec)

/-- 'scholiumlaw15.NormValues', WHERE WHAT IT READS IS OF BULK AT MOST 1048576: true; the input reads as it did. -/
def normValuesUptoRow : OpenClaim := { program := "ytondjkeakfkefaagreatdoor", sum := "d65c6e9a38ac5f3d52859f68e66f50f07a11650efafa9c38b38f922c6c16a142", func := "scholium/scholiumlaw15.NormValues", spec := "normValues", inPlace := ["sync/atomic.StoreInt64", "sync/atomic.LoadInt64", "sync/atomic.CompareAndSwapInt64"], unfollowed := true, recurses := true, named := ["scholium/term.shapes"], loops := true, apart := false, laid := [("scholium/term.shapes", laid_scholium_term_shapes)], narrowed := true }
def NormValuesUptoSaid : Prop := normValuesUptoRow.holds Tryz.pinned (OpenSpec.upto normValuesSpec)

/-- 'scholiumlaw15.NormNil', WHERE WHAT IT READS IS OF BULK AT MOST 1048576: true; the input reads as it did. -/
def normNilUptoRow : OpenClaim := { program := "ytondjkeakfkefaagreatdoor", sum := "d65c6e9a38ac5f3d52859f68e66f50f07a11650efafa9c38b38f922c6c16a142", func := "scholium/scholiumlaw15.NormNil", spec := "normNil", inPlace := ["sync/atomic.StoreInt64", "sync/atomic.LoadInt64", "sync/atomic.CompareAndSwapInt64"], unfollowed := true, recurses := true, named := ["scholium/term.shapes"], loops := true, apart := false, laid := [("scholium/term.shapes", laid_scholium_term_shapes)], narrowed := true }
def NormNilUptoSaid : Prop := normNilUptoRow.holds Tryz.pinned (OpenSpec.upto normNilSpec)

end Rows
end Go.Proofs.YtondjkeakfkefaaGreatDoor
