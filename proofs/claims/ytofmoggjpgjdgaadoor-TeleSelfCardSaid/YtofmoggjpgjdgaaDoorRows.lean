/-
  NARROWER THAN 'FOR EVERY INPUT', by the rows' own cells (each row's printed sentence says how): TeleArounds: loops, laid · TeleSplits: loops, laid · TeleTypes: loops, laid · TeleResults: loops, laid · TeleBack: loops, laid · TeleSelf: loops, laid.
  DERIVED. THE GIVEN ROWS OF THIS SEAT. 6 by the template 'for every input the law returns true; each argument reads behind the call as it read before'; 0 by the template 'total and deterministic' (their statements: YtofmoggjpgjdgaaDoorTotals.lean).
  GIVEN WITH THE SEED: the statements are not yours to turn. If you find one false, say at which input.
  Laid BY PROGRAM, IN A SANDBOX (cutbox-rows.mjs): the forced cells as the released guide's own fill.sh prints them over the translation 417ef28596fa264d… (all of the seat's roots in one cut). By AI agents, Wed Nov 11 2026. No macro, syntax, notation, axiom, sorry.
-/
import Derived.Test.YtofmoggjpgjdgaaDoorChecked
import GoSem.Claim
import GoSem.ClaimJoined
import GoSem.ClaimMapViews
import Derived.JoinedTies
import Derived.KernelRfl
namespace Go.Proofs.YtofmoggjpgjdgaaDoor
/- THE CELL 'sum', in the pinned program and in every row, IS THE sha256 OF THE DUMP (.gsa) THAT YtofmoggjpgjdgaaDoorProg.lean LOADS. Nothing in Lean hashes anything: it is a label: what it is worth is what the hold of that sum in a sandbox is worth. -/
noncomputable def Tryd.pinned : Pinned := { name := "ytofmoggjpgjdgaadoor", sum := "417ef28596fa264d2d16d5a543c0f532e336963df2ab16d0f416c9d6132ce1e8", checked := Tryd.checked }
namespace Rows
def none {H : Type} : Left H := { results := [], args := [] }

/- WHAT THE LISTED PACKAGE-LEVEL VARIABLES READ AS WHEN THE CALL BEGINS. Each datum BY PROGRAM (the guide's laid-datum.mjs) off the statement by which the dump's own 'gosem.cut.vars' lays the variable. In a bare row this is a premise. The card (YtofmoggjpgjdgaaDoorCards.lean) ties it to the program's text. -/
def laid_scholium_term_shapes {H : Type} : DataW H := .agg [.agg [.lit (.int .i64 0), .lit (.int .i64 0), .lit (.int .i64 0), .agg [.lit (.int .i64 0), .lit (.int .i64 0)]], .agg [.lit (.int .i64 1048576), .lit (.int .i64 0), .lit (.int .i64 0), .agg [.lit (.int .i64 0), .lit (.int .i64 0)]], .agg [.lit (.int .i64 7), .lit (.int .i64 0), .lit (.int .i64 0), .agg [.lit (.int .i64 0), .lit (.int .i64 0)]], .agg [.lit (.int .i64 0), .lit (.int .i64 2), .lit (.int .i64 0), .agg [.lit (.int .i64 0), .lit (.int .i64 1)]], .agg [.lit (.int .i64 0), .lit (.int .i64 2), .lit (.int .i64 0), .agg [.lit (.int .i64 0), .lit (.int .i64 1)]], .agg [.lit (.int .i64 0), .lit (.int .i64 2), .lit (.int .i64 0), .agg [.lit (.int .i64 0), .lit (.int .i64 0)]], .agg [.lit (.int .i64 1048576), .lit (.int .i64 0), .lit (.int .i64 0), .agg [.lit (.int .i64 0), .lit (.int .i64 0)]], .agg [.lit (.int .i64 1048576), .lit (.int .i64 1), .lit (.int .i64 2), .agg [.lit (.int .i64 0), .lit (.int .i64 0)]], .agg [.lit (.int .i64 1048576), .lit (.int .i64 0), .lit (.int .i64 0), .agg [.lit (.int .i64 0), .lit (.int .i64 0)]]]

/-- 'scholiumlaw10.TeleArounds': WHATEVER THE INPUT: true; the input reads as it did. -/
def teleAroundsSpec : ChangeSpec := { name := "teleArounds", fn := fun _ => fun
  | [d1, d2] => { results := [.lit (.bool true)], args := [d1, d2] }
  | _ => none }
def teleAroundsRow : OpenClaim := { program := "ytofmoggjpgjdgaadoor", sum := "417ef28596fa264d2d16d5a543c0f532e336963df2ab16d0f416c9d6132ce1e8", func := "scholium/scholiumlaw10.TeleArounds", spec := "teleArounds", unfollowed := true, recurses := true, named := ["scholium/term.shapes"], loops := true, apart := false, laid := [("scholium/term.shapes", laid_scholium_term_shapes)] }
def TeleAroundsSaid : Prop := teleAroundsRow.holds Tryd.pinned (OpenSpec.ofChange teleAroundsSpec)

/-- ITS FALSE NEIGHBOUR: 'it returns false'. Refute it at one input. -/
def teleAroundsWrong : ChangeSpec := { name := "teleArounds", fn := fun _ => fun
  | [d1, d2] => { results := [.lit (.bool false)], args := [d1, d2] }
  | _ => none }
def TeleAroundsWrongFalsely : Prop := teleAroundsRow.holds Tryd.pinned (OpenSpec.ofChange teleAroundsWrong)

/-- 'scholiumlaw10.TeleSplits': WHATEVER THE INPUT: true; the input reads as it did. -/
def teleSplitsSpec : ChangeSpec := { name := "teleSplits", fn := fun _ => fun
  | [d1, d2] => { results := [.lit (.bool true)], args := [d1, d2] }
  | _ => none }
def teleSplitsRow : OpenClaim := { program := "ytofmoggjpgjdgaadoor", sum := "417ef28596fa264d2d16d5a543c0f532e336963df2ab16d0f416c9d6132ce1e8", func := "scholium/scholiumlaw10.TeleSplits", spec := "teleSplits", unfollowed := true, recurses := true, named := ["scholium/term.shapes"], loops := true, apart := false, laid := [("scholium/term.shapes", laid_scholium_term_shapes)] }
def TeleSplitsSaid : Prop := teleSplitsRow.holds Tryd.pinned (OpenSpec.ofChange teleSplitsSpec)

/-- ITS FALSE NEIGHBOUR: 'it returns false'. Refute it at one input. -/
def teleSplitsWrong : ChangeSpec := { name := "teleSplits", fn := fun _ => fun
  | [d1, d2] => { results := [.lit (.bool false)], args := [d1, d2] }
  | _ => none }
def TeleSplitsWrongFalsely : Prop := teleSplitsRow.holds Tryd.pinned (OpenSpec.ofChange teleSplitsWrong)

/-- 'scholiumlaw10.TeleTypes': WHATEVER THE INPUT: true; the input reads as it did. -/
def teleTypesSpec : ChangeSpec := { name := "teleTypes", fn := fun _ => fun
  | [d1, d2, d3] => { results := [.lit (.bool true)], args := [d1, d2, d3] }
  | _ => none }
def teleTypesRow : OpenClaim := { program := "ytofmoggjpgjdgaadoor", sum := "417ef28596fa264d2d16d5a543c0f532e336963df2ab16d0f416c9d6132ce1e8", func := "scholium/scholiumlaw10.TeleTypes", spec := "teleTypes", unfollowed := true, recurses := true, named := ["scholium/term.shapes"], loops := true, apart := false, laid := [("scholium/term.shapes", laid_scholium_term_shapes)] }
def TeleTypesSaid : Prop := teleTypesRow.holds Tryd.pinned (OpenSpec.ofChange teleTypesSpec)

/-- ITS FALSE NEIGHBOUR: 'it returns false'. Refute it at one input. -/
def teleTypesWrong : ChangeSpec := { name := "teleTypes", fn := fun _ => fun
  | [d1, d2, d3] => { results := [.lit (.bool false)], args := [d1, d2, d3] }
  | _ => none }
def TeleTypesWrongFalsely : Prop := teleTypesRow.holds Tryd.pinned (OpenSpec.ofChange teleTypesWrong)

/-- 'scholiumlaw10.TeleResults': WHATEVER THE INPUT: true; the input reads as it did. -/
def teleResultsSpec : ChangeSpec := { name := "teleResults", fn := fun _ => fun
  | [d1, d2] => { results := [.lit (.bool true)], args := [d1, d2] }
  | _ => none }
def teleResultsRow : OpenClaim := { program := "ytofmoggjpgjdgaadoor", sum := "417ef28596fa264d2d16d5a543c0f532e336963df2ab16d0f416c9d6132ce1e8", func := "scholium/scholiumlaw10.TeleResults", spec := "teleResults", unfollowed := true, recurses := true, named := ["scholium/term.shapes"], loops := true, apart := false, laid := [("scholium/term.shapes", laid_scholium_term_shapes)] }
def TeleResultsSaid : Prop := teleResultsRow.holds Tryd.pinned (OpenSpec.ofChange teleResultsSpec)

/-- ITS FALSE NEIGHBOUR: 'it returns false'. Refute it at one input. -/
def teleResultsWrong : ChangeSpec := { name := "teleResults", fn := fun _ => fun
  | [d1, d2] => { results := [.lit (.bool false)], args := [d1, d2] }
  | _ => none }
def TeleResultsWrongFalsely : Prop := teleResultsRow.holds Tryd.pinned (OpenSpec.ofChange teleResultsWrong)

/-- 'scholiumlaw10.TeleBack': WHATEVER THE INPUT: true; the input reads as it did. -/
def teleBackSpec : ChangeSpec := { name := "teleBack", fn := fun _ => fun
  | [d1, d2, d3] => { results := [.lit (.bool true)], args := [d1, d2, d3] }
  | _ => none }
def teleBackRow : OpenClaim := { program := "ytofmoggjpgjdgaadoor", sum := "417ef28596fa264d2d16d5a543c0f532e336963df2ab16d0f416c9d6132ce1e8", func := "scholium/scholiumlaw10.TeleBack", spec := "teleBack", unfollowed := true, recurses := true, named := ["scholium/term.shapes"], loops := true, apart := false, laid := [("scholium/term.shapes", laid_scholium_term_shapes)] }
def TeleBackSaid : Prop := teleBackRow.holds Tryd.pinned (OpenSpec.ofChange teleBackSpec)

/-- ITS FALSE NEIGHBOUR: 'it returns false'. Refute it at one input. -/
def teleBackWrong : ChangeSpec := { name := "teleBack", fn := fun _ => fun
  | [d1, d2, d3] => { results := [.lit (.bool false)], args := [d1, d2, d3] }
  | _ => none }
def TeleBackWrongFalsely : Prop := teleBackRow.holds Tryd.pinned (OpenSpec.ofChange teleBackWrong)

/-- 'scholiumlaw10.TeleSelf': WHATEVER THE INPUT: true; the input reads as it did. -/
def teleSelfSpec : ChangeSpec := { name := "teleSelf", fn := fun _ => fun
  | [d1, d2] => { results := [.lit (.bool true)], args := [d1, d2] }
  | _ => none }
def teleSelfRow : OpenClaim := { program := "ytofmoggjpgjdgaadoor", sum := "417ef28596fa264d2d16d5a543c0f532e336963df2ab16d0f416c9d6132ce1e8", func := "scholium/scholiumlaw10.TeleSelf", spec := "teleSelf", unfollowed := true, recurses := true, named := ["scholium/term.shapes"], loops := true, apart := false, laid := [("scholium/term.shapes", laid_scholium_term_shapes)] }
def TeleSelfSaid : Prop := teleSelfRow.holds Tryd.pinned (OpenSpec.ofChange teleSelfSpec)

/-- ITS FALSE NEIGHBOUR: 'it returns false'. Refute it at one input. -/
def teleSelfWrong : ChangeSpec := { name := "teleSelf", fn := fun _ => fun
  | [d1, d2] => { results := [.lit (.bool false)], args := [d1, d2] }
  | _ => none }
def TeleSelfWrongFalsely : Prop := teleSelfRow.holds Tryd.pinned (OpenSpec.ofChange teleSelfWrong)

/- THE SECOND FORM. 'bulk': how many values and letters a reading holds, each counted each time it is reached (what is shared counts as often as it is met; a slice's spare places count too). A statement '..UptoSaid' is the law's where the arguments, and the package variables that the reading takes, are together of bulk at most 1048576: NARROWER than '..Said'. Prove '..Said' where nothing that the law and all that it calls make is longer than what came in: it says more and counts as full. Else prove '..UptoSaid'. A law counts once. -/
mutual
def uptoBulk {H : Type} : DataW H → Nat
  | .lit (.string bytes) => bytes.length + 1
  | .lit _ => 1
  | .nil => 1
  | .ptr d => uptoBulk d + 1
  | .slice elems spare => uptoBulkAll elems + uptoBulkAll spare + 1
  | .agg parts => uptoBulkAll parts + 1
  | .iface _ d => uptoBulk d + 1
  | .map entries => uptoBulkEntries entries + 1
  | .held _ => 1
def uptoBulkAll {H : Type} : List (DataW H) → Nat
  | [] => 0
  | d :: r => uptoBulk d + uptoBulkAll r
def uptoBulkEntries {H : Type} : List (Lit × DataW H) → Nat
  | [] => 0
  | x :: r => uptoBulkEntry x + uptoBulkEntries r
def uptoBulkEntry {H : Type} : Lit × DataW H → Nat
  | (.string bytes, d) => bytes.length + uptoBulk d + 1
  | (_, d) => uptoBulk d + 1
 end
def uptoSmall : (H : Type) → List (DataW H) → Bool := fun _ ds => decide (uptoBulkAll ds ≤ 1048576)
def OpenSpec.upto (s : _root_.Go.ChangeSpec) : _root_.Go.OpenSpec := { _root_.Go.OpenSpec.ofChange s with cond := some uptoSmall }

/-- 'scholiumlaw10.TeleArounds', WHERE WHAT IT READS IS OF BULK AT MOST 1048576: true; the input reads as it did. -/
def teleAroundsUptoRow : OpenClaim := { program := "ytofmoggjpgjdgaadoor", sum := "417ef28596fa264d2d16d5a543c0f532e336963df2ab16d0f416c9d6132ce1e8", func := "scholium/scholiumlaw10.TeleArounds", spec := "teleArounds", unfollowed := true, recurses := true, named := ["scholium/term.shapes"], loops := true, apart := false, laid := [("scholium/term.shapes", laid_scholium_term_shapes)], narrowed := true }
def TeleAroundsUptoSaid : Prop := teleAroundsUptoRow.holds Tryd.pinned (OpenSpec.upto teleAroundsSpec)

/-- 'scholiumlaw10.TeleSplits', WHERE WHAT IT READS IS OF BULK AT MOST 1048576: true; the input reads as it did. -/
def teleSplitsUptoRow : OpenClaim := { program := "ytofmoggjpgjdgaadoor", sum := "417ef28596fa264d2d16d5a543c0f532e336963df2ab16d0f416c9d6132ce1e8", func := "scholium/scholiumlaw10.TeleSplits", spec := "teleSplits", unfollowed := true, recurses := true, named := ["scholium/term.shapes"], loops := true, apart := false, laid := [("scholium/term.shapes", laid_scholium_term_shapes)], narrowed := true }
def TeleSplitsUptoSaid : Prop := teleSplitsUptoRow.holds Tryd.pinned (OpenSpec.upto teleSplitsSpec)

/-- 'scholiumlaw10.TeleTypes', WHERE WHAT IT READS IS OF BULK AT MOST 1048576: true; the input reads as it did. -/
def teleTypesUptoRow : OpenClaim := { program := "ytofmoggjpgjdgaadoor", sum := "417ef28596fa264d2d16d5a543c0f532e336963df2ab16d0f416c9d6132ce1e8", func := "scholium/scholiumlaw10.TeleTypes", spec := "teleTypes", unfollowed := true, recurses := true, named := ["scholium/term.shapes"], loops := true, apart := false, laid := [("scholium/term.shapes", laid_scholium_term_shapes)], narrowed := true }
def TeleTypesUptoSaid : Prop := teleTypesUptoRow.holds Tryd.pinned (OpenSpec.upto teleTypesSpec)

/-- 'scholiumlaw10.TeleResults', WHERE WHAT IT READS IS OF BULK AT MOST 1048576: true; the input reads as it did. -/
def teleResultsUptoRow : OpenClaim := { program := "ytofmoggjpgjdgaadoor", sum := "417ef28596fa264d2d16d5a543c0f532e336963df2ab16d0f416c9d6132ce1e8", func := "scholium/scholiumlaw10.TeleResults", spec := "teleResults", unfollowed := true, recurses := true, named := ["scholium/term.shapes"], loops := true, apart := false, laid := [("scholium/term.shapes", laid_scholium_term_shapes)], narrowed := true }
def TeleResultsUptoSaid : Prop := teleResultsUptoRow.holds Tryd.pinned (OpenSpec.upto teleResultsSpec)

/-- 'scholiumlaw10.TeleBack', WHERE WHAT IT READS IS OF BULK AT MOST 1048576: true; the input reads as it did. -/
def teleBackUptoRow : OpenClaim := { program := "ytofmoggjpgjdgaadoor", sum := "417ef28596fa264d2d16d5a543c0f532e336963df2ab16d0f416c9d6132ce1e8", func := "scholium/scholiumlaw10.TeleBack", spec := "teleBack", unfollowed := true, recurses := true, named := ["scholium/term.shapes"], loops := true, apart := false, laid := [("scholium/term.shapes", laid_scholium_term_shapes)], narrowed := true }
def TeleBackUptoSaid : Prop := teleBackUptoRow.holds Tryd.pinned (OpenSpec.upto teleBackSpec)

/-- 'scholiumlaw10.TeleSelf', WHERE WHAT IT READS IS OF BULK AT MOST 1048576: true; the input reads as it did. -/
def teleSelfUptoRow : OpenClaim := { program := "ytofmoggjpgjdgaadoor", sum := "417ef28596fa264d2d16d5a543c0f532e336963df2ab16d0f416c9d6132ce1e8", func := "scholium/scholiumlaw10.TeleSelf", spec := "teleSelf", unfollowed := true, recurses := true, named := ["scholium/term.shapes"], loops := true, apart := false, laid := [("scholium/term.shapes", laid_scholium_term_shapes)], narrowed := true }
def TeleSelfUptoSaid : Prop := teleSelfUptoRow.holds Tryd.pinned (OpenSpec.upto teleSelfSpec)

end Rows
end Go.Proofs.YtofmoggjpgjdgaaDoor
