/-
  NARROWER THAN 'FOR EVERY INPUT', by the rows' own cells (each row's printed sentence says how): TermNumbers: loops, laid · TermSames: loops, laid · TermMakes: loops, laid · TermSpines: loops, laid · TermLoose: loops, laid · TermCopies: loops, laid · TermLimits: laid.
  DERIVED. THE GIVEN ROWS OF THIS SEAT. 7 by the template 'for every input the law returns true; each argument reads behind the call as it read before'; 0 by the template 'total and deterministic' (their statements: YteemfjkenmaedaaDoorTotals.lean).
  GIVEN WITH THE SEED: the statements are not yours to turn. If you find one false, say at which input.
  Laid BY PROGRAM, IN A SANDBOX (cutbox-rows.mjs): the forced cells as the released guide's own fill.sh prints them over the translation 776a30d632e4ad83… (all of the seat's roots in one cut). By AI agents, Wed Nov 11 2026. No macro, syntax, notation, axiom, sorry.
-/
import Derived.Test.YteemfjkenmaedaaDoorChecked
import GoSem.Claim
import GoSem.ClaimJoined
import GoSem.ClaimMapViews
import Derived.JoinedTies
import Derived.KernelRfl
namespace Go.Proofs.YteemfjkenmaedaaDoor
/- THE CELL 'sum', in the pinned program and in every row, IS THE sha256 OF THE DUMP (.gsa) THAT YteemfjkenmaedaaDoorProg.lean LOADS. Nothing in Lean hashes anything: it is a label: what it is worth is what the hold of that sum in a sandbox is worth. -/
noncomputable def Tryd.pinned : Pinned := { name := "yteemfjkenmaedaadoor", sum := "776a30d632e4ad83d43a04cd638da04ef68221c689d2e3b1b77fb8e9008a9113", checked := Tryd.checked }
namespace Rows
def none {H : Type} : Left H := { results := [], args := [] }

/- WHAT THE LISTED PACKAGE-LEVEL VARIABLES READ AS WHEN THE CALL BEGINS. Each datum BY PROGRAM (the guide's laid-datum.mjs) off the statement by which the dump's own 'gosem.cut.vars' lays the variable. In a bare row this is a premise. The card (YteemfjkenmaedaaDoorCards.lean) ties it to the program's text. -/
def laid_scholium_term_shapes {H : Type} : DataW H := .agg [.agg [.lit (.int .i64 0), .lit (.int .i64 0), .lit (.int .i64 0), .agg [.lit (.int .i64 0), .lit (.int .i64 0)]], .agg [.lit (.int .i64 1048576), .lit (.int .i64 0), .lit (.int .i64 0), .agg [.lit (.int .i64 0), .lit (.int .i64 0)]], .agg [.lit (.int .i64 7), .lit (.int .i64 0), .lit (.int .i64 0), .agg [.lit (.int .i64 0), .lit (.int .i64 0)]], .agg [.lit (.int .i64 0), .lit (.int .i64 2), .lit (.int .i64 0), .agg [.lit (.int .i64 0), .lit (.int .i64 1)]], .agg [.lit (.int .i64 0), .lit (.int .i64 2), .lit (.int .i64 0), .agg [.lit (.int .i64 0), .lit (.int .i64 1)]], .agg [.lit (.int .i64 0), .lit (.int .i64 2), .lit (.int .i64 0), .agg [.lit (.int .i64 0), .lit (.int .i64 0)]], .agg [.lit (.int .i64 1048576), .lit (.int .i64 0), .lit (.int .i64 0), .agg [.lit (.int .i64 0), .lit (.int .i64 0)]], .agg [.lit (.int .i64 1048576), .lit (.int .i64 1), .lit (.int .i64 2), .agg [.lit (.int .i64 0), .lit (.int .i64 0)]], .agg [.lit (.int .i64 1048576), .lit (.int .i64 0), .lit (.int .i64 0), .agg [.lit (.int .i64 0), .lit (.int .i64 0)]]]

/-- 'scholiumlaw07.TermNumbers': WHATEVER THE INPUT: true; the input reads as it did. -/
def termNumbersSpec : ChangeSpec := { name := "termNumbers", fn := fun _ => fun
  | [d1, d2] => { results := [.lit (.bool true)], args := [d1, d2] }
  | _ => none }
def termNumbersRow : OpenClaim := { program := "yteemfjkenmaedaadoor", sum := "776a30d632e4ad83d43a04cd638da04ef68221c689d2e3b1b77fb8e9008a9113", func := "scholium/scholiumlaw07.TermNumbers", spec := "termNumbers", unfollowed := true, recurses := true, named := ["scholium/term.shapes"], loops := true, apart := false, laid := [("scholium/term.shapes", laid_scholium_term_shapes)] }
def TermNumbersSaid : Prop := termNumbersRow.holds Tryd.pinned (OpenSpec.ofChange termNumbersSpec)

/-- ITS FALSE NEIGHBOUR: 'it returns false'. Refute it at one input. -/
def termNumbersWrong : ChangeSpec := { name := "termNumbers", fn := fun _ => fun
  | [d1, d2] => { results := [.lit (.bool false)], args := [d1, d2] }
  | _ => none }
def TermNumbersWrongFalsely : Prop := termNumbersRow.holds Tryd.pinned (OpenSpec.ofChange termNumbersWrong)

/-- 'scholiumlaw07.TermSames': WHATEVER THE INPUT: true; the input reads as it did. -/
def termSamesSpec : ChangeSpec := { name := "termSames", fn := fun _ => fun
  | [d1, d2] => { results := [.lit (.bool true)], args := [d1, d2] }
  | _ => none }
def termSamesRow : OpenClaim := { program := "yteemfjkenmaedaadoor", sum := "776a30d632e4ad83d43a04cd638da04ef68221c689d2e3b1b77fb8e9008a9113", func := "scholium/scholiumlaw07.TermSames", spec := "termSames", unfollowed := true, recurses := true, named := ["scholium/term.shapes"], loops := true, apart := false, laid := [("scholium/term.shapes", laid_scholium_term_shapes)] }
def TermSamesSaid : Prop := termSamesRow.holds Tryd.pinned (OpenSpec.ofChange termSamesSpec)

/-- ITS FALSE NEIGHBOUR: 'it returns false'. Refute it at one input. -/
def termSamesWrong : ChangeSpec := { name := "termSames", fn := fun _ => fun
  | [d1, d2] => { results := [.lit (.bool false)], args := [d1, d2] }
  | _ => none }
def TermSamesWrongFalsely : Prop := termSamesRow.holds Tryd.pinned (OpenSpec.ofChange termSamesWrong)

/-- 'scholiumlaw07.TermMakes': WHATEVER THE INPUT: true; the input reads as it did. -/
def termMakesSpec : ChangeSpec := { name := "termMakes", fn := fun _ => fun
  | [d1, d2, d3] => { results := [.lit (.bool true)], args := [d1, d2, d3] }
  | _ => none }
def termMakesRow : OpenClaim := { program := "yteemfjkenmaedaadoor", sum := "776a30d632e4ad83d43a04cd638da04ef68221c689d2e3b1b77fb8e9008a9113", func := "scholium/scholiumlaw07.TermMakes", spec := "termMakes", unfollowed := true, recurses := true, named := ["scholium/term.shapes"], loops := true, apart := false, laid := [("scholium/term.shapes", laid_scholium_term_shapes)] }
def TermMakesSaid : Prop := termMakesRow.holds Tryd.pinned (OpenSpec.ofChange termMakesSpec)

/-- ITS FALSE NEIGHBOUR: 'it returns false'. Refute it at one input. -/
def termMakesWrong : ChangeSpec := { name := "termMakes", fn := fun _ => fun
  | [d1, d2, d3] => { results := [.lit (.bool false)], args := [d1, d2, d3] }
  | _ => none }
def TermMakesWrongFalsely : Prop := termMakesRow.holds Tryd.pinned (OpenSpec.ofChange termMakesWrong)

/-- 'scholiumlaw07.TermSpines': WHATEVER THE INPUT: true; the input reads as it did. -/
def termSpinesSpec : ChangeSpec := { name := "termSpines", fn := fun _ => fun
  | [d1, d2] => { results := [.lit (.bool true)], args := [d1, d2] }
  | _ => none }
def termSpinesRow : OpenClaim := { program := "yteemfjkenmaedaadoor", sum := "776a30d632e4ad83d43a04cd638da04ef68221c689d2e3b1b77fb8e9008a9113", func := "scholium/scholiumlaw07.TermSpines", spec := "termSpines", unfollowed := true, recurses := true, named := ["scholium/term.shapes"], loops := true, apart := false, laid := [("scholium/term.shapes", laid_scholium_term_shapes)] }
def TermSpinesSaid : Prop := termSpinesRow.holds Tryd.pinned (OpenSpec.ofChange termSpinesSpec)

/-- ITS FALSE NEIGHBOUR: 'it returns false'. Refute it at one input. -/
def termSpinesWrong : ChangeSpec := { name := "termSpines", fn := fun _ => fun
  | [d1, d2] => { results := [.lit (.bool false)], args := [d1, d2] }
  | _ => none }
def TermSpinesWrongFalsely : Prop := termSpinesRow.holds Tryd.pinned (OpenSpec.ofChange termSpinesWrong)

/-- 'scholiumlaw07.TermLoose': WHATEVER THE INPUT: true; the input reads as it did. -/
def termLooseSpec : ChangeSpec := { name := "termLoose", fn := fun _ => fun
  | [d1, d2] => { results := [.lit (.bool true)], args := [d1, d2] }
  | _ => none }
def termLooseRow : OpenClaim := { program := "yteemfjkenmaedaadoor", sum := "776a30d632e4ad83d43a04cd638da04ef68221c689d2e3b1b77fb8e9008a9113", func := "scholium/scholiumlaw07.TermLoose", spec := "termLoose", unfollowed := true, recurses := true, named := ["scholium/term.shapes"], loops := true, apart := false, laid := [("scholium/term.shapes", laid_scholium_term_shapes)] }
def TermLooseSaid : Prop := termLooseRow.holds Tryd.pinned (OpenSpec.ofChange termLooseSpec)

/-- ITS FALSE NEIGHBOUR: 'it returns false'. Refute it at one input. -/
def termLooseWrong : ChangeSpec := { name := "termLoose", fn := fun _ => fun
  | [d1, d2] => { results := [.lit (.bool false)], args := [d1, d2] }
  | _ => none }
def TermLooseWrongFalsely : Prop := termLooseRow.holds Tryd.pinned (OpenSpec.ofChange termLooseWrong)

/-- 'scholiumlaw07.TermCopies': WHATEVER THE INPUT: true; the input reads as it did. -/
def termCopiesSpec : ChangeSpec := { name := "termCopies", fn := fun _ => fun
  | [d] => { results := [.lit (.bool true)], args := [d] }
  | _ => none }
def termCopiesRow : OpenClaim := { program := "yteemfjkenmaedaadoor", sum := "776a30d632e4ad83d43a04cd638da04ef68221c689d2e3b1b77fb8e9008a9113", func := "scholium/scholiumlaw07.TermCopies", spec := "termCopies", unfollowed := true, recurses := true, named := ["scholium/term.shapes"], loops := true, apart := false, laid := [("scholium/term.shapes", laid_scholium_term_shapes)] }
def TermCopiesSaid : Prop := termCopiesRow.holds Tryd.pinned (OpenSpec.ofChange termCopiesSpec)

/-- ITS FALSE NEIGHBOUR: 'it returns false'. Refute it at one input. -/
def termCopiesWrong : ChangeSpec := { name := "termCopies", fn := fun _ => fun
  | [d] => { results := [.lit (.bool false)], args := [d] }
  | _ => none }
def TermCopiesWrongFalsely : Prop := termCopiesRow.holds Tryd.pinned (OpenSpec.ofChange termCopiesWrong)

/-- 'scholiumlaw07.TermLimits': WHATEVER THE INPUT: true; the input reads as it did. -/
def termLimitsSpec : ChangeSpec := { name := "termLimits", fn := fun _ => fun
  | [d] => { results := [.lit (.bool true)], args := [d] }
  | _ => none }
def termLimitsRow : OpenClaim := { program := "yteemfjkenmaedaadoor", sum := "776a30d632e4ad83d43a04cd638da04ef68221c689d2e3b1b77fb8e9008a9113", func := "scholium/scholiumlaw07.TermLimits", spec := "termLimits", unfollowed := true, recurses := true, named := ["scholium/term.shapes"], apart := false, laid := [("scholium/term.shapes", laid_scholium_term_shapes)] }
def TermLimitsSaid : Prop := termLimitsRow.holds Tryd.pinned (OpenSpec.ofChange termLimitsSpec)

/-- ITS FALSE NEIGHBOUR: 'it returns false'. Refute it at one input. -/
def termLimitsWrong : ChangeSpec := { name := "termLimits", fn := fun _ => fun
  | [d] => { results := [.lit (.bool false)], args := [d] }
  | _ => none }
def TermLimitsWrongFalsely : Prop := termLimitsRow.holds Tryd.pinned (OpenSpec.ofChange termLimitsWrong)

/- THE SECOND FORM. 'bulk': how many values and letters a reading holds, each counted each time it is reached (what is shared counts as often as it is met; a slice's spare places count too). A statement '..UptoSaid' is the law's where the arguments, and the package variables that the reading takes, are together of bulk at most 1048576: NARROWER than '..Said'. Prove '..Said' where nothing that the law and all that it calls make is longer than what came in: it says more and counts as full. Else prove '..UptoSaid'. A law counts once. -/
mutual
def uptoBulk {H : Type} : DataW H → Nat
  | .lit (.string bytes) => bytes.length + 1
  | .lit _ => 1
  | .nil => 1
  | .ptr d => uptoBulk d + 1
  | .slice elems spare => uptoBulkAll elems + uptoBulkAll spare + 1
  | .agg parts => uptoBulkAll parts + 1
  | .iface _ d => uptoBulk d + 1
  | .map entries => uptoBulkEntries entries + 1
  | .held _ => 1
def uptoBulkAll {H : Type} : List (DataW H) → Nat
  | [] => 0
  | d :: r => uptoBulk d + uptoBulkAll r
def uptoBulkEntries {H : Type} : List (Lit × DataW H) → Nat
  | [] => 0
  | x :: r => uptoBulkEntry x + uptoBulkEntries r
def uptoBulkEntry {H : Type} : Lit × DataW H → Nat
  | (.string bytes, d) => bytes.length + uptoBulk d + 1
  | (_, d) => uptoBulk d + 1
 end
def uptoSmall : (H : Type) → List (DataW H) → Bool := fun _ ds => decide (uptoBulkAll ds ≤ 1048576)
def OpenSpec.upto (s : _root_.Go.ChangeSpec) : _root_.Go.OpenSpec := { _root_.Go.OpenSpec.ofChange s with cond := some uptoSmall }

/-- 'scholiumlaw07.TermNumbers', WHERE WHAT IT READS IS OF BULK AT MOST 1048576: true; the input reads as it did. -/
def termNumbersUptoRow : OpenClaim := { program := "yteemfjkenmaedaadoor", sum := "776a30d632e4ad83d43a04cd638da04ef68221c689d2e3b1b77fb8e9008a9113", func := "scholium/scholiumlaw07.TermNumbers", spec := "termNumbers", unfollowed := true, recurses := true, named := ["scholium/term.shapes"], loops := true, apart := false, laid := [("scholium/term.shapes", laid_scholium_term_shapes)], narrowed := true }
def TermNumbersUptoSaid : Prop := termNumbersUptoRow.holds Tryd.pinned (OpenSpec.upto termNumbersSpec)

/-- 'scholiumlaw07.TermSames', WHERE WHAT IT READS IS OF BULK AT MOST 1048576: true; the input reads as it did. -/
def termSamesUptoRow : OpenClaim := { program := "yteemfjkenmaedaadoor", sum := "776a30d632e4ad83d43a04cd638da04ef68221c689d2e3b1b77fb8e9008a9113", func := "scholium/scholiumlaw07.TermSames", spec := "termSames", unfollowed := true, recurses := true, named := ["scholium/term.shapes"], loops := true, apart := false, laid := [("scholium/term.shapes", laid_scholium_term_shapes)], narrowed := true }
def TermSamesUptoSaid : Prop := termSamesUptoRow.holds Tryd.pinned (OpenSpec.upto termSamesSpec)

/-- 'scholiumlaw07.TermMakes', WHERE WHAT IT READS IS OF BULK AT MOST 1048576: true; the input reads as it did. -/
def termMakesUptoRow : OpenClaim := { program := "yteemfjkenmaedaadoor", sum := "776a30d632e4ad83d43a04cd638da04ef68221c689d2e3b1b77fb8e9008a9113", func := "scholium/scholiumlaw07.TermMakes", spec := "termMakes", unfollowed := true, recurses := true, named := ["scholium/term.shapes"], loops := true, apart := false, laid := [("scholium/term.shapes", laid_scholium_term_shapes)], narrowed := true }
def TermMakesUptoSaid : Prop := termMakesUptoRow.holds Tryd.pinned (OpenSpec.upto termMakesSpec)

/-- 'scholiumlaw07.TermSpines', WHERE WHAT IT READS IS OF BULK AT MOST 1048576: true; the input reads as it did. -/
def termSpinesUptoRow : OpenClaim := { program := "yteemfjkenmaedaadoor", sum := "776a30d632e4ad83d43a04cd638da04ef68221c689d2e3b1b77fb8e9008a9113", func := "scholium/scholiumlaw07.TermSpines", spec := "termSpines", unfollowed := true, recurses := true, named := ["scholium/term.shapes"], loops := true, apart := false, laid := [("scholium/term.shapes", laid_scholium_term_shapes)], narrowed := true }
def TermSpinesUptoSaid : Prop := termSpinesUptoRow.holds Tryd.pinned (OpenSpec.upto termSpinesSpec)

/-- 'scholiumlaw07.TermLoose', WHERE WHAT IT READS IS OF BULK AT MOST 1048576: true; the input reads as it did. -/
def termLooseUptoRow : OpenClaim := { program := "yteemfjkenmaedaadoor", sum := "776a30d632e4ad83d43a04cd638da04ef68221c689d2e3b1b77fb8e9008a9113", func := "scholium/scholiumlaw07.TermLoose", spec := "termLoose", unfollowed := true, recurses := true, named := ["scholium/term.shapes"], loops := true, apart := false, laid := [("scholium/term.shapes", laid_scholium_term_shapes)], narrowed := true }
def TermLooseUptoSaid : Prop := termLooseUptoRow.holds Tryd.pinned (OpenSpec.upto termLooseSpec)

/-- 'scholiumlaw07.TermCopies', WHERE WHAT IT READS IS OF BULK AT MOST 1048576: true; the input reads as it did. -/
def termCopiesUptoRow : OpenClaim := { program := "yteemfjkenmaedaadoor", sum := "776a30d632e4ad83d43a04cd638da04ef68221c689d2e3b1b77fb8e9008a9113", func := "scholium/scholiumlaw07.TermCopies", spec := "termCopies", unfollowed := true, recurses := true, named := ["scholium/term.shapes"], loops := true, apart := false, laid := [("scholium/term.shapes", laid_scholium_term_shapes)], narrowed := true }
def TermCopiesUptoSaid : Prop := termCopiesUptoRow.holds Tryd.pinned (OpenSpec.upto termCopiesSpec)

/-- 'scholiumlaw07.TermLimits', WHERE WHAT IT READS IS OF BULK AT MOST 1048576: true; the input reads as it did. -/
def termLimitsUptoRow : OpenClaim := { program := "yteemfjkenmaedaadoor", sum := "776a30d632e4ad83d43a04cd638da04ef68221c689d2e3b1b77fb8e9008a9113", func := "scholium/scholiumlaw07.TermLimits", spec := "termLimits", unfollowed := true, recurses := true, named := ["scholium/term.shapes"], apart := false, laid := [("scholium/term.shapes", laid_scholium_term_shapes)], narrowed := true }
def TermLimitsUptoSaid : Prop := termLimitsUptoRow.holds Tryd.pinned (OpenSpec.upto termLimitsSpec)

end Rows
end Go.Proofs.YteemfjkenmaedaaDoor
