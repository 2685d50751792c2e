/-
  NARROWER THAN 'FOR EVERY INPUT', by the rows' own cells (each row's printed sentence says how): SubstManies: loops, laid · SubstAts: loops, laid · SubstNames: loops, laid · SubstAlls: loops, laid · SubstLifted: loops, laid · SubstTwice: loops, laid · SubstBack: loops, laid · SubstLimits: laid.
  DERIVED. THE GIVEN ROWS OF THIS SEAT. 8 by the template 'for every input the law returns true; each argument reads behind the call as it read before'; 0 by the template 'total and deterministic' (their statements: YtcobionbgiaomaaDoorTotals.lean).
  GIVEN WITH THE SEED: the statements are not yours to turn. If you find one false, say at which input.
  Laid BY PROGRAM, IN A SANDBOX (cutbox-rows.mjs): the forced cells as the released guide's own fill.sh prints them over the translation 3c9a1548e460bf78… (all of the seat's roots in one cut). By AI agents, Wed Nov 11 2026. No macro, syntax, notation, axiom, sorry.
-/
import Derived.Test.YtcobionbgiaomaaDoorChecked
import GoSem.Claim
import GoSem.ClaimJoined
import GoSem.ClaimMapViews
import Derived.JoinedTies
import Derived.KernelRfl
namespace Go.Proofs.YtcobionbgiaomaaDoor
/- THE CELL 'sum', in the pinned program and in every row, IS THE sha256 OF THE DUMP (.gsa) THAT YtcobionbgiaomaaDoorProg.lean LOADS. Nothing in Lean hashes anything: it is a label: what it is worth is what the hold of that sum in a sandbox is worth. -/
noncomputable def Tryd.pinned : Pinned := { name := "ytcobionbgiaomaadoor", sum := "3c9a1548e460bf78eea7ca7335b3f01836677991703a2d7a13cc94bf8ae4c022", checked := Tryd.checked }
namespace Rows
def none {H : Type} : Left H := { results := [], args := [] }

/- WHAT THE LISTED PACKAGE-LEVEL VARIABLES READ AS WHEN THE CALL BEGINS. Each datum BY PROGRAM (the guide's laid-datum.mjs) off the statement by which the dump's own 'gosem.cut.vars' lays the variable. In a bare row this is a premise. The card (YtcobionbgiaomaaDoorCards.lean) ties it to the program's text. -/
def laid_scholium_term_shapes {H : Type} : DataW H := .agg [.agg [.lit (.int .i64 0), .lit (.int .i64 0), .lit (.int .i64 0), .agg [.lit (.int .i64 0), .lit (.int .i64 0)]], .agg [.lit (.int .i64 1048576), .lit (.int .i64 0), .lit (.int .i64 0), .agg [.lit (.int .i64 0), .lit (.int .i64 0)]], .agg [.lit (.int .i64 7), .lit (.int .i64 0), .lit (.int .i64 0), .agg [.lit (.int .i64 0), .lit (.int .i64 0)]], .agg [.lit (.int .i64 0), .lit (.int .i64 2), .lit (.int .i64 0), .agg [.lit (.int .i64 0), .lit (.int .i64 1)]], .agg [.lit (.int .i64 0), .lit (.int .i64 2), .lit (.int .i64 0), .agg [.lit (.int .i64 0), .lit (.int .i64 1)]], .agg [.lit (.int .i64 0), .lit (.int .i64 2), .lit (.int .i64 0), .agg [.lit (.int .i64 0), .lit (.int .i64 0)]], .agg [.lit (.int .i64 1048576), .lit (.int .i64 0), .lit (.int .i64 0), .agg [.lit (.int .i64 0), .lit (.int .i64 0)]], .agg [.lit (.int .i64 1048576), .lit (.int .i64 1), .lit (.int .i64 2), .agg [.lit (.int .i64 0), .lit (.int .i64 0)]], .agg [.lit (.int .i64 1048576), .lit (.int .i64 0), .lit (.int .i64 0), .agg [.lit (.int .i64 0), .lit (.int .i64 0)]]]

/-- 'scholiumlaw09.SubstManies': WHATEVER THE INPUT: true; the input reads as it did. -/
def substManiesSpec : ChangeSpec := { name := "substManies", fn := fun _ => fun
  | [d1, d2] => { results := [.lit (.bool true)], args := [d1, d2] }
  | _ => none }
def substManiesRow : OpenClaim := { program := "ytcobionbgiaomaadoor", sum := "3c9a1548e460bf78eea7ca7335b3f01836677991703a2d7a13cc94bf8ae4c022", func := "scholium/scholiumlaw09.SubstManies", spec := "substManies", unfollowed := true, recurses := true, named := ["scholium/term.shapes"], loops := true, apart := false, laid := [("scholium/term.shapes", laid_scholium_term_shapes)] }
def SubstManiesSaid : Prop := substManiesRow.holds Tryd.pinned (OpenSpec.ofChange substManiesSpec)

/-- ITS FALSE NEIGHBOUR: 'it returns false'. Refute it at one input. -/
def substManiesWrong : ChangeSpec := { name := "substManies", fn := fun _ => fun
  | [d1, d2] => { results := [.lit (.bool false)], args := [d1, d2] }
  | _ => none }
def SubstManiesWrongFalsely : Prop := substManiesRow.holds Tryd.pinned (OpenSpec.ofChange substManiesWrong)

/-- 'scholiumlaw09.SubstAts': WHATEVER THE INPUT: true; the input reads as it did. -/
def substAtsSpec : ChangeSpec := { name := "substAts", fn := fun _ => fun
  | [d1, d2, d3] => { results := [.lit (.bool true)], args := [d1, d2, d3] }
  | _ => none }
def substAtsRow : OpenClaim := { program := "ytcobionbgiaomaadoor", sum := "3c9a1548e460bf78eea7ca7335b3f01836677991703a2d7a13cc94bf8ae4c022", func := "scholium/scholiumlaw09.SubstAts", spec := "substAts", unfollowed := true, recurses := true, named := ["scholium/term.shapes"], loops := true, apart := false, laid := [("scholium/term.shapes", laid_scholium_term_shapes)] }
def SubstAtsSaid : Prop := substAtsRow.holds Tryd.pinned (OpenSpec.ofChange substAtsSpec)

/-- ITS FALSE NEIGHBOUR: 'it returns false'. Refute it at one input. -/
def substAtsWrong : ChangeSpec := { name := "substAts", fn := fun _ => fun
  | [d1, d2, d3] => { results := [.lit (.bool false)], args := [d1, d2, d3] }
  | _ => none }
def SubstAtsWrongFalsely : Prop := substAtsRow.holds Tryd.pinned (OpenSpec.ofChange substAtsWrong)

/-- 'scholiumlaw09.SubstNames': WHATEVER THE INPUT: true; the input reads as it did. -/
def substNamesSpec : ChangeSpec := { name := "substNames", fn := fun _ => fun
  | [d1, d2, d3] => { results := [.lit (.bool true)], args := [d1, d2, d3] }
  | _ => none }
def substNamesRow : OpenClaim := { program := "ytcobionbgiaomaadoor", sum := "3c9a1548e460bf78eea7ca7335b3f01836677991703a2d7a13cc94bf8ae4c022", func := "scholium/scholiumlaw09.SubstNames", spec := "substNames", unfollowed := true, recurses := true, named := ["scholium/term.shapes"], loops := true, apart := false, laid := [("scholium/term.shapes", laid_scholium_term_shapes)] }
def SubstNamesSaid : Prop := substNamesRow.holds Tryd.pinned (OpenSpec.ofChange substNamesSpec)

/-- ITS FALSE NEIGHBOUR: 'it returns false'. Refute it at one input. -/
def substNamesWrong : ChangeSpec := { name := "substNames", fn := fun _ => fun
  | [d1, d2, d3] => { results := [.lit (.bool false)], args := [d1, d2, d3] }
  | _ => none }
def SubstNamesWrongFalsely : Prop := substNamesRow.holds Tryd.pinned (OpenSpec.ofChange substNamesWrong)

/-- 'scholiumlaw09.SubstAlls': WHATEVER THE INPUT: true; the input reads as it did. -/
def substAllsSpec : ChangeSpec := { name := "substAlls", fn := fun _ => fun
  | [d1, d2] => { results := [.lit (.bool true)], args := [d1, d2] }
  | _ => none }
def substAllsRow : OpenClaim := { program := "ytcobionbgiaomaadoor", sum := "3c9a1548e460bf78eea7ca7335b3f01836677991703a2d7a13cc94bf8ae4c022", func := "scholium/scholiumlaw09.SubstAlls", spec := "substAlls", unfollowed := true, recurses := true, named := ["scholium/term.shapes"], loops := true, apart := false, laid := [("scholium/term.shapes", laid_scholium_term_shapes)] }
def SubstAllsSaid : Prop := substAllsRow.holds Tryd.pinned (OpenSpec.ofChange substAllsSpec)

/-- ITS FALSE NEIGHBOUR: 'it returns false'. Refute it at one input. -/
def substAllsWrong : ChangeSpec := { name := "substAlls", fn := fun _ => fun
  | [d1, d2] => { results := [.lit (.bool false)], args := [d1, d2] }
  | _ => none }
def SubstAllsWrongFalsely : Prop := substAllsRow.holds Tryd.pinned (OpenSpec.ofChange substAllsWrong)

/-- 'scholiumlaw09.SubstLifted': WHATEVER THE INPUT: true; the input reads as it did. -/
def substLiftedSpec : ChangeSpec := { name := "substLifted", fn := fun _ => fun
  | [d1, d2] => { results := [.lit (.bool true)], args := [d1, d2] }
  | _ => none }
def substLiftedRow : OpenClaim := { program := "ytcobionbgiaomaadoor", sum := "3c9a1548e460bf78eea7ca7335b3f01836677991703a2d7a13cc94bf8ae4c022", func := "scholium/scholiumlaw09.SubstLifted", spec := "substLifted", unfollowed := true, recurses := true, named := ["scholium/term.shapes"], loops := true, apart := false, laid := [("scholium/term.shapes", laid_scholium_term_shapes)] }
def SubstLiftedSaid : Prop := substLiftedRow.holds Tryd.pinned (OpenSpec.ofChange substLiftedSpec)

/-- ITS FALSE NEIGHBOUR: 'it returns false'. Refute it at one input. -/
def substLiftedWrong : ChangeSpec := { name := "substLifted", fn := fun _ => fun
  | [d1, d2] => { results := [.lit (.bool false)], args := [d1, d2] }
  | _ => none }
def SubstLiftedWrongFalsely : Prop := substLiftedRow.holds Tryd.pinned (OpenSpec.ofChange substLiftedWrong)

/-- 'scholiumlaw09.SubstTwice': WHATEVER THE INPUT: true; the input reads as it did. -/
def substTwiceSpec : ChangeSpec := { name := "substTwice", fn := fun _ => fun
  | [d1, d2, d3] => { results := [.lit (.bool true)], args := [d1, d2, d3] }
  | _ => none }
def substTwiceRow : OpenClaim := { program := "ytcobionbgiaomaadoor", sum := "3c9a1548e460bf78eea7ca7335b3f01836677991703a2d7a13cc94bf8ae4c022", func := "scholium/scholiumlaw09.SubstTwice", spec := "substTwice", unfollowed := true, recurses := true, named := ["scholium/term.shapes"], loops := true, apart := false, laid := [("scholium/term.shapes", laid_scholium_term_shapes)] }
def SubstTwiceSaid : Prop := substTwiceRow.holds Tryd.pinned (OpenSpec.ofChange substTwiceSpec)

/-- ITS FALSE NEIGHBOUR: 'it returns false'. Refute it at one input. -/
def substTwiceWrong : ChangeSpec := { name := "substTwice", fn := fun _ => fun
  | [d1, d2, d3] => { results := [.lit (.bool false)], args := [d1, d2, d3] }
  | _ => none }
def SubstTwiceWrongFalsely : Prop := substTwiceRow.holds Tryd.pinned (OpenSpec.ofChange substTwiceWrong)

/-- 'scholiumlaw09.SubstBack': WHATEVER THE INPUT: true; the input reads as it did. -/
def substBackSpec : ChangeSpec := { name := "substBack", fn := fun _ => fun
  | [d1, d2] => { results := [.lit (.bool true)], args := [d1, d2] }
  | _ => none }
def substBackRow : OpenClaim := { program := "ytcobionbgiaomaadoor", sum := "3c9a1548e460bf78eea7ca7335b3f01836677991703a2d7a13cc94bf8ae4c022", func := "scholium/scholiumlaw09.SubstBack", spec := "substBack", unfollowed := true, recurses := true, named := ["scholium/term.shapes"], loops := true, apart := false, laid := [("scholium/term.shapes", laid_scholium_term_shapes)] }
def SubstBackSaid : Prop := substBackRow.holds Tryd.pinned (OpenSpec.ofChange substBackSpec)

/-- ITS FALSE NEIGHBOUR: 'it returns false'. Refute it at one input. -/
def substBackWrong : ChangeSpec := { name := "substBack", fn := fun _ => fun
  | [d1, d2] => { results := [.lit (.bool false)], args := [d1, d2] }
  | _ => none }
def SubstBackWrongFalsely : Prop := substBackRow.holds Tryd.pinned (OpenSpec.ofChange substBackWrong)

/-- 'scholiumlaw09.SubstLimits': WHATEVER THE INPUT: true; the input reads as it did. -/
def substLimitsSpec : ChangeSpec := { name := "substLimits", fn := fun _ => fun
  | [d] => { results := [.lit (.bool true)], args := [d] }
  | _ => none }
def substLimitsRow : OpenClaim := { program := "ytcobionbgiaomaadoor", sum := "3c9a1548e460bf78eea7ca7335b3f01836677991703a2d7a13cc94bf8ae4c022", func := "scholium/scholiumlaw09.SubstLimits", spec := "substLimits", unfollowed := true, recurses := true, named := ["scholium/term.shapes"], apart := false, laid := [("scholium/term.shapes", laid_scholium_term_shapes)] }
def SubstLimitsSaid : Prop := substLimitsRow.holds Tryd.pinned (OpenSpec.ofChange substLimitsSpec)

/-- ITS FALSE NEIGHBOUR: 'it returns false'. Refute it at one input. -/
def substLimitsWrong : ChangeSpec := { name := "substLimits", fn := fun _ => fun
  | [d] => { results := [.lit (.bool false)], args := [d] }
  | _ => none }
def SubstLimitsWrongFalsely : Prop := substLimitsRow.holds Tryd.pinned (OpenSpec.ofChange substLimitsWrong)

/- THE SECOND FORM. 'bulk': how many values and letters a reading holds, each counted each time it is reached (what is shared counts as often as it is met; a slice's spare places count too). A statement '..UptoSaid' is the law's where the arguments, and the package variables that the reading takes, are together of bulk at most 1048576: NARROWER than '..Said'. Prove '..Said' where nothing that the law and all that it calls make is longer than what came in: it says more and counts as full. Else prove '..UptoSaid'. A law counts once. -/
mutual
def uptoBulk {H : Type} : DataW H → Nat
  | .lit (.string bytes) => bytes.length + 1
  | .lit _ => 1
  | .nil => 1
  | .ptr d => uptoBulk d + 1
  | .slice elems spare => uptoBulkAll elems + uptoBulkAll spare + 1
  | .agg parts => uptoBulkAll parts + 1
  | .iface _ d => uptoBulk d + 1
  | .map entries => uptoBulkEntries entries + 1
  | .held _ => 1
def uptoBulkAll {H : Type} : List (DataW H) → Nat
  | [] => 0
  | d :: r => uptoBulk d + uptoBulkAll r
def uptoBulkEntries {H : Type} : List (Lit × DataW H) → Nat
  | [] => 0
  | x :: r => uptoBulkEntry x + uptoBulkEntries r
def uptoBulkEntry {H : Type} : Lit × DataW H → Nat
  | (.string bytes, d) => bytes.length + uptoBulk d + 1
  | (_, d) => uptoBulk d + 1
 end
def uptoSmall : (H : Type) → List (DataW H) → Bool := fun _ ds => decide (uptoBulkAll ds ≤ 1048576)
def OpenSpec.upto (s : _root_.Go.ChangeSpec) : _root_.Go.OpenSpec := { _root_.Go.OpenSpec.ofChange s with cond := some uptoSmall }

/-- 'scholiumlaw09.SubstManies', WHERE WHAT IT READS IS OF BULK AT MOST 1048576: true; the input reads as it did. -/
def substManiesUptoRow : OpenClaim := { program := "ytcobionbgiaomaadoor", sum := "3c9a1548e460bf78eea7ca7335b3f01836677991703a2d7a13cc94bf8ae4c022", func := "scholium/scholiumlaw09.SubstManies", spec := "substManies", unfollowed := true, recurses := true, named := ["scholium/term.shapes"], loops := true, apart := false, laid := [("scholium/term.shapes", laid_scholium_term_shapes)], narrowed := true }
def SubstManiesUptoSaid : Prop := substManiesUptoRow.holds Tryd.pinned (OpenSpec.upto substManiesSpec)

/-- 'scholiumlaw09.SubstAts', WHERE WHAT IT READS IS OF BULK AT MOST 1048576: true; the input reads as it did. -/
def substAtsUptoRow : OpenClaim := { program := "ytcobionbgiaomaadoor", sum := "3c9a1548e460bf78eea7ca7335b3f01836677991703a2d7a13cc94bf8ae4c022", func := "scholium/scholiumlaw09.SubstAts", spec := "substAts", unfollowed := true, recurses := true, named := ["scholium/term.shapes"], loops := true, apart := false, laid := [("scholium/term.shapes", laid_scholium_term_shapes)], narrowed := true }
def SubstAtsUptoSaid : Prop := substAtsUptoRow.holds Tryd.pinned (OpenSpec.upto substAtsSpec)

/-- 'scholiumlaw09.SubstNames', WHERE WHAT IT READS IS OF BULK AT MOST 1048576: true; the input reads as it did. -/
def substNamesUptoRow : OpenClaim := { program := "ytcobionbgiaomaadoor", sum := "3c9a1548e460bf78eea7ca7335b3f01836677991703a2d7a13cc94bf8ae4c022", func := "scholium/scholiumlaw09.SubstNames", spec := "substNames", unfollowed := true, recurses := true, named := ["scholium/term.shapes"], loops := true, apart := false, laid := [("scholium/term.shapes", laid_scholium_term_shapes)], narrowed := true }
def SubstNamesUptoSaid : Prop := substNamesUptoRow.holds Tryd.pinned (OpenSpec.upto substNamesSpec)

/-- 'scholiumlaw09.SubstAlls', WHERE WHAT IT READS IS OF BULK AT MOST 1048576: true; the input reads as it did. -/
def substAllsUptoRow : OpenClaim := { program := "ytcobionbgiaomaadoor", sum := "3c9a1548e460bf78eea7ca7335b3f01836677991703a2d7a13cc94bf8ae4c022", func := "scholium/scholiumlaw09.SubstAlls", spec := "substAlls", unfollowed := true, recurses := true, named := ["scholium/term.shapes"], loops := true, apart := false, laid := [("scholium/term.shapes", laid_scholium_term_shapes)], narrowed := true }
def SubstAllsUptoSaid : Prop := substAllsUptoRow.holds Tryd.pinned (OpenSpec.upto substAllsSpec)

/-- 'scholiumlaw09.SubstLifted', WHERE WHAT IT READS IS OF BULK AT MOST 1048576: true; the input reads as it did. -/
def substLiftedUptoRow : OpenClaim := { program := "ytcobionbgiaomaadoor", sum := "3c9a1548e460bf78eea7ca7335b3f01836677991703a2d7a13cc94bf8ae4c022", func := "scholium/scholiumlaw09.SubstLifted", spec := "substLifted", unfollowed := true, recurses := true, named := ["scholium/term.shapes"], loops := true, apart := false, laid := [("scholium/term.shapes", laid_scholium_term_shapes)], narrowed := true }
def SubstLiftedUptoSaid : Prop := substLiftedUptoRow.holds Tryd.pinned (OpenSpec.upto substLiftedSpec)

/-- 'scholiumlaw09.SubstTwice', WHERE WHAT IT READS IS OF BULK AT MOST 1048576: true; the input reads as it did. -/
def substTwiceUptoRow : OpenClaim := { program := "ytcobionbgiaomaadoor", sum := "3c9a1548e460bf78eea7ca7335b3f01836677991703a2d7a13cc94bf8ae4c022", func := "scholium/scholiumlaw09.SubstTwice", spec := "substTwice", unfollowed := true, recurses := true, named := ["scholium/term.shapes"], loops := true, apart := false, laid := [("scholium/term.shapes", laid_scholium_term_shapes)], narrowed := true }
def SubstTwiceUptoSaid : Prop := substTwiceUptoRow.holds Tryd.pinned (OpenSpec.upto substTwiceSpec)

/-- 'scholiumlaw09.SubstBack', WHERE WHAT IT READS IS OF BULK AT MOST 1048576: true; the input reads as it did. -/
def substBackUptoRow : OpenClaim := { program := "ytcobionbgiaomaadoor", sum := "3c9a1548e460bf78eea7ca7335b3f01836677991703a2d7a13cc94bf8ae4c022", func := "scholium/scholiumlaw09.SubstBack", spec := "substBack", unfollowed := true, recurses := true, named := ["scholium/term.shapes"], loops := true, apart := false, laid := [("scholium/term.shapes", laid_scholium_term_shapes)], narrowed := true }
def SubstBackUptoSaid : Prop := substBackUptoRow.holds Tryd.pinned (OpenSpec.upto substBackSpec)

/-- 'scholiumlaw09.SubstLimits', WHERE WHAT IT READS IS OF BULK AT MOST 1048576: true; the input reads as it did. -/
def substLimitsUptoRow : OpenClaim := { program := "ytcobionbgiaomaadoor", sum := "3c9a1548e460bf78eea7ca7335b3f01836677991703a2d7a13cc94bf8ae4c022", func := "scholium/scholiumlaw09.SubstLimits", spec := "substLimits", unfollowed := true, recurses := true, named := ["scholium/term.shapes"], apart := false, laid := [("scholium/term.shapes", laid_scholium_term_shapes)], narrowed := true }
def SubstLimitsUptoSaid : Prop := substLimitsUptoRow.holds Tryd.pinned (OpenSpec.upto substLimitsSpec)

end Rows
end Go.Proofs.YtcobionbgiaomaaDoor
