/-
  NARROWER THAN 'FOR EVERY INPUT', by the rows' own cells (each row's printed sentence says how): TermNumbers: loops, laid · TermSpines: loops, laid · LiftLifts: loops, laid · LiftLowers: loops, laid · LiftSwaps: loops, laid · LiftAlls: loops, laid · LiftAdds: loops, laid · LiftBack: loops, laid.
  DERIVED. THE GIVEN ROWS OF THIS SEAT. 8 by the template 'for every input the law returns true; each argument reads behind the call as it read before'; 0 by the template 'total and deterministic' (their statements: YtodmnollgejgeaaDoorTotals.lean).
  GIVEN WITH THE SEED: the statements are not yours to turn. If you find one false, say at which input.
  Laid BY PROGRAM, IN A SANDBOX (cutbox-rows.mjs): the forced cells as the released guide's own fill.sh prints them over the translation 638d73005ee46ed9… (all of the seat's roots in one cut). By AI agents, Wed Nov 11 2026. No macro, syntax, notation, axiom, sorry.
-/
import Derived.Test.YtodmnollgejgeaaDoorChecked
import GoSem.Claim
import GoSem.ClaimJoined
import GoSem.ClaimMapViews
import Derived.JoinedTies
import Derived.KernelRfl
namespace Go.Proofs.YtodmnollgejgeaaDoor
/- THE CELL 'sum', in the pinned program and in every row, IS THE sha256 OF THE DUMP (.gsa) THAT YtodmnollgejgeaaDoorProg.lean LOADS. Nothing in Lean hashes anything: it is a label: what it is worth is what the hold of that sum in a sandbox is worth. -/
noncomputable def Tryd.pinned : Pinned := { name := "ytodmnollgejgeaadoor", sum := "638d73005ee46ed91bbd6079d6bc57c4614106f3121be60ada5cf3b5ddddc868", checked := Tryd.checked }
namespace Rows
def none {H : Type} : Left H := { results := [], args := [] }

/- WHAT THE LISTED PACKAGE-LEVEL VARIABLES READ AS WHEN THE CALL BEGINS. Each datum BY PROGRAM (the guide's laid-datum.mjs) off the statement by which the dump's own 'gosem.cut.vars' lays the variable. In a bare row this is a premise. The card (YtodmnollgejgeaaDoorCards.lean) ties it to the program's text. -/
def laid_scholium_term_shapes {H : Type} : DataW H := .agg [.agg [.lit (.int .i64 0), .lit (.int .i64 0), .lit (.int .i64 0), .agg [.lit (.int .i64 0), .lit (.int .i64 0)]], .agg [.lit (.int .i64 1048576), .lit (.int .i64 0), .lit (.int .i64 0), .agg [.lit (.int .i64 0), .lit (.int .i64 0)]], .agg [.lit (.int .i64 7), .lit (.int .i64 0), .lit (.int .i64 0), .agg [.lit (.int .i64 0), .lit (.int .i64 0)]], .agg [.lit (.int .i64 0), .lit (.int .i64 2), .lit (.int .i64 0), .agg [.lit (.int .i64 0), .lit (.int .i64 1)]], .agg [.lit (.int .i64 0), .lit (.int .i64 2), .lit (.int .i64 0), .agg [.lit (.int .i64 0), .lit (.int .i64 1)]], .agg [.lit (.int .i64 0), .lit (.int .i64 2), .lit (.int .i64 0), .agg [.lit (.int .i64 0), .lit (.int .i64 0)]], .agg [.lit (.int .i64 1048576), .lit (.int .i64 0), .lit (.int .i64 0), .agg [.lit (.int .i64 0), .lit (.int .i64 0)]], .agg [.lit (.int .i64 1048576), .lit (.int .i64 1), .lit (.int .i64 2), .agg [.lit (.int .i64 0), .lit (.int .i64 0)]], .agg [.lit (.int .i64 1048576), .lit (.int .i64 0), .lit (.int .i64 0), .agg [.lit (.int .i64 0), .lit (.int .i64 0)]]]

/-- 'scholiumlaw07.TermNumbers': WHATEVER THE INPUT: true; the input reads as it did. -/
def termNumbersSpec : ChangeSpec := { name := "termNumbers", fn := fun _ => fun
  | [d1, d2] => { results := [.lit (.bool true)], args := [d1, d2] }
  | _ => none }
def termNumbersRow : OpenClaim := { program := "ytodmnollgejgeaadoor", sum := "638d73005ee46ed91bbd6079d6bc57c4614106f3121be60ada5cf3b5ddddc868", func := "scholium/scholiumlaw07.TermNumbers", spec := "termNumbers", unfollowed := true, recurses := true, named := ["scholium/term.shapes"], loops := true, apart := false, laid := [("scholium/term.shapes", laid_scholium_term_shapes)] }
def TermNumbersSaid : Prop := termNumbersRow.holds Tryd.pinned (OpenSpec.ofChange termNumbersSpec)

/-- ITS FALSE NEIGHBOUR: 'it returns false'. Refute it at one input. -/
def termNumbersWrong : ChangeSpec := { name := "termNumbers", fn := fun _ => fun
  | [d1, d2] => { results := [.lit (.bool false)], args := [d1, d2] }
  | _ => none }
def TermNumbersWrongFalsely : Prop := termNumbersRow.holds Tryd.pinned (OpenSpec.ofChange termNumbersWrong)

/-- 'scholiumlaw07.TermSpines': WHATEVER THE INPUT: true; the input reads as it did. -/
def termSpinesSpec : ChangeSpec := { name := "termSpines", fn := fun _ => fun
  | [d1, d2] => { results := [.lit (.bool true)], args := [d1, d2] }
  | _ => none }
def termSpinesRow : OpenClaim := { program := "ytodmnollgejgeaadoor", sum := "638d73005ee46ed91bbd6079d6bc57c4614106f3121be60ada5cf3b5ddddc868", func := "scholium/scholiumlaw07.TermSpines", spec := "termSpines", unfollowed := true, recurses := true, named := ["scholium/term.shapes"], loops := true, apart := false, laid := [("scholium/term.shapes", laid_scholium_term_shapes)] }
def TermSpinesSaid : Prop := termSpinesRow.holds Tryd.pinned (OpenSpec.ofChange termSpinesSpec)

/-- ITS FALSE NEIGHBOUR: 'it returns false'. Refute it at one input. -/
def termSpinesWrong : ChangeSpec := { name := "termSpines", fn := fun _ => fun
  | [d1, d2] => { results := [.lit (.bool false)], args := [d1, d2] }
  | _ => none }
def TermSpinesWrongFalsely : Prop := termSpinesRow.holds Tryd.pinned (OpenSpec.ofChange termSpinesWrong)

/-- 'scholiumlaw08.LiftLifts': WHATEVER THE INPUT: true; the input reads as it did. -/
def liftLiftsSpec : ChangeSpec := { name := "liftLifts", fn := fun _ => fun
  | [d1, d2, d3] => { results := [.lit (.bool true)], args := [d1, d2, d3] }
  | _ => none }
def liftLiftsRow : OpenClaim := { program := "ytodmnollgejgeaadoor", sum := "638d73005ee46ed91bbd6079d6bc57c4614106f3121be60ada5cf3b5ddddc868", func := "scholium/scholiumlaw08.LiftLifts", spec := "liftLifts", unfollowed := true, recurses := true, named := ["scholium/term.shapes"], loops := true, apart := false, laid := [("scholium/term.shapes", laid_scholium_term_shapes)] }
def LiftLiftsSaid : Prop := liftLiftsRow.holds Tryd.pinned (OpenSpec.ofChange liftLiftsSpec)

/-- ITS FALSE NEIGHBOUR: 'it returns false'. Refute it at one input. -/
def liftLiftsWrong : ChangeSpec := { name := "liftLifts", fn := fun _ => fun
  | [d1, d2, d3] => { results := [.lit (.bool false)], args := [d1, d2, d3] }
  | _ => none }
def LiftLiftsWrongFalsely : Prop := liftLiftsRow.holds Tryd.pinned (OpenSpec.ofChange liftLiftsWrong)

/-- 'scholiumlaw08.LiftLowers': WHATEVER THE INPUT: true; the input reads as it did. -/
def liftLowersSpec : ChangeSpec := { name := "liftLowers", fn := fun _ => fun
  | [d1, d2, d3] => { results := [.lit (.bool true)], args := [d1, d2, d3] }
  | _ => none }
def liftLowersRow : OpenClaim := { program := "ytodmnollgejgeaadoor", sum := "638d73005ee46ed91bbd6079d6bc57c4614106f3121be60ada5cf3b5ddddc868", func := "scholium/scholiumlaw08.LiftLowers", spec := "liftLowers", unfollowed := true, recurses := true, named := ["scholium/term.shapes"], loops := true, apart := false, laid := [("scholium/term.shapes", laid_scholium_term_shapes)] }
def LiftLowersSaid : Prop := liftLowersRow.holds Tryd.pinned (OpenSpec.ofChange liftLowersSpec)

/-- ITS FALSE NEIGHBOUR: 'it returns false'. Refute it at one input. -/
def liftLowersWrong : ChangeSpec := { name := "liftLowers", fn := fun _ => fun
  | [d1, d2, d3] => { results := [.lit (.bool false)], args := [d1, d2, d3] }
  | _ => none }
def LiftLowersWrongFalsely : Prop := liftLowersRow.holds Tryd.pinned (OpenSpec.ofChange liftLowersWrong)

/-- 'scholiumlaw08.LiftSwaps': WHATEVER THE INPUT: true; the input reads as it did. -/
def liftSwapsSpec : ChangeSpec := { name := "liftSwaps", fn := fun _ => fun
  | [d1, d2] => { results := [.lit (.bool true)], args := [d1, d2] }
  | _ => none }
def liftSwapsRow : OpenClaim := { program := "ytodmnollgejgeaadoor", sum := "638d73005ee46ed91bbd6079d6bc57c4614106f3121be60ada5cf3b5ddddc868", func := "scholium/scholiumlaw08.LiftSwaps", spec := "liftSwaps", unfollowed := true, recurses := true, named := ["scholium/term.shapes"], loops := true, apart := false, laid := [("scholium/term.shapes", laid_scholium_term_shapes)] }
def LiftSwapsSaid : Prop := liftSwapsRow.holds Tryd.pinned (OpenSpec.ofChange liftSwapsSpec)

/-- ITS FALSE NEIGHBOUR: 'it returns false'. Refute it at one input. -/
def liftSwapsWrong : ChangeSpec := { name := "liftSwaps", fn := fun _ => fun
  | [d1, d2] => { results := [.lit (.bool false)], args := [d1, d2] }
  | _ => none }
def LiftSwapsWrongFalsely : Prop := liftSwapsRow.holds Tryd.pinned (OpenSpec.ofChange liftSwapsWrong)

/-- 'scholiumlaw08.LiftAlls': WHATEVER THE INPUT: true; the input reads as it did. -/
def liftAllsSpec : ChangeSpec := { name := "liftAlls", fn := fun _ => fun
  | [d1, d2, d3] => { results := [.lit (.bool true)], args := [d1, d2, d3] }
  | _ => none }
def liftAllsRow : OpenClaim := { program := "ytodmnollgejgeaadoor", sum := "638d73005ee46ed91bbd6079d6bc57c4614106f3121be60ada5cf3b5ddddc868", func := "scholium/scholiumlaw08.LiftAlls", spec := "liftAlls", unfollowed := true, recurses := true, named := ["scholium/term.shapes"], loops := true, apart := false, laid := [("scholium/term.shapes", laid_scholium_term_shapes)] }
def LiftAllsSaid : Prop := liftAllsRow.holds Tryd.pinned (OpenSpec.ofChange liftAllsSpec)

/-- ITS FALSE NEIGHBOUR: 'it returns false'. Refute it at one input. -/
def liftAllsWrong : ChangeSpec := { name := "liftAlls", fn := fun _ => fun
  | [d1, d2, d3] => { results := [.lit (.bool false)], args := [d1, d2, d3] }
  | _ => none }
def LiftAllsWrongFalsely : Prop := liftAllsRow.holds Tryd.pinned (OpenSpec.ofChange liftAllsWrong)

/-- 'scholiumlaw08.LiftAdds': WHATEVER THE INPUT: true; the input reads as it did. -/
def liftAddsSpec : ChangeSpec := { name := "liftAdds", fn := fun _ => fun
  | [d1, d2, d3] => { results := [.lit (.bool true)], args := [d1, d2, d3] }
  | _ => none }
def liftAddsRow : OpenClaim := { program := "ytodmnollgejgeaadoor", sum := "638d73005ee46ed91bbd6079d6bc57c4614106f3121be60ada5cf3b5ddddc868", func := "scholium/scholiumlaw08.LiftAdds", spec := "liftAdds", unfollowed := true, recurses := true, named := ["scholium/term.shapes"], loops := true, apart := false, laid := [("scholium/term.shapes", laid_scholium_term_shapes)] }
def LiftAddsSaid : Prop := liftAddsRow.holds Tryd.pinned (OpenSpec.ofChange liftAddsSpec)

/-- ITS FALSE NEIGHBOUR: 'it returns false'. Refute it at one input. -/
def liftAddsWrong : ChangeSpec := { name := "liftAdds", fn := fun _ => fun
  | [d1, d2, d3] => { results := [.lit (.bool false)], args := [d1, d2, d3] }
  | _ => none }
def LiftAddsWrongFalsely : Prop := liftAddsRow.holds Tryd.pinned (OpenSpec.ofChange liftAddsWrong)

/-- 'scholiumlaw08.LiftBack': WHATEVER THE INPUT: true; the input reads as it did. -/
def liftBackSpec : ChangeSpec := { name := "liftBack", fn := fun _ => fun
  | [d1, d2, d3] => { results := [.lit (.bool true)], args := [d1, d2, d3] }
  | _ => none }
def liftBackRow : OpenClaim := { program := "ytodmnollgejgeaadoor", sum := "638d73005ee46ed91bbd6079d6bc57c4614106f3121be60ada5cf3b5ddddc868", func := "scholium/scholiumlaw08.LiftBack", spec := "liftBack", unfollowed := true, recurses := true, named := ["scholium/term.shapes"], loops := true, apart := false, laid := [("scholium/term.shapes", laid_scholium_term_shapes)] }
def LiftBackSaid : Prop := liftBackRow.holds Tryd.pinned (OpenSpec.ofChange liftBackSpec)

/-- ITS FALSE NEIGHBOUR: 'it returns false'. Refute it at one input. -/
def liftBackWrong : ChangeSpec := { name := "liftBack", fn := fun _ => fun
  | [d1, d2, d3] => { results := [.lit (.bool false)], args := [d1, d2, d3] }
  | _ => none }
def LiftBackWrongFalsely : Prop := liftBackRow.holds Tryd.pinned (OpenSpec.ofChange liftBackWrong)

/- THE SECOND FORM. 'bulk': how many values and letters a reading holds, each counted each time it is reached (what is shared counts as often as it is met; a slice's spare places count too). A statement '..UptoSaid' is the law's where the arguments, and the package variables that the reading takes, are together of bulk at most 1048576: NARROWER than '..Said'. Prove '..Said' where nothing that the law and all that it calls make is longer than what came in: it says more and counts as full. Else prove '..UptoSaid'. A law counts once. -/
mutual
def uptoBulk {H : Type} : DataW H → Nat
  | .lit (.string bytes) => bytes.length + 1
  | .lit _ => 1
  | .nil => 1
  | .ptr d => uptoBulk d + 1
  | .slice elems spare => uptoBulkAll elems + uptoBulkAll spare + 1
  | .agg parts => uptoBulkAll parts + 1
  | .iface _ d => uptoBulk d + 1
  | .map entries => uptoBulkEntries entries + 1
  | .held _ => 1
def uptoBulkAll {H : Type} : List (DataW H) → Nat
  | [] => 0
  | d :: r => uptoBulk d + uptoBulkAll r
def uptoBulkEntries {H : Type} : List (Lit × DataW H) → Nat
  | [] => 0
  | x :: r => uptoBulkEntry x + uptoBulkEntries r
def uptoBulkEntry {H : Type} : Lit × DataW H → Nat
  | (.string bytes, d) => bytes.length + uptoBulk d + 1
  | (_, d) => uptoBulk d + 1
 end
def uptoSmall : (H : Type) → List (DataW H) → Bool := fun _ ds => decide (uptoBulkAll ds ≤ 1048576)
def OpenSpec.upto (s : _root_.Go.ChangeSpec) : _root_.Go.OpenSpec := { _root_.Go.OpenSpec.ofChange s with cond := some uptoSmall }

/-- 'scholiumlaw07.TermNumbers', WHERE WHAT IT READS IS OF BULK AT MOST 1048576: true; the input reads as it did. -/
def termNumbersUptoRow : OpenClaim := { program := "ytodmnollgejgeaadoor", sum := "638d73005ee46ed91bbd6079d6bc57c4614106f3121be60ada5cf3b5ddddc868", func := "scholium/scholiumlaw07.TermNumbers", spec := "termNumbers", unfollowed := true, recurses := true, named := ["scholium/term.shapes"], loops := true, apart := false, laid := [("scholium/term.shapes", laid_scholium_term_shapes)], narrowed := true }
def TermNumbersUptoSaid : Prop := termNumbersUptoRow.holds Tryd.pinned (OpenSpec.upto termNumbersSpec)

/-- 'scholiumlaw07.TermSpines', WHERE WHAT IT READS IS OF BULK AT MOST 1048576: true; the input reads as it did. -/
def termSpinesUptoRow : OpenClaim := { program := "ytodmnollgejgeaadoor", sum := "638d73005ee46ed91bbd6079d6bc57c4614106f3121be60ada5cf3b5ddddc868", func := "scholium/scholiumlaw07.TermSpines", spec := "termSpines", unfollowed := true, recurses := true, named := ["scholium/term.shapes"], loops := true, apart := false, laid := [("scholium/term.shapes", laid_scholium_term_shapes)], narrowed := true }
def TermSpinesUptoSaid : Prop := termSpinesUptoRow.holds Tryd.pinned (OpenSpec.upto termSpinesSpec)

/-- 'scholiumlaw08.LiftLifts', WHERE WHAT IT READS IS OF BULK AT MOST 1048576: true; the input reads as it did. -/
def liftLiftsUptoRow : OpenClaim := { program := "ytodmnollgejgeaadoor", sum := "638d73005ee46ed91bbd6079d6bc57c4614106f3121be60ada5cf3b5ddddc868", func := "scholium/scholiumlaw08.LiftLifts", spec := "liftLifts", unfollowed := true, recurses := true, named := ["scholium/term.shapes"], loops := true, apart := false, laid := [("scholium/term.shapes", laid_scholium_term_shapes)], narrowed := true }
def LiftLiftsUptoSaid : Prop := liftLiftsUptoRow.holds Tryd.pinned (OpenSpec.upto liftLiftsSpec)

/-- 'scholiumlaw08.LiftLowers', WHERE WHAT IT READS IS OF BULK AT MOST 1048576: true; the input reads as it did. -/
def liftLowersUptoRow : OpenClaim := { program := "ytodmnollgejgeaadoor", sum := "638d73005ee46ed91bbd6079d6bc57c4614106f3121be60ada5cf3b5ddddc868", func := "scholium/scholiumlaw08.LiftLowers", spec := "liftLowers", unfollowed := true, recurses := true, named := ["scholium/term.shapes"], loops := true, apart := false, laid := [("scholium/term.shapes", laid_scholium_term_shapes)], narrowed := true }
def LiftLowersUptoSaid : Prop := liftLowersUptoRow.holds Tryd.pinned (OpenSpec.upto liftLowersSpec)

/-- 'scholiumlaw08.LiftSwaps', WHERE WHAT IT READS IS OF BULK AT MOST 1048576: true; the input reads as it did. -/
def liftSwapsUptoRow : OpenClaim := { program := "ytodmnollgejgeaadoor", sum := "638d73005ee46ed91bbd6079d6bc57c4614106f3121be60ada5cf3b5ddddc868", func := "scholium/scholiumlaw08.LiftSwaps", spec := "liftSwaps", unfollowed := true, recurses := true, named := ["scholium/term.shapes"], loops := true, apart := false, laid := [("scholium/term.shapes", laid_scholium_term_shapes)], narrowed := true }
def LiftSwapsUptoSaid : Prop := liftSwapsUptoRow.holds Tryd.pinned (OpenSpec.upto liftSwapsSpec)

/-- 'scholiumlaw08.LiftAlls', WHERE WHAT IT READS IS OF BULK AT MOST 1048576: true; the input reads as it did. -/
def liftAllsUptoRow : OpenClaim := { program := "ytodmnollgejgeaadoor", sum := "638d73005ee46ed91bbd6079d6bc57c4614106f3121be60ada5cf3b5ddddc868", func := "scholium/scholiumlaw08.LiftAlls", spec := "liftAlls", unfollowed := true, recurses := true, named := ["scholium/term.shapes"], loops := true, apart := false, laid := [("scholium/term.shapes", laid_scholium_term_shapes)], narrowed := true }
def LiftAllsUptoSaid : Prop := liftAllsUptoRow.holds Tryd.pinned (OpenSpec.upto liftAllsSpec)

/-- 'scholiumlaw08.LiftAdds', WHERE WHAT IT READS IS OF BULK AT MOST 1048576: true; the input reads as it did. -/
def liftAddsUptoRow : OpenClaim := { program := "ytodmnollgejgeaadoor", sum := "638d73005ee46ed91bbd6079d6bc57c4614106f3121be60ada5cf3b5ddddc868", func := "scholium/scholiumlaw08.LiftAdds", spec := "liftAdds", unfollowed := true, recurses := true, named := ["scholium/term.shapes"], loops := true, apart := false, laid := [("scholium/term.shapes", laid_scholium_term_shapes)], narrowed := true }
def LiftAddsUptoSaid : Prop := liftAddsUptoRow.holds Tryd.pinned (OpenSpec.upto liftAddsSpec)

/-- 'scholiumlaw08.LiftBack', WHERE WHAT IT READS IS OF BULK AT MOST 1048576: true; the input reads as it did. -/
def liftBackUptoRow : OpenClaim := { program := "ytodmnollgejgeaadoor", sum := "638d73005ee46ed91bbd6079d6bc57c4614106f3121be60ada5cf3b5ddddc868", func := "scholium/scholiumlaw08.LiftBack", spec := "liftBack", unfollowed := true, recurses := true, named := ["scholium/term.shapes"], loops := true, apart := false, laid := [("scholium/term.shapes", laid_scholium_term_shapes)], narrowed := true }
def LiftBackUptoSaid : Prop := liftBackUptoRow.holds Tryd.pinned (OpenSpec.upto liftBackSpec)

end Rows
end Go.Proofs.YtodmnollgejgeaaDoor
