/-
  NARROWER THAN 'FOR EVERY INPUT', by the rows' own cells (each row's printed sentence says how): TreeNodes: loops, laid · TreeSames: loops, laid · TreeCopies: loops, laid · TreeNames: loops, laid · TreeDecls: loops, laid · TreeLimits: laid.
  DERIVED. THE GIVEN ROWS OF THIS SEAT. 6 by the template 'for every input the law returns true; each argument reads behind the call as it read before'; 0 by the template 'total and deterministic' (their statements: YtpahohbpilgdnaaDoorTotals.lean).
  GIVEN WITH THE SEED: the statements are not yours to turn. If you find one false, say at which input.
  Laid BY PROGRAM, IN A SANDBOX (cutbox-rows.mjs): the forced cells as the released guide's own fill.sh prints them over the translation 2c5c1718ac6d2e00… (all of the seat's roots in one cut). By AI agents, Wed Nov 11 2026. No macro, syntax, notation, axiom, sorry.
-/
import Derived.Test.YtpahohbpilgdnaaDoorChecked
import GoSem.Claim
import GoSem.ClaimJoined
import GoSem.ClaimMapViews
import Derived.JoinedTies
import Derived.KernelRfl
namespace Go.Proofs.YtpahohbpilgdnaaDoor
/- THE CELL 'sum', in the pinned program and in every row, IS THE sha256 OF THE DUMP (.gsa) THAT YtpahohbpilgdnaaDoorProg.lean LOADS. Nothing in Lean hashes anything: it is a label: what it is worth is what the hold of that sum in a sandbox is worth. -/
noncomputable def Tryd.pinned : Pinned := { name := "ytpahohbpilgdnaadoor", sum := "2c5c1718ac6d2e008c06629e8e2910963703a79b86a8009aa5b2be451ac6b34e", checked := Tryd.checked }
namespace Rows
def none {H : Type} : Left H := { results := [], args := [] }

/- WHAT THE LISTED PACKAGE-LEVEL VARIABLES READ AS WHEN THE CALL BEGINS. Each datum BY PROGRAM (the guide's laid-datum.mjs) off the statement by which the dump's own 'gosem.cut.vars' lays the variable. In a bare row this is a premise. The card (YtpahohbpilgdnaaDoorCards.lean) ties it to the program's text. -/
def laid_scholium_tree_shapes {H : Type} : DataW H := .agg [.agg [.lit (.int .i64 0), .lit (.int .i64 0), .lit (.int .i64 0), .lit (.int .i64 0), .lit (.int .i64 0), .lit (.int .i64 0)], .agg [.lit (.int .i64 1), .lit (.int .i64 1), .lit (.int .i64 0), .lit (.int .i64 0), .lit (.int .i64 0), .lit (.int .i64 0)], .agg [.lit (.int .i64 1), .lit (.int .i64 0), .lit (.int .i64 7), .lit (.int .i64 0), .lit (.int .i64 0), .lit (.int .i64 0)], .agg [.lit (.int .i64 1), .lit (.int .i64 2), .lit (.int .i64 0), .lit (.int .i64 2), .lit (.int .i64 2), .lit (.int .i64 1)], .agg [.lit (.int .i64 1), .lit (.int .i64 2), .lit (.int .i64 0), .lit (.int .i64 2), .lit (.int .i64 2), .lit (.int .i64 1)], .agg [.lit (.int .i64 1), .lit (.int .i64 0), .lit (.int .i64 0), .lit (.int .i64 2), .lit (.int .i64 2), .lit (.int .i64 1)], .agg [.lit (.int .i64 2), .lit (.int .i64 1), .lit (.int .i64 0), .lit (.int .i64 0), .lit (.int .i64 0), .lit (.int .i64 0)], .agg [.lit (.int .i64 2), .lit (.int .i64 0), .lit (.int .i64 0), .lit (.int .i64 0), .lit (.int .i64 0), .lit (.int .i64 0)], .agg [.lit (.int .i64 2), .lit (.int .i64 1), .lit (.int .i64 0), .lit (.int .i64 1), .lit (.int .i64 8192), .lit (.int .i64 2)], .agg [.lit (.int .i64 2), .lit (.int .i64 0), .lit (.int .i64 0), .lit (.int .i64 0), .lit (.int .i64 0), .lit (.int .i64 0)], .agg [.lit (.int .i64 2), .lit (.int .i64 0), .lit (.int .i64 0), .lit (.int .i64 1), .lit (.int .i64 1), .lit (.int .i64 1)]]
def laid_scholium_tree_rooms {H : Type} : DataW H := .agg [.agg [.lit (.int .i64 0), .lit (.int .i64 0), .lit (.int .i64 0)], .agg [.lit (.int .i64 24), .lit (.int .i64 16), .lit (.int .i64 0)], .agg [.lit (.int .i64 24), .lit (.int .i64 16), .lit (.int .i64 0)], .agg [.lit (.int .i64 0), .lit (.int .i64 0), .lit (.int .i64 32)]]

/-- 'scholiumlaw04.TreeNodes': WHATEVER THE INPUT: true; the input reads as it did. -/
def treeNodesSpec : ChangeSpec := { name := "treeNodes", fn := fun _ => fun
  | [d] => { results := [.lit (.bool true)], args := [d] }
  | _ => none }
def treeNodesRow : OpenClaim := { program := "ytpahohbpilgdnaadoor", sum := "2c5c1718ac6d2e008c06629e8e2910963703a79b86a8009aa5b2be451ac6b34e", func := "scholium/scholiumlaw04.TreeNodes", spec := "treeNodes", unfollowed := true, recurses := true, named := ["scholium/tree.shapes"], loops := true, apart := false, laid := [("scholium/tree.shapes", laid_scholium_tree_shapes)] }
def TreeNodesSaid : Prop := treeNodesRow.holds Tryd.pinned (OpenSpec.ofChange treeNodesSpec)

/-- ITS FALSE NEIGHBOUR: 'it returns false'. Refute it at one input. -/
def treeNodesWrong : ChangeSpec := { name := "treeNodes", fn := fun _ => fun
  | [d] => { results := [.lit (.bool false)], args := [d] }
  | _ => none }
def TreeNodesWrongFalsely : Prop := treeNodesRow.holds Tryd.pinned (OpenSpec.ofChange treeNodesWrong)

/-- 'scholiumlaw04.TreeSames': WHATEVER THE INPUT: true; the input reads as it did. -/
def treeSamesSpec : ChangeSpec := { name := "treeSames", fn := fun _ => fun
  | [d1, d2] => { results := [.lit (.bool true)], args := [d1, d2] }
  | _ => none }
def treeSamesRow : OpenClaim := { program := "ytpahohbpilgdnaadoor", sum := "2c5c1718ac6d2e008c06629e8e2910963703a79b86a8009aa5b2be451ac6b34e", func := "scholium/scholiumlaw04.TreeSames", spec := "treeSames", unfollowed := true, recurses := true, named := ["scholium/tree.shapes"], loops := true, apart := false, laid := [("scholium/tree.shapes", laid_scholium_tree_shapes)] }
def TreeSamesSaid : Prop := treeSamesRow.holds Tryd.pinned (OpenSpec.ofChange treeSamesSpec)

/-- ITS FALSE NEIGHBOUR: 'it returns false'. Refute it at one input. -/
def treeSamesWrong : ChangeSpec := { name := "treeSames", fn := fun _ => fun
  | [d1, d2] => { results := [.lit (.bool false)], args := [d1, d2] }
  | _ => none }
def TreeSamesWrongFalsely : Prop := treeSamesRow.holds Tryd.pinned (OpenSpec.ofChange treeSamesWrong)

/-- 'scholiumlaw04.TreeCopies': WHATEVER THE INPUT: true; the input reads as it did. -/
def treeCopiesSpec : ChangeSpec := { name := "treeCopies", fn := fun _ => fun
  | [d] => { results := [.lit (.bool true)], args := [d] }
  | _ => none }
def treeCopiesRow : OpenClaim := { program := "ytpahohbpilgdnaadoor", sum := "2c5c1718ac6d2e008c06629e8e2910963703a79b86a8009aa5b2be451ac6b34e", func := "scholium/scholiumlaw04.TreeCopies", spec := "treeCopies", unfollowed := true, recurses := true, named := ["scholium/tree.shapes"], loops := true, apart := false, laid := [("scholium/tree.shapes", laid_scholium_tree_shapes)] }
def TreeCopiesSaid : Prop := treeCopiesRow.holds Tryd.pinned (OpenSpec.ofChange treeCopiesSpec)

/-- ITS FALSE NEIGHBOUR: 'it returns false'. Refute it at one input. -/
def treeCopiesWrong : ChangeSpec := { name := "treeCopies", fn := fun _ => fun
  | [d] => { results := [.lit (.bool false)], args := [d] }
  | _ => none }
def TreeCopiesWrongFalsely : Prop := treeCopiesRow.holds Tryd.pinned (OpenSpec.ofChange treeCopiesWrong)

/-- 'scholiumlaw04.TreeNames': WHATEVER THE INPUT: true; the input reads as it did. -/
def treeNamesSpec : ChangeSpec := { name := "treeNames", fn := fun _ => fun
  | [d1, d2] => { results := [.lit (.bool true)], args := [d1, d2] }
  | _ => none }
def treeNamesRow : OpenClaim := { program := "ytpahohbpilgdnaadoor", sum := "2c5c1718ac6d2e008c06629e8e2910963703a79b86a8009aa5b2be451ac6b34e", func := "scholium/scholiumlaw04.TreeNames", spec := "treeNames", unfollowed := true, recurses := true, named := ["scholium/tree.shapes"], loops := true, apart := false, laid := [("scholium/tree.shapes", laid_scholium_tree_shapes)] }
def TreeNamesSaid : Prop := treeNamesRow.holds Tryd.pinned (OpenSpec.ofChange treeNamesSpec)

/-- ITS FALSE NEIGHBOUR: 'it returns false'. Refute it at one input. -/
def treeNamesWrong : ChangeSpec := { name := "treeNames", fn := fun _ => fun
  | [d1, d2] => { results := [.lit (.bool false)], args := [d1, d2] }
  | _ => none }
def TreeNamesWrongFalsely : Prop := treeNamesRow.holds Tryd.pinned (OpenSpec.ofChange treeNamesWrong)

/-- 'scholiumlaw04.TreeDecls': WHATEVER THE INPUT: true; the input reads as it did. -/
def treeDeclsSpec : ChangeSpec := { name := "treeDecls", fn := fun _ => fun
  | [d1, d2] => { results := [.lit (.bool true)], args := [d1, d2] }
  | _ => none }
def treeDeclsRow : OpenClaim := { program := "ytpahohbpilgdnaadoor", sum := "2c5c1718ac6d2e008c06629e8e2910963703a79b86a8009aa5b2be451ac6b34e", func := "scholium/scholiumlaw04.TreeDecls", spec := "treeDecls", unfollowed := true, recurses := true, named := ["scholium/tree.shapes", "scholium/tree.rooms"], loops := true, apart := false, laid := [("scholium/tree.shapes", laid_scholium_tree_shapes), ("scholium/tree.rooms", laid_scholium_tree_rooms)] }
def TreeDeclsSaid : Prop := treeDeclsRow.holds Tryd.pinned (OpenSpec.ofChange treeDeclsSpec)

/-- ITS FALSE NEIGHBOUR: 'it returns false'. Refute it at one input. -/
def treeDeclsWrong : ChangeSpec := { name := "treeDecls", fn := fun _ => fun
  | [d1, d2] => { results := [.lit (.bool false)], args := [d1, d2] }
  | _ => none }
def TreeDeclsWrongFalsely : Prop := treeDeclsRow.holds Tryd.pinned (OpenSpec.ofChange treeDeclsWrong)

/-- 'scholiumlaw04.TreeLimits': WHATEVER THE INPUT: true; the input reads as it did. -/
def treeLimitsSpec : ChangeSpec := { name := "treeLimits", fn := fun _ => fun
  | [d] => { results := [.lit (.bool true)], args := [d] }
  | _ => none }
def treeLimitsRow : OpenClaim := { program := "ytpahohbpilgdnaadoor", sum := "2c5c1718ac6d2e008c06629e8e2910963703a79b86a8009aa5b2be451ac6b34e", func := "scholium/scholiumlaw04.TreeLimits", spec := "treeLimits", unfollowed := true, recurses := true, named := ["scholium/tree.shapes"], apart := false, laid := [("scholium/tree.shapes", laid_scholium_tree_shapes)] }
def TreeLimitsSaid : Prop := treeLimitsRow.holds Tryd.pinned (OpenSpec.ofChange treeLimitsSpec)

/-- ITS FALSE NEIGHBOUR: 'it returns false'. Refute it at one input. -/
def treeLimitsWrong : ChangeSpec := { name := "treeLimits", fn := fun _ => fun
  | [d] => { results := [.lit (.bool false)], args := [d] }
  | _ => none }
def TreeLimitsWrongFalsely : Prop := treeLimitsRow.holds Tryd.pinned (OpenSpec.ofChange treeLimitsWrong)

/- THE SECOND FORM. 'bulk': how many values and letters a reading holds, each counted each time it is reached (what is shared counts as often as it is met; a slice's spare places count too). A statement '..UptoSaid' is the law's where the arguments, and the package variables that the reading takes, are together of bulk at most 1048576: NARROWER than '..Said'. Prove '..Said' where nothing that the law and all that it calls make is longer than what came in: it says more and counts as full. Else prove '..UptoSaid'. A law counts once. -/
mutual
def uptoBulk {H : Type} : DataW H → Nat
  | .lit (.string bytes) => bytes.length + 1
  | .lit _ => 1
  | .nil => 1
  | .ptr d => uptoBulk d + 1
  | .slice elems spare => uptoBulkAll elems + uptoBulkAll spare + 1
  | .agg parts => uptoBulkAll parts + 1
  | .iface _ d => uptoBulk d + 1
  | .map entries => uptoBulkEntries entries + 1
  | .held _ => 1
def uptoBulkAll {H : Type} : List (DataW H) → Nat
  | [] => 0
  | d :: r => uptoBulk d + uptoBulkAll r
def uptoBulkEntries {H : Type} : List (Lit × DataW H) → Nat
  | [] => 0
  | x :: r => uptoBulkEntry x + uptoBulkEntries r
def uptoBulkEntry {H : Type} : Lit × DataW H → Nat
  | (.string bytes, d) => bytes.length + uptoBulk d + 1
  | (_, d) => uptoBulk d + 1
 end
def uptoSmall : (H : Type) → List (DataW H) → Bool := fun _ ds => decide (uptoBulkAll ds ≤ 1048576)
def OpenSpec.upto (s : _root_.Go.ChangeSpec) : _root_.Go.OpenSpec := { _root_.Go.OpenSpec.ofChange s with cond := some uptoSmall }

/-- 'scholiumlaw04.TreeNodes', WHERE WHAT IT READS IS OF BULK AT MOST 1048576: true; the input reads as it did. -/
def treeNodesUptoRow : OpenClaim := { program := "ytpahohbpilgdnaadoor", sum := "2c5c1718ac6d2e008c06629e8e2910963703a79b86a8009aa5b2be451ac6b34e", func := "scholium/scholiumlaw04.TreeNodes", spec := "treeNodes", unfollowed := true, recurses := true, named := ["scholium/tree.shapes"], loops := true, apart := false, laid := [("scholium/tree.shapes", laid_scholium_tree_shapes)], narrowed := true }
def TreeNodesUptoSaid : Prop := treeNodesUptoRow.holds Tryd.pinned (OpenSpec.upto treeNodesSpec)

/-- 'scholiumlaw04.TreeSames', WHERE WHAT IT READS IS OF BULK AT MOST 1048576: true; the input reads as it did. -/
def treeSamesUptoRow : OpenClaim := { program := "ytpahohbpilgdnaadoor", sum := "2c5c1718ac6d2e008c06629e8e2910963703a79b86a8009aa5b2be451ac6b34e", func := "scholium/scholiumlaw04.TreeSames", spec := "treeSames", unfollowed := true, recurses := true, named := ["scholium/tree.shapes"], loops := true, apart := false, laid := [("scholium/tree.shapes", laid_scholium_tree_shapes)], narrowed := true }
def TreeSamesUptoSaid : Prop := treeSamesUptoRow.holds Tryd.pinned (OpenSpec.upto treeSamesSpec)

/-- 'scholiumlaw04.TreeCopies', WHERE WHAT IT READS IS OF BULK AT MOST 1048576: true; the input reads as it did. -/
def treeCopiesUptoRow : OpenClaim := { program := "ytpahohbpilgdnaadoor", sum := "2c5c1718ac6d2e008c06629e8e2910963703a79b86a8009aa5b2be451ac6b34e", func := "scholium/scholiumlaw04.TreeCopies", spec := "treeCopies", unfollowed := true, recurses := true, named := ["scholium/tree.shapes"], loops := true, apart := false, laid := [("scholium/tree.shapes", laid_scholium_tree_shapes)], narrowed := true }
def TreeCopiesUptoSaid : Prop := treeCopiesUptoRow.holds Tryd.pinned (OpenSpec.upto treeCopiesSpec)

/-- 'scholiumlaw04.TreeNames', WHERE WHAT IT READS IS OF BULK AT MOST 1048576: true; the input reads as it did. -/
def treeNamesUptoRow : OpenClaim := { program := "ytpahohbpilgdnaadoor", sum := "2c5c1718ac6d2e008c06629e8e2910963703a79b86a8009aa5b2be451ac6b34e", func := "scholium/scholiumlaw04.TreeNames", spec := "treeNames", unfollowed := true, recurses := true, named := ["scholium/tree.shapes"], loops := true, apart := false, laid := [("scholium/tree.shapes", laid_scholium_tree_shapes)], narrowed := true }
def TreeNamesUptoSaid : Prop := treeNamesUptoRow.holds Tryd.pinned (OpenSpec.upto treeNamesSpec)

/-- 'scholiumlaw04.TreeDecls', WHERE WHAT IT READS IS OF BULK AT MOST 1048576: true; the input reads as it did. -/
def treeDeclsUptoRow : OpenClaim := { program := "ytpahohbpilgdnaadoor", sum := "2c5c1718ac6d2e008c06629e8e2910963703a79b86a8009aa5b2be451ac6b34e", func := "scholium/scholiumlaw04.TreeDecls", spec := "treeDecls", unfollowed := true, recurses := true, named := ["scholium/tree.shapes", "scholium/tree.rooms"], loops := true, apart := false, laid := [("scholium/tree.shapes", laid_scholium_tree_shapes), ("scholium/tree.rooms", laid_scholium_tree_rooms)], narrowed := true }
def TreeDeclsUptoSaid : Prop := treeDeclsUptoRow.holds Tryd.pinned (OpenSpec.upto treeDeclsSpec)

/-- 'scholiumlaw04.TreeLimits', WHERE WHAT IT READS IS OF BULK AT MOST 1048576: true; the input reads as it did. -/
def treeLimitsUptoRow : OpenClaim := { program := "ytpahohbpilgdnaadoor", sum := "2c5c1718ac6d2e008c06629e8e2910963703a79b86a8009aa5b2be451ac6b34e", func := "scholium/scholiumlaw04.TreeLimits", spec := "treeLimits", unfollowed := true, recurses := true, named := ["scholium/tree.shapes"], apart := false, laid := [("scholium/tree.shapes", laid_scholium_tree_shapes)], narrowed := true }
def TreeLimitsUptoSaid : Prop := treeLimitsUptoRow.holds Tryd.pinned (OpenSpec.upto treeLimitsSpec)

end Rows
end Go.Proofs.YtpahohbpilgdnaaDoor
