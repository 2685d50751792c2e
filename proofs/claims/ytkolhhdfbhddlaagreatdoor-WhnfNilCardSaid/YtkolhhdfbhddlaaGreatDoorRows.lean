/-
  NARROWER THAN 'FOR EVERY INPUT', by the rows' own cells (each row's printed sentence says how): IotaFields: loops, laid · IotaMotives: loops, laid · IotaMethods: loops, laid · IotaNames: loops, laid · WhnfAgain: loops, laid · WhnfFuel: loops, laid · WhnfLoose: loops, laid · WhnfNil: loops, laid.
  DERIVED. THE GIVEN ROWS OF THIS SEAT. 8 by the template 'for every input the law returns true; each argument reads behind the call as it read before'; 0 by the template 'total and deterministic' (their statements: YtkolhhdfbhddlaaGreatDoorTotals.lean).
  GIVEN WITH THE SEED: the statements are not yours to turn. If you find one false, say at which input.
  Laid BY PROGRAM, IN A SANDBOX (cutbox-rows.mjs): the forced cells as the released guide's own fill.sh prints them over the translation 6983453edd456699… (all of the seat's roots in one cut). By AI agents, Wed Nov 11 2026. No macro, syntax, notation, axiom, sorry.
-/
import Derived.Test.YtkolhhdfbhddlaaGreatDoorChecked
import GoSem.Claim
import GoSem.ClaimJoined
import GoSem.ClaimMapViews
import Derived.JoinedTies
import Derived.KernelRfl
namespace Go.Proofs.YtkolhhdfbhddlaaGreatDoor
/- THE CELL 'sum', in the pinned program and in every row, IS THE sha256 OF THE DUMP (.gsa) THAT YtkolhhdfbhddlaaGreatDoorProg.lean LOADS. Nothing in Lean hashes anything: it is a label: what it is worth is what the hold of that sum in a sandbox is worth. -/
noncomputable def Tryz.pinned : Pinned := { name := "ytkolhhdfbhddlaagreatdoor", sum := "6983453edd4566990a2390ca149746d1cd88cc7c6e38e7389674f902232233c8", checked := Tryz.checked }
namespace Rows
def none {H : Type} : Left H := { results := [], args := [] }

/- WHAT THE LISTED PACKAGE-LEVEL VARIABLES READ AS WHEN THE CALL BEGINS. Each datum BY PROGRAM (the guide's laid-datum.mjs) off the statement by which the dump's own 'gosem.cut.vars' lays the variable. In a bare row this is a premise. The card (YtkolhhdfbhddlaaGreatDoorCards.lean) ties it to the program's text. -/
def laid_scholium_term_shapes {H : Type} : DataW H := .agg [.agg [.lit (.int .i64 0), .lit (.int .i64 0), .lit (.int .i64 0), .agg [.lit (.int .i64 0), .lit (.int .i64 0)]], .agg [.lit (.int .i64 1048576), .lit (.int .i64 0), .lit (.int .i64 0), .agg [.lit (.int .i64 0), .lit (.int .i64 0)]], .agg [.lit (.int .i64 7), .lit (.int .i64 0), .lit (.int .i64 0), .agg [.lit (.int .i64 0), .lit (.int .i64 0)]], .agg [.lit (.int .i64 0), .lit (.int .i64 2), .lit (.int .i64 0), .agg [.lit (.int .i64 0), .lit (.int .i64 1)]], .agg [.lit (.int .i64 0), .lit (.int .i64 2), .lit (.int .i64 0), .agg [.lit (.int .i64 0), .lit (.int .i64 1)]], .agg [.lit (.int .i64 0), .lit (.int .i64 2), .lit (.int .i64 0), .agg [.lit (.int .i64 0), .lit (.int .i64 0)]], .agg [.lit (.int .i64 1048576), .lit (.int .i64 0), .lit (.int .i64 0), .agg [.lit (.int .i64 0), .lit (.int .i64 0)]], .agg [.lit (.int .i64 1048576), .lit (.int .i64 1), .lit (.int .i64 2), .agg [.lit (.int .i64 0), .lit (.int .i64 0)]], .agg [.lit (.int .i64 1048576), .lit (.int .i64 0), .lit (.int .i64 0), .agg [.lit (.int .i64 0), .lit (.int .i64 0)]]]

/-- 'scholiumlaw13.IotaFields': WHATEVER THE INPUT: true; the input reads as it did. -/
def iotaFieldsSpec : ChangeSpec := { name := "iotaFields", fn := fun _ => fun
  | [d1, d2, d3] => { results := [.lit (.bool true)], args := [d1, d2, d3] }
  | _ => none }
def iotaFieldsRow : OpenClaim := { program := "ytkolhhdfbhddlaagreatdoor", sum := "6983453edd4566990a2390ca149746d1cd88cc7c6e38e7389674f902232233c8", func := "scholium/scholiumlaw13.IotaFields", spec := "iotaFields", unfollowed := true, recurses := true, named := ["scholium/term.shapes"], loops := true, apart := false, laid := [("scholium/term.shapes", laid_scholium_term_shapes)] }
def IotaFieldsSaid : Prop := iotaFieldsRow.holds Tryz.pinned (OpenSpec.ofChange iotaFieldsSpec)

/-- ITS FALSE NEIGHBOUR: 'it returns false'. Refute it at one input. -/
def iotaFieldsWrong : ChangeSpec := { name := "iotaFields", fn := fun _ => fun
  | [d1, d2, d3] => { results := [.lit (.bool false)], args := [d1, d2, d3] }
  | _ => none }
def IotaFieldsWrongFalsely : Prop := iotaFieldsRow.holds Tryz.pinned (OpenSpec.ofChange iotaFieldsWrong)

/-- 'scholiumlaw13.IotaMotives': WHATEVER THE INPUT: true; the input reads as it did. -/
def iotaMotivesSpec : ChangeSpec := { name := "iotaMotives", fn := fun _ => fun
  | [d1, d2, d3] => { results := [.lit (.bool true)], args := [d1, d2, d3] }
  | _ => none }
def iotaMotivesRow : OpenClaim := { program := "ytkolhhdfbhddlaagreatdoor", sum := "6983453edd4566990a2390ca149746d1cd88cc7c6e38e7389674f902232233c8", func := "scholium/scholiumlaw13.IotaMotives", spec := "iotaMotives", unfollowed := true, recurses := true, named := ["scholium/term.shapes"], loops := true, apart := false, laid := [("scholium/term.shapes", laid_scholium_term_shapes)] }
def IotaMotivesSaid : Prop := iotaMotivesRow.holds Tryz.pinned (OpenSpec.ofChange iotaMotivesSpec)

/-- ITS FALSE NEIGHBOUR: 'it returns false'. Refute it at one input. -/
def iotaMotivesWrong : ChangeSpec := { name := "iotaMotives", fn := fun _ => fun
  | [d1, d2, d3] => { results := [.lit (.bool false)], args := [d1, d2, d3] }
  | _ => none }
def IotaMotivesWrongFalsely : Prop := iotaMotivesRow.holds Tryz.pinned (OpenSpec.ofChange iotaMotivesWrong)

/-- 'scholiumlaw13.IotaMethods': WHATEVER THE INPUT: true; the input reads as it did. -/
def iotaMethodsSpec : ChangeSpec := { name := "iotaMethods", fn := fun _ => fun
  | [d1, d2, d3] => { results := [.lit (.bool true)], args := [d1, d2, d3] }
  | _ => none }
def iotaMethodsRow : OpenClaim := { program := "ytkolhhdfbhddlaagreatdoor", sum := "6983453edd4566990a2390ca149746d1cd88cc7c6e38e7389674f902232233c8", func := "scholium/scholiumlaw13.IotaMethods", spec := "iotaMethods", unfollowed := true, recurses := true, named := ["scholium/term.shapes"], loops := true, apart := false, laid := [("scholium/term.shapes", laid_scholium_term_shapes)] }
def IotaMethodsSaid : Prop := iotaMethodsRow.holds Tryz.pinned (OpenSpec.ofChange iotaMethodsSpec)

/-- ITS FALSE NEIGHBOUR: 'it returns false'. Refute it at one input. -/
def iotaMethodsWrong : ChangeSpec := { name := "iotaMethods", fn := fun _ => fun
  | [d1, d2, d3] => { results := [.lit (.bool false)], args := [d1, d2, d3] }
  | _ => none }
def IotaMethodsWrongFalsely : Prop := iotaMethodsRow.holds Tryz.pinned (OpenSpec.ofChange iotaMethodsWrong)

/-- 'scholiumlaw13.IotaNames': WHATEVER THE INPUT: true; the input reads as it did. -/
def iotaNamesSpec : ChangeSpec := { name := "iotaNames", fn := fun _ => fun
  | [d1, d2, d3] => { results := [.lit (.bool true)], args := [d1, d2, d3] }
  | _ => none }
def iotaNamesRow : OpenClaim := { program := "ytkolhhdfbhddlaagreatdoor", sum := "6983453edd4566990a2390ca149746d1cd88cc7c6e38e7389674f902232233c8", func := "scholium/scholiumlaw13.IotaNames", spec := "iotaNames", unfollowed := true, recurses := true, named := ["scholium/term.shapes"], loops := true, apart := false, laid := [("scholium/term.shapes", laid_scholium_term_shapes)] }
def IotaNamesSaid : Prop := iotaNamesRow.holds Tryz.pinned (OpenSpec.ofChange iotaNamesSpec)

/-- ITS FALSE NEIGHBOUR: 'it returns false'. Refute it at one input. -/
def iotaNamesWrong : ChangeSpec := { name := "iotaNames", fn := fun _ => fun
  | [d1, d2, d3] => { results := [.lit (.bool false)], args := [d1, d2, d3] }
  | _ => none }
def IotaNamesWrongFalsely : Prop := iotaNamesRow.holds Tryz.pinned (OpenSpec.ofChange iotaNamesWrong)

/-- 'scholiumlaw14.WhnfAgain': WHATEVER THE INPUT: true; the input reads as it did. -/
def whnfAgainSpec : ChangeSpec := { name := "whnfAgain", fn := fun _ => fun
  | [d1, d2, d3] => { results := [.lit (.bool true)], args := [d1, d2, d3] }
  | _ => none }
def whnfAgainRow : OpenClaim := { program := "ytkolhhdfbhddlaagreatdoor", sum := "6983453edd4566990a2390ca149746d1cd88cc7c6e38e7389674f902232233c8", func := "scholium/scholiumlaw14.WhnfAgain", spec := "whnfAgain", inPlace := ["sync/atomic.StoreInt64", "sync/atomic.LoadInt64", "sync/atomic.CompareAndSwapInt64"], unfollowed := true, recurses := true, named := ["scholium/term.shapes"], loops := true, apart := false, laid := [("scholium/term.shapes", laid_scholium_term_shapes)] }
def WhnfAgainSaid : Prop := whnfAgainRow.holds Tryz.pinned (OpenSpec.ofChange whnfAgainSpec)

/-- ITS FALSE NEIGHBOUR: 'it returns false'. Refute it at one input. -/
def whnfAgainWrong : ChangeSpec := { name := "whnfAgain", fn := fun _ => fun
  | [d1, d2, d3] => { results := [.lit (.bool false)], args := [d1, d2, d3] }
  | _ => none }
def WhnfAgainWrongFalsely : Prop := whnfAgainRow.holds Tryz.pinned (OpenSpec.ofChange whnfAgainWrong)

/-- 'scholiumlaw14.WhnfFuel': WHATEVER THE INPUT: true; the input reads as it did. -/
def whnfFuelSpec : ChangeSpec := { name := "whnfFuel", fn := fun _ => fun
  | [d1, d2, d3] => { results := [.lit (.bool true)], args := [d1, d2, d3] }
  | _ => none }
def whnfFuelRow : OpenClaim := { program := "ytkolhhdfbhddlaagreatdoor", sum := "6983453edd4566990a2390ca149746d1cd88cc7c6e38e7389674f902232233c8", func := "scholium/scholiumlaw14.WhnfFuel", spec := "whnfFuel", inPlace := ["sync/atomic.StoreInt64", "sync/atomic.LoadInt64", "sync/atomic.CompareAndSwapInt64"], unfollowed := true, recurses := true, named := ["scholium/term.shapes"], loops := true, apart := false, laid := [("scholium/term.shapes", laid_scholium_term_shapes)] }
def WhnfFuelSaid : Prop := whnfFuelRow.holds Tryz.pinned (OpenSpec.ofChange whnfFuelSpec)

/-- ITS FALSE NEIGHBOUR: 'it returns false'. Refute it at one input. -/
def whnfFuelWrong : ChangeSpec := { name := "whnfFuel", fn := fun _ => fun
  | [d1, d2, d3] => { results := [.lit (.bool false)], args := [d1, d2, d3] }
  | _ => none }
def WhnfFuelWrongFalsely : Prop := whnfFuelRow.holds Tryz.pinned (OpenSpec.ofChange whnfFuelWrong)

/-- 'scholiumlaw14.WhnfLoose': WHATEVER THE INPUT: true; the input reads as it did. -/
def whnfLooseSpec : ChangeSpec := { name := "whnfLoose", fn := fun _ => fun
  | [d1, d2, d3] => { results := [.lit (.bool true)], args := [d1, d2, d3] }
  | _ => none }
def whnfLooseRow : OpenClaim := { program := "ytkolhhdfbhddlaagreatdoor", sum := "6983453edd4566990a2390ca149746d1cd88cc7c6e38e7389674f902232233c8", func := "scholium/scholiumlaw14.WhnfLoose", spec := "whnfLoose", inPlace := ["sync/atomic.StoreInt64", "sync/atomic.LoadInt64", "sync/atomic.CompareAndSwapInt64"], unfollowed := true, recurses := true, named := ["scholium/term.shapes"], loops := true, apart := false, laid := [("scholium/term.shapes", laid_scholium_term_shapes)] }
def WhnfLooseSaid : Prop := whnfLooseRow.holds Tryz.pinned (OpenSpec.ofChange whnfLooseSpec)

/-- ITS FALSE NEIGHBOUR: 'it returns false'. Refute it at one input. -/
def whnfLooseWrong : ChangeSpec := { name := "whnfLoose", fn := fun _ => fun
  | [d1, d2, d3] => { results := [.lit (.bool false)], args := [d1, d2, d3] }
  | _ => none }
def WhnfLooseWrongFalsely : Prop := whnfLooseRow.holds Tryz.pinned (OpenSpec.ofChange whnfLooseWrong)

/-- 'scholiumlaw14.WhnfNil': WHATEVER THE INPUT: true; the input reads as it did. -/
def whnfNilSpec : ChangeSpec := { name := "whnfNil", fn := fun _ => fun
  | [d] => { results := [.lit (.bool true)], args := [d] }
  | _ => none }
def whnfNilRow : OpenClaim := { program := "ytkolhhdfbhddlaagreatdoor", sum := "6983453edd4566990a2390ca149746d1cd88cc7c6e38e7389674f902232233c8", func := "scholium/scholiumlaw14.WhnfNil", spec := "whnfNil", inPlace := ["sync/atomic.StoreInt64", "sync/atomic.LoadInt64", "sync/atomic.CompareAndSwapInt64"], unfollowed := true, recurses := true, named := ["scholium/term.shapes"], loops := true, apart := false, laid := [("scholium/term.shapes", laid_scholium_term_shapes)] }
def WhnfNilSaid : Prop := whnfNilRow.holds Tryz.pinned (OpenSpec.ofChange whnfNilSpec)

/-- ITS FALSE NEIGHBOUR: 'it returns false'. Refute it at one input. -/
def whnfNilWrong : ChangeSpec := { name := "whnfNil", fn := fun _ => fun
  | [d] => { results := [.lit (.bool false)], args := [d] }
  | _ => none }
def WhnfNilWrongFalsely : Prop := whnfNilRow.holds Tryz.pinned (OpenSpec.ofChange whnfNilWrong)

/- THE SECOND FORM. 'bulk': how many values and letters a reading holds, each counted each time it is reached (what is shared counts as often as it is met; a slice's spare places count too). A statement '..UptoSaid' is the law's where the arguments, and the package variables that the reading takes, are together of bulk at most 1048576: NARROWER than '..Said'. Prove '..Said' where nothing that the law and all that it calls make is longer than what came in: it says more and counts as full. Else prove '..UptoSaid'. A law counts once. -/
mutual
def uptoBulk {H : Type} : DataW H → Nat
  | .lit (.string bytes) => bytes.length + 1
  | .lit _ => 1
  | .nil => 1
  | .ptr d => uptoBulk d + 1
  | .slice elems spare => uptoBulkAll elems + uptoBulkAll spare + 1
  | .agg parts => uptoBulkAll parts + 1
  | .iface _ d => uptoBulk d + 1
  | .map entries => uptoBulkEntries entries + 1
  | .held _ => 1
def uptoBulkAll {H : Type} : List (DataW H) → Nat
  | [] => 0
  | d :: r => uptoBulk d + uptoBulkAll r
def uptoBulkEntries {H : Type} : List (Lit × DataW H) → Nat
  | [] => 0
  | x :: r => uptoBulkEntry x + uptoBulkEntries r
def uptoBulkEntry {H : Type} : Lit × DataW H → Nat
  | (.string bytes, d) => bytes.length + uptoBulk d + 1
  | (_, d) => uptoBulk d + 1
 end
def uptoSmall : (H : Type) → List (DataW H) → Bool := fun _ ds => decide (uptoBulkAll ds ≤ 1048576)
def OpenSpec.upto (s : _root_.Go.ChangeSpec) : _root_.Go.OpenSpec := { _root_.Go.OpenSpec.ofChange s with cond := some uptoSmall }

/-- 'scholiumlaw13.IotaFields', WHERE WHAT IT READS IS OF BULK AT MOST 1048576: true; the input reads as it did. -/
def iotaFieldsUptoRow : OpenClaim := { program := "ytkolhhdfbhddlaagreatdoor", sum := "6983453edd4566990a2390ca149746d1cd88cc7c6e38e7389674f902232233c8", func := "scholium/scholiumlaw13.IotaFields", spec := "iotaFields", unfollowed := true, recurses := true, named := ["scholium/term.shapes"], loops := true, apart := false, laid := [("scholium/term.shapes", laid_scholium_term_shapes)], narrowed := true }
def IotaFieldsUptoSaid : Prop := iotaFieldsUptoRow.holds Tryz.pinned (OpenSpec.upto iotaFieldsSpec)

/-- 'scholiumlaw13.IotaMotives', WHERE WHAT IT READS IS OF BULK AT MOST 1048576: true; the input reads as it did. -/
def iotaMotivesUptoRow : OpenClaim := { program := "ytkolhhdfbhddlaagreatdoor", sum := "6983453edd4566990a2390ca149746d1cd88cc7c6e38e7389674f902232233c8", func := "scholium/scholiumlaw13.IotaMotives", spec := "iotaMotives", unfollowed := true, recurses := true, named := ["scholium/term.shapes"], loops := true, apart := false, laid := [("scholium/term.shapes", laid_scholium_term_shapes)], narrowed := true }
def IotaMotivesUptoSaid : Prop := iotaMotivesUptoRow.holds Tryz.pinned (OpenSpec.upto iotaMotivesSpec)

/-- 'scholiumlaw13.IotaMethods', WHERE WHAT IT READS IS OF BULK AT MOST 1048576: true; the input reads as it did. -/
def iotaMethodsUptoRow : OpenClaim := { program := "ytkolhhdfbhddlaagreatdoor", sum := "6983453edd4566990a2390ca149746d1cd88cc7c6e38e7389674f902232233c8", func := "scholium/scholiumlaw13.IotaMethods", spec := "iotaMethods", unfollowed := true, recurses := true, named := ["scholium/term.shapes"], loops := true, apart := false, laid := [("scholium/term.shapes", laid_scholium_term_shapes)], narrowed := true }
def IotaMethodsUptoSaid : Prop := iotaMethodsUptoRow.holds Tryz.pinned (OpenSpec.upto iotaMethodsSpec)

/-- 'scholiumlaw13.IotaNames', WHERE WHAT IT READS IS OF BULK AT MOST 1048576: true; the input reads as it did. -/
def iotaNamesUptoRow : OpenClaim := { program := "ytkolhhdfbhddlaagreatdoor", sum := "6983453edd4566990a2390ca149746d1cd88cc7c6e38e7389674f902232233c8", func := "scholium/scholiumlaw13.IotaNames", spec := "iotaNames", unfollowed := true, recurses := true, named := ["scholium/term.shapes"], loops := true, apart := false, laid := [("scholium/term.shapes", laid_scholium_term_shapes)], narrowed := true }
def IotaNamesUptoSaid : Prop := iotaNamesUptoRow.holds Tryz.pinned (OpenSpec.upto iotaNamesSpec)

/-- 'scholiumlaw14.WhnfAgain', WHERE WHAT IT READS IS OF BULK AT MOST 1048576: true; the input reads as it did. -/
def whnfAgainUptoRow : OpenClaim := { program := "ytkolhhdfbhddlaagreatdoor", sum := "6983453edd4566990a2390ca149746d1cd88cc7c6e38e7389674f902232233c8", func := "scholium/scholiumlaw14.WhnfAgain", spec := "whnfAgain", inPlace := ["sync/atomic.StoreInt64", "sync/atomic.LoadInt64", "sync/atomic.CompareAndSwapInt64"], unfollowed := true, recurses := true, named := ["scholium/term.shapes"], loops := true, apart := false, laid := [("scholium/term.shapes", laid_scholium_term_shapes)], narrowed := true }
def WhnfAgainUptoSaid : Prop := whnfAgainUptoRow.holds Tryz.pinned (OpenSpec.upto whnfAgainSpec)

/-- 'scholiumlaw14.WhnfFuel', WHERE WHAT IT READS IS OF BULK AT MOST 1048576: true; the input reads as it did. -/
def whnfFuelUptoRow : OpenClaim := { program := "ytkolhhdfbhddlaagreatdoor", sum := "6983453edd4566990a2390ca149746d1cd88cc7c6e38e7389674f902232233c8", func := "scholium/scholiumlaw14.WhnfFuel", spec := "whnfFuel", inPlace := ["sync/atomic.StoreInt64", "sync/atomic.LoadInt64", "sync/atomic.CompareAndSwapInt64"], unfollowed := true, recurses := true, named := ["scholium/term.shapes"], loops := true, apart := false, laid := [("scholium/term.shapes", laid_scholium_term_shapes)], narrowed := true }
def WhnfFuelUptoSaid : Prop := whnfFuelUptoRow.holds Tryz.pinned (OpenSpec.upto whnfFuelSpec)

/-- 'scholiumlaw14.WhnfLoose', WHERE WHAT IT READS IS OF BULK AT MOST 1048576: true; the input reads as it did. -/
def whnfLooseUptoRow : OpenClaim := { program := "ytkolhhdfbhddlaagreatdoor", sum := "6983453edd4566990a2390ca149746d1cd88cc7c6e38e7389674f902232233c8", func := "scholium/scholiumlaw14.WhnfLoose", spec := "whnfLoose", inPlace := ["sync/atomic.StoreInt64", "sync/atomic.LoadInt64", "sync/atomic.CompareAndSwapInt64"], unfollowed := true, recurses := true, named := ["scholium/term.shapes"], loops := true, apart := false, laid := [("scholium/term.shapes", laid_scholium_term_shapes)], narrowed := true }
def WhnfLooseUptoSaid : Prop := whnfLooseUptoRow.holds Tryz.pinned (OpenSpec.upto whnfLooseSpec)

/-- 'scholiumlaw14.WhnfNil', WHERE WHAT IT READS IS OF BULK AT MOST 1048576: true; the input reads as it did. -/
def whnfNilUptoRow : OpenClaim := { program := "ytkolhhdfbhddlaagreatdoor", sum := "6983453edd4566990a2390ca149746d1cd88cc7c6e38e7389674f902232233c8", func := "scholium/scholiumlaw14.WhnfNil", spec := "whnfNil", inPlace := ["sync/atomic.StoreInt64", "sync/atomic.LoadInt64", "sync/atomic.CompareAndSwapInt64"], unfollowed := true, recurses := true, named := ["scholium/term.shapes"], loops := true, apart := false, laid := [("scholium/term.shapes", laid_scholium_term_shapes)], narrowed := true }
def WhnfNilUptoSaid : Prop := whnfNilUptoRow.holds Tryz.pinned (OpenSpec.upto whnfNilSpec)

end Rows
end Go.Proofs.YtkolhhdfbhddlaaGreatDoor
