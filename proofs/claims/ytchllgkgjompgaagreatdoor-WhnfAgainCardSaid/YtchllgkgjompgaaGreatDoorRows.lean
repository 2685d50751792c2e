/-
  NARROWER THAN 'FOR EVERY INPUT', by the rows' own cells (each row's printed sentence says how): ConvSelf: loops, laid · ConvTurned: loops, laid · ConvEta: loops, laid · ConvNil: loops, laid · WhnfAgain: loops, laid · WhnfFuel: loops, laid.
  DERIVED. THE GIVEN ROWS OF THIS SEAT. 6 by the template 'for every input the law returns true; each argument reads behind the call as it read before'; 0 by the template 'total and deterministic' (their statements: YtchllgkgjompgaaGreatDoorTotals.lean).
  GIVEN WITH THE SEED: the statements are not yours to turn. If you find one false, say at which input.
  Laid BY PROGRAM, IN A SANDBOX (cutbox-rows.mjs): the forced cells as the released guide's own fill.sh prints them over the translation addc2d580c65bd4e… (all of the seat's roots in one cut). By AI agents, Wed Nov 11 2026. No macro, syntax, notation, axiom, sorry.
-/
import Derived.Test.YtchllgkgjompgaaGreatDoorChecked
import GoSem.Claim
import GoSem.ClaimJoined
import GoSem.ClaimMapViews
import Derived.JoinedTies
import Derived.KernelRfl
namespace Go.Proofs.YtchllgkgjompgaaGreatDoor
/- THE CELL 'sum', in the pinned program and in every row, IS THE sha256 OF THE DUMP (.gsa) THAT YtchllgkgjompgaaGreatDoorProg.lean LOADS. Nothing in Lean hashes anything: it is a label: what it is worth is what the hold of that sum in a sandbox is worth. -/
noncomputable def Tryz.pinned : Pinned := { name := "ytchllgkgjompgaagreatdoor", sum := "addc2d580c65bd4e52f2453bc2c0bf071e7e45f1e5ab4fb93f7656b8cca2df57", checked := Tryz.checked }
namespace Rows
def none {H : Type} : Left H := { results := [], args := [] }

/- WHAT THE LISTED PACKAGE-LEVEL VARIABLES READ AS WHEN THE CALL BEGINS. Each datum BY PROGRAM (the guide's laid-datum.mjs) off the statement by which the dump's own 'gosem.cut.vars' lays the variable. In a bare row this is a premise. The card (YtchllgkgjompgaaGreatDoorCards.lean) ties it to the program's text. -/
def laid_scholium_term_shapes {H : Type} : DataW H := .agg [.agg [.lit (.int .i64 0), .lit (.int .i64 0), .lit (.int .i64 0), .agg [.lit (.int .i64 0), .lit (.int .i64 0)]], .agg [.lit (.int .i64 1048576), .lit (.int .i64 0), .lit (.int .i64 0), .agg [.lit (.int .i64 0), .lit (.int .i64 0)]], .agg [.lit (.int .i64 7), .lit (.int .i64 0), .lit (.int .i64 0), .agg [.lit (.int .i64 0), .lit (.int .i64 0)]], .agg [.lit (.int .i64 0), .lit (.int .i64 2), .lit (.int .i64 0), .agg [.lit (.int .i64 0), .lit (.int .i64 1)]], .agg [.lit (.int .i64 0), .lit (.int .i64 2), .lit (.int .i64 0), .agg [.lit (.int .i64 0), .lit (.int .i64 1)]], .agg [.lit (.int .i64 0), .lit (.int .i64 2), .lit (.int .i64 0), .agg [.lit (.int .i64 0), .lit (.int .i64 0)]], .agg [.lit (.int .i64 1048576), .lit (.int .i64 0), .lit (.int .i64 0), .agg [.lit (.int .i64 0), .lit (.int .i64 0)]], .agg [.lit (.int .i64 1048576), .lit (.int .i64 1), .lit (.int .i64 2), .agg [.lit (.int .i64 0), .lit (.int .i64 0)]], .agg [.lit (.int .i64 1048576), .lit (.int .i64 0), .lit (.int .i64 0), .agg [.lit (.int .i64 0), .lit (.int .i64 0)]]]

/-- 'scholiumlaw16.ConvSelf': WHATEVER THE INPUT: true; the input reads as it did. -/
def convSelfSpec : ChangeSpec := { name := "convSelf", fn := fun _ => fun
  | [d1, d2] => { results := [.lit (.bool true)], args := [d1, d2] }
  | _ => none }
def convSelfRow : OpenClaim := { program := "ytchllgkgjompgaagreatdoor", sum := "addc2d580c65bd4e52f2453bc2c0bf071e7e45f1e5ab4fb93f7656b8cca2df57", func := "scholium/scholiumlaw16.ConvSelf", spec := "convSelf", inPlace := ["sync/atomic.StoreInt64", "sync/atomic.LoadInt64", "sync/atomic.CompareAndSwapInt64"], unfollowed := true, recurses := true, named := ["scholium/term.shapes"], loops := true, apart := false, laid := [("scholium/term.shapes", laid_scholium_term_shapes)] }
def ConvSelfSaid : Prop := convSelfRow.holds Tryz.pinned (OpenSpec.ofChange convSelfSpec)

/-- ITS FALSE NEIGHBOUR: 'it returns false'. Refute it at one input. -/
def convSelfWrong : ChangeSpec := { name := "convSelf", fn := fun _ => fun
  | [d1, d2] => { results := [.lit (.bool false)], args := [d1, d2] }
  | _ => none }
def ConvSelfWrongFalsely : Prop := convSelfRow.holds Tryz.pinned (OpenSpec.ofChange convSelfWrong)

/-- 'scholiumlaw16.ConvTurned': WHATEVER THE INPUT: true; the input reads as it did. -/
def convTurnedSpec : ChangeSpec := { name := "convTurned", fn := fun _ => fun
  | [d1, d2] => { results := [.lit (.bool true)], args := [d1, d2] }
  | _ => none }
def convTurnedRow : OpenClaim := { program := "ytchllgkgjompgaagreatdoor", sum := "addc2d580c65bd4e52f2453bc2c0bf071e7e45f1e5ab4fb93f7656b8cca2df57", func := "scholium/scholiumlaw16.ConvTurned", spec := "convTurned", inPlace := ["sync/atomic.StoreInt64", "sync/atomic.LoadInt64", "sync/atomic.CompareAndSwapInt64"], unfollowed := true, recurses := true, named := ["scholium/term.shapes"], loops := true, apart := false, laid := [("scholium/term.shapes", laid_scholium_term_shapes)] }
def ConvTurnedSaid : Prop := convTurnedRow.holds Tryz.pinned (OpenSpec.ofChange convTurnedSpec)

/-- ITS FALSE NEIGHBOUR: 'it returns false'. Refute it at one input. -/
def convTurnedWrong : ChangeSpec := { name := "convTurned", fn := fun _ => fun
  | [d1, d2] => { results := [.lit (.bool false)], args := [d1, d2] }
  | _ => none }
def ConvTurnedWrongFalsely : Prop := convTurnedRow.holds Tryz.pinned (OpenSpec.ofChange convTurnedWrong)

/-- 'scholiumlaw16.ConvEta': WHATEVER THE INPUT: true; the input reads as it did. -/
def convEtaSpec : ChangeSpec := { name := "convEta", fn := fun _ => fun
  | [d1, d2] => { results := [.lit (.bool true)], args := [d1, d2] }
  | _ => none }
def convEtaRow : OpenClaim := { program := "ytchllgkgjompgaagreatdoor", sum := "addc2d580c65bd4e52f2453bc2c0bf071e7e45f1e5ab4fb93f7656b8cca2df57", func := "scholium/scholiumlaw16.ConvEta", spec := "convEta", inPlace := ["sync/atomic.StoreInt64", "sync/atomic.LoadInt64", "sync/atomic.CompareAndSwapInt64"], unfollowed := true, recurses := true, named := ["scholium/term.shapes"], loops := true, apart := false, laid := [("scholium/term.shapes", laid_scholium_term_shapes)] }
def ConvEtaSaid : Prop := convEtaRow.holds Tryz.pinned (OpenSpec.ofChange convEtaSpec)

/-- ITS FALSE NEIGHBOUR: 'it returns false'. Refute it at one input. -/
def convEtaWrong : ChangeSpec := { name := "convEta", fn := fun _ => fun
  | [d1, d2] => { results := [.lit (.bool false)], args := [d1, d2] }
  | _ => none }
def ConvEtaWrongFalsely : Prop := convEtaRow.holds Tryz.pinned (OpenSpec.ofChange convEtaWrong)

/-- 'scholiumlaw16.ConvNil': WHATEVER THE INPUT: true; the input reads as it did. -/
def convNilSpec : ChangeSpec := { name := "convNil", fn := fun _ => fun
  | [d] => { results := [.lit (.bool true)], args := [d] }
  | _ => none }
def convNilRow : OpenClaim := { program := "ytchllgkgjompgaagreatdoor", sum := "addc2d580c65bd4e52f2453bc2c0bf071e7e45f1e5ab4fb93f7656b8cca2df57", func := "scholium/scholiumlaw16.ConvNil", spec := "convNil", inPlace := ["sync/atomic.StoreInt64", "sync/atomic.LoadInt64", "sync/atomic.CompareAndSwapInt64"], unfollowed := true, recurses := true, named := ["scholium/term.shapes"], loops := true, apart := false, laid := [("scholium/term.shapes", laid_scholium_term_shapes)] }
def ConvNilSaid : Prop := convNilRow.holds Tryz.pinned (OpenSpec.ofChange convNilSpec)

/-- ITS FALSE NEIGHBOUR: 'it returns false'. Refute it at one input. -/
def convNilWrong : ChangeSpec := { name := "convNil", fn := fun _ => fun
  | [d] => { results := [.lit (.bool false)], args := [d] }
  | _ => none }
def ConvNilWrongFalsely : Prop := convNilRow.holds Tryz.pinned (OpenSpec.ofChange convNilWrong)

/-- 'scholiumlaw14.WhnfAgain': WHATEVER THE INPUT: true; the input reads as it did. -/
def whnfAgainSpec : ChangeSpec := { name := "whnfAgain", fn := fun _ => fun
  | [d1, d2, d3] => { results := [.lit (.bool true)], args := [d1, d2, d3] }
  | _ => none }
def whnfAgainRow : OpenClaim := { program := "ytchllgkgjompgaagreatdoor", sum := "addc2d580c65bd4e52f2453bc2c0bf071e7e45f1e5ab4fb93f7656b8cca2df57", func := "scholium/scholiumlaw14.WhnfAgain", spec := "whnfAgain", inPlace := ["sync/atomic.StoreInt64", "sync/atomic.LoadInt64", "sync/atomic.CompareAndSwapInt64"], unfollowed := true, recurses := true, named := ["scholium/term.shapes"], loops := true, apart := false, laid := [("scholium/term.shapes", laid_scholium_term_shapes)] }
def WhnfAgainSaid : Prop := whnfAgainRow.holds Tryz.pinned (OpenSpec.ofChange whnfAgainSpec)

/-- ITS FALSE NEIGHBOUR: 'it returns false'. Refute it at one input. -/
def whnfAgainWrong : ChangeSpec := { name := "whnfAgain", fn := fun _ => fun
  | [d1, d2, d3] => { results := [.lit (.bool false)], args := [d1, d2, d3] }
  | _ => none }
def WhnfAgainWrongFalsely : Prop := whnfAgainRow.holds Tryz.pinned (OpenSpec.ofChange whnfAgainWrong)

/-- 'scholiumlaw14.WhnfFuel': WHATEVER THE INPUT: true; the input reads as it did. -/
def whnfFuelSpec : ChangeSpec := { name := "whnfFuel", fn := fun _ => fun
  | [d1, d2, d3] => { results := [.lit (.bool true)], args := [d1, d2, d3] }
  | _ => none }
def whnfFuelRow : OpenClaim := { program := "ytchllgkgjompgaagreatdoor", sum := "addc2d580c65bd4e52f2453bc2c0bf071e7e45f1e5ab4fb93f7656b8cca2df57", func := "scholium/scholiumlaw14.WhnfFuel", spec := "whnfFuel", inPlace := ["sync/atomic.StoreInt64", "sync/atomic.LoadInt64", "sync/atomic.CompareAndSwapInt64"], unfollowed := true, recurses := true, named := ["scholium/term.shapes"], loops := true, apart := false, laid := [("scholium/term.shapes", laid_scholium_term_shapes)] }
def WhnfFuelSaid : Prop := whnfFuelRow.holds Tryz.pinned (OpenSpec.ofChange whnfFuelSpec)

/-- ITS FALSE NEIGHBOUR: 'it returns false'. Refute it at one input. -/
def whnfFuelWrong : ChangeSpec := { name := "whnfFuel", fn := fun _ => fun
  | [d1, d2, d3] => { results := [.lit (.bool false)], args := [d1, d2, d3] }
  | _ => none }
def WhnfFuelWrongFalsely : Prop := whnfFuelRow.holds Tryz.pinned (OpenSpec.ofChange whnfFuelWrong)

/- THE SECOND FORM. 'bulk': how many values and letters a reading holds, each counted each time it is reached (what is shared counts as often as it is met; a slice's spare places count too). A statement '..UptoSaid' is the law's where the arguments, and the package variables that the reading takes, are together of bulk at most 1048576: NARROWER than '..Said'. Prove '..Said' where nothing that the law and all that it calls make is longer than what came in: it says more and counts as full. Else prove '..UptoSaid'. A law counts once. -/
mutual
def uptoBulk {H : Type} : DataW H → Nat
  | .lit (.string bytes) => bytes.length + 1
  | .lit _ => 1
  | .nil => 1
  | .ptr d => uptoBulk d + 1
  | .slice elems spare => uptoBulkAll elems + uptoBulkAll spare + 1
  | .agg parts => uptoBulkAll parts + 1
  | .iface _ d => uptoBulk d + 1
  | .map entries => uptoBulkEntries entries + 1
  | .held _ => 1
def uptoBulkAll {H : Type} : List (DataW H) → Nat
  | [] => 0
  | d :: r => uptoBulk d + uptoBulkAll r
def uptoBulkEntries {H : Type} : List (Lit × DataW H) → Nat
  | [] => 0
  | x :: r => uptoBulkEntry x + uptoBulkEntries r
def uptoBulkEntry {H : Type} : Lit × DataW H → Nat
  | (.string bytes, d) => bytes.length + uptoBulk d + 1
  | (_, d) => uptoBulk d + 1
 end
def uptoSmall : (H : Type) → List (DataW H) → Bool := fun _ ds => decide (uptoBulkAll ds ≤ 1048576)
def OpenSpec.upto (s : _root_.Go.ChangeSpec) : _root_.Go.OpenSpec := { _root_.Go.OpenSpec.ofChange s with cond := some uptoSmall }

/-- 'scholiumlaw16.ConvSelf', WHERE WHAT IT READS IS OF BULK AT MOST 1048576: true; the input reads as it did. -/
def convSelfUptoRow : OpenClaim := { program := "ytchllgkgjompgaagreatdoor", sum := "addc2d580c65bd4e52f2453bc2c0bf071e7e45f1e5ab4fb93f7656b8cca2df57", func := "scholium/scholiumlaw16.ConvSelf", spec := "convSelf", inPlace := ["sync/atomic.StoreInt64", "sync/atomic.LoadInt64", "sync/atomic.CompareAndSwapInt64"], unfollowed := true, recurses := true, named := ["scholium/term.shapes"], loops := true, apart := false, laid := [("scholium/term.shapes", laid_scholium_term_shapes)], narrowed := true }
def ConvSelfUptoSaid : Prop := convSelfUptoRow.holds Tryz.pinned (OpenSpec.upto convSelfSpec)

/-- 'scholiumlaw16.ConvTurned', WHERE WHAT IT READS IS OF BULK AT MOST 1048576: true; the input reads as it did. -/
def convTurnedUptoRow : OpenClaim := { program := "ytchllgkgjompgaagreatdoor", sum := "addc2d580c65bd4e52f2453bc2c0bf071e7e45f1e5ab4fb93f7656b8cca2df57", func := "scholium/scholiumlaw16.ConvTurned", spec := "convTurned", inPlace := ["sync/atomic.StoreInt64", "sync/atomic.LoadInt64", "sync/atomic.CompareAndSwapInt64"], unfollowed := true, recurses := true, named := ["scholium/term.shapes"], loops := true, apart := false, laid := [("scholium/term.shapes", laid_scholium_term_shapes)], narrowed := true }
def ConvTurnedUptoSaid : Prop := convTurnedUptoRow.holds Tryz.pinned (OpenSpec.upto convTurnedSpec)

/-- 'scholiumlaw16.ConvEta', WHERE WHAT IT READS IS OF BULK AT MOST 1048576: true; the input reads as it did. -/
def convEtaUptoRow : OpenClaim := { program := "ytchllgkgjompgaagreatdoor", sum := "addc2d580c65bd4e52f2453bc2c0bf071e7e45f1e5ab4fb93f7656b8cca2df57", func := "scholium/scholiumlaw16.ConvEta", spec := "convEta", inPlace := ["sync/atomic.StoreInt64", "sync/atomic.LoadInt64", "sync/atomic.CompareAndSwapInt64"], unfollowed := true, recurses := true, named := ["scholium/term.shapes"], loops := true, apart := false, laid := [("scholium/term.shapes", laid_scholium_term_shapes)], narrowed := true }
def ConvEtaUptoSaid : Prop := convEtaUptoRow.holds Tryz.pinned (OpenSpec.upto convEtaSpec)

/-- 'scholiumlaw16.ConvNil', WHERE WHAT IT READS IS OF BULK AT MOST 1048576: true; the input reads as it did. -/
def convNilUptoRow : OpenClaim := { program := "ytchllgkgjompgaagreatdoor", sum := "addc2d580c65bd4e52f2453bc2c0bf071e7e45f1e5ab4fb93f7656b8cca2df57", func := "scholium/scholiumlaw16.ConvNil", spec := "convNil", inPlace := ["sync/atomic.StoreInt64", "sync/atomic.LoadInt64", "sync/atomic.CompareAndSwapInt64"], unfollowed := true, recurses := true, named := ["scholium/term.shapes"], loops := true, apart := false, laid := [("scholium/term.shapes", laid_scholium_term_shapes)], narrowed := true }
def ConvNilUptoSaid : Prop := convNilUptoRow.holds Tryz.pinned (OpenSpec.upto convNilSpec)

/-- 'scholiumlaw14.WhnfAgain', WHERE WHAT IT READS IS OF BULK AT MOST 1048576: true; the input reads as it did. -/
def whnfAgainUptoRow : OpenClaim := { program := "ytchllgkgjompgaagreatdoor", sum := "addc2d580c65bd4e52f2453bc2c0bf071e7e45f1e5ab4fb93f7656b8cca2df57", func := "scholium/scholiumlaw14.WhnfAgain", spec := "whnfAgain", inPlace := ["sync/atomic.StoreInt64", "sync/atomic.LoadInt64", "sync/atomic.CompareAndSwapInt64"], unfollowed := true, recurses := true, named := ["scholium/term.shapes"], loops := true, apart := false, laid := [("scholium/term.shapes", laid_scholium_term_shapes)], narrowed := true }
def WhnfAgainUptoSaid : Prop := whnfAgainUptoRow.holds Tryz.pinned (OpenSpec.upto whnfAgainSpec)

/-- 'scholiumlaw14.WhnfFuel', WHERE WHAT IT READS IS OF BULK AT MOST 1048576: true; the input reads as it did. -/
def whnfFuelUptoRow : OpenClaim := { program := "ytchllgkgjompgaagreatdoor", sum := "addc2d580c65bd4e52f2453bc2c0bf071e7e45f1e5ab4fb93f7656b8cca2df57", func := "scholium/scholiumlaw14.WhnfFuel", spec := "whnfFuel", inPlace := ["sync/atomic.StoreInt64", "sync/atomic.LoadInt64", "sync/atomic.CompareAndSwapInt64"], unfollowed := true, recurses := true, named := ["scholium/term.shapes"], loops := true, apart := false, laid := [("scholium/term.shapes", laid_scholium_term_shapes)], narrowed := true }
def WhnfFuelUptoSaid : Prop := whnfFuelUptoRow.holds Tryz.pinned (OpenSpec.upto whnfFuelSpec)

end Rows
end Go.Proofs.YtchllgkgjompgaaGreatDoor
