/- scholiumlaw06.binds: the document's bindings, or that one is very great. -/
import Derived.Test.YteaojmcfppbgiaaGreatDoorC1
import Derived.Test.YteaojmcfppbgiaaGreatDoorOf6
import Derived.Deep.RegionHeld3
namespace Go.Proofs.YteaojmcfppbgiaaGreatDoor
open Go.RowKit
set_option linter.unusedVariables false
set_option maxRecDepth 100000

theorem infoB : (Tryz.prog.info? 103).map (fun i => (i.zero, i.size, i.bytes)) = some (some (.agg #[.string ⟨#[]⟩, .int .i64 0, .int .i64 0, .int .i64 0, .string ⟨#[]⟩, .int .i64 0, .slice none 0 0]), 7, 88) := by kernel_rfl
/-- A list's copy, where it is told to be one. -/
def CopyB (l : List BT) (w w' : World) (ok : Bool) (n : Nat) (A : Option Addr) (cap : Nat) : Prop :=
  ok = true → n = l.length ∧ l.length ≤ cap ∧ cap ≤ maxLen ∧ BindsAt w' w.heap.size w'.heap.size A l
def BsIs (l : List BT) (w : World) (e : Ending) (w' : World) : Prop :=
  ∃ ok n A cap, e = .returned (.tuple #[.slice A n cap, .bool ok]) ∧ CopyB l w w' ok n A cap ∧ Below w.heap.size w w'
theorem RowX.binds {w : World} {base : Nat} {e : TypeId} {A : Option Addr} {cap : Nat} {ps : List (BT × Option Addr × Nat)} {P : Nat → Prop} (h : RowX kindB w base e (.slice A ps.length cap) ps P) (hP : ∀ b, P b → base ≤ b) {l : List BT} (hl : ps.map (·.1) = l) : BindsAt w base w.heap.size A l := by
  subst hl
  intro i hi
  have hi' : i < ps.length := by simpa using hi
  obtain ⟨b, hA, h1, h2, hc, h3, h4⟩ := h.at_ i hi'
  have e : (ps.map (·.1))[i] = ps[i].1 := List.getElem_map _
  refine ⟨b, 0, ps[i].2.1, ps[i].2.2, hA, h1, h2, ?_, ?_⟩
  · rw [e]
    have c := fun r (hr : r < 7) => hc r hr
    have c0 := c 0 (by omega)
    rw [Nat.add_zero] at c0
    exact ⟨by rw [Nat.zero_add]; exact c0, by rw [Nat.zero_add]; exact c 1 (by omega), by rw [Nat.zero_add]; exact c 2 (by omega), by rw [Nat.zero_add]; exact c 3 (by omega), by rw [Nat.zero_add]; exact c 4 (by omega), by rw [Nat.zero_add]; exact c 5 (by omega), by rw [Nat.zero_add]; exact c 6 (by omega)⟩
  · rw [e]
    exact ⟨h3, h4.imp (fun _ _ _ => rfl) (fun b hb => ⟨hP b hb, (h.far b hb).1⟩)⟩

end Go.Proofs.YteaojmcfppbgiaaGreatDoor
