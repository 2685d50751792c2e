/- What came in as a list of declarations lies in memory as one. -/
import Derived.Test.YteaojmcfppbgiaaGreatDoorOpenD6
import Derived.Test.YteaojmcfppbgiaaGreatDoorPrF
import Derived.Test.YteaojmcfppbgiaaGreatDoorC1
namespace Go.Proofs.YteaojmcfppbgiaaGreatDoor
open Go.ChangeShapes Go.WideShapes Go.ChangeAt Go.RowKit Go.Deep
set_option linter.unusedVariables false
set_option maxRecDepth 100000

/-- A parameter that is a list of declarations. -/
theorem decls_open {H : Type} {enc : TypeId × Value → H} {W : World} {base : Nat} {sp : Nat → Bool} {hd : Bool} {r : Reach} {b0 : Nat} {v : Value} {d : DataW H} {p : List MemPlace} (hv : Value.okWide Tryz.prog W r b0 22 v) (h : DataW.Trod enc Tryz.prog W base sp hd 22 v d p) :
    ∃ (l : List DT) (A : Option Addr) (cap : Nat), v = .slice A l.length cap ∧ l.length ≤ maxLen ∧ DeclsIn W 0 W.heap.size A l := by
  obtain ⟨a, len, cap, rfl⟩ := okWide_slice Tryz.underlying22 hv
  obtain ⟨fuel, hf⟩ := h
  have hf' : DataW.trod enc Tryz.prog W base sp hd fuel 22 [.slice a len cap] = some (d, p) := by simpa [Value.cells] using hf
  haveI : Inhabited (DT × DP) := ⟨(⟨0, 0, ⟨#[]⟩, [], default, [], []⟩, ⟨none, 0, none, 0, none, 0, none, 0⟩)⟩
  obtain ⟨ps, A, c, hc, h1, h2, h3⟩ := open_list (α := DT × DP) (cellsX := kdD.cells) (inX := fun p => IsDecl W 0 W.heap.size p.1 p.2) (m := 11) Tryz.underlying22 cellsOD (by decide) (fun _ => rfl)
    (fun fuel cs x h => by
      obtain ⟨y, q, e, hn⟩ := open_decl fuel cs x h
      refine ⟨(y, q), ?_, hn⟩
      unfold declV at e
      injection e with e
      have := congrArg Array.toList e
      show cs = [_, _, _, _, _, _, _, _, _, _, _]
      simpa using this) hf'
  refine ⟨ps.map (·.1), A, c, by rw [List.length_map]; exact hc, by rw [List.length_map]; omega, fun i hi => ?_⟩
  have hi' : i < ps.length := by simpa using hi
  obtain ⟨b, o, hA, hb, hcc, hn⟩ := h3 i hi'
  have e : (ps.map (·.1))[i] = ps[i].1 := List.getElem_map _
  refine ⟨b, o, ps[i].2, hA, Nat.zero_le _, hb, ?_, by rw [e]; exact hn⟩
  rw [e]
  have c0 := hcc 0 (by omega)
  rw [Nat.add_zero] at c0
  exact ⟨c0, hcc 1 (by omega), hcc 2 (by omega), hcc 3 (by omega), hcc 4 (by omega), hcc 5 (by omega), hcc 6 (by omega), hcc 7 (by omega), hcc 8 (by omega), hcc 9 (by omega), hcc 10 (by omega)⟩

end Go.Proofs.YteaojmcfppbgiaaGreatDoor
