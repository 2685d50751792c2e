/- The keywords: name.Keyword and the document's plain Keyword. For every string. -/
import Derived.Test.YtmaomnpanfdjeaaDoorLeaf
import Derived.Below
namespace Go.Proofs.YtmaomnpanfdjeaaDoor
open Go.RowKit
set_option linter.unusedVariables false

/-- Is a string a keyword? -/
def keyB (s : ByteArray) : Bool := (s.toList == [100, 97, 116, 97]) || ((s.toList == [114, 101, 99, 111, 114, 100]) || ((s.toList == [100, 101, 102]) || (s.toList == [83, 101, 116])))

theorem ne_list {s t : ByteArray} (h : s ≠ t) : (s.toList == t.toList) = false := by
  rw [beq_eq_false_iff_ne]
  intro e
  apply h
  rw [ByteArray.toList_eq, ByteArray.toList_eq] at e
  exact ByteArray.ext (Array.toList_inj.1 e)
theorem eq_list {s t : ByteArray} (h : s = t) : (s.toList == t.toList) = true := by rw [h]; simp

theorem keyword_any (s : ByteArray) (w : World) : Calls Tryd.prog 65 #[.string s] w fun e w' => e = .returned (.bool (keyB s)) ∧ w = w' := by
  unfold keyB
  cases e0 : (s.toList == [100, 97, 116, 97]) with
  | true =>
    go_enter Tryd.func65, Tryd.ntmps65
    go_wp2_with fail
    go_ret
    exact ⟨rfl, rfl⟩
  | false =>
    cases e1 : (s.toList == [114, 101, 99, 111, 114, 100]) with
    | true =>
      go_enter Tryd.func65, Tryd.ntmps65
      go_wp2_with fail
      go_ret
      exact ⟨rfl, rfl⟩
    | false =>
      cases e2 : (s.toList == [100, 101, 102]) with
      | true =>
        go_enter Tryd.func65, Tryd.ntmps65
        go_wp2_with fail
        go_ret
        exact ⟨rfl, rfl⟩
      | false =>
        cases e3 : (s.toList == [83, 101, 116]) with
        | true =>
          go_enter Tryd.func65, Tryd.ntmps65
          go_wp2_with fail
          go_ret
          exact ⟨rfl, rfl⟩
        | false =>
          go_enter Tryd.func65, Tryd.ntmps65
          go_wp2_with fail
          go_ret
          exact ⟨rfl, rfl⟩

theorem refKeyword_any (s : ByteArray) (w : World) : Calls Tryd.prog 57 #[.string s] w fun e w' => e = .returned (.bool (keyB s)) ∧ w = w' := by
  unfold keyB
  cases e0 : (s.toList == [100, 97, 116, 97]) with
  | true =>
    go_enter Tryd.func57, Tryd.ntmps57
    go_wp2_with fail
    go_ret
    exact ⟨rfl, rfl⟩
  | false =>
    cases e1 : (s.toList == [114, 101, 99, 111, 114, 100]) with
    | true =>
      go_enter Tryd.func57, Tryd.ntmps57
      go_wp2_with fail
      go_ret
      exact ⟨rfl, rfl⟩
    | false =>
      cases e2 : (s.toList == [100, 101, 102]) with
      | true =>
        go_enter Tryd.func57, Tryd.ntmps57
        go_wp2_with fail
        go_ret
        exact ⟨rfl, rfl⟩
      | false =>
        cases e3 : (s.toList == [83, 101, 116]) with
        | true =>
          go_enter Tryd.func57, Tryd.ntmps57
          go_wp2_with fail
          go_ret
          exact ⟨rfl, rfl⟩
        | false =>
          go_enter Tryd.func57, Tryd.ntmps57
          go_wp2_with fail
          go_ret
          exact ⟨rfl, rfl⟩

end Go.Proofs.YtmaomnpanfdjeaaDoor
