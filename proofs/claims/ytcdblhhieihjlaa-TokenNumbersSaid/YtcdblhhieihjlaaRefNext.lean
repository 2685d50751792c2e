/- scholiumref01.number and scholiumref01.Next: the sign at any place of any bytes, or that there is none, in terms of 'dec'; nothing that was there is written. For every string shorter than 2^63 bytes and every offset. -/
import Derived.Test.YtcdblhhieihjlaaNumberW
namespace Go.Proofs.Ytcdblhhieihjlaa
open Go.RowKit
set_option linter.unusedVariables false

theorem list_1 (l : List Int) (h : l.length = 1) : l = [l.getD 0 0] := by
  match l, h with
  | [_], _ => rfl
theorem list_2 (l : List Int) (h : l.length = 2) : l = [l.getD 0 0, l.getD 1 0] := by
  match l, h with
  | [_, _], _ => rfl
theorem list_3 (l : List Int) (h : l.length = 3) : l = [l.getD 0 0, l.getD 1 0, l.getD 2 0] := by
  match l, h with
  | [_, _, _], _ => rfl
theorem list_4 (l : List Int) (h : l.length = 4) : l = [l.getD 0 0, l.getD 1 0, l.getD 2 0, l.getD 3 0] := by
  match l, h with
  | [_, _, _, _], _ => rfl

/-- What scholiumref01.Next answers. -/
def refNextV : Option Int → Value
  | none => .tuple #[.int .i64 0, .int .i64 0, .bool false]
  | some n => .tuple #[.int .i64 n, .int .i64 (wid n), .bool true]
theorem refNextV_some (n : Int) : refNextV (some n) = .tuple #[.int .i64 n, .int .i64 (wid n), .bool true] := rfl

theorem head_nonneg (s : ByteArray) (k : Nat) : ∀ b, ((bytesL s).drop k).head? = some b → 0 ≤ b := by
  intro b hb
  by_cases hk : k < s.size
  · rw [drop_byt s k hk] at hb
    have := Option.some.inj hb
    rw [← this]; exact byt_lo s k
  · rw [drop_nil s k (by omega)] at hb; cases hb

theorem wid_pos (n : Int) : 1 ≤ wid n ∧ wid n ≤ 4 := by unfold wid; (repeat' split) <;> omega

theorem sign_fits {s : ByteArray} {k : Nat} {n : Int} (h : IsSign ((bytesL s).drop k) n) : k + wid n ≤ s.size := by
  obtain ⟨_, t, ht⟩ := h
  have := congrArg List.length ht
  rw [List.length_drop, List.length_append, encI_length, bytesL_length] at this
  have := (wid_pos n).1
  omega

end Go.Proofs.Ytcdblhhieihjlaa
