/- Trees' texts, as bytes: the document's words. No program. -/
import Derived.Test.YtmaomnpanfdjeaaDoorGood
import Derived.Test.YtmaomnpanfdjeaaDoorNum
namespace Go.Proofs.YtmaomnpanfdjeaaDoor
open Go.RowKit
set_option linter.unusedVariables false

abbrev Tx := List UInt8
def tx (s : ByteArray) : Tx := s.data.toList
theorem tx_length (s : ByteArray) : (tx s).length = s.size := rfl
def subT (l : List (Nat → Tx)) (i lv : Nat) : Tx := (l.getD i (fun _ => [])) lv
def setX (n : Int) : Tx := if n = 0 then [83, 101, 116] else [83, 101, 116] ++ ([32] ++ Lib.decDigits n.toNat)
/-- A name and its type. -/
def typedX (s : Tx) (t : Tx) : Tx := (s ++ [32, 58, 32]) ++ t
def bindX (s : Tx) (t : Tx) : Tx := [40] ++ (typedX s t ++ [41])
def innerX (k : Int) (s : ByteArray) (n : Int) (l : List (Nat → Tx)) : Tx :=
  if k = 1 then tx s else if k = 2 then setX n
  else if k = 5 then subT l 0 1 ++ ([32] ++ subT l 1 2)
  else if k = 3 ∧ lowB s = true then subT l 0 1 ++ ([32, 45, 62, 32] ++ subT l 1 0)
  else if k = 4 then [92, 32] ++ (bindX (tx s) (subT l 0 0) ++ ([32, 45, 62, 32] ++ subT l 1 0))
  else bindX (tx s) (subT l 0 0) ++ ([32, 45, 62, 32] ++ subT l 1 0)
def lowest (k : Int) : Nat := if k = 3 ∨ k = 4 then 1 else if k = 5 then 2 else 9
mutual
def exprX : RT → Nat → Tx
  | .node k _ s n l, lv => if lowest k ≤ lv then [40] ++ (innerX k s n (exprXL l) ++ [41]) else innerX k s n (exprXL l)
def exprXL : List RT → List (Nat → Tx)
  | [] => []
  | t :: r => exprX t :: exprXL r
end
theorem exprX_node (k a : Int) (s : ByteArray) (n : Int) (l : List RT) (lv : Nat) : exprX (.node k a s n l) lv = if lowest k ≤ lv then [40] ++ (innerX k s n (exprXL l) ++ [41]) else innerX k s n (exprXL l) := by rw [exprX]
theorem exprXL_at : ∀ (l : List RT) (i : Nat) (h : i < l.length) (lv : Nat), subT (exprXL l) i lv = exprX l[i] lv
  | t :: r, 0, _, lv => by rw [exprXL]; rfl
  | t :: r, i + 1, h, lv => by
    have := exprXL_at r i (by simpa using h) lv
    rw [exprXL]
    exact this
theorem exprX_par {k a : Int} {s : ByteArray} {n : Int} {l : List RT} {lv : Nat} (h : lowest k ≤ lv) : exprX (.node k a s n l) lv = [40] ++ (exprX (.node k a s n l) 0 ++ [41]) := by
  rw [exprX_node, exprX_node, if_pos h]
  have : ¬ lowest k ≤ 0 := by unfold lowest; split; · omega
                              · split <;> omega
  rw [if_neg this]
theorem exprX_bare {k a : Int} {s : ByteArray} {n : Int} {l : List RT} {lv : Nat} (h : ¬ lowest k ≤ lv) : exprX (.node k a s n l) lv = innerX k s n (exprXL l) := by rw [exprX_node, if_neg h]

mutual
def patX : RT → Tx
  | .node k _ s n l => if k = 6 then tx s else if k = 7 then [95] else if k = 9 then [40, 41] else if k = 10 then [46] ++ subT (exprXL l) 0 2 else ([40] ++ tx s) ++ (patXL l ++ [41])
def patXL : List RT → Tx
  | [] => []
  | t :: r => ([32] ++ patX t) ++ patXL r
end
theorem patX_node (k a : Int) (s : ByteArray) (n : Int) (l : List RT) : patX (.node k a s n l) = if k = 6 then tx s else if k = 7 then [95] else if k = 9 then [40, 41] else if k = 10 then [46] ++ subT (exprXL l) 0 2 else ([40] ++ tx s) ++ (patXL l ++ [41]) := by rw [patX]
theorem patXL_nil : patXL [] = [] := by rw [patXL]
theorem patXL_cons (t : RT) (r : List RT) : patXL (t :: r) = ([32] ++ patX t) ++ patXL r := by rw [patXL]
theorem patXL_append : ∀ (l r : List RT), patXL (l ++ r) = patXL l ++ patXL r
  | [], r => by show patXL r = patXL [] ++ patXL r; rw [patXL]; rfl
  | t :: l, r => by rw [List.cons_append, patXL_cons, patXL_cons, patXL_append l r, List.append_assoc, List.append_assoc, List.append_assoc]

/-- What has been written behind T: X, or more than may be told. -/
def Wrote (T X T' : Tx) : Prop := if T.length + X.length ≤ 65535 then T' = T ++ X else 65535 < T'.length
theorem Wrote.nil (T : Tx) : Wrote T [] T := by
  unfold Wrote
  split
  · simp
  · rename_i h; simp at h; exact h
theorem Wrote.trans {A X B Y C : Tx} (h : Wrote A X B) (k : Wrote B Y C) : Wrote A (X ++ Y) C := by
  unfold Wrote at *
  rw [List.length_append]
  split
  · rename_i hl
    rw [if_pos (by omega)] at h
    subst h
    rw [List.length_append, if_pos (by omega)] at k
    rw [k, List.append_assoc]
  · rename_i hl
    split at h
    · subst h
      rw [List.length_append, if_neg (by omega)] at k
      exact k
    · rw [if_neg (by omega)] at k
      exact k
theorem Wrote.go {T X : Tx} (h : ¬ 65535 < T.length) : Wrote T X (T ++ X) := by
  unfold Wrote
  split
  · rfl
  · rw [List.length_append]; omega
theorem Wrote.full {T X : Tx} (h : 65535 < T.length) : Wrote T X T := by
  unfold Wrote
  rw [if_neg (by omega)]; exact h
theorem Wrote.told {X T' : Tx} (h : Wrote [] X T') (hl : ¬ 65535 < T'.length) : T' = X ∧ X.length ≤ 65535 := by
  unfold Wrote at h
  split at h
  · rename_i h1
    simp at h h1
    exact ⟨h, h1⟩
  · exact absurd h hl
theorem Wrote.long {X T' : Tx} (h : Wrote [] X T') (hl : 65535 < T'.length) : 65535 < X.length := by
  unfold Wrote at h
  split at h
  · simp at h; subst h; exact hl
  · rename_i h1; simpa using h1

end Go.Proofs.YtmaomnpanfdjeaaDoor
