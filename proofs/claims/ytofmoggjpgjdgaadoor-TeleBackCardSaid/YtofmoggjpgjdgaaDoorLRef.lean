/- The document's Move, swap and Copied over good terms. -/
import Derived.Test.YtofmoggjpgjdgaaDoorM5
import Derived.Test.YtofmoggjpgjdgaaDoorTRHas
import Derived.Deep.RegionWith
import Derived.Deep.RegionLaw
namespace Go.Proofs.YtofmoggjpgjdgaaDoor
open Go.RowKit
set_option linter.unusedVariables false
set_option maxRecDepth 100000

/-- A call that gives a term of its own. -/
def GivesM (u : TM) (w : World) (e : Ending) (w' : World) : Prop :=
  ∃ A cap, e = .returned (termV u A cap) ∧ IsTerm w' w.heap.size w'.heap.size u A cap ∧ Below w.heap.size w w'
theorem leaf_any {w : World} {P : Nat → Prop} (k n : Int) (A : Option Addr) (cap : Nat) (h : cap ≤ maxLen) : TermIn w P (.node k n []) A cap :=
  TermIn.mk k n [] A cap (fun _ => none) (fun _ => 0) (by simp) h (fun h => by simp at h) (fun i h => by simp at h)
/-- Over the Subs, one behind the other: what a function gives of each. -/
def subsM (f : TM → Nat → TM) (i : Nat) : List TM → List TM
  | [] => []
  | t :: r => f t i :: subsM f (i + 1) r
theorem subsM_take (f : TM → Nat → TM) : ∀ (l : List TM) (j i : Nat) (h : i < l.length), (subsM f j l).take (i + 1) = (subsM f j l).take i ++ [f l[i] (j + i)]
  | t :: l, j, 0, _ => by rw [subsM]; rfl
  | t :: l, j, i + 1, h => by
    rw [subsM, List.take_succ_cons, List.take_succ_cons, subsM_take f l (j + 1) i (by simpa using h)]
    have e : j + 1 + i = j + (i + 1) := by omega
    rw [e]; rfl
theorem subsM_len (f : TM → Nat → TM) : ∀ (l : List TM) (j : Nat), (subsM f j l).length = l.length
  | [], j => by rw [subsM]
  | t :: l, j => by rw [subsM, List.length_cons, subsM_len f l, List.length_cons]
theorem moveM_subs (y k m : Int) : ∀ (l : List TM) (j : Nat), moveM y k j l m = subsM (fun t i => moveT y t (m + bndR k i)) j l
  | [], j => by rw [moveM_nil, subsM]
  | t :: l, j => by rw [moveM_cons, subsM, moveM_subs y k m l]
theorem swapM_subs (k m : Int) : ∀ (l : List TM) (j : Nat), swapM k j l m = subsM (fun t i => swapT t (m + bndR k i)) j l
  | [], j => by rw [swapM_nil, subsM]
  | t :: l, j => by rw [swapM_cons, subsM, swapM_subs k m l]
theorem self_subs : ∀ (l : List TM) (j : Nat), subsM (fun t i => t) j l = l
  | [], j => by rw [subsM]
  | t :: l, j => by rw [subsM, self_subs l]

/-- Where the loop over the Subs stands: so many are done, and lie in the new term's own row. -/
def SubsRel (f : TM → Nat → TM) (w : World) (k n : Int) (l : List TM) (A : Option Addr) (cap : Nat) (iv : Value) (wr : World) : Prop :=
  ∃ (i : Nat) (ps : List (TM × Option Addr × Nat)) (P : Nat → Prop) (a1 : Option Addr) (c1 : Nat), i ≤ l.length ∧ iv = .int .i64 i ∧ Below w.heap.size w wr ∧
    Bk wr w.heap.size 24 #[.int .i64 k, .int .i64 n, .slice A l.length cap] ∧ Bk wr (w.heap.size + 1) 24 #[.int .i64 0, .int .i64 0, .slice none 0 0] ∧
    Bk wr (w.heap.size + 2) 24 #[.int .i64 k, .int .i64 n, .slice a1 ps.length c1] ∧
    TermRow wr (w.heap.size + 3) 24 (.slice a1 ps.length c1) ps P ∧ (∀ b, P b → w.heap.size + 3 ≤ b) ∧ ps.length = i ∧ ps.map (·.1) = (subsM f 0 l).take i
theorem TermRow.store {w : World} {base : Nat} {e : TypeId} {v : Value} {ps : List (TM × Option Addr × Nat)} {P : Nat → Prop} (h : TermRow w base e v ps P) {a : Addr} (ha : a.block < base) (hP : ∀ b, P b → base ≤ b) (u : Value) : TermRow (w.setCell a u) base e v ps P :=
  h.setCell ha (fun b hb e => by have := hP b hb; omega) u

/-- At most two Subs, all the way down. -/
def l2B : TM → Bool
  | .node _ _ l => decide (l.length ≤ 2) && l2L l
where l2L : List TM → Bool
  | [] => true
  | t :: r => l2B t && l2L r
theorem l2L_all : ∀ l : List TM, l2B.l2L l = l.all l2B
  | [] => by rw [l2B.l2L]; rfl
  | t :: r => by rw [l2B.l2L, l2L_all r, List.all_cons]
theorem l2B_node (k n : Int) (l : List TM) : l2B (.node k n l) = (decide (l.length ≤ 2) && l.all l2B) := by rw [l2B, l2L_all]

end Go.Proofs.YtofmoggjpgjdgaaDoor
