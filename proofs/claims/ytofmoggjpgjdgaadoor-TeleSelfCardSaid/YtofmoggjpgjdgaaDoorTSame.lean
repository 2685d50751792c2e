/- Two nodes, the alikeT but for offsets: slices.EqualFunc over nodes, tree.alike, scholiumref07.equal. -/
import Derived.Test.YtofmoggjpgjdgaaDoorM2
import Derived.Deep.RegionHeld3
namespace Go.Proofs.YtofmoggjpgjdgaaDoor
open Go.RowKit
set_option linter.unusedVariables false
set_option maxRecDepth 100000

theorem allB_succM (Q : Nat → Bool) : ∀ n, allB Q (n + 1) = (Q 0 && allB (fun i => Q (i + 1)) n)
  | 0 => by simp [allB]
  | n + 1 => by
    have := allB_succM Q n
    rw [allB, this, allB, Bool.and_assoc]
/-- Two lists, place by place. -/
def pairTm (f : TM → TM → Bool) (l l' : List TM) (i : Nat) : Bool := match l[i]?, l'[i]? with | some t, some u => f t u | _, _ => true
theorem pairTm_of (f : TM → TM → Bool) {l l' : List TM} {i : Nat} (h : i < l.length) (h' : i < l'.length) : pairTm f l l' i = f l[i] l'[i] := by
  unfold pairTm; rw [List.getElem?_eq_getElem h, List.getElem?_eq_getElem h']
def pairsM (f : TM → TM → Bool) (l l' : List TM) : Bool := decide (l.length = l'.length) && allB (pairTm f l l') l.length
theorem alikeM_pairs : ∀ l l' : List TM, alikeM l l' = pairsM alikeT l l'
  | [], [] => by rw [alikeM]; rfl
  | [], _ :: _ => by rw [alikeM] <;> simp [pairsM]
  | _ :: _, [] => by rw [alikeM] <;> simp [pairsM]
  | t :: r, u :: r' => by
    rw [alikeM, alikeM_pairs r r']
    unfold pairsM
    rw [List.length_cons, List.length_cons, allB_succM]
    have e : (decide (r.length + 1 = r'.length + 1)) = decide (r.length = r'.length) := by congr 1; apply propext; omega
    rw [e]
    have e0 : pairTm alikeT (t :: r) (u :: r') 0 = alikeT t u := rfl
    have e1 : (fun i => pairTm alikeT (t :: r) (u :: r') (i + 1)) = pairTm alikeT r r' := rfl
    rw [e0, e1]
    cases alikeT t u <;> cases decide (r.length = r'.length) <;> rfl
theorem pairsM_len {f : TM → TM → Bool} {l l' : List TM} (h : ¬ l.length = l'.length) : pairsM f l l' = false := by unfold pairsM; rw [decide_eq_false h]; rfl
theorem pairsM_eq {f : TM → TM → Bool} {l l' : List TM} (h : l.length = l'.length) : pairsM f l l' = allB (pairTm f l l') l.length := by unfold pairsM; rw [decide_eq_true h]; rfl
theorem allB_noM {Q : Nat → Bool} {n i : Nat} (hi : i < n) (h : Q i = false) : allB Q n = false := by
  cases e : allB Q n with
  | false => rfl
  | true => rw [allB_true.1 e i hi] at h; cases h
theorem alikeT_node (k n : Int) (l : List TM) (k' n' : Int) (l' : List TM) :
    alikeT (.node k n l) (.node k' n' l') = (decide (k = k') && (decide (n = n') && pairsM alikeT l l')) := by rw [alikeT, alikeM_pairs]

/-- The test of each pair comes to f, whenever it is asked. -/
def TestTT (w : World) (g : FuncId) (f : TM → TM → Bool) (l l' : List TM) : Prop :=
  ∀ i (h : i < l.length) (h' : i < l'.length) (lo hi lo' hi' : Nat) (F F' : Option Addr) (C C' : Nat) (w' : World), Below w.heap.size w w' → IsTerm w' lo hi l[i] F C → IsTerm w' lo' hi' l'[i] F' C' → hi ≤ w'.heap.size → hi' ≤ w'.heap.size →
    Calls Tryd.prog g #[termV l[i] F C, termV l'[i] F' C'] w' fun e w'' => e = .returned (.bool (f l[i] l'[i])) ∧ Below w'.heap.size w' w''
theorem TestTT.kept {w w' : World} {g : FuncId} {f : TM → TM → Bool} {l l' : List TM} (h : TestTT w g f l l') (hb : Below w.heap.size w w') : TestTT w' g f l l' :=
  fun i h1 h2 lo hi lo' hi' F F' C C' W hW => h i h1 h2 lo hi lo' hi' F F' C C' W (hb.trans (hW.mono hb.size))

/-- Are two terms told to be the same? -/
def tsameB (t u : TM) : Bool := shapedB t && alikeT t u

end Go.Proofs.YtofmoggjpgjdgaaDoor
