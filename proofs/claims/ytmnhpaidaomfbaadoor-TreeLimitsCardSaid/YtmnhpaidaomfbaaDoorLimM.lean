/- The two trees of the law TreeLimits. No program. -/
import Derived.Test.YtmnhpaidaomfbaaDoorAwake4
namespace Go.Proofs.YtmnhpaidaomfbaaDoor
open Go.RowKit
set_option linter.unusedVariables false

def leafS : RT := .node 2 0 ⟨#[]⟩ 0 []
def chainT : Nat → RT
  | 0 => leafS
  | n + 1 => .node 5 0 ⟨#[]⟩ 0 [chainT n, leafS]
theorem chain_size : ∀ n, (chainT n).size = 2 * n + 1
  | 0 => by unfold chainT leafS; rw [size_node, sizeL_nil]
  | n + 1 => by
    rw [chainT, size_node, sizeL_cons, sizeL_cons, sizeL_nil, chain_size n]
    unfold leafS
    rw [size_node, sizeL_nil]; omega
theorem chain_depth : ∀ n, (chainT n).depth = n + 1
  | 0 => by unfold chainT leafS; rw [depth_node, depthL_nil]
  | n + 1 => by
    rw [chainT, depth_node, depthL_cons, depthL_cons, depthL_nil, chain_depth n]
    unfold leafS
    rw [depth_node, depthL_nil]; omega
theorem leaf_good : goodB leafS false = true := by
  unfold leafS
  rw [goodB_node, goodL_all]
  decide +kernel
theorem chain_good : ∀ n, goodB (chainT n) false = true
  | 0 => leaf_good
  | n + 1 => by
    rw [chainT, goodB_node, goodL_all]
    have e : decide ((5 : Int) = 8) = false := rfl
    rw [e, List.all_cons, List.all_cons, chain_good n, leaf_good]
    show (topB 5 ⟨#[]⟩ 0 2 false && (true && (true && true))) = true
    decide +kernel
theorem chain_fit (n : Nat) (h : n ≤ 1000) : fitB (chainT n) = decide (n + 1 ≤ 128) := by
  by_cases hn : n + 1 ≤ 128
  · rw [decide_eq_true hn]
    exact fitB_true.2 ⟨by rw [chain_size]; omega, by rw [chain_depth]; exact hn⟩
  · rw [decide_eq_false hn]
    cases e : fitB (chainT n) with
    | false => rfl
    | true => have := (fitB_true.1 e).2; rw [chain_depth] at this; omega
theorem chain_deep (n : Nat) (h : n ≤ 128) : deepN (chainT n) = n + 1 := by
  unfold deepN dpN
  rw [chain_size, chain_depth, if_neg (by omega)]
  omega

def leafA : RT := .node 7 0 ⟨#[]⟩ 0 []
def wideT (n : Nat) : RT := .node 8 0 ⟨#[99]⟩ 0 (List.replicate n leafA)
theorem sizeL_rep : ∀ n, sizeL (List.replicate n leafA) = n
  | 0 => by rw [List.replicate_zero, sizeL_nil]
  | n + 1 => by
    rw [List.replicate_succ, sizeL_cons, sizeL_rep n]
    unfold leafA
    rw [size_node, sizeL_nil]; omega
theorem depthL_rep : ∀ n, depthL (List.replicate n leafA) ≤ 1
  | 0 => by rw [List.replicate_zero, depthL_nil]; omega
  | n + 1 => by
    have := depthL_rep n
    rw [List.replicate_succ, depthL_cons]
    unfold leafA at this ⊢
    rw [depth_node, depthL_nil]; omega
theorem wide_size (n : Nat) : (wideT n).size = n + 1 := by unfold wideT; rw [size_node, sizeL_rep]
theorem wide_depth (n : Nat) : (wideT n).depth ≤ 2 := by unfold wideT; rw [depth_node]; have := depthL_rep n; omega
theorem wide_fit (n : Nat) : fitB (wideT n) = decide (n + 1 ≤ 8192) := by
  by_cases hn : n + 1 ≤ 8192
  · rw [decide_eq_true hn]
    exact fitB_true.2 ⟨by rw [wide_size]; exact hn, by have := wide_depth n; omega⟩
  · rw [decide_eq_false hn]
    cases e : fitB (wideT n) with
    | false => rfl
    | true => have := (fitB_true.1 e).1; rw [wide_size] at this; omega
theorem aw_c : IsName ⟨#[99]⟩ [99] := by
  refine ⟨?_, by decide, by unfold keyB; rw [ByteArray.toList_eq]; decide, by decide, by decide⟩
  have h : Parse (encAll [99]) [99] [] := parse_enc (by intro n hn; simp at hn; subst hn; decide)
  exact h
theorem leafA_good : goodB leafA true = true := by
  unfold leafA
  rw [goodB_node, goodL_all]
  decide +kernel
theorem wide_good (n : Nat) (h : 0 < n) : goodB (wideT n) true = true := by
  unfold wideT
  rw [goodB_node, goodL_all]
  have e : decide ((8 : Int) = 8) = true := rfl
  have h1 : (List.replicate n leafA).all (fun t => goodB t true) = true := by
    rw [List.all_eq_true]
    intro t ht
    rw [List.eq_of_mem_replicate ht]
    exact leafA_good
  rw [e, h1, List.length_replicate]
  unfold topB namedB manyB
  rw [if_pos (by decide), if_pos (by decide), nmB_yes aw_c, decide_eq_true h]
  rfl

end Go.Proofs.YtmnhpaidaomfbaaDoor
