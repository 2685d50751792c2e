/- Layer 9's laws' own same and awake. -/
import Derived.Test.YtofmoggjpgjdgaaDoorM7
import Derived.Test.YtofmoggjpgjdgaaDoorTREqual
namespace Go.Proofs.YtofmoggjpgjdgaaDoor
open Go.RowKit
set_option linter.unusedVariables false
set_option maxRecDepth 100000

theorem sort_shaped (n : Int) (h0 : 0 ≤ n) (h1 : n ≤ 7) : shapedB (.node 2 n []) = true := by
  refine shapedB_true.2 ⟨by rw [tsize_node, sizeM_nil]; omega, by rw [tdepth_node, depthM_nil]; omega, ?_⟩
  rw [tgoodB_node, tgoodL_all]
  unfold ttopB manyM mostM
  simp [h0, h1]
theorem var_shaped (n : Int) (h0 : 0 ≤ n) (h1 : n ≤ 1048576) : shapedB (.node 1 n []) = true := by
  refine shapedB_true.2 ⟨by rw [tsize_node, sizeM_nil]; omega, by rw [tdepth_node, depthM_nil]; omega, ?_⟩
  rw [leaf_good, decide_eq_true h0, decide_eq_true h1]; rfl
theorem awu_many : manyX (.node 1 0 []) [.node 2 3 []] = (.node 2 3 [], 0) := by
  unfold manyX
  rw [var_shaped 0 (by omega) (by omega), List.all_cons, sort_shaped 3 (by omega) (by omega), List.all_nil, if_pos (show (true && (true && true)) = true from rfl)]
  have e : putT (firstP [.node 2 3 []]) (.node 1 0 []) 0 = .node 2 3 [] := by
    rw [putT_node, if_pos (.inr ⟨rfl, Int.le_refl _⟩)]
    unfold firstP
    rw [if_neg (by omega), if_pos (by simp)]
    show moveT 0 (.node 2 3 []) 0 = _
    rw [moveT_node, if_neg (by omega), moveM_nil]
  rw [e]
  unfold gotX
  rw [sort_shaped 3 (by omega) (by omega), if_pos rfl]

end Go.Proofs.YtofmoggjpgjdgaaDoor
