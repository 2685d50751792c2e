/- Layer 7's laws' own question whether the program answers at all: it does. -/
import Derived.Test.YtofmoggjpgjdgaaDoorTMake
namespace Go.Proofs.YtofmoggjpgjdgaaDoor
open Go.RowKit
set_option linter.unusedVariables false
set_option maxRecDepth 100000

def awM : TM := .node 4 0 [.node 2 0 [], .node 5 0 [.node 1 1 [], .node 1 0 []]]
theorem awm_size : awM.size = 5 := by unfold awM; simp only [tsize_node, sizeM_cons, sizeM_nil]
theorem awm_depth : awM.depth = 3 := by unfold awM; simp only [tdepth_node, depthM_cons, depthM_nil]; omega
theorem awm_good : tgoodB awM = true := by unfold awM; simp only [tgoodB_node, tgoodL_all, List.all_cons, List.all_nil]; decide
theorem awm_shaped : shapedB awM = true := shapedB_true.2 ⟨by rw [awm_size]; omega, by rw [awm_depth]; omega, awm_good⟩
theorem awm_cut : topN awM.size = 5 := by rw [awm_size]; rfl
theorem awm_loose : looseN awM = 1 := by
  unfold looseN
  rw [awm_shaped, if_pos rfl]
  unfold awM
  simp [looseT_node, looseL_cons, looseL_nil, bndR]
  omega
theorem awm_has : hasB awM 0 = true := by
  unfold hasB
  rw [awm_shaped]
  unfold awM
  simp [hasT_node, hasL_cons, hasL_nil, bndR]

end Go.Proofs.YtofmoggjpgjdgaaDoor
