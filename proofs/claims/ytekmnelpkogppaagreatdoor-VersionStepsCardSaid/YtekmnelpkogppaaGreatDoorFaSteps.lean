import Derived.Test.YtekmnelpkogppaaGreatDoorRows
import Derived.ProofKit
import Derived.SevenTiedAt
set_option linter.unusedVariables false
set_option linter.unusedSimpArgs false
namespace Go.Proofs.YtekmnelpkogppaaGreatDoor
theorem versionSteps_and {a b : Bool} (ha : a = true) (hb : b = true) : (a && b) = true := by rw [ha, hb]; rfl
theorem versionSteps_named : Tryz.prog.funcNamed "kelir/kelirlaw06.VersionSteps" = some 5 := by kernel_rfl
set_option maxRecDepth 100000 in
set_option maxHeartbeats 40000000 in
theorem versionSteps_facts : joinedFacts Tryz.prog 5 Tryz.f5 Rows.versionStepsSpec Rows.versionStepsRow = true := by
  unfold joinedFacts
  repeat' (with_reducible apply versionSteps_and)
  all_goals (as_aux_lemma => kernel_rfl)
theorem versionSteps_inst : Tryz.f5.isInstance Tryz.prog Rows.versionStepsRow.origin Rows.versionStepsRow.targs := of_decide_eq_true (by kernel_rfl)
theorem versionSteps_wf : Rows.versionStepsRow.wfByText (OpenSpec.ofChange Rows.versionStepsSpec) = true := by kernel_rfl
theorem versionSteps_main : Tryz.prog.mainIs = some (true, "1ee9e46f3b7107daa6d70c1e879d131c76b497259f03573c029c6f6310125314".toList) := by kernel_rfl
theorem versionSteps_looks : true = Tryz.prog.looks [] := by kernel_rfl
theorem versionSteps_goes : false = Rows.versionStepsRow.goesBy Tryz.prog := by kernel_rfl
end Go.Proofs.YtekmnelpkogppaaGreatDoor
