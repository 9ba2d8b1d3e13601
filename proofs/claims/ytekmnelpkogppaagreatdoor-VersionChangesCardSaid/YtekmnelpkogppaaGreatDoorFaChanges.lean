import Derived.Test.YtekmnelpkogppaaGreatDoorRows
import Derived.ProofKit
import Derived.SevenTiedAt
set_option linter.unusedVariables false
set_option linter.unusedSimpArgs false
namespace Go.Proofs.YtekmnelpkogppaaGreatDoor
theorem versionChanges_and {a b : Bool} (ha : a = true) (hb : b = true) : (a && b) = true := by rw [ha, hb]; rfl
theorem versionChanges_named : Tryz.prog.funcNamed "kelir/kelirlaw06.VersionChanges" = some 3 := by kernel_rfl
set_option maxRecDepth 100000 in
set_option maxHeartbeats 40000000 in
theorem versionChanges_facts : joinedFacts Tryz.prog 3 Tryz.f3 Rows.versionChangesSpec Rows.versionChangesRow = true := by
  unfold joinedFacts
  repeat' (with_reducible apply versionChanges_and)
  all_goals (as_aux_lemma => kernel_rfl)
theorem versionChanges_inst : Tryz.f3.isInstance Tryz.prog Rows.versionChangesRow.origin Rows.versionChangesRow.targs := of_decide_eq_true (by kernel_rfl)
theorem versionChanges_wf : Rows.versionChangesRow.wfByText (OpenSpec.ofChange Rows.versionChangesSpec) = true := by kernel_rfl
theorem versionChanges_main : Tryz.prog.mainIs = some (true, "1ee9e46f3b7107daa6d70c1e879d131c76b497259f03573c029c6f6310125314".toList) := by kernel_rfl
theorem versionChanges_looks : true = Tryz.prog.looks [] := by kernel_rfl
theorem versionChanges_goes : false = Rows.versionChangesRow.goesBy Tryz.prog := by kernel_rfl
end Go.Proofs.YtekmnelpkogppaaGreatDoor
