import Derived.Test.YtekmnelpkogppaaGreatDoorRows
import Derived.ProofKit
import Derived.SevenTiedAt
set_option linter.unusedVariables false
set_option linter.unusedSimpArgs false
namespace Go.Proofs.YtekmnelpkogppaaGreatDoor
theorem versionFar_and {a b : Bool} (ha : a = true) (hb : b = true) : (a && b) = true := by rw [ha, hb]; rfl
theorem versionFar_named : Tryz.prog.funcNamed "kelir/kelirlaw06.VersionFar" = some 4 := by kernel_rfl
set_option maxRecDepth 100000 in
set_option maxHeartbeats 40000000 in
theorem versionFar_facts : joinedFacts Tryz.prog 4 Tryz.f4 Rows.versionFarSpec Rows.versionFarRow = true := by
  unfold joinedFacts
  repeat' (with_reducible apply versionFar_and)
  all_goals (as_aux_lemma => kernel_rfl)
theorem versionFar_inst : Tryz.f4.isInstance Tryz.prog Rows.versionFarRow.origin Rows.versionFarRow.targs := of_decide_eq_true (by kernel_rfl)
theorem versionFar_wf : Rows.versionFarRow.wfByText (OpenSpec.ofChange Rows.versionFarSpec) = true := by kernel_rfl
theorem versionFar_main : Tryz.prog.mainIs = some (true, "1ee9e46f3b7107daa6d70c1e879d131c76b497259f03573c029c6f6310125314".toList) := by kernel_rfl
theorem versionFar_looks : true = Tryz.prog.looks [] := by kernel_rfl
theorem versionFar_goes : false = Rows.versionFarRow.goesBy Tryz.prog := by kernel_rfl
end Go.Proofs.YtekmnelpkogppaaGreatDoor
