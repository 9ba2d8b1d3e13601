import Derived.Test.YtekmnelpkogppaaGreatDoorRows
import Derived.ProofKit
import Derived.SevenTiedAt
set_option linter.unusedVariables false
set_option linter.unusedSimpArgs false
namespace Go.Proofs.YtekmnelpkogppaaGreatDoor
theorem versionBetweens_and {a b : Bool} (ha : a = true) (hb : b = true) : (a && b) = true := by rw [ha, hb]; rfl
theorem versionBetweens_named : Tryz.prog.funcNamed "kelir/kelirlaw06.VersionBetweens" = some 7 := by kernel_rfl
set_option maxRecDepth 100000 in
set_option maxHeartbeats 40000000 in
theorem versionBetweens_facts : joinedFacts Tryz.prog 7 Tryz.f7 Rows.versionBetweensSpec Rows.versionBetweensRow = true := by
  unfold joinedFacts
  repeat' (with_reducible apply versionBetweens_and)
  all_goals (as_aux_lemma => kernel_rfl)
theorem versionBetweens_inst : Tryz.f7.isInstance Tryz.prog Rows.versionBetweensRow.origin Rows.versionBetweensRow.targs := of_decide_eq_true (by kernel_rfl)
theorem versionBetweens_wf : Rows.versionBetweensRow.wfByText (OpenSpec.ofChange Rows.versionBetweensSpec) = true := by kernel_rfl
theorem versionBetweens_main : Tryz.prog.mainIs = some (true, "1ee9e46f3b7107daa6d70c1e879d131c76b497259f03573c029c6f6310125314".toList) := by kernel_rfl
theorem versionBetweens_looks : true = Tryz.prog.looks [] := by kernel_rfl
theorem versionBetweens_goes : false = Rows.versionBetweensRow.goesBy Tryz.prog := by kernel_rfl
end Go.Proofs.YtekmnelpkogppaaGreatDoor
