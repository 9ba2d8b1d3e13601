import Derived.Test.YtekmnelpkogppaaGreatDoorRows
import Derived.ProofKit
import Derived.SevenTiedAt
set_option linter.unusedVariables false
set_option linter.unusedSimpArgs false
namespace Go.Proofs.YtekmnelpkogppaaGreatDoor
theorem versionLies_and {a b : Bool} (ha : a = true) (hb : b = true) : (a && b) = true := by rw [ha, hb]; rfl
theorem versionLies_named : Tryz.prog.funcNamed "kelir/kelirlaw06.VersionLies" = some 8 := by kernel_rfl
set_option maxRecDepth 100000 in
set_option maxHeartbeats 40000000 in
theorem versionLies_facts : joinedFacts Tryz.prog 8 Tryz.f8 Rows.versionLiesSpec Rows.versionLiesRow = true := by
  unfold joinedFacts
  repeat' (with_reducible apply versionLies_and)
  all_goals (as_aux_lemma => kernel_rfl)
theorem versionLies_inst : Tryz.f8.isInstance Tryz.prog Rows.versionLiesRow.origin Rows.versionLiesRow.targs := of_decide_eq_true (by kernel_rfl)
theorem versionLies_wf : Rows.versionLiesRow.wfByText (OpenSpec.ofChange Rows.versionLiesSpec) = true := by kernel_rfl
theorem versionLies_main : Tryz.prog.mainIs = some (true, "1ee9e46f3b7107daa6d70c1e879d131c76b497259f03573c029c6f6310125314".toList) := by kernel_rfl
theorem versionLies_looks : true = Tryz.prog.looks [] := by kernel_rfl
theorem versionLies_goes : false = Rows.versionLiesRow.goesBy Tryz.prog := by kernel_rfl
end Go.Proofs.YtekmnelpkogppaaGreatDoor
