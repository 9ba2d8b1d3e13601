import Derived.Test.YtekmnelpkogppaaGreatDoorRows
import Derived.ProofKit
import Derived.SevenTiedAt
set_option linter.unusedVariables false
set_option linter.unusedSimpArgs false
namespace Go.Proofs.YtekmnelpkogppaaGreatDoor
theorem versionPrints_and {a b : Bool} (ha : a = true) (hb : b = true) : (a && b) = true := by rw [ha, hb]; rfl
theorem versionPrints_named : Tryz.prog.funcNamed "kelir/kelirlaw06.VersionPrints" = some 20 := by kernel_rfl
set_option maxRecDepth 100000 in
set_option maxHeartbeats 40000000 in
theorem versionPrints_facts : joinedFacts Tryz.prog 20 Tryz.f20 Rows.versionPrintsSpec Rows.versionPrintsRow = true := by
  unfold joinedFacts
  repeat' (with_reducible apply versionPrints_and)
  all_goals (as_aux_lemma => kernel_rfl)
theorem versionPrints_inst : Tryz.f20.isInstance Tryz.prog Rows.versionPrintsRow.origin Rows.versionPrintsRow.targs := of_decide_eq_true (by kernel_rfl)
theorem versionPrints_wf : Rows.versionPrintsRow.wfByText (OpenSpec.ofChange Rows.versionPrintsSpec) = true := by kernel_rfl
theorem versionPrints_main : Tryz.prog.mainIs = some (true, "1ee9e46f3b7107daa6d70c1e879d131c76b497259f03573c029c6f6310125314".toList) := by kernel_rfl
theorem versionPrints_looks : true = Tryz.prog.looks [] := by kernel_rfl
theorem versionPrints_goes : false = Rows.versionPrintsRow.goesBy Tryz.prog := by kernel_rfl
end Go.Proofs.YtekmnelpkogppaaGreatDoor
