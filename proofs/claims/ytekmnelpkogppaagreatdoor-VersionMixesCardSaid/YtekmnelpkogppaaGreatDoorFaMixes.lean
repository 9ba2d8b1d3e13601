import Derived.Test.YtekmnelpkogppaaGreatDoorRows
import Derived.ProofKit
import Derived.SevenTiedAt
set_option linter.unusedVariables false
set_option linter.unusedSimpArgs false
namespace Go.Proofs.YtekmnelpkogppaaGreatDoor
theorem versionMixes_and {a b : Bool} (ha : a = true) (hb : b = true) : (a && b) = true := by rw [ha, hb]; rfl
theorem versionMixes_named : Tryz.prog.funcNamed "kelir/kelirlaw06.VersionMixes" = some 17 := by kernel_rfl
set_option maxRecDepth 100000 in
set_option maxHeartbeats 40000000 in
theorem versionMixes_facts : joinedFacts Tryz.prog 17 Tryz.f17 Rows.versionMixesSpec Rows.versionMixesRow = true := by
  unfold joinedFacts
  repeat' (with_reducible apply versionMixes_and)
  all_goals (as_aux_lemma => kernel_rfl)
theorem versionMixes_inst : Tryz.f17.isInstance Tryz.prog Rows.versionMixesRow.origin Rows.versionMixesRow.targs := of_decide_eq_true (by kernel_rfl)
theorem versionMixes_wf : Rows.versionMixesRow.wfByText (OpenSpec.ofChange Rows.versionMixesSpec) = true := by kernel_rfl
theorem versionMixes_main : Tryz.prog.mainIs = some (true, "1ee9e46f3b7107daa6d70c1e879d131c76b497259f03573c029c6f6310125314".toList) := by kernel_rfl
theorem versionMixes_looks : true = Tryz.prog.looks [] := by kernel_rfl
theorem versionMixes_goes : false = Rows.versionMixesRow.goesBy Tryz.prog := by kernel_rfl
end Go.Proofs.YtekmnelpkogppaaGreatDoor
