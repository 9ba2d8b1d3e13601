import Derived.Test.YtekmnelpkogppaaGreatDoorRows
import Derived.ProofKit
import Derived.SevenTiedAt
set_option linter.unusedVariables false
set_option linter.unusedSimpArgs false
namespace Go.Proofs.YtekmnelpkogppaaGreatDoor
theorem versionTrue_and {a b : Bool} (ha : a = true) (hb : b = true) : (a && b) = true := by rw [ha, hb]; rfl
theorem versionTrue_named : Tryz.prog.funcNamed "kelir/kelirlaw06.VersionTrue" = some 12 := by kernel_rfl
set_option maxRecDepth 100000 in
set_option maxHeartbeats 40000000 in
theorem versionTrue_facts : joinedFacts Tryz.prog 12 Tryz.f12 Rows.versionTrueSpec Rows.versionTrueRow = true := by
  unfold joinedFacts
  repeat' (with_reducible apply versionTrue_and)
  all_goals (as_aux_lemma => kernel_rfl)
theorem versionTrue_inst : Tryz.f12.isInstance Tryz.prog Rows.versionTrueRow.origin Rows.versionTrueRow.targs := of_decide_eq_true (by kernel_rfl)
theorem versionTrue_wf : Rows.versionTrueRow.wfByText (OpenSpec.ofChange Rows.versionTrueSpec) = true := by kernel_rfl
theorem versionTrue_main : Tryz.prog.mainIs = some (true, "1ee9e46f3b7107daa6d70c1e879d131c76b497259f03573c029c6f6310125314".toList) := by kernel_rfl
theorem versionTrue_looks : true = Tryz.prog.looks [] := by kernel_rfl
theorem versionTrue_goes : false = Rows.versionTrueRow.goesBy Tryz.prog := by kernel_rfl
end Go.Proofs.YtekmnelpkogppaaGreatDoor
