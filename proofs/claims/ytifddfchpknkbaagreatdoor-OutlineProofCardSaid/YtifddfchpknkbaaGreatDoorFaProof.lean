import Derived.Test.YtifddfchpknkbaaGreatDoorRows
import Derived.ProofKit
import Derived.SevenTiedAt
set_option linter.unusedVariables false
set_option linter.unusedSimpArgs false
namespace Go.Proofs.YtifddfchpknkbaaGreatDoor
theorem outlineProof_and {a b : Bool} (ha : a = true) (hb : b = true) : (a && b) = true := by rw [ha, hb]; rfl
theorem outlineProof_named : Tryz.prog.funcNamed "kelir/kelirlaw01.OutlineProof" = some 17 := by kernel_rfl
set_option maxRecDepth 100000 in
set_option maxHeartbeats 40000000 in
theorem outlineProof_facts : joinedFacts Tryz.prog 17 Tryz.f17 Rows.outlineProofSpec Rows.outlineProofRow = true := by
  unfold joinedFacts
  repeat' (with_reducible apply outlineProof_and)
  all_goals (as_aux_lemma => kernel_rfl)
theorem outlineProof_inst : Tryz.f17.isInstance Tryz.prog Rows.outlineProofRow.origin Rows.outlineProofRow.targs := of_decide_eq_true (by kernel_rfl)
theorem outlineProof_wf : Rows.outlineProofRow.wfByText (OpenSpec.ofChange Rows.outlineProofSpec) = true := by kernel_rfl
theorem outlineProof_main : Tryz.prog.mainIs = some (true, "188375153e538a273bbf9a43452e34ed21e238d1d16b7b2cbc2828c9f3e45cd0".toList) := by kernel_rfl
theorem outlineProof_looks : true = Tryz.prog.looks [] := by kernel_rfl
theorem outlineProof_goes : false = Rows.outlineProofRow.goesBy Tryz.prog := by kernel_rfl
end Go.Proofs.YtifddfchpknkbaaGreatDoor
