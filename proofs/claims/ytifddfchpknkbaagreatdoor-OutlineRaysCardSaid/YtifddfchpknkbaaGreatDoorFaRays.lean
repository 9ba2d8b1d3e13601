import Derived.Test.YtifddfchpknkbaaGreatDoorRows
import Derived.ProofKit
import Derived.SevenTiedAt
set_option linter.unusedVariables false
set_option linter.unusedSimpArgs false
namespace Go.Proofs.YtifddfchpknkbaaGreatDoor
theorem outlineRays_and {a b : Bool} (ha : a = true) (hb : b = true) : (a && b) = true := by rw [ha, hb]; rfl
theorem outlineRays_named : Tryz.prog.funcNamed "kelir/kelirlaw01.OutlineRays" = some 4 := by kernel_rfl
set_option maxRecDepth 100000 in
set_option maxHeartbeats 40000000 in
theorem outlineRays_facts : joinedFacts Tryz.prog 4 Tryz.f4 Rows.outlineRaysSpec Rows.outlineRaysRow = true := by
  unfold joinedFacts
  repeat' (with_reducible apply outlineRays_and)
  all_goals (as_aux_lemma => kernel_rfl)
theorem outlineRays_inst : Tryz.f4.isInstance Tryz.prog Rows.outlineRaysRow.origin Rows.outlineRaysRow.targs := of_decide_eq_true (by kernel_rfl)
theorem outlineRays_wf : Rows.outlineRaysRow.wfByText (OpenSpec.ofChange Rows.outlineRaysSpec) = true := by kernel_rfl
theorem outlineRays_main : Tryz.prog.mainIs = some (true, "188375153e538a273bbf9a43452e34ed21e238d1d16b7b2cbc2828c9f3e45cd0".toList) := by kernel_rfl
theorem outlineRays_looks : true = Tryz.prog.looks [] := by kernel_rfl
theorem outlineRays_goes : false = Rows.outlineRaysRow.goesBy Tryz.prog := by kernel_rfl
end Go.Proofs.YtifddfchpknkbaaGreatDoor
