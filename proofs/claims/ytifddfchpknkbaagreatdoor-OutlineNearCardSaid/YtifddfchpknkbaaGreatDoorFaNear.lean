import Derived.Test.YtifddfchpknkbaaGreatDoorRows
import Derived.ProofKit
import Derived.SevenTiedAt
set_option linter.unusedVariables false
set_option linter.unusedSimpArgs false
namespace Go.Proofs.YtifddfchpknkbaaGreatDoor
theorem outlineNear_and {a b : Bool} (ha : a = true) (hb : b = true) : (a && b) = true := by rw [ha, hb]; rfl
theorem outlineNear_named : Tryz.prog.funcNamed "kelir/kelirlaw01.OutlineNear" = some 9 := by kernel_rfl
set_option maxRecDepth 100000 in
set_option maxHeartbeats 40000000 in
theorem outlineNear_facts : joinedFacts Tryz.prog 9 Tryz.f9 Rows.outlineNearSpec Rows.outlineNearRow = true := by
  unfold joinedFacts
  repeat' (with_reducible apply outlineNear_and)
  all_goals (as_aux_lemma => kernel_rfl)
theorem outlineNear_inst : Tryz.f9.isInstance Tryz.prog Rows.outlineNearRow.origin Rows.outlineNearRow.targs := of_decide_eq_true (by kernel_rfl)
theorem outlineNear_wf : Rows.outlineNearRow.wfByText (OpenSpec.ofChange Rows.outlineNearSpec) = true := by kernel_rfl
theorem outlineNear_main : Tryz.prog.mainIs = some (true, "188375153e538a273bbf9a43452e34ed21e238d1d16b7b2cbc2828c9f3e45cd0".toList) := by kernel_rfl
theorem outlineNear_looks : true = Tryz.prog.looks [] := by kernel_rfl
theorem outlineNear_goes : false = Rows.outlineNearRow.goesBy Tryz.prog := by kernel_rfl
end Go.Proofs.YtifddfchpknkbaaGreatDoor
