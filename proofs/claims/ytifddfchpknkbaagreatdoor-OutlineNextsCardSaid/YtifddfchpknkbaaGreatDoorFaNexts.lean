import Derived.Test.YtifddfchpknkbaaGreatDoorRows
import Derived.ProofKit
import Derived.SevenTiedAt
set_option linter.unusedVariables false
set_option linter.unusedSimpArgs false
namespace Go.Proofs.YtifddfchpknkbaaGreatDoor
theorem outlineNexts_and {a b : Bool} (ha : a = true) (hb : b = true) : (a && b) = true := by rw [ha, hb]; rfl
theorem outlineNexts_named : Tryz.prog.funcNamed "kelir/kelirlaw01.OutlineNexts" = some 12 := by kernel_rfl
set_option maxRecDepth 100000 in
set_option maxHeartbeats 40000000 in
theorem outlineNexts_facts : joinedFacts Tryz.prog 12 Tryz.f12 Rows.outlineNextsSpec Rows.outlineNextsRow = true := by
  unfold joinedFacts
  repeat' (with_reducible apply outlineNexts_and)
  all_goals (as_aux_lemma => kernel_rfl)
theorem outlineNexts_inst : Tryz.f12.isInstance Tryz.prog Rows.outlineNextsRow.origin Rows.outlineNextsRow.targs := of_decide_eq_true (by kernel_rfl)
theorem outlineNexts_wf : Rows.outlineNextsRow.wfByText (OpenSpec.ofChange Rows.outlineNextsSpec) = true := by kernel_rfl
theorem outlineNexts_main : Tryz.prog.mainIs = some (true, "188375153e538a273bbf9a43452e34ed21e238d1d16b7b2cbc2828c9f3e45cd0".toList) := by kernel_rfl
theorem outlineNexts_looks : true = Tryz.prog.looks [] := by kernel_rfl
theorem outlineNexts_goes : false = Rows.outlineNextsRow.goesBy Tryz.prog := by kernel_rfl
end Go.Proofs.YtifddfchpknkbaaGreatDoor
