import Derived.Test.YtifddfchpknkbaaGreatDoorRows
import Derived.ProofKit
import Derived.SevenTiedAt
set_option linter.unusedVariables false
set_option linter.unusedSimpArgs false
namespace Go.Proofs.YtifddfchpknkbaaGreatDoor
theorem outlineJoins_and {a b : Bool} (ha : a = true) (hb : b = true) : (a && b) = true := by rw [ha, hb]; rfl
theorem outlineJoins_named : Tryz.prog.funcNamed "kelir/kelirlaw01.OutlineJoins" = some 6 := by kernel_rfl
set_option maxRecDepth 100000 in
set_option maxHeartbeats 40000000 in
theorem outlineJoins_facts : joinedFacts Tryz.prog 6 Tryz.f6 Rows.outlineJoinsSpec Rows.outlineJoinsRow = true := by
  unfold joinedFacts
  repeat' (with_reducible apply outlineJoins_and)
  all_goals (as_aux_lemma => kernel_rfl)
theorem outlineJoins_inst : Tryz.f6.isInstance Tryz.prog Rows.outlineJoinsRow.origin Rows.outlineJoinsRow.targs := of_decide_eq_true (by kernel_rfl)
theorem outlineJoins_wf : Rows.outlineJoinsRow.wfByText (OpenSpec.ofChange Rows.outlineJoinsSpec) = true := by kernel_rfl
theorem outlineJoins_main : Tryz.prog.mainIs = some (true, "188375153e538a273bbf9a43452e34ed21e238d1d16b7b2cbc2828c9f3e45cd0".toList) := by kernel_rfl
theorem outlineJoins_looks : true = Tryz.prog.looks [] := by kernel_rfl
theorem outlineJoins_goes : false = Rows.outlineJoinsRow.goesBy Tryz.prog := by kernel_rfl
end Go.Proofs.YtifddfchpknkbaaGreatDoor
