import Derived.Test.YtifddfchpknkbaaGreatDoorRows
import Derived.ProofKit
import Derived.SevenTiedAt
set_option linter.unusedVariables false
set_option linter.unusedSimpArgs false
namespace Go.Proofs.YtifddfchpknkbaaGreatDoor
theorem outlineTold_and {a b : Bool} (ha : a = true) (hb : b = true) : (a && b) = true := by rw [ha, hb]; rfl
theorem outlineTold_named : Tryz.prog.funcNamed "kelir/kelirlaw01.OutlineTold" = some 15 := by kernel_rfl
set_option maxRecDepth 100000 in
set_option maxHeartbeats 40000000 in
theorem outlineTold_facts : joinedFacts Tryz.prog 15 Tryz.f15 Rows.outlineToldSpec Rows.outlineToldRow = true := by
  unfold joinedFacts
  repeat' (with_reducible apply outlineTold_and)
  all_goals (as_aux_lemma => kernel_rfl)
theorem outlineTold_inst : Tryz.f15.isInstance Tryz.prog Rows.outlineToldRow.origin Rows.outlineToldRow.targs := of_decide_eq_true (by kernel_rfl)
theorem outlineTold_wf : Rows.outlineToldRow.wfByText (OpenSpec.ofChange Rows.outlineToldSpec) = true := by kernel_rfl
theorem outlineTold_main : Tryz.prog.mainIs = some (true, "188375153e538a273bbf9a43452e34ed21e238d1d16b7b2cbc2828c9f3e45cd0".toList) := by kernel_rfl
theorem outlineTold_looks : true = Tryz.prog.looks [] := by kernel_rfl
theorem outlineTold_goes : false = Rows.outlineToldRow.goesBy Tryz.prog := by kernel_rfl
end Go.Proofs.YtifddfchpknkbaaGreatDoor
