import Derived.Test.YtifddfchpknkbaaGreatDoorRows
import Derived.ProofKit
import Derived.SevenTiedAt
set_option linter.unusedVariables false
set_option linter.unusedSimpArgs false
namespace Go.Proofs.YtifddfchpknkbaaGreatDoor
theorem outlinePrints_and {a b : Bool} (ha : a = true) (hb : b = true) : (a && b) = true := by rw [ha, hb]; rfl
theorem outlinePrints_named : Tryz.prog.funcNamed "kelir/kelirlaw01.OutlinePrints" = some 20 := by kernel_rfl
set_option maxRecDepth 100000 in
set_option maxHeartbeats 40000000 in
theorem outlinePrints_facts : joinedFacts Tryz.prog 20 Tryz.f20 Rows.outlinePrintsSpec Rows.outlinePrintsRow = true := by
  unfold joinedFacts
  repeat' (with_reducible apply outlinePrints_and)
  all_goals (as_aux_lemma => kernel_rfl)
theorem outlinePrints_inst : Tryz.f20.isInstance Tryz.prog Rows.outlinePrintsRow.origin Rows.outlinePrintsRow.targs := of_decide_eq_true (by kernel_rfl)
theorem outlinePrints_wf : Rows.outlinePrintsRow.wfByText (OpenSpec.ofChange Rows.outlinePrintsSpec) = true := by kernel_rfl
theorem outlinePrints_main : Tryz.prog.mainIs = some (true, "188375153e538a273bbf9a43452e34ed21e238d1d16b7b2cbc2828c9f3e45cd0".toList) := by kernel_rfl
theorem outlinePrints_looks : true = Tryz.prog.looks [] := by kernel_rfl
theorem outlinePrints_goes : false = Rows.outlinePrintsRow.goesBy Tryz.prog := by kernel_rfl
end Go.Proofs.YtifddfchpknkbaaGreatDoor
