import Derived.Test.YtifddfchpknkbaaGreatDoorRows
import Derived.ProofKit
import Derived.SevenTiedAt
set_option linter.unusedVariables false
set_option linter.unusedSimpArgs false
namespace Go.Proofs.YtifddfchpknkbaaGreatDoor
theorem outlineCells_and {a b : Bool} (ha : a = true) (hb : b = true) : (a && b) = true := by rw [ha, hb]; rfl
theorem outlineCells_named : Tryz.prog.funcNamed "kelir/kelirlaw01.OutlineCells" = some 16 := by kernel_rfl
set_option maxRecDepth 100000 in
set_option maxHeartbeats 40000000 in
theorem outlineCells_facts : joinedFacts Tryz.prog 16 Tryz.f16 Rows.outlineCellsSpec Rows.outlineCellsRow = true := by
  unfold joinedFacts
  repeat' (with_reducible apply outlineCells_and)
  all_goals (as_aux_lemma => kernel_rfl)
theorem outlineCells_inst : Tryz.f16.isInstance Tryz.prog Rows.outlineCellsRow.origin Rows.outlineCellsRow.targs := of_decide_eq_true (by kernel_rfl)
theorem outlineCells_wf : Rows.outlineCellsRow.wfByText (OpenSpec.ofChange Rows.outlineCellsSpec) = true := by kernel_rfl
theorem outlineCells_main : Tryz.prog.mainIs = some (true, "188375153e538a273bbf9a43452e34ed21e238d1d16b7b2cbc2828c9f3e45cd0".toList) := by kernel_rfl
theorem outlineCells_looks : true = Tryz.prog.looks [] := by kernel_rfl
theorem outlineCells_goes : false = Rows.outlineCellsRow.goesBy Tryz.prog := by kernel_rfl
end Go.Proofs.YtifddfchpknkbaaGreatDoor
