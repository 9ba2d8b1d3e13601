import Derived.Test.YtifddfchpknkbaaGreatDoorRows
import Derived.ProofKit
import Derived.SevenTiedAt
set_option linter.unusedVariables false
set_option linter.unusedSimpArgs false
namespace Go.Proofs.YtifddfchpknkbaaGreatDoor
theorem outlineMore_and {a b : Bool} (ha : a = true) (hb : b = true) : (a && b) = true := by rw [ha, hb]; rfl
theorem outlineMore_named : Tryz.prog.funcNamed "kelir/kelirlaw01.OutlineMore" = some 19 := by kernel_rfl
set_option maxRecDepth 100000 in
set_option maxHeartbeats 40000000 in
theorem outlineMore_facts : joinedFacts Tryz.prog 19 Tryz.f19 Rows.outlineMoreSpec Rows.outlineMoreRow = true := by
  unfold joinedFacts
  repeat' (with_reducible apply outlineMore_and)
  all_goals (as_aux_lemma => kernel_rfl)
theorem outlineMore_inst : Tryz.f19.isInstance Tryz.prog Rows.outlineMoreRow.origin Rows.outlineMoreRow.targs := of_decide_eq_true (by kernel_rfl)
theorem outlineMore_wf : Rows.outlineMoreRow.wfByText (OpenSpec.ofChange Rows.outlineMoreSpec) = true := by kernel_rfl
theorem outlineMore_main : Tryz.prog.mainIs = some (true, "188375153e538a273bbf9a43452e34ed21e238d1d16b7b2cbc2828c9f3e45cd0".toList) := by kernel_rfl
theorem outlineMore_looks : true = Tryz.prog.looks [] := by kernel_rfl
theorem outlineMore_goes : false = Rows.outlineMoreRow.goesBy Tryz.prog := by kernel_rfl
end Go.Proofs.YtifddfchpknkbaaGreatDoor
