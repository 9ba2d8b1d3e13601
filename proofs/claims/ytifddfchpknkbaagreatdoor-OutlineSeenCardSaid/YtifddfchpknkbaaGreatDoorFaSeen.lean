import Derived.Test.YtifddfchpknkbaaGreatDoorRows
import Derived.ProofKit
import Derived.SevenTiedAt
set_option linter.unusedVariables false
set_option linter.unusedSimpArgs false
namespace Go.Proofs.YtifddfchpknkbaaGreatDoor
theorem outlineSeen_and {a b : Bool} (ha : a = true) (hb : b = true) : (a && b) = true := by rw [ha, hb]; rfl
theorem outlineSeen_named : Tryz.prog.funcNamed "kelir/kelirlaw01.OutlineSeen" = some 11 := by kernel_rfl
set_option maxRecDepth 100000 in
set_option maxHeartbeats 40000000 in
theorem outlineSeen_facts : joinedFacts Tryz.prog 11 Tryz.f11 Rows.outlineSeenSpec Rows.outlineSeenRow = true := by
  unfold joinedFacts
  repeat' (with_reducible apply outlineSeen_and)
  all_goals (as_aux_lemma => kernel_rfl)
theorem outlineSeen_inst : Tryz.f11.isInstance Tryz.prog Rows.outlineSeenRow.origin Rows.outlineSeenRow.targs := of_decide_eq_true (by kernel_rfl)
theorem outlineSeen_wf : Rows.outlineSeenRow.wfByText (OpenSpec.ofChange Rows.outlineSeenSpec) = true := by kernel_rfl
theorem outlineSeen_main : Tryz.prog.mainIs = some (true, "188375153e538a273bbf9a43452e34ed21e238d1d16b7b2cbc2828c9f3e45cd0".toList) := by kernel_rfl
theorem outlineSeen_looks : true = Tryz.prog.looks [] := by kernel_rfl
theorem outlineSeen_goes : false = Rows.outlineSeenRow.goesBy Tryz.prog := by kernel_rfl
end Go.Proofs.YtifddfchpknkbaaGreatDoor
