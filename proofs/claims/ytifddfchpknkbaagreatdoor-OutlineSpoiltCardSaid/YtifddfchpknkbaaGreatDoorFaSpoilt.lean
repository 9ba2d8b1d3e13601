import Derived.Test.YtifddfchpknkbaaGreatDoorRows
import Derived.ProofKit
import Derived.SevenTiedAt
set_option linter.unusedVariables false
set_option linter.unusedSimpArgs false
namespace Go.Proofs.YtifddfchpknkbaaGreatDoor
theorem outlineSpoilt_and {a b : Bool} (ha : a = true) (hb : b = true) : (a && b) = true := by rw [ha, hb]; rfl
theorem outlineSpoilt_named : Tryz.prog.funcNamed "kelir/kelirlaw01.OutlineSpoilt" = some 22 := by kernel_rfl
set_option maxRecDepth 100000 in
set_option maxHeartbeats 40000000 in
theorem outlineSpoilt_facts : joinedFacts Tryz.prog 22 Tryz.f22 Rows.outlineSpoiltSpec Rows.outlineSpoiltRow = true := by
  unfold joinedFacts
  repeat' (with_reducible apply outlineSpoilt_and)
  all_goals (as_aux_lemma => kernel_rfl)
theorem outlineSpoilt_inst : Tryz.f22.isInstance Tryz.prog Rows.outlineSpoiltRow.origin Rows.outlineSpoiltRow.targs := of_decide_eq_true (by kernel_rfl)
theorem outlineSpoilt_wf : Rows.outlineSpoiltRow.wfByText (OpenSpec.ofChange Rows.outlineSpoiltSpec) = true := by kernel_rfl
theorem outlineSpoilt_main : Tryz.prog.mainIs = some (true, "188375153e538a273bbf9a43452e34ed21e238d1d16b7b2cbc2828c9f3e45cd0".toList) := by kernel_rfl
theorem outlineSpoilt_looks : true = Tryz.prog.looks [] := by kernel_rfl
theorem outlineSpoilt_goes : false = Rows.outlineSpoiltRow.goesBy Tryz.prog := by kernel_rfl
end Go.Proofs.YtifddfchpknkbaaGreatDoor
