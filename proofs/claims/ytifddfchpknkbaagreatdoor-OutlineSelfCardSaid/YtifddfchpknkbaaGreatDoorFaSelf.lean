import Derived.Test.YtifddfchpknkbaaGreatDoorRows
import Derived.ProofKit
import Derived.SevenTiedAt
set_option linter.unusedVariables false
set_option linter.unusedSimpArgs false
namespace Go.Proofs.YtifddfchpknkbaaGreatDoor
theorem outlineSelf_and {a b : Bool} (ha : a = true) (hb : b = true) : (a && b) = true := by rw [ha, hb]; rfl
theorem outlineSelf_named : Tryz.prog.funcNamed "kelir/kelirlaw01.OutlineSelf" = some 5 := by kernel_rfl
set_option maxRecDepth 100000 in
set_option maxHeartbeats 40000000 in
theorem outlineSelf_facts : joinedFacts Tryz.prog 5 Tryz.f5 Rows.outlineSelfSpec Rows.outlineSelfRow = true := by
  unfold joinedFacts
  repeat' (with_reducible apply outlineSelf_and)
  all_goals (as_aux_lemma => kernel_rfl)
theorem outlineSelf_inst : Tryz.f5.isInstance Tryz.prog Rows.outlineSelfRow.origin Rows.outlineSelfRow.targs := of_decide_eq_true (by kernel_rfl)
theorem outlineSelf_wf : Rows.outlineSelfRow.wfByText (OpenSpec.ofChange Rows.outlineSelfSpec) = true := by kernel_rfl
theorem outlineSelf_main : Tryz.prog.mainIs = some (true, "188375153e538a273bbf9a43452e34ed21e238d1d16b7b2cbc2828c9f3e45cd0".toList) := by kernel_rfl
theorem outlineSelf_looks : true = Tryz.prog.looks [] := by kernel_rfl
theorem outlineSelf_goes : false = Rows.outlineSelfRow.goesBy Tryz.prog := by kernel_rfl
end Go.Proofs.YtifddfchpknkbaaGreatDoor
