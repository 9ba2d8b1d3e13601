import Derived.Test.YtifddfchpknkbaaGreatDoorRows
import Derived.ProofKit
import Derived.SevenTiedAt
set_option linter.unusedVariables false
set_option linter.unusedSimpArgs false
namespace Go.Proofs.YtifddfchpknkbaaGreatDoor
theorem outlineShadows_and {a b : Bool} (ha : a = true) (hb : b = true) : (a && b) = true := by rw [ha, hb]; rfl
theorem outlineShadows_named : Tryz.prog.funcNamed "kelir/kelirlaw01.OutlineShadows" = some 3 := by kernel_rfl
set_option maxRecDepth 100000 in
set_option maxHeartbeats 40000000 in
theorem outlineShadows_facts : joinedFacts Tryz.prog 3 Tryz.f3 Rows.outlineShadowsSpec Rows.outlineShadowsRow = true := by
  unfold joinedFacts
  repeat' (with_reducible apply outlineShadows_and)
  all_goals (as_aux_lemma => kernel_rfl)
theorem outlineShadows_inst : Tryz.f3.isInstance Tryz.prog Rows.outlineShadowsRow.origin Rows.outlineShadowsRow.targs := of_decide_eq_true (by kernel_rfl)
theorem outlineShadows_wf : Rows.outlineShadowsRow.wfByText (OpenSpec.ofChange Rows.outlineShadowsSpec) = true := by kernel_rfl
theorem outlineShadows_main : Tryz.prog.mainIs = some (true, "188375153e538a273bbf9a43452e34ed21e238d1d16b7b2cbc2828c9f3e45cd0".toList) := by kernel_rfl
theorem outlineShadows_looks : true = Tryz.prog.looks [] := by kernel_rfl
theorem outlineShadows_goes : false = Rows.outlineShadowsRow.goesBy Tryz.prog := by kernel_rfl
end Go.Proofs.YtifddfchpknkbaaGreatDoor
