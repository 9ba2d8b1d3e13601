import Derived.Test.YtifddfchpknkbaaGreatDoorRows
import Derived.ProofKit
import Derived.SevenTiedAt
set_option linter.unusedVariables false
set_option linter.unusedSimpArgs false
namespace Go.Proofs.YtifddfchpknkbaaGreatDoor
theorem outlineFlames_and {a b : Bool} (ha : a = true) (hb : b = true) : (a && b) = true := by rw [ha, hb]; rfl
theorem outlineFlames_named : Tryz.prog.funcNamed "kelir/kelirlaw01.OutlineFlames" = some 18 := by kernel_rfl
set_option maxRecDepth 100000 in
set_option maxHeartbeats 40000000 in
theorem outlineFlames_facts : joinedFacts Tryz.prog 18 Tryz.f18 Rows.outlineFlamesSpec Rows.outlineFlamesRow = true := by
  unfold joinedFacts
  repeat' (with_reducible apply outlineFlames_and)
  all_goals (as_aux_lemma => kernel_rfl)
theorem outlineFlames_inst : Tryz.f18.isInstance Tryz.prog Rows.outlineFlamesRow.origin Rows.outlineFlamesRow.targs := of_decide_eq_true (by kernel_rfl)
theorem outlineFlames_wf : Rows.outlineFlamesRow.wfByText (OpenSpec.ofChange Rows.outlineFlamesSpec) = true := by kernel_rfl
theorem outlineFlames_main : Tryz.prog.mainIs = some (true, "188375153e538a273bbf9a43452e34ed21e238d1d16b7b2cbc2828c9f3e45cd0".toList) := by kernel_rfl
theorem outlineFlames_looks : true = Tryz.prog.looks [] := by kernel_rfl
theorem outlineFlames_goes : false = Rows.outlineFlamesRow.goesBy Tryz.prog := by kernel_rfl
end Go.Proofs.YtifddfchpknkbaaGreatDoor
