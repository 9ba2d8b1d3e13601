import Derived.Test.YtifddfchpknkbaaGreatDoorRows
import Derived.ProofKit
import Derived.SevenTiedAt
set_option linter.unusedVariables false
set_option linter.unusedSimpArgs false
namespace Go.Proofs.YtifddfchpknkbaaGreatDoor
theorem outlineLooks_and {a b : Bool} (ha : a = true) (hb : b = true) : (a && b) = true := by rw [ha, hb]; rfl
theorem outlineLooks_named : Tryz.prog.funcNamed "kelir/kelirlaw01.OutlineLooks" = some 13 := by kernel_rfl
set_option maxRecDepth 100000 in
set_option maxHeartbeats 40000000 in
theorem outlineLooks_facts : joinedFacts Tryz.prog 13 Tryz.f13 Rows.outlineLooksSpec Rows.outlineLooksRow = true := by
  unfold joinedFacts
  repeat' (with_reducible apply outlineLooks_and)
  all_goals (as_aux_lemma => kernel_rfl)
theorem outlineLooks_inst : Tryz.f13.isInstance Tryz.prog Rows.outlineLooksRow.origin Rows.outlineLooksRow.targs := of_decide_eq_true (by kernel_rfl)
theorem outlineLooks_wf : Rows.outlineLooksRow.wfByText (OpenSpec.ofChange Rows.outlineLooksSpec) = true := by kernel_rfl
theorem outlineLooks_main : Tryz.prog.mainIs = some (true, "188375153e538a273bbf9a43452e34ed21e238d1d16b7b2cbc2828c9f3e45cd0".toList) := by kernel_rfl
theorem outlineLooks_looks : true = Tryz.prog.looks [] := by kernel_rfl
theorem outlineLooks_goes : false = Rows.outlineLooksRow.goesBy Tryz.prog := by kernel_rfl
end Go.Proofs.YtifddfchpknkbaaGreatDoor
