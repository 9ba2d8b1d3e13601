import Derived.Test.YtifddfchpknkbaaGreatDoorRows
import Derived.ProofKit
import Derived.SevenTiedAt
set_option linter.unusedVariables false
set_option linter.unusedSimpArgs false
namespace Go.Proofs.YtifddfchpknkbaaGreatDoor
theorem outlineMistakes_and {a b : Bool} (ha : a = true) (hb : b = true) : (a && b) = true := by rw [ha, hb]; rfl
theorem outlineMistakes_named : Tryz.prog.funcNamed "kelir/kelirlaw01.OutlineMistakes" = some 14 := by kernel_rfl
set_option maxRecDepth 100000 in
set_option maxHeartbeats 40000000 in
theorem outlineMistakes_facts : joinedFacts Tryz.prog 14 Tryz.f14 Rows.outlineMistakesSpec Rows.outlineMistakesRow = true := by
  unfold joinedFacts
  repeat' (with_reducible apply outlineMistakes_and)
  all_goals (as_aux_lemma => kernel_rfl)
theorem outlineMistakes_inst : Tryz.f14.isInstance Tryz.prog Rows.outlineMistakesRow.origin Rows.outlineMistakesRow.targs := of_decide_eq_true (by kernel_rfl)
theorem outlineMistakes_wf : Rows.outlineMistakesRow.wfByText (OpenSpec.ofChange Rows.outlineMistakesSpec) = true := by kernel_rfl
theorem outlineMistakes_main : Tryz.prog.mainIs = some (true, "188375153e538a273bbf9a43452e34ed21e238d1d16b7b2cbc2828c9f3e45cd0".toList) := by kernel_rfl
theorem outlineMistakes_looks : true = Tryz.prog.looks [] := by kernel_rfl
theorem outlineMistakes_goes : false = Rows.outlineMistakesRow.goesBy Tryz.prog := by kernel_rfl
end Go.Proofs.YtifddfchpknkbaaGreatDoor
