import Derived.Test.YtifddfchpknkbaaGreatDoorRows
import Derived.ProofKit
import Derived.SevenTiedAt
set_option linter.unusedVariables false
set_option linter.unusedSimpArgs false
namespace Go.Proofs.YtifddfchpknkbaaGreatDoor
theorem outlineFits_and {a b : Bool} (ha : a = true) (hb : b = true) : (a && b) = true := by rw [ha, hb]; rfl
theorem outlineFits_named : Tryz.prog.funcNamed "kelir/kelirlaw01.OutlineFits" = some 8 := by kernel_rfl
set_option maxRecDepth 100000 in
set_option maxHeartbeats 40000000 in
theorem outlineFits_facts : joinedFacts Tryz.prog 8 Tryz.f8 Rows.outlineFitsSpec Rows.outlineFitsRow = true := by
  unfold joinedFacts
  repeat' (with_reducible apply outlineFits_and)
  all_goals (as_aux_lemma => kernel_rfl)
theorem outlineFits_inst : Tryz.f8.isInstance Tryz.prog Rows.outlineFitsRow.origin Rows.outlineFitsRow.targs := of_decide_eq_true (by kernel_rfl)
theorem outlineFits_wf : Rows.outlineFitsRow.wfByText (OpenSpec.ofChange Rows.outlineFitsSpec) = true := by kernel_rfl
theorem outlineFits_main : Tryz.prog.mainIs = some (true, "188375153e538a273bbf9a43452e34ed21e238d1d16b7b2cbc2828c9f3e45cd0".toList) := by kernel_rfl
theorem outlineFits_looks : true = Tryz.prog.looks [] := by kernel_rfl
theorem outlineFits_goes : false = Rows.outlineFitsRow.goesBy Tryz.prog := by kernel_rfl
end Go.Proofs.YtifddfchpknkbaaGreatDoor
