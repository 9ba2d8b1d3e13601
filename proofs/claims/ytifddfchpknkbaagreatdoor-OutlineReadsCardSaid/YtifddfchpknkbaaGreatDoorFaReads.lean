import Derived.Test.YtifddfchpknkbaaGreatDoorRows
import Derived.ProofKit
import Derived.SevenTiedAt
set_option linter.unusedVariables false
set_option linter.unusedSimpArgs false
namespace Go.Proofs.YtifddfchpknkbaaGreatDoor
theorem outlineReads_and {a b : Bool} (ha : a = true) (hb : b = true) : (a && b) = true := by rw [ha, hb]; rfl
theorem outlineReads_named : Tryz.prog.funcNamed "kelir/kelirlaw01.OutlineReads" = some 10 := by kernel_rfl
set_option maxRecDepth 100000 in
set_option maxHeartbeats 40000000 in
theorem outlineReads_facts : joinedFacts Tryz.prog 10 Tryz.f10 Rows.outlineReadsSpec Rows.outlineReadsRow = true := by
  unfold joinedFacts
  repeat' (with_reducible apply outlineReads_and)
  all_goals (as_aux_lemma => kernel_rfl)
theorem outlineReads_inst : Tryz.f10.isInstance Tryz.prog Rows.outlineReadsRow.origin Rows.outlineReadsRow.targs := of_decide_eq_true (by kernel_rfl)
theorem outlineReads_wf : Rows.outlineReadsRow.wfByText (OpenSpec.ofChange Rows.outlineReadsSpec) = true := by kernel_rfl
theorem outlineReads_main : Tryz.prog.mainIs = some (true, "188375153e538a273bbf9a43452e34ed21e238d1d16b7b2cbc2828c9f3e45cd0".toList) := by kernel_rfl
theorem outlineReads_looks : true = Tryz.prog.looks [] := by kernel_rfl
theorem outlineReads_goes : false = Rows.outlineReadsRow.goesBy Tryz.prog := by kernel_rfl
end Go.Proofs.YtifddfchpknkbaaGreatDoor
