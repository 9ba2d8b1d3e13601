import Derived.Test.YtifddfchpknkbaaGreatDoorRows
import Derived.ProofKit
import Derived.SevenTiedAt
set_option linter.unusedVariables false
set_option linter.unusedSimpArgs false
namespace Go.Proofs.YtifddfchpknkbaaGreatDoor
theorem outlineMeeting_and {a b : Bool} (ha : a = true) (hb : b = true) : (a && b) = true := by rw [ha, hb]; rfl
theorem outlineMeeting_named : Tryz.prog.funcNamed "kelir/kelirlaw01.OutlineMeeting" = some 7 := by kernel_rfl
set_option maxRecDepth 100000 in
set_option maxHeartbeats 40000000 in
theorem outlineMeeting_facts : joinedFacts Tryz.prog 7 Tryz.f7 Rows.outlineMeetingSpec Rows.outlineMeetingRow = true := by
  unfold joinedFacts
  repeat' (with_reducible apply outlineMeeting_and)
  all_goals (as_aux_lemma => kernel_rfl)
theorem outlineMeeting_inst : Tryz.f7.isInstance Tryz.prog Rows.outlineMeetingRow.origin Rows.outlineMeetingRow.targs := of_decide_eq_true (by kernel_rfl)
theorem outlineMeeting_wf : Rows.outlineMeetingRow.wfByText (OpenSpec.ofChange Rows.outlineMeetingSpec) = true := by kernel_rfl
theorem outlineMeeting_main : Tryz.prog.mainIs = some (true, "188375153e538a273bbf9a43452e34ed21e238d1d16b7b2cbc2828c9f3e45cd0".toList) := by kernel_rfl
theorem outlineMeeting_looks : true = Tryz.prog.looks [] := by kernel_rfl
theorem outlineMeeting_goes : false = Rows.outlineMeetingRow.goesBy Tryz.prog := by kernel_rfl
end Go.Proofs.YtifddfchpknkbaaGreatDoor
