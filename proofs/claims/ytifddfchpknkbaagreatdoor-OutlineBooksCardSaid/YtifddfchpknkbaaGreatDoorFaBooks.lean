import Derived.Test.YtifddfchpknkbaaGreatDoorRows
import Derived.ProofKit
import Derived.SevenTiedAt
set_option linter.unusedVariables false
set_option linter.unusedSimpArgs false
namespace Go.Proofs.YtifddfchpknkbaaGreatDoor
theorem outlineBooks_and {a b : Bool} (ha : a = true) (hb : b = true) : (a && b) = true := by rw [ha, hb]; rfl
theorem outlineBooks_named : Tryz.prog.funcNamed "kelir/kelirlaw01.OutlineBooks" = some 21 := by kernel_rfl
set_option maxRecDepth 100000 in
set_option maxHeartbeats 40000000 in
theorem outlineBooks_facts : joinedFacts Tryz.prog 21 Tryz.f21 Rows.outlineBooksSpec Rows.outlineBooksRow = true := by
  unfold joinedFacts
  repeat' (with_reducible apply outlineBooks_and)
  all_goals (as_aux_lemma => kernel_rfl)
theorem outlineBooks_inst : Tryz.f21.isInstance Tryz.prog Rows.outlineBooksRow.origin Rows.outlineBooksRow.targs := of_decide_eq_true (by kernel_rfl)
theorem outlineBooks_wf : Rows.outlineBooksRow.wfByText (OpenSpec.ofChange Rows.outlineBooksSpec) = true := by kernel_rfl
theorem outlineBooks_main : Tryz.prog.mainIs = some (true, "188375153e538a273bbf9a43452e34ed21e238d1d16b7b2cbc2828c9f3e45cd0".toList) := by kernel_rfl
theorem outlineBooks_looks : true = Tryz.prog.looks [] := by kernel_rfl
theorem outlineBooks_goes : false = Rows.outlineBooksRow.goesBy Tryz.prog := by kernel_rfl
end Go.Proofs.YtifddfchpknkbaaGreatDoor
