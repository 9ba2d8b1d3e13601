import Derived.Test.YtekmnelpkogppaaGreatDoorRows
import Derived.ProofKit
import Derived.SevenTiedAt
set_option linter.unusedVariables false
set_option linter.unusedSimpArgs false
namespace Go.Proofs.YtekmnelpkogppaaGreatDoor
theorem versionFewest_and {a b : Bool} (ha : a = true) (hb : b = true) : (a && b) = true := by rw [ha, hb]; rfl
theorem versionFewest_named : Tryz.prog.funcNamed "kelir/kelirlaw06.VersionFewest" = some 6 := by kernel_rfl
set_option maxRecDepth 100000 in
set_option maxHeartbeats 40000000 in
theorem versionFewest_facts : joinedFacts Tryz.prog 6 Tryz.f6 Rows.versionFewestSpec Rows.versionFewestRow = true := by
  unfold joinedFacts
  repeat' (with_reducible apply versionFewest_and)
  all_goals (as_aux_lemma => kernel_rfl)
theorem versionFewest_inst : Tryz.f6.isInstance Tryz.prog Rows.versionFewestRow.origin Rows.versionFewestRow.targs := of_decide_eq_true (by kernel_rfl)
theorem versionFewest_wf : Rows.versionFewestRow.wfByText (OpenSpec.ofChange Rows.versionFewestSpec) = true := by kernel_rfl
theorem versionFewest_main : Tryz.prog.mainIs = some (true, "1ee9e46f3b7107daa6d70c1e879d131c76b497259f03573c029c6f6310125314".toList) := by kernel_rfl
theorem versionFewest_looks : true = Tryz.prog.looks [] := by kernel_rfl
theorem versionFewest_goes : false = Rows.versionFewestRow.goesBy Tryz.prog := by kernel_rfl
end Go.Proofs.YtekmnelpkogppaaGreatDoor
