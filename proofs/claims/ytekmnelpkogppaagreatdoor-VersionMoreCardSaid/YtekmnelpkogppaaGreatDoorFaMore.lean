import Derived.Test.YtekmnelpkogppaaGreatDoorRows
import Derived.ProofKit
import Derived.SevenTiedAt
set_option linter.unusedVariables false
set_option linter.unusedSimpArgs false
namespace Go.Proofs.YtekmnelpkogppaaGreatDoor
theorem versionMore_and {a b : Bool} (ha : a = true) (hb : b = true) : (a && b) = true := by rw [ha, hb]; rfl
theorem versionMore_named : Tryz.prog.funcNamed "kelir/kelirlaw06.VersionMore" = some 19 := by kernel_rfl
set_option maxRecDepth 100000 in
set_option maxHeartbeats 40000000 in
theorem versionMore_facts : joinedFacts Tryz.prog 19 Tryz.f19 Rows.versionMoreSpec Rows.versionMoreRow = true := by
  unfold joinedFacts
  repeat' (with_reducible apply versionMore_and)
  all_goals (as_aux_lemma => kernel_rfl)
theorem versionMore_inst : Tryz.f19.isInstance Tryz.prog Rows.versionMoreRow.origin Rows.versionMoreRow.targs := of_decide_eq_true (by kernel_rfl)
theorem versionMore_wf : Rows.versionMoreRow.wfByText (OpenSpec.ofChange Rows.versionMoreSpec) = true := by kernel_rfl
theorem versionMore_main : Tryz.prog.mainIs = some (true, "1ee9e46f3b7107daa6d70c1e879d131c76b497259f03573c029c6f6310125314".toList) := by kernel_rfl
theorem versionMore_looks : true = Tryz.prog.looks [] := by kernel_rfl
theorem versionMore_goes : false = Rows.versionMoreRow.goesBy Tryz.prog := by kernel_rfl
end Go.Proofs.YtekmnelpkogppaaGreatDoor
