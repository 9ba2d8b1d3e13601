import Derived.Test.YtekmnelpkogppaaGreatDoorRows
import Derived.ProofKit
import Derived.SevenTiedAt
set_option linter.unusedVariables false
set_option linter.unusedSimpArgs false
namespace Go.Proofs.YtekmnelpkogppaaGreatDoor
theorem versionAsks_and {a b : Bool} (ha : a = true) (hb : b = true) : (a && b) = true := by rw [ha, hb]; rfl
theorem versionAsks_named : Tryz.prog.funcNamed "kelir/kelirlaw06.VersionAsks" = some 13 := by kernel_rfl
set_option maxRecDepth 100000 in
set_option maxHeartbeats 40000000 in
theorem versionAsks_facts : joinedFacts Tryz.prog 13 Tryz.f13 Rows.versionAsksSpec Rows.versionAsksRow = true := by
  unfold joinedFacts
  repeat' (with_reducible apply versionAsks_and)
  all_goals (as_aux_lemma => kernel_rfl)
theorem versionAsks_inst : Tryz.f13.isInstance Tryz.prog Rows.versionAsksRow.origin Rows.versionAsksRow.targs := of_decide_eq_true (by kernel_rfl)
theorem versionAsks_wf : Rows.versionAsksRow.wfByText (OpenSpec.ofChange Rows.versionAsksSpec) = true := by kernel_rfl
theorem versionAsks_main : Tryz.prog.mainIs = some (true, "1ee9e46f3b7107daa6d70c1e879d131c76b497259f03573c029c6f6310125314".toList) := by kernel_rfl
theorem versionAsks_looks : true = Tryz.prog.looks [] := by kernel_rfl
theorem versionAsks_goes : false = Rows.versionAsksRow.goesBy Tryz.prog := by kernel_rfl
end Go.Proofs.YtekmnelpkogppaaGreatDoor
