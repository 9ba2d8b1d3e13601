import Derived.Test.YtekmnelpkogppaaGreatDoorRows
import Derived.ProofKit
import Derived.SevenTiedAt
set_option linter.unusedVariables false
set_option linter.unusedSimpArgs false
namespace Go.Proofs.YtekmnelpkogppaaGreatDoor
theorem versionSpoilt_and {a b : Bool} (ha : a = true) (hb : b = true) : (a && b) = true := by rw [ha, hb]; rfl
theorem versionSpoilt_named : Tryz.prog.funcNamed "kelir/kelirlaw06.VersionSpoilt" = some 22 := by kernel_rfl
set_option maxRecDepth 100000 in
set_option maxHeartbeats 40000000 in
theorem versionSpoilt_facts : joinedFacts Tryz.prog 22 Tryz.f22 Rows.versionSpoiltSpec Rows.versionSpoiltRow = true := by
  unfold joinedFacts
  repeat' (with_reducible apply versionSpoilt_and)
  all_goals (as_aux_lemma => kernel_rfl)
theorem versionSpoilt_inst : Tryz.f22.isInstance Tryz.prog Rows.versionSpoiltRow.origin Rows.versionSpoiltRow.targs := of_decide_eq_true (by kernel_rfl)
theorem versionSpoilt_wf : Rows.versionSpoiltRow.wfByText (OpenSpec.ofChange Rows.versionSpoiltSpec) = true := by kernel_rfl
theorem versionSpoilt_main : Tryz.prog.mainIs = some (true, "1ee9e46f3b7107daa6d70c1e879d131c76b497259f03573c029c6f6310125314".toList) := by kernel_rfl
theorem versionSpoilt_looks : true = Tryz.prog.looks [] := by kernel_rfl
theorem versionSpoilt_goes : false = Rows.versionSpoiltRow.goesBy Tryz.prog := by kernel_rfl
end Go.Proofs.YtekmnelpkogppaaGreatDoor
