import Derived.Test.YtekmnelpkogppaaGreatDoorRows
import Derived.ProofKit
import Derived.SevenTiedAt
set_option linter.unusedVariables false
set_option linter.unusedSimpArgs false
namespace Go.Proofs.YtekmnelpkogppaaGreatDoor
theorem versionReads_and {a b : Bool} (ha : a = true) (hb : b = true) : (a && b) = true := by rw [ha, hb]; rfl
theorem versionReads_named : Tryz.prog.funcNamed "kelir/kelirlaw06.VersionReads" = some 21 := by kernel_rfl
set_option maxRecDepth 100000 in
set_option maxHeartbeats 40000000 in
theorem versionReads_facts : joinedFacts Tryz.prog 21 Tryz.f21 Rows.versionReadsSpec Rows.versionReadsRow = true := by
  unfold joinedFacts
  repeat' (with_reducible apply versionReads_and)
  all_goals (as_aux_lemma => kernel_rfl)
theorem versionReads_inst : Tryz.f21.isInstance Tryz.prog Rows.versionReadsRow.origin Rows.versionReadsRow.targs := of_decide_eq_true (by kernel_rfl)
theorem versionReads_wf : Rows.versionReadsRow.wfByText (OpenSpec.ofChange Rows.versionReadsSpec) = true := by kernel_rfl
theorem versionReads_main : Tryz.prog.mainIs = some (true, "1ee9e46f3b7107daa6d70c1e879d131c76b497259f03573c029c6f6310125314".toList) := by kernel_rfl
theorem versionReads_looks : true = Tryz.prog.looks [] := by kernel_rfl
theorem versionReads_goes : false = Rows.versionReadsRow.goesBy Tryz.prog := by kernel_rfl
end Go.Proofs.YtekmnelpkogppaaGreatDoor
