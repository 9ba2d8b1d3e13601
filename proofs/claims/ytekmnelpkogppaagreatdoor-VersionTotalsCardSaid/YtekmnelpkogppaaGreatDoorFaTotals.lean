import Derived.Test.YtekmnelpkogppaaGreatDoorRows
import Derived.ProofKit
import Derived.SevenTiedAt
set_option linter.unusedVariables false
set_option linter.unusedSimpArgs false
namespace Go.Proofs.YtekmnelpkogppaaGreatDoor
theorem versionTotals_and {a b : Bool} (ha : a = true) (hb : b = true) : (a && b) = true := by rw [ha, hb]; rfl
theorem versionTotals_named : Tryz.prog.funcNamed "kelir/kelirlaw06.VersionTotals" = some 15 := by kernel_rfl
set_option maxRecDepth 100000 in
set_option maxHeartbeats 40000000 in
theorem versionTotals_facts : joinedFacts Tryz.prog 15 Tryz.f15 Rows.versionTotalsSpec Rows.versionTotalsRow = true := by
  unfold joinedFacts
  repeat' (with_reducible apply versionTotals_and)
  all_goals (as_aux_lemma => kernel_rfl)
theorem versionTotals_inst : Tryz.f15.isInstance Tryz.prog Rows.versionTotalsRow.origin Rows.versionTotalsRow.targs := of_decide_eq_true (by kernel_rfl)
theorem versionTotals_wf : Rows.versionTotalsRow.wfByText (OpenSpec.ofChange Rows.versionTotalsSpec) = true := by kernel_rfl
theorem versionTotals_main : Tryz.prog.mainIs = some (true, "1ee9e46f3b7107daa6d70c1e879d131c76b497259f03573c029c6f6310125314".toList) := by kernel_rfl
theorem versionTotals_looks : true = Tryz.prog.looks [] := by kernel_rfl
theorem versionTotals_goes : false = Rows.versionTotalsRow.goesBy Tryz.prog := by kernel_rfl
end Go.Proofs.YtekmnelpkogppaaGreatDoor
