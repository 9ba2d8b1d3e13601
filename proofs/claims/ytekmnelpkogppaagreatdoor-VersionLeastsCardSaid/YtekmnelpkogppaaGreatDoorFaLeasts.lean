import Derived.Test.YtekmnelpkogppaaGreatDoorRows
import Derived.ProofKit
import Derived.SevenTiedAt
set_option linter.unusedVariables false
set_option linter.unusedSimpArgs false
namespace Go.Proofs.YtekmnelpkogppaaGreatDoor
theorem versionLeasts_and {a b : Bool} (ha : a = true) (hb : b = true) : (a && b) = true := by rw [ha, hb]; rfl
theorem versionLeasts_named : Tryz.prog.funcNamed "kelir/kelirlaw06.VersionLeasts" = some 9 := by kernel_rfl
set_option maxRecDepth 100000 in
set_option maxHeartbeats 40000000 in
theorem versionLeasts_facts : joinedFacts Tryz.prog 9 Tryz.f9 Rows.versionLeastsSpec Rows.versionLeastsRow = true := by
  unfold joinedFacts
  repeat' (with_reducible apply versionLeasts_and)
  all_goals (as_aux_lemma => kernel_rfl)
theorem versionLeasts_inst : Tryz.f9.isInstance Tryz.prog Rows.versionLeastsRow.origin Rows.versionLeastsRow.targs := of_decide_eq_true (by kernel_rfl)
theorem versionLeasts_wf : Rows.versionLeastsRow.wfByText (OpenSpec.ofChange Rows.versionLeastsSpec) = true := by kernel_rfl
theorem versionLeasts_main : Tryz.prog.mainIs = some (true, "1ee9e46f3b7107daa6d70c1e879d131c76b497259f03573c029c6f6310125314".toList) := by kernel_rfl
theorem versionLeasts_looks : true = Tryz.prog.looks [] := by kernel_rfl
theorem versionLeasts_goes : false = Rows.versionLeastsRow.goesBy Tryz.prog := by kernel_rfl
end Go.Proofs.YtekmnelpkogppaaGreatDoor
