import Derived.Test.YtekmnelpkogppaaGreatDoorRows
import Derived.ProofKit
import Derived.SevenTiedAt
set_option linter.unusedVariables false
set_option linter.unusedSimpArgs false
namespace Go.Proofs.YtekmnelpkogppaaGreatDoor
theorem versionTexts_and {a b : Bool} (ha : a = true) (hb : b = true) : (a && b) = true := by rw [ha, hb]; rfl
theorem versionTexts_named : Tryz.prog.funcNamed "kelir/kelirlaw06.VersionTexts" = some 11 := by kernel_rfl
set_option maxRecDepth 100000 in
set_option maxHeartbeats 40000000 in
theorem versionTexts_facts : joinedFacts Tryz.prog 11 Tryz.f11 Rows.versionTextsSpec Rows.versionTextsRow = true := by
  unfold joinedFacts
  repeat' (with_reducible apply versionTexts_and)
  all_goals (as_aux_lemma => kernel_rfl)
theorem versionTexts_inst : Tryz.f11.isInstance Tryz.prog Rows.versionTextsRow.origin Rows.versionTextsRow.targs := of_decide_eq_true (by kernel_rfl)
theorem versionTexts_wf : Rows.versionTextsRow.wfByText (OpenSpec.ofChange Rows.versionTextsSpec) = true := by kernel_rfl
theorem versionTexts_main : Tryz.prog.mainIs = some (true, "1ee9e46f3b7107daa6d70c1e879d131c76b497259f03573c029c6f6310125314".toList) := by kernel_rfl
theorem versionTexts_looks : true = Tryz.prog.looks [] := by kernel_rfl
theorem versionTexts_goes : false = Rows.versionTextsRow.goesBy Tryz.prog := by kernel_rfl
end Go.Proofs.YtekmnelpkogppaaGreatDoor
