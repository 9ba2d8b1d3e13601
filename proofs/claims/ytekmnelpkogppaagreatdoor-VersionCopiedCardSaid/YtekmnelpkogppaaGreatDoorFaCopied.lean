import Derived.Test.YtekmnelpkogppaaGreatDoorRows
import Derived.ProofKit
import Derived.SevenTiedAt
set_option linter.unusedVariables false
set_option linter.unusedSimpArgs false
namespace Go.Proofs.YtekmnelpkogppaaGreatDoor
theorem versionCopied_and {a b : Bool} (ha : a = true) (hb : b = true) : (a && b) = true := by rw [ha, hb]; rfl
theorem versionCopied_named : Tryz.prog.funcNamed "kelir/kelirlaw06.VersionCopied" = some 16 := by kernel_rfl
set_option maxRecDepth 100000 in
set_option maxHeartbeats 40000000 in
theorem versionCopied_facts : joinedFacts Tryz.prog 16 Tryz.f16 Rows.versionCopiedSpec Rows.versionCopiedRow = true := by
  unfold joinedFacts
  repeat' (with_reducible apply versionCopied_and)
  all_goals (as_aux_lemma => kernel_rfl)
theorem versionCopied_inst : Tryz.f16.isInstance Tryz.prog Rows.versionCopiedRow.origin Rows.versionCopiedRow.targs := of_decide_eq_true (by kernel_rfl)
theorem versionCopied_wf : Rows.versionCopiedRow.wfByText (OpenSpec.ofChange Rows.versionCopiedSpec) = true := by kernel_rfl
theorem versionCopied_main : Tryz.prog.mainIs = some (true, "1ee9e46f3b7107daa6d70c1e879d131c76b497259f03573c029c6f6310125314".toList) := by kernel_rfl
theorem versionCopied_looks : true = Tryz.prog.looks [] := by kernel_rfl
theorem versionCopied_goes : false = Rows.versionCopiedRow.goesBy Tryz.prog := by kernel_rfl
end Go.Proofs.YtekmnelpkogppaaGreatDoor
