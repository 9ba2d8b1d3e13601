import Derived.Test.YtekmnelpkogppaaGreatDoorRows
import Derived.ProofKit
import Derived.SevenTiedAt
set_option linter.unusedVariables false
set_option linter.unusedSimpArgs false
namespace Go.Proofs.YtekmnelpkogppaaGreatDoor
theorem versionRival_and {a b : Bool} (ha : a = true) (hb : b = true) : (a && b) = true := by rw [ha, hb]; rfl
theorem versionRival_named : Tryz.prog.funcNamed "kelir/kelirlaw06.VersionRival" = some 10 := by kernel_rfl
set_option maxRecDepth 100000 in
set_option maxHeartbeats 40000000 in
theorem versionRival_facts : joinedFacts Tryz.prog 10 Tryz.f10 Rows.versionRivalSpec Rows.versionRivalRow = true := by
  unfold joinedFacts
  repeat' (with_reducible apply versionRival_and)
  all_goals (as_aux_lemma => kernel_rfl)
theorem versionRival_inst : Tryz.f10.isInstance Tryz.prog Rows.versionRivalRow.origin Rows.versionRivalRow.targs := of_decide_eq_true (by kernel_rfl)
theorem versionRival_wf : Rows.versionRivalRow.wfByText (OpenSpec.ofChange Rows.versionRivalSpec) = true := by kernel_rfl
theorem versionRival_main : Tryz.prog.mainIs = some (true, "1ee9e46f3b7107daa6d70c1e879d131c76b497259f03573c029c6f6310125314".toList) := by kernel_rfl
theorem versionRival_looks : true = Tryz.prog.looks [] := by kernel_rfl
theorem versionRival_goes : false = Rows.versionRivalRow.goesBy Tryz.prog := by kernel_rfl
end Go.Proofs.YtekmnelpkogppaaGreatDoor
