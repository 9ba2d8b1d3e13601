import Derived.Test.YtekmnelpkogppaaGreatDoorRows
import Derived.ProofKit
import Derived.SevenTiedAt
set_option linter.unusedVariables false
set_option linter.unusedSimpArgs false
namespace Go.Proofs.YtekmnelpkogppaaGreatDoor
theorem versionFound_and {a b : Bool} (ha : a = true) (hb : b = true) : (a && b) = true := by rw [ha, hb]; rfl
theorem versionFound_named : Tryz.prog.funcNamed "kelir/kelirlaw06.VersionFound" = some 14 := by kernel_rfl
set_option maxRecDepth 100000 in
set_option maxHeartbeats 40000000 in
theorem versionFound_facts : joinedFacts Tryz.prog 14 Tryz.f14 Rows.versionFoundSpec Rows.versionFoundRow = true := by
  unfold joinedFacts
  repeat' (with_reducible apply versionFound_and)
  all_goals (as_aux_lemma => kernel_rfl)
theorem versionFound_inst : Tryz.f14.isInstance Tryz.prog Rows.versionFoundRow.origin Rows.versionFoundRow.targs := of_decide_eq_true (by kernel_rfl)
theorem versionFound_wf : Rows.versionFoundRow.wfByText (OpenSpec.ofChange Rows.versionFoundSpec) = true := by kernel_rfl
theorem versionFound_main : Tryz.prog.mainIs = some (true, "1ee9e46f3b7107daa6d70c1e879d131c76b497259f03573c029c6f6310125314".toList) := by kernel_rfl
theorem versionFound_looks : true = Tryz.prog.looks [] := by kernel_rfl
theorem versionFound_goes : false = Rows.versionFoundRow.goesBy Tryz.prog := by kernel_rfl
end Go.Proofs.YtekmnelpkogppaaGreatDoor
