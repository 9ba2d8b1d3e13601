import Derived.Test.YtekmnelpkogppaaGreatDoorRows
import Derived.ProofKit
import Derived.SevenTiedAt
set_option linter.unusedVariables false
set_option linter.unusedSimpArgs false
namespace Go.Proofs.YtekmnelpkogppaaGreatDoor
theorem versionMade_and {a b : Bool} (ha : a = true) (hb : b = true) : (a && b) = true := by rw [ha, hb]; rfl
theorem versionMade_named : Tryz.prog.funcNamed "kelir/kelirlaw06.VersionMade" = some 18 := by kernel_rfl
set_option maxRecDepth 100000 in
set_option maxHeartbeats 40000000 in
theorem versionMade_facts : joinedFacts Tryz.prog 18 Tryz.f18 Rows.versionMadeSpec Rows.versionMadeRow = true := by
  unfold joinedFacts
  repeat' (with_reducible apply versionMade_and)
  all_goals (as_aux_lemma => kernel_rfl)
theorem versionMade_inst : Tryz.f18.isInstance Tryz.prog Rows.versionMadeRow.origin Rows.versionMadeRow.targs := of_decide_eq_true (by kernel_rfl)
theorem versionMade_wf : Rows.versionMadeRow.wfByText (OpenSpec.ofChange Rows.versionMadeSpec) = true := by kernel_rfl
theorem versionMade_main : Tryz.prog.mainIs = some (true, "1ee9e46f3b7107daa6d70c1e879d131c76b497259f03573c029c6f6310125314".toList) := by kernel_rfl
theorem versionMade_looks : true = Tryz.prog.looks [] := by kernel_rfl
theorem versionMade_goes : false = Rows.versionMadeRow.goesBy Tryz.prog := by kernel_rfl
end Go.Proofs.YtekmnelpkogppaaGreatDoor
