/-
  OutlineProof (P1.1, P1.6, P1.7): for every stage, company, reach, cells, other cells and two readings the theorem of cells that tell returns true, and its arguments read behind the call as before.
-/
import Derived.Test.YtifddfchpknkbaaGreatDoorLawKit
import Derived.Test.YtifddfchpknkbaaGreatDoorLawB
import Derived.Test.YtifddfchpknkbaaGreatDoorEh
import Derived.Test.YtifddfchpknkbaaGreatDoorRows
import Derived.Test.YtifddfchpknkbaaGreatDoorCards
import Derived.Test.YtifddfchpknkbaaGreatDoorTie
import Derived.Test.YtifddfchpknkbaaGreatDoorFaProof
import Derived.Lay
import Derived.SevenTiedAt
set_option linter.unusedVariables false
set_option linter.unusedSimpArgs false
namespace Go.Proofs.YtifddfchpknkbaaGreatDoor
open Go.ChangeShapes Go.WideShapes Go.ChangeAt Go.RowKit Go.Deep

theorem outlineProof_rows : RowsOk Tryz.prog Tryz.f17.params.toList := by
  have h : (Tryz.f17.params.toList.all fun t => Tryz.prog.readableRec t && decide (t < Tryz.prog.types.size)) = true := by kernel_rfl
  intro t ht
  have := List.all_eq_true.1 h t ht
  simpa using this
set_option maxRecDepth 100000 in
theorem outlineProof_lifted (os : Os) (started : os.Started) (H : Type) (enc : TypeId × Value → H) :
    ReturnsInHanded {} Tryz.checked os 17 .any (fun w args => (Rows.outlineProofSpec.pre enc Tryz.prog Tryz.f17 [] false w args ∧ laidMetH Tryz.prog Rows.outlineProofRow.laid w) ∧ sizedMet enc Tryz.prog Tryz.f17 (OpenSpec.ofChange Rows.outlineProofSpec) false w args)
      (Rows.outlineProofSpec.post enc Tryz.prog Tryz.f17 false true false false) := by
  refine law_lifted (C := Tryz.checked) (tb := 4) started law_own (by kernel_rfl) Tryz.func17 law_laidOut outlineProof_rows rfl Tryz.underlying4 rfl (fun ds hds => ?_)
    (ChangeSpec.witness_shaped (enc := enc) (C := Tryz.checked) (os := os) (X := fun w _ => laidMetH Tryz.prog Rows.outlineProofRow.laid w) false (World.laidAll Tryz.prog os Rows.outlineProofRow.laid) #[.agg #[.int .i64 0, .int .i64 0, .int .i64 0, .int .i64 0, .int .i64 0, .int .i64 0], .slice none 0 0, .agg #[.int .i64 0, .int .i64 0, .int .i64 0, .int .i64 0, .int .i64 0], .slice none 0 0, .slice none 0 0, .agg #[.int .i64 0, .int .i64 0, .int .i64 0, .int .i64 0], .agg #[.int .i64 0, .int .i64 0, .int .i64 0, .int .i64 0]] 8 (World.laidAll_os _ _ _)
      (World.shaped_of_ZipB (by kernel_rfl) (by kernel_rfl)) (by kernel_rfl) (by kernel_rfl) (by kernel_rfl)
      (by rw [MakeChecks.laidMetH_plain _ _ _ (by kernel_rfl)]; exact laidMet_laidAll _ (by kernel_rfl) (by kernel_rfl))) ?_
  · have hd : ds.length = 7 := hds
    match ds, hd with
    | [d0, d1, d2, d3, d4, d5, d6], _ => rfl
  · intro W base args ds p hval hA hsh
    obtain ⟨m, hm⟩ := law_maxLen hsh
    have hA' : DataW.TrodAll enc Tryz.prog W 0 (fun _ => true) true [23, 51, 71, 87, 87, 86, 86] args.toList ds p := hA
    have hval' : ∀ (j : Nat) t v, (#[23, 51, 71, 87, 87, 86, 86] : Array TypeId)[j]? = some t → args[j]? = some v → Value.okWide Tryz.prog W .any base t v := hval
    clear hA hval hsh
    obtain ⟨v0, v1, v2, v3, v4, v5, v6, d0, d1, d2, d3, d4, d5, d6, p0, p1, p2, p3, p4, p5, p6, rfl, rfl, t0, t1, t2, t3, t4, t5, t6⟩ := law_seven hA'
    obtain ⟨a, b, c, d, e, f, rfl⟩ := law_stage (hval' 0 23 v0 rfl rfl) t0
    obtain ⟨A, n, cap, fs, rfl, h1, h2, h3, h4⟩ := law_figs (hval' 1 51 v1 rfl rfl) t1
    obtain ⟨nl, nh, xl, xh, yy, rfl⟩ := law_reach (hval' 2 71 v2 rfl rfl) t2
    obtain ⟨CA, cn, ccap, cs, rfl, k1, k2, k3⟩ := law_ints (hval' 3 87 v3 rfl rfl) t3
    obtain ⟨OA, on, ocap, os, rfl, g1, g2, g3⟩ := law_ints (hval' 4 87 v4 rfl rfl) t4
    obtain ⟨r1, r2, r3, r4, rfl⟩ := law_reading (hval' 5 86 v5 rfl rfl) t5
    obtain ⟨q1, q2, q3, q4, rfl⟩ := law_reading (hval' 6 86 v6 rfl rfl) t6
    exact proof_law a b c d e f nl nh xl xh yy r1 r2 r3 r4 q1 q2 q3 q4 A n cap fs CA cn ccap cs OA on ocap os m W hm h1 h2 h3 h4 k1 k2 k3 g1 g2 g3
theorem outlineProof_holds : Rows.OutlineProofSaid :=
  OpenClaim.holds_of_wide 17 Tryz.f17 rfl rfl rfl rfl rfl rfl rfl ⟨rfl, rfl, rfl, rfl, rfl⟩ rfl rfl rfl rfl rfl outlineProof_named Tryz.func17 outlineProof_facts
    outlineProof_inst (by unfold Func.isWrapper; first | (rw [if_pos (by decide +kernel)]; kernel_rfl) | (rw [if_neg (by decide +kernel)]; exact ⟨rfl, rfl⟩))
    (fun os started H enc _ => outlineProof_lifted os started H enc)
theorem outlineProof_card : Rows.OutlineProofCardSaid :=
  Claim7.holds_tied_plain_at .later [] [.data, .data, .data, .data, .pinned] true (true, "188375153e538a273bbf9a43452e34ed21e238d1d16b7b2cbc2828c9f3e45cd0") true
    outlineProof_holds (fun _ h => by cases h) outlineProof_wf (fun _ h => by cases h) outlineProof_row_tie rfl ⟨rfl, rfl⟩ outlineProof_main rfl
    (fun f fn hf hfn => by
      obtain rfl : f = 17 := Option.some.inj (outlineProof_named.symm.trans hf) |>.symm
      obtain rfl : fn = Tryz.f17 := (Option.some.inj (Tryz.func17.symm.trans hfn)).symm
      exact ⟨outlineProof_looks, fun j t ht => by
        rw [Tryz.params17] at ht
        have hm : t ∈ [23, 51, 71, 87, 87, 86, 86] := by simpa using Array.mem_of_getElem? ht
        have hall : ([23, 51, 71, 87, 87, 86, 86].all fun u => !Tryz.prog.wantsStandIn u) = true := by kernel_rfl
        exact (show Tryz.prog.wantsStandIn t = false by simpa using List.all_eq_true.1 hall t hm)⟩)
    outlineProof_goes
#print axioms outlineProof_card
end Go.Proofs.YtifddfchpknkbaaGreatDoor
