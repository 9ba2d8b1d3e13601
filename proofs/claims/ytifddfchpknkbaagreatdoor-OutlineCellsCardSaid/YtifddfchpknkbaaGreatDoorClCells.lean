/-
  OutlineCells (P1.7): for every stage, company, reach and cells the code and the specification agree on whether the cells are enough, and on the fewest of them that are, or on the errors; the law returns true, and its arguments read behind the call as before.
-/
import Derived.Test.YtifddfchpknkbaaGreatDoorLawKit
import Derived.Test.YtifddfchpknkbaaGreatDoorLawB
import Derived.Test.YtifddfchpknkbaaGreatDoorEf
import Derived.Test.YtifddfchpknkbaaGreatDoorRows
import Derived.Test.YtifddfchpknkbaaGreatDoorCards
import Derived.Test.YtifddfchpknkbaaGreatDoorTie
import Derived.Test.YtifddfchpknkbaaGreatDoorFaCells
import Derived.Lay
import Derived.SevenTiedAt
set_option linter.unusedVariables false
set_option linter.unusedSimpArgs false
namespace Go.Proofs.YtifddfchpknkbaaGreatDoor
open Go.ChangeShapes Go.WideShapes Go.ChangeAt Go.RowKit Go.Deep

theorem outlineCells_rows : RowsOk Tryz.prog Tryz.f16.params.toList := by
  have h : (Tryz.f16.params.toList.all fun t => Tryz.prog.readableRec t && decide (t < Tryz.prog.types.size)) = true := by kernel_rfl
  intro t ht
  have := List.all_eq_true.1 h t ht
  simpa using this
set_option maxRecDepth 100000 in
theorem outlineCells_lifted (os : Os) (started : os.Started) (H : Type) (enc : TypeId × Value → H) :
    ReturnsInHanded {} Tryz.checked os 16 .any (fun w args => (Rows.outlineCellsSpec.pre enc Tryz.prog Tryz.f16 [] false w args ∧ laidMetH Tryz.prog Rows.outlineCellsRow.laid w) ∧ sizedMet enc Tryz.prog Tryz.f16 (OpenSpec.ofChange Rows.outlineCellsSpec) false w args)
      (Rows.outlineCellsSpec.post enc Tryz.prog Tryz.f16 false true false false) := by
  refine law_lifted (C := Tryz.checked) (tb := 4) started law_own (by kernel_rfl) Tryz.func16 law_laidOut outlineCells_rows rfl Tryz.underlying4 rfl (fun ds hds => ?_)
    (ChangeSpec.witness_shaped (enc := enc) (C := Tryz.checked) (os := os) (X := fun w _ => laidMetH Tryz.prog Rows.outlineCellsRow.laid w) false (World.laidAll Tryz.prog os Rows.outlineCellsRow.laid) #[.agg #[.int .i64 0, .int .i64 0, .int .i64 0, .int .i64 0, .int .i64 0, .int .i64 0], .slice none 0 0, .agg #[.int .i64 0, .int .i64 0, .int .i64 0, .int .i64 0, .int .i64 0], .slice none 0 0] 8 (World.laidAll_os _ _ _)
      (World.shaped_of_ZipB (by kernel_rfl) (by kernel_rfl)) (by kernel_rfl) (by kernel_rfl) (by kernel_rfl)
      (by rw [MakeChecks.laidMetH_plain _ _ _ (by kernel_rfl)]; exact laidMet_laidAll _ (by kernel_rfl) (by kernel_rfl))) ?_
  · have hd : ds.length = 4 := hds
    match ds, hd with
    | [d0, d1, d2, d3], _ => rfl
  · intro W base args ds p hval hA hsh
    obtain ⟨m, hm⟩ := law_maxLen hsh
    have hA' : DataW.TrodAll enc Tryz.prog W 0 (fun _ => true) true [23, 51, 71, 87] args.toList ds p := hA
    have hval' : ∀ (j : Nat) t v, (#[23, 51, 71, 87] : Array TypeId)[j]? = some t → args[j]? = some v → Value.okWide Tryz.prog W .any base t v := hval
    clear hA hval hsh
    obtain ⟨v0, v1, v2, v3, d0, d1, d2, d3, p0, p1, p2, p3, rfl, rfl, t0, t1, t2, t3⟩ := law_four hA'
    obtain ⟨a, b, c, d, e, f, rfl⟩ := law_stage (hval' 0 23 v0 rfl rfl) t0
    obtain ⟨A, n, cap, fs, rfl, h1, h2, h3, h4⟩ := law_figs (hval' 1 51 v1 rfl rfl) t1
    obtain ⟨nl, nh, xl, xh, yy, rfl⟩ := law_reach (hval' 2 71 v2 rfl rfl) t2
    obtain ⟨CA, cn, ccap, cs, rfl, k1, k2, k3⟩ := law_ints (hval' 3 87 v3 rfl rfl) t3
    exact cells_law a b c d e f nl nh xl xh yy A n cap fs CA cn ccap cs m W hm h1 h2 h3 h4 k1 k2 k3
theorem outlineCells_holds : Rows.OutlineCellsSaid :=
  OpenClaim.holds_of_wide 16 Tryz.f16 rfl rfl rfl rfl rfl rfl rfl ⟨rfl, rfl, rfl, rfl, rfl⟩ rfl rfl rfl rfl rfl outlineCells_named Tryz.func16 outlineCells_facts
    outlineCells_inst (by unfold Func.isWrapper; first | (rw [if_pos (by decide +kernel)]; kernel_rfl) | (rw [if_neg (by decide +kernel)]; exact ⟨rfl, rfl⟩))
    (fun os started H enc _ => outlineCells_lifted os started H enc)
theorem outlineCells_card : Rows.OutlineCellsCardSaid :=
  Claim7.holds_tied_plain_at .later [] [.data, .data, .data, .data, .pinned] true (true, "188375153e538a273bbf9a43452e34ed21e238d1d16b7b2cbc2828c9f3e45cd0") true
    outlineCells_holds (fun _ h => by cases h) outlineCells_wf (fun _ h => by cases h) outlineCells_row_tie rfl ⟨rfl, rfl⟩ outlineCells_main rfl
    (fun f fn hf hfn => by
      obtain rfl : f = 16 := Option.some.inj (outlineCells_named.symm.trans hf) |>.symm
      obtain rfl : fn = Tryz.f16 := (Option.some.inj (Tryz.func16.symm.trans hfn)).symm
      exact ⟨outlineCells_looks, fun j t ht => by
        rw [Tryz.params16] at ht
        have hm : t ∈ [23, 51, 71, 87] := by simpa using Array.mem_of_getElem? ht
        have hall : ([23, 51, 71, 87].all fun u => !Tryz.prog.wantsStandIn u) = true := by kernel_rfl
        exact (show Tryz.prog.wantsStandIn t = false by simpa using List.all_eq_true.1 hall t hm)⟩)
    outlineCells_goes
#print axioms outlineCells_card
end Go.Proofs.YtifddfchpknkbaaGreatDoor
