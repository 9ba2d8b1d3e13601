/-
  OutlineRays (P1.1): for every stage, figure and place, every cell and point within it, and every place of the flame, the theorem of rays returns true, and its arguments read behind the call as before.
-/
import Derived.Test.YtifddfchpknkbaaGreatDoorLawKit
import Derived.Test.YtifddfchpknkbaaGreatDoorLawNine
import Derived.Test.YtifddfchpknkbaaGreatDoorRg
import Derived.Test.YtifddfchpknkbaaGreatDoorRows
import Derived.Test.YtifddfchpknkbaaGreatDoorCards
import Derived.Test.YtifddfchpknkbaaGreatDoorTie
import Derived.Test.YtifddfchpknkbaaGreatDoorFaRays
import Derived.Lay
import Derived.SevenTiedAt
set_option linter.unusedVariables false
set_option linter.unusedSimpArgs false
namespace Go.Proofs.YtifddfchpknkbaaGreatDoor
open Go.ChangeShapes Go.WideShapes Go.ChangeAt Go.RowKit Go.Deep

theorem outlineRays_rows : RowsOk Tryz.prog Tryz.f4.params.toList := by
  have h : (Tryz.f4.params.toList.all fun t => Tryz.prog.readableRec t && decide (t < Tryz.prog.types.size)) = true := by kernel_rfl
  intro t ht
  have := List.all_eq_true.1 h t ht
  simpa using this
set_option maxRecDepth 100000 in
theorem outlineRays_lifted (os : Os) (started : os.Started) (H : Type) (enc : TypeId × Value → H) :
    ReturnsInHanded {} Tryz.checked os 4 .any (fun w args => (Rows.outlineRaysSpec.pre enc Tryz.prog Tryz.f4 [] false w args ∧ laidMetH Tryz.prog Rows.outlineRaysRow.laid w) ∧ sizedMet enc Tryz.prog Tryz.f4 (OpenSpec.ofChange Rows.outlineRaysSpec) false w args)
      (Rows.outlineRaysSpec.post enc Tryz.prog Tryz.f4 false true false false) := by
  refine law_lifted (C := Tryz.checked) (tb := 4) started law_own (by kernel_rfl) Tryz.func4 law_laidOut outlineRays_rows rfl Tryz.underlying4 rfl (fun ds hds => ?_)
    (ChangeSpec.witness_shaped (enc := enc) (C := Tryz.checked) (os := os) (X := fun w _ => laidMetH Tryz.prog Rows.outlineRaysRow.laid w) false (World.laidAll Tryz.prog os Rows.outlineRaysRow.laid) #[.agg #[.int .i64 0, .int .i64 0, .int .i64 0, .int .i64 0, .int .i64 0, .int .i64 0], .agg #[.slice none 0 0], .agg #[.int .i64 0, .int .i64 0, .int .i64 0], .int .i64 0, .int .i64 0, .int .i64 0, .int .i64 0, .int .i64 0, .int .i64 0] 8 (World.laidAll_os _ _ _)
      (World.shaped_of_ZipB (by kernel_rfl) (by kernel_rfl)) (by kernel_rfl) (by kernel_rfl) (by kernel_rfl)
      (by rw [MakeChecks.laidMetH_plain _ _ _ (by kernel_rfl)]; exact laidMet_laidAll _ (by kernel_rfl) (by kernel_rfl))) ?_
  · have hd : ds.length = 9 := hds
    match ds, hd with
    | [d0, d1, d2, d3, d4, d5, d6, d7, d8], _ => rfl
  · intro W base args ds p hval hA hsh
    obtain ⟨m, hm⟩ := law_maxLen hsh
    have hA' : DataW.TrodAll enc Tryz.prog W 0 (fun _ => true) true [23, 26, 28, 3, 3, 3, 3, 3, 3] args.toList ds p := hA
    have hval' : ∀ (j : Nat) t v, (#[23, 26, 28, 3, 3, 3, 3, 3, 3] : Array TypeId)[j]? = some t → args[j]? = some v → Value.okWide Tryz.prog W .any base t v := hval
    clear hA hval hsh
    obtain ⟨v0, v1, v2, v3, v4, v5, v6, v7, v8, d0, d1, d2, d3, d4, d5, d6, d7, d8, p0, p1, p2, p3, p4, p5, p6, p7, p8, rfl, rfl, t0, t1, t2, t3, t4, t5, t6, t7, t8⟩ := law_nine hA'
    obtain ⟨a, b, c, d, e, f, rfl⟩ := law_stage (hval' 0 23 v0 rfl rfl) t0
    obtain ⟨x, rfl, A, n, cap, rows, rfl, h1, h2, h3, h4⟩ := law_figure (hval' 1 26 v1 rfl rfl) t1
    obtain ⟨g, h, i, rfl⟩ := law_place (hval' 2 28 v2 rfl rfl) t2
    obtain ⟨k3, rfl, _, _⟩ := law_num (hval' 3 3 v3 rfl rfl) t3
    obtain ⟨k4, rfl, _, _⟩ := law_num (hval' 4 3 v4 rfl rfl) t4
    obtain ⟨k5, rfl, _, _⟩ := law_num (hval' 5 3 v5 rfl rfl) t5
    obtain ⟨k6, rfl, _, _⟩ := law_num (hval' 6 3 v6 rfl rfl) t6
    obtain ⟨k7, rfl, _, _⟩ := law_num (hval' 7 3 v7 rfl rfl) t7
    obtain ⟨k8, rfl, _, _⟩ := law_num (hval' 8 3 v8 rfl rfl) t8
    exact rays_law a b c d e f g h i k3 k4 k5 k6 k7 k8 A n cap rows m W hm h1 h2 h3 h4
theorem outlineRays_holds : Rows.OutlineRaysSaid :=
  OpenClaim.holds_of_wide 4 Tryz.f4 rfl rfl rfl rfl rfl rfl rfl ⟨rfl, rfl, rfl, rfl, rfl⟩ rfl rfl rfl rfl rfl outlineRays_named Tryz.func4 outlineRays_facts
    outlineRays_inst (by unfold Func.isWrapper; first | (rw [if_pos (by decide +kernel)]; kernel_rfl) | (rw [if_neg (by decide +kernel)]; exact ⟨rfl, rfl⟩))
    (fun os started H enc _ => outlineRays_lifted os started H enc)
theorem outlineRays_card : Rows.OutlineRaysCardSaid :=
  Claim7.holds_tied_plain_at .later [] [.data, .data, .data, .data, .pinned] true (true, "188375153e538a273bbf9a43452e34ed21e238d1d16b7b2cbc2828c9f3e45cd0") true
    outlineRays_holds (fun _ h => by cases h) outlineRays_wf (fun _ h => by cases h) outlineRays_row_tie rfl ⟨rfl, rfl⟩ outlineRays_main rfl
    (fun f fn hf hfn => by
      obtain rfl : f = 4 := Option.some.inj (outlineRays_named.symm.trans hf) |>.symm
      obtain rfl : fn = Tryz.f4 := (Option.some.inj (Tryz.func4.symm.trans hfn)).symm
      exact ⟨outlineRays_looks, fun j t ht => by
        rw [Tryz.params4] at ht
        have hm : t ∈ [23, 26, 28, 3, 3, 3, 3, 3, 3] := by simpa using Array.mem_of_getElem? ht
        have hall : ([23, 26, 28, 3, 3, 3, 3, 3, 3].all fun u => !Tryz.prog.wantsStandIn u) = true := by kernel_rfl
        exact (show Tryz.prog.wantsStandIn t = false by simpa using List.all_eq_true.1 hall t hm)⟩)
    outlineRays_goes
#print axioms outlineRays_card
end Go.Proofs.YtifddfchpknkbaaGreatDoor
