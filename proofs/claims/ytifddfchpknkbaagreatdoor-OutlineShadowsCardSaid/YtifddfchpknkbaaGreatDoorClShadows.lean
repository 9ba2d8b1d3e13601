/-
  OutlineShadows (P1.1, the theorem of stage 1): for every stage, figure and place the code and the specification agree on what is as defined, on the shadow, and on its dark and grey cells, or on the errors; the law returns true, and its arguments read behind the call as before.
-/
import Derived.Test.YtifddfchpknkbaaGreatDoorLawKit
import Derived.Test.YtifddfchpknkbaaGreatDoorHg
import Derived.Test.YtifddfchpknkbaaGreatDoorRows
import Derived.Test.YtifddfchpknkbaaGreatDoorCards
import Derived.Test.YtifddfchpknkbaaGreatDoorTie
import Derived.Test.YtifddfchpknkbaaGreatDoorFaShadows
import Derived.Lay
import Derived.SevenTiedAt
set_option linter.unusedVariables false
set_option linter.unusedSimpArgs false
namespace Go.Proofs.YtifddfchpknkbaaGreatDoor
open Go.ChangeShapes Go.WideShapes Go.ChangeAt Go.RowKit Go.Deep

theorem outlineShadows_rows : RowsOk Tryz.prog Tryz.f3.params.toList := by
  have h : (Tryz.f3.params.toList.all fun t => Tryz.prog.readableRec t && decide (t < Tryz.prog.types.size)) = true := by kernel_rfl
  intro t ht
  have := List.all_eq_true.1 h t ht
  simpa using this
set_option maxRecDepth 100000 in
theorem outlineShadows_lifted (os : Os) (started : os.Started) (H : Type) (enc : TypeId × Value → H) :
    ReturnsInHanded {} Tryz.checked os 3 .any (fun w args => (Rows.outlineShadowsSpec.pre enc Tryz.prog Tryz.f3 [] false w args ∧ laidMetH Tryz.prog Rows.outlineShadowsRow.laid w) ∧ sizedMet enc Tryz.prog Tryz.f3 (OpenSpec.ofChange Rows.outlineShadowsSpec) false w args)
      (Rows.outlineShadowsSpec.post enc Tryz.prog Tryz.f3 false true false false) := by
  refine law_lifted (C := Tryz.checked) (tb := 4) started law_own (by kernel_rfl) Tryz.func3 law_laidOut outlineShadows_rows rfl Tryz.underlying4 rfl (fun ds hds => ?_)
    (ChangeSpec.witness_shaped (enc := enc) (C := Tryz.checked) (os := os) (X := fun w _ => laidMetH Tryz.prog Rows.outlineShadowsRow.laid w) false (World.laidAll Tryz.prog os Rows.outlineShadowsRow.laid) #[.agg #[.int .i64 0, .int .i64 0, .int .i64 0, .int .i64 0, .int .i64 0, .int .i64 0], .agg #[.slice none 0 0], .agg #[.int .i64 0, .int .i64 0, .int .i64 0]] 8 (World.laidAll_os _ _ _)
      (World.shaped_of_ZipB (by kernel_rfl) (by kernel_rfl)) (by kernel_rfl) (by kernel_rfl) (by kernel_rfl)
      (by rw [MakeChecks.laidMetH_plain _ _ _ (by kernel_rfl)]; exact laidMet_laidAll _ (by kernel_rfl) (by kernel_rfl))) ?_
  · have hd : ds.length = 3 := hds
    match ds, hd with
    | [d0, d1, d2], _ => rfl
  · intro W base args ds p hval hA hsh
    obtain ⟨m, hm⟩ := law_maxLen hsh
    have hA' : DataW.TrodAll enc Tryz.prog W 0 (fun _ => true) true [23, 26, 28] args.toList ds p := hA
    have hval' : ∀ (j : Nat) t v, (#[23, 26, 28] : Array TypeId)[j]? = some t → args[j]? = some v → Value.okWide Tryz.prog W .any base t v := hval
    clear hA hval hsh
    obtain ⟨v0, v1, v2, d0, d1, d2, p0, p1, p2, rfl, rfl, rfl, t0, t1, t2⟩ := trodAll_three hA'
    obtain ⟨a, b, c, d, e, f, rfl⟩ := law_stage (hval' 0 23 v0 rfl rfl) t0
    obtain ⟨x, rfl, A, n, cap, rows, rfl, h1, h2, h3, h4⟩ := law_figure (hval' 1 26 v1 rfl rfl) t1
    obtain ⟨g, h, i, rfl⟩ := law_place (hval' 2 28 v2 rfl rfl) t2
    exact shadows_law a b c d e f g h i A n cap rows m W hm h1 h2 h3 h4
theorem outlineShadows_holds : Rows.OutlineShadowsSaid :=
  OpenClaim.holds_of_wide 3 Tryz.f3 rfl rfl rfl rfl rfl rfl rfl ⟨rfl, rfl, rfl, rfl, rfl⟩ rfl rfl rfl rfl rfl outlineShadows_named Tryz.func3 outlineShadows_facts
    outlineShadows_inst (by unfold Func.isWrapper; first | (rw [if_pos (by decide +kernel)]; kernel_rfl) | (rw [if_neg (by decide +kernel)]; exact ⟨rfl, rfl⟩))
    (fun os started H enc _ => outlineShadows_lifted os started H enc)
theorem outlineShadows_card : Rows.OutlineShadowsCardSaid :=
  Claim7.holds_tied_plain_at .later [] [.data, .data, .data, .data, .pinned] true (true, "188375153e538a273bbf9a43452e34ed21e238d1d16b7b2cbc2828c9f3e45cd0") true
    outlineShadows_holds (fun _ h => by cases h) outlineShadows_wf (fun _ h => by cases h) outlineShadows_row_tie rfl ⟨rfl, rfl⟩ outlineShadows_main rfl
    (fun f fn hf hfn => by
      obtain rfl : f = 3 := Option.some.inj (outlineShadows_named.symm.trans hf) |>.symm
      obtain rfl : fn = Tryz.f3 := (Option.some.inj (Tryz.func3.symm.trans hfn)).symm
      exact ⟨outlineShadows_looks, fun j t ht => by
        rw [Tryz.params3] at ht
        have hm : t ∈ [23, 26, 28] := by simpa using Array.mem_of_getElem? ht
        have hall : ([23, 26, 28].all fun u => !Tryz.prog.wantsStandIn u) = true := by kernel_rfl
        exact (show Tryz.prog.wantsStandIn t = false by simpa using List.all_eq_true.1 hall t hm)⟩)
    outlineShadows_goes
#print axioms outlineShadows_card
end Go.Proofs.YtifddfchpknkbaaGreatDoor
