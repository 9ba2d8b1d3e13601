/-
  OutlineFlames (P1.1, P1.2, P1.3, P1.9): for every stage, two figures at two places, and a number, the theorem of flames returns true, and its arguments read behind the call as before.
-/
import Derived.Test.YtifddfchpknkbaaGreatDoorLawKit
import Derived.Test.YtifddfchpknkbaaGreatDoorLawSix
import Derived.Test.YtifddfchpknkbaaGreatDoorFt
import Derived.Test.YtifddfchpknkbaaGreatDoorRows
import Derived.Test.YtifddfchpknkbaaGreatDoorCards
import Derived.Test.YtifddfchpknkbaaGreatDoorTie
import Derived.Test.YtifddfchpknkbaaGreatDoorFaFlames
import Derived.Lay
import Derived.SevenTiedAt
set_option linter.unusedVariables false
set_option linter.unusedSimpArgs false
namespace Go.Proofs.YtifddfchpknkbaaGreatDoor
open Go.ChangeShapes Go.WideShapes Go.ChangeAt Go.RowKit Go.Deep

theorem outlineFlames_rows : RowsOk Tryz.prog Tryz.f18.params.toList := by
  have h : (Tryz.f18.params.toList.all fun t => Tryz.prog.readableRec t && decide (t < Tryz.prog.types.size)) = true := by kernel_rfl
  intro t ht
  have := List.all_eq_true.1 h t ht
  simpa using this
set_option maxRecDepth 100000 in
theorem outlineFlames_lifted (os : Os) (started : os.Started) (H : Type) (enc : TypeId × Value → H) :
    ReturnsInHanded {} Tryz.checked os 18 .any (fun w args => (Rows.outlineFlamesSpec.pre enc Tryz.prog Tryz.f18 [] false w args ∧ laidMetH Tryz.prog Rows.outlineFlamesRow.laid w) ∧ sizedMet enc Tryz.prog Tryz.f18 (OpenSpec.ofChange Rows.outlineFlamesSpec) false w args)
      (Rows.outlineFlamesSpec.post enc Tryz.prog Tryz.f18 false true false false) := by
  refine law_lifted (C := Tryz.checked) (tb := 4) started law_own (by kernel_rfl) Tryz.func18 law_laidOut outlineFlames_rows rfl Tryz.underlying4 rfl (fun ds hds => ?_)
    (ChangeSpec.witness_shaped (enc := enc) (C := Tryz.checked) (os := os) (X := fun w _ => laidMetH Tryz.prog Rows.outlineFlamesRow.laid w) false (World.laidAll Tryz.prog os Rows.outlineFlamesRow.laid) #[.agg #[.int .i64 0, .int .i64 0, .int .i64 0, .int .i64 0, .int .i64 0, .int .i64 0], .agg #[.slice none 0 0], .agg #[.int .i64 0, .int .i64 0, .int .i64 0], .agg #[.slice none 0 0], .agg #[.int .i64 0, .int .i64 0, .int .i64 0], .int .i64 0] 8 (World.laidAll_os _ _ _)
      (World.shaped_of_ZipB (by kernel_rfl) (by kernel_rfl)) (by kernel_rfl) (by kernel_rfl) (by kernel_rfl)
      (by rw [MakeChecks.laidMetH_plain _ _ _ (by kernel_rfl)]; exact laidMet_laidAll _ (by kernel_rfl) (by kernel_rfl))) ?_
  · have hd : ds.length = 6 := hds
    match ds, hd with
    | [d0, d1, d2, d3, d4, d5], _ => rfl
  · intro W base args ds p hval hA hsh
    obtain ⟨m, hm⟩ := law_maxLen hsh
    have hA' : DataW.TrodAll enc Tryz.prog W 0 (fun _ => true) true [23, 26, 28, 26, 28, 3] args.toList ds p := hA
    have hval' : ∀ (j : Nat) t v, (#[23, 26, 28, 26, 28, 3] : Array TypeId)[j]? = some t → args[j]? = some v → Value.okWide Tryz.prog W .any base t v := hval
    clear hA hval hsh
    obtain ⟨v0, v1, v2, v3, v4, v5, d0, d1, d2, d3, d4, d5, p0, p1, p2, p3, p4, p5, rfl, rfl, t0, t1, t2, t3, t4, t5⟩ := law_six hA'
    obtain ⟨a, b, c, d, e, f, rfl⟩ := law_stage (hval' 0 23 v0 rfl rfl) t0
    obtain ⟨x, rfl, A, n, cap, rows, rfl, h1, h2, h3, h4⟩ := law_figure (hval' 1 26 v1 rfl rfl) t1
    obtain ⟨g, h, i, rfl⟩ := law_place (hval' 2 28 v2 rfl rfl) t2
    obtain ⟨y, rfl, A2, n2, cap2, rows2, rfl, k1, k2, k3, k4⟩ := law_figure (hval' 3 26 v3 rfl rfl) t3
    obtain ⟨j, k, l, rfl⟩ := law_place (hval' 4 28 v4 rfl rfl) t4
    obtain ⟨q, rfl, _, _⟩ := law_num (hval' 5 3 v5 rfl rfl) t5
    exact flames_law a b c d e f g h i j k l q A n cap rows A2 n2 cap2 rows2 m W hm h1 h2 h3 h4 k1 k2 k3 k4
theorem outlineFlames_holds : Rows.OutlineFlamesSaid :=
  OpenClaim.holds_of_wide 18 Tryz.f18 rfl rfl rfl rfl rfl rfl rfl ⟨rfl, rfl, rfl, rfl, rfl⟩ rfl rfl rfl rfl rfl outlineFlames_named Tryz.func18 outlineFlames_facts
    outlineFlames_inst (by unfold Func.isWrapper; first | (rw [if_pos (by decide +kernel)]; kernel_rfl) | (rw [if_neg (by decide +kernel)]; exact ⟨rfl, rfl⟩))
    (fun os started H enc _ => outlineFlames_lifted os started H enc)
theorem outlineFlames_card : Rows.OutlineFlamesCardSaid :=
  Claim7.holds_tied_plain_at .later [] [.data, .data, .data, .data, .pinned] true (true, "188375153e538a273bbf9a43452e34ed21e238d1d16b7b2cbc2828c9f3e45cd0") true
    outlineFlames_holds (fun _ h => by cases h) outlineFlames_wf (fun _ h => by cases h) outlineFlames_row_tie rfl ⟨rfl, rfl⟩ outlineFlames_main rfl
    (fun f fn hf hfn => by
      obtain rfl : f = 18 := Option.some.inj (outlineFlames_named.symm.trans hf) |>.symm
      obtain rfl : fn = Tryz.f18 := (Option.some.inj (Tryz.func18.symm.trans hfn)).symm
      exact ⟨outlineFlames_looks, fun j t ht => by
        rw [Tryz.params18] at ht
        have hm : t ∈ [23, 26, 28, 26, 28, 3] := by simpa using Array.mem_of_getElem? ht
        have hall : ([23, 26, 28, 26, 28, 3].all fun u => !Tryz.prog.wantsStandIn u) = true := by kernel_rfl
        exact (show Tryz.prog.wantsStandIn t = false by simpa using List.all_eq_true.1 hall t hm)⟩)
    outlineFlames_goes
#print axioms outlineFlames_card
end Go.Proofs.YtifddfchpknkbaaGreatDoor
