/-
  OutlineSelf (P1.1): for every stage and figure, and every place and way that it is moved by, the theorem of the cloth returns true, and its arguments read behind the call as before.
-/
import Derived.Test.YtifddfchpknkbaaGreatDoorLawKit
import Derived.Test.YtifddfchpknkbaaGreatDoorLawSix
import Derived.Test.YtifddfchpknkbaaGreatDoorSi
import Derived.Test.YtifddfchpknkbaaGreatDoorRows
import Derived.Test.YtifddfchpknkbaaGreatDoorCards
import Derived.Test.YtifddfchpknkbaaGreatDoorTie
import Derived.Test.YtifddfchpknkbaaGreatDoorFaSelf
import Derived.Lay
import Derived.SevenTiedAt
set_option linter.unusedVariables false
set_option linter.unusedSimpArgs false
namespace Go.Proofs.YtifddfchpknkbaaGreatDoor
open Go.ChangeShapes Go.WideShapes Go.ChangeAt Go.RowKit Go.Deep

theorem outlineSelf_rows : RowsOk Tryz.prog Tryz.f5.params.toList := by
  have h : (Tryz.f5.params.toList.all fun t => Tryz.prog.readableRec t && decide (t < Tryz.prog.types.size)) = true := by kernel_rfl
  intro t ht
  have := List.all_eq_true.1 h t ht
  simpa using this
set_option maxRecDepth 100000 in
theorem outlineSelf_lifted (os : Os) (started : os.Started) (H : Type) (enc : TypeId × Value → H) :
    ReturnsInHanded {} Tryz.checked os 5 .any (fun w args => (Rows.outlineSelfSpec.pre enc Tryz.prog Tryz.f5 [] false w args ∧ laidMetH Tryz.prog Rows.outlineSelfRow.laid w) ∧ sizedMet enc Tryz.prog Tryz.f5 (OpenSpec.ofChange Rows.outlineSelfSpec) false w args)
      (Rows.outlineSelfSpec.post enc Tryz.prog Tryz.f5 false true false false) := by
  refine law_lifted (C := Tryz.checked) (tb := 4) started law_own (by kernel_rfl) Tryz.func5 law_laidOut outlineSelf_rows rfl Tryz.underlying4 rfl (fun ds hds => ?_)
    (ChangeSpec.witness_shaped (enc := enc) (C := Tryz.checked) (os := os) (X := fun w _ => laidMetH Tryz.prog Rows.outlineSelfRow.laid w) false (World.laidAll Tryz.prog os Rows.outlineSelfRow.laid) #[.agg #[.int .i64 0, .int .i64 0, .int .i64 0, .int .i64 0, .int .i64 0, .int .i64 0], .agg #[.slice none 0 0], .int .i64 0, .int .i64 0, .int .i64 0, .int .i64 0] 8 (World.laidAll_os _ _ _)
      (World.shaped_of_ZipB (by kernel_rfl) (by kernel_rfl)) (by kernel_rfl) (by kernel_rfl) (by kernel_rfl)
      (by rw [MakeChecks.laidMetH_plain _ _ _ (by kernel_rfl)]; exact laidMet_laidAll _ (by kernel_rfl) (by kernel_rfl))) ?_
  · have hd : ds.length = 6 := hds
    match ds, hd with
    | [d0, d1, d2, d3, d4, d5], _ => rfl
  · intro W base args ds p hval hA hsh
    obtain ⟨m, hm⟩ := law_maxLen hsh
    have hA' : DataW.TrodAll enc Tryz.prog W 0 (fun _ => true) true [23, 26, 3, 3, 3, 3] args.toList ds p := hA
    have hval' : ∀ (j : Nat) t v, (#[23, 26, 3, 3, 3, 3] : Array TypeId)[j]? = some t → args[j]? = some v → Value.okWide Tryz.prog W .any base t v := hval
    clear hA hval hsh
    obtain ⟨v0, v1, v2, v3, v4, v5, d0, d1, d2, d3, d4, d5, p0, p1, p2, p3, p4, p5, rfl, rfl, t0, t1, t2, t3, t4, t5⟩ := law_six hA'
    obtain ⟨a, b, c, d, e, f, rfl⟩ := law_stage (hval' 0 23 v0 rfl rfl) t0
    obtain ⟨x, rfl, A, n, cap, rows, rfl, h1, h2, h3, h4⟩ := law_figure (hval' 1 26 v1 rfl rfl) t1
    obtain ⟨k2, rfl, _, _⟩ := law_num (hval' 2 3 v2 rfl rfl) t2
    obtain ⟨k3, rfl, _, _⟩ := law_num (hval' 3 3 v3 rfl rfl) t3
    obtain ⟨k4, rfl, _, _⟩ := law_num (hval' 4 3 v4 rfl rfl) t4
    obtain ⟨k5, rfl, _, _⟩ := law_num (hval' 5 3 v5 rfl rfl) t5
    exact self_law a b c d e f k2 k3 k4 k5 A n cap rows m W hm h1 h2 h3 h4
theorem outlineSelf_holds : Rows.OutlineSelfSaid :=
  OpenClaim.holds_of_wide 5 Tryz.f5 rfl rfl rfl rfl rfl rfl rfl ⟨rfl, rfl, rfl, rfl, rfl⟩ rfl rfl rfl rfl rfl outlineSelf_named Tryz.func5 outlineSelf_facts
    outlineSelf_inst (by unfold Func.isWrapper; first | (rw [if_pos (by decide +kernel)]; kernel_rfl) | (rw [if_neg (by decide +kernel)]; exact ⟨rfl, rfl⟩))
    (fun os started H enc _ => outlineSelf_lifted os started H enc)
theorem outlineSelf_card : Rows.OutlineSelfCardSaid :=
  Claim7.holds_tied_plain_at .later [] [.data, .data, .data, .data, .pinned] true (true, "188375153e538a273bbf9a43452e34ed21e238d1d16b7b2cbc2828c9f3e45cd0") true
    outlineSelf_holds (fun _ h => by cases h) outlineSelf_wf (fun _ h => by cases h) outlineSelf_row_tie rfl ⟨rfl, rfl⟩ outlineSelf_main rfl
    (fun f fn hf hfn => by
      obtain rfl : f = 5 := Option.some.inj (outlineSelf_named.symm.trans hf) |>.symm
      obtain rfl : fn = Tryz.f5 := (Option.some.inj (Tryz.func5.symm.trans hfn)).symm
      exact ⟨outlineSelf_looks, fun j t ht => by
        rw [Tryz.params5] at ht
        have hm : t ∈ [23, 26, 3, 3, 3, 3] := by simpa using Array.mem_of_getElem? ht
        have hall : ([23, 26, 3, 3, 3, 3].all fun u => !Tryz.prog.wantsStandIn u) = true := by kernel_rfl
        exact (show Tryz.prog.wantsStandIn t = false by simpa using List.all_eq_true.1 hall t hm)⟩)
    outlineSelf_goes
#print axioms outlineSelf_card
end Go.Proofs.YtifddfchpknkbaaGreatDoor
