/-
  OutlineMeeting (P1.1, P1.2): for every stage and two figures at two places the theorem of two shadows returns true, and its arguments read behind the call as before.
-/
import Derived.Test.YtifddfchpknkbaaGreatDoorLawKit
import Derived.Test.YtifddfchpknkbaaGreatDoorLawB
import Derived.Test.YtifddfchpknkbaaGreatDoorMb
import Derived.Test.YtifddfchpknkbaaGreatDoorRows
import Derived.Test.YtifddfchpknkbaaGreatDoorCards
import Derived.Test.YtifddfchpknkbaaGreatDoorTie
import Derived.Test.YtifddfchpknkbaaGreatDoorFaMeeting
import Derived.Lay
import Derived.SevenTiedAt
set_option linter.unusedVariables false
set_option linter.unusedSimpArgs false
namespace Go.Proofs.YtifddfchpknkbaaGreatDoor
open Go.ChangeShapes Go.WideShapes Go.ChangeAt Go.RowKit Go.Deep

theorem outlineMeeting_rows : RowsOk Tryz.prog Tryz.f7.params.toList := by
  have h : (Tryz.f7.params.toList.all fun t => Tryz.prog.readableRec t && decide (t < Tryz.prog.types.size)) = true := by kernel_rfl
  intro t ht
  have := List.all_eq_true.1 h t ht
  simpa using this
set_option maxRecDepth 100000 in
theorem outlineMeeting_lifted (os : Os) (started : os.Started) (H : Type) (enc : TypeId × Value → H) :
    ReturnsInHanded {} Tryz.checked os 7 .any (fun w args => (Rows.outlineMeetingSpec.pre enc Tryz.prog Tryz.f7 [] false w args ∧ laidMetH Tryz.prog Rows.outlineMeetingRow.laid w) ∧ sizedMet enc Tryz.prog Tryz.f7 (OpenSpec.ofChange Rows.outlineMeetingSpec) false w args)
      (Rows.outlineMeetingSpec.post enc Tryz.prog Tryz.f7 false true false false) := by
  refine law_lifted (C := Tryz.checked) (tb := 4) started law_own (by kernel_rfl) Tryz.func7 law_laidOut outlineMeeting_rows rfl Tryz.underlying4 rfl (fun ds hds => ?_)
    (ChangeSpec.witness_shaped (enc := enc) (C := Tryz.checked) (os := os) (X := fun w _ => laidMetH Tryz.prog Rows.outlineMeetingRow.laid w) false (World.laidAll Tryz.prog os Rows.outlineMeetingRow.laid) #[.agg #[.int .i64 0, .int .i64 0, .int .i64 0, .int .i64 0, .int .i64 0, .int .i64 0], .agg #[.slice none 0 0], .agg #[.int .i64 0, .int .i64 0, .int .i64 0], .agg #[.slice none 0 0], .agg #[.int .i64 0, .int .i64 0, .int .i64 0]] 8 (World.laidAll_os _ _ _)
      (World.shaped_of_ZipB (by kernel_rfl) (by kernel_rfl)) (by kernel_rfl) (by kernel_rfl) (by kernel_rfl)
      (by rw [MakeChecks.laidMetH_plain _ _ _ (by kernel_rfl)]; exact laidMet_laidAll _ (by kernel_rfl) (by kernel_rfl))) ?_
  · have hd : ds.length = 5 := hds
    match ds, hd with
    | [d0, d1, d2, d3, d4], _ => rfl
  · intro W base args ds p hval hA hsh
    obtain ⟨m, hm⟩ := law_maxLen hsh
    have hA' : DataW.TrodAll enc Tryz.prog W 0 (fun _ => true) true [23, 26, 28, 26, 28] args.toList ds p := hA
    have hval' : ∀ (j : Nat) t v, (#[23, 26, 28, 26, 28] : Array TypeId)[j]? = some t → args[j]? = some v → Value.okWide Tryz.prog W .any base t v := hval
    clear hA hval hsh
    obtain ⟨v0, v1, v2, v3, v4, d0, d1, d2, d3, d4, p0, p1, p2, p3, p4, rfl, rfl, t0, t1, t2, t3, t4⟩ := law_five hA'
    obtain ⟨a, b, c, d, e, f, rfl⟩ := law_stage (hval' 0 23 v0 rfl rfl) t0
    obtain ⟨x, rfl, A, n, cap, rows, rfl, h1, h2, h3, h4⟩ := law_figure (hval' 1 26 v1 rfl rfl) t1
    obtain ⟨g, h, i, rfl⟩ := law_place (hval' 2 28 v2 rfl rfl) t2
    obtain ⟨y, rfl, A2, n2, cap2, rows2, rfl, k1, k2, k3, k4⟩ := law_figure (hval' 3 26 v3 rfl rfl) t3
    obtain ⟨j, k, l, rfl⟩ := law_place (hval' 4 28 v4 rfl rfl) t4
    exact meeting_law a b c d e f g h i j k l A n cap rows A2 n2 cap2 rows2 m W hm h1 h2 h3 h4 k1 k2 k3 k4
theorem outlineMeeting_holds : Rows.OutlineMeetingSaid :=
  OpenClaim.holds_of_wide 7 Tryz.f7 rfl rfl rfl rfl rfl rfl rfl ⟨rfl, rfl, rfl, rfl, rfl⟩ rfl rfl rfl rfl rfl outlineMeeting_named Tryz.func7 outlineMeeting_facts
    outlineMeeting_inst (by unfold Func.isWrapper; first | (rw [if_pos (by decide +kernel)]; kernel_rfl) | (rw [if_neg (by decide +kernel)]; exact ⟨rfl, rfl⟩))
    (fun os started H enc _ => outlineMeeting_lifted os started H enc)
theorem outlineMeeting_card : Rows.OutlineMeetingCardSaid :=
  Claim7.holds_tied_plain_at .later [] [.data, .data, .data, .data, .pinned] true (true, "188375153e538a273bbf9a43452e34ed21e238d1d16b7b2cbc2828c9f3e45cd0") true
    outlineMeeting_holds (fun _ h => by cases h) outlineMeeting_wf (fun _ h => by cases h) outlineMeeting_row_tie rfl ⟨rfl, rfl⟩ outlineMeeting_main rfl
    (fun f fn hf hfn => by
      obtain rfl : f = 7 := Option.some.inj (outlineMeeting_named.symm.trans hf) |>.symm
      obtain rfl : fn = Tryz.f7 := (Option.some.inj (Tryz.func7.symm.trans hfn)).symm
      exact ⟨outlineMeeting_looks, fun j t ht => by
        rw [Tryz.params7] at ht
        have hm : t ∈ [23, 26, 28, 26, 28] := by simpa using Array.mem_of_getElem? ht
        have hall : ([23, 26, 28, 26, 28].all fun u => !Tryz.prog.wantsStandIn u) = true := by kernel_rfl
        exact (show Tryz.prog.wantsStandIn t = false by simpa using List.all_eq_true.1 hall t hm)⟩)
    outlineMeeting_goes
#print axioms outlineMeeting_card
end Go.Proofs.YtifddfchpknkbaaGreatDoor
