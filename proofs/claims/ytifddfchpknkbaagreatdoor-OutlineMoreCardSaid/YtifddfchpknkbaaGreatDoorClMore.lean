/-
  OutlineMore (P1.4, P1.6, P1.9): for every stage, company, reach and sight, a cell more that is seen and a figure more, the law returns true, and its arguments read behind the call as before.
-/
import Derived.Test.YtifddfchpknkbaaGreatDoorLawKit
import Derived.Test.YtifddfchpknkbaaGreatDoorLawB
import Derived.Test.YtifddfchpknkbaaGreatDoorLawC
import Derived.Test.YtifddfchpknkbaaGreatDoorOz
import Derived.Test.YtifddfchpknkbaaGreatDoorRows
import Derived.Test.YtifddfchpknkbaaGreatDoorCards
import Derived.Test.YtifddfchpknkbaaGreatDoorTie
import Derived.Test.YtifddfchpknkbaaGreatDoorFaMore
import Derived.Lay
import Derived.SevenTiedAt
set_option linter.unusedVariables false
set_option linter.unusedSimpArgs false
namespace Go.Proofs.YtifddfchpknkbaaGreatDoor
open Go.ChangeShapes Go.WideShapes Go.ChangeAt Go.RowKit Go.Deep

theorem outlineMore_rows : RowsOk Tryz.prog Tryz.f19.params.toList := by
  have h : (Tryz.f19.params.toList.all fun t => Tryz.prog.readableRec t && decide (t < Tryz.prog.types.size)) = true := by kernel_rfl
  intro t ht
  have := List.all_eq_true.1 h t ht
  simpa using this
set_option maxRecDepth 100000 in
theorem outlineMore_lifted (os : Os) (started : os.Started) (H : Type) (enc : TypeId × Value → H) :
    ReturnsInHanded {} Tryz.checked os 19 .any (fun w args => (Rows.outlineMoreSpec.pre enc Tryz.prog Tryz.f19 [] false w args ∧ laidMetH Tryz.prog Rows.outlineMoreRow.laid w) ∧ sizedMet enc Tryz.prog Tryz.f19 (OpenSpec.ofChange Rows.outlineMoreSpec) false w args)
      (Rows.outlineMoreSpec.post enc Tryz.prog Tryz.f19 false true false false) := by
  refine law_lifted (C := Tryz.checked) (tb := 4) started law_own (by kernel_rfl) Tryz.func19 law_laidOut outlineMore_rows rfl Tryz.underlying4 rfl (fun ds hds => ?_)
    (ChangeSpec.witness_shaped (enc := enc) (C := Tryz.checked) (os := os) (X := fun w _ => laidMetH Tryz.prog Rows.outlineMoreRow.laid w) false (World.laidAll Tryz.prog os Rows.outlineMoreRow.laid) #[.agg #[.int .i64 0, .int .i64 0, .int .i64 0, .int .i64 0, .int .i64 0, .int .i64 0], .slice none 0 0, .agg #[.int .i64 0, .int .i64 0, .int .i64 0, .int .i64 0, .int .i64 0], .slice none 0 0, .int .i64 0, .bool false, .agg #[.slice none 0 0], .int .i64 0] 8 (World.laidAll_os _ _ _)
      (World.shaped_of_ZipB (by kernel_rfl) (by kernel_rfl)) (by kernel_rfl) (by kernel_rfl) (by kernel_rfl)
      (by rw [MakeChecks.laidMetH_plain _ _ _ (by kernel_rfl)]; exact laidMet_laidAll _ (by kernel_rfl) (by kernel_rfl))) ?_
  · have hd : ds.length = 8 := hds
    match ds, hd with
    | [d0, d1, d2, d3, d4, d5, d6, d7], _ => rfl
  · intro W base args ds p hval hA hsh
    obtain ⟨m, hm⟩ := law_maxLen hsh
    have hA' : DataW.TrodAll enc Tryz.prog W 0 (fun _ => true) true [23, 51, 71, 24, 3, 4, 26, 3] args.toList ds p := hA
    have hval' : ∀ (j : Nat) t v, (#[23, 51, 71, 24, 3, 4, 26, 3] : Array TypeId)[j]? = some t → args[j]? = some v → Value.okWide Tryz.prog W .any base t v := hval
    clear hA hval hsh
    obtain ⟨v0, v1, v2, v3, v4, v5, v6, v7, d0, d1, d2, d3, d4, d5, d6, d7, p0, p1, p2, p3, p4, p5, p6, p7, rfl, rfl, t0, t1, t2, t3, t4, t5, t6, t7⟩ := law_eight hA'
    obtain ⟨a, b, c, d, e, f, rfl⟩ := law_stage (hval' 0 23 v0 rfl rfl) t0
    obtain ⟨A, n, cap, fs, rfl, h1, h2, h3, h4⟩ := law_figs (hval' 1 51 v1 rfl rfl) t1
    obtain ⟨nl, nh, xl, xh, yy, rfl⟩ := law_reach (hval' 2 71 v2 rfl rfl) t2
    obtain ⟨SA, sn, scap, ss, rfl, k1, k2, k3, k4⟩ := law_strs (hval' 3 24 v3 rfl rfl) t3
    obtain ⟨x, rfl, _, _⟩ := law_num (hval' 4 3 v4 rfl rfl) t4
    obtain ⟨bb, rfl⟩ := law_bool (hval' 5 4 v5 rfl rfl) t5
    obtain ⟨zz, rfl, A2, n2, cap2, rows2, rfl, g1, g2, g3, g4⟩ := law_figure (hval' 6 26 v6 rfl rfl) t6
    obtain ⟨y, rfl, _, _⟩ := law_num (hval' 7 3 v7 rfl rfl) t7
    exact more_law a b c d e f nl nh xl xh yy x bb y A n cap fs SA sn scap ss A2 n2 cap2 rows2 m W hm h1 h2 h3 h4 k1 k2 k3 k4 g1 g2 g3 g4
theorem outlineMore_holds : Rows.OutlineMoreSaid :=
  OpenClaim.holds_of_wide 19 Tryz.f19 rfl rfl rfl rfl rfl rfl rfl ⟨rfl, rfl, rfl, rfl, rfl⟩ rfl rfl rfl rfl rfl outlineMore_named Tryz.func19 outlineMore_facts
    outlineMore_inst (by unfold Func.isWrapper; first | (rw [if_pos (by decide +kernel)]; kernel_rfl) | (rw [if_neg (by decide +kernel)]; exact ⟨rfl, rfl⟩))
    (fun os started H enc _ => outlineMore_lifted os started H enc)
theorem outlineMore_card : Rows.OutlineMoreCardSaid :=
  Claim7.holds_tied_plain_at .later [] [.data, .data, .data, .data, .pinned] true (true, "188375153e538a273bbf9a43452e34ed21e238d1d16b7b2cbc2828c9f3e45cd0") true
    outlineMore_holds (fun _ h => by cases h) outlineMore_wf (fun _ h => by cases h) outlineMore_row_tie rfl ⟨rfl, rfl⟩ outlineMore_main rfl
    (fun f fn hf hfn => by
      obtain rfl : f = 19 := Option.some.inj (outlineMore_named.symm.trans hf) |>.symm
      obtain rfl : fn = Tryz.f19 := (Option.some.inj (Tryz.func19.symm.trans hfn)).symm
      exact ⟨outlineMore_looks, fun j t ht => by
        rw [Tryz.params19] at ht
        have hm : t ∈ [23, 51, 71, 24, 3, 4, 26, 3] := by simpa using Array.mem_of_getElem? ht
        have hall : ([23, 51, 71, 24, 3, 4, 26, 3].all fun u => !Tryz.prog.wantsStandIn u) = true := by kernel_rfl
        exact (show Tryz.prog.wantsStandIn t = false by simpa using List.all_eq_true.1 hall t hm)⟩)
    outlineMore_goes
#print axioms outlineMore_card
end Go.Proofs.YtifddfchpknkbaaGreatDoor
