/-
  OutlineSpoilt (P1.8, the theorem of checks): for every book, place and digit, a text of the book of which the digit at the place was changed to the other one is never read; the law returns true, and its arguments read behind the call as before.
-/
import Derived.Test.YtifddfchpknkbaaGreatDoorLawKit
import Derived.Test.YtifddfchpknkbaaGreatDoorLawB
import Derived.Test.YtifddfchpknkbaaGreatDoorLawT
import Derived.Test.YtifddfchpknkbaaGreatDoorXi
import Derived.Test.YtifddfchpknkbaaGreatDoorRows
import Derived.Test.YtifddfchpknkbaaGreatDoorCards
import Derived.Test.YtifddfchpknkbaaGreatDoorTie
import Derived.Test.YtifddfchpknkbaaGreatDoorFaSpoilt
import Derived.Lay
import Derived.SevenTiedAt
set_option linter.unusedVariables false
set_option linter.unusedSimpArgs false
namespace Go.Proofs.YtifddfchpknkbaaGreatDoor
open Go.ChangeShapes Go.WideShapes Go.ChangeAt Go.RowKit Go.Deep

theorem outlineSpoilt_rows : RowsOk Tryz.prog Tryz.f22.params.toList := by
  have h : (Tryz.f22.params.toList.all fun t => Tryz.prog.readableRec t && decide (t < Tryz.prog.types.size)) = true := by kernel_rfl
  intro t ht
  have := List.all_eq_true.1 h t ht
  simpa using this
set_option maxRecDepth 100000 in
theorem outlineSpoilt_lifted (os : Os) (started : os.Started) (H : Type) (enc : TypeId × Value → H) :
    ReturnsInHanded {} Tryz.checked os 22 .any (fun w args => (Rows.outlineSpoiltSpec.pre enc Tryz.prog Tryz.f22 [] false w args ∧ laidMetH Tryz.prog Rows.outlineSpoiltRow.laid w) ∧ sizedMet enc Tryz.prog Tryz.f22 (OpenSpec.ofChange Rows.outlineSpoiltSpec) false w args)
      (Rows.outlineSpoiltSpec.post enc Tryz.prog Tryz.f22 false true false false) := by
  refine law_lifted_laid (C := Tryz.checked) (tb := 4) started law_own (by kernel_rfl) Tryz.func22 law_laidOut outlineSpoilt_rows rfl Tryz.underlying4 rfl (fun ds hds => ?_)
    (ChangeSpec.witness_shaped (enc := enc) (C := Tryz.checked) (os := os) (X := fun w _ => laidMetH Tryz.prog Rows.outlineSpoiltRow.laid w) false (World.laidAll Tryz.prog os Rows.outlineSpoiltRow.laid) #[.agg #[.int .i64 0, .int .i64 0, .int .i64 0, .int .i64 0, .int .i64 0, .int .i64 0, .slice none 0 0], .int .i64 0, .int .i64 0] 8 (World.laidAll_os _ _ _)
      (World.shaped_of_ZipB (by kernel_rfl) (by kernel_rfl)) (by kernel_rfl) (by kernel_rfl) (by kernel_rfl)
      (by rw [MakeChecks.laidMetH_plain _ _ _ (by kernel_rfl)]; exact laidMet_laidAll _ (by kernel_rfl) (by kernel_rfl))) ?_
  · have hd : ds.length = 3 := hds
    match ds, hd with
    | [d0, d1, d2], _ => rfl
  · intro W base args ds p hval hA hsh hlaid
    obtain ⟨m, hm⟩ := law_maxLen hsh
    obtain ⟨W0, hheap, hl0⟩ := hlaid
    rw [MakeChecks.laidMetH_plain _ _ _ (by kernel_rfl)] at hl0
    have hE : Env m W := ⟨hm, tabIs_heap (law_tab (laid_tail (laid_tail hl0))) hheap⟩
    clear hl0 hheap
    have hA' : DataW.TrodAll enc Tryz.prog W 0 (fun _ => true) true [121, 3, 3] args.toList ds p := hA
    have hval' : ∀ (j : Nat) t v, (#[121, 3, 3] : Array TypeId)[j]? = some t → args[j]? = some v → Value.okWide Tryz.prog W .any base t v := hval
    clear hA hval hsh
    obtain ⟨v0, v1, v2, d0, d1, d2, p0, p1, p2, rfl, rfl, rfl, t0, t1, t2⟩ := trodAll_three hA'
    obtain ⟨a, b, c, d, e, f, A, n, cap, fs, rfl, h1, h2, h3, h4⟩ := law_book (hval' 0 121 v0 rfl rfl) t0
    obtain ⟨x, rfl, x1, x2⟩ := law_num (hval' 1 3 v1 rfl rfl) t1
    obtain ⟨y, rfl, y1, y2⟩ := law_num (hval' 2 3 v2 rfl rfl) t2
    exact spoilt_law a b c d e f x y A n cap fs m W hE h1 h2 h3 h4 x1 x2
theorem outlineSpoilt_holds : Rows.OutlineSpoiltSaid :=
  OpenClaim.holds_of_wide 22 Tryz.f22 rfl rfl rfl rfl rfl rfl rfl ⟨rfl, rfl, rfl, rfl, rfl⟩ rfl rfl rfl rfl rfl outlineSpoilt_named Tryz.func22 outlineSpoilt_facts
    outlineSpoilt_inst (by unfold Func.isWrapper; first | (rw [if_pos (by decide +kernel)]; kernel_rfl) | (rw [if_neg (by decide +kernel)]; exact ⟨rfl, rfl⟩))
    (fun os started H enc _ => outlineSpoilt_lifted os started H enc)
theorem outlineSpoilt_card : Rows.OutlineSpoiltCardSaid :=
  Claim7.holds_tied_plain_at .later [] [.data, .data, .data, .data, .pinned] true (true, "188375153e538a273bbf9a43452e34ed21e238d1d16b7b2cbc2828c9f3e45cd0") true
    outlineSpoilt_holds (fun _ h => by cases h) outlineSpoilt_wf (fun _ h => by cases h) outlineSpoilt_row_tie rfl ⟨rfl, rfl⟩ outlineSpoilt_main rfl
    (fun f fn hf hfn => by
      obtain rfl : f = 22 := Option.some.inj (outlineSpoilt_named.symm.trans hf) |>.symm
      obtain rfl : fn = Tryz.f22 := (Option.some.inj (Tryz.func22.symm.trans hfn)).symm
      exact ⟨outlineSpoilt_looks, fun j t ht => by
        rw [Tryz.params22] at ht
        have hm : t ∈ [121, 3, 3] := by simpa using Array.mem_of_getElem? ht
        have hall : ([121, 3, 3].all fun u => !Tryz.prog.wantsStandIn u) = true := by kernel_rfl
        exact (show Tryz.prog.wantsStandIn t = false by simpa using List.all_eq_true.1 hall t hm)⟩)
    outlineSpoilt_goes
#print axioms outlineSpoilt_card
end Go.Proofs.YtifddfchpknkbaaGreatDoor
