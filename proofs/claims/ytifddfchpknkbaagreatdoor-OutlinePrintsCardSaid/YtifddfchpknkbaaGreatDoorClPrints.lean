/-
  OutlinePrints (P1.8): for every book the code and the specification agree on its text or its error, and a text that is printed is read as the book again; the law returns true, and its argument reads behind the call as before.
-/
import Derived.Test.YtifddfchpknkbaaGreatDoorLawKit
import Derived.Test.YtifddfchpknkbaaGreatDoorLawB
import Derived.Test.YtifddfchpknkbaaGreatDoorLawT
import Derived.Test.YtifddfchpknkbaaGreatDoorVg
import Derived.Test.YtifddfchpknkbaaGreatDoorRows
import Derived.Test.YtifddfchpknkbaaGreatDoorCards
import Derived.Test.YtifddfchpknkbaaGreatDoorTie
import Derived.Test.YtifddfchpknkbaaGreatDoorFaPrints
import Derived.Lay
import Derived.SevenTiedAt
set_option linter.unusedVariables false
set_option linter.unusedSimpArgs false
namespace Go.Proofs.YtifddfchpknkbaaGreatDoor
open Go.ChangeShapes Go.WideShapes Go.ChangeAt Go.RowKit Go.Deep

theorem outlinePrints_rows : RowsOk Tryz.prog Tryz.f20.params.toList := by
  have h : (Tryz.f20.params.toList.all fun t => Tryz.prog.readableRec t && decide (t < Tryz.prog.types.size)) = true := by kernel_rfl
  intro t ht
  have := List.all_eq_true.1 h t ht
  simpa using this
set_option maxRecDepth 100000 in
theorem outlinePrints_lifted (os : Os) (started : os.Started) (H : Type) (enc : TypeId × Value → H) :
    ReturnsInHanded {} Tryz.checked os 20 .any (fun w args => (Rows.outlinePrintsSpec.pre enc Tryz.prog Tryz.f20 [] false w args ∧ laidMetH Tryz.prog Rows.outlinePrintsRow.laid w) ∧ sizedMet enc Tryz.prog Tryz.f20 (OpenSpec.ofChange Rows.outlinePrintsSpec) false w args)
      (Rows.outlinePrintsSpec.post enc Tryz.prog Tryz.f20 false true false false) := by
  refine law_lifted_laid (C := Tryz.checked) (tb := 4) started law_own (by kernel_rfl) Tryz.func20 law_laidOut outlinePrints_rows rfl Tryz.underlying4 rfl (fun ds hds => ?_)
    (ChangeSpec.witness_shaped (enc := enc) (C := Tryz.checked) (os := os) (X := fun w _ => laidMetH Tryz.prog Rows.outlinePrintsRow.laid w) false (World.laidAll Tryz.prog os Rows.outlinePrintsRow.laid) #[.agg #[.int .i64 0, .int .i64 0, .int .i64 0, .int .i64 0, .int .i64 0, .int .i64 0, .slice none 0 0]] 8 (World.laidAll_os _ _ _)
      (World.shaped_of_ZipB (by kernel_rfl) (by kernel_rfl)) (by kernel_rfl) (by kernel_rfl) (by kernel_rfl)
      (by rw [MakeChecks.laidMetH_plain _ _ _ (by kernel_rfl)]; exact laidMet_laidAll _ (by kernel_rfl) (by kernel_rfl))) ?_
  · have hd : ds.length = 1 := hds
    match ds, hd with
    | [d0], _ => rfl
  · intro W base args ds p hval hA hsh hlaid
    obtain ⟨m, hm⟩ := law_maxLen hsh
    obtain ⟨W0, hheap, hl0⟩ := hlaid
    rw [MakeChecks.laidMetH_plain _ _ _ (by kernel_rfl)] at hl0
    have hE : Env m W := ⟨hm, tabIs_heap (law_tab (laid_tail (laid_tail hl0))) hheap⟩
    clear hl0 hheap
    have hA' : DataW.TrodAll enc Tryz.prog W 0 (fun _ => true) true [121] args.toList ds p := hA
    have hval' : ∀ (j : Nat) t v, (#[121] : Array TypeId)[j]? = some t → args[j]? = some v → Value.okWide Tryz.prog W .any base t v := hval
    clear hA hval hsh
    obtain ⟨v0, r0, d0, e0, p0, q0, hargs, rfl, rfl, t0, h0⟩ := trodAll_cons hA'
    obtain ⟨rfl, rfl, rfl⟩ := trodAll_nil h0
    obtain rfl : args = #[v0] := by cases args; simp_all
    obtain ⟨a, b, c, d, e, f, A, n, cap, fs, rfl, h1, h2, h3, h4⟩ := law_book (hval' 0 121 v0 rfl rfl) t0
    exact prints_law a b c d e f A n cap fs m W hE h1 h2 h3 h4
theorem outlinePrints_holds : Rows.OutlinePrintsSaid :=
  OpenClaim.holds_of_wide 20 Tryz.f20 rfl rfl rfl rfl rfl rfl rfl ⟨rfl, rfl, rfl, rfl, rfl⟩ rfl rfl rfl rfl rfl outlinePrints_named Tryz.func20 outlinePrints_facts
    outlinePrints_inst (by unfold Func.isWrapper; first | (rw [if_pos (by decide +kernel)]; kernel_rfl) | (rw [if_neg (by decide +kernel)]; exact ⟨rfl, rfl⟩))
    (fun os started H enc _ => outlinePrints_lifted os started H enc)
theorem outlinePrints_card : Rows.OutlinePrintsCardSaid :=
  Claim7.holds_tied_plain_at .later [] [.data, .data, .data, .data, .pinned] true (true, "188375153e538a273bbf9a43452e34ed21e238d1d16b7b2cbc2828c9f3e45cd0") true
    outlinePrints_holds (fun _ h => by cases h) outlinePrints_wf (fun _ h => by cases h) outlinePrints_row_tie rfl ⟨rfl, rfl⟩ outlinePrints_main rfl
    (fun f fn hf hfn => by
      obtain rfl : f = 20 := Option.some.inj (outlinePrints_named.symm.trans hf) |>.symm
      obtain rfl : fn = Tryz.f20 := (Option.some.inj (Tryz.func20.symm.trans hfn)).symm
      exact ⟨outlinePrints_looks, fun j t ht => by
        rw [Tryz.params20] at ht
        have hm : t ∈ [121] := by simpa using Array.mem_of_getElem? ht
        have hall : ([121].all fun u => !Tryz.prog.wantsStandIn u) = true := by kernel_rfl
        exact (show Tryz.prog.wantsStandIn t = false by simpa using List.all_eq_true.1 hall t hm)⟩)
    outlinePrints_goes
#print axioms outlinePrints_card
end Go.Proofs.YtifddfchpknkbaaGreatDoor
