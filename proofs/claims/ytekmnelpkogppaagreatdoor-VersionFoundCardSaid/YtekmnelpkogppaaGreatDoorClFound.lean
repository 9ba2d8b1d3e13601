/-
  VersionFound: for every book, proposed line that is found and further lost line the theorem of questions holds (a lost line is asked for, no more least texts are left than are told whatever is found, and no other lost line leaves fewer in the worst case, nor as many if it comes before); the law returns true, its arguments read as before. Condition: the listed tables are laid as in the text.
-/
import Derived.Test.YtekmnelpkogppaaGreatDoorXv0
import Derived.Test.YtekmnelpkogppaaGreatDoorRows
import Derived.Test.YtekmnelpkogppaaGreatDoorCards
import Derived.Test.YtekmnelpkogppaaGreatDoorTie
import Derived.Test.YtekmnelpkogppaaGreatDoorFaFound
import Derived.Lay
import Derived.Shelf.LaysM
import Derived.Shelf.Vars
import Derived.KernelRfl
import Derived.MakeChecks
import Derived.Lib.LaidTab
import Derived.SevenTiedAt
set_option linter.unusedVariables false
set_option linter.unusedSimpArgs false
namespace Go.Proofs.YtekmnelpkogppaaGreatDoor
open Go.ChangeShapes Go.WideShapes Go.ChangeAt Go.RowKit Go.Deep

set_option maxRecDepth 100000
open Go.Lib in
theorem law_pow10 : Rows.laid_internal_strconv_uint64pow10 = (tabData .u64 pow10Tab : DataW Unit) := by kernel_rfl
open Go.Lib in
theorem law_tab {W : World} {rest : List (String × DataW Unit)} (h : laidMet Tryz.prog (("internal/strconv.uint64pow10", Rows.laid_internal_strconv_uint64pow10) :: rest) W) : TabIs Tryz.prog W "internal/strconv.uint64pow10" .u64 pow10Tab := by
  rw [law_pow10] at h
  exact tabIs_of_head (g := 1) (t := 302) (by kernel_rfl) (by kernel_rfl) Tryz.underlying302 (by kernel_rfl) (by kernel_rfl) (by kernel_rfl) h
theorem versionFound_rows : RowsOk Tryz.prog Tryz.f14.params.toList := by
  have h : (Tryz.f14.params.toList.all fun t => Tryz.prog.readableRec t && decide (t < Tryz.prog.types.size)) = true := by kernel_rfl
  intro t ht
  have := List.all_eq_true.1 h t ht
  simpa using this
set_option maxRecDepth 100000 in
theorem versionFound_lifted (os : Os) (started : os.Started) (H : Type) (enc : TypeId × Value → H) :
    ReturnsInHanded {} Tryz.checked os 14 .any (fun w args => (Rows.versionFoundSpec.pre enc Tryz.prog Tryz.f14 [] false w args ∧ laidMetH Tryz.prog Rows.versionFoundRow.laid w) ∧ sizedMet enc Tryz.prog Tryz.f14 (OpenSpec.ofChange Rows.versionFoundSpec) false w args)
      (Rows.versionFoundSpec.post enc Tryz.prog Tryz.f14 false true false false) := by
  refine law_lifted_laid (C := Tryz.checked) (tb := 4) started law_own (by kernel_rfl) Tryz.func14 law_laidOut versionFound_rows rfl Tryz.underlying4 rfl (fun ds hds => ?_)
    (ChangeSpec.witness_shaped (enc := enc) (C := Tryz.checked) (os := os) (X := fun w _ => laidMetH Tryz.prog Rows.versionFoundRow.laid w) false (World.laidAll Tryz.prog os Rows.versionFoundRow.laid) #[.agg #[.int .i64 0, .slice none 0 0], .slice none 0 0, .int .i64 0, .int .i64 0] 8 (World.laidAll_os _ _ _)
      (World.shaped_of_ZipB (by kernel_rfl) (by kernel_rfl)) (by kernel_rfl) (by kernel_rfl) (by kernel_rfl)
      (by rw [MakeChecks.laidMetH_plain _ _ _ (by kernel_rfl)]; exact laidMet_laidAll _ (by kernel_rfl) (by kernel_rfl))) ?_
  · have hd : ds.length = 4 := hds
    match ds, hd with
    | [d0, d1, d2, d3], _ => rfl
  · intro W base args ds p hval hA hsh hlaid
    obtain ⟨m, hm⟩ := law_maxLen hsh
    obtain ⟨W0, hheap, hl0⟩ := hlaid
    rw [MakeChecks.laidMetH_plain _ _ _ (by kernel_rfl)] at hl0
    have hE : Env m W := ⟨hm, tabIs_heap (law_tab (laid_tail (laid_tail hl0))) hheap⟩
    clear hl0 hheap
    have hA' : DataW.TrodAll enc Tryz.prog W 0 (fun _ => true) true [24, 25, 3, 3] args.toList ds p := hA
    have hval' : ∀ (j : Nat) t v, (#[24, 25, 3, 3] : Array TypeId)[j]? = some t → args[j]? = some v → Value.okWide Tryz.prog W .any base t v := hval
    clear hA hval hsh
    obtain ⟨v0, v1, v2, v3, d0, d1, d2, d3, p0, p1, p2, p3, rfl, rfl, t0, t1, t2, t3⟩ := law_four hA'
    obtain ⟨WW, A, n, cap, cs, rfl, hb⟩ := law_book (hval' 0 24 v0 rfl rfl) t0
    obtain ⟨A1, n1, c1, l1, rfl, h1⟩ := law_ints (hval' 1 25 v1 rfl rfl) t1
    obtain ⟨p, rfl, p1, p2⟩ := law_num (hval' 2 3 v2 rfl rfl) t2
    obtain ⟨q, rfl, q1, q2⟩ := law_num (hval' 3 3 v3 rfl rfl) t3
    exact found_law WW A n cap cs A1 n1 c1 l1 p q m W hE hb h1 p1 p2 q1 q2
theorem versionFound_holds : Rows.VersionFoundSaid :=
  OpenClaim.holds_of_wide 14 Tryz.f14 rfl rfl rfl rfl rfl rfl rfl ⟨rfl, rfl, rfl, rfl, rfl⟩ rfl rfl rfl rfl rfl versionFound_named Tryz.func14 versionFound_facts
    versionFound_inst (by unfold Func.isWrapper; first | (rw [if_pos (by decide +kernel)]; kernel_rfl) | (rw [if_neg (by decide +kernel)]; exact ⟨rfl, rfl⟩))
    (fun os started H enc _ => versionFound_lifted os started H enc)
theorem versionFound_card : Rows.VersionFoundCardSaid :=
  Claim7.holds_tied_plain_at .later [] [.data, .data, .data, .data, .pinned] true (true, "1ee9e46f3b7107daa6d70c1e879d131c76b497259f03573c029c6f6310125314") true
    versionFound_holds (fun _ h => by cases h) versionFound_wf (fun _ h => by cases h) versionFound_row_tie rfl ⟨rfl, rfl⟩ versionFound_main rfl
    (fun f fn hf hfn => by
      obtain rfl : f = 14 := Option.some.inj (versionFound_named.symm.trans hf) |>.symm
      obtain rfl : fn = Tryz.f14 := (Option.some.inj (Tryz.func14.symm.trans hfn)).symm
      exact ⟨versionFound_looks, fun j t ht => by
        rw [Tryz.params14] at ht
        have hm : t ∈ [24, 25, 3, 3] := by simpa using Array.mem_of_getElem? ht
        have hall : ([24, 25, 3, 3].all fun u => !Tryz.prog.wantsStandIn u) = true := by kernel_rfl
        exact (show Tryz.prog.wantsStandIn t = false by simpa using List.all_eq_true.1 hall t hm)⟩)
    versionFound_goes
#print axioms versionFound_card
end Go.Proofs.YtekmnelpkogppaaGreatDoor
