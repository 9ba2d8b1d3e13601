/-
  VersionMore: for every book, number of a line and line of one copy more the theorem of one copy more holds (the changes of the least lines grow by no more than it has to one of them, never shrink, and a least line that is written once more is the only one); the law returns true, its arguments read as before. Condition: the listed tables are laid as in the text.
-/
import Derived.Test.YtekmnelpkogppaaGreatDoorXy0
import Derived.Test.YtekmnelpkogppaaGreatDoorRows
import Derived.Test.YtekmnelpkogppaaGreatDoorCards
import Derived.Test.YtekmnelpkogppaaGreatDoorTie
import Derived.Test.YtekmnelpkogppaaGreatDoorFaMore
import Derived.Lay
import Derived.Shelf.LaysM
import Derived.Shelf.Vars
import Derived.KernelRfl
import Derived.MakeChecks
import Derived.Lib.LaidTab
import Derived.SevenTiedAt
set_option linter.unusedVariables false
set_option linter.unusedSimpArgs false
namespace Go.Proofs.YtekmnelpkogppaaGreatDoor
open Go.ChangeShapes Go.WideShapes Go.ChangeAt Go.RowKit Go.Deep

set_option maxRecDepth 100000
open Go.Lib in
theorem law_pow10 : Rows.laid_internal_strconv_uint64pow10 = (tabData .u64 pow10Tab : DataW Unit) := by kernel_rfl
open Go.Lib in
theorem law_tab {W : World} {rest : List (String × DataW Unit)} (h : laidMet Tryz.prog (("internal/strconv.uint64pow10", Rows.laid_internal_strconv_uint64pow10) :: rest) W) : TabIs Tryz.prog W "internal/strconv.uint64pow10" .u64 pow10Tab := by
  rw [law_pow10] at h
  exact tabIs_of_head (g := 1) (t := 302) (by kernel_rfl) (by kernel_rfl) Tryz.underlying302 (by kernel_rfl) (by kernel_rfl) (by kernel_rfl) h
theorem versionMore_rows : RowsOk Tryz.prog Tryz.f19.params.toList := by
  have h : (Tryz.f19.params.toList.all fun t => Tryz.prog.readableRec t && decide (t < Tryz.prog.types.size)) = true := by kernel_rfl
  intro t ht
  have := List.all_eq_true.1 h t ht
  simpa using this
set_option maxRecDepth 100000 in
theorem versionMore_lifted (os : Os) (started : os.Started) (H : Type) (enc : TypeId × Value → H) :
    ReturnsInHanded {} Tryz.checked os 19 .any (fun w args => (Rows.versionMoreSpec.pre enc Tryz.prog Tryz.f19 [] false w args ∧ laidMetH Tryz.prog Rows.versionMoreRow.laid w) ∧ sizedMet enc Tryz.prog Tryz.f19 (OpenSpec.ofChange Rows.versionMoreSpec) false w args)
      (Rows.versionMoreSpec.post enc Tryz.prog Tryz.f19 false true false false) := by
  refine law_lifted_laid (C := Tryz.checked) (tb := 4) started law_own (by kernel_rfl) Tryz.func19 law_laidOut versionMore_rows rfl Tryz.underlying4 rfl (fun ds hds => ?_)
    (ChangeSpec.witness_shaped (enc := enc) (C := Tryz.checked) (os := os) (X := fun w _ => laidMetH Tryz.prog Rows.versionMoreRow.laid w) false (World.laidAll Tryz.prog os Rows.versionMoreRow.laid) #[.agg #[.int .i64 0, .slice none 0 0], .int .i64 0, .slice none 0 0] 8 (World.laidAll_os _ _ _)
      (World.shaped_of_ZipB (by kernel_rfl) (by kernel_rfl)) (by kernel_rfl) (by kernel_rfl) (by kernel_rfl)
      (by rw [MakeChecks.laidMetH_plain _ _ _ (by kernel_rfl)]; exact laidMet_laidAll _ (by kernel_rfl) (by kernel_rfl))) ?_
  · have hd : ds.length = 3 := hds
    match ds, hd with
    | [d0, d1, d2], _ => rfl
  · intro W base args ds p hval hA hsh hlaid
    obtain ⟨m, hm⟩ := law_maxLen hsh
    obtain ⟨W0, hheap, hl0⟩ := hlaid
    rw [MakeChecks.laidMetH_plain _ _ _ (by kernel_rfl)] at hl0
    have hE : Env m W := ⟨hm, tabIs_heap (law_tab (laid_tail (laid_tail hl0))) hheap⟩
    clear hl0 hheap
    have hA' : DataW.TrodAll enc Tryz.prog W 0 (fun _ => true) true [24, 3, 25] args.toList ds p := hA
    have hval' : ∀ (j : Nat) t v, (#[24, 3, 25] : Array TypeId)[j]? = some t → args[j]? = some v → Value.okWide Tryz.prog W .any base t v := hval
    clear hA hval hsh
    obtain ⟨v0, v1, v2, d0, d1, d2, p0, p1, p2, rfl, rfl, rfl, t0, t1, t2⟩ := trodAll_three hA'
    obtain ⟨WW, A, n, cap, cs, rfl, hb⟩ := law_book (hval' 0 24 v0 rfl rfl) t0
    obtain ⟨q, rfl, q1, q2⟩ := law_num (hval' 1 3 v1 rfl rfl) t1
    obtain ⟨A1, n1, c1, l1, rfl, h1⟩ := law_ints (hval' 2 25 v2 rfl rfl) t2
    exact more_law WW A n cap cs q A1 n1 c1 l1 m W hE hb q1 q2 h1
theorem versionMore_holds : Rows.VersionMoreSaid :=
  OpenClaim.holds_of_wide 19 Tryz.f19 rfl rfl rfl rfl rfl rfl rfl ⟨rfl, rfl, rfl, rfl, rfl⟩ rfl rfl rfl rfl rfl versionMore_named Tryz.func19 versionMore_facts
    versionMore_inst (by unfold Func.isWrapper; first | (rw [if_pos (by decide +kernel)]; kernel_rfl) | (rw [if_neg (by decide +kernel)]; exact ⟨rfl, rfl⟩))
    (fun os started H enc _ => versionMore_lifted os started H enc)
theorem versionMore_card : Rows.VersionMoreCardSaid :=
  Claim7.holds_tied_plain_at .later [] [.data, .data, .data, .data, .pinned] true (true, "1ee9e46f3b7107daa6d70c1e879d131c76b497259f03573c029c6f6310125314") true
    versionMore_holds (fun _ h => by cases h) versionMore_wf (fun _ h => by cases h) versionMore_row_tie rfl ⟨rfl, rfl⟩ versionMore_main rfl
    (fun f fn hf hfn => by
      obtain rfl : f = 19 := Option.some.inj (versionMore_named.symm.trans hf) |>.symm
      obtain rfl : fn = Tryz.f19 := (Option.some.inj (Tryz.func19.symm.trans hfn)).symm
      exact ⟨versionMore_looks, fun j t ht => by
        rw [Tryz.params19] at ht
        have hm : t ∈ [24, 3, 25] := by simpa using Array.mem_of_getElem? ht
        have hall : ([24, 3, 25].all fun u => !Tryz.prog.wantsStandIn u) = true := by kernel_rfl
        exact (show Tryz.prog.wantsStandIn t = false by simpa using List.all_eq_true.1 hall t hm)⟩)
    versionMore_goes
#print axioms versionMore_card
end Go.Proofs.YtekmnelpkogppaaGreatDoor
