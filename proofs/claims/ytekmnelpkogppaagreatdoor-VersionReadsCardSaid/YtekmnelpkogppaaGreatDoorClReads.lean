/-
  VersionReads: for every string of at most 500 bytes the code and the specification agree on which book it is the text of, or on the error, and what is read is written the same; the law returns true, its argument read as before. Condition: the listed tables are laid as in the text.
-/
import Derived.Test.YtekmnelpkogppaaGreatDoorXz1
import Derived.Test.YtekmnelpkogppaaGreatDoorRows
import Derived.Test.YtekmnelpkogppaaGreatDoorCards
import Derived.Test.YtekmnelpkogppaaGreatDoorTie
import Derived.Test.YtekmnelpkogppaaGreatDoorFaReads
import Derived.Lay
import Derived.Shelf.LaysM
import Derived.Shelf.Vars
import Derived.KernelRfl
import Derived.MakeChecks
import Derived.Lib.LaidTab
import Derived.SevenTiedAt
set_option linter.unusedVariables false
set_option linter.unusedSimpArgs false
namespace Go.Proofs.YtekmnelpkogppaaGreatDoor
open Go.ChangeShapes Go.WideShapes Go.ChangeAt Go.RowKit Go.Deep

set_option maxRecDepth 100000
open Go.Lib in
theorem law_pow10 : Rows.laid_internal_strconv_uint64pow10 = (tabData .u64 pow10Tab : DataW Unit) := by kernel_rfl
open Go.Lib in
theorem law_tab {W : World} {rest : List (String × DataW Unit)} (h : laidMet Tryz.prog (("internal/strconv.uint64pow10", Rows.laid_internal_strconv_uint64pow10) :: rest) W) : TabIs Tryz.prog W "internal/strconv.uint64pow10" .u64 pow10Tab := by
  rw [law_pow10] at h
  exact tabIs_of_head (g := 1) (t := 302) (by kernel_rfl) (by kernel_rfl) Tryz.underlying302 (by kernel_rfl) (by kernel_rfl) (by kernel_rfl) h
theorem versionReads_rows : RowsOk Tryz.prog Tryz.f21.params.toList := by
  have h : (Tryz.f21.params.toList.all fun t => Tryz.prog.readableRec t && decide (t < Tryz.prog.types.size)) = true := by kernel_rfl
  intro t ht
  have := List.all_eq_true.1 h t ht
  simpa using this
set_option maxRecDepth 100000 in
theorem versionReads_lifted (os : Os) (started : os.Started) (H : Type) (enc : TypeId × Value → H) :
    ReturnsInHanded {} Tryz.checked os 21 .any (fun w args => (Rows.versionReadsSpec.pre enc Tryz.prog Tryz.f21 [] false w args ∧ laidMetH Tryz.prog Rows.versionReadsRow.laid w) ∧ sizedMet enc Tryz.prog Tryz.f21 (OpenSpec.ofChange Rows.versionReadsSpec) false w args)
      (Rows.versionReadsSpec.post enc Tryz.prog Tryz.f21 false true false false) := by
  refine law_lifted_laid (C := Tryz.checked) (tb := 4) started law_own (by kernel_rfl) Tryz.func21 law_laidOut versionReads_rows rfl Tryz.underlying4 rfl (fun ds hds => ?_)
    (ChangeSpec.witness_shaped (enc := enc) (C := Tryz.checked) (os := os) (X := fun w _ => laidMetH Tryz.prog Rows.versionReadsRow.laid w) false (World.laidAll Tryz.prog os Rows.versionReadsRow.laid) #[.string ⟨#[]⟩] 8 (World.laidAll_os _ _ _)
      (World.shaped_of_ZipB (by kernel_rfl) (by kernel_rfl)) (by kernel_rfl) (by kernel_rfl) (by kernel_rfl)
      (by rw [MakeChecks.laidMetH_plain _ _ _ (by kernel_rfl)]; exact laidMet_laidAll _ (by kernel_rfl) (by kernel_rfl))) ?_
  · have hd : ds.length = 1 := hds
    match ds, hd with
    | [d0], _ => rfl
  · intro W base args ds p hval hA hsh hlaid
    obtain ⟨m, hm⟩ := law_maxLen hsh
    obtain ⟨W0, hheap, hl0⟩ := hlaid
    rw [MakeChecks.laidMetH_plain _ _ _ (by kernel_rfl)] at hl0
    have hE : Env m W := ⟨hm, tabIs_heap (law_tab (laid_tail (laid_tail hl0))) hheap⟩
    clear hl0 hheap
    have hA' : DataW.TrodAll enc Tryz.prog W 0 (fun _ => true) true [9] args.toList ds p := hA
    have hval' : ∀ (j : Nat) t v, (#[9] : Array TypeId)[j]? = some t → args[j]? = some v → Value.okWide Tryz.prog W .any base t v := hval
    clear hA hval hsh
    obtain ⟨v0, d0, p0, rfl, rfl, t0⟩ := law_one hA'
    obtain ⟨s, rfl⟩ := okWide_string Tryz.underlying9 (hval' 0 9 v0 rfl rfl)
    exact reads_law s m W hE
theorem versionReads_holds : Rows.VersionReadsSaid :=
  OpenClaim.holds_of_wide 21 Tryz.f21 rfl rfl rfl rfl rfl rfl rfl ⟨rfl, rfl, rfl, rfl, rfl⟩ rfl rfl rfl rfl rfl versionReads_named Tryz.func21 versionReads_facts
    versionReads_inst (by unfold Func.isWrapper; first | (rw [if_pos (by decide +kernel)]; kernel_rfl) | (rw [if_neg (by decide +kernel)]; exact ⟨rfl, rfl⟩))
    (fun os started H enc _ => versionReads_lifted os started H enc)
theorem versionReads_card : Rows.VersionReadsCardSaid :=
  Claim7.holds_tied_plain_at .later [] [.data, .data, .data, .data, .pinned] true (true, "1ee9e46f3b7107daa6d70c1e879d131c76b497259f03573c029c6f6310125314") true
    versionReads_holds (fun _ h => by cases h) versionReads_wf (fun _ h => by cases h) versionReads_row_tie rfl ⟨rfl, rfl⟩ versionReads_main rfl
    (fun f fn hf hfn => by
      obtain rfl : f = 21 := Option.some.inj (versionReads_named.symm.trans hf) |>.symm
      obtain rfl : fn = Tryz.f21 := (Option.some.inj (Tryz.func21.symm.trans hfn)).symm
      exact ⟨versionReads_looks, fun j t ht => by
        rw [Tryz.params21] at ht
        have hm : t ∈ [9] := by simpa using Array.mem_of_getElem? ht
        have hall : ([9].all fun u => !Tryz.prog.wantsStandIn u) = true := by kernel_rfl
        exact (show Tryz.prog.wantsStandIn t = false by simpa using List.all_eq_true.1 hall t hm)⟩)
    versionReads_goes
#print axioms versionReads_card
end Go.Proofs.YtekmnelpkogppaaGreatDoor
