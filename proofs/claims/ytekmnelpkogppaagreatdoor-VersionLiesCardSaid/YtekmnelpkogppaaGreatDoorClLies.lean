/-
  VersionLies: for every book and three lines the theorem of the lines between holds (the list is in order, both lines lie in it, the third lies in it just where the detour over it costs nothing, and then what lies between the first and the third lies in it); the law returns true, and its arguments read behind the call as before. Condition: the tables that the card lists are laid as the text of the program lays them.
-/
import Derived.Test.YtekmnelpkogppaaGreatDoorXl0
import Derived.Test.YtekmnelpkogppaaGreatDoorRows
import Derived.Test.YtekmnelpkogppaaGreatDoorCards
import Derived.Test.YtekmnelpkogppaaGreatDoorTie
import Derived.Test.YtekmnelpkogppaaGreatDoorFaLies
import Derived.Lay
import Derived.Shelf.LaysM
import Derived.Shelf.Vars
import Derived.KernelRfl
import Derived.MakeChecks
import Derived.Lib.LaidTab
import Derived.SevenTiedAt
set_option linter.unusedVariables false
set_option linter.unusedSimpArgs false
namespace Go.Proofs.YtekmnelpkogppaaGreatDoor
open Go.ChangeShapes Go.WideShapes Go.ChangeAt Go.RowKit Go.Deep

set_option maxRecDepth 100000
open Go.Lib in
theorem law_pow10 : Rows.laid_internal_strconv_uint64pow10 = (tabData .u64 pow10Tab : DataW Unit) := by kernel_rfl
open Go.Lib in
theorem law_tab {W : World} {rest : List (String × DataW Unit)} (h : laidMet Tryz.prog (("internal/strconv.uint64pow10", Rows.laid_internal_strconv_uint64pow10) :: rest) W) : TabIs Tryz.prog W "internal/strconv.uint64pow10" .u64 pow10Tab := by
  rw [law_pow10] at h
  exact tabIs_of_head (g := 1) (t := 302) (by kernel_rfl) (by kernel_rfl) Tryz.underlying302 (by kernel_rfl) (by kernel_rfl) (by kernel_rfl) h
theorem versionLies_rows : RowsOk Tryz.prog Tryz.f8.params.toList := by
  have h : (Tryz.f8.params.toList.all fun t => Tryz.prog.readableRec t && decide (t < Tryz.prog.types.size)) = true := by kernel_rfl
  intro t ht
  have := List.all_eq_true.1 h t ht
  simpa using this
set_option maxRecDepth 100000 in
theorem versionLies_lifted (os : Os) (started : os.Started) (H : Type) (enc : TypeId × Value → H) :
    ReturnsInHanded {} Tryz.checked os 8 .any (fun w args => (Rows.versionLiesSpec.pre enc Tryz.prog Tryz.f8 [] false w args ∧ laidMetH Tryz.prog Rows.versionLiesRow.laid w) ∧ sizedMet enc Tryz.prog Tryz.f8 (OpenSpec.ofChange Rows.versionLiesSpec) false w args)
      (Rows.versionLiesSpec.post enc Tryz.prog Tryz.f8 false true false false) := by
  refine law_lifted_laid (C := Tryz.checked) (tb := 4) started law_own (by kernel_rfl) Tryz.func8 law_laidOut versionLies_rows rfl Tryz.underlying4 rfl (fun ds hds => ?_)
    (ChangeSpec.witness_shaped (enc := enc) (C := Tryz.checked) (os := os) (X := fun w _ => laidMetH Tryz.prog Rows.versionLiesRow.laid w) false (World.laidAll Tryz.prog os Rows.versionLiesRow.laid) #[.agg #[.int .i64 0, .slice none 0 0], .slice none 0 0, .slice none 0 0, .slice none 0 0] 8 (World.laidAll_os _ _ _)
      (World.shaped_of_ZipB (by kernel_rfl) (by kernel_rfl)) (by kernel_rfl) (by kernel_rfl) (by kernel_rfl)
      (by rw [MakeChecks.laidMetH_plain _ _ _ (by kernel_rfl)]; exact laidMet_laidAll _ (by kernel_rfl) (by kernel_rfl))) ?_
  · have hd : ds.length = 4 := hds
    match ds, hd with
    | [d0, d1, d2, d3], _ => rfl
  · intro W base args ds p hval hA hsh hlaid
    obtain ⟨m, hm⟩ := law_maxLen hsh
    obtain ⟨W0, hheap, hl0⟩ := hlaid
    rw [MakeChecks.laidMetH_plain _ _ _ (by kernel_rfl)] at hl0
    have hE : Env m W := ⟨hm, tabIs_heap (law_tab (laid_tail (laid_tail hl0))) hheap⟩
    clear hl0 hheap
    have hA' : DataW.TrodAll enc Tryz.prog W 0 (fun _ => true) true [24, 25, 25, 25] args.toList ds p := hA
    have hval' : ∀ (j : Nat) t v, (#[24, 25, 25, 25] : Array TypeId)[j]? = some t → args[j]? = some v → Value.okWide Tryz.prog W .any base t v := hval
    clear hA hval hsh
    obtain ⟨v0, v1, v2, v3, d0, d1, d2, d3, p0, p1, p2, p3, rfl, rfl, t0, t1, t2, t3⟩ := law_four hA'
    obtain ⟨WW, A, n, cap, cs, rfl, hb⟩ := law_book (hval' 0 24 v0 rfl rfl) t0
    obtain ⟨A1, n1, c1, l1, rfl, h1⟩ := law_ints (hval' 1 25 v1 rfl rfl) t1
    obtain ⟨A2, n2, c2, l2, rfl, h2⟩ := law_ints (hval' 2 25 v2 rfl rfl) t2
    obtain ⟨A3, n3, c3, l3, rfl, h3⟩ := law_ints (hval' 3 25 v3 rfl rfl) t3
    exact lies_law WW A n cap cs A1 n1 c1 l1 A2 n2 c2 l2 A3 n3 c3 l3 m W hE hb h1 h2 h3
theorem versionLies_holds : Rows.VersionLiesSaid :=
  OpenClaim.holds_of_wide 8 Tryz.f8 rfl rfl rfl rfl rfl rfl rfl ⟨rfl, rfl, rfl, rfl, rfl⟩ rfl rfl rfl rfl rfl versionLies_named Tryz.func8 versionLies_facts
    versionLies_inst (by unfold Func.isWrapper; first | (rw [if_pos (by decide +kernel)]; kernel_rfl) | (rw [if_neg (by decide +kernel)]; exact ⟨rfl, rfl⟩))
    (fun os started H enc _ => versionLies_lifted os started H enc)
theorem versionLies_card : Rows.VersionLiesCardSaid :=
  Claim7.holds_tied_plain_at .later [] [.data, .data, .data, .data, .pinned] true (true, "1ee9e46f3b7107daa6d70c1e879d131c76b497259f03573c029c6f6310125314") true
    versionLies_holds (fun _ h => by cases h) versionLies_wf (fun _ h => by cases h) versionLies_row_tie rfl ⟨rfl, rfl⟩ versionLies_main rfl
    (fun f fn hf hfn => by
      obtain rfl : f = 8 := Option.some.inj (versionLies_named.symm.trans hf) |>.symm
      obtain rfl : fn = Tryz.f8 := (Option.some.inj (Tryz.func8.symm.trans hfn)).symm
      exact ⟨versionLies_looks, fun j t ht => by
        rw [Tryz.params8] at ht
        have hm : t ∈ [24, 25, 25, 25] := by simpa using Array.mem_of_getElem? ht
        have hall : ([24, 25, 25, 25].all fun u => !Tryz.prog.wantsStandIn u) = true := by kernel_rfl
        exact (show Tryz.prog.wantsStandIn t = false by simpa using List.all_eq_true.1 hall t hm)⟩)
    versionLies_goes
#print axioms versionLies_card
end Go.Proofs.YtekmnelpkogppaaGreatDoor
