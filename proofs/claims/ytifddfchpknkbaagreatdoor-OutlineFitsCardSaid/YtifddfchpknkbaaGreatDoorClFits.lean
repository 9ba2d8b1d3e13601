/-
  OutlineFits (P1.3): for every stage, figure and place the code and the specification agree on whether the shadow fits, on the greatest distance at which it does, and on the least at which no cell is dark, or on the errors; the law returns true, and its arguments read behind the call as before.
-/
import Derived.Test.YtifddfchpknkbaaGreatDoorLawKit
import Derived.Test.YtifddfchpknkbaaGreatDoorFitB
import Derived.Test.YtifddfchpknkbaaGreatDoorFitC
import Derived.Test.YtifddfchpknkbaaGreatDoorRows
import Derived.Test.YtifddfchpknkbaaGreatDoorCards
import Derived.Test.YtifddfchpknkbaaGreatDoorTie
import Derived.Test.YtifddfchpknkbaaGreatDoorFaFits
import Derived.Lay
import Derived.SevenTiedAt
set_option linter.unusedVariables false
set_option linter.unusedSimpArgs false
namespace Go.Proofs.YtifddfchpknkbaaGreatDoor
open Go.RowKit

theorem fits_law (W H F L X Y N PX PY : Int) (A : Option Addr) (n cap : Nat) (rows : List ByteArray) (m : Int) (w : World) (hm : w.cell? ⟨0, 0, none⟩ = some (.int .i64 m)) (hcap : n ≤ cap) (hcm : cap ≤ maxLen) (hs : ∀ r ∈ rows, r.size ≤ maxLen) (hr : Rd w w.heap.size 1 A n (rows.map Value.string)) :
    Calls Tryz.prog 8 #[.agg #[.int .i64 W, .int .i64 H, .int .i64 F, .int .i64 L, .int .i64 X, .int .i64 Y], .agg #[.slice A n cap], .agg #[.int .i64 N, .int .i64 PX, .int .i64 PY]] w fun e w' => e = .returned (.bool true) ∧ Below w.heap.size w w' := by
  cases hsh : shortB rows
  · exact fits_x0 W H F L X Y N PX PY A n cap rows m w hm hcap hcm hs hr hsh
  cases hst : stageB W H F L X Y
  · exact fits_x1 W H F L X Y N PX PY A n cap rows m w hm hcap hcm hs hr hsh hst (by rw [viewB, hst]; rfl) (by rw [viewB, hst]; rfl)
  have ⟨⟨a1, a2⟩, ⟨a3, a4⟩, ⟨a5, a6⟩, ⟨a7, a8⟩, ⟨a9, a10⟩, a11, a12⟩ := stageB_nums hst
  cases hfg : figB rows
  · exact fits_x2 W H F L X Y N PX PY A n cap rows m w hm hcap hcm hs hr hsh hst hfg (by rw [viewB, hst, hfg]; rfl) (by rw [viewB, hst, hfg]; rfl)
  have hin0 : inB 0 0 (F - 1) = true := by simp [inB]; omega
  cases hat : (inB PX (-20) 20 && inB PY (-20) 20)
  · have hpf : ∀ N, placeB F N PX PY = false := fun N => by rw [placeB, Bool.and_assoc, hat, Bool.and_false]
    exact fits_x3 W H F L X Y N PX PY A n cap rows m w hm hcap hcm hs hr hsh hst hfg hat (by rw [viewB, hpf, Bool.and_false, Bool.and_false]) (by rw [viewB, hpf, Bool.and_false, Bool.and_false])
  have hv0 : viewB W H F L X Y 0 PX PY rows = true := by rw [viewB, hst, hfg, placeB, Bool.and_assoc, hat, hin0]; rfl
  obtain ⟨Wn, rfl⟩ : ∃ k : Nat, W = k := ⟨W.toNat, by omega⟩
  obtain ⟨Hn, rfl⟩ : ∃ k : Nat, H = k := ⟨H.toNat, by omega⟩
  obtain ⟨Fn, rfl⟩ : ∃ k : Nat, F = k := ⟨F.toNat, by omega⟩
  have hmo : mostR Wn Hn Fn L X Y PX PY rows = mostFrom (fun k : Nat => fitsB Wn Hn Fn L X Y k PX PY (wdOf rows) rows.length) Fn := by unfold mostR; rw [if_pos hv0, Int.toNat_natCast]
  have hfa : fadesR Wn Hn Fn L X Y PX PY rows = fadeFrom (noDark Wn Hn Fn L X Y PX PY rows) Fn 0 := by unfold fadesR; rw [if_pos hv0, Int.toNat_natCast]
  cases hpl : placeB Fn N PX PY
  · have hfi : fitsR Wn Hn Fn L X Y N PX PY rows = #[.bool false, .int .i64 2] := by unfold fitsR; rw [show viewB Wn Hn Fn L X Y N PX PY rows = false by rw [viewB, hst, hfg, hpl]; rfl]; rfl
    rcases lastN_most (fun k : Nat => fitsB Wn Hn Fn L X Y k PX PY (wdOf rows) rows.length) Fn with ⟨p1, p2⟩ | ⟨p1, p2⟩
    · rcases firstN_fade (noDark Wn Hn Fn L X Y PX PY rows) Fn 0 with ⟨q1, q2⟩ | ⟨q1, q2⟩
      · exact fits_m000 Wn Hn Fn L X Y N PX PY A n cap rows m w hm hcap hcm hs hr _ _ false hsh hst hfg hat a5 a6 hpl hv0 (Lib.hid (hmo.trans p2)) (Lib.hid (hfa.trans q2)) (Lib.hid hfi) (Lib.hid rfl) (Lib.hid rfl) p1 (by omega) q1 (by omega)
      · exact fits_m010 Wn Hn Fn L X Y N PX PY A n cap rows m w hm hcap hcm hs hr _ _ false hsh hst hfg hat a5 a6 hpl hv0 (Lib.hid (hmo.trans p2)) (Lib.hid (hfa.trans q2)) (Lib.hid hfi) (Lib.hid rfl) (Lib.hid rfl) p1 (by omega) (by omega) q1
    · rcases firstN_fade (noDark Wn Hn Fn L X Y PX PY rows) Fn 0 with ⟨q1, q2⟩ | ⟨q1, q2⟩
      · exact fits_m100 Wn Hn Fn L X Y N PX PY A n cap rows m w hm hcap hcm hs hr _ _ false hsh hst hfg hat a5 a6 hpl hv0 (Lib.hid (hmo.trans p2)) (Lib.hid (hfa.trans q2)) (Lib.hid hfi) (Lib.hid rfl) (Lib.hid rfl) (by omega) p1 q1 (by omega)
      · exact fits_m110 Wn Hn Fn L X Y N PX PY A n cap rows m w hm hcap hcm hs hr _ _ false hsh hst hfg hat a5 a6 hpl hv0 (Lib.hid (hmo.trans p2)) (Lib.hid (hfa.trans q2)) (Lib.hid hfi) (Lib.hid rfl) (Lib.hid rfl) (by omega) p1 (by omega) q1
  have hv : viewB Wn Hn Fn L X Y N PX PY rows = true := by rw [viewB, hst, hfg, hpl]; rfl
  have hfi : fitsR Wn Hn Fn L X Y N PX PY rows = #[.bool (fitsB Wn Hn Fn L X Y N PX PY (wdOf rows) rows.length), .int .i64 0] := by unfold fitsR; rw [if_pos hv]
  rcases lastN_most (fun k : Nat => fitsB Wn Hn Fn L X Y k PX PY (wdOf rows) rows.length) Fn with ⟨p1, p2⟩ | ⟨p1, p2⟩
  · rcases firstN_fade (noDark Wn Hn Fn L X Y PX PY rows) Fn 0 with ⟨q1, q2⟩ | ⟨q1, q2⟩
    · exact fits_m001 Wn Hn Fn L X Y N PX PY A n cap rows m w hm hcap hcm hs hr _ _ _ hsh hst hfg hat a5 a6 hpl hv0 hv (Lib.hid (hmo.trans p2)) (Lib.hid (hfa.trans q2)) (Lib.hid hfi) (Lib.hid rfl) (Lib.hid rfl) (Lib.hid rfl) p1 (by omega) q1 (by omega)
    · exact fits_m011 Wn Hn Fn L X Y N PX PY A n cap rows m w hm hcap hcm hs hr _ _ _ hsh hst hfg hat a5 a6 hpl hv0 hv (Lib.hid (hmo.trans p2)) (Lib.hid (hfa.trans q2)) (Lib.hid hfi) (Lib.hid rfl) (Lib.hid rfl) (Lib.hid rfl) p1 (by omega) (by omega) q1
  · rcases firstN_fade (noDark Wn Hn Fn L X Y PX PY rows) Fn 0 with ⟨q1, q2⟩ | ⟨q1, q2⟩
    · exact fits_m101 Wn Hn Fn L X Y N PX PY A n cap rows m w hm hcap hcm hs hr _ _ _ hsh hst hfg hat a5 a6 hpl hv0 hv (Lib.hid (hmo.trans p2)) (Lib.hid (hfa.trans q2)) (Lib.hid hfi) (Lib.hid rfl) (Lib.hid rfl) (Lib.hid rfl) (by omega) p1 q1 (by omega)
    · exact fits_m111 Wn Hn Fn L X Y N PX PY A n cap rows m w hm hcap hcm hs hr _ _ _ hsh hst hfg hat a5 a6 hpl hv0 hv (Lib.hid (hmo.trans p2)) (Lib.hid (hfa.trans q2)) (Lib.hid hfi) (Lib.hid rfl) (Lib.hid rfl) (Lib.hid rfl) (by omega) p1 (by omega) q1
end Go.Proofs.YtifddfchpknkbaaGreatDoor

namespace Go.Proofs.YtifddfchpknkbaaGreatDoor
open Go.ChangeShapes Go.WideShapes Go.ChangeAt Go.RowKit Go.Deep

theorem outlineFits_rows : RowsOk Tryz.prog Tryz.f8.params.toList := by
  have h : (Tryz.f8.params.toList.all fun t => Tryz.prog.readableRec t && decide (t < Tryz.prog.types.size)) = true := by kernel_rfl
  intro t ht
  have := List.all_eq_true.1 h t ht
  simpa using this
set_option maxRecDepth 100000 in
theorem outlineFits_lifted (os : Os) (started : os.Started) (H : Type) (enc : TypeId × Value → H) :
    ReturnsInHanded {} Tryz.checked os 8 .any (fun w args => (Rows.outlineFitsSpec.pre enc Tryz.prog Tryz.f8 [] false w args ∧ laidMetH Tryz.prog Rows.outlineFitsRow.laid w) ∧ sizedMet enc Tryz.prog Tryz.f8 (OpenSpec.ofChange Rows.outlineFitsSpec) false w args)
      (Rows.outlineFitsSpec.post enc Tryz.prog Tryz.f8 false true false false) := by
  refine law_lifted (C := Tryz.checked) (tb := 4) started law_own (by kernel_rfl) Tryz.func8 law_laidOut outlineFits_rows rfl Tryz.underlying4 rfl (fun ds hds => ?_)
    (ChangeSpec.witness_shaped (enc := enc) (C := Tryz.checked) (os := os) (X := fun w _ => laidMetH Tryz.prog Rows.outlineFitsRow.laid w) false (World.laidAll Tryz.prog os Rows.outlineFitsRow.laid) #[.agg #[.int .i64 0, .int .i64 0, .int .i64 0, .int .i64 0, .int .i64 0, .int .i64 0], .agg #[.slice none 0 0], .agg #[.int .i64 0, .int .i64 0, .int .i64 0]] 8 (World.laidAll_os _ _ _)
      (World.shaped_of_ZipB (by kernel_rfl) (by kernel_rfl)) (by kernel_rfl) (by kernel_rfl) (by kernel_rfl)
      (by rw [MakeChecks.laidMetH_plain _ _ _ (by kernel_rfl)]; exact laidMet_laidAll _ (by kernel_rfl) (by kernel_rfl))) ?_
  · have hd : ds.length = 3 := hds
    match ds, hd with
    | [d0, d1, d2], _ => rfl
  · intro W base args ds p hval hA hsh
    obtain ⟨m, hm⟩ := law_maxLen hsh
    have hA' : DataW.TrodAll enc Tryz.prog W 0 (fun _ => true) true [23, 26, 28] args.toList ds p := hA
    have hval' : ∀ (j : Nat) t v, (#[23, 26, 28] : Array TypeId)[j]? = some t → args[j]? = some v → Value.okWide Tryz.prog W .any base t v := hval
    clear hA hval hsh
    obtain ⟨v0, v1, v2, d0, d1, d2, p0, p1, p2, rfl, rfl, rfl, t0, t1, t2⟩ := trodAll_three hA'
    obtain ⟨a, b, c, d, e, f, rfl⟩ := law_stage (hval' 0 23 v0 rfl rfl) t0
    obtain ⟨x, rfl, A, n, cap, rows, rfl, h1, h2, h3, h4⟩ := law_figure (hval' 1 26 v1 rfl rfl) t1
    obtain ⟨g, h, i, rfl⟩ := law_place (hval' 2 28 v2 rfl rfl) t2
    exact fits_law a b c d e f g h i A n cap rows m W hm h1 h2 h3 h4
theorem outlineFits_holds : Rows.OutlineFitsSaid :=
  OpenClaim.holds_of_wide 8 Tryz.f8 rfl rfl rfl rfl rfl rfl rfl ⟨rfl, rfl, rfl, rfl, rfl⟩ rfl rfl rfl rfl rfl outlineFits_named Tryz.func8 outlineFits_facts
    outlineFits_inst (by unfold Func.isWrapper; first | (rw [if_pos (by decide +kernel)]; kernel_rfl) | (rw [if_neg (by decide +kernel)]; exact ⟨rfl, rfl⟩))
    (fun os started H enc _ => outlineFits_lifted os started H enc)
theorem outlineFits_card : Rows.OutlineFitsCardSaid :=
  Claim7.holds_tied_plain_at .later [] [.data, .data, .data, .data, .pinned] true (true, "188375153e538a273bbf9a43452e34ed21e238d1d16b7b2cbc2828c9f3e45cd0") true
    outlineFits_holds (fun _ h => by cases h) outlineFits_wf (fun _ h => by cases h) outlineFits_row_tie rfl ⟨rfl, rfl⟩ outlineFits_main rfl
    (fun f fn hf hfn => by
      obtain rfl : f = 8 := Option.some.inj (outlineFits_named.symm.trans hf) |>.symm
      obtain rfl : fn = Tryz.f8 := (Option.some.inj (Tryz.func8.symm.trans hfn)).symm
      exact ⟨outlineFits_looks, fun j t ht => by
        rw [Tryz.params8] at ht
        have hm : t ∈ [23, 26, 28] := by simpa using Array.mem_of_getElem? ht
        have hall : ([23, 26, 28].all fun u => !Tryz.prog.wantsStandIn u) = true := by kernel_rfl
        exact (show Tryz.prog.wantsStandIn t = false by simpa using List.all_eq_true.1 hall t hm)⟩)
    outlineFits_goes
#print axioms outlineFits_card
end Go.Proofs.YtifddfchpknkbaaGreatDoor
