import Derived.Test.YtifddfchpknkbaaGreatDoorPf
import Derived.Test.YtifddfchpknkbaaGreatDoorBC
import Derived.Test.YtifddfchpknkbaaGreatDoorNx
set_option linter.unusedVariables false
set_option linter.unusedSimpArgs false
namespace Go.Proofs.YtifddfchpknkbaaGreatDoor
open Go.RowKit Go.Lib

def CompAt (w : World) (A : Option Addr) (gf gh : Nat) : Prop := (∀ f ∈ kfs (some ⟨gf, 0, none⟩) (some ⟨gh, 0, none⟩) 2 2, f.ok w w.heap.size) ∧ Rd w w.heap.size 1 A 2 ((kfs (some ⟨gf, 0, none⟩) (some ⟨gh, 0, none⟩) 2 2).map Fig.val)
theorem CompAt.below {w w' : World} {A : Option Addr} {gf gh : Nat} (h : CompAt w A gf gh) (hb : Below w.heap.size w w') : CompAt w' A gf gh :=
  ⟨fun f hf => ((h.1 f hf).below hb).more hb.size, (h.2.below hb).more hb.size⟩
theorem kFs : ∀ r ∈ kF, r.size ≤ maxLen := by unfold maxLen; decide
theorem kHs : ∀ r ∈ kH, r.size ≤ maxLen := by unfold maxLen; decide
theorem dRs : ∀ r ∈ dRows, r.size ≤ maxLen := by unfold maxLen; decide
theorem nRs : ∀ r ∈ List.replicate 8 blankRow, r.size ≤ maxLen := by unfold maxLen; decide
theorem vShL : (shadowRows 8 8 8 1 4 4 4 3 3 kH).length = 8 := by kernel_rfl
theorem vSh1 : ((shadowRows 8 8 8 1 4 4 4 3 3 kH).map Value.string)[1]? = some (.string ⟨#[46, 43, 43, 43, 43, 43, 43, 46]⟩) := by kernel_rfl
theorem vSh5 : ((shadowRows 8 8 8 1 4 4 4 3 3 kH).map Value.string)[5]? = some (.string ⟨#[46, 43, 43, 43, 43, 46, 46, 46]⟩) := by kernel_rfl
theorem vErr : errV (viewB 8 8 8 1 4 4 4 3 3 kH) = .int .i64 0 := by rw [vView]; rfl
theorem CompAt.new {w : World} {gf gh : Nat} (hF : Blk w gf 9 #[.string ⟨#[35, 35]⟩, .string ⟨#[35, 35]⟩]) (hG : Blk w gh 9 #[.string ⟨#[35, 35]⟩, .string ⟨#[35, 46]⟩]) : CompAt (w.alloc (.cells #[.slice (some ⟨gf, 0, none⟩) 2 2, .slice (some ⟨gh, 0, none⟩) 2 2] 26)) (some ⟨w.heap.size, 0, none⟩) gf gh := by
  have hb : Below w.heap.size w (w.alloc (.cells #[.slice (some ⟨gf, 0, none⟩) 2 2, .slice (some ⟨gh, 0, none⟩) 2 2] 26)) := (Below.refl _ w).alloc (Nat.le_refl _) _
  have h1 : Rd w w.heap.size 1 (some ⟨gf, 0, none⟩) 2 (kF.map Value.string) := Rd.blkN hF rfl hF.lt
  have h2 : Rd w w.heap.size 1 (some ⟨gh, 0, none⟩) 2 (kH.map Value.string) := Rd.blkN hG rfl hG.lt
  refine ⟨fun f hf => ?_, Rd.blkN (Blk.new w 26 #[.slice (some ⟨gf, 0, none⟩) 2 2, .slice (some ⟨gh, 0, none⟩) 2 2]) rfl (by rw [World.size_alloc]; omega)⟩
  rcases List.mem_cons.1 hf with rfl | hf
  · exact ⟨Nat.le_refl _, (show (2 : Nat) ≤ maxLen by unfold maxLen; omega), kFs, (h1.below hb).more hb.size⟩
  · rw [List.mem_singleton] at hf
    subst hf
    exact ⟨Nat.le_refl _, (show (2 : Nat) ≤ maxLen by unfold maxLen; omega), kHs, (h2.below hb).more hb.size⟩
theorem figSmall (A : Option Addr) (c : Nat) : (⟨A, 1, c, [⟨#[35]⟩]⟩ : Fig).rows.length ≤ 100 ∧ ∀ r ∈ (⟨A, 1, c, [⟨#[35]⟩]⟩ : Fig).rows, r.size ≤ 100 := by
  refine ⟨(show (1 : Nat) ≤ 100 by omega), fun r hr => ?_⟩
  have hr2 : r = ⟨#[35]⟩ := by simpa using hr
  subst hr2
  decide
theorem dig : ∀ x ∈ ([1, 1, 2, 0, 0, 0] : List Int), 0 ≤ x ∧ x < 10 := by decide
theorem vPrS (A : Option Addr) (c : Nat) : 0 ≤ sumA (bookR (fun n => strOfNums [48 + n]) 1 1 2 0 0 0 [⟨A, 1, c, [⟨#[35]⟩]⟩]) 0 0 := by
  have h : sumA (bookR (fun n => strOfNums [48 + n]) 1 1 2 0 0 0 [⟨A, 1, c, [⟨#[35]⟩]⟩]) 0 0 = 12699 := by kernel_rfl
  rw [h]; omega
theorem vPrint (A : Option Addr) (c : Nat) : linesS (bookR (fun n => strOfNums [48 + n]) 1 1 2 0 0 0 [⟨A, 1, c, [⟨#[35]⟩]⟩]) ⟨#[]⟩ ++ ⟨#[101, 110, 100, 32]⟩ ++ strOfNums [48 + (sumA (bookR (fun n => strOfNums [48 + n]) 1 1 2 0 0 0 [⟨A, 1, c, [⟨#[35]⟩]⟩]) 0 0 % 173) / 100] ++ strOfNums [48 + (sumA (bookR (fun n => strOfNums [48 + n]) 1 1 2 0 0 0 [⟨A, 1, c, [⟨#[35]⟩]⟩]) 0 0 % 173) / 10 % 10] ++ strOfNums [48 + (sumA (bookR (fun n => strOfNums [48 + n]) 1 1 2 0 0 0 [⟨A, 1, c, [⟨#[35]⟩]⟩]) 0 0 % 173) % 10] ++ ⟨#[10]⟩ = ⟨#[115, 116, 97, 103, 101, 32, 49, 32, 49, 32, 50, 32, 48, 32, 48, 32, 48, 10, 102, 105, 103, 117, 114, 101, 32, 35, 10, 101, 110, 100, 32, 48, 55, 48, 10]⟩ := by kernel_rfl

set_option maxRecDepth 100000 in
set_option maxHeartbeats 6400000 in
theorem known_true (m : Int) (w : World) (hm : w.cell? ⟨0, 0, none⟩ = some (.int .i64 m)) : Calls Tryz.prog 24 #[] w fun e w' => e = .returned (.bool true) ∧ Below w.heap.size w w' := by
  have h00 : 0 < w.heap.size := block_lt_of_cell hm
  have hmB : ∀ w', Below w.heap.size w w' → w'.cell? ⟨0, 0, none⟩ = some (.int .i64 m) := fun w' hb => (hb.cell (p := ⟨0, 0, none⟩) h00).trans hm
  have hB : Below w.heap.size w w := Below.refl _ _
  go_enter Tryz.func24, Tryz.ntmps24
  go_upto_region 2 with (first | (go_at_call 89; refine (F_fun _).mono ?_; rintro e w1 ⟨gf, rfl, _, hF, hb⟩; replace hB := hB.trans (hb.mono hB.size); clear hb) | (go_at_call 90; refine (H_fun _).mono ?_; rintro e w1 ⟨gh, rfl, _, hG, hb⟩; replace hF := hF.below hb hF.lt; replace hB := hB.trans (hb.mono hB.size); clear hb))
  have hC := CompAt.new hF hG
  replace hB := hB.alloc hB.size (.cells #[.slice (some ⟨gf, 0, none⟩) 2 2, .slice (some ⟨gh, 0, none⟩) 2 2] 26)
  clear hF hG
  go_upto_region 13 with (first
    | (go_at_call 91; refine (T_fun _).mono ?_; rintro e w1 ⟨rfl, hb⟩; (try replace hF := hF.below hb hF.lt); (try replace hG := hG.below hb hG.lt); (try replace hC := hC.below hb); (try replace hSh := (hSh.below hb).more hb.size); (try replace hTo := (hTo.below hb).more hb.size); (try replace hWh := (hWh.below hb).more hb.size); (try replace hD := (hD.below hb).more hb.size); (try replace hPl := (hPl.below hb).more hb.size); (try replace hBk := hBk.below hb); (try replace gX := gX.below hb gX.lt); replace hB := hB.trans (hb.mono hB.size); clear hb)
    | (go_at_call 89; refine (F_fun _).mono ?_; rintro e w1 ⟨g1, rfl, _, hF1, hb⟩; (try replace hF := hF.below hb hF.lt); (try replace hG := hG.below hb hG.lt); (try replace hC := hC.below hb); (try replace hSh := (hSh.below hb).more hb.size); (try replace hTo := (hTo.below hb).more hb.size); (try replace hWh := (hWh.below hb).more hb.size); (try replace hD := (hD.below hb).more hb.size); (try replace hPl := (hPl.below hb).more hb.size); (try replace hBk := hBk.below hb); (try replace gX := gX.below hb gX.lt); replace hB := hB.trans (hb.mono hB.size); clear hb; first | (have hG := hF; clear hF; have hF := hF1; clear hF1) | (have hF := hF1; clear hF1))
    | (go_at_call 90; refine (H_fun _).mono ?_; rintro e w1 ⟨g1, rfl, _, hF1, hb⟩; (try replace hF := hF.below hb hF.lt); (try replace hG := hG.below hb hG.lt); (try replace hC := hC.below hb); (try replace hSh := (hSh.below hb).more hb.size); (try replace hTo := (hTo.below hb).more hb.size); (try replace hWh := (hWh.below hb).more hb.size); (try replace hD := (hD.below hb).more hb.size); (try replace hPl := (hPl.below hb).more hb.size); (try replace hBk := hBk.below hb); (try replace gX := gX.below hb gX.lt); replace hB := hB.trans (hb.mono hB.size); clear hb; first | (have hG := hF; clear hF; have hF := hF1; clear hF1) | (have hF := hF1; clear hF1))
    | (go_at_call 38; refine (at_fun _ _ _ _).mono ?_; rintro e w1 ⟨rfl, hb⟩; (try replace hF := hF.below hb hF.lt); (try replace hG := hG.below hb hG.lt); (try replace hC := hC.below hb); (try replace hSh := (hSh.below hb).more hb.size); (try replace hTo := (hTo.below hb).more hb.size); (try replace hWh := (hWh.below hb).more hb.size); (try replace hD := (hD.below hb).more hb.size); (try replace hPl := (hPl.below hb).more hb.size); (try replace hBk := hBk.below hb); (try replace gX := gX.below hb gX.lt); replace hB := hB.trans (hb.mono hB.size); clear hb)
    | (go_at_call 92; refine (R_fun _).mono ?_; rintro e w1 ⟨rfl, hb⟩; (try replace hF := hF.below hb hF.lt); (try replace hG := hG.below hb hG.lt); (try replace hC := hC.below hb); (try replace hSh := (hSh.below hb).more hb.size); (try replace hTo := (hTo.below hb).more hb.size); (try replace hWh := (hWh.below hb).more hb.size); (try replace hD := (hD.below hb).more hb.size); (try replace hPl := (hPl.below hb).more hb.size); (try replace hBk := hBk.below hb); (try replace gX := gX.below hb gX.lt); replace hB := hB.trans (hb.mono hB.size); clear hb)
    | (go_at_call 93; refine (S_fun _).mono ?_; rintro e w1 ⟨rfl, hb⟩; (try replace hF := hF.below hb hF.lt); (try replace hG := hG.below hb hG.lt); (try replace hC := hC.below hb); (try replace hSh := (hSh.below hb).more hb.size); (try replace hTo := (hTo.below hb).more hb.size); (try replace hWh := (hWh.below hb).more hb.size); (try replace hD := (hD.below hb).more hb.size); (try replace hPl := (hPl.below hb).more hb.size); (try replace hBk := hBk.below hb); (try replace gX := gX.below hb gX.lt); replace hB := hB.trans (hb.mono hB.size); clear hb)
    | (go_at_call 30; go_loud (refine (Counts_any 8 8 8 1 4 4 4 3 3 _ 2 2 kF _ (by omega) (by unfold maxLen; omega) kFs (by exact Rd.blkN hF rfl hF.lt)).mono ?_; rintro e w1 ⟨rfl, hb⟩; rw [vCounts]; (try replace hF := hF.below hb hF.lt); (try replace hG := hG.below hb hG.lt); (try replace hC := hC.below hb); (try replace hSh := (hSh.below hb).more hb.size); (try replace hTo := (hTo.below hb).more hb.size); (try replace hWh := (hWh.below hb).more hb.size); (try replace hD := (hD.below hb).more hb.size); (try replace hPl := (hPl.below hb).more hb.size); (try replace hBk := hBk.below hb); (try replace gX := gX.below hb gX.lt); replace hB := hB.trans (hb.mono hB.size); clear hb; clear hF))
    | (go_at_call 29; refine (Shadow_any 8 8 8 1 4 4 4 3 3 _ 2 2 kH _ (by omega) (by unfold maxLen; omega) kHs (by exact Rd.blkN hF rfl hF.lt)).mono ?_; rintro e w1 ⟨v, rfl, ownS, hb⟩; rw [vErr]; rw [vShL] at ownS; (try replace hF := hF.below hb hF.lt); (try replace hG := hG.below hb hG.lt); (try replace hC := hC.below hb); (try replace hSh := (hSh.below hb).more hb.size); (try replace hTo := (hTo.below hb).more hb.size); (try replace hWh := (hWh.below hb).more hb.size); (try replace hD := (hD.below hb).more hb.size); (try replace hPl := (hPl.below hb).more hb.size); (try replace hBk := hBk.below hb); (try replace gX := gX.below hb gX.lt); replace hB := hB.trans (hb.mono hB.size); clear hb; clear hF; obtain ⟨AS, cS, rfl⟩ := own_slice ownS; have hSh := Rd.of_own ownS; clear ownS)
    | (go_at_call 44; refine (Meets_any 8 8 8 1 4 4 1 3 3 _ 2 2 kF 1 5 3 _ 2 2 kF _ (by omega) (by unfold maxLen; omega) kFs (by exact Rd.blkN hG rfl hG.lt) (by omega) (by unfold maxLen; omega) kFs (by exact Rd.blkN hF rfl hF.lt)).mono ?_; rintro e w1 ⟨rfl, hb⟩; rw [vMeets]; (try replace hF := hF.below hb hF.lt); (try replace hG := hG.below hb hG.lt); (try replace hC := hC.below hb); (try replace hSh := (hSh.below hb).more hb.size); (try replace hTo := (hTo.below hb).more hb.size); (try replace hWh := (hWh.below hb).more hb.size); (try replace hD := (hD.below hb).more hb.size); (try replace hPl := (hPl.below hb).more hb.size); (try replace hBk := hBk.below hb); (try replace gX := gX.below hb gX.lt); replace hB := hB.trans (hb.mono hB.size); clear hb; clear hF hG)
    | (go_at_call 47; refine (Most_any 8 8 8 1 4 4 3 3 _ 2 2 kF _ (by omega) (by unfold maxLen; omega) kFs (by exact Rd.blkN hF rfl hF.lt)).mono ?_; rintro e w1 ⟨rfl, hb⟩; rw [vMost]; (try replace hF := hF.below hb hF.lt); (try replace hG := hG.below hb hG.lt); (try replace hC := hC.below hb); (try replace hSh := (hSh.below hb).more hb.size); (try replace hTo := (hTo.below hb).more hb.size); (try replace hWh := (hWh.below hb).more hb.size); (try replace hD := (hD.below hb).more hb.size); (try replace hPl := (hPl.below hb).more hb.size); (try replace hBk := hBk.below hb); (try replace gX := gX.below hb gX.lt); replace hB := hB.trans (hb.mono hB.size); clear hb; clear hF)
    | (go_at_call 48; refine (Fades_any 8 8 8 1 4 4 3 3 _ 2 2 kH _ (by omega) (by unfold maxLen; omega) kHs (by exact Rd.blkN hF rfl hF.lt)).mono ?_; rintro e w1 ⟨rfl, hb⟩; rw [vFades]; (try replace hF := hF.below hb hF.lt); (try replace hG := hG.below hb hG.lt); (try replace hC := hC.below hb); (try replace hSh := (hSh.below hb).more hb.size); (try replace hTo := (hTo.below hb).more hb.size); (try replace hWh := (hWh.below hb).more hb.size); (try replace hD := (hD.below hb).more hb.size); (try replace hPl := (hPl.below hb).more hb.size); (try replace hBk := hBk.below hb); (try replace gX := gX.below hb gX.lt); replace hB := hB.trans (hb.mono hB.size); clear hb; clear hF)
    | (go_at_call 68; refine (Mistaken_any 8 8 8 1 4 4 0 1 3 3 3 _ 2 2 (kfs (some ⟨gf, 0, none⟩) (some ⟨gh, 0, none⟩) 2 2) _ (by omega) (by unfold maxLen; omega) hC.1 hC.2).mono ?_; rintro e w1 ⟨rfl, hb⟩; rw [vMist]; (try replace hF := hF.below hb hF.lt); (try replace hG := hG.below hb hG.lt); (try replace hC := hC.below hb); (try replace hSh := (hSh.below hb).more hb.size); (try replace hTo := (hTo.below hb).more hb.size); (try replace hWh := (hWh.below hb).more hb.size); (try replace hD := (hD.below hb).more hb.size); (try replace hPl := (hPl.below hb).more hb.size); (try replace hBk := hBk.below hb); (try replace gX := gX.below hb gX.lt); replace hB := hB.trans (hb.mono hB.size); clear hb)
    | (go_at_call 69; refine (Told_any 8 8 8 1 4 4 0 1 3 3 3 _ 2 2 (kfs (some ⟨gf, 0, none⟩) (some ⟨gh, 0, none⟩) 2 2) 1 _ (by omega) (by unfold maxLen; omega) hC.1 hC.2).mono ?_; rintro e w1 ⟨v, rfl, ⟨ATo, nTo, cTo, rfl, hto1, hto2, hTo1⟩, hb⟩; rw [vToldE]; rw [vToldR] at hTo1; obtain rfl : nTo = 1 := (hTo1.len).symm; (try replace hF := hF.below hb hF.lt); (try replace hG := hG.below hb hG.lt); (try replace hC := hC.below hb); (try replace hSh := (hSh.below hb).more hb.size); (try replace hTo := (hTo.below hb).more hb.size); (try replace hWh := (hWh.below hb).more hb.size); (try replace hD := (hD.below hb).more hb.size); (try replace hPl := (hPl.below hb).more hb.size); (try replace hBk := hBk.below hb); (try replace gX := gX.below hb gX.lt); replace hB := hB.trans (hb.mono hB.size); clear hb; have hTo := hTo1; clear hTo1)
    | (go_at_call 94; refine (D_fun _).mono ?_; rintro e w1 ⟨v, rfl, ⟨AD, nD, cD, rfl, hd1, hd2, hD1⟩, hb⟩; obtain rfl : nD = 8 := (hD1.len).symm; (try replace hF := hF.below hb hF.lt); (try replace hG := hG.below hb hG.lt); (try replace hC := hC.below hb); (try replace hSh := (hSh.below hb).more hb.size); (try replace hTo := (hTo.below hb).more hb.size); (try replace hWh := (hWh.below hb).more hb.size); (try replace hD := (hD.below hb).more hb.size); (try replace hPl := (hPl.below hb).more hb.size); (try replace hBk := hBk.below hb); (try replace gX := gX.below hb gX.lt); replace hB := hB.trans (hb.mono hB.size); clear hb; have hD := hD1; clear hD1)
    | (go_at_call 95; refine (N_fun _).mono ?_; rintro e w1 ⟨v, rfl, ownN, hb⟩; (try replace hF := hF.below hb hF.lt); (try replace hG := hG.below hb hG.lt); (try replace hC := hC.below hb); (try replace hSh := (hSh.below hb).more hb.size); (try replace hTo := (hTo.below hb).more hb.size); (try replace hWh := (hWh.below hb).more hb.size); (try replace hD := (hD.below hb).more hb.size); (try replace hPl := (hPl.below hb).more hb.size); (try replace hBk := hBk.below hb); (try replace gX := gX.below hb gX.lt); replace hB := hB.trans (hb.mono hB.size); clear hb; obtain ⟨AN, cN, rfl⟩ := own_slice ownN; have hn1 := own_le0 ownN; have hn2 := own_cap ownN; have hN := Rd.of_own ownN; clear ownN)
    | (go_at_call 53; refine (Who_any 8 8 8 0 4 4 0 1 3 3 3 _ 2 2 (kfs (some ⟨gf, 0, none⟩) (some ⟨gh, 0, none⟩) 2 2) AD 8 cD dRows _ (by omega) (by unfold maxLen; omega) hC.1 hC.2 hd1 hd2 dRs hD).mono ?_; rintro e w1 ⟨v, rfl, ⟨AW, nW, cW, rfl, hw1, hw2, hWh1⟩, hb⟩; rw [vWhoE]; rw [vWhoL] at hWh1; obtain rfl : nW = 2 := (hWh1.len).symm; (try replace hF := hF.below hb hF.lt); (try replace hG := hG.below hb hG.lt); (try replace hC := hC.below hb); (try replace hSh := (hSh.below hb).more hb.size); (try replace hTo := (hTo.below hb).more hb.size); (try replace hWh := (hWh.below hb).more hb.size); (try replace hD := (hD.below hb).more hb.size); (try replace hPl := (hPl.below hb).more hb.size); (try replace hBk := hBk.below hb); (try replace gX := gX.below hb gX.lt); replace hB := hB.trans (hb.mono hB.size); clear hb; clear hD; have hWh := hWh1; clear hWh1)
    | (go_at_call 63; refine (Next_any 8 8 8 0 4 4 0 1 3 3 3 _ 2 2 (kfs (some ⟨gf, 0, none⟩) (some ⟨gh, 0, none⟩) 2 2) AN 8 cN (List.replicate 8 blankRow) _ (by omega) (by unfold maxLen; omega) hC.1 hC.2 hn1 hn2 nRs hN).mono ?_; rintro e w1 ⟨rfl, hb⟩; rw [vNextP, vNextE]; (try replace hF := hF.below hb hF.lt); (try replace hG := hG.below hb hG.lt); (try replace hC := hC.below hb); (try replace hSh := (hSh.below hb).more hb.size); (try replace hTo := (hTo.below hb).more hb.size); (try replace hWh := (hWh.below hb).more hb.size); (try replace hD := (hD.below hb).more hb.size); (try replace hPl := (hPl.below hb).more hb.size); (try replace hBk := hBk.below hb); (try replace gX := gX.below hb gX.lt); replace hB := hB.trans (hb.mono hB.size); clear hb; clear hN)
    | (go_at_call 75; have hba := (Below.refl w1.heap.size w1).alloc (Nat.le_refl _) (.cells #[.int .i64 0, .int .i64 27, .int .i64 36] 3); (try replace hF := hF.below hba hF.lt); (try replace hG := hG.below hba hG.lt); (try replace hC := hC.below hba); (try replace hSh := (hSh.below hba).more hba.size); (try replace hTo := (hTo.below hba).more hba.size); (try replace hWh := (hWh.below hba).more hba.size); (try replace hD := (hD.below hba).more hba.size); (try replace hPl := (hPl.below hba).more hba.size); (try replace hBk := hBk.below hba); (try replace gX := gX.below hba gX.lt); replace hB := hB.trans (hba.mono hB.size); clear hba; refine (Plan_any 8 8 8 0 4 4 0 1 3 3 3 _ 2 2 (kfs (some ⟨gf, 0, none⟩) (some ⟨gh, 0, none⟩) 2 2) _ 3 3 [0, 27, 36] _ (by omega) (by unfold maxLen; omega) hC.1 hC.2 (by unfold maxLen; omega) (by exact Rd.blkN (Blk.new w1 3 #[.int .i64 0, .int .i64 27, .int .i64 36]) rfl (by rw [World.size_alloc]; omega)) (fun _ => by rw [vDif]; omega)).mono ?_; rintro e w2 ⟨v, rfl, ⟨AP, nP, cP, rfl, hp1, hp2, hPl1⟩, hb⟩; rw [vPlanE]; rw [vPlanL] at hPl1; obtain rfl : nP = 1 := (hPl1.len).symm; (try replace hF := hF.below hb hF.lt); (try replace hG := hG.below hb hG.lt); (try replace hC := hC.below hb); (try replace hSh := (hSh.below hb).more hb.size); (try replace hTo := (hTo.below hb).more hb.size); (try replace hWh := (hWh.below hb).more hb.size); (try replace hD := (hD.below hb).more hb.size); (try replace hPl := (hPl.below hb).more hb.size); (try replace hBk := hBk.below hb); (try replace gX := gX.below hb gX.lt); replace hB := hB.trans (hb.mono hB.size); clear hb; have hPl := hPl1; clear hPl1)
    | (go_at_call 85; refine (readText m _ (hmB _ hB)).mono ?_; rintro e w3 ⟨g8, c8, g4, c4, rfl, hBk, hb⟩; (try replace hF := hF.below hb hF.lt); (try replace hG := hG.below hb hG.lt); (try replace hC := hC.below hb); (try replace hSh := (hSh.below hb).more hb.size); (try replace hTo := (hTo.below hb).more hb.size); (try replace hWh := (hWh.below hb).more hb.size); (try replace hD := (hD.below hb).more hb.size); (try replace hPl := (hPl.below hb).more hb.size); (try replace hBk := hBk.below hb); (try replace gX := gX.below hb gX.lt); replace hB := hB.trans (hb.mono hB.size); clear hb))
  have gX := Blk.new w3 121 #[.int .i64 1, .int .i64 1, .int .i64 2, .int .i64 0, .int .i64 0, .int .i64 0, .slice (some ⟨g8, 0, none⟩) 1 c8]
  have hba := (Below.refl w3.heap.size w3).alloc (Nat.le_refl _) (.cells #[.int .i64 1, .int .i64 1, .int .i64 2, .int .i64 0, .int .i64 0, .int .i64 0, .slice (some ⟨g8, 0, none⟩) 1 c8] 121)
  replace hC := hC.below hba; replace hSh := (hSh.below hba).more hba.size; replace hTo := (hTo.below hba).more hba.size; replace hWh := (hWh.below hba).more hba.size; replace hPl := (hPl.below hba).more hba.size; replace hBk := hBk.below hba; replace hB := hB.trans (hba.mono hB.size)
  clear hba
  generalize w3.alloc (.cells #[.int .i64 1, .int .i64 1, .int .i64 2, .int .i64 0, .int .i64 0, .int .i64 0, .slice (some ⟨g8, 0, none⟩) 1 c8] 121) = W at *
  obtain ⟨sb, soff, rfl, hsb, hsc⟩ := hSh.2 (by omega)
  have hs1 := hsc 1 _ vSh1
  have hs5 := hsc 5 _ vSh5
  clear hsc hSh
  go_wp2_with (first
    | (go_at_call 71; have hx := hTo; clear hx; have hba := (Below.refl W.heap.size W).alloc (Nat.le_refl _) (.cells #[.int .i64 0] 3); (try replace hF := hF.below hba hF.lt); (try replace hG := hG.below hba hG.lt); (try replace hC := hC.below hba); (try replace hSh := (hSh.below hba).more hba.size); (try replace hTo := (hTo.below hba).more hba.size); (try replace hWh := (hWh.below hba).more hba.size); (try replace hD := (hD.below hba).more hba.size); (try replace hPl := (hPl.below hba).more hba.size); (try replace hBk := hBk.below hba); (try replace gX := gX.below hba gX.lt); replace hB := hB.trans (hba.mono hB.size); clear hba; refine (Same_any ATo (some ⟨W.heap.size, 0, none⟩) 1 1 cTo 1 [0] [0] _ (by unfold maxLen; omega) (by unfold maxLen; omega) (by exact hTo) (by exact Rd.blkN (Blk.new W 3 #[.int .i64 0]) rfl (by rw [World.size_alloc]; omega))).mono ?_; rintro e W ⟨rfl, hb⟩; rw [show sameL [0] [0] = true from rfl]; (try replace hF := hF.below hb hF.lt); (try replace hG := hG.below hb hG.lt); (try replace hC := hC.below hb); (try replace hSh := (hSh.below hb).more hb.size); (try replace hTo := (hTo.below hb).more hb.size); (try replace hWh := (hWh.below hb).more hb.size); (try replace hD := (hD.below hb).more hb.size); (try replace hPl := (hPl.below hb).more hb.size); (try replace hBk := hBk.below hb); (try replace gX := gX.below hb gX.lt); replace hB := hB.trans (hb.mono hB.size); clear hb; clear hTo)
    | (go_at_call 59; have hx := hWh; clear hx; have hba := (Below.refl W.heap.size W).alloc (Nat.le_refl _) (.cells #[.int .i64 3, .int .i64 1] 57); (try replace hF := hF.below hba hF.lt); (try replace hG := hG.below hba hG.lt); (try replace hC := hC.below hba); (try replace hSh := (hSh.below hba).more hba.size); (try replace hTo := (hTo.below hba).more hba.size); (try replace hWh := (hWh.below hba).more hba.size); (try replace hD := (hD.below hba).more hba.size); (try replace hPl := (hPl.below hba).more hba.size); (try replace hBk := hBk.below hba); (try replace gX := gX.below hba gX.lt); replace hB := hB.trans (hba.mono hB.size); clear hba; refine (SameWords_any AW (some ⟨W.heap.size, 0, none⟩) 2 2 cW 2 [3, 1] [3, 1] _ (by unfold maxLen; omega) (by unfold maxLen; omega) (by exact hWh) (by exact Rd.blkN (Blk.new W 57 #[.int .i64 3, .int .i64 1]) rfl (by rw [World.size_alloc]; omega))).mono ?_; rintro e W ⟨rfl, hb⟩; rw [show sameL [3, 1] [3, 1] = true from rfl]; (try replace hF := hF.below hb hF.lt); (try replace hG := hG.below hb hG.lt); (try replace hC := hC.below hb); (try replace hSh := (hSh.below hb).more hb.size); (try replace hTo := (hTo.below hb).more hb.size); (try replace hWh := (hWh.below hb).more hb.size); (try replace hD := (hD.below hb).more hb.size); (try replace hPl := (hPl.below hb).more hb.size); (try replace hBk := hBk.below hb); (try replace gX := gX.below hb gX.lt); replace hB := hB.trans (hb.mono hB.size); clear hb; clear hWh)
    | (go_at_call 71; have hx := hPl; clear hx; have hba := (Below.refl W.heap.size W).alloc (Nat.le_refl _) (.cells #[.int .i64 36] 3); (try replace hF := hF.below hba hF.lt); (try replace hG := hG.below hba hG.lt); (try replace hC := hC.below hba); (try replace hSh := (hSh.below hba).more hba.size); (try replace hTo := (hTo.below hba).more hba.size); (try replace hWh := (hWh.below hba).more hba.size); (try replace hD := (hD.below hba).more hba.size); (try replace hPl := (hPl.below hba).more hba.size); (try replace hBk := hBk.below hba); (try replace gX := gX.below hba gX.lt); replace hB := hB.trans (hba.mono hB.size); clear hba; refine (Same_any AP (some ⟨W.heap.size, 0, none⟩) 1 1 cP 1 [36] [36] _ (by unfold maxLen; omega) (by unfold maxLen; omega) (by exact hPl) (by exact Rd.blkN (Blk.new W 3 #[.int .i64 36]) rfl (by rw [World.size_alloc]; omega))).mono ?_; rintro e W ⟨rfl, hb⟩; rw [show sameL [36] [36] = true from rfl]; (try replace hF := hF.below hb hF.lt); (try replace hG := hG.below hb hG.lt); (try replace hC := hC.below hb); (try replace hSh := (hSh.below hb).more hb.size); (try replace hTo := (hTo.below hb).more hb.size); (try replace hWh := (hWh.below hb).more hb.size); (try replace hD := (hD.below hb).more hb.size); (try replace hPl := (hPl.below hb).more hb.size); (try replace hBk := hBk.below hb); (try replace gX := gX.below hb gX.lt); replace hB := hB.trans (hb.mono hB.size); clear hb; clear hPl; have hqX := fun i => gX.cell i; have hlX := gX.lt; have hfg := hBk.fig)
    | (go_at_call 86; go_loud (refine (refPrint_any (fun n => strOfNums [48 + n]) 1 1 2 0 0 0 (some ⟨g8, 0, none⟩) 1 c8 [⟨some ⟨g4, 0, none⟩, 1, c4, [⟨#[35]⟩]⟩] _ (by omega) hfg.1 (fun f hf => by rw [List.mem_singleton] at hf; subst hf; exact figSmall _ _) hfg.2 (fun x _ => by rw [strNum_size]; omega) (fun x hx W' => decimal_small x W' (dig x hx).1 (dig x hx).2) (vPrS _ _)).mono ?_; rintro e W ⟨rfl, hb⟩; rw [vPrint]; (try replace hF := hF.below hb hF.lt); (try replace hG := hG.below hb hG.lt); (try replace hC := hC.below hb); (try replace hSh := (hSh.below hb).more hb.size); (try replace hTo := (hTo.below hb).more hb.size); (try replace hWh := (hWh.below hb).more hb.size); (try replace hD := (hD.below hb).more hb.size); (try replace hPl := (hPl.below hb).more hb.size); (try replace hBk := hBk.below hb); (try replace gX := gX.below hb gX.lt); replace hB := hB.trans (hb.mono hB.size); clear hb)))
  go_ret
  exact ⟨rfl, hB⟩
end Go.Proofs.YtifddfchpknkbaaGreatDoor

namespace Go.Proofs.YtifddfchpknkbaaGreatDoor
open Go.RowKit

def shortB (rs : List ByteArray) : Bool := ((rs.take 20).all fun r => decide (r.size ≤ 20)) && decide (rs.length ≤ 18)
theorem take_at {α : Type} (l : List α) (m k : Nat) (hk : k < l.length) (hm : k < m) : ∃ h : k < (l.take m).length, (l.take m)[k] = l[k] :=
  ⟨by rw [List.length_take]; omega, by rw [List.getElem_take]⟩

set_option maxRecDepth 100000 in
set_option maxHeartbeats 800000 in
theorem short_any (A : Option Addr) (n cap : Nat) (rs : List ByteArray) (w : World) (hn : n ≤ maxLen) (hs : ∀ r ∈ rs, r.size ≤ maxLen) (hr : Rd w w.heap.size 1 A n (rs.map Value.string)) :
    Calls Tryz.prog 23 #[.slice A n cap] w fun e w' => e = .returned (.bool (shortB rs)) ∧ w = w' := by
  have hlen := hr.len
  unfold maxLen at hn hs
  have HLEN := Lib.hid hlen; clear hlen
  go_enter Tryz.func23, Tryz.ntmps23
  go_wp2
  go_loop [3] (fun i => ∃ (k : Nat), k ≤ n ∧ k ≤ 20 ∧ i = .int .i64 k ∧ ((rs.take 20).drop k).all (fun r => decide (r.size ≤ 20)) = (rs.take 20).all (fun r => decide (r.size ≤ 20))) (fun i => 20 - (intOf i).toNat)
  case atStart => exact ⟨0, Nat.zero_le _, Nat.zero_le _, rfl, rfl⟩
  case round =>
    obtain ⟨k, hk, hk2, rfl, ha⟩ := hrel
    by_cases hlt : k < n
    · by_cases h20 : k < 20
      · obtain ⟨cb, coff, hz, rfl, hcb, hcc⟩ := hr.atm hlt
        obtain ⟨hz2, hze⟩ := take_at rs 20 k hz h20
        have hd := all_drop (fun r : ByteArray => decide (r.size ≤ 20)) (rs.take 20) k hz2
        rw [ha, hze] at hd
        have hsz := hs _ (List.getElem_mem hz)
        generalize rs[k] = r at *
        have HD := Lib.hid hd; clear hd ha hze
        by_cases h3 : r.size ≤ 20
        · have h3i : ¬ (20 : Int) < r.size := by omega
          have hdd : decide (r.size ≤ 20) = true := decide_eq_true h3
          have HDD := Lib.hid hdd; clear hdd
          go_wp2
          go_round
          case rel => exact ⟨k + 1, by omega, by omega, by go_num, by rw [HD.out, HDD.out]; rfl⟩
          case measure => simp [intOf]; omega
        · have h3i : (20 : Int) < r.size := by omega
          have hdd : decide (r.size ≤ 20) = false := decide_eq_false h3
          have HDD := Lib.hid hdd; clear hdd
          go_wp2
          go_ret
          exact ⟨ret_bool (by unfold shortB; rw [HD.out, HDD.out]; rfl), rfl⟩
      · have hk20 : k = 20 := by omega
        have hd : (rs.take 20).drop k = [] := List.drop_of_length_le (by rw [List.length_take]; omega)
        rw [hd] at ha
        have HA := Lib.hid ha; clear ha hd
        have hn18 : ¬ (n : Int) ≤ 18 := by omega
        have hn18n : ¬ n ≤ 18 := by omega
        go_wp2
        go_ret
        exact ⟨ret_bool (by unfold shortB; rw [HLEN.out, decide_eq_false hn18n, Bool.and_false]), rfl⟩
    · have hkn : k = n := by omega
      subst hkn
      have hd : (rs.take 20).drop k = [] := List.drop_of_length_le (by rw [List.length_take, HLEN.out]; omega)
      rw [hd] at ha
      have HA := Lib.hid ha; clear ha hd
      by_cases h18 : k ≤ 18
      · have h18i : (k : Int) ≤ 18 := by omega
        go_wp2
        go_ret
        exact ⟨ret_bool (by unfold shortB; rw [HLEN.out, decide_eq_true h18, ← HA.out]; rfl), rfl⟩
      · have h18i : ¬ (k : Int) ≤ 18 := by omega
        go_wp2
        go_ret
        exact ⟨ret_bool (by unfold shortB; rw [HLEN.out, decide_eq_false h18, Bool.and_false]), rfl⟩

def fewB (fs : List Fig) : Bool := ((fs.take 9).all fun f => shortB f.rows) && decide (fs.length ≤ 8)

set_option maxRecDepth 100000 in
set_option maxHeartbeats 800000 in
theorem few_any (A : Option Addr) (n cap : Nat) (fs : List Fig) (w : World) (hn : n ≤ maxLen) (hf : ∀ f ∈ fs, f.ok w w.heap.size) (hr : Rd w w.heap.size 1 A n (fs.map Fig.val)) :
    Calls Tryz.prog 39 #[.slice A n cap] w fun e w' => e = .returned (.bool (fewB fs)) ∧ w = w' := by
  have hlen := hr.len
  unfold maxLen at hn
  have HLEN := Lib.hid hlen; clear hlen
  go_enter Tryz.func39, Tryz.ntmps39
  go_wp2
  go_loop [3] (fun i => ∃ (k : Nat), k ≤ n ∧ k ≤ 9 ∧ i = .int .i64 k ∧ ((fs.take 9).drop k).all (fun f => shortB f.rows) = (fs.take 9).all (fun f => shortB f.rows)) (fun i => 9 - (intOf i).toNat)
  case atStart => exact ⟨0, Nat.zero_le _, Nat.zero_le _, rfl, rfl⟩
  case round =>
    obtain ⟨k, hk, hk2, rfl, ha⟩ := hrel
    by_cases hlt : k < n
    · by_cases h20 : k < 9
      · obtain ⟨cb, coff, hz, rfl, hcb, hcc⟩ := hr.atm hlt
        obtain ⟨hz2, hze⟩ := take_at fs 9 k hz h20
        have hd := all_drop (fun f : Fig => shortB f.rows) (fs.take 9) k hz2
        rw [ha, hze] at hd
        have hfk := hf _ (List.getElem_mem hz)
        generalize fs[k] = f at *
        obtain ⟨FA, fn, fcap, frs⟩ := f
        obtain ⟨hf1, hf2, hf3, hfr⟩ := hfk
        simp only [Fig.val] at *
        have hfn : fn ≤ maxLen := Nat.le_trans hf1 hf2
        have HD := Lib.hid hd; clear hd ha hze
        cases hsb : shortB frs
        · go_wp2_with (go_at_call 23; refine (short_any FA fn fcap frs _ hfn hf3 hfr).mono ?_; rintro e w1 ⟨rfl, rfl⟩; rw [hsb])
          go_ret
          exact ⟨ret_bool (by unfold fewB; rw [HD.out, hsb]; rfl), rfl⟩
        · go_wp2_with (go_at_call 23; refine (short_any FA fn fcap frs _ hfn hf3 hfr).mono ?_; rintro e w1 ⟨rfl, rfl⟩; rw [hsb])
          go_round
          case rel => exact ⟨k + 1, by omega, by omega, by go_num, by rw [HD.out, hsb]; rfl⟩
          case measure => simp [intOf]; omega
      · have hk20 : k = 9 := by omega
        have hn18 : ¬ (n : Int) ≤ 8 := by omega
        have hn18n : ¬ n ≤ 8 := by omega
        clear ha
        go_wp2
        go_ret
        exact ⟨ret_bool (by unfold fewB; rw [HLEN.out, decide_eq_false hn18n, Bool.and_false]), rfl⟩
    · have hkn : k = n := by omega
      subst hkn
      have hd : (fs.take 9).drop k = [] := List.drop_of_length_le (by rw [List.length_take, HLEN.out]; omega)
      rw [hd] at ha
      have HA := Lib.hid ha; clear ha hd
      by_cases h18 : k ≤ 8
      · have h18i : (k : Int) ≤ 8 := by omega
        go_wp2
        go_ret
        exact ⟨ret_bool (by unfold fewB; rw [HLEN.out, decide_eq_true h18, ← HA.out]; rfl), rfl⟩
      · have h18i : ¬ (k : Int) ≤ 8 := by omega
        go_wp2
        go_ret
        exact ⟨ret_bool (by unfold fewB; rw [HLEN.out, decide_eq_false h18, Bool.and_false]), rfl⟩
end Go.Proofs.YtifddfchpknkbaaGreatDoor
