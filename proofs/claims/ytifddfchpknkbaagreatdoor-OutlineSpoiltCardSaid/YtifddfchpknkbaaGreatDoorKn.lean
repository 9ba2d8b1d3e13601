import Derived.Test.YtifddfchpknkbaaGreatDoorMl
import Derived.Test.YtifddfchpknkbaaGreatDoorPf
import Derived.Test.YtifddfchpknkbaaGreatDoorZ
import Derived.Test.YtifddfchpknkbaaGreatDoorNx
import Derived.Test.YtifddfchpknkbaaGreatDoorP
set_option linter.unusedVariables false
set_option linter.unusedSimpArgs false
namespace Go.Proofs.YtifddfchpknkbaaGreatDoor
open Go.RowKit

theorem ltr_get {r : ByteArray} {k : Nat} {z : Int} (h : (ltr r)[k]? = some z) : ∃ hk : k < r.size, ((r[k]'hk).toNat : Int) = z := by
  obtain ⟨h1, h2⟩ := List.getElem?_eq_some_iff.1 h
  have hk : k < r.size := by rw [ltr_len] at h1; exact h1
  exact ⟨hk, by rw [← ltr_at r k hk]; exact h2⟩

set_option maxRecDepth 1000000 in
set_option maxHeartbeats 1600000 in
theorem Cell_any (Wn : Nat) (H F L X Y : Int) (A : Option Addr) (n cap : Nat) (rs : List ByteArray) (r : ByteArray) (k : Nat) (z : Int) (w : World) (hW : 1 ≤ Wn) (hW2 : Wn ≤ 100) (hk2 : k ≤ 10000) (hz : rs[k / Wn]? = some r) (hz2 : (ltr r)[k % Wn]? = some z) (hsz : r.size ≤ 10000) (hr : Rd w w.heap.size 1 A n (rs.map Value.string)) :
    Calls Tryz.prog 66 #[.agg #[.int .i64 Wn, .int .i64 H, .int .i64 F, .int .i64 L, .int .i64 X, .int .i64 Y], .slice A n cap, .int .i64 k] w fun e w' => e = .returned (.int .u8 z) ∧ Below w.heap.size w w' := by
  have hlen := hr.len
  obtain ⟨hin, hget⟩ := List.getElem?_eq_some_iff.1 hz
  obtain ⟨b, off, hzz, rfl, hb, hc⟩ := hr.atm (k := k / Wn) (by omega)
  rw [hget] at hc
  obtain ⟨hk, hzv⟩ := ltr_get hz2
  have hkn : k / Wn < n := by omega
  have hq1 : k / Wn ≤ k := Nat.div_le_self _ _
  have HZ := Lib.hid hzv; clear hzv hz hz2 hget hlen
  have ed : (k : Int).tdiv (Wn : Int) = ((k / Wn : Nat) : Int) := rfl
  have em : (k : Int).tmod (Wn : Int) = ((k % Wn : Nat) : Int) := rfl
  have hW0 : ¬ Wn = 0 := by omega
  generalize k % Wn = kc at *
  generalize k / Wn = km at *
  clear hzz hin
  have ed2 := i64_ok (km : Int) (by omega)
  have hB : Below w.heap.size w (w.alloc (.cells #[.int .i64 Wn, .int .i64 H, .int .i64 F, .int .i64 L, .int .i64 X, .int .i64 Y] 23)) := (Below.refl _ w).alloc (Nat.le_refl _) _
  have hbf := Blk.new w 23 #[.int .i64 Wn, .int .i64 H, .int .i64 F, .int .i64 L, .int .i64 X, .int .i64 Y]
  have hcc := (hB.cell (p := ⟨b, off + km, none⟩) hb).trans hc
  have hkn2 : (km : Int) < n := by omega
  have hk3 : (kc : Int) < r.size := by omega
  go_enter Tryz.func66, Tryz.ntmps66
  go_upto_region 1 with (fail)
  generalize w.alloc (.cells #[.int .i64 Wn, .int .i64 H, .int .i64 F, .int .i64 L, .int .i64 X, .int .i64 Y] 23) = W0 at *
  have hbb := fun p i => blw_blk hbf p i
  have hbc : ∀ p : Blw W0.heap.size W0, p.to.cell? ⟨b, off + km, none⟩ = some (.string r) := fun p => (p.h.cell (p := ⟨b, off + km, none⟩) (Nat.lt_of_lt_of_le hb hB.size)).trans hcc
  refine wp_region_blw (by kernel_rfl) (by kernel_rfl) ?_
  repeat (go_big_quiet_step (fail))
  refine wpQuiet_nil ?_
  rintro W3 ⟨⟨_, hb3⟩, rfl⟩
  replace hB := hB.trans (hb3.mono hB.size)
  go_wp2_with (fail)
  go_ret
  exact ⟨by rw [← HZ.out]; rfl, hB⟩
end Go.Proofs.YtifddfchpknkbaaGreatDoor

namespace Go.Proofs.YtifddfchpknkbaaGreatDoor
open Go.RowKit Go.Lib

def CompAt (w : World) (A : Option Addr) (gf gh : Nat) : Prop := (∀ f ∈ kfs (some ⟨gf, 0, none⟩) (some ⟨gh, 0, none⟩) 2 2, f.ok w w.heap.size) ∧ Rd w w.heap.size 1 A 2 ((kfs (some ⟨gf, 0, none⟩) (some ⟨gh, 0, none⟩) 2 2).map Fig.val)
theorem CompAt.below {w w' : World} {A : Option Addr} {gf gh : Nat} (h : CompAt w A gf gh) (hb : Below w.heap.size w w') : CompAt w' A gf gh :=
  ⟨fun f hf => ((h.1 f hf).below hb).more hb.size, (h.2.below hb).more hb.size⟩
theorem kFs : ∀ r ∈ kF, r.size ≤ maxLen := by unfold maxLen; decide
theorem kHs : ∀ r ∈ kH, r.size ≤ maxLen := by unfold maxLen; decide
theorem dRs : ∀ r ∈ dRows, r.size ≤ maxLen := by unfold maxLen; decide
theorem nRs : ∀ r ∈ List.replicate 8 blankRow, r.size ≤ maxLen := by unfold maxLen; decide
theorem vShL : (shadowRows 8 8 8 1 4 4 4 3 3 kH).length = 8 := by kernel_rfl
theorem vSh1 : ((shadowRows 8 8 8 1 4 4 4 3 3 kH).map Value.string)[1]? = some (.string ⟨#[46, 43, 43, 43, 43, 43, 43, 46]⟩) := by kernel_rfl
theorem vSh5 : ((shadowRows 8 8 8 1 4 4 4 3 3 kH).map Value.string)[5]? = some (.string ⟨#[46, 43, 43, 43, 43, 46, 46, 46]⟩) := by kernel_rfl
theorem vErr : errV (viewB 8 8 8 1 4 4 4 3 3 kH) = .int .i64 0 := by rw [vView]; rfl
theorem CompAt.new {w : World} {gf gh : Nat} (hF : Blk w gf 9 #[.string ⟨#[35, 35]⟩, .string ⟨#[35, 35]⟩]) (hG : Blk w gh 9 #[.string ⟨#[35, 35]⟩, .string ⟨#[35, 46]⟩]) : CompAt (w.alloc (.cells #[.slice (some ⟨gf, 0, none⟩) 2 2, .slice (some ⟨gh, 0, none⟩) 2 2] 26)) (some ⟨w.heap.size, 0, none⟩) gf gh := by
  have hb : Below w.heap.size w (w.alloc (.cells #[.slice (some ⟨gf, 0, none⟩) 2 2, .slice (some ⟨gh, 0, none⟩) 2 2] 26)) := (Below.refl _ w).alloc (Nat.le_refl _) _
  have h1 : Rd w w.heap.size 1 (some ⟨gf, 0, none⟩) 2 (kF.map Value.string) := Rd.blkN hF rfl hF.lt
  have h2 : Rd w w.heap.size 1 (some ⟨gh, 0, none⟩) 2 (kH.map Value.string) := Rd.blkN hG rfl hG.lt
  refine ⟨fun f hf => ?_, Rd.blkN (Blk.new w 26 #[.slice (some ⟨gf, 0, none⟩) 2 2, .slice (some ⟨gh, 0, none⟩) 2 2]) rfl (by rw [World.size_alloc]; omega)⟩
  rcases List.mem_cons.1 hf with rfl | hf
  · exact ⟨Nat.le_refl _, (show (2 : Nat) ≤ maxLen by unfold maxLen; omega), kFs, (h1.below hb).more hb.size⟩
  · rw [List.mem_singleton] at hf
    subst hf
    exact ⟨Nat.le_refl _, (show (2 : Nat) ≤ maxLen by unfold maxLen; omega), kHs, (h2.below hb).more hb.size⟩
theorem figSmall (A : Option Addr) (c : Nat) : (⟨A, 1, c, [⟨#[35]⟩]⟩ : Fig).rows.length ≤ 100 ∧ ∀ r ∈ (⟨A, 1, c, [⟨#[35]⟩]⟩ : Fig).rows, r.size ≤ 100 := by
  refine ⟨(show (1 : Nat) ≤ 100 by omega), fun r hr => ?_⟩
  have hr2 : r = ⟨#[35]⟩ := by simpa using hr
  subst hr2
  decide
theorem dig : ∀ x ∈ ([1, 1, 2, 0, 0, 0] : List Int), 0 ≤ x ∧ x < 10 := by decide
theorem vPrS (A : Option Addr) (c : Nat) : 0 ≤ sumA (bookR (fun n => strOfNums [48 + n]) 1 1 2 0 0 0 [⟨A, 1, c, [⟨#[35]⟩]⟩]) 0 0 := by
  have h : sumA (bookR (fun n => strOfNums [48 + n]) 1 1 2 0 0 0 [⟨A, 1, c, [⟨#[35]⟩]⟩]) 0 0 = 12699 := by kernel_rfl
  rw [h]; omega
theorem vPrint (A : Option Addr) (c : Nat) : linesS (bookR (fun n => strOfNums [48 + n]) 1 1 2 0 0 0 [⟨A, 1, c, [⟨#[35]⟩]⟩]) ⟨#[]⟩ ++ ⟨#[101, 110, 100, 32]⟩ ++ strOfNums [48 + (sumA (bookR (fun n => strOfNums [48 + n]) 1 1 2 0 0 0 [⟨A, 1, c, [⟨#[35]⟩]⟩]) 0 0 % 173) / 100] ++ strOfNums [48 + (sumA (bookR (fun n => strOfNums [48 + n]) 1 1 2 0 0 0 [⟨A, 1, c, [⟨#[35]⟩]⟩]) 0 0 % 173) / 10 % 10] ++ strOfNums [48 + (sumA (bookR (fun n => strOfNums [48 + n]) 1 1 2 0 0 0 [⟨A, 1, c, [⟨#[35]⟩]⟩]) 0 0 % 173) % 10] ++ ⟨#[10]⟩ = ⟨#[115, 116, 97, 103, 101, 32, 49, 32, 49, 32, 50, 32, 48, 32, 48, 32, 48, 10, 102, 105, 103, 117, 114, 101, 32, 35, 10, 101, 110, 100, 32, 48, 55, 48, 10]⟩ := by kernel_rfl

set_option maxRecDepth 100000 in
set_option maxHeartbeats 6400000 in
theorem known_true (m : Int) (w : World) (hm : w.cell? ⟨0, 0, none⟩ = some (.int .i64 m)) : Calls Tryz.prog 24 #[] w fun e w' => e = .returned (.bool true) ∧ Below w.heap.size w w' := by
  have h00 : 0 < w.heap.size := block_lt_of_cell hm
  have hmB : ∀ w', Below w.heap.size w w' → w'.cell? ⟨0, 0, none⟩ = some (.int .i64 m) := fun w' hb => (hb.cell (p := ⟨0, 0, none⟩) h00).trans hm
  have hB : Below w.heap.size w w := Below.refl _ _
  go_enter Tryz.func24, Tryz.ntmps24
  go_upto_region 2 with (first | (go_at_call 89; refine (F_fun _).mono ?_; rintro e w1 ⟨gf, rfl, _, hF, hb⟩; replace hB := hB.trans (hb.mono hB.size); clear hb) | (go_at_call 90; refine (H_fun _).mono ?_; rintro e w1 ⟨gh, rfl, _, hG, hb⟩; replace hF := hF.below hb hF.lt; replace hB := hB.trans (hb.mono hB.size); clear hb))
  have hC := CompAt.new hF hG
  replace hB := hB.alloc hB.size (.cells #[.slice (some ⟨gf, 0, none⟩) 2 2, .slice (some ⟨gh, 0, none⟩) 2 2] 26)
  clear hF hG
  go_upto_region 13 with (first
    | (go_at_call 91; refine (T_fun _).mono ?_; rintro e w1 ⟨rfl, hb⟩; (try replace hF := hF.below hb hF.lt); (try replace hG := hG.below hb hG.lt); (try replace hC := hC.below hb); (try replace hSh := (hSh.below hb).more hb.size); (try replace hTo := (hTo.below hb).more hb.size); (try replace hWh := (hWh.below hb).more hb.size); (try replace hD := (hD.below hb).more hb.size); (try replace hPl := (hPl.below hb).more hb.size); (try replace hBk := hBk.below hb); (try replace gX := gX.below hb gX.lt); replace hB := hB.trans (hb.mono hB.size); clear hb)
    | (go_at_call 89; refine (F_fun _).mono ?_; rintro e w1 ⟨g1, rfl, _, hF1, hb⟩; (try replace hF := hF.below hb hF.lt); (try replace hG := hG.below hb hG.lt); (try replace hC := hC.below hb); (try replace hSh := (hSh.below hb).more hb.size); (try replace hTo := (hTo.below hb).more hb.size); (try replace hWh := (hWh.below hb).more hb.size); (try replace hD := (hD.below hb).more hb.size); (try replace hPl := (hPl.below hb).more hb.size); (try replace hBk := hBk.below hb); (try replace gX := gX.below hb gX.lt); replace hB := hB.trans (hb.mono hB.size); clear hb; first | (have hG := hF; clear hF; have hF := hF1; clear hF1) | (have hF := hF1; clear hF1))
    | (go_at_call 90; refine (H_fun _).mono ?_; rintro e w1 ⟨g1, rfl, _, hF1, hb⟩; (try replace hF := hF.below hb hF.lt); (try replace hG := hG.below hb hG.lt); (try replace hC := hC.below hb); (try replace hSh := (hSh.below hb).more hb.size); (try replace hTo := (hTo.below hb).more hb.size); (try replace hWh := (hWh.below hb).more hb.size); (try replace hD := (hD.below hb).more hb.size); (try replace hPl := (hPl.below hb).more hb.size); (try replace hBk := hBk.below hb); (try replace gX := gX.below hb gX.lt); replace hB := hB.trans (hb.mono hB.size); clear hb; first | (have hG := hF; clear hF; have hF := hF1; clear hF1) | (have hF := hF1; clear hF1))
    | (go_at_call 38; refine (at_fun _ _ _ _).mono ?_; rintro e w1 ⟨rfl, hb⟩; (try replace hF := hF.below hb hF.lt); (try replace hG := hG.below hb hG.lt); (try replace hC := hC.below hb); (try replace hSh := (hSh.below hb).more hb.size); (try replace hTo := (hTo.below hb).more hb.size); (try replace hWh := (hWh.below hb).more hb.size); (try replace hD := (hD.below hb).more hb.size); (try replace hPl := (hPl.below hb).more hb.size); (try replace hBk := hBk.below hb); (try replace gX := gX.below hb gX.lt); replace hB := hB.trans (hb.mono hB.size); clear hb)
    | (go_at_call 92; refine (R_fun _).mono ?_; rintro e w1 ⟨rfl, hb⟩; (try replace hF := hF.below hb hF.lt); (try replace hG := hG.below hb hG.lt); (try replace hC := hC.below hb); (try replace hSh := (hSh.below hb).more hb.size); (try replace hTo := (hTo.below hb).more hb.size); (try replace hWh := (hWh.below hb).more hb.size); (try replace hD := (hD.below hb).more hb.size); (try replace hPl := (hPl.below hb).more hb.size); (try replace hBk := hBk.below hb); (try replace gX := gX.below hb gX.lt); replace hB := hB.trans (hb.mono hB.size); clear hb)
    | (go_at_call 93; refine (S_fun _).mono ?_; rintro e w1 ⟨rfl, hb⟩; (try replace hF := hF.below hb hF.lt); (try replace hG := hG.below hb hG.lt); (try replace hC := hC.below hb); (try replace hSh := (hSh.below hb).more hb.size); (try replace hTo := (hTo.below hb).more hb.size); (try replace hWh := (hWh.below hb).more hb.size); (try replace hD := (hD.below hb).more hb.size); (try replace hPl := (hPl.below hb).more hb.size); (try replace hBk := hBk.below hb); (try replace gX := gX.below hb gX.lt); replace hB := hB.trans (hb.mono hB.size); clear hb)
    | (go_at_call 30; go_loud (refine (Counts_any 8 8 8 1 4 4 4 3 3 _ 2 2 kF _ (by omega) (by unfold maxLen; omega) kFs (by exact Rd.blkN hF rfl hF.lt)).mono ?_; rintro e w1 ⟨rfl, hb⟩; rw [vCounts]; (try replace hF := hF.below hb hF.lt); (try replace hG := hG.below hb hG.lt); (try replace hC := hC.below hb); (try replace hSh := (hSh.below hb).more hb.size); (try replace hTo := (hTo.below hb).more hb.size); (try replace hWh := (hWh.below hb).more hb.size); (try replace hD := (hD.below hb).more hb.size); (try replace hPl := (hPl.below hb).more hb.size); (try replace hBk := hBk.below hb); (try replace gX := gX.below hb gX.lt); replace hB := hB.trans (hb.mono hB.size); clear hb; clear hF))
    | (go_at_call 29; refine (Shadow_any 8 8 8 1 4 4 4 3 3 _ 2 2 kH _ (by omega) (by unfold maxLen; omega) kHs (by exact Rd.blkN hF rfl hF.lt)).mono ?_; rintro e w1 ⟨v, rfl, ownS, hb⟩; rw [vErr]; rw [vShL] at ownS; (try replace hF := hF.below hb hF.lt); (try replace hG := hG.below hb hG.lt); (try replace hC := hC.below hb); (try replace hSh := (hSh.below hb).more hb.size); (try replace hTo := (hTo.below hb).more hb.size); (try replace hWh := (hWh.below hb).more hb.size); (try replace hD := (hD.below hb).more hb.size); (try replace hPl := (hPl.below hb).more hb.size); (try replace hBk := hBk.below hb); (try replace gX := gX.below hb gX.lt); replace hB := hB.trans (hb.mono hB.size); clear hb; clear hF; obtain ⟨AS, cS, rfl⟩ := own_slice ownS; have hSh := Rd.of_own ownS; clear ownS)
    | (go_at_call 44; refine (Meets_any 8 8 8 1 4 4 1 3 3 _ 2 2 kF 1 5 3 _ 2 2 kF _ (by omega) (by unfold maxLen; omega) kFs (by exact Rd.blkN hG rfl hG.lt) (by omega) (by unfold maxLen; omega) kFs (by exact Rd.blkN hF rfl hF.lt)).mono ?_; rintro e w1 ⟨rfl, hb⟩; rw [vMeets]; (try replace hF := hF.below hb hF.lt); (try replace hG := hG.below hb hG.lt); (try replace hC := hC.below hb); (try replace hSh := (hSh.below hb).more hb.size); (try replace hTo := (hTo.below hb).more hb.size); (try replace hWh := (hWh.below hb).more hb.size); (try replace hD := (hD.below hb).more hb.size); (try replace hPl := (hPl.below hb).more hb.size); (try replace hBk := hBk.below hb); (try replace gX := gX.below hb gX.lt); replace hB := hB.trans (hb.mono hB.size); clear hb; clear hF hG)
    | (go_at_call 47; refine (Most_any 8 8 8 1 4 4 3 3 _ 2 2 kF _ (by omega) (by unfold maxLen; omega) kFs (by exact Rd.blkN hF rfl hF.lt)).mono ?_; rintro e w1 ⟨rfl, hb⟩; rw [vMost]; (try replace hF := hF.below hb hF.lt); (try replace hG := hG.below hb hG.lt); (try replace hC := hC.below hb); (try replace hSh := (hSh.below hb).more hb.size); (try replace hTo := (hTo.below hb).more hb.size); (try replace hWh := (hWh.below hb).more hb.size); (try replace hD := (hD.below hb).more hb.size); (try replace hPl := (hPl.below hb).more hb.size); (try replace hBk := hBk.below hb); (try replace gX := gX.below hb gX.lt); replace hB := hB.trans (hb.mono hB.size); clear hb; clear hF)
    | (go_at_call 48; refine (Fades_any 8 8 8 1 4 4 3 3 _ 2 2 kH _ (by omega) (by unfold maxLen; omega) kHs (by exact Rd.blkN hF rfl hF.lt)).mono ?_; rintro e w1 ⟨rfl, hb⟩; rw [vFades]; (try replace hF := hF.below hb hF.lt); (try replace hG := hG.below hb hG.lt); (try replace hC := hC.below hb); (try replace hSh := (hSh.below hb).more hb.size); (try replace hTo := (hTo.below hb).more hb.size); (try replace hWh := (hWh.below hb).more hb.size); (try replace hD := (hD.below hb).more hb.size); (try replace hPl := (hPl.below hb).more hb.size); (try replace hBk := hBk.below hb); (try replace gX := gX.below hb gX.lt); replace hB := hB.trans (hb.mono hB.size); clear hb; clear hF)
    | (go_at_call 68; refine (Mistaken_any 8 8 8 1 4 4 0 1 3 3 3 _ 2 2 (kfs (some ⟨gf, 0, none⟩) (some ⟨gh, 0, none⟩) 2 2) _ (by omega) (by unfold maxLen; omega) hC.1 hC.2).mono ?_; rintro e w1 ⟨rfl, hb⟩; rw [vMist]; (try replace hF := hF.below hb hF.lt); (try replace hG := hG.below hb hG.lt); (try replace hC := hC.below hb); (try replace hSh := (hSh.below hb).more hb.size); (try replace hTo := (hTo.below hb).more hb.size); (try replace hWh := (hWh.below hb).more hb.size); (try replace hD := (hD.below hb).more hb.size); (try replace hPl := (hPl.below hb).more hb.size); (try replace hBk := hBk.below hb); (try replace gX := gX.below hb gX.lt); replace hB := hB.trans (hb.mono hB.size); clear hb)
    | (go_at_call 69; refine (Told_any 8 8 8 1 4 4 0 1 3 3 3 _ 2 2 (kfs (some ⟨gf, 0, none⟩) (some ⟨gh, 0, none⟩) 2 2) 1 _ (by omega) (by unfold maxLen; omega) hC.1 hC.2).mono ?_; rintro e w1 ⟨v, rfl, ⟨ATo, nTo, cTo, rfl, hto1, hto2, hTo1⟩, hb⟩; rw [vToldE]; rw [vToldR] at hTo1; obtain rfl : nTo = 1 := (hTo1.len).symm; (try replace hF := hF.below hb hF.lt); (try replace hG := hG.below hb hG.lt); (try replace hC := hC.below hb); (try replace hSh := (hSh.below hb).more hb.size); (try replace hTo := (hTo.below hb).more hb.size); (try replace hWh := (hWh.below hb).more hb.size); (try replace hD := (hD.below hb).more hb.size); (try replace hPl := (hPl.below hb).more hb.size); (try replace hBk := hBk.below hb); (try replace gX := gX.below hb gX.lt); replace hB := hB.trans (hb.mono hB.size); clear hb; have hTo := hTo1; clear hTo1)
    | (go_at_call 94; refine (D_fun _).mono ?_; rintro e w1 ⟨v, rfl, ⟨AD, nD, cD, rfl, hd1, hd2, hD1⟩, hb⟩; obtain rfl : nD = 8 := (hD1.len).symm; (try replace hF := hF.below hb hF.lt); (try replace hG := hG.below hb hG.lt); (try replace hC := hC.below hb); (try replace hSh := (hSh.below hb).more hb.size); (try replace hTo := (hTo.below hb).more hb.size); (try replace hWh := (hWh.below hb).more hb.size); (try replace hD := (hD.below hb).more hb.size); (try replace hPl := (hPl.below hb).more hb.size); (try replace hBk := hBk.below hb); (try replace gX := gX.below hb gX.lt); replace hB := hB.trans (hb.mono hB.size); clear hb; have hD := hD1; clear hD1)
    | (go_at_call 95; refine (N_fun _).mono ?_; rintro e w1 ⟨v, rfl, ownN, hb⟩; (try replace hF := hF.below hb hF.lt); (try replace hG := hG.below hb hG.lt); (try replace hC := hC.below hb); (try replace hSh := (hSh.below hb).more hb.size); (try replace hTo := (hTo.below hb).more hb.size); (try replace hWh := (hWh.below hb).more hb.size); (try replace hD := (hD.below hb).more hb.size); (try replace hPl := (hPl.below hb).more hb.size); (try replace hBk := hBk.below hb); (try replace gX := gX.below hb gX.lt); replace hB := hB.trans (hb.mono hB.size); clear hb; obtain ⟨AN, cN, rfl⟩ := own_slice ownN; have hn1 := own_le0 ownN; have hn2 := own_cap ownN; have hN := Rd.of_own ownN; clear ownN)
    | (go_at_call 53; refine (Who_any 8 8 8 0 4 4 0 1 3 3 3 _ 2 2 (kfs (some ⟨gf, 0, none⟩) (some ⟨gh, 0, none⟩) 2 2) AD 8 cD dRows _ (by omega) (by unfold maxLen; omega) hC.1 hC.2 hd1 hd2 dRs hD).mono ?_; rintro e w1 ⟨v, rfl, ⟨AW, nW, cW, rfl, hw1, hw2, hWh1⟩, hb⟩; rw [vWhoE]; rw [vWhoL] at hWh1; obtain rfl : nW = 2 := (hWh1.len).symm; (try replace hF := hF.below hb hF.lt); (try replace hG := hG.below hb hG.lt); (try replace hC := hC.below hb); (try replace hSh := (hSh.below hb).more hb.size); (try replace hTo := (hTo.below hb).more hb.size); (try replace hWh := (hWh.below hb).more hb.size); (try replace hD := (hD.below hb).more hb.size); (try replace hPl := (hPl.below hb).more hb.size); (try replace hBk := hBk.below hb); (try replace gX := gX.below hb gX.lt); replace hB := hB.trans (hb.mono hB.size); clear hb; clear hD; have hWh := hWh1; clear hWh1)
    | (go_at_call 63; refine (Next_any 8 8 8 0 4 4 0 1 3 3 3 _ 2 2 (kfs (some ⟨gf, 0, none⟩) (some ⟨gh, 0, none⟩) 2 2) AN 8 cN (List.replicate 8 blankRow) _ (by omega) (by unfold maxLen; omega) hC.1 hC.2 hn1 hn2 nRs hN).mono ?_; rintro e w1 ⟨rfl, hb⟩; rw [vNextP, vNextE]; (try replace hF := hF.below hb hF.lt); (try replace hG := hG.below hb hG.lt); (try replace hC := hC.below hb); (try replace hSh := (hSh.below hb).more hb.size); (try replace hTo := (hTo.below hb).more hb.size); (try replace hWh := (hWh.below hb).more hb.size); (try replace hD := (hD.below hb).more hb.size); (try replace hPl := (hPl.below hb).more hb.size); (try replace hBk := hBk.below hb); (try replace gX := gX.below hb gX.lt); replace hB := hB.trans (hb.mono hB.size); clear hb; clear hN)
    | (go_at_call 75; have hba := (Below.refl w1.heap.size w1).alloc (Nat.le_refl _) (.cells #[.int .i64 0, .int .i64 27, .int .i64 36] 3); (try replace hF := hF.below hba hF.lt); (try replace hG := hG.below hba hG.lt); (try replace hC := hC.below hba); (try replace hSh := (hSh.below hba).more hba.size); (try replace hTo := (hTo.below hba).more hba.size); (try replace hWh := (hWh.below hba).more hba.size); (try replace hD := (hD.below hba).more hba.size); (try replace hPl := (hPl.below hba).more hba.size); (try replace hBk := hBk.below hba); (try replace gX := gX.below hba gX.lt); replace hB := hB.trans (hba.mono hB.size); clear hba; refine (Plan_any 8 8 8 0 4 4 0 1 3 3 3 _ 2 2 (kfs (some ⟨gf, 0, none⟩) (some ⟨gh, 0, none⟩) 2 2) _ 3 3 [0, 27, 36] _ (by omega) (by unfold maxLen; omega) hC.1 hC.2 (by unfold maxLen; omega) (by exact Rd.blkN (Blk.new w1 3 #[.int .i64 0, .int .i64 27, .int .i64 36]) rfl (by rw [World.size_alloc]; omega)) (fun _ => by rw [vDif]; omega)).mono ?_; rintro e w2 ⟨v, rfl, ⟨AP, nP, cP, rfl, hp1, hp2, hPl1⟩, hb⟩; rw [vPlanE]; rw [vPlanL] at hPl1; obtain rfl : nP = 1 := (hPl1.len).symm; (try replace hF := hF.below hb hF.lt); (try replace hG := hG.below hb hG.lt); (try replace hC := hC.below hb); (try replace hSh := (hSh.below hb).more hb.size); (try replace hTo := (hTo.below hb).more hb.size); (try replace hWh := (hWh.below hb).more hb.size); (try replace hD := (hD.below hb).more hb.size); (try replace hPl := (hPl.below hb).more hb.size); (try replace hBk := hBk.below hb); (try replace gX := gX.below hb gX.lt); replace hB := hB.trans (hb.mono hB.size); clear hb; have hPl := hPl1; clear hPl1)
    | (go_at_call 85; refine (readText m _ (hmB _ hB)).mono ?_; rintro e w3 ⟨g8, c8, g4, c4, rfl, hBk, hb⟩; (try replace hF := hF.below hb hF.lt); (try replace hG := hG.below hb hG.lt); (try replace hC := hC.below hb); (try replace hSh := (hSh.below hb).more hb.size); (try replace hTo := (hTo.below hb).more hb.size); (try replace hWh := (hWh.below hb).more hb.size); (try replace hD := (hD.below hb).more hb.size); (try replace hPl := (hPl.below hb).more hb.size); (try replace hBk := hBk.below hb); (try replace gX := gX.below hb gX.lt); replace hB := hB.trans (hb.mono hB.size); clear hb))
  have gX := Blk.new w3 121 #[.int .i64 1, .int .i64 1, .int .i64 2, .int .i64 0, .int .i64 0, .int .i64 0, .slice (some ⟨g8, 0, none⟩) 1 c8]
  have hba := (Below.refl w3.heap.size w3).alloc (Nat.le_refl _) (.cells #[.int .i64 1, .int .i64 1, .int .i64 2, .int .i64 0, .int .i64 0, .int .i64 0, .slice (some ⟨g8, 0, none⟩) 1 c8] 121)
  replace hC := hC.below hba; replace hSh := (hSh.below hba).more hba.size; replace hTo := (hTo.below hba).more hba.size; replace hWh := (hWh.below hba).more hba.size; replace hPl := (hPl.below hba).more hba.size; replace hBk := hBk.below hba; replace hB := hB.trans (hba.mono hB.size)
  clear hba
  generalize w3.alloc (.cells #[.int .i64 1, .int .i64 1, .int .i64 2, .int .i64 0, .int .i64 0, .int .i64 0, .slice (some ⟨g8, 0, none⟩) 1 c8] 121) = W at *
  obtain ⟨sb, soff, rfl, hsb, hsc⟩ := hSh.2 (by omega)
  have hs1 := hsc 1 _ vSh1
  have hs5 := hsc 5 _ vSh5
  clear hsc hSh
  go_wp2_with (first
    | (go_at_call 71; have hx := hTo; clear hx; have hba := (Below.refl W.heap.size W).alloc (Nat.le_refl _) (.cells #[.int .i64 0] 3); (try replace hF := hF.below hba hF.lt); (try replace hG := hG.below hba hG.lt); (try replace hC := hC.below hba); (try replace hSh := (hSh.below hba).more hba.size); (try replace hTo := (hTo.below hba).more hba.size); (try replace hWh := (hWh.below hba).more hba.size); (try replace hD := (hD.below hba).more hba.size); (try replace hPl := (hPl.below hba).more hba.size); (try replace hBk := hBk.below hba); (try replace gX := gX.below hba gX.lt); replace hB := hB.trans (hba.mono hB.size); clear hba; refine (Same_any ATo (some ⟨W.heap.size, 0, none⟩) 1 1 cTo 1 [0] [0] _ (by unfold maxLen; omega) (by unfold maxLen; omega) (by exact hTo) (by exact Rd.blkN (Blk.new W 3 #[.int .i64 0]) rfl (by rw [World.size_alloc]; omega))).mono ?_; rintro e W ⟨rfl, hb⟩; rw [show sameL [0] [0] = true from rfl]; (try replace hF := hF.below hb hF.lt); (try replace hG := hG.below hb hG.lt); (try replace hC := hC.below hb); (try replace hSh := (hSh.below hb).more hb.size); (try replace hTo := (hTo.below hb).more hb.size); (try replace hWh := (hWh.below hb).more hb.size); (try replace hD := (hD.below hb).more hb.size); (try replace hPl := (hPl.below hb).more hb.size); (try replace hBk := hBk.below hb); (try replace gX := gX.below hb gX.lt); replace hB := hB.trans (hb.mono hB.size); clear hb; clear hTo)
    | (go_at_call 59; have hx := hWh; clear hx; have hba := (Below.refl W.heap.size W).alloc (Nat.le_refl _) (.cells #[.int .i64 3, .int .i64 1] 57); (try replace hF := hF.below hba hF.lt); (try replace hG := hG.below hba hG.lt); (try replace hC := hC.below hba); (try replace hSh := (hSh.below hba).more hba.size); (try replace hTo := (hTo.below hba).more hba.size); (try replace hWh := (hWh.below hba).more hba.size); (try replace hD := (hD.below hba).more hba.size); (try replace hPl := (hPl.below hba).more hba.size); (try replace hBk := hBk.below hba); (try replace gX := gX.below hba gX.lt); replace hB := hB.trans (hba.mono hB.size); clear hba; refine (SameWords_any AW (some ⟨W.heap.size, 0, none⟩) 2 2 cW 2 [3, 1] [3, 1] _ (by unfold maxLen; omega) (by unfold maxLen; omega) (by exact hWh) (by exact Rd.blkN (Blk.new W 57 #[.int .i64 3, .int .i64 1]) rfl (by rw [World.size_alloc]; omega))).mono ?_; rintro e W ⟨rfl, hb⟩; rw [show sameL [3, 1] [3, 1] = true from rfl]; (try replace hF := hF.below hb hF.lt); (try replace hG := hG.below hb hG.lt); (try replace hC := hC.below hb); (try replace hSh := (hSh.below hb).more hb.size); (try replace hTo := (hTo.below hb).more hb.size); (try replace hWh := (hWh.below hb).more hb.size); (try replace hD := (hD.below hb).more hb.size); (try replace hPl := (hPl.below hb).more hb.size); (try replace hBk := hBk.below hb); (try replace gX := gX.below hb gX.lt); replace hB := hB.trans (hb.mono hB.size); clear hb; clear hWh)
    | (go_at_call 71; have hx := hPl; clear hx; have hba := (Below.refl W.heap.size W).alloc (Nat.le_refl _) (.cells #[.int .i64 36] 3); (try replace hF := hF.below hba hF.lt); (try replace hG := hG.below hba hG.lt); (try replace hC := hC.below hba); (try replace hSh := (hSh.below hba).more hba.size); (try replace hTo := (hTo.below hba).more hba.size); (try replace hWh := (hWh.below hba).more hba.size); (try replace hD := (hD.below hba).more hba.size); (try replace hPl := (hPl.below hba).more hba.size); (try replace hBk := hBk.below hba); (try replace gX := gX.below hba gX.lt); replace hB := hB.trans (hba.mono hB.size); clear hba; refine (Same_any AP (some ⟨W.heap.size, 0, none⟩) 1 1 cP 1 [36] [36] _ (by unfold maxLen; omega) (by unfold maxLen; omega) (by exact hPl) (by exact Rd.blkN (Blk.new W 3 #[.int .i64 36]) rfl (by rw [World.size_alloc]; omega))).mono ?_; rintro e W ⟨rfl, hb⟩; rw [show sameL [36] [36] = true from rfl]; (try replace hF := hF.below hb hF.lt); (try replace hG := hG.below hb hG.lt); (try replace hC := hC.below hb); (try replace hSh := (hSh.below hb).more hb.size); (try replace hTo := (hTo.below hb).more hb.size); (try replace hWh := (hWh.below hb).more hb.size); (try replace hD := (hD.below hb).more hb.size); (try replace hPl := (hPl.below hb).more hb.size); (try replace hBk := hBk.below hb); (try replace gX := gX.below hb gX.lt); replace hB := hB.trans (hb.mono hB.size); clear hb; clear hPl; have hqX := fun i => gX.cell i; have hlX := gX.lt; have hfg := hBk.fig)
    | (go_at_call 86; go_loud (refine (refPrint_any (fun n => strOfNums [48 + n]) 1 1 2 0 0 0 (some ⟨g8, 0, none⟩) 1 c8 [⟨some ⟨g4, 0, none⟩, 1, c4, [⟨#[35]⟩]⟩] _ (by omega) hfg.1 (fun f hf => by rw [List.mem_singleton] at hf; subst hf; exact figSmall _ _) hfg.2 (fun x _ => by rw [strNum_size]; omega) (fun x hx W' => decimal_small x W' (dig x hx).1 (dig x hx).2) (vPrS _ _)).mono ?_; rintro e W ⟨rfl, hb⟩; rw [vPrint]; (try replace hF := hF.below hb hF.lt); (try replace hG := hG.below hb hG.lt); (try replace hC := hC.below hb); (try replace hSh := (hSh.below hb).more hb.size); (try replace hTo := (hTo.below hb).more hb.size); (try replace hWh := (hWh.below hb).more hb.size); (try replace hD := (hD.below hb).more hb.size); (try replace hPl := (hPl.below hb).more hb.size); (try replace hBk := hBk.below hb); (try replace gX := gX.below hb gX.lt); replace hB := hB.trans (hb.mono hB.size); clear hb)))
  go_ret
  exact ⟨rfl, hB⟩
end Go.Proofs.YtifddfchpknkbaaGreatDoor

namespace Go.Proofs.YtifddfchpknkbaaGreatDoor
open Go.RowKit

def shortB (rs : List ByteArray) : Bool := ((rs.take 20).all fun r => decide (r.size ≤ 20)) && decide (rs.length ≤ 18)
theorem take_at {α : Type} (l : List α) (m k : Nat) (hk : k < l.length) (hm : k < m) : ∃ h : k < (l.take m).length, (l.take m)[k] = l[k] :=
  ⟨by rw [List.length_take]; omega, by rw [List.getElem_take]⟩

set_option maxRecDepth 100000 in
set_option maxHeartbeats 800000 in
theorem short_any (A : Option Addr) (n cap : Nat) (rs : List ByteArray) (w : World) (hn : n ≤ maxLen) (hs : ∀ r ∈ rs, r.size ≤ maxLen) (hr : Rd w w.heap.size 1 A n (rs.map Value.string)) :
    Calls Tryz.prog 23 #[.slice A n cap] w fun e w' => e = .returned (.bool (shortB rs)) ∧ w = w' := by
  have hlen := hr.len
  unfold maxLen at hn hs
  have HLEN := Lib.hid hlen; clear hlen
  go_enter Tryz.func23, Tryz.ntmps23
  go_wp2
  go_loop [3] (fun i => ∃ (k : Nat), k ≤ n ∧ k ≤ 20 ∧ i = .int .i64 k ∧ ((rs.take 20).drop k).all (fun r => decide (r.size ≤ 20)) = (rs.take 20).all (fun r => decide (r.size ≤ 20))) (fun i => 20 - (intOf i).toNat)
  case atStart => exact ⟨0, Nat.zero_le _, Nat.zero_le _, rfl, rfl⟩
  case round =>
    obtain ⟨k, hk, hk2, rfl, ha⟩ := hrel
    by_cases hlt : k < n
    · by_cases h20 : k < 20
      · obtain ⟨cb, coff, hz, rfl, hcb, hcc⟩ := hr.atm hlt
        obtain ⟨hz2, hze⟩ := take_at rs 20 k hz h20
        have hd := all_drop (fun r : ByteArray => decide (r.size ≤ 20)) (rs.take 20) k hz2
        rw [ha, hze] at hd
        have hsz := hs _ (List.getElem_mem hz)
        generalize rs[k] = r at *
        have HD := Lib.hid hd; clear hd ha hze
        by_cases h3 : r.size ≤ 20
        · have h3i : ¬ (20 : Int) < r.size := by omega
          have hdd : decide (r.size ≤ 20) = true := decide_eq_true h3
          have HDD := Lib.hid hdd; clear hdd
          go_wp2
          go_round
          case rel => exact ⟨k + 1, by omega, by omega, by go_num, by rw [HD.out, HDD.out]; rfl⟩
          case measure => simp [intOf]; omega
        · have h3i : (20 : Int) < r.size := by omega
          have hdd : decide (r.size ≤ 20) = false := decide_eq_false h3
          have HDD := Lib.hid hdd; clear hdd
          go_wp2
          go_ret
          exact ⟨ret_bool (by unfold shortB; rw [HD.out, HDD.out]; rfl), rfl⟩
      · have hk20 : k = 20 := by omega
        have hd : (rs.take 20).drop k = [] := List.drop_of_length_le (by rw [List.length_take]; omega)
        rw [hd] at ha
        have HA := Lib.hid ha; clear ha hd
        have hn18 : ¬ (n : Int) ≤ 18 := by omega
        have hn18n : ¬ n ≤ 18 := by omega
        go_wp2
        go_ret
        exact ⟨ret_bool (by unfold shortB; rw [HLEN.out, decide_eq_false hn18n, Bool.and_false]), rfl⟩
    · have hkn : k = n := by omega
      subst hkn
      have hd : (rs.take 20).drop k = [] := List.drop_of_length_le (by rw [List.length_take, HLEN.out]; omega)
      rw [hd] at ha
      have HA := Lib.hid ha; clear ha hd
      by_cases h18 : k ≤ 18
      · have h18i : (k : Int) ≤ 18 := by omega
        go_wp2
        go_ret
        exact ⟨ret_bool (by unfold shortB; rw [HLEN.out, decide_eq_true h18, ← HA.out]; rfl), rfl⟩
      · have h18i : ¬ (k : Int) ≤ 18 := by omega
        go_wp2
        go_ret
        exact ⟨ret_bool (by unfold shortB; rw [HLEN.out, decide_eq_false h18, Bool.and_false]), rfl⟩

def fewB (fs : List Fig) : Bool := ((fs.take 9).all fun f => shortB f.rows) && decide (fs.length ≤ 8)

set_option maxRecDepth 100000 in
set_option maxHeartbeats 800000 in
theorem few_any (A : Option Addr) (n cap : Nat) (fs : List Fig) (w : World) (hn : n ≤ maxLen) (hf : ∀ f ∈ fs, f.ok w w.heap.size) (hr : Rd w w.heap.size 1 A n (fs.map Fig.val)) :
    Calls Tryz.prog 39 #[.slice A n cap] w fun e w' => e = .returned (.bool (fewB fs)) ∧ w = w' := by
  have hlen := hr.len
  unfold maxLen at hn
  have HLEN := Lib.hid hlen; clear hlen
  go_enter Tryz.func39, Tryz.ntmps39
  go_wp2
  go_loop [3] (fun i => ∃ (k : Nat), k ≤ n ∧ k ≤ 9 ∧ i = .int .i64 k ∧ ((fs.take 9).drop k).all (fun f => shortB f.rows) = (fs.take 9).all (fun f => shortB f.rows)) (fun i => 9 - (intOf i).toNat)
  case atStart => exact ⟨0, Nat.zero_le _, Nat.zero_le _, rfl, rfl⟩
  case round =>
    obtain ⟨k, hk, hk2, rfl, ha⟩ := hrel
    by_cases hlt : k < n
    · by_cases h20 : k < 9
      · obtain ⟨cb, coff, hz, rfl, hcb, hcc⟩ := hr.atm hlt
        obtain ⟨hz2, hze⟩ := take_at fs 9 k hz h20
        have hd := all_drop (fun f : Fig => shortB f.rows) (fs.take 9) k hz2
        rw [ha, hze] at hd
        have hfk := hf _ (List.getElem_mem hz)
        generalize fs[k] = f at *
        obtain ⟨FA, fn, fcap, frs⟩ := f
        obtain ⟨hf1, hf2, hf3, hfr⟩ := hfk
        simp only [Fig.val] at *
        have hfn : fn ≤ maxLen := Nat.le_trans hf1 hf2
        have HD := Lib.hid hd; clear hd ha hze
        cases hsb : shortB frs
        · go_wp2_with (go_at_call 23; refine (short_any FA fn fcap frs _ hfn hf3 hfr).mono ?_; rintro e w1 ⟨rfl, rfl⟩; rw [hsb])
          go_ret
          exact ⟨ret_bool (by unfold fewB; rw [HD.out, hsb]; rfl), rfl⟩
        · go_wp2_with (go_at_call 23; refine (short_any FA fn fcap frs _ hfn hf3 hfr).mono ?_; rintro e w1 ⟨rfl, rfl⟩; rw [hsb])
          go_round
          case rel => exact ⟨k + 1, by omega, by omega, by go_num, by rw [HD.out, hsb]; rfl⟩
          case measure => simp [intOf]; omega
      · have hk20 : k = 9 := by omega
        have hn18 : ¬ (n : Int) ≤ 8 := by omega
        have hn18n : ¬ n ≤ 8 := by omega
        clear ha
        go_wp2
        go_ret
        exact ⟨ret_bool (by unfold fewB; rw [HLEN.out, decide_eq_false hn18n, Bool.and_false]), rfl⟩
    · have hkn : k = n := by omega
      subst hkn
      have hd : (fs.take 9).drop k = [] := List.drop_of_length_le (by rw [List.length_take, HLEN.out]; omega)
      rw [hd] at ha
      have HA := Lib.hid ha; clear ha hd
      by_cases h18 : k ≤ 8
      · have h18i : (k : Int) ≤ 8 := by omega
        go_wp2
        go_ret
        exact ⟨ret_bool (by unfold fewB; rw [HLEN.out, decide_eq_true h18, ← HA.out]; rfl), rfl⟩
      · have h18i : ¬ (k : Int) ≤ 8 := by omega
        go_wp2
        go_ret
        exact ⟨ret_bool (by unfold fewB; rw [HLEN.out, decide_eq_false h18, Bool.and_false]), rfl⟩
end Go.Proofs.YtifddfchpknkbaaGreatDoor

namespace Go.Proofs.YtifddfchpknkbaaGreatDoor
open Go.RowKit

theorem hash_any (r : ByteArray) : hashB r = (ltr r).any (fun b => decide (b = 35)) := by
  have hp : (fun b : Int => decide (0 ≤ idxOf b [35] 0)) = fun b => decide (b = 35) := by
    funext b
    by_cases h : b = 35
    · subst h; rfl
    · simp [idxOf, h, Ne.symm h]
  unfold hashB cntL
  rw [hp, Bool.eq_iff_iff, decide_eq_true_eq, List.any_eq_true, List.length_pos_iff_exists_mem]
  simp only [List.mem_filter]

set_option maxRecDepth 1000000 in
set_option maxHeartbeats 1600000 in
theorem refFigure_any (A : Option Addr) (n cap : Nat) (rows : List ByteArray) (w : World) (hn : n ≤ maxLen) (hs : ∀ r ∈ rows, r.size ≤ maxLen) (hr : Rd w w.heap.size 1 A n (rows.map Value.string)) :
    Calls Tryz.prog 28 #[.agg #[.slice A n cap]] w fun e w' => e = .returned (.bool (figB rows)) ∧ Below w.heap.size w w' := by
  have hlen := hr.len
  unfold maxLen at hn
  have hfig : figB rows = (inB n 1 6 && (inB (wdOf rows) 1 6 && (rows.all (rowB (wdOf rows)) && rows.any hashB))) := by rw [figB, hlen]
  have HF := Lib.hid hfig; clear hfig
  cases h1 : inB n 1 6
  · go_enter Tryz.func28, Tryz.ntmps28
    go_wp2_with (go_at_call 99; refine (in_any _ _ _ _).mono ?_; rintro e w' ⟨rfl, rfl⟩; rw [h1])
    go_ret
    exact ⟨ret_bool (by rw [HF.out, h1]; rfl), (Below.refl _ _).alloc (Nat.le_refl _) _⟩
  · have hn0 : 0 < n ∧ n ≤ 6 := by simp [inB] at h1; omega
    obtain ⟨hn1, hn6⟩ := hn0
    have hlt0 : 0 < rows.length := by omega
    obtain ⟨b, off, rfl, hb, hc⟩ := hr.2 hn1
    have hc0 := hc 0 (.string rows[0]) (by simp [hlt0])
    rw [Nat.add_zero] at hc0
    have hwd : wdOf rows = rows[0].size := by cases rows with | nil => simp at hlt0 | cons a l => rfl
    have hs0 := hs _ (List.getElem_mem hlt0)
    obtain ⟨r0, hr0⟩ : ∃ r0, r0 = rows[0] := ⟨_, rfl⟩
    rw [← hr0] at hc0 hwd hs0
    unfold maxLen at hs0
    rw [hwd] at HF
    clear hr0 hwd
    cases h2 : inB r0.size 1 6
    · go_enter Tryz.func28, Tryz.ntmps28
      go_wp2_with (go_at_call 99; refine (in_any _ _ _ _).mono ?_; rintro e w' ⟨rfl, rfl⟩; (first | rw [h1] | rw [h2]))
      go_ret
      exact ⟨ret_bool (by rw [HF.out, h1, h2]; rfl), (Below.refl _ _).alloc (Nat.le_refl _) _⟩
    · go_enter Tryz.func28, Tryz.ntmps28
      go_wp2_with (go_at_call 99; refine (in_any _ _ _ _).mono ?_; rintro e w' ⟨rfl, rfl⟩; (first | rw [h1] | rw [h2]))
      have hbf := Blk.new w 26 #[.slice (some ⟨b, off, none⟩) n cap]
      go_loopg [3, 4] n (fun g t i wr => ∃ k : Nat, g = n - k ∧ k ≤ n ∧ i = .int .i64 k ∧ t = .bool ((rows.take k).any hashB) ∧ (rows.drop k).all (rowB r0.size) = rows.all (rowB r0.size) ∧ Below w.heap.size w wr ∧ Blk wr w.heap.size 26 #[.slice (some ⟨b, off, none⟩) n cap])
      case atStart => exact ⟨0, rfl, Nat.zero_le _, rfl, rfl, rfl, (Below.refl _ _).alloc (Nat.le_refl _) _, hbf⟩
      case round =>
        clear hbf
        obtain ⟨k, hg, hk, rfl, rfl, hall, hB, hbf⟩ := hrel
        have HG := Lib.hid hg; clear hg
        have hcf := fun i => hbf.cell i
        have hlf := hbf.lt
        have hcr0 := (hB.cell (p := ⟨b, off, none⟩) hb).trans hc0
        by_cases hlt : k < n
        · have hkr : k < rows.length := by omega
          have hck := (hB.cell (p := ⟨b, off + k, none⟩) hb).trans (hc k (.string rows[k]) (by simp [hkr]))
          have hsk := hs _ (List.getElem_mem hkr)
          have hd := all_drop (rowB r0.size) rows k hkr
          rw [hall] at hd
          have hy := any_take hashB rows k hkr
          generalize rows[k] = rk at *
          unfold maxLen at hsk
          have HD := Lib.hid hd; have HY := Lib.hid hy; clear hd hy hall
          generalize hacc : (rows.take k).any hashB = acc at *
          have HACC := Lib.hid hacc; clear hacc
          by_cases hq : (rk.size : Int) = r0.size
          · have hne : ((rk.size : Int) != r0.size) = false := by simp [hq]
            have hbb := fun p i => blw_blk hbf p i
            have hbc : ∀ p : Blw wr.heap.size wr, p.to.cell? ⟨b, off + k, none⟩ = some (.string rk) := fun p => (p.h.cell (p := ⟨b, off + k, none⟩) (Nat.lt_of_lt_of_le hb hB.size)).trans hck
            have hb0 : ∀ p : Blw wr.heap.size wr, p.to.cell? ⟨b, off, none⟩ = some (.string r0) := fun p => (p.h.cell (p := ⟨b, off, none⟩) (Nat.lt_of_lt_of_le hb hB.size)).trans hcr0
            go_upto_region 7 with (fail)
            refine wp_region_blw (by kernel_rfl) (by kernel_rfl) ?_
            repeat (go_big_quiet_step (fail))
            refine wpQuiet_nil ?_
            rintro W3 ⟨⟨_, hb3⟩, rfl⟩
            clear hbb hbc hb0 hcf hcr0
            have hck3 := (hb3.cell (p := ⟨b, off + k, none⟩) (Nat.lt_of_lt_of_le hb hB.size)).trans hck
            replace hbf := hbf.below hb3 hlf
            replace hB := hB.trans (hb3.mono hB.size)
            clear hb3 hlf hck
            have hcf := fun i => hbf.cell i
            have hlf := hbf.lt
            go_wp2_with (fail)
            go_loop [3, 5] (fun t i => ∃ q : Nat, q ≤ rk.size ∧ i = .int .i64 q ∧ t = .bool (acc || ((ltr rk).take q).any (fun b => decide (b = 35))) ∧ ((ltr rk).drop q).all (fun b => decide (b ∈ [(35 : Int), 46])) = onlyB rk [35, 46]) (fun _ i => rk.size - (intOf i).toNat)
            case atStart => exact ⟨0, Nat.zero_le _, rfl, by simp, rfl⟩
            case round =>
              obtain ⟨q, hq2, rfl, rfl, hal⟩ := hrel
              by_cases hqt : q < rk.size
              · have hd := all_drop (fun b : Int => decide (b ∈ [(35 : Int), 46])) (ltr rk) q (by rw [ltr_len]; exact hqt)
                rw [hal, ltr_at rk q hqt] at hd
                have hy := any_take (fun b : Int => decide (b = 35)) (ltr rk) q (by rw [ltr_len]; exact hqt)
                rw [ltr_at rk q hqt] at hy
                generalize hm : ((ltr rk).take q).any (fun b => decide (b = 35)) = met at *
                have HM := Lib.hid hm; clear hm
                generalize hbb : rk[q].toNat = bb at *
                have HBB := Lib.hid hbb
                have HDD := Lib.hid hd; have HYY := Lib.hid hy; clear hd hy hal
                cases acc <;> cases met
                all_goals
                  by_cases h35 : bb = 35
                  · subst h35
                    go_wp2_with (fail)
                    go_round
                    case rel => exact ⟨q + 1, by omega, by go_num, by rw [HYY.out]; simp, by rw [HDD.out]; simp⟩
                    case measure => simp [intOf]; omega
                  · by_cases h46 : bb = 46
                    · subst h46
                      go_wp2_with (fail)
                      go_round
                      case rel => exact ⟨q + 1, by omega, by go_num, by rw [HYY.out]; simp, by rw [HDD.out]; simp⟩
                      case measure => simp [intOf]; omega
                    · have hno : decide ((bb : Int) ∈ [(35 : Int), 46]) = false := by simp; omega
                      have HNO := Lib.hid hno; clear hno
                      have e1 : ((bb : Int) == 35) = false := by simp; omega
                      have e2 : ((bb : Int) != 35) = true := by simp; omega
                      have e3 : ((bb : Int) != 46) = true := by simp; omega
                      go_wp2_with (fail)
                      go_ret
                      exact ⟨ret_bool (by rw [HF.out, HD.out, rowB, HDD.out, HNO.out]; simp), hB⟩
              · have hqe : q = rk.size := by omega
                have hdr : (ltr rk).drop q = [] := List.drop_of_length_le (by rw [ltr_len]; omega)
                have htk : (ltr rk).take q = ltr rk := List.take_of_length_le (by rw [ltr_len]; omega)
                rw [hdr] at hal
                rw [htk, ← hash_any]
                have HAL := Lib.hid hal; clear hal hdr htk
                go_wp2_with (fail)
                go_roundg (n - (k + 1))
                case measure => rw [HG.out]; omega
                case rel =>
                  have hrt : rowB r0.size rk = true := by rw [rowB, ← HAL.out]; simp; omega
                  exact ⟨k + 1, rfl, by omega, by go_num, by rw [HY.out], by rw [HD.out, hrt]; rfl, hB, hbf⟩
          · have hne : ((rk.size : Int) != r0.size) = true := by simp; omega
            have hrf : rowB r0.size rk = false := by rw [rowB, decide_eq_false (by omega)]; rfl
            have HRF := Lib.hid hrf; clear hrf
            have hbb := fun p i => blw_blk hbf p i
            have hbc : ∀ p : Blw wr.heap.size wr, p.to.cell? ⟨b, off + k, none⟩ = some (.string rk) := fun p => (p.h.cell (p := ⟨b, off + k, none⟩) (Nat.lt_of_lt_of_le hb hB.size)).trans hck
            have hb0 : ∀ p : Blw wr.heap.size wr, p.to.cell? ⟨b, off, none⟩ = some (.string r0) := fun p => (p.h.cell (p := ⟨b, off, none⟩) (Nat.lt_of_lt_of_le hb hB.size)).trans hcr0
            go_upto_region 7 with (fail)
            refine wp_region_blw (by kernel_rfl) (by kernel_rfl) ?_
            repeat (go_big_quiet_step (fail))
            refine wpQuiet_nil ?_
            rintro W3 ⟨⟨_, hb3⟩, rfl⟩
            replace hB := hB.trans (hb3.mono hB.size)
            clear hbb hbc hb0
            go_wp2_with (fail)
            go_ret
            exact ⟨ret_bool (by rw [HF.out, HD.out, HRF.out]; simp), hB⟩
        · have hkn : k = n := by omega
          subst hkn
          have hd : rows.drop k = [] := List.drop_of_length_le (by omega)
          have ht : rows.take k = rows := List.take_of_length_le (by omega)
          rw [hd] at hall
          rw [ht]
          have HALL := Lib.hid hall; clear hall hd ht
          go_wp2_with (fail)
          go_ret
          exact ⟨ret_bool (by rw [HF.out, h1, h2, ← HALL.out]; rfl), hB⟩
end Go.Proofs.YtifddfchpknkbaaGreatDoor

namespace Go.Proofs.YtifddfchpknkbaaGreatDoor
open Go.RowKit

/-- How many bytes of lines are c. -/
def countR (rs : List ByteArray) (c : Int) : Nat := (rs.map fun r => cntL (ltr r) [c]).sum
theorem countR_take (rs : List ByteArray) (c : Int) (k : Nat) (h : k < rs.length) : countR (rs.take (k + 1)) c = countR (rs.take k) c + cntL (ltr rs[k]) [c] := by
  unfold countR
  rw [List.take_succ_eq_append_getElem h, List.map_append, List.sum_append]; simp
theorem idx_one (b c : Int) : decide (0 ≤ idxOf b [c] 0) = decide (b = c) := by
  by_cases h : b = c
  · subst h; simp [idxOf]
  · simp [idxOf, h, Ne.symm h]

set_option maxRecDepth 1000000 in
set_option maxHeartbeats 1600000 in
theorem refCount_any (A : Option Addr) (n cap : Nat) (rs : List ByteArray) (c : Nat) (w : World) (hn : n ≤ 100000) (hc : c ≤ 255) (hs : ∀ r ∈ rs, r.size ≤ 100000) (hr : Rd w w.heap.size 1 A n (rs.map Value.string)) :
    Calls Tryz.prog 34 #[.slice A n cap, .int .u8 (c : Int)] w fun e w' => e = .returned (.int .i64 (countR rs c : Nat)) ∧ w = w' := by
  have hlen := hr.len
  have HLEN := Lib.hid hlen; clear hlen
  go_enter Tryz.func34, Tryz.ntmps34
  go_wp2
  go_loop [5, 6] (fun s i => ∃ (k acc : Nat), k ≤ n ∧ i = .int .i64 k ∧ s = .int .i64 acc ∧ acc = countR (rs.take k) c ∧ acc ≤ 100000 * k) (fun _ i => n - (intOf i).toNat)
  case atStart => exact ⟨0, 0, Nat.zero_le _, rfl, rfl, rfl, Nat.zero_le _⟩
  case round =>
    obtain ⟨k, acc, hk, rfl, rfl, hacc, hle⟩ := hrel
    by_cases hlt : k < n
    · obtain ⟨cb, coff, hz, rfl, hcb, hcc⟩ := hr.atm hlt
      have htk := countR_take rs c k hz
      rw [← hacc] at htk
      have hsz := hs _ (List.getElem_mem hz)
      generalize rs[k] = r at *
      have HT := Lib.hid htk; clear htk hacc
      go_wp2
      go_loop [5, 7] (fun s i => ∃ (q a2 : Nat), q ≤ r.size ∧ i = .int .i64 q ∧ s = .int .i64 (acc + a2 : Nat) ∧ a2 = cntL ((ltr r).take q) [(c : Int)] ∧ a2 ≤ q) (fun _ i => r.size - (intOf i).toNat)
      case atStart => exact ⟨0, 0, Nat.zero_le _, rfl, rfl, by simp [cntL], Nat.zero_le _⟩
      case round =>
        obtain ⟨q, a2, hq, rfl, rfl, ha2, hle2⟩ := hrel
        by_cases hqt : q < r.size
        · have htq := ltr_take r q hqt
          have hsn := cntL_snoc ((ltr r).take q) ((r[q].toNat : Nat) : Int) [(c : Int)]
          rw [← htq, idx_one, ← ha2] at hsn
          generalize hbb : r[q].toNat = bb at *
          have HSN := Lib.hid hsn; clear hsn htq ha2
          by_cases hbc : bb = c
          · subst hbc
            have he : (((bb : Nat) : Int) == (bb : Int)) = true := by simp
            go_wp2
            go_round
            case rel => exact ⟨q + 1, a2 + 1, by omega, by go_num, by go_num, by rw [HSN.out]; simp, by omega⟩
            case measure => simp [intOf]; omega
          · have he : ((bb : Int) == (c : Int)) = false := by simp; omega
            go_wp2
            go_round
            case rel => exact ⟨q + 1, a2, by omega, by go_num, rfl, by rw [HSN.out]; simp; omega, by omega⟩
            case measure => simp [intOf]; omega
        · have htk : (ltr r).take q = ltr r := List.take_of_length_le (by rw [ltr_len]; omega)
          rw [htk] at ha2
          have HA2 := Lib.hid ha2; clear ha2 htk
          go_wp2
          go_round
          case rel => exact ⟨k + 1, acc + a2, by omega, by go_num, rfl, by rw [HT.out, HA2.out], by omega⟩
          case measure => simp [intOf]; omega
    · have hkn : k = n := by omega
      have htk : rs.take k = rs := List.take_of_length_le (by have := HLEN.out; omega)
      rw [htk] at hacc
      have HACC := Lib.hid hacc; clear hacc htk
      go_wp2
      go_ret
      exact ⟨by rw [← HACC.out]; rfl, rfl⟩
end Go.Proofs.YtifddfchpknkbaaGreatDoor

namespace Go.Proofs.YtifddfchpknkbaaGreatDoor
open Go.RowKit

set_option maxRecDepth 100000 in
set_option maxHeartbeats 800000 in
theorem Check_any (W H F L X Y : Int) (w : World) :
    Calls Tryz.prog 25 #[.agg #[.int .i64 W, .int .i64 H, .int .i64 F, .int .i64 L, .int .i64 X, .int .i64 Y]] w fun e w' => e = .returned (.int .i64 (if stageB W H F L X Y then 0 else 2)) ∧ Below w.heap.size w w' := by
  have hB : Below w.heap.size w (w.alloc (.cells #[.int .i64 W, .int .i64 H, .int .i64 F, .int .i64 L, .int .i64 X, .int .i64 Y] 23)) := (Below.refl _ w).alloc (Nat.le_refl _) _
  cases hs : stageB W H F L X Y
  all_goals
    go_enter Tryz.func25, Tryz.ntmps25
    go_wp2_with (first
      | (go_at_call 97; refine (goodStage_any W H F L X Y _).mono ?_; rintro e w1 ⟨rfl, hb⟩; rw [hs]; replace hB := hB.trans (hb.mono hB.size); clear hb)
      | (go_at_call 96; refine (argument_any _ _).mono ?_; rintro e w2 ⟨rfl, rfl⟩))
    go_ret
    exact ⟨rfl, hB⟩

set_option maxRecDepth 100000 in
set_option maxHeartbeats 800000 in
theorem CheckFigure_any (A : Option Addr) (n cap : Nat) (rows : List ByteArray) (w : World) (hn : n ≤ maxLen) (hs : ∀ r ∈ rows, r.size ≤ maxLen) (hr : Rd w w.heap.size 1 A n (rows.map Value.string)) :
    Calls Tryz.prog 26 #[.agg #[.slice A n cap]] w fun e w' => e = .returned (.int .i64 (if figB rows then 0 else 2)) ∧ Below w.heap.size w w' := by
  have hB : Below w.heap.size w (w.alloc (.cells #[.slice A n cap] 26)) := (Below.refl _ w).alloc (Nat.le_refl _) _
  cases hf : figB rows
  all_goals
    go_enter Tryz.func26, Tryz.ntmps26
    go_wp2_with (first
      | (go_at_call 98; refine (goodFigure_any A n cap rows _ hn hs ((hr.below hB).more hB.size)).mono ?_; rintro e w1 ⟨rfl, hb⟩; rw [hf]; replace hB := hB.trans (hb.mono hB.size); clear hb)
      | (go_at_call 96; refine (argument_any _ _).mono ?_; rintro e w2 ⟨rfl, rfl⟩))
    go_ret
    exact ⟨rfl, hB⟩
end Go.Proofs.YtifddfchpknkbaaGreatDoor

namespace Go.Proofs.YtifddfchpknkbaaGreatDoor
open Go.RowKit

theorem rdB {w w' : World} {sz n : Nat} {A : Option Addr} {xs : List Value} (h : Rd w w.heap.size sz A n xs) (hB : Below w.heap.size w w') : Rd w' w'.heap.size sz A n xs := (h.below hB).more hB.size
theorem known_at {m : Int} {w w' : World} (hm : w.cell? ⟨0, 0, none⟩ = some (.int .i64 m)) (hB : Below w.heap.size w w') : w'.cell? ⟨0, 0, none⟩ = some (.int .i64 m) := (hB.cell (p := ⟨0, 0, none⟩) (block_lt_of_cell hm)).trans hm
theorem pro_3 (w : World) (o0 o1 o2 : Obj) : Below w.heap.size w (((w.alloc o0).alloc o1).alloc o2) :=
  (((Below.refl _ w).alloc (Nat.le_refl _) _).alloc (by simp only [World.size_alloc]; omega) _).alloc (by simp only [World.size_alloc]; omega) _
theorem blk3_0 (w : World) (o1 o2 : Obj) (t : TypeId) (cs : Array Value) : Blk (((w.alloc (.cells cs t)).alloc o1).alloc o2) (w.heap.size) t cs := by
  have := ((Blk.new (w) t cs).alloc o1).alloc o2
  simpa only [World.size_alloc] using this
theorem blk3_1 (w : World) (o0 o2 : Obj) (t : TypeId) (cs : Array Value) : Blk (((w.alloc o0).alloc (.cells cs t)).alloc o2) (w.heap.size + 1) t cs := by
  have := (Blk.new (w.alloc o0) t cs).alloc o2
  simpa only [World.size_alloc] using this
theorem blk3_2 (w : World) (o0 o1 : Obj) (t : TypeId) (cs : Array Value) : Blk (((w.alloc o0).alloc o1).alloc (.cells cs t)) (w.heap.size + 1 + 1) t cs := by
  have := Blk.new ((w.alloc o0).alloc o1) t cs
  simpa only [World.size_alloc] using this
theorem pro_5 (w : World) (o0 o1 o2 o3 o4 : Obj) : Below w.heap.size w (((((w.alloc o0).alloc o1).alloc o2).alloc o3).alloc o4) :=
  (((((Below.refl _ w).alloc (Nat.le_refl _) _).alloc (by simp only [World.size_alloc]; omega) _).alloc (by simp only [World.size_alloc]; omega) _).alloc (by simp only [World.size_alloc]; omega) _).alloc (by simp only [World.size_alloc]; omega) _
theorem blk5_0 (w : World) (o1 o2 o3 o4 : Obj) (t : TypeId) (cs : Array Value) : Blk (((((w.alloc (.cells cs t)).alloc o1).alloc o2).alloc o3).alloc o4) (w.heap.size) t cs := by
  have := ((((Blk.new (w) t cs).alloc o1).alloc o2).alloc o3).alloc o4
  simpa only [World.size_alloc] using this
theorem blk5_1 (w : World) (o0 o2 o3 o4 : Obj) (t : TypeId) (cs : Array Value) : Blk (((((w.alloc o0).alloc (.cells cs t)).alloc o2).alloc o3).alloc o4) (w.heap.size + 1) t cs := by
  have := (((Blk.new (w.alloc o0) t cs).alloc o2).alloc o3).alloc o4
  simpa only [World.size_alloc] using this
theorem blk5_2 (w : World) (o0 o1 o3 o4 : Obj) (t : TypeId) (cs : Array Value) : Blk (((((w.alloc o0).alloc o1).alloc (.cells cs t)).alloc o3).alloc o4) (w.heap.size + 1 + 1) t cs := by
  have := ((Blk.new ((w.alloc o0).alloc o1) t cs).alloc o3).alloc o4
  simpa only [World.size_alloc] using this
theorem blk5_3 (w : World) (o0 o1 o2 o4 : Obj) (t : TypeId) (cs : Array Value) : Blk (((((w.alloc o0).alloc o1).alloc o2).alloc (.cells cs t)).alloc o4) (w.heap.size + 1 + 1 + 1) t cs := by
  have := (Blk.new (((w.alloc o0).alloc o1).alloc o2) t cs).alloc o4
  simpa only [World.size_alloc] using this
theorem blk5_4 (w : World) (o0 o1 o2 o3 : Obj) (t : TypeId) (cs : Array Value) : Blk (((((w.alloc o0).alloc o1).alloc o2).alloc o3).alloc (.cells cs t)) (w.heap.size + 1 + 1 + 1 + 1) t cs := by
  have := Blk.new ((((w.alloc o0).alloc o1).alloc o2).alloc o3) t cs
  simpa only [World.size_alloc] using this
theorem pro_2 (w : World) (o0 o1 : Obj) : Below w.heap.size w ((w.alloc o0).alloc o1) :=
  ((Below.refl _ w).alloc (Nat.le_refl _) _).alloc (by simp only [World.size_alloc]; omega) _
theorem blk2_0 (w : World) (o1 : Obj) (t : TypeId) (cs : Array Value) : Blk ((w.alloc (.cells cs t)).alloc o1) (w.heap.size) t cs := by
  have := (Blk.new (w) t cs).alloc o1
  simpa only [World.size_alloc] using this
theorem blk2_1 (w : World) (o0 : Obj) (t : TypeId) (cs : Array Value) : Blk ((w.alloc o0).alloc (.cells cs t)) (w.heap.size + 1) t cs := by
  have := Blk.new (w.alloc o0) t cs
  simpa only [World.size_alloc] using this
end Go.Proofs.YtifddfchpknkbaaGreatDoor
