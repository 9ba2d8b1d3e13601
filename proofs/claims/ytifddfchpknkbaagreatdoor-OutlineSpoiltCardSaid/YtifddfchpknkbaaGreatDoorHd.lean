import Derived.Test.YtifddfchpknkbaaGreatDoorHb
import Derived.Test.YtifddfchpknkbaaGreatDoorMl
import Derived.Test.YtifddfchpknkbaaGreatDoorMa
set_option linter.unusedVariables false
set_option linter.unusedSimpArgs false
namespace Go.Proofs.YtifddfchpknkbaaGreatDoor
open Go.RowKit

theorem row_str {W H : Nat} {F L X Y N PX PY : Int} {rows : List ByteArray} {q : Nat} (hW : 1 ≤ W) (hq : q < H) :
    strOfNums ((List.range W).map fun c => cellS F L X Y N PX PY rows (wdOf rows) rows.length (c : Nat) (q : Nat)) = (shS W H F L X Y N PX PY rows).extract (q * W) (q * W + W) := by
  have e : shS W H F L X Y N PX PY rows = strOfNums (shadL W H F L X Y N PX PY rows (wdOf rows) rows.length (W * H)) := by unfold shS; simp only [Int.toNat_natCast]
  rw [e]
  have hle : q * W + W ≤ W * H := by
    have h1 := Nat.mul_le_mul_right W (show q + 1 ≤ H by omega)
    rw [Nat.add_mul, Nat.one_mul, Nat.mul_comm H W] at h1; exact h1
  refine ByteArray.ext ?_
  rw [ByteArray.data_extract]
  refine Array.ext' ?_
  unfold strOfNums
  rw [Array.toList_extract, List.extract_eq_take_drop, show q * W + W - q * W = W by omega]
  refine List.ext_getElem? fun j => ?_
  by_cases hj : j < W
  · rw [List.getElem?_take, if_pos hj, List.getElem?_drop]
    simp only [List.getElem?_map]
    have e1 : (q * W + j) % W = j := by rw [Nat.mul_add_mod_self_right, Nat.mod_eq_of_lt hj]
    have e2 : (q * W + j) / W = q := by rw [Nat.add_comm, Nat.add_mul_div_right _ _ (by omega), Nat.div_eq_of_lt hj, Nat.zero_add]
    unfold shadL
    rw [List.getElem?_map, List.getElem?_range hj, List.getElem?_range (by omega)]
    simp only [Option.map_some, e1, e2]
  · rw [List.getElem?_take, if_neg hj, List.getElem?_eq_none (by simp; omega)]

set_option maxRecDepth 100000 in
set_option maxHeartbeats 25600000 in
theorem refShadow_any (Wn Hn : Nat) (F L X Y N PX PY : Int) (A : Option Addr) (n cap : Nat) (rows : List ByteArray) (w : World) (hv : viewB Wn Hn F L X Y N PX PY rows = true) (hr : Rd w w.heap.size 1 A n (rows.map Value.string)) :
    Calls Tryz.prog 32 #[.agg #[.int .i64 Wn, .int .i64 Hn, .int .i64 F, .int .i64 L, .int .i64 X, .int .i64 Y], .agg #[.slice A n cap], .agg #[.int .i64 N, .int .i64 PX, .int .i64 PY]] w fun e w' => ∃ v, e = .returned v ∧ w'.ownsRow w.heap.size 9 1 v Hn ((rowsOf (shS Wn Hn F L X Y N PX PY rows) Wn Hn).map Value.string) ∧ Below w.heap.size w w' := by
  obtain ⟨i5, hi5, hz5, hz51, hz52⟩ := info_parts info5
  obtain ⟨i9, hi9, hz9, hz91, hz92⟩ := info_parts info9
  have hwh : (1 ≤ Wn ∧ Wn ≤ 16) ∧ Hn ≤ 16 := by
    have h := hv
    simp only [viewB, Bool.and_eq_true] at h
    have ⟨⟨a1, a2⟩, ⟨a3, a4⟩, _⟩ := stageB_nums h.1
    omega
  obtain ⟨⟨w1, w2⟩, w3⟩ := hwh
  go_enter Tryz.func32, Tryz.ntmps32
  go_upto_region 1 with (fail)
  have hS := blk3_0 w (.cells #[.slice A n cap] 26) (.cells #[.int .i64 N, .int .i64 PX, .int .i64 PY] 28) 23 #[.int .i64 Wn, .int .i64 Hn, .int .i64 F, .int .i64 L, .int .i64 X, .int .i64 Y]
  have hF := blk3_1 w (.cells #[.int .i64 Wn, .int .i64 Hn, .int .i64 F, .int .i64 L, .int .i64 X, .int .i64 Y] 23) (.cells #[.int .i64 N, .int .i64 PX, .int .i64 PY] 28) 26 #[.slice A n cap]
  have hP := blk3_2 w (.cells #[.int .i64 Wn, .int .i64 Hn, .int .i64 F, .int .i64 L, .int .i64 X, .int .i64 Y] 23) (.cells #[.slice A n cap] 26) 28 #[.int .i64 N, .int .i64 PX, .int .i64 PY]
  have hB := pro_3 w (.cells #[.int .i64 Wn, .int .i64 Hn, .int .i64 F, .int .i64 L, .int .i64 X, .int .i64 Y] 23) (.cells #[.slice A n cap] 26) (.cells #[.int .i64 N, .int .i64 PX, .int .i64 PY] 28)
  generalize ((w.alloc (.cells #[.int .i64 Wn, .int .i64 Hn, .int .i64 F, .int .i64 L, .int .i64 X, .int .i64 Y] 23)).alloc (.cells #[.slice A n cap] 26)).alloc (.cells #[.int .i64 N, .int .i64 PX, .int .i64 PY] 28) = W0 at *
  have qhS := fun i => Blk.cell hS i
  have qhF := fun i => Blk.cell hF i
  have qhP := fun i => Blk.cell hP i
  have HRR := Lib.hid hr
  clear hr
  go_wp2_with (fail)
  go_loopg [7, 8] Hn (fun g v i wr => ∃ (q : Nat) (v0 : Value), g = Hn - q ∧ q ≤ Hn ∧ i = .int .i64 q ∧ v = v0 ∧ wr.ownsRow w.heap.size 9 1 v0 q ((rowsOf (shS Wn Hn F L X Y N PX PY rows) Wn q).map Value.string) ∧ Blk wr w.heap.size 23 #[.int .i64 Wn, .int .i64 Hn, .int .i64 F, .int .i64 L, .int .i64 X, .int .i64 Y] ∧ Blk wr (w.heap.size + 1) 26 #[.slice A n cap] ∧ Blk wr (w.heap.size + 1 + 1) 28 #[.int .i64 N, .int .i64 PX, .int .i64 PY] ∧ Below w.heap.size w wr)
  case atStart => exact ⟨0, _, rfl, Nat.zero_le _, rfl, rfl, World.ownsRow_nil _ _ _ _, hS, hF, hP, hB⟩
  case round =>
    clear hS hF hP hB qhS qhF qhP
    obtain ⟨q, v, hg, hq, rfl, rfl, hown, hS, hF, hP, hB⟩ := hrel
    obtain ⟨va, vc, rfl⟩ := own_slice hown
    have HG := Lib.hid hg; clear hg
    have qhS := fun i => Blk.cell hS i
    by_cases hlt : q < Hn
    · have hlti : (q : Int) < Hn := by omega
      go_wp2_with (fail)
      clear qhS
      go_loopg [9, 10] Wn (fun g v i wr => ∃ (k : Nat) (v1 : Value), g = Wn - k ∧ k ≤ Wn ∧ i = .int .i64 k ∧ v = v1 ∧ wr.ownsRow w.heap.size 5 1 v1 k (((List.range k).map fun c => cellS F L X Y N PX PY rows (wdOf rows) rows.length (c : Nat) (q : Nat)).map (Value.int .u8)) ∧ wr.ownsRow w.heap.size 9 1 (.slice va q vc) q ((rowsOf (shS Wn Hn F L X Y N PX PY rows) Wn q).map Value.string) ∧ Blk wr w.heap.size 23 #[.int .i64 Wn, .int .i64 Hn, .int .i64 F, .int .i64 L, .int .i64 X, .int .i64 Y] ∧ Blk wr (w.heap.size + 1) 26 #[.slice A n cap] ∧ Blk wr (w.heap.size + 1 + 1) 28 #[.int .i64 N, .int .i64 PX, .int .i64 PY] ∧ Below w.heap.size w wr)
      case atStart => exact ⟨0, _, rfl, Nat.zero_le _, rfl, rfl, World.ownsRow_nil _ _ _ _, hown, hS, hF, hP, hB⟩
      case round =>
        clear hown hS hF hP hB
        obtain ⟨k, v, hg, hk, rfl, rfl, hin, hown, hS, hF, hP, hB⟩ := hrel
        obtain ⟨ua, uc, rfl⟩ := own_slice hin
        have HG2 := Lib.hid hg; clear hg
        have qhS := fun i => Blk.cell hS i; have qhF := fun i => Blk.cell hF i; have qhP := fun i => Blk.cell hP i
        rename World => W0
        by_cases hlt2 : k < Wn
        · have hlt2i : (k : Int) < Wn := by omega
          obtain ⟨z, hz⟩ : ∃ z, z = cellS F L X Y N PX PY rows (wdOf rows) rows.length k q := ⟨_, rfl⟩
          have HZ := Lib.hid hz; clear hz
          go_wp2_with (first
            | (go_at_call 104; refine (shade_any Wn Hn F L X Y N PX PY k q A n cap rows _ hv (by omega) (by omega) (rdB HRR.out hB)).mono ?_; rintro e w1 ⟨rfl, hb⟩; rw [← HZ.out]; replace hin := (ownsRow_below' hin hb).alloc (.cells #[.int .u8 z] 5); replace hown := (ownsRow_below' hown hb).alloc (.cells #[.int .u8 z] 5); replace hS := (hS.below hb hS.lt).alloc (.cells #[.int .u8 z] 5); replace hF := (hF.below hb hF.lt).alloc (.cells #[.int .u8 z] 5); replace hP := (hP.below hb hP.lt).alloc (.cells #[.int .u8 z] 5); have hba := hb.alloc hb.size (.cells #[.int .u8 z] 5); replace hB := hB.trans (hba.mono hB.size); clear hba hb qhS qhF qhP)
            | (at_builtin; refine wpList_append_any _ rfl _ _ 89 rfl w.heap.size 5 i5 (.int .u8 0) 1 1 Tryz.underlying89 hi5 hz5 hz51 hz52 rfl (by decide) (.slice ua k uc) k (((List.range k).map fun c => cellS F L X Y N PX PY rows (wdOf rows) rows.length (c : Nat) (q : Nat)).map (Value.int .u8)) rfl hin (w1.heap.size + 1) (some ⟨w1.heap.size, 0, none⟩) 1 1 [.int .u8 z] rfl (Rd.blkN (Blk.new _ _ _) rfl (Nat.lt_succ_self _)).reads (by simp [Value.oneCell']) (by unfold maxLen; omega) (by omega) (by have := hB.size; simp only [World.size_alloc] at this ⊢; omega) (fun v' w' hown' hgrow hob => ?_))
            | go_in)
          have hown2 := hown.kept hgrow (own_ne hown hin (by decide))
          have hS2 := hS.grown hgrow (fun e => own_blk_ne hin hS (by decide) e.symm)
          have hF2 := hF.grown hgrow (fun e => own_blk_ne hin hF (by decide) e.symm)
          have hP2 := hP.grown hgrow (fun e => own_blk_ne hin hP (by decide) e.symm)
          have hB2 := hB.grown hgrow hB.size (fun q hq => (hin.lt q hq).1)
          go_roundg (Wn - (k + 1))
          case measure => rw [HG2.out]; omega
          case rel => exact ⟨k + 1, _, rfl, by omega, by go_num, rfl, by rw [List.range_succ, List.map_append, List.map_append, List.map_singleton, List.map_singleton, ← HZ.out]; exact hown', hown2, hS2, hF2, hP2, hB2⟩
        · have hke : k = Wn := by omega
          subst hke
          have hpos : 0 < k := by omega
          obtain ⟨g', cap', hslice, hg1, hg2⟩ := hin.form hpos
          injection hslice with hs1 hs2 hs3
          subst hs1 hs3
          have hlen : ((List.range k).map fun c => cellS F L X Y N PX PY rows (wdOf rows) rows.length (c : Nat) (q : Nat)).length = k := by simp
          have hcc := run_convert_bytes_arg (P := Tryz.prog) W0 89 5 Tryz.underlying89 Tryz.underlying5 g' 0 k uc ((List.range k).map fun c => cellS F L X Y N PX PY rows (wdOf rows) rows.length (c : Nat) (q : Nat)) hlen (fun i hi => by
            rw [Nat.zero_add, hin.cellAt i (by omega)]
            simp [List.getD_eq_getElem?_getD, hi]) 9 Tryz.underlying9
          obtain ⟨s, hs⟩ : ∃ s, s = strOfNums ((List.range k).map fun c => cellS F L X Y N PX PY rows (wdOf rows) rows.length (c : Nat) (q : Nat)) := ⟨_, rfl⟩
          rw [← hs] at hcc
          have HS := Lib.hid (hs.trans (row_str (F := F) (L := L) (X := X) (Y := Y) (N := N) (PX := PX) (PY := PY) (rows := rows) (W := k) (H := Hn) (q := q) (by omega) hlt))
          clear hs hlen
          have hge : ¬ (k : Int) < (k : Int) := by omega
          go_wp2_with (first
            | (at_builtin; refine wpList_append_any _ rfl _ _ 24 rfl w.heap.size 9 i9 (.string ByteArray.empty) 1 16 Tryz.underlying24 hi9 hz9 hz91 hz92 rfl (by decide) (.slice va q vc) q ((rowsOf (shS k Hn F L X Y N PX PY rows) k q).map Value.string) rfl (hown.alloc _) (W0.heap.size + 1) (some ⟨W0.heap.size, 0, none⟩) 1 1 [.string s] rfl (Rd.blkN (Blk.new _ _ _) rfl (Nat.lt_succ_self _)).reads (by simp [Value.oneCell']) (by unfold maxLen; omega) (by omega) (by have := hB.size; simp only [World.size_alloc]; omega) (fun v' w' hown' hgrow hob => ?_))
            | go_in)
          have hown0 := hown.alloc (.cells #[.string s] 9)
          have hS2 := (hS.alloc (.cells #[.string s] 9)).grown hgrow (fun e => own_blk_ne hown0 (hS.alloc (.cells #[.string s] 9)) (by decide) e.symm)
          have hF2 := (hF.alloc (.cells #[.string s] 9)).grown hgrow (fun e => own_blk_ne hown0 (hF.alloc (.cells #[.string s] 9)) (by decide) e.symm)
          have hP2 := (hP.alloc (.cells #[.string s] 9)).grown hgrow (fun e => own_blk_ne hown0 (hP.alloc (.cells #[.string s] 9)) (by decide) e.symm)
          have hB2 := (hB.alloc hB.size (.cells #[.string s] 9)).grown hgrow (by have := hB.size; simp only [World.size_alloc]; omega) (fun q hq => (hown0.lt q hq).1)
          go_roundg (Hn - (q + 1))
          case measure => rw [HG.out]; omega
          case rel => exact ⟨q + 1, _, rfl, by omega, by go_num, rfl, by rw [rowsOf_succ, List.map_append, ← HS.out]; exact hown', hS2, hF2, hP2, hB2⟩
    · have hqe : q = Hn := by omega
      subst hqe
      have hge : ¬ (q : Int) < (q : Int) := by omega
      go_wp2_with (fail)
      go_ret
      exact ⟨_, rfl, hown, hB⟩
end Go.Proofs.YtifddfchpknkbaaGreatDoor
