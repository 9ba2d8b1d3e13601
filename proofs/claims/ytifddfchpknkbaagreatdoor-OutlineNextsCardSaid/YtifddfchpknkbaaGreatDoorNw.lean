import Derived.Test.YtifddfchpknkbaaGreatDoorRw
import Derived.Test.YtifddfchpknkbaaGreatDoorKn
import Derived.Test.YtifddfchpknkbaaGreatDoorLz
set_option linter.unusedVariables false
set_option linter.unusedSimpArgs false
namespace Go.Proofs.YtifddfchpknkbaaGreatDoor
open Go.RowKit

set_option maxRecDepth 100000 in
set_option maxHeartbeats 25600000 in
theorem left_any (Wn : Nat) (H F L X Y y : Int) (m : Nat) (tA : Option Addr) (tn tc : Nat) (tl : List Tr) (uA : Option Addr) (uc : Nat) (vs : List Value) (cls : List (List ByteArray)) (base : Nat) (j : Nat) (z : Tr → Int) (q : Int → Tr → Bool) (w : World) (hq : ∀ c t, q c t = !clB (z t) c) (hm : m ≤ 1000) (htn : tn ≤ 1000) (hT : Rd w w.heap.size 4 tA tn (tl.flatMap (rdC y))) (hU : Rd w w.heap.size 1 uA tn vs) (hcl : Cloths w base vs cls) (hW : 1 ≤ Wn) (hW2 : Wn ≤ 100) (hj : j ≤ 10000)
    (hcell : ∀ i (h : i < tl.length) (h2 : i < cls.length), ∃ r, cls[i][j / Wn]? = some r ∧ (ltr r)[j % Wn]? = some (z tl[i]) ∧ r.size ≤ 10000) :
    Calls Tryz.prog 128 #[.agg #[.int .i64 Wn, .int .i64 H, .int .i64 F, .int .i64 L, .int .i64 X, .int .i64 Y], .int .i64 m, .slice tA tn tc, .slice uA tn uc, .int .i64 j] w fun e w' => e = .returned (.int .i64 (max (figN (tl.filter (q 35)) m) (figN (tl.filter (q 46)) m) : Nat)) ∧ Below w.heap.size w w' := by
  obtain ⟨i86, hi, hz0, hz1', hz2'⟩ := info_parts info86
  have hlen := hT.lenc (by decide) (rdC_len y)
  have hvl : vs.length = tn := by have := hU.1; omega
  have HQ := Lib.hid hq; have HCELL := Lib.hid hcell; have HLEN := Lib.hid hlen; have HVL := Lib.hid hvl
  clear hq hcell hlen hvl
  obtain ⟨a, ha⟩ : ∃ a, a = figN (tl.filter (q 35)) m := ⟨_, rfl⟩
  obtain ⟨b, hb⟩ : ∃ b, b = figN (tl.filter (q 46)) m := ⟨_, rfl⟩
  have hle : ∀ l : List Tr, figN l m ≤ m := fun l => by unfold figN; exact Nat.le_trans (List.length_filter_le _ _) (by simp)
  have ham : a ≤ m := by rw [ha]; exact hle _
  have hbm : b ≤ m := by rw [hb]; exact hle _
  rw [← ha, ← hb]
  have HA := Lib.hid ha; have HB := Lib.hid hb; clear ha hb hle
  go_enter Tryz.func128, Tryz.ntmps128
  go_upto_region 1 with (fail)
  have hS := Blk.new w 23 #[.int .i64 Wn, .int .i64 H, .int .i64 F, .int .i64 L, .int .i64 X, .int .i64 Y]
  have hB : Below w.heap.size w (w.alloc (.cells #[.int .i64 Wn, .int .i64 H, .int .i64 F, .int .i64 L, .int .i64 X, .int .i64 Y] 23)) := (Below.refl _ w).alloc (Nat.le_refl _) _
  generalize w.alloc (.cells #[.int .i64 Wn, .int .i64 H, .int .i64 F, .int .i64 L, .int .i64 X, .int .i64 Y] 23) = W0 at *
  go_wp2_with (fail)
  go_loopg [11, 12] 2 (fun g o t wr => ∃ (k : Nat) (ov : Int), g = 2 - k ∧ k ≤ 2 ∧ t = .int .i64 k ∧ o = .int .i64 ov ∧ ((k = 0 ∧ ov = 0) ∨ (k = 1 ∧ ov = a) ∨ (k = 2 ∧ ov = (max a b : Nat))) ∧ Blk wr w.heap.size 23 #[.int .i64 Wn, .int .i64 H, .int .i64 F, .int .i64 L, .int .i64 X, .int .i64 Y] ∧ Below w.heap.size w wr)
  case atStart => exact ⟨0, 0, rfl, by omega, rfl, rfl, .inl ⟨rfl, rfl⟩, hS, hB⟩
  case round =>
    clear hS hB
    obtain ⟨k, ov, hg, hk, rfl, rfl, hcase, hS, hB⟩ := hrel
    have HG := Lib.hid hg; clear hg
    rcases hcase with ⟨rfl, rfl⟩ | ⟨rfl, rfl⟩ | ⟨rfl, rfl⟩
    · go_wp2_with (fail)
      go_loopg [14, 15] tn (fun g v i wr => ∃ (k : Nat) (v0 : Value), g = tn - k ∧ k ≤ tn ∧ v = v0 ∧ i = .int .i64 k ∧ wr.ownsRow w.heap.size 86 4 v0 ((tl.take k).filter (q 35)).length (((tl.take k).filter (q 35)).flatMap (rdC y)) ∧ Blk wr w.heap.size 23 #[.int .i64 Wn, .int .i64 H, .int .i64 F, .int .i64 L, .int .i64 X, .int .i64 Y] ∧ Below w.heap.size w wr)
      case atStart => exact ⟨0, _, rfl, Nat.zero_le _, rfl, rfl, World.ownsRow_nil _ _ _ _, hS, hB⟩
      case round =>
        clear hS hB
        obtain ⟨k, v0, hg, hk, rfl, rfl, hown, hS, hB⟩ := hrel
        have HG2 := Lib.hid hg; clear hg
        obtain ⟨va, vc, rfl⟩ := own_slice hown
        have hml : ((tl.take k).filter (q 35)).length ≤ 1000 := by have h1 := List.length_filter_le (q 35) (tl.take k); have h2 := List.length_take_le k tl; omega
        rename World => W2
        by_cases hlt : k < tn
        · have hlti : (k : Int) < tn := by omega
          have hz : k < tl.length := by have := HLEN.out; omega
          obtain ⟨bR, oR, hzk, rfl, hbR, c0, c1, c2, c3⟩ := (rdB hT hB).at4 hlt
          obtain ⟨bU, oU, rfl, hbU, hcu⟩ := (rdB hU hB).2 (by omega)
          have hvk : k < vs.length := by rw [HVL.out]; exact hlt
          obtain ⟨hck, Ak, ck, ek, _, _, hrk⟩ := (hcl.below hB).at hvk
          have cu : W2.cell? ⟨bU, oU + k, none⟩ = some (.slice Ak cls[k].length ck) := hcu k _ (by rw [List.getElem?_eq_getElem hvk, ek])
          obtain ⟨r, hr1, hr2, hr3⟩ := HCELL.out k hz hck
          have hkc := fun p : Blw W2.heap.size W2 => Cell_any Wn H F L X Y Ak cls[k].length ck cls[k] r j (z tl[k]) p.to hW hW2 hj hr1 hr2 hr3 (rdB hrk p.h)
          have hft := filter_take (q 35) tl k hzk
          have hqk := HQ.out 35 tl[k]
          have hrc : rdC y tl[k] = [.int .i64 tl[k].1, .int .i64 tl[k].2.1, .int .i64 tl[k].2.2, .int .i64 y] := rfl
          generalize hzt : z tl[k] = zt at *
          generalize tl[k] = tk at *
          obtain ⟨t1, t2, t3⟩ := tk
          dsimp only at c0 c1 c2 c3 hrc
          generalize cls[k].length = lk at *
          have HFT := Lib.hid hft; clear hft hcu ek hrk hr1 hr2 hzt
          have hbs := fun p i => blw_blk hS p i
          have q3 := fun p : Blw W2.heap.size W2 => blw_cell (a := ⟨bU, oU + k, none⟩) hbU cu p
          go_upto_region 12 with (fail)
          cases hcb : clB zt 35
          · have hq1 : q 35 (t1, t2, t3) = true := by rw [hqk, hcb]; rfl
            have HQ1 := Lib.hid hq1; clear hq1 hqk
            as_aux_lemma =>
              refine wp_region_blw (by kernel_rfl) (by kernel_rfl) ?_
              repeat (go_big_quiet_step (first | (go_at_call 66; exact Calls.blw_of _ (hkc _)) | (go_at_call 81; exact Calls.blw_of_same _ (hcb ▸ Opposed_any _ _ _))))
              refine wpQuiet_nil ?_
              rintro W3 ⟨⟨_, hb⟩, rfl⟩
              replace c0 := (hb.cell (p := ⟨bR, oR + k * 4, none⟩) hbR).trans c0; replace c1 := (hb.cell (p := ⟨bR, oR + k * 4 + 1, none⟩) hbR).trans c1; replace c2 := (hb.cell (p := ⟨bR, oR + k * 4 + 2, none⟩) hbR).trans c2; replace c3 := (hb.cell (p := ⟨bR, oR + k * 4 + 3, none⟩) hbR).trans c3
              clear q3 hbs hkc
              replace hS := hS.below hb hS.lt; replace hown := ownsRow_below' hown hb; replace hB := hB.trans (hb.mono hB.size); clear hb
              obtain ⟨ol, hol⟩ : ∃ ol, ol = (tl.take k).filter (q 35) := ⟨_, rfl⟩
              rw [← hol] at hown HFT hml ⊢
              clear hol
              obtain ⟨ml, hm2⟩ : ∃ ml, ml = ol.length := ⟨_, rfl⟩
              rw [← hm2] at hown hml ⊢
              have HM := Lib.hid hm2; clear hm2
              go_wp2_with (first | (at_builtin; refine wpList_append_any _ rfl _ _ 72 rfl w.heap.size 86 i86 (.agg #[.int .i64 0, .int .i64 0, .int .i64 0, .int .i64 0]) 4 32 Tryz.underlying72 hi hz0 hz1' hz2' rfl (by decide) (.slice va ml vc) ml (ol.flatMap (rdC y)) rfl (hown.alloc _) (W3.heap.size + 1) (some ⟨W3.heap.size, 0, none⟩) 1 1 (rdC y (t1, t2, t3)) rfl (Rd.blkN (Blk.new W3 86 #[.int .i64 t1, .int .i64 t2, .int .i64 t3, .int .i64 y]) rfl (Nat.lt_succ_self _)).reads (by simp [rdC, Value.oneCell']) (by unfold maxLen; omega) (by omega) (by have := hB.size; simp only [World.size_alloc]; omega) (fun v' w' hown' hgrow hob => ?_)) | go_in)
              have hown0 := hown.alloc (.cells #[.int .i64 t1, .int .i64 t2, .int .i64 t3, .int .i64 y] 86)
              have hS2 := (hS.alloc (.cells #[.int .i64 t1, .int .i64 t2, .int .i64 t3, .int .i64 y] 86)).kept_own hown0 (by decide) hgrow
              have hB2 := (hB.alloc hB.size (.cells #[.int .i64 t1, .int .i64 t2, .int .i64 t3, .int .i64 y] 86)).grown hgrow (by have := hB.size; simp only [World.size_alloc]; omega) (fun g hg => (hown0.lt g hg).1)
              go_roundg (tn - (k + 1))
              case measure => rw [HG2.out]; omega
              case rel => exact ⟨k + 1, _, rfl, by omega, rfl, by go_num, by rw [HFT.out, HQ1.out, if_pos rfl, List.length_append, List.flatMap_append, ← HM.out]; simpa using hown', hS2, hB2⟩
          · have hq1 : q 35 (t1, t2, t3) = false := by rw [hqk, hcb]; rfl
            have HQ1 := Lib.hid hq1; clear hq1 hqk
            as_aux_lemma =>
              refine wp_region_blw (by kernel_rfl) (by kernel_rfl) ?_
              repeat (go_big_quiet_step (first | (go_at_call 66; exact Calls.blw_of _ (hkc _)) | (go_at_call 81; exact Calls.blw_of_same _ (hcb ▸ Opposed_any _ _ _))))
              refine wpQuiet_nil ?_
              rintro W3 ⟨⟨_, hb⟩, rfl⟩
              clear q3 hbs hkc
              replace hS := hS.below hb hS.lt; replace hown := ownsRow_below' hown hb; replace hB := hB.trans (hb.mono hB.size); clear hb
              go_wp2_with (fail)
              go_roundg (tn - (k + 1))
              case measure => rw [HG2.out]; omega
              case rel => exact ⟨k + 1, _, rfl, by omega, rfl, by go_num, by rw [HFT.out, HQ1.out]; simpa using hown, hS, hB⟩
        · obtain rfl : k = tn := by omega
          have htk : tl.take k = tl := List.take_of_length_le (by have := HLEN.out; omega)
          rw [htk] at hown hml
          have hge : ¬ (k : Int) < k := by omega
          obtain ⟨ol, hol⟩ : ∃ ol, ol = tl.filter (q 35) := ⟨_, rfl⟩
          have hol2 : (tl.take k).filter (q 35) = ol := by rw [htk, hol]
          rw [hol2]
          rw [← hol] at hown hml
          have HOL := Lib.hid hol; clear hol hol2 htk
          have hOR := Rd.of_own hown
          go_wp2_with (go_at_call 122; refine (refFigs_any va ol.length vc ol y m _ (by omega) hm hOR).mono ?_; rintro e w2 ⟨rfl, rfl⟩; rw [HOL.out, ← HA.out])
          go_roundg 1
          case measure => rw [HG.out]; omega
          case rel => exact ⟨1, _, rfl, by omega, by first | rfl | go_num, rfl, .inr (.inl ⟨rfl, by omega⟩), hS, hB⟩
    · go_wp2_with (fail)
      go_loopg [14, 15] tn (fun g v i wr => ∃ (k : Nat) (v0 : Value), g = tn - k ∧ k ≤ tn ∧ v = v0 ∧ i = .int .i64 k ∧ wr.ownsRow w.heap.size 86 4 v0 ((tl.take k).filter (q 46)).length (((tl.take k).filter (q 46)).flatMap (rdC y)) ∧ Blk wr w.heap.size 23 #[.int .i64 Wn, .int .i64 H, .int .i64 F, .int .i64 L, .int .i64 X, .int .i64 Y] ∧ Below w.heap.size w wr)
      case atStart => exact ⟨0, _, rfl, Nat.zero_le _, rfl, rfl, World.ownsRow_nil _ _ _ _, hS, hB⟩
      case round =>
        clear hS hB
        obtain ⟨k, v0, hg, hk, rfl, rfl, hown, hS, hB⟩ := hrel
        have HG2 := Lib.hid hg; clear hg
        obtain ⟨va, vc, rfl⟩ := own_slice hown
        have hml : ((tl.take k).filter (q 46)).length ≤ 1000 := by have h1 := List.length_filter_le (q 46) (tl.take k); have h2 := List.length_take_le k tl; omega
        rename World => W2
        by_cases hlt : k < tn
        · have hlti : (k : Int) < tn := by omega
          have hz : k < tl.length := by have := HLEN.out; omega
          obtain ⟨bR, oR, hzk, rfl, hbR, c0, c1, c2, c3⟩ := (rdB hT hB).at4 hlt
          obtain ⟨bU, oU, rfl, hbU, hcu⟩ := (rdB hU hB).2 (by omega)
          have hvk : k < vs.length := by rw [HVL.out]; exact hlt
          obtain ⟨hck, Ak, ck, ek, _, _, hrk⟩ := (hcl.below hB).at hvk
          have cu : W2.cell? ⟨bU, oU + k, none⟩ = some (.slice Ak cls[k].length ck) := hcu k _ (by rw [List.getElem?_eq_getElem hvk, ek])
          obtain ⟨r, hr1, hr2, hr3⟩ := HCELL.out k hz hck
          have hkc := fun p : Blw W2.heap.size W2 => Cell_any Wn H F L X Y Ak cls[k].length ck cls[k] r j (z tl[k]) p.to hW hW2 hj hr1 hr2 hr3 (rdB hrk p.h)
          have hft := filter_take (q 46) tl k hzk
          have hqk := HQ.out 46 tl[k]
          have hrc : rdC y tl[k] = [.int .i64 tl[k].1, .int .i64 tl[k].2.1, .int .i64 tl[k].2.2, .int .i64 y] := rfl
          generalize hzt : z tl[k] = zt at *
          generalize tl[k] = tk at *
          obtain ⟨t1, t2, t3⟩ := tk
          dsimp only at c0 c1 c2 c3 hrc
          generalize cls[k].length = lk at *
          have HFT := Lib.hid hft; clear hft hcu ek hrk hr1 hr2 hzt
          have hbs := fun p i => blw_blk hS p i
          have q3 := fun p : Blw W2.heap.size W2 => blw_cell (a := ⟨bU, oU + k, none⟩) hbU cu p
          go_upto_region 12 with (fail)
          cases hcb : clB zt 46
          · have hq1 : q 46 (t1, t2, t3) = true := by rw [hqk, hcb]; rfl
            have HQ1 := Lib.hid hq1; clear hq1 hqk
            as_aux_lemma =>
              refine wp_region_blw (by kernel_rfl) (by kernel_rfl) ?_
              repeat (go_big_quiet_step (first | (go_at_call 66; exact Calls.blw_of _ (hkc _)) | (go_at_call 81; exact Calls.blw_of_same _ (hcb ▸ Opposed_any _ _ _))))
              refine wpQuiet_nil ?_
              rintro W3 ⟨⟨_, hb⟩, rfl⟩
              replace c0 := (hb.cell (p := ⟨bR, oR + k * 4, none⟩) hbR).trans c0; replace c1 := (hb.cell (p := ⟨bR, oR + k * 4 + 1, none⟩) hbR).trans c1; replace c2 := (hb.cell (p := ⟨bR, oR + k * 4 + 2, none⟩) hbR).trans c2; replace c3 := (hb.cell (p := ⟨bR, oR + k * 4 + 3, none⟩) hbR).trans c3
              clear q3 hbs hkc
              replace hS := hS.below hb hS.lt; replace hown := ownsRow_below' hown hb; replace hB := hB.trans (hb.mono hB.size); clear hb
              obtain ⟨ol, hol⟩ : ∃ ol, ol = (tl.take k).filter (q 46) := ⟨_, rfl⟩
              rw [← hol] at hown HFT hml ⊢
              clear hol
              obtain ⟨ml, hm2⟩ : ∃ ml, ml = ol.length := ⟨_, rfl⟩
              rw [← hm2] at hown hml ⊢
              have HM := Lib.hid hm2; clear hm2
              go_wp2_with (first | (at_builtin; refine wpList_append_any _ rfl _ _ 72 rfl w.heap.size 86 i86 (.agg #[.int .i64 0, .int .i64 0, .int .i64 0, .int .i64 0]) 4 32 Tryz.underlying72 hi hz0 hz1' hz2' rfl (by decide) (.slice va ml vc) ml (ol.flatMap (rdC y)) rfl (hown.alloc _) (W3.heap.size + 1) (some ⟨W3.heap.size, 0, none⟩) 1 1 (rdC y (t1, t2, t3)) rfl (Rd.blkN (Blk.new W3 86 #[.int .i64 t1, .int .i64 t2, .int .i64 t3, .int .i64 y]) rfl (Nat.lt_succ_self _)).reads (by simp [rdC, Value.oneCell']) (by unfold maxLen; omega) (by omega) (by have := hB.size; simp only [World.size_alloc]; omega) (fun v' w' hown' hgrow hob => ?_)) | go_in)
              have hown0 := hown.alloc (.cells #[.int .i64 t1, .int .i64 t2, .int .i64 t3, .int .i64 y] 86)
              have hS2 := (hS.alloc (.cells #[.int .i64 t1, .int .i64 t2, .int .i64 t3, .int .i64 y] 86)).kept_own hown0 (by decide) hgrow
              have hB2 := (hB.alloc hB.size (.cells #[.int .i64 t1, .int .i64 t2, .int .i64 t3, .int .i64 y] 86)).grown hgrow (by have := hB.size; simp only [World.size_alloc]; omega) (fun g hg => (hown0.lt g hg).1)
              go_roundg (tn - (k + 1))
              case measure => rw [HG2.out]; omega
              case rel => exact ⟨k + 1, _, rfl, by omega, rfl, by go_num, by rw [HFT.out, HQ1.out, if_pos rfl, List.length_append, List.flatMap_append, ← HM.out]; simpa using hown', hS2, hB2⟩
          · have hq1 : q 46 (t1, t2, t3) = false := by rw [hqk, hcb]; rfl
            have HQ1 := Lib.hid hq1; clear hq1 hqk
            as_aux_lemma =>
              refine wp_region_blw (by kernel_rfl) (by kernel_rfl) ?_
              repeat (go_big_quiet_step (first | (go_at_call 66; exact Calls.blw_of _ (hkc _)) | (go_at_call 81; exact Calls.blw_of_same _ (hcb ▸ Opposed_any _ _ _))))
              refine wpQuiet_nil ?_
              rintro W3 ⟨⟨_, hb⟩, rfl⟩
              clear q3 hbs hkc
              replace hS := hS.below hb hS.lt; replace hown := ownsRow_below' hown hb; replace hB := hB.trans (hb.mono hB.size); clear hb
              go_wp2_with (fail)
              go_roundg (tn - (k + 1))
              case measure => rw [HG2.out]; omega
              case rel => exact ⟨k + 1, _, rfl, by omega, rfl, by go_num, by rw [HFT.out, HQ1.out]; simpa using hown, hS, hB⟩
        · obtain rfl : k = tn := by omega
          have htk : tl.take k = tl := List.take_of_length_le (by have := HLEN.out; omega)
          rw [htk] at hown hml
          have hge : ¬ (k : Int) < k := by omega
          obtain ⟨ol, hol⟩ : ∃ ol, ol = tl.filter (q 46) := ⟨_, rfl⟩
          have hol2 : (tl.take k).filter (q 46) = ol := by rw [htk, hol]
          rw [hol2]
          rw [← hol] at hown hml
          have HOL := Lib.hid hol; clear hol hol2 htk
          have hOR := Rd.of_own hown
          go_wp2_with (go_at_call 122; refine (refFigs_any va ol.length vc ol y m _ (by omega) hm hOR).mono ?_; rintro e w2 ⟨rfl, rfl⟩; rw [HOL.out, ← HB.out])
          go_roundg 0
          case measure => rw [HG.out]; omega
          case rel => exact ⟨2, _, rfl, by omega, by first | rfl | go_num, rfl, .inr (.inr ⟨rfl, by omega⟩), hS, hB⟩
    · go_wp2_with (fail)
      go_ret
      exact ⟨rfl, hB⟩
end Go.Proofs.YtifddfchpknkbaaGreatDoor
