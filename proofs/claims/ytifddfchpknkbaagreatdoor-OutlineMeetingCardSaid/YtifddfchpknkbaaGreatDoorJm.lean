import Derived.Test.YtifddfchpknkbaaGreatDoorJp
import Derived.Test.YtifddfchpknkbaaGreatDoorHb
import Derived.Test.YtifddfchpknkbaaGreatDoorP
import Derived.Laws.IdiomStrings
import Derived.Test.YtifddfchpknkbaaGreatDoorZ
import Derived.Test.YtifddfchpknkbaaGreatDoorKn
import Derived.Test.YtifddfchpknkbaaGreatDoorFe
import Derived.Test.YtifddfchpknkbaaGreatDoorHe
set_option linter.unusedVariables false
set_option linter.unusedSimpArgs false
namespace Go.Proofs.YtifddfchpknkbaaGreatDoor
open Go.RowKit

set_option maxRecDepth 100000 in
set_option maxHeartbeats 1600000 in
theorem refPlaces_any (W H F L X Y : Int) (A : Option Addr) (n cap : Nat) (ps : List Pl) (w : World) (hn : n ≤ 6) (hF : 2 ≤ F) (hF2 : F ≤ 40) (hr : Rd w w.heap.size 3 A n (ps.flatMap plC)) :
    Calls Tryz.prog 42 #[.agg #[.int .i64 W, .int .i64 H, .int .i64 F, .int .i64 L, .int .i64 X, .int .i64 Y], .slice A n cap] w fun e w' => e = .returned (.bool (placesB F ps)) ∧ Below w.heap.size w w' := by
  have hlen := hr.lenc (by decide) plC_len
  have HLEN := Lib.hid hlen; clear hlen
  go_enter Tryz.func42, Tryz.ntmps42
  go_wp2
  have hS := Blk.new w 23 #[.int .i64 W, .int .i64 H, .int .i64 F, .int .i64 L, .int .i64 X, .int .i64 Y]
  have hB := (Below.refl w.heap.size w).alloc (Nat.le_refl _) (.cells #[.int .i64 W, .int .i64 H, .int .i64 F, .int .i64 L, .int .i64 X, .int .i64 Y] 23)
  generalize w.alloc (.cells #[.int .i64 W, .int .i64 H, .int .i64 F, .int .i64 L, .int .i64 X, .int .i64 Y] 23) = W0 at *
  go_loopg [5] n (fun g i wr => ∃ k : Nat, g = n - k ∧ k ≤ n ∧ i = .int .i64 k ∧ (ps.take k).all (fun p => placeB F p.n p.x p.y) = true ∧ Blk wr w.heap.size 23 #[.int .i64 W, .int .i64 H, .int .i64 F, .int .i64 L, .int .i64 X, .int .i64 Y] ∧ Below w.heap.size w wr)
  case atStart => exact ⟨0, rfl, Nat.zero_le _, rfl, rfl, hS, hB⟩
  case round =>
    clear hS hB
    obtain ⟨k, hg, hk, rfl, hall, hS, hB⟩ := hrel
    have HG := Lib.hid hg; clear hg
    have HALL := Lib.hid hall; clear hall
    by_cases hlt : k < n
    · obtain ⟨b, off, hzk, rfl, hb, hc0, hc1, hc2⟩ := (hr.below hB).at3 hlt
      have ha := all_take (fun p : Pl => placeB F p.n p.x p.y) ps k hzk
      have hstop := all_stop (fun p : Pl => placeB F p.n p.x p.y) ps k hzk
      generalize ps[k] = p at *
      obtain ⟨pn, px, py⟩ := p
      dsimp only at hc0 hc1 hc2 ha hstop
      have HA := Lib.hid ha; have HST := Lib.hid hstop; clear ha hstop
      have hk6 : (k : Int) < 6 := by omega
      cases hh : placeB F pn px py
      all_goals
        have hk31 : ∀ p : Blw wr.heap.size wr, Calls Tryz.prog 31 #[.agg #[.int .i64 W, .int .i64 H, .int .i64 F, .int .i64 L, .int .i64 X, .int .i64 Y], .agg #[.int .i64 pn, .int .i64 px, .int .i64 py]] p.to fun e w' => e = .returned (.bool (placeB F pn px py)) ∧ Below p.to.heap.size p.to w' := fun p => Place_any W H F L X Y pn px py _ hF hF2
        rw [hh] at hk31
        have hbs := fun p i => blw_blk hS p i
        have hp0 : ∀ p : Blw wr.heap.size wr, p.to.cell? ⟨b, off + k * 3, none⟩ = _ := fun p => blw_cell (a := ⟨b, off + k * 3, none⟩) (Nat.lt_of_lt_of_le hb hB.size) hc0 p
        have hp1 : ∀ p : Blw wr.heap.size wr, p.to.cell? ⟨b, off + k * 3 + 1, none⟩ = _ := fun p => blw_cell (a := ⟨b, off + k * 3 + 1, none⟩) (Nat.lt_of_lt_of_le hb hB.size) hc1 p
        have hp2 : ∀ p : Blw wr.heap.size wr, p.to.cell? ⟨b, off + k * 3 + 2, none⟩ = _ := fun p => blw_cell (a := ⟨b, off + k * 3 + 2, none⟩) (Nat.lt_of_lt_of_le hb hB.size) hc2 p
        have HHH := Lib.hid hh; clear hh
        go_upto_region 4 with (fail)
        refine wp_region_blw (by kernel_rfl) (by kernel_rfl) ?_
        repeat (go_big_quiet_step ((go_at_call 31; exact Calls.blw_of _ (hk31 _))))
        refine wpQuiet_nil ?_
        rintro W3 ⟨⟨_, hb3⟩, rfl⟩
        clear hbs hp0 hp1 hp2 hk31
        replace hS := hS.below hb3 hS.lt
        replace hB := hB.trans (hb3.mono hB.size)
        go_wp2_with (fail)
      · go_ret
        exact ⟨ret_bool (by unfold placesB; rw [HST.out HHH.out]), hB⟩
      · go_roundg (n - (k + 1))
        case measure => rw [HG.out]; omega
        case rel => exact ⟨k + 1, rfl, by omega, by go_num, by rw [HA.out, HALL.out]; exact HHH.out, hS, hB⟩
    · obtain rfl : k = n := by omega
      have hta : ps.take k = ps := List.take_of_length_le (by have := HLEN.out; omega)
      rw [hta] at HALL
      have hge : ¬ (k : Int) < (k : Int) := by omega
      go_wp2
      go_ret
      exact ⟨ret_bool (by unfold placesB; rw [HALL.out]), hB⟩

set_option maxRecDepth 100000 in
set_option maxHeartbeats 6400000 in
theorem refMeets_any (Wn Hn : Nat) (F L X Y : Int) (N1 PX1 PY1 : Int) (A1 : Option Addr) (n1 cap1 : Nat) (rows1 : List ByteArray) (N2 PX2 PY2 : Int) (A2 : Option Addr) (n2 cap2 : Nat) (rows2 : List ByteArray) (w : World) (hv1 : viewB Wn Hn F L X Y N1 PX1 PY1 rows1 = true) (hv2 : viewB Wn Hn F L X Y N2 PX2 PY2 rows2 = true) (hr1 : Rd w w.heap.size 1 A1 n1 (rows1.map Value.string)) (hr2 : Rd w w.heap.size 1 A2 n2 (rows2.map Value.string)) :
    Calls Tryz.prog 45 #[.agg #[.int .i64 Wn, .int .i64 Hn, .int .i64 F, .int .i64 L, .int .i64 X, .int .i64 Y], .agg #[.slice A1 n1 cap1], .agg #[.int .i64 N1, .int .i64 PX1, .int .i64 PY1], .agg #[.slice A2 n2 cap2], .agg #[.int .i64 N2, .int .i64 PX2, .int .i64 PY2]] w fun e w' => e = .returned (.int .i64 (meetV (shS Wn Hn F L X Y N1 PX1 PY1 rows1) (shS Wn Hn F L X Y N2 PX2 PY2 rows2))) ∧ Below w.heap.size w w' := by
  have hwh : (1 ≤ Wn ∧ Wn ≤ 16) ∧ 1 ≤ Hn ∧ Hn ≤ 16 := by
    have h := hv1
    simp only [viewB, Bool.and_eq_true] at h
    have ⟨⟨a1, a2⟩, ⟨a3, a4⟩, _⟩ := stageB_nums h.1
    omega
  obtain ⟨⟨w1, w2⟩, w3, w4⟩ := hwh
  obtain ⟨g1, hg1⟩ : ∃ g, g = cellFP F L X Y (⟨A1, n1, cap1, rows1⟩, ⟨N1, PX1, PY1⟩) := ⟨_, rfl⟩
  obtain ⟨g2, hg2⟩ : ∃ g, g = cellFP F L X Y (⟨A2, n2, cap2, rows2⟩, ⟨N2, PX2, PY2⟩) := ⟨_, rfl⟩
  have ht1 : ∀ k q, tri (g1 k q) := fun k q => by rw [hg1]; exact cellFP_tri ..
  have ht2 : ∀ k q, tri (g2 k q) := fun k q => by rw [hg2]; exact cellFP_tri ..
  have hzip : (ltr (shS Wn Hn F L X Y N1 PX1 PY1 rows1)).zip (ltr (shS Wn Hn F L X Y N2 PX2 PY2 rows2)) = pairL Wn (Wn * Hn) g1 g2 := by
    have e1 := shS_cloth Wn Hn F L X Y (⟨A1, n1, cap1, rows1⟩, ⟨N1, PX1, PY1⟩)
    have e2 := shS_cloth Wn Hn F L X Y (⟨A2, n2, cap2, rows2⟩, ⟨N2, PX2, PY2⟩)
    dsimp only at e1 e2
    rw [e1, e2, ← hg1, ← hg2]
    exact pairL_zip Wn Hn g1 g2 ht1 ht2
  have hme : meetV (shS Wn Hn F L X Y N1 PX1 PY1 rows1) (shS Wn Hn F L X Y N2 PX2 PY2 rows2) = if (pairL Wn (Wn * Hn) g1 g2).any bothD then 3 else if (pairL Wn (Wn * Hn) g1 g2).any bothG then 2 else 1 := by rw [meetV, hzip]
  have HME := Lib.hid hme; have HT1 := Lib.hid ht1; have HT2 := Lib.hid ht2
  have hc1 : ∀ (k q : Nat) (W1 : World), k ≤ 16 → q ≤ 16 → Below w.heap.size w W1 → Calls Tryz.prog 104 #[.agg #[.int .i64 Wn, .int .i64 Hn, .int .i64 F, .int .i64 L, .int .i64 X, .int .i64 Y], .agg #[.slice A1 n1 cap1], .agg #[.int .i64 N1, .int .i64 PX1, .int .i64 PY1], .int .i64 k, .int .i64 q] W1 fun e w' => e = .returned (.int .u8 (g1 k q)) ∧ Below W1.heap.size W1 w' := fun k q W1 hk hq hB => by
    rw [hg1]; exact shade_any Wn Hn F L X Y N1 PX1 PY1 k q A1 n1 cap1 rows1 _ hv1 hk hq (rdB hr1 hB)
  have hc2 : ∀ (k q : Nat) (W1 : World), k ≤ 16 → q ≤ 16 → Below w.heap.size w W1 → Calls Tryz.prog 104 #[.agg #[.int .i64 Wn, .int .i64 Hn, .int .i64 F, .int .i64 L, .int .i64 X, .int .i64 Y], .agg #[.slice A2 n2 cap2], .agg #[.int .i64 N2, .int .i64 PX2, .int .i64 PY2], .int .i64 k, .int .i64 q] W1 fun e w' => e = .returned (.int .u8 (g2 k q)) ∧ Below W1.heap.size W1 w' := fun k q W1 hk hq hB => by
    rw [hg2]; exact shade_any Wn Hn F L X Y N2 PX2 PY2 k q A2 n2 cap2 rows2 _ hv2 hk hq (rdB hr2 hB)
  have HC1 := Lib.hid hc1; have HC2 := Lib.hid hc2
  clear hg1 hg2 ht1 ht2 hzip hme hc1 hc2 hr1 hr2 hv1 hv2
  go_enter Tryz.func45, Tryz.ntmps45
  go_upto_region 1 with (fail)
  have hS := blk5_0 w (.cells #[.slice A1 n1 cap1] 26) (.cells #[.int .i64 N1, .int .i64 PX1, .int .i64 PY1] 28) (.cells #[.slice A2 n2 cap2] 26) (.cells #[.int .i64 N2, .int .i64 PX2, .int .i64 PY2] 28) 23 #[.int .i64 Wn, .int .i64 Hn, .int .i64 F, .int .i64 L, .int .i64 X, .int .i64 Y]
  have hF := blk5_1 w (.cells #[.int .i64 Wn, .int .i64 Hn, .int .i64 F, .int .i64 L, .int .i64 X, .int .i64 Y] 23) (.cells #[.int .i64 N1, .int .i64 PX1, .int .i64 PY1] 28) (.cells #[.slice A2 n2 cap2] 26) (.cells #[.int .i64 N2, .int .i64 PX2, .int .i64 PY2] 28) 26 #[.slice A1 n1 cap1]
  have hP := blk5_2 w (.cells #[.int .i64 Wn, .int .i64 Hn, .int .i64 F, .int .i64 L, .int .i64 X, .int .i64 Y] 23) (.cells #[.slice A1 n1 cap1] 26) (.cells #[.slice A2 n2 cap2] 26) (.cells #[.int .i64 N2, .int .i64 PX2, .int .i64 PY2] 28) 28 #[.int .i64 N1, .int .i64 PX1, .int .i64 PY1]
  have hG := blk5_3 w (.cells #[.int .i64 Wn, .int .i64 Hn, .int .i64 F, .int .i64 L, .int .i64 X, .int .i64 Y] 23) (.cells #[.slice A1 n1 cap1] 26) (.cells #[.int .i64 N1, .int .i64 PX1, .int .i64 PY1] 28) (.cells #[.int .i64 N2, .int .i64 PX2, .int .i64 PY2] 28) 26 #[.slice A2 n2 cap2]
  have hQ := blk5_4 w (.cells #[.int .i64 Wn, .int .i64 Hn, .int .i64 F, .int .i64 L, .int .i64 X, .int .i64 Y] 23) (.cells #[.slice A1 n1 cap1] 26) (.cells #[.int .i64 N1, .int .i64 PX1, .int .i64 PY1] 28) (.cells #[.slice A2 n2 cap2] 26) 28 #[.int .i64 N2, .int .i64 PX2, .int .i64 PY2]
  have hB := pro_5 w (.cells #[.int .i64 Wn, .int .i64 Hn, .int .i64 F, .int .i64 L, .int .i64 X, .int .i64 Y] 23) (.cells #[.slice A1 n1 cap1] 26) (.cells #[.int .i64 N1, .int .i64 PX1, .int .i64 PY1] 28) (.cells #[.slice A2 n2 cap2] 26) (.cells #[.int .i64 N2, .int .i64 PX2, .int .i64 PY2] 28)
  generalize ((((w.alloc (.cells #[.int .i64 Wn, .int .i64 Hn, .int .i64 F, .int .i64 L, .int .i64 X, .int .i64 Y] 23)).alloc (.cells #[.slice A1 n1 cap1] 26)).alloc (.cells #[.int .i64 N1, .int .i64 PX1, .int .i64 PY1] 28)).alloc (.cells #[.slice A2 n2 cap2] 26)).alloc (.cells #[.int .i64 N2, .int .i64 PX2, .int .i64 PY2] 28) = W0 at *
  go_wp2_with (fail)
  go_loopg [11, 12] Hn (fun g v i wr => ∃ q : Nat, g = Hn - q ∧ q ≤ Hn ∧ i = .int .i64 q ∧ (pairL Wn (q * Wn) g1 g2).any bothD = false ∧ v = .int .i64 (meetK (pairL Wn (q * Wn) g1 g2)) ∧ Blk wr w.heap.size 23 #[.int .i64 Wn, .int .i64 Hn, .int .i64 F, .int .i64 L, .int .i64 X, .int .i64 Y] ∧ Blk wr (w.heap.size + 1) 26 #[.slice A1 n1 cap1] ∧ Blk wr (w.heap.size + 1 + 1) 28 #[.int .i64 N1, .int .i64 PX1, .int .i64 PY1] ∧ Blk wr (w.heap.size + 1 + 1 + 1) 26 #[.slice A2 n2 cap2] ∧ Blk wr (w.heap.size + 1 + 1 + 1 + 1) 28 #[.int .i64 N2, .int .i64 PX2, .int .i64 PY2] ∧ Below w.heap.size w wr)
  case atStart => exact ⟨0, rfl, Nat.zero_le _, rfl, by simp [pairL], by simp [pairL, meetK], hS, hF, hP, hG, hQ, hB⟩
  case round =>
    clear hS hF hP hG hQ hB
    obtain ⟨q, hg, hq, rfl, hd, rfl, hS, hF, hP, hG, hQ, hB⟩ := hrel
    have HGH := Lib.hid hg; clear hg
    have HD := Lib.hid hd; clear hd
    have qhS := fun i => Blk.cell hS i
    by_cases hlt : q < Hn
    · have hlti : (q : Int) < Hn := by omega
      go_wp2_with (fail)
      clear qhS
      go_loopg [11, 13] Wn (fun g v i wr => ∃ k : Nat, g = Wn - k ∧ k ≤ Wn ∧ i = .int .i64 k ∧ (pairL Wn (q * Wn + k) g1 g2).any bothD = false ∧ v = .int .i64 (meetK (pairL Wn (q * Wn + k) g1 g2)) ∧ Blk wr w.heap.size 23 #[.int .i64 Wn, .int .i64 Hn, .int .i64 F, .int .i64 L, .int .i64 X, .int .i64 Y] ∧ Blk wr (w.heap.size + 1) 26 #[.slice A1 n1 cap1] ∧ Blk wr (w.heap.size + 1 + 1) 28 #[.int .i64 N1, .int .i64 PX1, .int .i64 PY1] ∧ Blk wr (w.heap.size + 1 + 1 + 1) 26 #[.slice A2 n2 cap2] ∧ Blk wr (w.heap.size + 1 + 1 + 1 + 1) 28 #[.int .i64 N2, .int .i64 PX2, .int .i64 PY2] ∧ Below w.heap.size w wr)
      case atStart => exact ⟨0, rfl, Nat.zero_le _, rfl, HD.out, rfl, hS, hF, hP, hG, hQ, hB⟩
      case round =>
        clear hS hF hP hG hQ hB HD
        obtain ⟨k, hg, hk, rfl, hd, rfl, hS, hF, hP, hG, hQ, hB⟩ := hrel
        have HG2 := Lib.hid hg; clear hg
        have qhS := fun i => Blk.cell hS i
        rename World => W0
        by_cases hlt2 : k < Wn
        · have hlt2i : (k : Int) < Wn := by omega
          have hs1 := pairL_step Wn g1 g2 bothD q k hlt2
          have hs2 := meetK_step Wn g1 g2 q k hlt2
          rw [hd] at hs1
          generalize meetK (pairL Wn (q * Wn + k) g1 g2) = acc at *
          have hfull : (pairL Wn (q * Wn + (k + 1)) g1 g2).any bothD = true → (pairL Wn (Wn * Hn) g1 g2).any bothD = true := fun h => pairL_full Wn g1 g2 _ _ bothD (by
            have h1 := Nat.mul_le_mul_right Wn (show q + 1 ≤ Hn by omega)
            rw [Nat.add_mul, Nat.one_mul, Nat.mul_comm Hn Wn] at h1; omega) h
          have ha := HT1.out k q; have hb := HT2.out k q
          have HK1 := fun p : Blw W0.heap.size W0 => HC1.out k q p.to (by omega) (by omega) (hB.trans (p.h.mono hB.size))
          have HK2 := fun p : Blw W0.heap.size W0 => HC2.out k q p.to (by omega) (by omega) (hB.trans (p.h.mono hB.size))
          generalize g1 k q = a at *
          generalize g2 k q = b at *
          have HHD := Lib.hid hd; have HS1 := Lib.hid hs1; have HS2 := Lib.hid hs2; have HFU := Lib.hid hfull; have HAT := Lib.hid ha; have HBT := Lib.hid hb
          clear hd hs1 hs2 hfull ha hb
          go_upto_region 8 with (fail)
          clear qhS
          have hbS := fun p i => blw_blk hS p i; have hbF := fun p i => blw_blk hF p i; have hbP := fun p i => blw_blk hP p i; have hbG := fun p i => blw_blk hG p i; have hbQ := fun p i => blw_blk hQ p i
          refine wp_region_blw (by kernel_rfl) (by kernel_rfl) ?_
          iterate 5 (go_big_quiet_step (fail))
          go_big_quiet_step ((go_at_call 104; exact Calls.blw_of _ (HK1 _)))
          iterate 5 (go_big_quiet_step (fail))
          go_big_quiet_step ((go_at_call 104; exact Calls.blw_of _ (HK2 _)))
          repeat (go_big_quiet_step (fail))
          refine wpQuiet_nil ?_
          rintro W3 ⟨⟨_, hb3⟩, rfl⟩
          clear hbS hbF hbP hbG hbQ HK1 HK2
          replace hS := hS.below hb3 hS.lt; replace hF := hF.below hb3 hF.lt; replace hP := hP.below hb3 hP.lt; replace hG := hG.below hb3 hG.lt; replace hQ := hQ.below hb3 hQ.lt
          replace hB := hB.trans (hb3.mono hB.size)
          clear hb3
          rcases HAT.out with rfl | rfl | rfl <;> rcases HBT.out with rfl | rfl | rfl
          all_goals
            go_wp2_with (fail)
            first
              | (go_ret
                 exact ⟨ret_int (by rw [HME.out, HFU.out (by rw [HS1.out]; rfl)]; rfl), hB⟩)
              | (go_roundg (Wn - (k + 1))
                 case measure => rw [HG2.out]; omega
                 case rel => exact ⟨k + 1, rfl, by omega, by go_num, by rw [HS1.out]; rfl, by rw [HS2.out]; rfl, hS, hF, hP, hG, hQ, hB⟩)
        · have hke : k = Wn := by omega
          subst hke
          have hge : ¬ (k : Int) < (k : Int) := by omega
          have HHD := Lib.hid hd; clear hd
          go_wp2_with (fail)
          go_roundg (Hn - (q + 1))
          case measure => rw [HGH.out]; omega
          case rel => exact ⟨q + 1, rfl, by omega, by go_num, by rw [Nat.add_mul, Nat.one_mul]; exact HHD.out, by rw [Nat.add_mul, Nat.one_mul], hS, hF, hP, hG, hQ, hB⟩
    · have hqe : q = Hn := by omega
      subst hqe
      have hge : ¬ (q : Int) < (q : Int) := by omega
      go_wp2_with (fail)
      go_ret
      exact ⟨ret_int (by rw [HME.out, Nat.mul_comm Wn q, HD.out]; rfl), hB⟩
end Go.Proofs.YtifddfchpknkbaaGreatDoor

namespace Go.Proofs.YtifddfchpknkbaaGreatDoor
open Go.RowKit

/-- A block of letters that may be written. -/
def Bt (w : World) (g : Nat) (l : List Int) : Prop := g < w.heap.size ∧ ∀ j (hj : j < l.length), w.cell? ⟨g, j, none⟩ = some (.int .u8 l[j]) ∧ w.frozen? ⟨g, j, none⟩ = false
theorem Bt.set_ {w : World} {g : Nat} {l : List Int} (h : Bt w g l) (k : Nat) (v : Int) : Bt (w.setCell ⟨g, k, none⟩ (.int .u8 v)) g (l.set k v) := by
  refine ⟨by simpa using h.1, fun j hj => ?_⟩
  rw [List.length_set] at hj
  obtain ⟨h1, h2⟩ := h.2 j hj
  refine ⟨?_, by rw [World.frozen?_setCell]; exact h2⟩
  rw [List.getElem_set]
  split
  · rename_i e; subst e; exact World.cell?_setCell_same _ _ _ h1
  · rename_i e; rw [World.cell?_setCell_other _ _ _ _ (fun h => e (by injection h))]; exact h1
theorem Bt.of_string (w : World) (s : ByteArray) (cap : Nat) (lo hi : Nat) (hlo : s.size ≤ lo) : Bt (w.alloc (.cells (bytesRow s cap) 5 (lo, hi))) w.heap.size (ltr s) := by
  refine ⟨by simp, fun j hj => ?_⟩
  have hj2 : j < s.data.size := by rw [ltr_len] at hj; exact hj
  refine ⟨?_, ?_⟩
  · rw [cell_of_row _ _ j (bytesRow s cap) 5 (lo, hi) (heap_alloc_new w _), bytesRow_at s cap j hj2, ltr_at s j hj2]
    rfl
  · rw [World.frozen?_alloc_mark, decide_eq_false (show ¬ lo ≤ j by have : j < s.size := hj2; omega)]; rfl
/-- The letters so far: the first k are those of both. -/
def jsf (s t : ByteArray) (k : Nat) : List Int := (List.zipWith upC (ltr s) (ltr t)).take k ++ (ltr s).drop k
theorem jsf_zero (s t : ByteArray) : jsf s t 0 = ltr s := by simp [jsf]
theorem zw_len (s t : ByteArray) (h : s.size ≤ t.size) : (List.zipWith upC (ltr s) (ltr t)).length = s.size := by rw [List.length_zipWith, ltr_len, ltr_len]; omega
theorem jsf_len (s t : ByteArray) (k : Nat) (h : s.size ≤ t.size) (hk : k ≤ s.size) : (jsf s t k).length = s.size := by unfold jsf; rw [List.length_append, List.length_take, List.length_drop, zw_len s t h, ltr_len]; omega
theorem jsf_all (s t : ByteArray) (h : s.size ≤ t.size) : jsf s t s.size = List.zipWith upC (ltr s) (ltr t) := by
  unfold jsf; rw [List.drop_of_length_le (by rw [ltr_len]; omega), List.append_nil, List.take_of_length_le (by rw [zw_len s t h]; omega)]
theorem jsf_at (s t : ByteArray) (k : Nat) (h : k < s.size) (h2 : s.size ≤ t.size) : ∃ hk : k < (jsf s t k).length, (jsf s t k)[k] = (s[k].toNat : Int) := by
  refine ⟨by rw [jsf_len s t k h2 (by omega)]; exact h, ?_⟩
  have hlen : ((List.zipWith upC (ltr s) (ltr t)).take k).length = k := by rw [List.length_take, zw_len s t h2]; omega
  unfold jsf
  rw [List.getElem_append_right (by omega), List.getElem_drop, ← ltr_at s k h]
  congr 1; omega
theorem jsf_succ (s t : ByteArray) (k : Nat) (h : k < s.size) (h2 : s.size ≤ t.size) : jsf s t (k + 1) = (jsf s t k).set k (upC (s[k].toNat : Int) ((t[k]'(by omega)).toNat : Int)) := by
  refine List.ext_getElem? fun j => ?_
  have hz := zw_len s t h2
  have ek : (List.zipWith upC (ltr s) (ltr t))[k]? = some (upC (s[k].toNat : Int) ((t[k]'(by omega)).toNat : Int)) := by
    rw [List.getElem?_zipWith, List.getElem?_eq_getElem (by rw [ltr_len]; exact h), List.getElem?_eq_getElem (by rw [ltr_len]; omega), ltr_at s k h, ltr_at t k (by omega)]
  have hl := jsf_len s t k h2 (by omega)
  rw [List.getElem?_set]
  by_cases hj : k = j
  · subst hj
    rw [if_pos rfl, if_pos (by omega)]
    unfold jsf
    rw [List.getElem?_append_left (by rw [List.length_take]; omega), List.getElem?_take, if_pos (by omega), ek]
  · rw [if_neg hj]
    unfold jsf
    by_cases hlt : j < k
    · rw [List.getElem?_append_left (by rw [List.length_take]; omega), List.getElem?_append_left (by rw [List.length_take]; omega), List.getElem?_take, List.getElem?_take, if_pos (by omega), if_pos hlt]
    · rw [List.getElem?_append_right (by rw [List.length_take]; omega), List.getElem?_append_right (by rw [List.length_take]; omega), List.length_take, List.length_take, List.getElem?_drop, List.getElem?_drop]
      congr 1; omega

set_option maxRecDepth 100000 in
set_option maxHeartbeats 3200000 in
theorem join_any (s t : ByteArray) (w : World) (hs : s.size ≤ 100000) (hst : s.size ≤ t.size) :
    Calls Tryz.prog 108 #[.string s, .string t] w fun e w' => e = .returned (.string (joinS s t)) ∧ Below w.heap.size w w' := by
  have hcv := run_bytes_of_string (P := Tryz.prog) w 9 89 5 s Tryz.underlying9 Tryz.underlying89 Tryz.underlying5
  obtain ⟨cap, hcap⟩ : ∃ cap, cap = grownCap w s.size 0 5 := ⟨_, rfl⟩
  rw [← hcap] at hcv
  obtain ⟨m, hm⟩ : ∃ m, m = (bytesRow s cap).size := ⟨_, rfl⟩
  have hsm : s.size ≤ m := by rw [hm]; unfold bytesRow; rw [Array.size_append, Array.size_map]; exact Nat.le_add_right _ _
  rw [← hm] at hcv
  have hbt := Bt.of_string w s cap m (m + 1) hsm
  have hB : Below w.heap.size w (w.alloc (.cells (bytesRow s cap) 5 (m, m + 1))) := (Below.refl _ w).alloc (Nat.le_refl _) _
  obtain ⟨o, ho⟩ : ∃ o, o = Obj.cells (bytesRow s cap) 5 (m, m + 1) := ⟨_, rfl⟩
  rw [← ho] at hcv hbt hB
  clear ho hm hsm hcap
  go_enter Tryz.func108, Tryz.ntmps108
  go_upto_region 2 with (fail)
  replace hbt : Bt (w.alloc o).drew w.heap.size (ltr s) := hbt
  replace hB : Below w.heap.size w (w.alloc o).drew := hB.drew
  clear hcv
  generalize (w.alloc o).drew = W0 at *
  go_wp2_with (fail)
  go_loopg [11] s.size (fun g i wr => ∃ k : Nat, g = s.size - k ∧ k ≤ s.size ∧ i = .int .i64 k ∧ Bt wr w.heap.size (jsf s t k) ∧ Below w.heap.size w wr)
  case atStart => exact ⟨0, rfl, Nat.zero_le _, rfl, by rw [jsf_zero]; exact hbt, hB⟩
  case round =>
    clear hbt hB
    obtain ⟨k, hg, hk, rfl, hbt, hB⟩ := hrel
    have HG := Lib.hid hg; clear hg
    by_cases hlt : k < s.size
    · have hlt2 : k < t.size := by omega
      have hlti : (k : Int) < s.size := by omega
      obtain ⟨hz, hze⟩ := jsf_at s t k hlt hst
      obtain ⟨hc, hfz⟩ := hbt.2 k hz
      rw [hze] at hc
      have hsu := jsf_succ s t k hlt hst
      obtain ⟨b, hb⟩ : ∃ b, b = t[k].toNat := ⟨_, rfl⟩
      obtain ⟨a, ha⟩ : ∃ a, a = s[k].toNat := ⟨_, rfl⟩
      rw [← ha] at hc hsu hze
      rw [← hb] at hsu
      have hset := hbt.set_ k (b : Int)
      have hltb := hbt.1
      generalize hgb : t[k].toNat = b' at *
      subst hb
      have HSU := Lib.hid hsu; have HSET := Lib.hid hset; have HBT := Lib.hid hbt; have HZE := Lib.hid hze
      clear hsu hset hbt hze ha
      have hnoset : upC (a : Int) b = a → jsf s t (k + 1) = jsf s t k := fun h => by
        rw [HSU.out, h, ← HZE.out]; exact List.set_getElem_self _
      have HNO := Lib.hid hnoset; clear hnoset
      by_cases h35 : (b : Int) = 35
      · have hup : upC (a : Int) b = b := by unfold upC; rw [if_pos (.inl h35)]
        have HUP := Lib.hid hup; clear hup
        have e1 : ((b : Int) == 35) = true := by simpa using h35
        clear h35
        go_wp2_with (fail)
        go_roundg (s.size - (k + 1))
        case measure => rw [HG.out]; omega
        case rel => exact ⟨k + 1, rfl, by omega, by go_num, by rw [HSU.out, HUP.out]; exact HSET.out, hB.setCell (p := ⟨w.heap.size, k, none⟩) (Nat.le_refl _) _⟩
      by_cases h43 : (b : Int) = 43
      · by_cases h46 : (a : Int) = 46
        · have hup : upC (a : Int) b = b := by unfold upC; rw [if_pos (.inr ⟨h43, h46⟩)]
          have HUP := Lib.hid hup; clear hup
          have e1 : ((b : Int) == 35) = false := by simpa using h35
          have e2 : ((b : Int) == 43) = true := by simpa using h43
          have e3 : ((a : Int) == 46) = true := by simpa using h46
          clear h35 h43 h46
          go_wp2_with (fail)
          go_roundg (s.size - (k + 1))
          case measure => rw [HG.out]; omega
          case rel => exact ⟨k + 1, rfl, by omega, by go_num, by rw [HSU.out, HUP.out]; exact HSET.out, hB.setCell (p := ⟨w.heap.size, k, none⟩) (Nat.le_refl _) _⟩
        · have hup : upC (a : Int) b = a := by unfold upC; rw [if_neg (by omega)]
          have HUP := Lib.hid (HNO.out hup); clear hup
          have e1 : ((b : Int) == 35) = false := by simpa using h35
          have e2 : ((b : Int) == 43) = true := by simpa using h43
          have e3 : ((a : Int) == 46) = false := by simpa using h46
          clear h35 h43 h46
          go_wp2_with (fail)
          go_roundg (s.size - (k + 1))
          case measure => rw [HG.out]; omega
          case rel => exact ⟨k + 1, rfl, by omega, by go_num, by rw [HUP.out]; exact HBT.out, hB⟩
      · have hup : upC (a : Int) b = a := by unfold upC; rw [if_neg (by omega)]
        have HUP := Lib.hid (HNO.out hup); clear hup
        have e1 : ((b : Int) == 35) = false := by simpa using h35
        have e2 : ((b : Int) == 43) = false := by simpa using h43
        clear h35 h43
        go_wp2_with (fail)
        go_roundg (s.size - (k + 1))
        case measure => rw [HG.out]; omega
        case rel => exact ⟨k + 1, rfl, by omega, by go_num, by rw [HUP.out]; exact HBT.out, hB⟩
    · have hke : k = s.size := by omega
      subst hke
      have hjl := jsf_len s t s.size hst (Nat.le_refl _)
      have hcc := run_convert_bytes_arg (P := Tryz.prog) wr 89 5 Tryz.underlying89 Tryz.underlying5 w.heap.size 0 s.size cap (jsf s t s.size) hjl (fun i hi => by
        rw [Nat.zero_add, (hbt.2 i (by omega)).1]
        simp [List.getD_eq_getElem?_getD, hjl, hi]) 9 Tryz.underlying9
      have hge : ¬ (s.size : Int) < (s.size : Int) := by omega
      have HJA := Lib.hid (jsf_all s t hst)
      clear hjl
      go_wp2_with (fail)
      go_ret
      exact ⟨by rw [HJA.out]; rfl, hB⟩
end Go.Proofs.YtifddfchpknkbaaGreatDoor

namespace Go.Proofs.YtifddfchpknkbaaGreatDoor
open Go.RowKit

def zok (F : Int) (z : Fig × Pl) : Bool := figB z.1.rows && placeB F z.2.n z.2.x z.2.y
def joinedB (W H F L X Y : Int) (fs : List Fig) (ps : List Pl) : Bool := stageB W H F L X Y && (decide (fs.length ≤ 6) && (decide (ps.length = fs.length) && (fs.zip ps).all (zok F)))
def joinedE (W H F L X Y : Int) (fs : List Fig) (ps : List Pl) : Int := if joinedB W H F L X Y fs ps then 0 else 2
def joinedL (W H F L X Y : Int) (fs : List Fig) (ps : List Pl) : List ByteArray := if joinedB W H F L X Y fs ps then rowsOf (jS W.toNat H.toNat F L X Y (fs.zip ps)) W.toNat H.toNat else []
theorem zip_get {fs : List Fig} {ps : List Pl} {k : Nat} (h1 : k < fs.length) (h2 : k < ps.length) : ∃ h : k < (fs.zip ps).length, (fs.zip ps)[k] = (fs[k], ps[k]) := ⟨by rw [List.length_zip]; omega, by rw [List.getElem_zip]⟩
theorem viewB_of {W H F L X Y N PX PY : Int} {rows : List ByteArray} (h1 : stageB W H F L X Y = true) (h2 : figB rows = true) (h3 : placeB F N PX PY = true) : viewB W H F L X Y N PX PY rows = true := by rw [viewB, h1, h2, h3]; rfl

set_option maxRecDepth 100000 in
set_option maxHeartbeats 6400000 in
theorem Joined_bad (W H F L X Y : Int) (A : Option Addr) (n cap : Nat) (fs : List Fig) (PA : Option Addr) (pn pcap : Nat) (ps : List Pl) (w : World) (hlen : fs.length = n) (hpl : ps.length = pn)
    (hbad : stageB W H F L X Y = false ∨ 6 < n ∨ pn ≠ n) :
    Calls Tryz.prog 40 #[.agg #[.int .i64 W, .int .i64 H, .int .i64 F, .int .i64 L, .int .i64 X, .int .i64 Y], .slice A n cap, .slice PA pn pcap] w fun e w' => ∃ v, e = .returned (.tuple #[v, .int .i64 (joinedE W H F L X Y fs ps)]) ∧ IsL w' v ((joinedL W H F L X Y fs ps).map Value.string) ∧ Below w.heap.size w w' := by
  have hj : joinedB W H F L X Y fs ps = false := by
    unfold joinedB
    rcases hbad with h | h | h
    · rw [h]; rfl
    · rw [decide_eq_false (show ¬ fs.length ≤ 6 by omega)]; simp
    · rw [decide_eq_false (show ¬ ps.length = fs.length by omega)]; simp
  have he : joinedE W H F L X Y fs ps = 2 := by rw [joinedE, hj]; rfl
  have hl : joinedL W H F L X Y fs ps = [] := by rw [joinedL, hj]; rfl
  rw [he, hl]
  clear hj he hl hlen hpl
  have hB0 : Below w.heap.size w (w.alloc (.cells #[.int .i64 W, .int .i64 H, .int .i64 F, .int .i64 L, .int .i64 X, .int .i64 Y] 23)) := (Below.refl _ w).alloc (Nat.le_refl _) _
  cases hst : stageB W H F L X Y
  · clear hbad
    go_enter Tryz.func40, Tryz.ntmps40
    go_wp2_with (first | (go_at_call 97; refine (goodStage_any W H F L X Y _).mono ?_; rintro e w1 ⟨rfl, hb⟩; rw [hst]; replace hB0 := hB0.trans (hb.mono hB0.size); clear hb))
    go_ret2
    exact ⟨_, rfl, IsL.nil _, hB0⟩
  · by_cases h6 : (6 : Int) < n
    · clear hbad
      go_enter Tryz.func40, Tryz.ntmps40
      go_wp2_with (first | (go_at_call 97; refine (goodStage_any W H F L X Y _).mono ?_; rintro e w1 ⟨rfl, hb⟩; rw [hst]; replace hB0 := hB0.trans (hb.mono hB0.size); clear hb))
      go_ret2
      exact ⟨_, rfl, IsL.nil _, hB0⟩
    · have hne : ((pn : Int) != n) = true := by
        rcases hbad with h | h | h
        · rw [hst] at h; cases h
        · omega
        · simp; omega
      clear hbad
      go_enter Tryz.func40, Tryz.ntmps40
      go_wp2_with (first | (go_at_call 97; refine (goodStage_any W H F L X Y _).mono ?_; rintro e w1 ⟨rfl, hb⟩; rw [hst]; replace hB0 := hB0.trans (hb.mono hB0.size); clear hb))
      go_ret2
      exact ⟨_, rfl, IsL.nil _, hB0⟩

set_option maxRecDepth 100000 in
set_option maxHeartbeats 12800000 in
theorem Joined_good (Wn Hn : Nat) (F L X Y : Int) (A : Option Addr) (n cap : Nat) (fs : List Fig) (PA : Option Addr) (pcap : Nat) (ps : List Pl) (w : World) (hcap : n ≤ cap) (hcm : cap ≤ maxLen) (hf : ∀ f ∈ fs, f.ok w w.heap.size) (hr : Rd w w.heap.size 1 A n (fs.map Fig.val)) (hpr : Rd w w.heap.size 3 PA n (ps.flatMap plC))
    (hst : stageB Wn Hn F L X Y = true) (h6 : n ≤ 6) :
    Calls Tryz.prog 40 #[.agg #[.int .i64 Wn, .int .i64 Hn, .int .i64 F, .int .i64 L, .int .i64 X, .int .i64 Y], .slice A n cap, .slice PA n pcap] w fun e w' => ∃ v, e = .returned (.tuple #[v, .int .i64 (joinedE Wn Hn F L X Y fs ps)]) ∧ IsL w' v ((joinedL Wn Hn F L X Y fs ps).map Value.string) ∧ Below w.heap.size w w' := by
  have hlen := hr.len
  have hpl := hpr.lenc (by decide) plC_len
  have ⟨⟨a1, a2⟩, ⟨a3, a4⟩, ⟨a5, a6⟩, ⟨a7, a8⟩, ⟨a9, a10⟩, a11, a12⟩ := stageB_nums hst
  have hj : joinedB Wn Hn F L X Y fs ps = (fs.zip ps).all (zok F) := by
    unfold joinedB
    rw [hst, decide_eq_true (show fs.length ≤ 6 by omega), decide_eq_true (show ps.length = fs.length by omega)]; rfl
  have HJ := Lib.hid hj; clear hj
  have HLEN := Lib.hid hlen; have HPL := Lib.hid hpl; clear hlen hpl
  have hne : ((n : Int) != n) = false := by simp
  have h6i : ¬ (6 : Int) < n := by omega
  have hstE : ∀ z : Fig × Pl, zok F z = true → viewB Wn Hn F L X Y z.2.n z.2.x z.2.y z.1.rows = true := fun z hz => by
    simp only [zok, Bool.and_eq_true] at hz
    exact viewB_of hst hz.1 hz.2
  have HVW := Lib.hid hstE; clear hstE
  go_enter Tryz.func40, Tryz.ntmps40
  go_upto_region 1 with (fail)
  have hS := Blk.new w 23 #[.int .i64 Wn, .int .i64 Hn, .int .i64 F, .int .i64 L, .int .i64 X, .int .i64 Y]
  have hB : Below w.heap.size w (w.alloc (.cells #[.int .i64 Wn, .int .i64 Hn, .int .i64 F, .int .i64 L, .int .i64 X, .int .i64 Y] 23)) := (Below.refl _ w).alloc (Nat.le_refl _) _
  generalize w.alloc (.cells #[.int .i64 Wn, .int .i64 Hn, .int .i64 F, .int .i64 L, .int .i64 X, .int .i64 Y] 23) = W0 at *
  have qhS := fun i => Blk.cell hS i
  go_wp2_with (first | (go_at_call 97; refine (goodStage_any Wn Hn F L X Y _).mono ?_; rintro e w1 ⟨rfl, hb⟩; rw [hst]; replace hS := hS.below hb hS.lt; replace hB := hB.trans (hb.mono hB.size); clear hb qhS))
  go_loopg [30] n (fun g i wr => ∃ k : Nat, g = n - k ∧ k ≤ n ∧ i = .int .i64 k ∧ ((fs.zip ps).take k).all (zok F) = true ∧ Blk wr w.heap.size 23 #[.int .i64 Wn, .int .i64 Hn, .int .i64 F, .int .i64 L, .int .i64 X, .int .i64 Y] ∧ Below w.heap.size w wr)
  case atStart => exact ⟨0, rfl, Nat.zero_le _, rfl, rfl, hS, hB⟩
  case round =>
    clear hS hB
    obtain ⟨k, hg, hk, rfl, hall, hS, hB⟩ := hrel
    have HG := Lib.hid hg; clear hg
    have HALL := Lib.hid hall; clear hall
    by_cases hlt : k < n
    · have hlti : (k : Int) < n := by omega
      obtain ⟨b, off, hzk, rfl, hb, hc⟩ := (hr.below hB).atm hlt
      obtain ⟨b2, off2, hzk2, rfl, hb2, hc0, hc1, hc2⟩ := (hpr.below hB).at3 hlt
      obtain ⟨hz, hze⟩ := zip_get hzk hzk2
      have ha := all_take (zok F) (fs.zip ps) k hz
      have hstop := all_stop (zok F) (fs.zip ps) k hz
      have hok := (hf _ (List.getElem_mem hzk)).below hB
      rw [hze] at ha hstop
      clear hze hz
      generalize fs[k] = f at *
      generalize ps[k] = p at *
      obtain ⟨fA, fn, fcap, frows⟩ := f
      obtain ⟨pn, px, py⟩ := p
      simp only [Fig.val] at hc
      dsimp only at hc0 hc1 hc2
      obtain ⟨hf1, hf2, hf3, hfr⟩ := hok
      have hfn : fn ≤ maxLen := Nat.le_trans hf1 hf2
      have hzd : zok F (⟨fA, fn, fcap, frows⟩, ⟨pn, px, py⟩) = (figB frows && placeB F pn px py) := rfl
      have HA := Lib.hid ha; have HST := Lib.hid hstop; have HZD := Lib.hid hzd; clear ha hstop hzd
      go_upto_region 6 with (fail)
      have hN := Blk.new wr 26 #[.slice fA fn fcap]
      replace hS := hS.alloc (.cells #[.slice fA fn fcap] 26)
      have hBa := hB.alloc hB.size (.cells #[.slice fA fn fcap] 26)
      have hfa := (hfr.more hB.size).alloc (Nat.le_refl _) (.cells #[.slice fA fn fcap] 26)
      replace hfa := hfa.more (show wr.heap.size ≤ (wr.alloc (.cells #[.slice fA fn fcap] 26)).heap.size by simp)
      have hbw : b < wr.heap.size := Nat.lt_of_lt_of_le hb hB.size
      have hbw2 : b2 < wr.heap.size := Nat.lt_of_lt_of_le hb2 hB.size
      replace hc0 := (World.cell?_alloc_lt wr (.cells #[.slice fA fn fcap] 26) ⟨b2, off2 + k * 3, none⟩ hbw2).trans hc0
      replace hc1 := (World.cell?_alloc_lt wr (.cells #[.slice fA fn fcap] 26) ⟨b2, off2 + k * 3 + 1, none⟩ hbw2).trans hc1
      replace hc2 := (World.cell?_alloc_lt wr (.cells #[.slice fA fn fcap] 26) ⟨b2, off2 + k * 3 + 2, none⟩ hbw2).trans hc2
      have hlt2 : b2 < (wr.alloc (.cells #[.slice fA fn fcap] 26)).heap.size := by simp; omega
      have hzw := hB.size
      clear hc hfr hB
      generalize wr.alloc (.cells #[.slice fA fn fcap] 26) = W1 at *
      cases hh : figB frows
      · have hk98 : ∀ p : Blw W1.heap.size W1, Calls Tryz.prog 98 #[.agg #[.slice fA fn fcap]] p.to fun e w' => e = .returned (.bool (figB frows)) ∧ Below p.to.heap.size p.to w' := fun p => goodFigure_any fA fn fcap frows _ hfn hf3 (rd_blw hfa p)
        rw [hh] at hk98
        have hk106 : ∀ p : Blw W1.heap.size W1, Calls Tryz.prog 106 #[.agg #[.int .i64 Wn, .int .i64 Hn, .int .i64 F, .int .i64 L, .int .i64 X, .int .i64 Y], .agg #[.int .i64 pn, .int .i64 px, .int .i64 py]] p.to fun e w' => e = .returned (.bool (placeB F pn px py)) ∧ Below p.to.heap.size p.to w' := fun p => goodPlace_any Wn Hn F L X Y pn px py _ a5 a6
        have hbs := fun p i => blw_blk hS p i
        have hbn := fun p i => blw_blk hN p i
        have hp0 : ∀ p : Blw W1.heap.size W1, p.to.cell? ⟨b2, off2 + k * 3, none⟩ = _ := fun p => blw_cell (a := ⟨b2, off2 + k * 3, none⟩) hlt2 hc0 p
        have hp1 : ∀ p : Blw W1.heap.size W1, p.to.cell? ⟨b2, off2 + k * 3 + 1, none⟩ = _ := fun p => blw_cell (a := ⟨b2, off2 + k * 3 + 1, none⟩) hlt2 hc1 p
        have hp2 : ∀ p : Blw W1.heap.size W1, p.to.cell? ⟨b2, off2 + k * 3 + 2, none⟩ = _ := fun p => blw_cell (a := ⟨b2, off2 + k * 3 + 2, none⟩) hlt2 hc2 p
        have HHH := Lib.hid hh; clear hh
        refine wp_region_blw (by kernel_rfl) (by kernel_rfl) ?_
        repeat (go_big_quiet_step (first | (go_at_call 98; exact Calls.blw_of _ (hk98 _)) | (go_at_call 106; exact Calls.blw_of _ (hk106 _))))
        refine wpQuiet_nil ?_
        rintro W3 ⟨⟨_, hb3⟩, rfl⟩
        clear hbs hbn hp0 hp1 hp2 hk98 hk106
        replace hS := hS.below hb3 hS.lt
        replace hBa := hBa.trans (hb3.mono hBa.size)
        go_wp2_with (fail)
        go_ret2
        exact ⟨_, by rw [joinedE, HJ.out, HST.out (by rw [HZD.out, HHH.out]; rfl)]; rfl, by rw [joinedL, HJ.out, HST.out (by rw [HZD.out, HHH.out]; rfl)]; exact IsL.nil _, hBa⟩
      cases hh2 : placeB F pn px py
      · have hk98 : ∀ p : Blw W1.heap.size W1, Calls Tryz.prog 98 #[.agg #[.slice fA fn fcap]] p.to fun e w' => e = .returned (.bool (figB frows)) ∧ Below p.to.heap.size p.to w' := fun p => goodFigure_any fA fn fcap frows _ hfn hf3 (rd_blw hfa p)
        rw [hh] at hk98
        have hk106 : ∀ p : Blw W1.heap.size W1, Calls Tryz.prog 106 #[.agg #[.int .i64 Wn, .int .i64 Hn, .int .i64 F, .int .i64 L, .int .i64 X, .int .i64 Y], .agg #[.int .i64 pn, .int .i64 px, .int .i64 py]] p.to fun e w' => e = .returned (.bool (placeB F pn px py)) ∧ Below p.to.heap.size p.to w' := fun p => goodPlace_any Wn Hn F L X Y pn px py _ a5 a6
        rw [hh2] at hk106
        have hbs := fun p i => blw_blk hS p i
        have hbn := fun p i => blw_blk hN p i
        have hp0 : ∀ p : Blw W1.heap.size W1, p.to.cell? ⟨b2, off2 + k * 3, none⟩ = _ := fun p => blw_cell (a := ⟨b2, off2 + k * 3, none⟩) hlt2 hc0 p
        have hp1 : ∀ p : Blw W1.heap.size W1, p.to.cell? ⟨b2, off2 + k * 3 + 1, none⟩ = _ := fun p => blw_cell (a := ⟨b2, off2 + k * 3 + 1, none⟩) hlt2 hc1 p
        have hp2 : ∀ p : Blw W1.heap.size W1, p.to.cell? ⟨b2, off2 + k * 3 + 2, none⟩ = _ := fun p => blw_cell (a := ⟨b2, off2 + k * 3 + 2, none⟩) hlt2 hc2 p
        have HHH := Lib.hid hh; clear hh
        have HHG := Lib.hid hh2; clear hh2
        refine wp_region_blw (by kernel_rfl) (by kernel_rfl) ?_
        repeat (go_big_quiet_step (first | (go_at_call 98; exact Calls.blw_of _ (hk98 _)) | (go_at_call 106; exact Calls.blw_of _ (hk106 _))))
        refine wpQuiet_nil ?_
        rintro W3 ⟨⟨_, hb3⟩, rfl⟩
        clear hbs hbn hp0 hp1 hp2 hk98 hk106
        replace hS := hS.below hb3 hS.lt
        replace hBa := hBa.trans (hb3.mono hBa.size)
        go_wp2_with (fail)
        go_ret2
        exact ⟨_, by rw [joinedE, HJ.out, HST.out (by rw [HZD.out, HHH.out, HHG.out]; rfl)]; rfl, by rw [joinedL, HJ.out, HST.out (by rw [HZD.out, HHH.out, HHG.out]; rfl)]; exact IsL.nil _, hBa⟩
      · have hk98 : ∀ p : Blw W1.heap.size W1, Calls Tryz.prog 98 #[.agg #[.slice fA fn fcap]] p.to fun e w' => e = .returned (.bool (figB frows)) ∧ Below p.to.heap.size p.to w' := fun p => goodFigure_any fA fn fcap frows _ hfn hf3 (rd_blw hfa p)
        rw [hh] at hk98
        have hk106 : ∀ p : Blw W1.heap.size W1, Calls Tryz.prog 106 #[.agg #[.int .i64 Wn, .int .i64 Hn, .int .i64 F, .int .i64 L, .int .i64 X, .int .i64 Y], .agg #[.int .i64 pn, .int .i64 px, .int .i64 py]] p.to fun e w' => e = .returned (.bool (placeB F pn px py)) ∧ Below p.to.heap.size p.to w' := fun p => goodPlace_any Wn Hn F L X Y pn px py _ a5 a6
        rw [hh2] at hk106
        have hbs := fun p i => blw_blk hS p i
        have hbn := fun p i => blw_blk hN p i
        have hp0 : ∀ p : Blw W1.heap.size W1, p.to.cell? ⟨b2, off2 + k * 3, none⟩ = _ := fun p => blw_cell (a := ⟨b2, off2 + k * 3, none⟩) hlt2 hc0 p
        have hp1 : ∀ p : Blw W1.heap.size W1, p.to.cell? ⟨b2, off2 + k * 3 + 1, none⟩ = _ := fun p => blw_cell (a := ⟨b2, off2 + k * 3 + 1, none⟩) hlt2 hc1 p
        have hp2 : ∀ p : Blw W1.heap.size W1, p.to.cell? ⟨b2, off2 + k * 3 + 2, none⟩ = _ := fun p => blw_cell (a := ⟨b2, off2 + k * 3 + 2, none⟩) hlt2 hc2 p
        have HHH := Lib.hid hh; clear hh
        have HHG := Lib.hid hh2; clear hh2
        refine wp_region_blw (by kernel_rfl) (by kernel_rfl) ?_
        repeat (go_big_quiet_step (first | (go_at_call 98; exact Calls.blw_of _ (hk98 _)) | (go_at_call 106; exact Calls.blw_of _ (hk106 _))))
        refine wpQuiet_nil ?_
        rintro W3 ⟨⟨_, hb3⟩, rfl⟩
        clear hbs hbn hp0 hp1 hp2 hk98 hk106
        replace hS := hS.below hb3 hS.lt
        replace hBa := hBa.trans (hb3.mono hBa.size)
        go_wp2_with (fail)
        go_roundg (n - (k + 1))
        case measure => rw [HG.out]; omega
        case rel => exact ⟨k + 1, rfl, by omega, by go_num, by rw [HA.out, HALL.out, HZD.out, HHH.out, HHG.out]; rfl, hS, hBa⟩
    · have hke : k = n := by omega
      subst hke
      have hta : (fs.zip ps).take k = fs.zip ps := List.take_of_length_le (by rw [List.length_zip]; have := HLEN.out; omega)
      rw [hta] at HALL
      have hjt : joinedB Wn Hn F L X Y fs ps = true := by rw [HJ.out]; exact HALL.out
      have hje : joinedE Wn Hn F L X Y fs ps = 0 := by rw [joinedE, hjt]; rfl
      have hjl : joinedL Wn Hn F L X Y fs ps = rowsOf (jS Wn Hn F L X Y (fs.zip ps)) Wn Hn := by rw [joinedL, hjt, if_pos rfl, Int.toNat_natCast, Int.toNat_natCast]
      have HJE := Lib.hid hje; have HJL := Lib.hid hjl; clear hta hjt hje hjl
      have hge : ¬ (k : Int) < (k : Int) := by omega
      have qhS := fun i => Blk.cell hS i
      have hemp : ∀ W1 : World, Calls Tryz.prog 107 #[.agg #[.int .i64 Wn, .int .i64 Hn, .int .i64 F, .int .i64 L, .int .i64 X, .int .i64 Y]] W1 fun e w' => e = .returned (.string (jS Wn Hn F L X Y [])) ∧ Below W1.heap.size W1 w' := fun W1 => by
        have h := emptyCloth_any Wn Hn F L X Y W1 (by omega) (by omega) (by omega) (by omega)
        rw [Int.toNat_natCast, Int.toNat_natCast, jS_nil Wn Hn F L X Y] at h; exact h
      go_wp2_with (first | (go_at_call 107; refine (hemp _).mono ?_; rintro e w1 ⟨rfl, hb⟩; replace hS := hS.below hb hS.lt; replace hB := hB.trans (hb.mono hB.size); clear hb qhS))
      clear hemp
      rename World => W0
      go_loopg [10, 52] k (fun g v i wr => ∃ (q : Nat) (s : ByteArray), g = k - q ∧ q ≤ k ∧ i = .int .i64 q ∧ v = .string s ∧ s = jS Wn Hn F L X Y ((fs.zip ps).take q) ∧ Blk wr w.heap.size 23 #[.int .i64 Wn, .int .i64 Hn, .int .i64 F, .int .i64 L, .int .i64 X, .int .i64 Y] ∧ Below w.heap.size w wr)
      case atStart => exact ⟨0, _, rfl, Nat.zero_le _, rfl, rfl, rfl, hS, hB⟩
      case round =>
        clear hS hB
        obtain ⟨q, s, hg, hq, rfl, rfl, hsj, hS, hB⟩ := hrel
        have HG2 := Lib.hid hg; clear hg
        by_cases hlt2 : q < k
        · have hlti : (q : Int) < k := by omega
          obtain ⟨b, off, hzk, rfl, hb, hc⟩ := (hr.below hB).atm hlt2
          obtain ⟨b2, off2, hzk2, rfl, hb2, hc0, hc1, hc2⟩ := (hpr.below hB).at3 hlt2
          obtain ⟨hz, hze⟩ := zip_get hzk hzk2
          have hok := (hf _ (List.getElem_mem hzk)).below hB
          have htk : (fs.zip ps).take (q + 1) = (fs.zip ps).take q ++ [(fs.zip ps)[q]] := List.take_succ_eq_append_getElem hz
          have hvw := HVW.out (fs.zip ps)[q] (List.all_eq_true.1 HALL.out _ (List.getElem_mem hz))
          rw [hze] at htk hvw
          clear hze hz
          generalize fs[q] = f at *
          generalize ps[q] = p at *
          obtain ⟨fA, fn, fcap, frows⟩ := f
          obtain ⟨pn, px, py⟩ := p
          simp only [Fig.val] at hc
          dsimp only at hc0 hc1 hc2 hvw
          obtain ⟨hf1, hf2, hf3, hfr⟩ := hok
          have hsz : s.size = Wn * Hn := by rw [hsj, jS_size]
          obtain ⟨s2, hs2⟩ : ∃ s2, s2 = shS Wn Hn F L X Y pn px py frows := ⟨_, rfl⟩
          have hsz2 : s2.size = Wn * Hn := by rw [hs2, shS_size, Int.toNat_natCast, Int.toNat_natCast]
          have hjn : joinS s s2 = jS Wn Hn F L X Y ((fs.zip ps).take (q + 1)) := by
            rw [htk, hsj, hs2]; exact jS_snoc Wn Hn F L X Y _ (⟨fA, fn, fcap, frows⟩, ⟨pn, px, py⟩)
          have hle : Wn * Hn ≤ 256 := Nat.mul_le_mul (show Wn ≤ 16 by omega) (show Hn ≤ 16 by omega)
          have HJN := Lib.hid hjn; have HVV := Lib.hid hvw; have HS2 := Lib.hid hs2
          clear hjn htk hsj hvw hs2
          go_upto_region 13 with (fail)
          have hN := Blk.new wr 26 #[.slice fA fn fcap]
          replace hS := hS.alloc (.cells #[.slice fA fn fcap] 26)
          have hBa := hB.alloc hB.size (.cells #[.slice fA fn fcap] 26)
          have hfa := (hfr.more hB.size).alloc (Nat.le_refl _) (.cells #[.slice fA fn fcap] 26)
          replace hfa := hfa.more (show wr.heap.size ≤ (wr.alloc (.cells #[.slice fA fn fcap] 26)).heap.size by simp)
          have hbw2 : b2 < wr.heap.size := Nat.lt_of_lt_of_le hb2 hB.size
          replace hc0 := (World.cell?_alloc_lt wr (.cells #[.slice fA fn fcap] 26) ⟨b2, off2 + q * 3, none⟩ hbw2).trans hc0
          replace hc1 := (World.cell?_alloc_lt wr (.cells #[.slice fA fn fcap] 26) ⟨b2, off2 + q * 3 + 1, none⟩ hbw2).trans hc1
          replace hc2 := (World.cell?_alloc_lt wr (.cells #[.slice fA fn fcap] 26) ⟨b2, off2 + q * 3 + 2, none⟩ hbw2).trans hc2
          have hlt3 : b2 < (wr.alloc (.cells #[.slice fA fn fcap] 26)).heap.size := by simp; omega
          clear hc hfr hB
          generalize wr.alloc (.cells #[.slice fA fn fcap] 26) = W1 at *
          have hk102 : ∀ p : Blw W1.heap.size W1, Calls Tryz.prog 102 #[.agg #[.int .i64 Wn, .int .i64 Hn, .int .i64 F, .int .i64 L, .int .i64 X, .int .i64 Y, .slice fA fn fcap, .int .i64 pn, .int .i64 px, .int .i64 py]] p.to fun e w' => e = .returned (.string s2) ∧ Below p.to.heap.size p.to w' := fun p => by rw [HS2.out]; exact shadow_int Wn Hn F L X Y pn px py fA fn fcap frows _ hf1 hf2 (rd_blw hfa p) HVV.out
          have hk108 : ∀ W2 : World, Calls Tryz.prog 108 #[.string s, .string s2] W2 fun e w' => e = .returned (.string (joinS s s2)) ∧ Below W2.heap.size W2 w' := fun W2 => join_any s s2 W2 (by omega) (by omega)
          obtain ⟨s3, hs3⟩ : ∃ s3, s3 = joinS s s2 := ⟨_, rfl⟩
          rw [← hs3] at hk108 HJN
          clear hs3 hsz hsz2
          have hbs := fun p i => blw_blk hS p i
          have hbn := fun p i => blw_blk hN p i
          have hp0 : ∀ p : Blw W1.heap.size W1, p.to.cell? ⟨b2, off2 + q * 3, none⟩ = _ := fun p => blw_cell (a := ⟨b2, off2 + q * 3, none⟩) hlt3 hc0 p
          have hp1 : ∀ p : Blw W1.heap.size W1, p.to.cell? ⟨b2, off2 + q * 3 + 1, none⟩ = _ := fun p => blw_cell (a := ⟨b2, off2 + q * 3 + 1, none⟩) hlt3 hc1 p
          have hp2 : ∀ p : Blw W1.heap.size W1, p.to.cell? ⟨b2, off2 + q * 3 + 2, none⟩ = _ := fun p => blw_cell (a := ⟨b2, off2 + q * 3 + 2, none⟩) hlt3 hc2 p
          refine wp_region_blw (by kernel_rfl) (by kernel_rfl) ?_
          repeat (go_big_quiet_step (first | (go_at_call 102; exact Calls.blw_of _ (hk102 _)) | (go_at_call 108; exact Calls.blw_of _ (hk108 _))))
          refine wpQuiet_nil ?_
          rintro W3 ⟨⟨_, hb3⟩, rfl⟩
          clear hbs hbn hp0 hp1 hp2 hk102 hk108
          replace hS := hS.below hb3 hS.lt
          replace hBa := hBa.trans (hb3.mono hBa.size)
          go_wp2_with (fail)
          go_roundg (k - (q + 1))
          case measure => rw [HG2.out]; omega
          case rel => exact ⟨q + 1, s3, rfl, by omega, by go_num, rfl, HJN.out, hS, hBa⟩
        · have hqe : q = k := by omega
          subst hqe
          have hge : ¬ (q : Int) < (q : Int) := by omega
          have hta : (fs.zip ps).take q = fs.zip ps := List.take_of_length_le (by rw [List.length_zip]; have := HLEN.out; omega)
          rw [hta] at hsj
          have hsz : s.size = Wn * Hn := by rw [hsj, jS_size]
          have hle : Wn * Hn ≤ 256 := Nat.mul_le_mul (show Wn ≤ 16 by omega) (show Hn ≤ 16 by omega)
          have HSJ := Lib.hid hsj; have HSZ := Lib.hid hsz; clear hsj hsz hta
          have qhS := fun i => Blk.cell hS i
          go_wp2_with (first | (go_at_call 101; refine (cut_any s Wn Hn _ HSZ.out (by omega) (by rw [HSZ.out]; omega)).mono ?_; rintro e w1 ⟨v1, rfl, own1, hb⟩; replace hB := hB.trans (hb.mono hB.size); clear hb))
          obtain ⟨A1, c1, rfl⟩ := own_slice own1
          have hr1 := Rd.of_own own1
          have hcp := own_cap own1
          have hle1 := own_le0 own1
          go_ret2
          exact ⟨_, by rw [HJE.out]; rfl, ⟨_, _, _, rfl, hle1, hcp, by rw [HJL.out, ← HSJ.out]; exact hr1⟩, hB⟩
end Go.Proofs.YtifddfchpknkbaaGreatDoor

namespace Go.Proofs.YtifddfchpknkbaaGreatDoor
open Go.RowKit

set_option maxRecDepth 100000 in
set_option maxHeartbeats 25600000 in
theorem refJoined_any (Wn Hn : Nat) (F L X Y : Int) (A : Option Addr) (n cap : Nat) (fs : List Fig) (PA : Option Addr) (pcap : Nat) (ps : List Pl) (w : World) (hf : ∀ f ∈ fs, f.ok w w.heap.size) (hr : Rd w w.heap.size 1 A n (fs.map Fig.val)) (hpr : Rd w w.heap.size 3 PA n (ps.flatMap plC))
    (hst : stageB Wn Hn F L X Y = true) (h6 : n ≤ 6) (hall : (fs.zip ps).all (zok F) = true) :
    Calls Tryz.prog 43 #[.agg #[.int .i64 Wn, .int .i64 Hn, .int .i64 F, .int .i64 L, .int .i64 X, .int .i64 Y], .slice A n cap, .slice PA n pcap] w fun e w' => ∃ v, e = .returned v ∧ w'.ownsRow w.heap.size 9 1 v Hn ((rowsOf (jS Wn Hn F L X Y (fs.zip ps)) Wn Hn).map Value.string) ∧ Below w.heap.size w w' := by
  obtain ⟨i5, hi5, hz5, hz51, hz52⟩ := info_parts info5
  obtain ⟨i9, hi9, hz9, hz91, hz92⟩ := info_parts info9
  have hlen := hr.len
  have hpl := hpr.lenc (by decide) plC_len
  have ⟨⟨w1, w2⟩, ⟨w3, w4⟩, ⟨a5, a6⟩, ⟨a7, a8⟩, ⟨a9, a10⟩, a11, a12⟩ := stageB_nums hst
  have hstE : ∀ z ∈ fs.zip ps, viewB Wn Hn F L X Y z.2.n z.2.x z.2.y z.1.rows = true := fun z hz => by
    have hz2 := List.all_eq_true.1 hall z hz
    simp only [zok, Bool.and_eq_true] at hz2
    exact viewB_of hst hz2.1 hz2.2
  have HVW := Lib.hid hstE; have HLEN := Lib.hid hlen; have HPL := Lib.hid hpl; clear hstE hall hlen hpl
  obtain ⟨zs, hzs⟩ : ∃ zs, zs = fs.zip ps := ⟨_, rfl⟩
  rw [← hzs] at HVW ⊢
  have HZS := Lib.hid hzs; clear hzs
  have HRR := Lib.hid hr; have HPR := Lib.hid hpr; have HF := Lib.hid hf
  clear hr hpr hf
  go_enter Tryz.func43, Tryz.ntmps43
  go_upto_region 1 with (fail)
  have hS := Blk.new w 23 #[.int .i64 Wn, .int .i64 Hn, .int .i64 F, .int .i64 L, .int .i64 X, .int .i64 Y]
  have hB : Below w.heap.size w (w.alloc (.cells #[.int .i64 Wn, .int .i64 Hn, .int .i64 F, .int .i64 L, .int .i64 X, .int .i64 Y] 23)) := (Below.refl _ w).alloc (Nat.le_refl _) _
  generalize w.alloc (.cells #[.int .i64 Wn, .int .i64 Hn, .int .i64 F, .int .i64 L, .int .i64 X, .int .i64 Y] 23) = W0 at *
  go_wp2_with (fail)
  go_loopg [7, 8] Hn (fun g v i wr => ∃ (q : Nat) (v0 : Value), g = Hn - q ∧ q ≤ Hn ∧ i = .int .i64 q ∧ v = v0 ∧ wr.ownsRow w.heap.size 9 1 v0 q ((rowsOf (jS Wn Hn F L X Y zs) Wn q).map Value.string) ∧ Blk wr w.heap.size 23 #[.int .i64 Wn, .int .i64 Hn, .int .i64 F, .int .i64 L, .int .i64 X, .int .i64 Y] ∧ Below w.heap.size w wr)
  case atStart => exact ⟨0, _, rfl, Nat.zero_le _, rfl, rfl, World.ownsRow_nil _ _ _ _, hS, hB⟩
  case round =>
    clear hS hB
    obtain ⟨q, v, hg, hq, rfl, rfl, hown, hS, hB⟩ := hrel
    obtain ⟨va, vc, rfl⟩ := own_slice hown
    have HG := Lib.hid hg; clear hg
    have qhS := fun i => Blk.cell hS i
    by_cases hlt : q < Hn
    · have hlti : (q : Int) < Hn := by omega
      go_wp2_with (fail)
      clear qhS
      go_loopg [9, 10] Wn (fun g v i wr => ∃ (k : Nat) (v1 : Value), g = Wn - k ∧ k ≤ Wn ∧ i = .int .i64 k ∧ v = v1 ∧ wr.ownsRow w.heap.size 5 1 v1 k (((List.range k).map fun c => jcell F L X Y zs c q).map (Value.int .u8)) ∧ wr.ownsRow w.heap.size 9 1 (.slice va q vc) q ((rowsOf (jS Wn Hn F L X Y zs) Wn q).map Value.string) ∧ Blk wr w.heap.size 23 #[.int .i64 Wn, .int .i64 Hn, .int .i64 F, .int .i64 L, .int .i64 X, .int .i64 Y] ∧ Below w.heap.size w wr)
      case atStart => exact ⟨0, _, rfl, Nat.zero_le _, rfl, rfl, World.ownsRow_nil _ _ _ _, hown, hS, hB⟩
      case round =>
        clear hown hS hB
        obtain ⟨k, v, hg, hk, rfl, rfl, hin, hown, hS, hB⟩ := hrel
        obtain ⟨ua, uc, rfl⟩ := own_slice hin
        have HG2 := Lib.hid hg; clear hg
        have qhS := fun i => Blk.cell hS i
        rename World => W0
        by_cases hlt2 : k < Wn
        · have hlt2i : (k : Int) < Wn := by omega
          go_wp2_with (fail)
          clear qhS
          go_loopg [11, 12] n (fun g v i wr => ∃ (j : Nat) (c : Int), g = n - j ∧ j ≤ n ∧ i = .int .i64 j ∧ v = .int .u8 c ∧ c = jcell F L X Y (zs.take j) k q ∧ tri c ∧ wr.ownsRow w.heap.size 5 1 (.slice ua k uc) k (((List.range k).map fun c => jcell F L X Y zs c q).map (Value.int .u8)) ∧ wr.ownsRow w.heap.size 9 1 (.slice va q vc) q ((rowsOf (jS Wn Hn F L X Y zs) Wn q).map Value.string) ∧ Blk wr w.heap.size 23 #[.int .i64 Wn, .int .i64 Hn, .int .i64 F, .int .i64 L, .int .i64 X, .int .i64 Y] ∧ Below w.heap.size w wr)
          case atStart => exact ⟨0, 46, rfl, Nat.zero_le _, rfl, rfl, rfl, .inl rfl, hin, hown, hS, hB⟩
          case round =>
            clear hin hown hS hB
            obtain ⟨j, c, hg, hj, rfl, rfl, hc, htri, hin, hown, hS, hB⟩ := hrel
            have HG3 := Lib.hid hg; clear hg
            have HC := Lib.hid hc; clear hc
            rename World => W1
            by_cases hlt3 : j < n
            · have hlt3i : (j : Int) < n := by omega
              obtain ⟨b, off, hzk, rfl, hb, hcf⟩ := (HRR.out.below hB).atm hlt3
              obtain ⟨b2, off2, hzk2, rfl, hb2, hc0, hc1, hc2⟩ := (HPR.out.below hB).at3 hlt3
              obtain ⟨hz, hze⟩ := zip_get hzk hzk2
              have hok := (HF.out _ (List.getElem_mem hzk)).below hB
              have hzj : j < zs.length := by rw [HZS.out]; exact hz
              have hzz : zs[j] = (fs[j], ps[j]) := by
                have := HZS.out; subst this; exact hze
              have htk : zs.take (j + 1) = zs.take j ++ [zs[j]] := List.take_succ_eq_append_getElem hzj
              have hvw := HVW.out zs[j] (List.getElem_mem hzj)
              have hjc := jcell_snoc F L X Y (zs.take j) zs[j] k q
              rw [← htk, hzz, ← HC.out] at hjc
              rw [hzz] at hvw
              have htx := cellFP_tri F L X Y (fs[j], ps[j]) k q
              have hsh : ∀ p : Blw W1.heap.size W1, Calls Tryz.prog 104 #[.agg #[.int .i64 Wn, .int .i64 Hn, .int .i64 F, .int .i64 L, .int .i64 X, .int .i64 Y], .agg #[.slice (fs[j]).A (fs[j]).n (fs[j]).cap], .agg #[.int .i64 (ps[j]).n, .int .i64 (ps[j]).x, .int .i64 (ps[j]).y], .int .i64 k, .int .i64 q] p.to fun e w' => e = .returned (.int .u8 (cellFP F L X Y (fs[j], ps[j]) k q)) ∧ Below p.to.heap.size p.to w' := fun p =>
                shade_any Wn Hn F L X Y (ps[j]).n (ps[j]).x (ps[j]).y k q (fs[j]).A (fs[j]).n (fs[j]).cap (fs[j]).rows _ hvw (by omega) (by omega) (rd_blw (hok.2.2.2.more hB.size) p)
              simp only [Fig.val] at hcf
              generalize cellFP F L X Y (fs[j], ps[j]) k q = x at *
              clear hze hz hvw hok hzz htk hzj
              generalize fs[j] = f at *
              generalize ps[j] = p at *
              obtain ⟨fA, fn, fcap, frows⟩ := f
              obtain ⟨pn, px, py⟩ := p
              dsimp only at hc0 hc1 hc2 hcf hsh
              have HJC := Lib.hid hjc; have HTX := Lib.hid htx; have HTC := Lib.hid htri; clear hjc htx htri
              have hbw : b < W1.heap.size := Nat.lt_of_lt_of_le hb hB.size
              have hbw2 : b2 < W1.heap.size := Nat.lt_of_lt_of_le hb2 hB.size
              go_upto_region 13 with (fail)
              have hbs := fun p i => blw_blk hS p i
              have hpf : ∀ p : Blw W1.heap.size W1, p.to.cell? ⟨b, off + j, none⟩ = _ := fun p => blw_cell (a := ⟨b, off + j, none⟩) hbw hcf p
              have hp0 : ∀ p : Blw W1.heap.size W1, p.to.cell? ⟨b2, off2 + j * 3, none⟩ = _ := fun p => blw_cell (a := ⟨b2, off2 + j * 3, none⟩) hbw2 hc0 p
              have hp1 : ∀ p : Blw W1.heap.size W1, p.to.cell? ⟨b2, off2 + j * 3 + 1, none⟩ = _ := fun p => blw_cell (a := ⟨b2, off2 + j * 3 + 1, none⟩) hbw2 hc1 p
              have hp2 : ∀ p : Blw W1.heap.size W1, p.to.cell? ⟨b2, off2 + j * 3 + 2, none⟩ = _ := fun p => blw_cell (a := ⟨b2, off2 + j * 3 + 2, none⟩) hbw2 hc2 p
              refine wp_region_blw (by kernel_rfl) (by kernel_rfl) ?_
              repeat (go_big_quiet_step (first | (go_at_call 104; exact Calls.blw_of _ (hsh _))))
              refine wpQuiet_nil ?_
              rintro W3 ⟨⟨_, hb3⟩, rfl⟩
              clear hbs hpf hp0 hp1 hp2 hsh hcf hc0 hc1 hc2
              replace hin := ownsRow_below' hin hb3
              replace hown := ownsRow_below' hown hb3
              replace hS := hS.below hb3 hS.lt
              replace hB := hB.trans (hb3.mono hB.size)
              clear hb3
              rcases HTX.out with rfl | rfl | rfl
              · go_wp2_with (fail)
                go_roundg (n - (j + 1))
                case measure => rw [HG3.out]; omega
                case rel => exact ⟨j + 1, c, rfl, by omega, by go_num, rfl, by rw [HJC.out]; rfl, HTC.out, hin, hown, hS, hB⟩
              · go_wp2_with (fail)
                go_roundg (n - (j + 1))
                case measure => rw [HG3.out]; omega
                case rel => exact ⟨j + 1, 35, rfl, by omega, by go_num, rfl, by rw [HJC.out]; rfl, .inr (.inl rfl), hin, hown, hS, hB⟩
              · rcases HTC.out with rfl | rfl | rfl
                · go_wp2_with (fail)
                  go_roundg (n - (j + 1))
                  case measure => rw [HG3.out]; omega
                  case rel => exact ⟨j + 1, 43, rfl, by omega, by go_num, rfl, by rw [HJC.out]; rfl, .inr (.inr rfl), hin, hown, hS, hB⟩
                · go_wp2_with (fail)
                  go_roundg (n - (j + 1))
                  case measure => rw [HG3.out]; omega
                  case rel => exact ⟨j + 1, 35, rfl, by omega, by go_num, rfl, by rw [HJC.out]; rfl, .inr (.inl rfl), hin, hown, hS, hB⟩
                · go_wp2_with (fail)
                  go_roundg (n - (j + 1))
                  case measure => rw [HG3.out]; omega
                  case rel => exact ⟨j + 1, 43, rfl, by omega, by go_num, rfl, by rw [HJC.out]; rfl, .inr (.inr rfl), hin, hown, hS, hB⟩
            · have hje : j = n := by omega
              subst hje
              have hta : zs.take j = zs := List.take_of_length_le (by rw [HZS.out, List.length_zip]; have := HLEN.out; omega)
              have hcz : c = jcell F L X Y zs k q := by rw [HC.out, hta]
              have HCZ := Lib.hid hcz; clear hta hcz HC htri
              have hge : ¬ (j : Int) < (j : Int) := by omega
              go_wp2_with (first
                | (at_builtin; refine wpList_append_any _ rfl _ _ 89 rfl w.heap.size 5 i5 (.int .u8 0) 1 1 Tryz.underlying89 hi5 hz5 hz51 hz52 rfl (by decide) (.slice ua k uc) k (((List.range k).map fun c => jcell F L X Y zs c q).map (Value.int .u8)) rfl (hin.alloc _) (W1.heap.size + 1) (some ⟨W1.heap.size, 0, none⟩) 1 1 [.int .u8 c] rfl (Rd.blkN (Blk.new _ _ _) rfl (Nat.lt_succ_self _)).reads (by simp [Value.oneCell']) (by unfold maxLen; omega) (by omega) (by have := hB.size; simp only [World.size_alloc] at this ⊢; omega) (fun v' w' hown' hgrow hob => ?_))
                | go_in)
              have hin0 := hin.alloc (.cells #[.int .u8 c] 5)
              have hown0 := hown.alloc (.cells #[.int .u8 c] 5)
              have hS0 := hS.alloc (.cells #[.int .u8 c] 5)
              have hB0 := hB.alloc hB.size (.cells #[.int .u8 c] 5)
              have hown2 := hown0.kept hgrow (own_ne hown0 hin0 (by decide))
              have hS2 := hS0.grown hgrow (fun e => own_blk_ne hin0 hS0 (by decide) e.symm)
              have hB2 := hB0.grown hgrow hB0.size (fun q hq => (hin0.lt q hq).1)
              go_roundg (Wn - (k + 1))
              case measure => rw [HG2.out]; omega
              case rel => exact ⟨k + 1, _, rfl, by omega, by go_num, rfl, by rw [List.range_succ, List.map_append, List.map_append, List.map_singleton, List.map_singleton, ← HCZ.out]; exact hown', hown2, hS2, hB2⟩
        · have hke : k = Wn := by omega
          subst hke
          have hpos : 0 < k := by omega
          obtain ⟨g', cap', hslice, hg1, hg2⟩ := hin.form hpos
          injection hslice with hs1 hs2 hs3
          subst hs1 hs3
          have hlen : ((List.range k).map fun c => jcell F L X Y zs c q).length = k := by simp
          have hcc := run_convert_bytes_arg (P := Tryz.prog) W0 89 5 Tryz.underlying89 Tryz.underlying5 g' 0 k uc ((List.range k).map fun c => jcell F L X Y zs c q) hlen (fun i hi => by
            rw [Nat.zero_add, hin.cellAt i (by omega)]
            simp [List.getD_eq_getElem?_getD, hi]) 9 Tryz.underlying9
          obtain ⟨s, hs⟩ : ∃ s, s = strOfNums ((List.range k).map fun c => jcell F L X Y zs c q) := ⟨_, rfl⟩
          rw [← hs] at hcc
          have HS := Lib.hid (hs.trans (clothS_row (W := k) (H := Hn) (q := q) (jcell F L X Y zs) (by omega) hlt))
          clear hs hlen
          have hge : ¬ (k : Int) < (k : Int) := by omega
          go_wp2_with (first
            | (at_builtin; refine wpList_append_any _ rfl _ _ 24 rfl w.heap.size 9 i9 (.string ByteArray.empty) 1 16 Tryz.underlying24 hi9 hz9 hz91 hz92 rfl (by decide) (.slice va q vc) q ((rowsOf (jS k Hn F L X Y zs) k q).map Value.string) rfl (hown.alloc _) (W0.heap.size + 1) (some ⟨W0.heap.size, 0, none⟩) 1 1 [.string s] rfl (Rd.blkN (Blk.new _ _ _) rfl (Nat.lt_succ_self _)).reads (by simp [Value.oneCell']) (by unfold maxLen; omega) (by omega) (by have := hB.size; simp only [World.size_alloc]; omega) (fun v' w' hown' hgrow hob => ?_))
            | go_in)
          have hown0 := hown.alloc (.cells #[.string s] 9)
          have hS2 := (hS.alloc (.cells #[.string s] 9)).grown hgrow (fun e => own_blk_ne hown0 (hS.alloc (.cells #[.string s] 9)) (by decide) e.symm)
          have hB2 := (hB.alloc hB.size (.cells #[.string s] 9)).grown hgrow (by have := hB.size; simp only [World.size_alloc]; omega) (fun q hq => (hown0.lt q hq).1)
          go_roundg (Hn - (q + 1))
          case measure => rw [HG.out]; omega
          case rel => exact ⟨q + 1, _, rfl, by omega, by go_num, rfl, by rw [rowsOf_succ, List.map_append, show jS k Hn F L X Y zs = clothS k Hn (jcell F L X Y zs) from rfl, ← HS.out]; exact hown', hS2, hB2⟩
    · have hqe : q = Hn := by omega
      subst hqe
      have hge : ¬ (q : Int) < (q : Int) := by omega
      go_wp2_with (fail)
      go_ret
      exact ⟨_, rfl, hown, hB⟩
end Go.Proofs.YtifddfchpknkbaaGreatDoor
