import Derived.Test.YtifddfchpknkbaaGreatDoorRe
set_option linter.unusedVariables false
set_option linter.unusedSimpArgs false
namespace Go.Proofs.YtifddfchpknkbaaGreatDoor
open Go.RowKit

set_option maxRecDepth 100000 in
set_option maxHeartbeats 25600000 in
theorem rays_main (Wn Hn k q : Nat) (F L X Y N PX PY u v a b : Int) (A : Option Addr) (n cap : Nat) (rows : List ByteArray) (m : Int) (w : World) (hm : w.cell? ⟨0, 0, none⟩ = some (.int .i64 m)) (hcap : n ≤ cap) (hcm : cap ≤ maxLen) (hs : ∀ s ∈ rows, s.size ≤ maxLen) (hr : Rd w w.heap.size 1 A n (rows.map Value.string)) (rsA : List ByteArray) (rA : ByteArray) (x0 y0 t : Int)
    (hsh : shortB rows = true) (hst : stageB Wn Hn F L X Y = true) (hfg : figB rows = true) (hpl : placeB F N PX PY = true) (h6 : ¬ (Wn : Int) ≤ k) (h8 : ¬ (Hn : Int) ≤ q) (h9 : ¬ u < 1) (h10 : ¬ 59 < u) (h11 : ¬ v < 1) (h12 : ¬ 59 < v) (h13 : ¬ a < -60 * L) (h14 : ¬ 60 * L < a) (h15 : ¬ b < -60 * L) (h16 : ¬ 60 * L < b)
    (HEA : Hid (errV (viewB Wn Hn F L X Y N PX PY rows) = .int .i64 0)) (HRA : Hid (rsA = shadowRows Wn Hn F L X Y N PX PY rows)) (HWA : Hid (wholeB Wn Hn rsA = true))
    (hla : rsA.length ≤ 100000) (hsa : ∀ s ∈ rsA, s.size ≤ 100000) (hn1 : n ≤ 100000) (hs1 : ∀ s ∈ rows, s.size ≤ 100000)
    (HX : Hid ((X - PX) * (60 * F) + (60 * (k - X) + u) * (F - N) + a * N = x0)) (HYY : Hid ((Y - PY) * (60 * F) + (60 * (q - Y) + v) * (F - N) + b * N = y0)) (hx1 : -1000000 ≤ x0 ∧ x0 ≤ 1000000) (hy1 : -1000000 ≤ y0 ∧ y0 ≤ 1000000)
    (HT : Hid (t = hideV rows (x0 / (60 * F)) (y0 / (60 * F)))) (hcell : rsA[q]? = some rA) (hkr : k < rA.size)
    (hc1 : (rA[k].toNat : Int) = 35 → t = 35) (hc2 : (rA[k].toNat : Int) = 46 → t = 46) :
    Calls Tryz.prog 4 #[.agg #[.int .i64 Wn, .int .i64 Hn, .int .i64 F, .int .i64 L, .int .i64 X, .int .i64 Y], .agg #[.slice A n cap], .agg #[.int .i64 N, .int .i64 PX, .int .i64 PY], .int .i64 k, .int .i64 q, .int .i64 u, .int .i64 v, .int .i64 a, .int .i64 b] w fun e w' => e = .returned (.bool true) ∧ Below w.heap.size w w' := by
  have hn : n ≤ maxLen := Nat.le_trans hcap hcm
  have ⟨⟨a1, a2⟩, ⟨a3, a4⟩, ⟨a5, a6⟩, ⟨a7, a8⟩, ⟨a9, a10⟩, a11, a12⟩ := stageB_nums hst
  have ⟨⟨b1, b2⟩, ⟨b3, b4⟩, b5, b6⟩ := placeB_nums hpl
  have h5 : ¬ (k : Int) < 0 := by omega
  have h7 : ¬ (q : Int) < 0 := by omega
  have hw1 := i64_ok (-60 * L) (by omega)
  have hw2 := i64_ok (60 * L) (by omega)
  have hd0 : 0 < 60 * F := by omega
  have hd1 : 60 * F ≤ 1000000 := by omega
  have hd2 : ¬ 60 * F = 0 := by omega
  have e1 := mulB (x := X - PX) (y := 60 * F) (a := 40) (b := 2400) (by omega) (by omega) (by omega) (by omega)
  have e2 := mulB (x := 60 * (k - X) + u) (y := F - N) (a := 2000) (b := 40) (by omega) (by omega) (by omega) (by omega)
  have e3 := mulB (x := a) (y := N) (a := 180) (b := 40) (by omega) (by omega) (by omega) (by omega)
  have e4 := mulB (x := Y - PY) (y := 60 * F) (a := 40) (b := 2400) (by omega) (by omega) (by omega) (by omega)
  have e5 := mulB (x := 60 * (q - Y) + v) (y := F - N) (a := 2000) (b := 40) (by omega) (by omega) (by omega) (by omega)
  have e6 := mulB (x := b) (y := N) (a := 180) (b := 40) (by omega) (by omega) (by omega) (by omega)
  have o1 := i64_ok (X - PX) (by omega)
  have o2 := i64_ok ((X - PX) * (60 * F)) (by omega)
  have o3 := i64_ok ((k : Int) - X) (by omega)
  have o4 := i64_ok (60 * ((k : Int) - X)) (by omega)
  have o5 := i64_ok (60 * ((k : Int) - X) + u) (by omega)
  have o6 := i64_ok ((60 * ((k : Int) - X) + u) * (F - N)) (by omega)
  have o7 := i64_ok ((X - PX) * (60 * F) + (60 * ((k : Int) - X) + u) * (F - N)) (by omega)
  have o8 := i64_ok (a * N) (by omega)
  have o9 := i64_ok ((X - PX) * (60 * F) + (60 * (k - X) + u) * (F - N) + a * N) (by omega)
  have p1 := i64_ok (Y - PY) (by omega)
  have p2 := i64_ok ((Y - PY) * (60 * F)) (by omega)
  have p3 := i64_ok ((q : Int) - Y) (by omega)
  have p4 := i64_ok (60 * ((q : Int) - Y)) (by omega)
  have p5 := i64_ok (60 * ((q : Int) - Y) + v) (by omega)
  have p6 := i64_ok ((60 * ((q : Int) - Y) + v) * (F - N)) (by omega)
  have p7 := i64_ok ((Y - PY) * (60 * F) + (60 * ((q : Int) - Y) + v) * (F - N)) (by omega)
  have p8 := i64_ok (b * N) (by omega)
  have p9 := i64_ok ((Y - PY) * (60 * F) + (60 * (q - Y) + v) * (F - N) + b * N) (by omega)
  have o10 := i64_ok (F - N) (by omega)
  have o11 := i64_ok (60 * F) (by omega)
  have HO := Lib.hid (And.intro o1 (And.intro o2 (And.intro o3 (And.intro o4 (And.intro o5 (And.intro o6 (And.intro o7 (And.intro o8 o9))))))))
  have HPO := Lib.hid (And.intro p1 (And.intro p2 (And.intro p3 (And.intro p4 (And.intro p5 (And.intro p6 (And.intro p7 (And.intro p8 p9))))))))
  clear o1 o2 o3 o4 o5 o6 o7 o8 o9 p1 p2 p3 p4 p5 p6 p7 p8 p9 e1 e2 e3 e4 e5 e6 a1 a2 a3 a4 a7 a8 a9 a10 a11 a12 b1 b2 b3 b4 b5 b6
  go_enter Tryz.func4, Tryz.ntmps4
  go_upto_region 1 with (fail)
  have hS := blk3_0 w (.cells #[.slice A n cap] 26) (.cells #[.int .i64 N, .int .i64 PX, .int .i64 PY] 28) 23 #[.int .i64 Wn, .int .i64 Hn, .int .i64 F, .int .i64 L, .int .i64 X, .int .i64 Y]
  have hF := blk3_1 w (.cells #[.int .i64 Wn, .int .i64 Hn, .int .i64 F, .int .i64 L, .int .i64 X, .int .i64 Y] 23) (.cells #[.int .i64 N, .int .i64 PX, .int .i64 PY] 28) 26 #[.slice A n cap]
  have hP := blk3_2 w (.cells #[.int .i64 Wn, .int .i64 Hn, .int .i64 F, .int .i64 L, .int .i64 X, .int .i64 Y] 23) (.cells #[.slice A n cap] 26) 28 #[.int .i64 N, .int .i64 PX, .int .i64 PY]
  have hB := pro_3 w (.cells #[.int .i64 Wn, .int .i64 Hn, .int .i64 F, .int .i64 L, .int .i64 X, .int .i64 Y] 23) (.cells #[.slice A n cap] 26) (.cells #[.int .i64 N, .int .i64 PX, .int .i64 PY] 28)
  have hR := rdB hr hB
  generalize ((w.alloc (.cells #[.int .i64 Wn, .int .i64 Hn, .int .i64 F, .int .i64 L, .int .i64 X, .int .i64 Y] 23)).alloc (.cells #[.slice A n cap] 26)).alloc (.cells #[.int .i64 N, .int .i64 PX, .int .i64 PY] 28) = W0 at *
  have qhS := fun i => Blk.cell hS i
  have qhF := fun i => Blk.cell hF i
  have qhP := fun i => Blk.cell hP i
  clear hr
  go_upto_region 3 with (first | (go_at_call 23; refine (short_any A n cap rows _ hn hs hR).mono ?_; rintro e w1 ⟨rfl, rfl⟩; rw [hsh]) | (go_at_call 27; refine (Stage_any Wn Hn F L X Y _).mono ?_; rintro e w1 ⟨rfl, hb⟩; rw [hst]; (try replace hS := hS.below hb hS.lt); (try replace hF := hF.below hb hF.lt); (try replace hP := hP.below hb hP.lt); (try replace hR := rdB hR hb); (try replace hA := rdB hA hb); replace hB := hB.trans (hb.mono hB.size); (try clear qhS); (try clear qhF); (try clear qhP); clear hb; (try have qhS := fun i => Blk.cell hS i); (try have qhF := fun i => Blk.cell hF i); (try have qhP := fun i => Blk.cell hP i)) | (go_at_call 28; refine (refFigure_any A n cap rows _ hn hs hR).mono ?_; rintro e w1 ⟨rfl, hb⟩; rw [hfg]; (try replace hS := hS.below hb hS.lt); (try replace hF := hF.below hb hF.lt); (try replace hP := hP.below hb hP.lt); (try replace hR := rdB hR hb); (try replace hA := rdB hA hb); replace hB := hB.trans (hb.mono hB.size); (try clear qhS); (try clear qhF); (try clear qhP); clear hb; (try have qhS := fun i => Blk.cell hS i); (try have qhF := fun i => Blk.cell hF i); (try have qhP := fun i => Blk.cell hP i)) | (go_at_call 31; refine (Place_any Wn Hn F L X Y N PX PY _ a5 a6).mono ?_; rintro e w1 ⟨rfl, hb⟩; rw [hpl]; (try replace hS := hS.below hb hS.lt); (try replace hF := hF.below hb hF.lt); (try replace hP := hP.below hb hP.lt); (try replace hR := rdB hR hb); (try replace hA := rdB hA hb); replace hB := hB.trans (hb.mono hB.size); (try clear qhS); (try clear qhF); (try clear qhP); clear hb; (try have qhS := fun i => Blk.cell hS i); (try have qhF := fun i => Blk.cell hF i); (try have qhP := fun i => Blk.cell hP i)))
  clear hsh hst hfg hpl h5 h6 h7 h8 h9 h10 h11 h12
  go_upto_region 5 with (fail)
  clear h13 h14 h15 h16 hw1 hw2
  go_upto_region 6 with (first | (go_at_call 29; refine (Shadow_any Wn Hn F L X Y N PX PY A n cap rows _ hcap hcm hs hR).mono ?_; rintro e w1 ⟨v0, rfl, own, hb⟩; (try replace hS := hS.below hb hS.lt); (try replace hF := hF.below hb hF.lt); (try replace hP := hP.below hb hP.lt); (try replace hR := rdB hR hb); replace hB := hB.trans (hb.mono hB.size); (try clear qhS); (try clear qhF); (try clear qhP); clear hb; (try have qhS := fun i => Blk.cell hS i); (try have qhF := fun i => Blk.cell hF i); (try have qhP := fun i => Blk.cell hP i); rw [HEA.out]; rw [← HRA.out] at own; obtain ⟨A3, c3, rfl⟩ := own_slice own; have hA1 := own_le0 own; have hA2 := own_cap own; have hA := Rd.of_own own; clear own))
  clear HEA HRA hn hcap hcm hs
  go_upto_region 8 with (first | (go_at_call 35; refine (whole_any Wn Hn F L X Y A3 rsA.length c3 rsA _ hla hsa hA).mono ?_; rintro e w1 ⟨rfl, hb⟩; rw [HWA.out]; (try replace hS := hS.below hb hS.lt); (try replace hF := hF.below hb hF.lt); (try replace hP := hP.below hb hP.lt); (try replace hR := rdB hR hb); (try replace hA := rdB hA hb); replace hB := hB.trans (hb.mono hB.size); (try clear qhS); (try clear qhF); (try clear qhP); clear hb; (try have qhS := fun i => Blk.cell hS i); (try have qhF := fun i => Blk.cell hF i); (try have qhP := fun i => Blk.cell hP i)))
  clear HWA hla hsa
  have hbb := fun p i => blw_blk hS p i
  have hbp := fun p i => blw_blk hP p i
  refine wp_region_blw (by kernel_rfl) (by kernel_rfl) ?_
  repeat (go_big_quiet_step (fail))
  refine wpQuiet_nil ?_
  rintro W3 ⟨⟨_, hb⟩, rfl⟩
  clear hbb hbp
  replace hS := hS.below hb hS.lt; replace hF := hF.below hb hF.lt; replace hP := hP.below hb hP.lt; replace hR := rdB hR hb; replace hA := rdB hA hb; replace hB := hB.trans (hb.mono hB.size)
  clear hb qhS qhF qhP
  have qhS := fun i => Blk.cell hS i; have qhF := fun i => Blk.cell hF i; have qhP := fun i => Blk.cell hP i
  clear o10 o11
  obtain ⟨o1, o2, o3, o4, o5, o6, o7, o8, o9⟩ := HO.out
  go_upto_region 10 with (fail)
  rw [HX.out] at *
  clear HO o1 o2 o3 o4 o5 o6 o7 o8 o9 HX
  obtain ⟨p1, p2, p3, p4, p5, p6, p7, p8, p9⟩ := HPO.out
  go_upto_region 11 with (fail)
  rw [HYY.out]
  clear HPO p1 p2 p3 p4 p5 p6 p7 p8 p9 HYY a5 a6
  cases hqx : (x0.tmod (60 * F) == 0)
  case' false => cases hqy : (y0.tmod (60 * F) == 0)
  case true =>
    go_wp2_with (first | (go_at_call 24; refine (known_true m _ (known_at hm hB)).mono ?_; rintro e w1 ⟨rfl, hb⟩; (try replace hS := hS.below hb hS.lt); (try replace hF := hF.below hb hF.lt); (try replace hP := hP.below hb hP.lt); (try replace hR := rdB hR hb); (try replace hA := rdB hA hb); replace hB := hB.trans (hb.mono hB.size); (try clear qhS); (try clear qhF); (try clear qhP); clear hb; (try have qhS := fun i => Blk.cell hS i); (try have qhF := fun i => Blk.cell hF i); (try have qhP := fun i => Blk.cell hP i)))
    go_ret
    exact ⟨rfl, hB⟩
  case false.true =>
    go_wp2_with (first | (go_at_call 24; refine (known_true m _ (known_at hm hB)).mono ?_; rintro e w1 ⟨rfl, hb⟩; (try replace hS := hS.below hb hS.lt); (try replace hF := hF.below hb hF.lt); (try replace hP := hP.below hb hP.lt); (try replace hR := rdB hR hb); (try replace hA := rdB hA hb); replace hB := hB.trans (hb.mono hB.size); (try clear qhS); (try clear qhF); (try clear qhP); clear hb; (try have qhS := fun i => Blk.cell hS i); (try have qhF := fun i => Blk.cell hF i); (try have qhP := fun i => Blk.cell hP i)))
    go_ret
    exact ⟨rfl, hB⟩
  case false.false =>
    go_upto_region 14 with (first | (go_at_call 36; refine (hide_any A n cap rows x0 y0 (60 * F) _ hn1 hs1 hR hd0 hd1 hx1 hy1).mono ?_; rintro e w1 ⟨rfl, hb⟩; rw [← HT.out]; (try replace hS := hS.below hb hS.lt); (try replace hF := hF.below hb hF.lt); (try replace hP := hP.below hb hP.lt); (try replace hR := rdB hR hb); (try replace hA := rdB hA hb); replace hB := hB.trans (hb.mono hB.size); (try clear qhS); (try clear qhF); (try clear qhP); clear hb; (try have qhS := fun i => Blk.cell hS i); (try have qhF := fun i => Blk.cell hF i); (try have qhP := fun i => Blk.cell hP i)))
    clear HT hF hP qhF qhP hR hx1 hy1 hn1 hs1 hqx hqy hd0 hd1 hd2 qhS
    obtain ⟨hin, hget⟩ := List.getElem?_eq_some_iff.1 hcell
    obtain ⟨b0, off, hzz, rfl, hb0, hc0⟩ := hA.atm (k := q) hin
    rw [hget] at hc0
    have hql : (q : Int) < rsA.length := by omega
    have hkl : (k : Int) < rA.size := by omega
    clear hA hcell hget hzz hin hb0
    by_cases z35 : (rA[k].toNat : Int) = 35
    · obtain rfl : t = 35 := hc1 z35
      clear hc1 hc2
      have hz1 : ((rA[k].toNat : Int) != 35) = false := by simp [z35]
      have hz2 : ((rA[k].toNat : Int) != 46) = true := by rw [z35]; rfl
      clear z35
      go_wp2_with (first | (go_at_call 24; refine (known_true m _ (known_at hm hB)).mono ?_; rintro e w1 ⟨rfl, hb⟩; replace hB := hB.trans (hb.mono hB.size); clear hb))
      go_ret
      exact ⟨rfl, hB⟩
    · have hz1 : ((rA[k].toNat : Int) != 35) = true := by simpa using z35
      by_cases z46 : (rA[k].toNat : Int) = 46
      · obtain rfl : t = 46 := hc2 z46
        clear hc1 hc2 z35
        have hz2 : ((rA[k].toNat : Int) != 46) = false := by simp [z46]
        clear z46
        go_wp2_with (first | (go_at_call 24; refine (known_true m _ (known_at hm hB)).mono ?_; rintro e w1 ⟨rfl, hb⟩; replace hB := hB.trans (hb.mono hB.size); clear hb))
        go_ret
        exact ⟨rfl, hB⟩
      · have hz2 : ((rA[k].toNat : Int) != 46) = true := by simpa using z46
        clear hc1 hc2 z35 z46
        go_wp2_with (first | (go_at_call 24; refine (known_true m _ (known_at hm hB)).mono ?_; rintro e w1 ⟨rfl, hb⟩; replace hB := hB.trans (hb.mono hB.size); clear hb))
        go_ret
        exact ⟨rfl, hB⟩
end Go.Proofs.YtifddfchpknkbaaGreatDoor
