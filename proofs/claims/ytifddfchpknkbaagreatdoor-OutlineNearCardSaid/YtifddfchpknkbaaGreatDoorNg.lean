import Derived.Test.YtifddfchpknkbaaGreatDoorMa
import Derived.Test.YtifddfchpknkbaaGreatDoorLc
set_option linter.unusedVariables false
set_option linter.unusedSimpArgs false
namespace Go.Proofs.YtifddfchpknkbaaGreatDoor
open Go.RowKit

set_option maxRecDepth 100000 in
set_option maxHeartbeats 25600000 in
theorem near_11 (W H F L X Y N PX PY : Int) (A : Option Addr) (n cap : Nat) (rows : List ByteArray) (m : Int) (w : World) (hm : w.cell? ⟨0, 0, none⟩ = some (.int .i64 m)) (hcap : n ≤ cap) (hcm : cap ≤ maxLen) (hs : ∀ r ∈ rows, r.size ≤ maxLen) (hr : Rd w w.heap.size 1 A n (rows.map Value.string))
    (mv fv : Int) (c35 c43 : Nat) (fb : Bool) (hsh : shortB rows = true) (hst : stageB W H F L X Y = true) (hfg : figB rows = true) (hpl : placeB F N PX PY = true)
    (hfi : fitsR W H F L X Y N PX PY rows = #[.bool fb, .int .i64 0]) (hco : countsR W H F L X Y N PX PY rows = #[.int .i64 c35, .int .i64 c43, .int .i64 0])
    (hmo : mostR W H F L X Y PX PY rows = #[.int .i64 mv, .int .i64 5]) (hfa : fadesR W H F L X Y PX PY rows = #[.int .i64 fv, .int .i64 5])
    (f1 : ¬ (c35 : Int) < 0) (f2 : ¬ (c43 : Int) < 0) (f3 : ¬ W * H < (c35 : Int)) (f4 : ¬ W * H < (c43 : Int)) (hwh : W * H ≤ 256) (g1 : ¬ mv < 0) (g2 : ¬ F ≤ mv) (g3 : ¬ fv < 0) (g4 : ¬ F ≤ fv)
    (hA : fb = false) (hZ : c35 ≠ 0) :
    Calls Tryz.prog 9 #[.agg #[.int .i64 W, .int .i64 H, .int .i64 F, .int .i64 L, .int .i64 X, .int .i64 Y], .agg #[.slice A n cap], .agg #[.int .i64 N, .int .i64 PX, .int .i64 PY]] w fun e w' => e = .returned (.bool true) ∧ Below w.heap.size w w' := by
  have hn : n ≤ maxLen := Nat.le_trans hcap hcm
  have ⟨⟨a1, a2⟩, ⟨a3, a4⟩, ⟨a5, a6⟩, ⟨a7, a8⟩, ⟨a9, a10⟩, a11, a12⟩ := stageB_nums hst
  have HMO := Lib.hid hmo; have HFA := Lib.hid hfa; have HFI := Lib.hid hfi; have HCO := Lib.hid hco; clear hmo hfa hfi hco
  have hw0 : 0 ≤ W * H := Int.mul_nonneg (by omega) (by omega)
  have f5 := i64_ok (W * H) (by omega)
  have f7 : ¬ F ≤ 0 := by omega
  go_enter Tryz.func9, Tryz.ntmps9
  go_upto_region 1 with (fail)
  have hS := blk3_0 w (.cells #[.slice A n cap] 26) (.cells #[.int .i64 N, .int .i64 PX, .int .i64 PY] 28) 23 #[.int .i64 W, .int .i64 H, .int .i64 F, .int .i64 L, .int .i64 X, .int .i64 Y]
  have hF := blk3_1 w (.cells #[.int .i64 W, .int .i64 H, .int .i64 F, .int .i64 L, .int .i64 X, .int .i64 Y] 23) (.cells #[.int .i64 N, .int .i64 PX, .int .i64 PY] 28) 26 #[.slice A n cap]
  have hP := blk3_2 w (.cells #[.int .i64 W, .int .i64 H, .int .i64 F, .int .i64 L, .int .i64 X, .int .i64 Y] 23) (.cells #[.slice A n cap] 26) 28 #[.int .i64 N, .int .i64 PX, .int .i64 PY]
  have hB := pro_3 w (.cells #[.int .i64 W, .int .i64 H, .int .i64 F, .int .i64 L, .int .i64 X, .int .i64 Y] 23) (.cells #[.slice A n cap] 26) (.cells #[.int .i64 N, .int .i64 PX, .int .i64 PY] 28)
  have hR := rdB hr hB
  generalize ((w.alloc (.cells #[.int .i64 W, .int .i64 H, .int .i64 F, .int .i64 L, .int .i64 X, .int .i64 Y] 23)).alloc (.cells #[.slice A n cap] 26)).alloc (.cells #[.int .i64 N, .int .i64 PX, .int .i64 PY] 28) = W0 at *
  have qhS := fun i => Blk.cell hS i
  have qhF := fun i => Blk.cell hF i
  have qhP := fun i => Blk.cell hP i
  go_upto_region 7 with (first | (go_at_call 23; refine (short_any A n cap rows _ hn hs hR).mono ?_; rintro e w1 ⟨rfl, rfl⟩; rw [hsh]) | (go_at_call 27; refine (Stage_any W H F L X Y _).mono ?_; rintro e w1 ⟨rfl, hb⟩; rw [hst]; (try replace hS := hS.below hb hS.lt); (try replace hF := hF.below hb hF.lt); (try replace hP := hP.below hb hP.lt); (try replace hR := rdB hR hb); replace hB := hB.trans (hb.mono hB.size); (try clear qhS); (try clear qhF); (try clear qhP); clear hb; (try have qhS := fun i => Blk.cell hS i); (try have qhF := fun i => Blk.cell hF i); (try have qhP := fun i => Blk.cell hP i)) | (go_at_call 28; refine (refFigure_any A n cap rows _ hn hs hR).mono ?_; rintro e w1 ⟨rfl, hb⟩; rw [hfg]; (try replace hS := hS.below hb hS.lt); (try replace hF := hF.below hb hF.lt); (try replace hP := hP.below hb hP.lt); (try replace hR := rdB hR hb); replace hB := hB.trans (hb.mono hB.size); (try clear qhS); (try clear qhF); (try clear qhP); clear hb; (try have qhS := fun i => Blk.cell hS i); (try have qhF := fun i => Blk.cell hF i); (try have qhP := fun i => Blk.cell hP i)) | (go_at_call 31; refine (Place_any W H F L X Y N PX PY _ (by omega) (by omega)).mono ?_; rintro e w1 ⟨rfl, hb⟩; rw [hpl]; (try replace hS := hS.below hb hS.lt); (try replace hF := hF.below hb hF.lt); (try replace hP := hP.below hb hP.lt); (try replace hR := rdB hR hb); replace hB := hB.trans (hb.mono hB.size); (try clear qhS); (try clear qhF); (try clear qhP); clear hb; (try have qhS := fun i => Blk.cell hS i); (try have qhF := fun i => Blk.cell hF i); (try have qhP := fun i => Blk.cell hP i)) | (go_at_call 46; refine (Fits_any W H F L X Y N PX PY A n cap rows _ hcap hcm hs hR).mono ?_; rintro e w1 ⟨rfl, hb⟩; rw [HFI.out]; (try replace hS := hS.below hb hS.lt); (try replace hF := hF.below hb hF.lt); (try replace hP := hP.below hb hP.lt); (try replace hR := rdB hR hb); replace hB := hB.trans (hb.mono hB.size); (try clear qhS); (try clear qhF); (try clear qhP); clear hb; (try have qhS := fun i => Blk.cell hS i); (try have qhF := fun i => Blk.cell hF i); (try have qhP := fun i => Blk.cell hP i)) | (go_at_call 47; refine (Most_any W H F L X Y PX PY A n cap rows _ hcap hcm hs hR).mono ?_; rintro e w1 ⟨rfl, hb⟩; rw [HMO.out]; (try replace hS := hS.below hb hS.lt); (try replace hF := hF.below hb hF.lt); (try replace hP := hP.below hb hP.lt); (try replace hR := rdB hR hb); replace hB := hB.trans (hb.mono hB.size); (try clear qhS); (try clear qhF); (try clear qhP); clear hb; (try have qhS := fun i => Blk.cell hS i); (try have qhF := fun i => Blk.cell hF i); (try have qhP := fun i => Blk.cell hP i)) | (go_at_call 48; refine (Fades_any W H F L X Y PX PY A n cap rows _ hcap hcm hs hR).mono ?_; rintro e w1 ⟨rfl, hb⟩; rw [HFA.out]; (try replace hS := hS.below hb hS.lt); (try replace hF := hF.below hb hF.lt); (try replace hP := hP.below hb hP.lt); (try replace hR := rdB hR hb); replace hB := hB.trans (hb.mono hB.size); (try clear qhS); (try clear qhF); (try clear qhP); clear hb; (try have qhS := fun i => Blk.cell hS i); (try have qhF := fun i => Blk.cell hF i); (try have qhP := fun i => Blk.cell hP i)) | (go_at_call 30; refine (Counts_any W H F L X Y N PX PY A n cap rows _ hcap hcm hs hR).mono ?_; rintro e w1 ⟨rfl, hb⟩; rw [HCO.out]; (try replace hS := hS.below hb hS.lt); (try replace hF := hF.below hb hF.lt); (try replace hP := hP.below hb hP.lt); (try replace hR := rdB hR hb); replace hB := hB.trans (hb.mono hB.size); (try clear qhS); (try clear qhF); (try clear qhP); clear hb; (try have qhS := fun i => Blk.cell hS i); (try have qhF := fun i => Blk.cell hF i); (try have qhP := fun i => Blk.cell hP i)))
  clear hF qhF HMO HFA HFI HCO hn hcap hcm hs hr hR hsh hst hfg hpl a2 a4
  subst hA
  have hZ3 : ((c35 : Int) == 0) = false := by rw [beq_eq_false_iff_ne]; omega
  clear a1 a3 a5 a6 a7 a8 a9 a10 a11 a12 hwh hw0
  go_upto_region 9 with (fail)
  clear g1 g2 g3 g4 f1 f2 f3 f4 f5 f7
  as_aux_lemma =>
    go_wp2_with (first | (go_at_call 24; refine (known_true m _ (known_at hm hB)).mono ?_; rintro e w1 ⟨rfl, hb⟩; (try replace hS := hS.below hb hS.lt); (try replace hF := hF.below hb hF.lt); (try replace hP := hP.below hb hP.lt); (try replace hR := rdB hR hb); replace hB := hB.trans (hb.mono hB.size); (try clear qhS); (try clear qhF); (try clear qhP); clear hb; (try have qhS := fun i => Blk.cell hS i); (try have qhF := fun i => Blk.cell hF i); (try have qhP := fun i => Blk.cell hP i)))
    go_ret
    exact ⟨rfl, hB⟩
set_option maxRecDepth 100000 in
set_option maxHeartbeats 25600000 in
theorem near_12 (W H F L X Y N PX PY : Int) (A : Option Addr) (n cap : Nat) (rows : List ByteArray) (m : Int) (w : World) (hm : w.cell? ⟨0, 0, none⟩ = some (.int .i64 m)) (hcap : n ≤ cap) (hcm : cap ≤ maxLen) (hs : ∀ r ∈ rows, r.size ≤ maxLen) (hr : Rd w w.heap.size 1 A n (rows.map Value.string))
    (mv fv : Int) (c35 c43 : Nat) (fb : Bool) (hsh : shortB rows = true) (hst : stageB W H F L X Y = true) (hfg : figB rows = true) (hpl : placeB F N PX PY = true)
    (hfi : fitsR W H F L X Y N PX PY rows = #[.bool fb, .int .i64 0]) (hco : countsR W H F L X Y N PX PY rows = #[.int .i64 c35, .int .i64 c43, .int .i64 0])
    (hmo : mostR W H F L X Y PX PY rows = #[.int .i64 mv, .int .i64 5]) (hfa : fadesR W H F L X Y PX PY rows = #[.int .i64 fv, .int .i64 0])
    (f1 : ¬ (c35 : Int) < 0) (f2 : ¬ (c43 : Int) < 0) (f3 : ¬ W * H < (c35 : Int)) (f4 : ¬ W * H < (c43 : Int)) (hwh : W * H ≤ 256) (g1 : ¬ mv < 0) (g2 : ¬ F ≤ mv) (g3 : ¬ fv < 0) (g4 : ¬ F ≤ fv)
    (hA : fb = false) (hZ2 : N < fv) (hZ : c35 ≠ 0) :
    Calls Tryz.prog 9 #[.agg #[.int .i64 W, .int .i64 H, .int .i64 F, .int .i64 L, .int .i64 X, .int .i64 Y], .agg #[.slice A n cap], .agg #[.int .i64 N, .int .i64 PX, .int .i64 PY]] w fun e w' => e = .returned (.bool true) ∧ Below w.heap.size w w' := by
  have hn : n ≤ maxLen := Nat.le_trans hcap hcm
  have ⟨⟨a1, a2⟩, ⟨a3, a4⟩, ⟨a5, a6⟩, ⟨a7, a8⟩, ⟨a9, a10⟩, a11, a12⟩ := stageB_nums hst
  have HMO := Lib.hid hmo; have HFA := Lib.hid hfa; have HFI := Lib.hid hfi; have HCO := Lib.hid hco; clear hmo hfa hfi hco
  have hw0 : 0 ≤ W * H := Int.mul_nonneg (by omega) (by omega)
  have f5 := i64_ok (W * H) (by omega)
  have f7 : ¬ F ≤ 0 := by omega
  go_enter Tryz.func9, Tryz.ntmps9
  go_upto_region 1 with (fail)
  have hS := blk3_0 w (.cells #[.slice A n cap] 26) (.cells #[.int .i64 N, .int .i64 PX, .int .i64 PY] 28) 23 #[.int .i64 W, .int .i64 H, .int .i64 F, .int .i64 L, .int .i64 X, .int .i64 Y]
  have hF := blk3_1 w (.cells #[.int .i64 W, .int .i64 H, .int .i64 F, .int .i64 L, .int .i64 X, .int .i64 Y] 23) (.cells #[.int .i64 N, .int .i64 PX, .int .i64 PY] 28) 26 #[.slice A n cap]
  have hP := blk3_2 w (.cells #[.int .i64 W, .int .i64 H, .int .i64 F, .int .i64 L, .int .i64 X, .int .i64 Y] 23) (.cells #[.slice A n cap] 26) 28 #[.int .i64 N, .int .i64 PX, .int .i64 PY]
  have hB := pro_3 w (.cells #[.int .i64 W, .int .i64 H, .int .i64 F, .int .i64 L, .int .i64 X, .int .i64 Y] 23) (.cells #[.slice A n cap] 26) (.cells #[.int .i64 N, .int .i64 PX, .int .i64 PY] 28)
  have hR := rdB hr hB
  generalize ((w.alloc (.cells #[.int .i64 W, .int .i64 H, .int .i64 F, .int .i64 L, .int .i64 X, .int .i64 Y] 23)).alloc (.cells #[.slice A n cap] 26)).alloc (.cells #[.int .i64 N, .int .i64 PX, .int .i64 PY] 28) = W0 at *
  have qhS := fun i => Blk.cell hS i
  have qhF := fun i => Blk.cell hF i
  have qhP := fun i => Blk.cell hP i
  go_upto_region 7 with (first | (go_at_call 23; refine (short_any A n cap rows _ hn hs hR).mono ?_; rintro e w1 ⟨rfl, rfl⟩; rw [hsh]) | (go_at_call 27; refine (Stage_any W H F L X Y _).mono ?_; rintro e w1 ⟨rfl, hb⟩; rw [hst]; (try replace hS := hS.below hb hS.lt); (try replace hF := hF.below hb hF.lt); (try replace hP := hP.below hb hP.lt); (try replace hR := rdB hR hb); replace hB := hB.trans (hb.mono hB.size); (try clear qhS); (try clear qhF); (try clear qhP); clear hb; (try have qhS := fun i => Blk.cell hS i); (try have qhF := fun i => Blk.cell hF i); (try have qhP := fun i => Blk.cell hP i)) | (go_at_call 28; refine (refFigure_any A n cap rows _ hn hs hR).mono ?_; rintro e w1 ⟨rfl, hb⟩; rw [hfg]; (try replace hS := hS.below hb hS.lt); (try replace hF := hF.below hb hF.lt); (try replace hP := hP.below hb hP.lt); (try replace hR := rdB hR hb); replace hB := hB.trans (hb.mono hB.size); (try clear qhS); (try clear qhF); (try clear qhP); clear hb; (try have qhS := fun i => Blk.cell hS i); (try have qhF := fun i => Blk.cell hF i); (try have qhP := fun i => Blk.cell hP i)) | (go_at_call 31; refine (Place_any W H F L X Y N PX PY _ (by omega) (by omega)).mono ?_; rintro e w1 ⟨rfl, hb⟩; rw [hpl]; (try replace hS := hS.below hb hS.lt); (try replace hF := hF.below hb hF.lt); (try replace hP := hP.below hb hP.lt); (try replace hR := rdB hR hb); replace hB := hB.trans (hb.mono hB.size); (try clear qhS); (try clear qhF); (try clear qhP); clear hb; (try have qhS := fun i => Blk.cell hS i); (try have qhF := fun i => Blk.cell hF i); (try have qhP := fun i => Blk.cell hP i)) | (go_at_call 46; refine (Fits_any W H F L X Y N PX PY A n cap rows _ hcap hcm hs hR).mono ?_; rintro e w1 ⟨rfl, hb⟩; rw [HFI.out]; (try replace hS := hS.below hb hS.lt); (try replace hF := hF.below hb hF.lt); (try replace hP := hP.below hb hP.lt); (try replace hR := rdB hR hb); replace hB := hB.trans (hb.mono hB.size); (try clear qhS); (try clear qhF); (try clear qhP); clear hb; (try have qhS := fun i => Blk.cell hS i); (try have qhF := fun i => Blk.cell hF i); (try have qhP := fun i => Blk.cell hP i)) | (go_at_call 47; refine (Most_any W H F L X Y PX PY A n cap rows _ hcap hcm hs hR).mono ?_; rintro e w1 ⟨rfl, hb⟩; rw [HMO.out]; (try replace hS := hS.below hb hS.lt); (try replace hF := hF.below hb hF.lt); (try replace hP := hP.below hb hP.lt); (try replace hR := rdB hR hb); replace hB := hB.trans (hb.mono hB.size); (try clear qhS); (try clear qhF); (try clear qhP); clear hb; (try have qhS := fun i => Blk.cell hS i); (try have qhF := fun i => Blk.cell hF i); (try have qhP := fun i => Blk.cell hP i)) | (go_at_call 48; refine (Fades_any W H F L X Y PX PY A n cap rows _ hcap hcm hs hR).mono ?_; rintro e w1 ⟨rfl, hb⟩; rw [HFA.out]; (try replace hS := hS.below hb hS.lt); (try replace hF := hF.below hb hF.lt); (try replace hP := hP.below hb hP.lt); (try replace hR := rdB hR hb); replace hB := hB.trans (hb.mono hB.size); (try clear qhS); (try clear qhF); (try clear qhP); clear hb; (try have qhS := fun i => Blk.cell hS i); (try have qhF := fun i => Blk.cell hF i); (try have qhP := fun i => Blk.cell hP i)) | (go_at_call 30; refine (Counts_any W H F L X Y N PX PY A n cap rows _ hcap hcm hs hR).mono ?_; rintro e w1 ⟨rfl, hb⟩; rw [HCO.out]; (try replace hS := hS.below hb hS.lt); (try replace hF := hF.below hb hF.lt); (try replace hP := hP.below hb hP.lt); (try replace hR := rdB hR hb); replace hB := hB.trans (hb.mono hB.size); (try clear qhS); (try clear qhF); (try clear qhP); clear hb; (try have qhS := fun i => Blk.cell hS i); (try have qhF := fun i => Blk.cell hF i); (try have qhP := fun i => Blk.cell hP i)))
  clear hF qhF HMO HFA HFI HCO hn hcap hcm hs hr hR hsh hst hfg hpl a2 a4
  subst hA
  have hZ3 : ((c35 : Int) == 0) = false := by rw [beq_eq_false_iff_ne]; omega
  have hZ4 : (N == fv) = false := by rw [beq_eq_false_iff_ne]; omega
  clear a1 a3 a5 a6 a7 a8 a9 a10 a11 a12 hwh hw0
  go_upto_region 9 with (fail)
  clear g1 g2 g3 g4 f1 f2 f3 f4 f5 f7
  as_aux_lemma =>
    go_wp2_with (first | (go_at_call 24; refine (known_true m _ (known_at hm hB)).mono ?_; rintro e w1 ⟨rfl, hb⟩; (try replace hS := hS.below hb hS.lt); (try replace hF := hF.below hb hF.lt); (try replace hP := hP.below hb hP.lt); (try replace hR := rdB hR hb); replace hB := hB.trans (hb.mono hB.size); (try clear qhS); (try clear qhF); (try clear qhP); clear hb; (try have qhS := fun i => Blk.cell hS i); (try have qhF := fun i => Blk.cell hF i); (try have qhP := fun i => Blk.cell hP i)))
    go_ret
    exact ⟨rfl, hB⟩
end Go.Proofs.YtifddfchpknkbaaGreatDoor
