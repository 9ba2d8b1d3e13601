import Derived.Test.YtifddfchpknkbaaGreatDoorFitA
import Derived.Test.YtifddfchpknkbaaGreatDoorLc
import Derived.Test.YtifddfchpknkbaaGreatDoorMa
set_option linter.unusedVariables false
set_option linter.unusedSimpArgs false
namespace Go.Proofs.YtifddfchpknkbaaGreatDoor
open Go.RowKit

set_option maxRecDepth 100000 in
set_option maxHeartbeats 25600000 in
theorem fits_x0 (W H F L X Y N PX PY : Int) (A : Option Addr) (n cap : Nat) (rows : List ByteArray) (m : Int) (w : World) (hm : w.cell? ⟨0, 0, none⟩ = some (.int .i64 m)) (hcap : n ≤ cap) (hcm : cap ≤ maxLen) (hs : ∀ r ∈ rows, r.size ≤ maxLen) (hr : Rd w w.heap.size 1 A n (rows.map Value.string)) (hsh : shortB rows = false) :
    Calls Tryz.prog 8 #[.agg #[.int .i64 W, .int .i64 H, .int .i64 F, .int .i64 L, .int .i64 X, .int .i64 Y], .agg #[.slice A n cap], .agg #[.int .i64 N, .int .i64 PX, .int .i64 PY]] w fun e w' => e = .returned (.bool true) ∧ Below w.heap.size w w' := by
  have hn : n ≤ maxLen := Nat.le_trans hcap hcm
  go_enter Tryz.func8, Tryz.ntmps8
  go_upto_region 1 with (fail)
  have hS := blk3_0 w (.cells #[.slice A n cap] 26) (.cells #[.int .i64 N, .int .i64 PX, .int .i64 PY] 28) 23 #[.int .i64 W, .int .i64 H, .int .i64 F, .int .i64 L, .int .i64 X, .int .i64 Y]
  have hF := blk3_1 w (.cells #[.int .i64 W, .int .i64 H, .int .i64 F, .int .i64 L, .int .i64 X, .int .i64 Y] 23) (.cells #[.int .i64 N, .int .i64 PX, .int .i64 PY] 28) 26 #[.slice A n cap]
  have hP := blk3_2 w (.cells #[.int .i64 W, .int .i64 H, .int .i64 F, .int .i64 L, .int .i64 X, .int .i64 Y] 23) (.cells #[.slice A n cap] 26) 28 #[.int .i64 N, .int .i64 PX, .int .i64 PY]
  have hB := pro_3 w (.cells #[.int .i64 W, .int .i64 H, .int .i64 F, .int .i64 L, .int .i64 X, .int .i64 Y] 23) (.cells #[.slice A n cap] 26) (.cells #[.int .i64 N, .int .i64 PX, .int .i64 PY] 28)
  have hR := rdB hr hB
  generalize ((w.alloc (.cells #[.int .i64 W, .int .i64 H, .int .i64 F, .int .i64 L, .int .i64 X, .int .i64 Y] 23)).alloc (.cells #[.slice A n cap] 26)).alloc (.cells #[.int .i64 N, .int .i64 PX, .int .i64 PY] 28) = W0 at *
  have qhS := fun i => Blk.cell hS i
  have qhF := fun i => Blk.cell hF i
  have qhP := fun i => Blk.cell hP i
  clear hcap hcm hr
  go_wp2_with (first | (go_at_call 23; refine (short_any A n cap rows _ hn hs hR).mono ?_; rintro e w1 ⟨rfl, rfl⟩; rw [hsh]) | (go_at_call 24; refine (known_true m _ (known_at hm hB)).mono ?_; rintro e w1 ⟨rfl, hb⟩; (try replace hS := hS.below hb hS.lt); (try replace hF := hF.below hb hF.lt); (try replace hP := hP.below hb hP.lt); (try replace hR := rdB hR hb); replace hB := hB.trans (hb.mono hB.size); (try clear qhS); (try clear qhF); (try clear qhP); clear hb; (try have qhS := fun i => Blk.cell hS i); (try have qhF := fun i => Blk.cell hF i); (try have qhP := fun i => Blk.cell hP i)))
  go_ret
  exact ⟨rfl, hB⟩
set_option maxRecDepth 100000 in
set_option maxHeartbeats 25600000 in
theorem fits_x1 (W H F L X Y N PX PY : Int) (A : Option Addr) (n cap : Nat) (rows : List ByteArray) (m : Int) (w : World) (hm : w.cell? ⟨0, 0, none⟩ = some (.int .i64 m)) (hcap : n ≤ cap) (hcm : cap ≤ maxLen) (hs : ∀ r ∈ rows, r.size ≤ maxLen) (hr : Rd w w.heap.size 1 A n (rows.map Value.string)) (hsh : shortB rows = true) (hst : stageB W H F L X Y = false) (hv : viewB W H F L X Y N PX PY rows = false) (hv0 : viewB W H F L X Y 0 PX PY rows = false) :
    Calls Tryz.prog 8 #[.agg #[.int .i64 W, .int .i64 H, .int .i64 F, .int .i64 L, .int .i64 X, .int .i64 Y], .agg #[.slice A n cap], .agg #[.int .i64 N, .int .i64 PX, .int .i64 PY]] w fun e w' => e = .returned (.bool true) ∧ Below w.heap.size w w' := by
  have hn : n ≤ maxLen := Nat.le_trans hcap hcm
  have HFI := Lib.hid (show fitsR W H F L X Y N PX PY rows = #[.bool false, .int .i64 2] by unfold fitsR; rw [hv]; rfl)
  have HMO := Lib.hid (show mostR W H F L X Y PX PY rows = #[.int .i64 0, .int .i64 2] by unfold mostR; rw [hv0]; rfl)
  have HFA := Lib.hid (show fadesR W H F L X Y PX PY rows = #[.int .i64 0, .int .i64 2] by unfold fadesR; rw [hv0]; rfl)
  clear hv hv0
  go_enter Tryz.func8, Tryz.ntmps8
  go_upto_region 1 with (fail)
  have hS := blk3_0 w (.cells #[.slice A n cap] 26) (.cells #[.int .i64 N, .int .i64 PX, .int .i64 PY] 28) 23 #[.int .i64 W, .int .i64 H, .int .i64 F, .int .i64 L, .int .i64 X, .int .i64 Y]
  have hF := blk3_1 w (.cells #[.int .i64 W, .int .i64 H, .int .i64 F, .int .i64 L, .int .i64 X, .int .i64 Y] 23) (.cells #[.int .i64 N, .int .i64 PX, .int .i64 PY] 28) 26 #[.slice A n cap]
  have hP := blk3_2 w (.cells #[.int .i64 W, .int .i64 H, .int .i64 F, .int .i64 L, .int .i64 X, .int .i64 Y] 23) (.cells #[.slice A n cap] 26) 28 #[.int .i64 N, .int .i64 PX, .int .i64 PY]
  have hB := pro_3 w (.cells #[.int .i64 W, .int .i64 H, .int .i64 F, .int .i64 L, .int .i64 X, .int .i64 Y] 23) (.cells #[.slice A n cap] 26) (.cells #[.int .i64 N, .int .i64 PX, .int .i64 PY] 28)
  have hR := rdB hr hB
  generalize ((w.alloc (.cells #[.int .i64 W, .int .i64 H, .int .i64 F, .int .i64 L, .int .i64 X, .int .i64 Y] 23)).alloc (.cells #[.slice A n cap] 26)).alloc (.cells #[.int .i64 N, .int .i64 PX, .int .i64 PY] 28) = W0 at *
  have qhS := fun i => Blk.cell hS i
  have qhF := fun i => Blk.cell hF i
  have qhP := fun i => Blk.cell hP i
  clear hr
  go_upto_region 6 with (first | (go_at_call 23; refine (short_any A n cap rows _ hn hs hR).mono ?_; rintro e w1 ⟨rfl, rfl⟩; rw [hsh]) | (go_at_call 46; refine (Fits_any W H F L X Y N PX PY A n cap rows _ hcap hcm hs hR).mono ?_; rintro e w1 ⟨rfl, hb⟩; rw [HFI.out]; (try replace hS := hS.below hb hS.lt); (try replace hF := hF.below hb hF.lt); (try replace hP := hP.below hb hP.lt); (try replace hR := rdB hR hb); replace hB := hB.trans (hb.mono hB.size); (try clear qhS); (try clear qhF); (try clear qhP); clear hb; (try have qhS := fun i => Blk.cell hS i); (try have qhF := fun i => Blk.cell hF i); (try have qhP := fun i => Blk.cell hP i)) | (go_at_call 47; refine (Most_any W H F L X Y PX PY A n cap rows _ hcap hcm hs hR).mono ?_; rintro e w1 ⟨rfl, hb⟩; rw [HMO.out]; (try replace hS := hS.below hb hS.lt); (try replace hF := hF.below hb hF.lt); (try replace hP := hP.below hb hP.lt); (try replace hR := rdB hR hb); replace hB := hB.trans (hb.mono hB.size); (try clear qhS); (try clear qhF); (try clear qhP); clear hb; (try have qhS := fun i => Blk.cell hS i); (try have qhF := fun i => Blk.cell hF i); (try have qhP := fun i => Blk.cell hP i)) | (go_at_call 48; refine (Fades_any W H F L X Y PX PY A n cap rows _ hcap hcm hs hR).mono ?_; rintro e w1 ⟨rfl, hb⟩; rw [HFA.out]; (try replace hS := hS.below hb hS.lt); (try replace hF := hF.below hb hF.lt); (try replace hP := hP.below hb hP.lt); (try replace hR := rdB hR hb); replace hB := hB.trans (hb.mono hB.size); (try clear qhS); (try clear qhF); (try clear qhP); clear hb; (try have qhS := fun i => Blk.cell hS i); (try have qhF := fun i => Blk.cell hF i); (try have qhP := fun i => Blk.cell hP i)))
  clear HFI HMO HFA hcap hcm
  go_wp2_with (first | (go_at_call 27; refine (Stage_any W H F L X Y _).mono ?_; rintro e w1 ⟨rfl, hb⟩; rw [hst]; (try replace hS := hS.below hb hS.lt); (try replace hF := hF.below hb hF.lt); (try replace hP := hP.below hb hP.lt); (try replace hR := rdB hR hb); replace hB := hB.trans (hb.mono hB.size); (try clear qhS); (try clear qhF); (try clear qhP); clear hb; (try have qhS := fun i => Blk.cell hS i); (try have qhF := fun i => Blk.cell hF i); (try have qhP := fun i => Blk.cell hP i)) | (go_at_call 24; refine (known_true m _ (known_at hm hB)).mono ?_; rintro e w1 ⟨rfl, hb⟩; (try replace hS := hS.below hb hS.lt); (try replace hF := hF.below hb hF.lt); (try replace hP := hP.below hb hP.lt); (try replace hR := rdB hR hb); replace hB := hB.trans (hb.mono hB.size); (try clear qhS); (try clear qhF); (try clear qhP); clear hb; (try have qhS := fun i => Blk.cell hS i); (try have qhF := fun i => Blk.cell hF i); (try have qhP := fun i => Blk.cell hP i)))
  go_ret
  exact ⟨rfl, hB⟩
set_option maxRecDepth 100000 in
set_option maxHeartbeats 25600000 in
theorem fits_x2 (W H F L X Y N PX PY : Int) (A : Option Addr) (n cap : Nat) (rows : List ByteArray) (m : Int) (w : World) (hm : w.cell? ⟨0, 0, none⟩ = some (.int .i64 m)) (hcap : n ≤ cap) (hcm : cap ≤ maxLen) (hs : ∀ r ∈ rows, r.size ≤ maxLen) (hr : Rd w w.heap.size 1 A n (rows.map Value.string)) (hsh : shortB rows = true) (hst : stageB W H F L X Y = true) (hfg : figB rows = false) (hv : viewB W H F L X Y N PX PY rows = false) (hv0 : viewB W H F L X Y 0 PX PY rows = false) :
    Calls Tryz.prog 8 #[.agg #[.int .i64 W, .int .i64 H, .int .i64 F, .int .i64 L, .int .i64 X, .int .i64 Y], .agg #[.slice A n cap], .agg #[.int .i64 N, .int .i64 PX, .int .i64 PY]] w fun e w' => e = .returned (.bool true) ∧ Below w.heap.size w w' := by
  have hn : n ≤ maxLen := Nat.le_trans hcap hcm
  have HFI := Lib.hid (show fitsR W H F L X Y N PX PY rows = #[.bool false, .int .i64 2] by unfold fitsR; rw [hv]; rfl)
  have HMO := Lib.hid (show mostR W H F L X Y PX PY rows = #[.int .i64 0, .int .i64 2] by unfold mostR; rw [hv0]; rfl)
  have HFA := Lib.hid (show fadesR W H F L X Y PX PY rows = #[.int .i64 0, .int .i64 2] by unfold fadesR; rw [hv0]; rfl)
  clear hv hv0
  go_enter Tryz.func8, Tryz.ntmps8
  go_upto_region 1 with (fail)
  have hS := blk3_0 w (.cells #[.slice A n cap] 26) (.cells #[.int .i64 N, .int .i64 PX, .int .i64 PY] 28) 23 #[.int .i64 W, .int .i64 H, .int .i64 F, .int .i64 L, .int .i64 X, .int .i64 Y]
  have hF := blk3_1 w (.cells #[.int .i64 W, .int .i64 H, .int .i64 F, .int .i64 L, .int .i64 X, .int .i64 Y] 23) (.cells #[.int .i64 N, .int .i64 PX, .int .i64 PY] 28) 26 #[.slice A n cap]
  have hP := blk3_2 w (.cells #[.int .i64 W, .int .i64 H, .int .i64 F, .int .i64 L, .int .i64 X, .int .i64 Y] 23) (.cells #[.slice A n cap] 26) 28 #[.int .i64 N, .int .i64 PX, .int .i64 PY]
  have hB := pro_3 w (.cells #[.int .i64 W, .int .i64 H, .int .i64 F, .int .i64 L, .int .i64 X, .int .i64 Y] 23) (.cells #[.slice A n cap] 26) (.cells #[.int .i64 N, .int .i64 PX, .int .i64 PY] 28)
  have hR := rdB hr hB
  generalize ((w.alloc (.cells #[.int .i64 W, .int .i64 H, .int .i64 F, .int .i64 L, .int .i64 X, .int .i64 Y] 23)).alloc (.cells #[.slice A n cap] 26)).alloc (.cells #[.int .i64 N, .int .i64 PX, .int .i64 PY] 28) = W0 at *
  have qhS := fun i => Blk.cell hS i
  have qhF := fun i => Blk.cell hF i
  have qhP := fun i => Blk.cell hP i
  clear hr
  go_upto_region 6 with (first | (go_at_call 23; refine (short_any A n cap rows _ hn hs hR).mono ?_; rintro e w1 ⟨rfl, rfl⟩; rw [hsh]) | (go_at_call 46; refine (Fits_any W H F L X Y N PX PY A n cap rows _ hcap hcm hs hR).mono ?_; rintro e w1 ⟨rfl, hb⟩; rw [HFI.out]; (try replace hS := hS.below hb hS.lt); (try replace hF := hF.below hb hF.lt); (try replace hP := hP.below hb hP.lt); (try replace hR := rdB hR hb); replace hB := hB.trans (hb.mono hB.size); (try clear qhS); (try clear qhF); (try clear qhP); clear hb; (try have qhS := fun i => Blk.cell hS i); (try have qhF := fun i => Blk.cell hF i); (try have qhP := fun i => Blk.cell hP i)) | (go_at_call 47; refine (Most_any W H F L X Y PX PY A n cap rows _ hcap hcm hs hR).mono ?_; rintro e w1 ⟨rfl, hb⟩; rw [HMO.out]; (try replace hS := hS.below hb hS.lt); (try replace hF := hF.below hb hF.lt); (try replace hP := hP.below hb hP.lt); (try replace hR := rdB hR hb); replace hB := hB.trans (hb.mono hB.size); (try clear qhS); (try clear qhF); (try clear qhP); clear hb; (try have qhS := fun i => Blk.cell hS i); (try have qhF := fun i => Blk.cell hF i); (try have qhP := fun i => Blk.cell hP i)) | (go_at_call 48; refine (Fades_any W H F L X Y PX PY A n cap rows _ hcap hcm hs hR).mono ?_; rintro e w1 ⟨rfl, hb⟩; rw [HFA.out]; (try replace hS := hS.below hb hS.lt); (try replace hF := hF.below hb hF.lt); (try replace hP := hP.below hb hP.lt); (try replace hR := rdB hR hb); replace hB := hB.trans (hb.mono hB.size); (try clear qhS); (try clear qhF); (try clear qhP); clear hb; (try have qhS := fun i => Blk.cell hS i); (try have qhF := fun i => Blk.cell hF i); (try have qhP := fun i => Blk.cell hP i)))
  clear HFI HMO HFA hcap hcm
  go_wp2_with (first | (go_at_call 27; refine (Stage_any W H F L X Y _).mono ?_; rintro e w1 ⟨rfl, hb⟩; rw [hst]; (try replace hS := hS.below hb hS.lt); (try replace hF := hF.below hb hF.lt); (try replace hP := hP.below hb hP.lt); (try replace hR := rdB hR hb); replace hB := hB.trans (hb.mono hB.size); (try clear qhS); (try clear qhF); (try clear qhP); clear hb; (try have qhS := fun i => Blk.cell hS i); (try have qhF := fun i => Blk.cell hF i); (try have qhP := fun i => Blk.cell hP i)) | (go_at_call 28; refine (refFigure_any A n cap rows _ hn hs hR).mono ?_; rintro e w1 ⟨rfl, hb⟩; rw [hfg]; (try replace hS := hS.below hb hS.lt); (try replace hF := hF.below hb hF.lt); (try replace hP := hP.below hb hP.lt); (try replace hR := rdB hR hb); replace hB := hB.trans (hb.mono hB.size); (try clear qhS); (try clear qhF); (try clear qhP); clear hb; (try have qhS := fun i => Blk.cell hS i); (try have qhF := fun i => Blk.cell hF i); (try have qhP := fun i => Blk.cell hP i)) | (go_at_call 24; refine (known_true m _ (known_at hm hB)).mono ?_; rintro e w1 ⟨rfl, hb⟩; (try replace hS := hS.below hb hS.lt); (try replace hF := hF.below hb hF.lt); (try replace hP := hP.below hb hP.lt); (try replace hR := rdB hR hb); replace hB := hB.trans (hb.mono hB.size); (try clear qhS); (try clear qhF); (try clear qhP); clear hb; (try have qhS := fun i => Blk.cell hS i); (try have qhF := fun i => Blk.cell hF i); (try have qhP := fun i => Blk.cell hP i)))
  go_ret
  exact ⟨rfl, hB⟩
set_option maxRecDepth 100000 in
set_option maxHeartbeats 25600000 in
theorem fits_x3 (W H F L X Y N PX PY : Int) (A : Option Addr) (n cap : Nat) (rows : List ByteArray) (m : Int) (w : World) (hm : w.cell? ⟨0, 0, none⟩ = some (.int .i64 m)) (hcap : n ≤ cap) (hcm : cap ≤ maxLen) (hs : ∀ r ∈ rows, r.size ≤ maxLen) (hr : Rd w w.heap.size 1 A n (rows.map Value.string)) (hsh : shortB rows = true) (hst : stageB W H F L X Y = true) (hfg : figB rows = true) (hat : (inB PX (-20) 20 && inB PY (-20) 20) = false) (hv : viewB W H F L X Y N PX PY rows = false) (hv0 : viewB W H F L X Y 0 PX PY rows = false) :
    Calls Tryz.prog 8 #[.agg #[.int .i64 W, .int .i64 H, .int .i64 F, .int .i64 L, .int .i64 X, .int .i64 Y], .agg #[.slice A n cap], .agg #[.int .i64 N, .int .i64 PX, .int .i64 PY]] w fun e w' => e = .returned (.bool true) ∧ Below w.heap.size w w' := by
  have hn : n ≤ maxLen := Nat.le_trans hcap hcm
  have HFI := Lib.hid (show fitsR W H F L X Y N PX PY rows = #[.bool false, .int .i64 2] by unfold fitsR; rw [hv]; rfl)
  have HMO := Lib.hid (show mostR W H F L X Y PX PY rows = #[.int .i64 0, .int .i64 2] by unfold mostR; rw [hv0]; rfl)
  have HFA := Lib.hid (show fadesR W H F L X Y PX PY rows = #[.int .i64 0, .int .i64 2] by unfold fadesR; rw [hv0]; rfl)
  clear hv hv0
  go_enter Tryz.func8, Tryz.ntmps8
  go_upto_region 1 with (fail)
  have hS := blk3_0 w (.cells #[.slice A n cap] 26) (.cells #[.int .i64 N, .int .i64 PX, .int .i64 PY] 28) 23 #[.int .i64 W, .int .i64 H, .int .i64 F, .int .i64 L, .int .i64 X, .int .i64 Y]
  have hF := blk3_1 w (.cells #[.int .i64 W, .int .i64 H, .int .i64 F, .int .i64 L, .int .i64 X, .int .i64 Y] 23) (.cells #[.int .i64 N, .int .i64 PX, .int .i64 PY] 28) 26 #[.slice A n cap]
  have hP := blk3_2 w (.cells #[.int .i64 W, .int .i64 H, .int .i64 F, .int .i64 L, .int .i64 X, .int .i64 Y] 23) (.cells #[.slice A n cap] 26) 28 #[.int .i64 N, .int .i64 PX, .int .i64 PY]
  have hB := pro_3 w (.cells #[.int .i64 W, .int .i64 H, .int .i64 F, .int .i64 L, .int .i64 X, .int .i64 Y] 23) (.cells #[.slice A n cap] 26) (.cells #[.int .i64 N, .int .i64 PX, .int .i64 PY] 28)
  have hR := rdB hr hB
  generalize ((w.alloc (.cells #[.int .i64 W, .int .i64 H, .int .i64 F, .int .i64 L, .int .i64 X, .int .i64 Y] 23)).alloc (.cells #[.slice A n cap] 26)).alloc (.cells #[.int .i64 N, .int .i64 PX, .int .i64 PY] 28) = W0 at *
  have qhS := fun i => Blk.cell hS i
  have qhF := fun i => Blk.cell hF i
  have qhP := fun i => Blk.cell hP i
  clear hr
  go_upto_region 6 with (first | (go_at_call 23; refine (short_any A n cap rows _ hn hs hR).mono ?_; rintro e w1 ⟨rfl, rfl⟩; rw [hsh]) | (go_at_call 46; refine (Fits_any W H F L X Y N PX PY A n cap rows _ hcap hcm hs hR).mono ?_; rintro e w1 ⟨rfl, hb⟩; rw [HFI.out]; (try replace hS := hS.below hb hS.lt); (try replace hF := hF.below hb hF.lt); (try replace hP := hP.below hb hP.lt); (try replace hR := rdB hR hb); replace hB := hB.trans (hb.mono hB.size); (try clear qhS); (try clear qhF); (try clear qhP); clear hb; (try have qhS := fun i => Blk.cell hS i); (try have qhF := fun i => Blk.cell hF i); (try have qhP := fun i => Blk.cell hP i)) | (go_at_call 47; refine (Most_any W H F L X Y PX PY A n cap rows _ hcap hcm hs hR).mono ?_; rintro e w1 ⟨rfl, hb⟩; rw [HMO.out]; (try replace hS := hS.below hb hS.lt); (try replace hF := hF.below hb hF.lt); (try replace hP := hP.below hb hP.lt); (try replace hR := rdB hR hb); replace hB := hB.trans (hb.mono hB.size); (try clear qhS); (try clear qhF); (try clear qhP); clear hb; (try have qhS := fun i => Blk.cell hS i); (try have qhF := fun i => Blk.cell hF i); (try have qhP := fun i => Blk.cell hP i)) | (go_at_call 48; refine (Fades_any W H F L X Y PX PY A n cap rows _ hcap hcm hs hR).mono ?_; rintro e w1 ⟨rfl, hb⟩; rw [HFA.out]; (try replace hS := hS.below hb hS.lt); (try replace hF := hF.below hb hF.lt); (try replace hP := hP.below hb hP.lt); (try replace hR := rdB hR hb); replace hB := hB.trans (hb.mono hB.size); (try clear qhS); (try clear qhF); (try clear qhP); clear hb; (try have qhS := fun i => Blk.cell hS i); (try have qhF := fun i => Blk.cell hF i); (try have qhP := fun i => Blk.cell hP i)))
  clear HFI HMO HFA hcap hcm
  go_wp2_with (first | (go_at_call 27; refine (Stage_any W H F L X Y _).mono ?_; rintro e w1 ⟨rfl, hb⟩; rw [hst]; (try replace hS := hS.below hb hS.lt); (try replace hF := hF.below hb hF.lt); (try replace hP := hP.below hb hP.lt); (try replace hR := rdB hR hb); replace hB := hB.trans (hb.mono hB.size); (try clear qhS); (try clear qhF); (try clear qhP); clear hb; (try have qhS := fun i => Blk.cell hS i); (try have qhF := fun i => Blk.cell hF i); (try have qhP := fun i => Blk.cell hP i)) | (go_at_call 28; refine (refFigure_any A n cap rows _ hn hs hR).mono ?_; rintro e w1 ⟨rfl, hb⟩; rw [hfg]; (try replace hS := hS.below hb hS.lt); (try replace hF := hF.below hb hF.lt); (try replace hP := hP.below hb hP.lt); (try replace hR := rdB hR hb); replace hB := hB.trans (hb.mono hB.size); (try clear qhS); (try clear qhF); (try clear qhP); clear hb; (try have qhS := fun i => Blk.cell hS i); (try have qhF := fun i => Blk.cell hF i); (try have qhP := fun i => Blk.cell hP i)) | (go_at_call 37; refine (at_any PX PY _).mono ?_; rintro e w1 ⟨rfl, rfl⟩; rw [hat]) | (go_at_call 24; refine (known_true m _ (known_at hm hB)).mono ?_; rintro e w1 ⟨rfl, hb⟩; (try replace hS := hS.below hb hS.lt); (try replace hF := hF.below hb hF.lt); (try replace hP := hP.below hb hP.lt); (try replace hR := rdB hR hb); replace hB := hB.trans (hb.mono hB.size); (try clear qhS); (try clear qhF); (try clear qhP); clear hb; (try have qhS := fun i => Blk.cell hS i); (try have qhF := fun i => Blk.cell hF i); (try have qhP := fun i => Blk.cell hP i)))
  go_ret
  exact ⟨rfl, hB⟩
end Go.Proofs.YtifddfchpknkbaaGreatDoor
