import Derived.Test.YtifddfchpknkbaaGreatDoorSf
set_option linter.unusedVariables false
set_option linter.unusedSimpArgs false
namespace Go.Proofs.YtifddfchpknkbaaGreatDoor
open Go.RowKit

set_option maxRecDepth 100000 in
set_option maxHeartbeats 25600000 in
theorem self_x1 (W H F L X Y x y dx dy : Int) (A : Option Addr) (n cap : Nat) (rows : List ByteArray) (m : Int) (w : World) (hm : w.cell? ⟨0, 0, none⟩ = some (.int .i64 m)) (hcap : n ≤ cap) (hcm : cap ≤ maxLen) (hs : ∀ r ∈ rows, r.size ≤ maxLen) (hr : Rd w w.heap.size 1 A n (rows.map Value.string)) (hsh : shortB rows = false) :
    Calls Tryz.prog 5 #[.agg #[.int .i64 W, .int .i64 H, .int .i64 F, .int .i64 L, .int .i64 X, .int .i64 Y], .agg #[.slice A n cap], .int .i64 x, .int .i64 y, .int .i64 dx, .int .i64 dy] w fun e w' => e = .returned (.bool true) ∧ Below w.heap.size w w' := by
  have hn : n ≤ maxLen := Nat.le_trans hcap hcm
  go_enter Tryz.func5, Tryz.ntmps5
  go_upto_region 1 with (fail)
  have hS := blk2_0 w (.cells #[.slice A n cap] 26) 23 #[.int .i64 W, .int .i64 H, .int .i64 F, .int .i64 L, .int .i64 X, .int .i64 Y]
  have hF := blk2_1 w (.cells #[.int .i64 W, .int .i64 H, .int .i64 F, .int .i64 L, .int .i64 X, .int .i64 Y] 23) 26 #[.slice A n cap]
  have hB := pro_2 w (.cells #[.int .i64 W, .int .i64 H, .int .i64 F, .int .i64 L, .int .i64 X, .int .i64 Y] 23) (.cells #[.slice A n cap] 26)
  have hR := rdB hr hB
  generalize (w.alloc (.cells #[.int .i64 W, .int .i64 H, .int .i64 F, .int .i64 L, .int .i64 X, .int .i64 Y] 23)).alloc (.cells #[.slice A n cap] 26) = W0 at *
  have qhS := fun i => Blk.cell hS i
  have qhF := fun i => Blk.cell hF i
  clear hcap hcm hr
  go_wp2_with (first | (go_at_call 23; refine (short_any A n cap rows _ hn hs hR).mono ?_; rintro e w1 ⟨rfl, rfl⟩; rw [hsh]) | (go_at_call 24; refine (known_true m _ (known_at hm hB)).mono ?_; rintro e w1 ⟨rfl, hb⟩; (try replace hS := hS.below hb hS.lt); (try replace hF := hF.below hb hF.lt); (try replace hR := rdB hR hb); (try replace hA := rdB hA hb); (try replace hC := rdB hC hb); replace hB := hB.trans (hb.mono hB.size); (try clear qhS); (try clear qhF); clear hb; (try have qhS := fun i => Blk.cell hS i); (try have qhF := fun i => Blk.cell hF i)))
  go_ret
  exact ⟨rfl, hB⟩
set_option maxRecDepth 100000 in
set_option maxHeartbeats 25600000 in
theorem self_x2 (W H F L X Y x y dx dy : Int) (A : Option Addr) (n cap : Nat) (rows : List ByteArray) (m : Int) (w : World) (hm : w.cell? ⟨0, 0, none⟩ = some (.int .i64 m)) (hcap : n ≤ cap) (hcm : cap ≤ maxLen) (hs : ∀ r ∈ rows, r.size ≤ maxLen) (hr : Rd w w.heap.size 1 A n (rows.map Value.string)) (hsh : shortB rows = true) (hst : stageB W H F L X Y = false) :
    Calls Tryz.prog 5 #[.agg #[.int .i64 W, .int .i64 H, .int .i64 F, .int .i64 L, .int .i64 X, .int .i64 Y], .agg #[.slice A n cap], .int .i64 x, .int .i64 y, .int .i64 dx, .int .i64 dy] w fun e w' => e = .returned (.bool true) ∧ Below w.heap.size w w' := by
  have hn : n ≤ maxLen := Nat.le_trans hcap hcm
  go_enter Tryz.func5, Tryz.ntmps5
  go_upto_region 1 with (fail)
  have hS := blk2_0 w (.cells #[.slice A n cap] 26) 23 #[.int .i64 W, .int .i64 H, .int .i64 F, .int .i64 L, .int .i64 X, .int .i64 Y]
  have hF := blk2_1 w (.cells #[.int .i64 W, .int .i64 H, .int .i64 F, .int .i64 L, .int .i64 X, .int .i64 Y] 23) 26 #[.slice A n cap]
  have hB := pro_2 w (.cells #[.int .i64 W, .int .i64 H, .int .i64 F, .int .i64 L, .int .i64 X, .int .i64 Y] 23) (.cells #[.slice A n cap] 26)
  have hR := rdB hr hB
  generalize (w.alloc (.cells #[.int .i64 W, .int .i64 H, .int .i64 F, .int .i64 L, .int .i64 X, .int .i64 Y] 23)).alloc (.cells #[.slice A n cap] 26) = W0 at *
  have qhS := fun i => Blk.cell hS i
  have qhF := fun i => Blk.cell hF i
  clear hcap hcm hr
  go_wp2_with (first | (go_at_call 23; refine (short_any A n cap rows _ hn hs hR).mono ?_; rintro e w1 ⟨rfl, rfl⟩; rw [hsh]) | (go_at_call 27; refine (Stage_any W H F L X Y _).mono ?_; rintro e w1 ⟨rfl, hb⟩; rw [hst]; (try replace hS := hS.below hb hS.lt); (try replace hF := hF.below hb hF.lt); (try replace hR := rdB hR hb); (try replace hA := rdB hA hb); (try replace hC := rdB hC hb); replace hB := hB.trans (hb.mono hB.size); (try clear qhS); (try clear qhF); clear hb; (try have qhS := fun i => Blk.cell hS i); (try have qhF := fun i => Blk.cell hF i)) | (go_at_call 24; refine (known_true m _ (known_at hm hB)).mono ?_; rintro e w1 ⟨rfl, hb⟩; (try replace hS := hS.below hb hS.lt); (try replace hF := hF.below hb hF.lt); (try replace hR := rdB hR hb); (try replace hA := rdB hA hb); (try replace hC := rdB hC hb); replace hB := hB.trans (hb.mono hB.size); (try clear qhS); (try clear qhF); clear hb; (try have qhS := fun i => Blk.cell hS i); (try have qhF := fun i => Blk.cell hF i)))
  go_ret
  exact ⟨rfl, hB⟩
set_option maxRecDepth 100000 in
set_option maxHeartbeats 25600000 in
theorem self_x3 (W H F L X Y x y dx dy : Int) (A : Option Addr) (n cap : Nat) (rows : List ByteArray) (m : Int) (w : World) (hm : w.cell? ⟨0, 0, none⟩ = some (.int .i64 m)) (hcap : n ≤ cap) (hcm : cap ≤ maxLen) (hs : ∀ r ∈ rows, r.size ≤ maxLen) (hr : Rd w w.heap.size 1 A n (rows.map Value.string)) (hsh : shortB rows = true) (hst : stageB W H F L X Y = true) (hfg : figB rows = false) :
    Calls Tryz.prog 5 #[.agg #[.int .i64 W, .int .i64 H, .int .i64 F, .int .i64 L, .int .i64 X, .int .i64 Y], .agg #[.slice A n cap], .int .i64 x, .int .i64 y, .int .i64 dx, .int .i64 dy] w fun e w' => e = .returned (.bool true) ∧ Below w.heap.size w w' := by
  have hn : n ≤ maxLen := Nat.le_trans hcap hcm
  go_enter Tryz.func5, Tryz.ntmps5
  go_upto_region 1 with (fail)
  have hS := blk2_0 w (.cells #[.slice A n cap] 26) 23 #[.int .i64 W, .int .i64 H, .int .i64 F, .int .i64 L, .int .i64 X, .int .i64 Y]
  have hF := blk2_1 w (.cells #[.int .i64 W, .int .i64 H, .int .i64 F, .int .i64 L, .int .i64 X, .int .i64 Y] 23) 26 #[.slice A n cap]
  have hB := pro_2 w (.cells #[.int .i64 W, .int .i64 H, .int .i64 F, .int .i64 L, .int .i64 X, .int .i64 Y] 23) (.cells #[.slice A n cap] 26)
  have hR := rdB hr hB
  generalize (w.alloc (.cells #[.int .i64 W, .int .i64 H, .int .i64 F, .int .i64 L, .int .i64 X, .int .i64 Y] 23)).alloc (.cells #[.slice A n cap] 26) = W0 at *
  have qhS := fun i => Blk.cell hS i
  have qhF := fun i => Blk.cell hF i
  clear hcap hcm hr
  go_wp2_with (first | (go_at_call 23; refine (short_any A n cap rows _ hn hs hR).mono ?_; rintro e w1 ⟨rfl, rfl⟩; rw [hsh]) | (go_at_call 27; refine (Stage_any W H F L X Y _).mono ?_; rintro e w1 ⟨rfl, hb⟩; rw [hst]; (try replace hS := hS.below hb hS.lt); (try replace hF := hF.below hb hF.lt); (try replace hR := rdB hR hb); (try replace hA := rdB hA hb); (try replace hC := rdB hC hb); replace hB := hB.trans (hb.mono hB.size); (try clear qhS); (try clear qhF); clear hb; (try have qhS := fun i => Blk.cell hS i); (try have qhF := fun i => Blk.cell hF i)) | (go_at_call 28; refine (refFigure_any A n cap rows _ hn hs hR).mono ?_; rintro e w1 ⟨rfl, hb⟩; rw [hfg]; (try replace hS := hS.below hb hS.lt); (try replace hF := hF.below hb hF.lt); (try replace hR := rdB hR hb); (try replace hA := rdB hA hb); (try replace hC := rdB hC hb); replace hB := hB.trans (hb.mono hB.size); (try clear qhS); (try clear qhF); clear hb; (try have qhS := fun i => Blk.cell hS i); (try have qhF := fun i => Blk.cell hF i)) | (go_at_call 24; refine (known_true m _ (known_at hm hB)).mono ?_; rintro e w1 ⟨rfl, hb⟩; (try replace hS := hS.below hb hS.lt); (try replace hF := hF.below hb hF.lt); (try replace hR := rdB hR hb); (try replace hA := rdB hA hb); (try replace hC := rdB hC hb); replace hB := hB.trans (hb.mono hB.size); (try clear qhS); (try clear qhF); clear hb; (try have qhS := fun i => Blk.cell hS i); (try have qhF := fun i => Blk.cell hF i)))
  go_ret
  exact ⟨rfl, hB⟩
set_option maxRecDepth 100000 in
set_option maxHeartbeats 25600000 in
theorem self_x4 (W H F L X Y x y dx dy : Int) (A : Option Addr) (n cap : Nat) (rows : List ByteArray) (m : Int) (w : World) (hm : w.cell? ⟨0, 0, none⟩ = some (.int .i64 m)) (hcap : n ≤ cap) (hcm : cap ≤ maxLen) (hs : ∀ r ∈ rows, r.size ≤ maxLen) (hr : Rd w w.heap.size 1 A n (rows.map Value.string)) (hsh : shortB rows = true) (hst : stageB W H F L X Y = true) (hfg : figB rows = true) (hp1 : (inB x (-20) 20 && inB y (-20) 20) = false) :
    Calls Tryz.prog 5 #[.agg #[.int .i64 W, .int .i64 H, .int .i64 F, .int .i64 L, .int .i64 X, .int .i64 Y], .agg #[.slice A n cap], .int .i64 x, .int .i64 y, .int .i64 dx, .int .i64 dy] w fun e w' => e = .returned (.bool true) ∧ Below w.heap.size w w' := by
  have hn : n ≤ maxLen := Nat.le_trans hcap hcm
  go_enter Tryz.func5, Tryz.ntmps5
  go_upto_region 1 with (fail)
  have hS := blk2_0 w (.cells #[.slice A n cap] 26) 23 #[.int .i64 W, .int .i64 H, .int .i64 F, .int .i64 L, .int .i64 X, .int .i64 Y]
  have hF := blk2_1 w (.cells #[.int .i64 W, .int .i64 H, .int .i64 F, .int .i64 L, .int .i64 X, .int .i64 Y] 23) 26 #[.slice A n cap]
  have hB := pro_2 w (.cells #[.int .i64 W, .int .i64 H, .int .i64 F, .int .i64 L, .int .i64 X, .int .i64 Y] 23) (.cells #[.slice A n cap] 26)
  have hR := rdB hr hB
  generalize (w.alloc (.cells #[.int .i64 W, .int .i64 H, .int .i64 F, .int .i64 L, .int .i64 X, .int .i64 Y] 23)).alloc (.cells #[.slice A n cap] 26) = W0 at *
  have qhS := fun i => Blk.cell hS i
  have qhF := fun i => Blk.cell hF i
  clear hcap hcm hr
  go_wp2_with (first | (go_at_call 37; refine (at_any x y _).mono ?_; rintro e w1 ⟨rfl, rfl⟩; rw [hp1]; have hq1 : (0 : Nat) = 0 := rfl) | (go_at_call 23; refine (short_any A n cap rows _ hn hs hR).mono ?_; rintro e w1 ⟨rfl, rfl⟩; rw [hsh]) | (go_at_call 27; refine (Stage_any W H F L X Y _).mono ?_; rintro e w1 ⟨rfl, hb⟩; rw [hst]; (try replace hS := hS.below hb hS.lt); (try replace hF := hF.below hb hF.lt); (try replace hR := rdB hR hb); (try replace hA := rdB hA hb); (try replace hC := rdB hC hb); replace hB := hB.trans (hb.mono hB.size); (try clear qhS); (try clear qhF); clear hb; (try have qhS := fun i => Blk.cell hS i); (try have qhF := fun i => Blk.cell hF i)) | (go_at_call 28; refine (refFigure_any A n cap rows _ hn hs hR).mono ?_; rintro e w1 ⟨rfl, hb⟩; rw [hfg]; (try replace hS := hS.below hb hS.lt); (try replace hF := hF.below hb hF.lt); (try replace hR := rdB hR hb); (try replace hA := rdB hA hb); (try replace hC := rdB hC hb); replace hB := hB.trans (hb.mono hB.size); (try clear qhS); (try clear qhF); clear hb; (try have qhS := fun i => Blk.cell hS i); (try have qhF := fun i => Blk.cell hF i)) | (go_at_call 24; refine (known_true m _ (known_at hm hB)).mono ?_; rintro e w1 ⟨rfl, hb⟩; (try replace hS := hS.below hb hS.lt); (try replace hF := hF.below hb hF.lt); (try replace hR := rdB hR hb); (try replace hA := rdB hA hb); (try replace hC := rdB hC hb); replace hB := hB.trans (hb.mono hB.size); (try clear qhS); (try clear qhF); clear hb; (try have qhS := fun i => Blk.cell hS i); (try have qhF := fun i => Blk.cell hF i)))
  go_ret
  exact ⟨rfl, hB⟩
set_option maxRecDepth 100000 in
set_option maxHeartbeats 25600000 in
theorem self_x5 (W H F L X Y x y dx dy : Int) (A : Option Addr) (n cap : Nat) (rows : List ByteArray) (m : Int) (w : World) (hm : w.cell? ⟨0, 0, none⟩ = some (.int .i64 m)) (hcap : n ≤ cap) (hcm : cap ≤ maxLen) (hs : ∀ r ∈ rows, r.size ≤ maxLen) (hr : Rd w w.heap.size 1 A n (rows.map Value.string)) (hsh : shortB rows = true) (hst : stageB W H F L X Y = true) (hfg : figB rows = true) (hp1 : (inB x (-20) 20 && inB y (-20) 20) = true) (hp2 : (inB dx (-20) 20 && inB dy (-20) 20) = false) :
    Calls Tryz.prog 5 #[.agg #[.int .i64 W, .int .i64 H, .int .i64 F, .int .i64 L, .int .i64 X, .int .i64 Y], .agg #[.slice A n cap], .int .i64 x, .int .i64 y, .int .i64 dx, .int .i64 dy] w fun e w' => e = .returned (.bool true) ∧ Below w.heap.size w w' := by
  have hn : n ≤ maxLen := Nat.le_trans hcap hcm
  go_enter Tryz.func5, Tryz.ntmps5
  go_upto_region 1 with (fail)
  have hS := blk2_0 w (.cells #[.slice A n cap] 26) 23 #[.int .i64 W, .int .i64 H, .int .i64 F, .int .i64 L, .int .i64 X, .int .i64 Y]
  have hF := blk2_1 w (.cells #[.int .i64 W, .int .i64 H, .int .i64 F, .int .i64 L, .int .i64 X, .int .i64 Y] 23) 26 #[.slice A n cap]
  have hB := pro_2 w (.cells #[.int .i64 W, .int .i64 H, .int .i64 F, .int .i64 L, .int .i64 X, .int .i64 Y] 23) (.cells #[.slice A n cap] 26)
  have hR := rdB hr hB
  generalize (w.alloc (.cells #[.int .i64 W, .int .i64 H, .int .i64 F, .int .i64 L, .int .i64 X, .int .i64 Y] 23)).alloc (.cells #[.slice A n cap] 26) = W0 at *
  have qhS := fun i => Blk.cell hS i
  have qhF := fun i => Blk.cell hF i
  clear hcap hcm hr
  go_wp2_with (first | (go_at_call 37; have hx := hq1; clear hx; refine (at_any dx dy _).mono ?_; rintro e w1 ⟨rfl, rfl⟩; rw [hp2]; clear hq1; have hq2 : (0 : Nat) = 0 := rfl) | (go_at_call 37; refine (at_any x y _).mono ?_; rintro e w1 ⟨rfl, rfl⟩; rw [hp1]; have hq1 : (0 : Nat) = 0 := rfl) | (go_at_call 23; refine (short_any A n cap rows _ hn hs hR).mono ?_; rintro e w1 ⟨rfl, rfl⟩; rw [hsh]) | (go_at_call 27; refine (Stage_any W H F L X Y _).mono ?_; rintro e w1 ⟨rfl, hb⟩; rw [hst]; (try replace hS := hS.below hb hS.lt); (try replace hF := hF.below hb hF.lt); (try replace hR := rdB hR hb); (try replace hA := rdB hA hb); (try replace hC := rdB hC hb); replace hB := hB.trans (hb.mono hB.size); (try clear qhS); (try clear qhF); clear hb; (try have qhS := fun i => Blk.cell hS i); (try have qhF := fun i => Blk.cell hF i)) | (go_at_call 28; refine (refFigure_any A n cap rows _ hn hs hR).mono ?_; rintro e w1 ⟨rfl, hb⟩; rw [hfg]; (try replace hS := hS.below hb hS.lt); (try replace hF := hF.below hb hF.lt); (try replace hR := rdB hR hb); (try replace hA := rdB hA hb); (try replace hC := rdB hC hb); replace hB := hB.trans (hb.mono hB.size); (try clear qhS); (try clear qhF); clear hb; (try have qhS := fun i => Blk.cell hS i); (try have qhF := fun i => Blk.cell hF i)) | (go_at_call 24; refine (known_true m _ (known_at hm hB)).mono ?_; rintro e w1 ⟨rfl, hb⟩; (try replace hS := hS.below hb hS.lt); (try replace hF := hF.below hb hF.lt); (try replace hR := rdB hR hb); (try replace hA := rdB hA hb); (try replace hC := rdB hC hb); replace hB := hB.trans (hb.mono hB.size); (try clear qhS); (try clear qhF); clear hb; (try have qhS := fun i => Blk.cell hS i); (try have qhF := fun i => Blk.cell hF i)))
  go_ret
  exact ⟨rfl, hB⟩
set_option maxRecDepth 100000 in
set_option maxHeartbeats 25600000 in
theorem self_x6 (W H F L X Y x y dx dy : Int) (A : Option Addr) (n cap : Nat) (rows : List ByteArray) (m : Int) (w : World) (hm : w.cell? ⟨0, 0, none⟩ = some (.int .i64 m)) (hcap : n ≤ cap) (hcm : cap ≤ maxLen) (hs : ∀ r ∈ rows, r.size ≤ maxLen) (hr : Rd w w.heap.size 1 A n (rows.map Value.string)) (hsh : shortB rows = true) (hst : stageB W H F L X Y = true) (hfg : figB rows = true) (hp1 : (inB x (-20) 20 && inB y (-20) 20) = true) (hp2 : (inB dx (-20) 20 && inB dy (-20) 20) = true) (hp3 : (inB (x + dx) (-20) 20 && inB (y + dy) (-20) 20) = false) :
    Calls Tryz.prog 5 #[.agg #[.int .i64 W, .int .i64 H, .int .i64 F, .int .i64 L, .int .i64 X, .int .i64 Y], .agg #[.slice A n cap], .int .i64 x, .int .i64 y, .int .i64 dx, .int .i64 dy] w fun e w' => e = .returned (.bool true) ∧ Below w.heap.size w w' := by
  have hn : n ≤ maxLen := Nat.le_trans hcap hcm
  obtain ⟨x1, x2, y1, y2⟩ : -20 ≤ x ∧ x ≤ 20 ∧ -20 ≤ y ∧ y ≤ 20 := by have h := hp1; simp [inB] at h; omega
  obtain ⟨u1, u2, v1, v2⟩ : -20 ≤ dx ∧ dx ≤ 20 ∧ -20 ≤ dy ∧ dy ≤ 20 := by have h := hp2; simp [inB] at h; omega
  have hw1 := i64_ok (x + dx) (by omega)
  have hw2 := i64_ok (y + dy) (by omega)
  clear x1 x2 y1 y2 u1 u2 v1 v2
  go_enter Tryz.func5, Tryz.ntmps5
  go_upto_region 1 with (fail)
  have hS := blk2_0 w (.cells #[.slice A n cap] 26) 23 #[.int .i64 W, .int .i64 H, .int .i64 F, .int .i64 L, .int .i64 X, .int .i64 Y]
  have hF := blk2_1 w (.cells #[.int .i64 W, .int .i64 H, .int .i64 F, .int .i64 L, .int .i64 X, .int .i64 Y] 23) 26 #[.slice A n cap]
  have hB := pro_2 w (.cells #[.int .i64 W, .int .i64 H, .int .i64 F, .int .i64 L, .int .i64 X, .int .i64 Y] 23) (.cells #[.slice A n cap] 26)
  have hR := rdB hr hB
  generalize (w.alloc (.cells #[.int .i64 W, .int .i64 H, .int .i64 F, .int .i64 L, .int .i64 X, .int .i64 Y] 23)).alloc (.cells #[.slice A n cap] 26) = W0 at *
  have qhS := fun i => Blk.cell hS i
  have qhF := fun i => Blk.cell hF i
  clear hcap hcm hr
  go_wp2_with (first | (go_at_call 37; have hx := hq2; clear hx; refine (at_any (x + dx) (y + dy) _).mono ?_; rintro e w1 ⟨rfl, rfl⟩; rw [hp3]) | (go_at_call 37; have hx := hq1; clear hx; refine (at_any dx dy _).mono ?_; rintro e w1 ⟨rfl, rfl⟩; rw [hp2]; clear hq1; have hq2 : (0 : Nat) = 0 := rfl) | (go_at_call 37; refine (at_any x y _).mono ?_; rintro e w1 ⟨rfl, rfl⟩; rw [hp1]; have hq1 : (0 : Nat) = 0 := rfl) | (go_at_call 23; refine (short_any A n cap rows _ hn hs hR).mono ?_; rintro e w1 ⟨rfl, rfl⟩; rw [hsh]) | (go_at_call 27; refine (Stage_any W H F L X Y _).mono ?_; rintro e w1 ⟨rfl, hb⟩; rw [hst]; (try replace hS := hS.below hb hS.lt); (try replace hF := hF.below hb hF.lt); (try replace hR := rdB hR hb); (try replace hA := rdB hA hb); (try replace hC := rdB hC hb); replace hB := hB.trans (hb.mono hB.size); (try clear qhS); (try clear qhF); clear hb; (try have qhS := fun i => Blk.cell hS i); (try have qhF := fun i => Blk.cell hF i)) | (go_at_call 28; refine (refFigure_any A n cap rows _ hn hs hR).mono ?_; rintro e w1 ⟨rfl, hb⟩; rw [hfg]; (try replace hS := hS.below hb hS.lt); (try replace hF := hF.below hb hF.lt); (try replace hR := rdB hR hb); (try replace hA := rdB hA hb); (try replace hC := rdB hC hb); replace hB := hB.trans (hb.mono hB.size); (try clear qhS); (try clear qhF); clear hb; (try have qhS := fun i => Blk.cell hS i); (try have qhF := fun i => Blk.cell hF i)) | (go_at_call 24; refine (known_true m _ (known_at hm hB)).mono ?_; rintro e w1 ⟨rfl, hb⟩; (try replace hS := hS.below hb hS.lt); (try replace hF := hF.below hb hF.lt); (try replace hR := rdB hR hb); (try replace hA := rdB hA hb); (try replace hC := rdB hC hb); replace hB := hB.trans (hb.mono hB.size); (try clear qhS); (try clear qhF); clear hb; (try have qhS := fun i => Blk.cell hS i); (try have qhF := fun i => Blk.cell hF i)))
  go_ret
  exact ⟨rfl, hB⟩
end Go.Proofs.YtifddfchpknkbaaGreatDoor
