import Derived.Test.YtifddfchpknkbaaGreatDoorFm
import Derived.Test.YtifddfchpknkbaaGreatDoorOc
import Derived.Test.YtifddfchpknkbaaGreatDoorLc
set_option linter.unusedVariables false
set_option linter.unusedSimpArgs false
namespace Go.Proofs.YtifddfchpknkbaaGreatDoor
open Go.RowKit

set_option maxRecDepth 100000 in
set_option maxHeartbeats 25600000 in
theorem flames_x1 (W H F L X Y N PX PY N2 PX2 PY2 more : Int) (A : Option Addr) (n cap : Nat) (rows : List ByteArray) (A2 : Option Addr) (n2 cap2 : Nat) (rows2 : List ByteArray) (m : Int) (w : World) (hm : w.cell? ⟨0, 0, none⟩ = some (.int .i64 m)) (hcap : n ≤ cap) (hcm : cap ≤ maxLen) (hs : ∀ r ∈ rows, r.size ≤ maxLen) (hr : Rd w w.heap.size 1 A n (rows.map Value.string)) (hcap2 : n2 ≤ cap2) (hcm2 : cap2 ≤ maxLen) (hs2 : ∀ r ∈ rows2, r.size ≤ maxLen) (hr2 : Rd w w.heap.size 1 A2 n2 (rows2.map Value.string)) (hsh : shortB rows = false) :
    Calls Tryz.prog 18 #[.agg #[.int .i64 W, .int .i64 H, .int .i64 F, .int .i64 L, .int .i64 X, .int .i64 Y], .agg #[.slice A n cap], .agg #[.int .i64 N, .int .i64 PX, .int .i64 PY], .agg #[.slice A2 n2 cap2], .agg #[.int .i64 N2, .int .i64 PX2, .int .i64 PY2], .int .i64 more] w fun e w' => e = .returned (.bool true) ∧ Below w.heap.size w w' := by
  have hn : n ≤ maxLen := Nat.le_trans hcap hcm
  have hn2 : n2 ≤ maxLen := Nat.le_trans hcap2 hcm2
  go_enter Tryz.func18, Tryz.ntmps18
  go_upto_region 1 with (fail)
  have hS := blk5_0 w (.cells #[.slice A n cap] 26) (.cells #[.int .i64 N, .int .i64 PX, .int .i64 PY] 28) (.cells #[.slice A2 n2 cap2] 26) (.cells #[.int .i64 N2, .int .i64 PX2, .int .i64 PY2] 28) 23 #[.int .i64 W, .int .i64 H, .int .i64 F, .int .i64 L, .int .i64 X, .int .i64 Y]
  have hF := blk5_1 w (.cells #[.int .i64 W, .int .i64 H, .int .i64 F, .int .i64 L, .int .i64 X, .int .i64 Y] 23) (.cells #[.int .i64 N, .int .i64 PX, .int .i64 PY] 28) (.cells #[.slice A2 n2 cap2] 26) (.cells #[.int .i64 N2, .int .i64 PX2, .int .i64 PY2] 28) 26 #[.slice A n cap]
  have hP := blk5_2 w (.cells #[.int .i64 W, .int .i64 H, .int .i64 F, .int .i64 L, .int .i64 X, .int .i64 Y] 23) (.cells #[.slice A n cap] 26) (.cells #[.slice A2 n2 cap2] 26) (.cells #[.int .i64 N2, .int .i64 PX2, .int .i64 PY2] 28) 28 #[.int .i64 N, .int .i64 PX, .int .i64 PY]
  have hG := blk5_3 w (.cells #[.int .i64 W, .int .i64 H, .int .i64 F, .int .i64 L, .int .i64 X, .int .i64 Y] 23) (.cells #[.slice A n cap] 26) (.cells #[.int .i64 N, .int .i64 PX, .int .i64 PY] 28) (.cells #[.int .i64 N2, .int .i64 PX2, .int .i64 PY2] 28) 26 #[.slice A2 n2 cap2]
  have hQ := blk5_4 w (.cells #[.int .i64 W, .int .i64 H, .int .i64 F, .int .i64 L, .int .i64 X, .int .i64 Y] 23) (.cells #[.slice A n cap] 26) (.cells #[.int .i64 N, .int .i64 PX, .int .i64 PY] 28) (.cells #[.slice A2 n2 cap2] 26) 28 #[.int .i64 N2, .int .i64 PX2, .int .i64 PY2]
  have hB := pro_5 w (.cells #[.int .i64 W, .int .i64 H, .int .i64 F, .int .i64 L, .int .i64 X, .int .i64 Y] 23) (.cells #[.slice A n cap] 26) (.cells #[.int .i64 N, .int .i64 PX, .int .i64 PY] 28) (.cells #[.slice A2 n2 cap2] 26) (.cells #[.int .i64 N2, .int .i64 PX2, .int .i64 PY2] 28)
  have hR := rdB hr hB
  have hR2 := rdB hr2 hB
  generalize ((((w.alloc (.cells #[.int .i64 W, .int .i64 H, .int .i64 F, .int .i64 L, .int .i64 X, .int .i64 Y] 23)).alloc (.cells #[.slice A n cap] 26)).alloc (.cells #[.int .i64 N, .int .i64 PX, .int .i64 PY] 28)).alloc (.cells #[.slice A2 n2 cap2] 26)).alloc (.cells #[.int .i64 N2, .int .i64 PX2, .int .i64 PY2] 28) = W0 at *
  have qhS := fun i => Blk.cell hS i
  have qhF := fun i => Blk.cell hF i
  have qhP := fun i => Blk.cell hP i
  have qhG := fun i => Blk.cell hG i
  have qhQ := fun i => Blk.cell hQ i
  clear hcap hcm hcap2 hcm2 hr hr2
  go_wp2_with (first | (go_at_call 23; refine (short_any A n cap rows _ hn hs hR).mono ?_; rintro e w1 ⟨rfl, rfl⟩; rw [hsh]; have hdone : (0 : Nat) = 0 := rfl) | (go_at_call 24; refine (known_true m _ (known_at hm hB)).mono ?_; rintro e w1 ⟨rfl, hb⟩; (try replace hS := hS.below hb hS.lt); (try replace hF := hF.below hb hF.lt); (try replace hP := hP.below hb hP.lt); (try replace hG := hG.below hb hG.lt); (try replace hQ := hQ.below hb hQ.lt); (try replace hT := hT.below hb hT.lt); (try replace hR := rdB hR hb); (try replace hR2 := rdB hR2 hb); (try replace hA := rdB hA hb); (try replace hC := rdB hC hb); replace hB := hB.trans (hb.mono hB.size); (try clear qhS); (try clear qhF); (try clear qhP); (try clear qhG); (try clear qhQ); (try clear qhT); clear hb; (try have qhS := fun i => Blk.cell hS i); (try have qhF := fun i => Blk.cell hF i); (try have qhP := fun i => Blk.cell hP i); (try have qhG := fun i => Blk.cell hG i); (try have qhQ := fun i => Blk.cell hQ i); (try have qhT := fun i => Blk.cell hT i)))
  go_ret
  exact ⟨rfl, hB⟩
set_option maxRecDepth 100000 in
set_option maxHeartbeats 25600000 in
theorem flames_x2 (W H F L X Y N PX PY N2 PX2 PY2 more : Int) (A : Option Addr) (n cap : Nat) (rows : List ByteArray) (A2 : Option Addr) (n2 cap2 : Nat) (rows2 : List ByteArray) (m : Int) (w : World) (hm : w.cell? ⟨0, 0, none⟩ = some (.int .i64 m)) (hcap : n ≤ cap) (hcm : cap ≤ maxLen) (hs : ∀ r ∈ rows, r.size ≤ maxLen) (hr : Rd w w.heap.size 1 A n (rows.map Value.string)) (hcap2 : n2 ≤ cap2) (hcm2 : cap2 ≤ maxLen) (hs2 : ∀ r ∈ rows2, r.size ≤ maxLen) (hr2 : Rd w w.heap.size 1 A2 n2 (rows2.map Value.string)) (hsh : shortB rows = true) (hsh2 : shortB rows2 = false) :
    Calls Tryz.prog 18 #[.agg #[.int .i64 W, .int .i64 H, .int .i64 F, .int .i64 L, .int .i64 X, .int .i64 Y], .agg #[.slice A n cap], .agg #[.int .i64 N, .int .i64 PX, .int .i64 PY], .agg #[.slice A2 n2 cap2], .agg #[.int .i64 N2, .int .i64 PX2, .int .i64 PY2], .int .i64 more] w fun e w' => e = .returned (.bool true) ∧ Below w.heap.size w w' := by
  have hn : n ≤ maxLen := Nat.le_trans hcap hcm
  have hn2 : n2 ≤ maxLen := Nat.le_trans hcap2 hcm2
  go_enter Tryz.func18, Tryz.ntmps18
  go_upto_region 1 with (fail)
  have hS := blk5_0 w (.cells #[.slice A n cap] 26) (.cells #[.int .i64 N, .int .i64 PX, .int .i64 PY] 28) (.cells #[.slice A2 n2 cap2] 26) (.cells #[.int .i64 N2, .int .i64 PX2, .int .i64 PY2] 28) 23 #[.int .i64 W, .int .i64 H, .int .i64 F, .int .i64 L, .int .i64 X, .int .i64 Y]
  have hF := blk5_1 w (.cells #[.int .i64 W, .int .i64 H, .int .i64 F, .int .i64 L, .int .i64 X, .int .i64 Y] 23) (.cells #[.int .i64 N, .int .i64 PX, .int .i64 PY] 28) (.cells #[.slice A2 n2 cap2] 26) (.cells #[.int .i64 N2, .int .i64 PX2, .int .i64 PY2] 28) 26 #[.slice A n cap]
  have hP := blk5_2 w (.cells #[.int .i64 W, .int .i64 H, .int .i64 F, .int .i64 L, .int .i64 X, .int .i64 Y] 23) (.cells #[.slice A n cap] 26) (.cells #[.slice A2 n2 cap2] 26) (.cells #[.int .i64 N2, .int .i64 PX2, .int .i64 PY2] 28) 28 #[.int .i64 N, .int .i64 PX, .int .i64 PY]
  have hG := blk5_3 w (.cells #[.int .i64 W, .int .i64 H, .int .i64 F, .int .i64 L, .int .i64 X, .int .i64 Y] 23) (.cells #[.slice A n cap] 26) (.cells #[.int .i64 N, .int .i64 PX, .int .i64 PY] 28) (.cells #[.int .i64 N2, .int .i64 PX2, .int .i64 PY2] 28) 26 #[.slice A2 n2 cap2]
  have hQ := blk5_4 w (.cells #[.int .i64 W, .int .i64 H, .int .i64 F, .int .i64 L, .int .i64 X, .int .i64 Y] 23) (.cells #[.slice A n cap] 26) (.cells #[.int .i64 N, .int .i64 PX, .int .i64 PY] 28) (.cells #[.slice A2 n2 cap2] 26) 28 #[.int .i64 N2, .int .i64 PX2, .int .i64 PY2]
  have hB := pro_5 w (.cells #[.int .i64 W, .int .i64 H, .int .i64 F, .int .i64 L, .int .i64 X, .int .i64 Y] 23) (.cells #[.slice A n cap] 26) (.cells #[.int .i64 N, .int .i64 PX, .int .i64 PY] 28) (.cells #[.slice A2 n2 cap2] 26) (.cells #[.int .i64 N2, .int .i64 PX2, .int .i64 PY2] 28)
  have hR := rdB hr hB
  have hR2 := rdB hr2 hB
  generalize ((((w.alloc (.cells #[.int .i64 W, .int .i64 H, .int .i64 F, .int .i64 L, .int .i64 X, .int .i64 Y] 23)).alloc (.cells #[.slice A n cap] 26)).alloc (.cells #[.int .i64 N, .int .i64 PX, .int .i64 PY] 28)).alloc (.cells #[.slice A2 n2 cap2] 26)).alloc (.cells #[.int .i64 N2, .int .i64 PX2, .int .i64 PY2] 28) = W0 at *
  have qhS := fun i => Blk.cell hS i
  have qhF := fun i => Blk.cell hF i
  have qhP := fun i => Blk.cell hP i
  have qhG := fun i => Blk.cell hG i
  have qhQ := fun i => Blk.cell hQ i
  clear hcap hcm hcap2 hcm2 hr hr2
  go_wp2_with (first | (go_at_call 23; have hx := hdone; clear hx; refine (short_any A2 n2 cap2 rows2 _ hn2 hs2 hR2).mono ?_; rintro e w1 ⟨rfl, rfl⟩; rw [hsh2]) | (go_at_call 23; refine (short_any A n cap rows _ hn hs hR).mono ?_; rintro e w1 ⟨rfl, rfl⟩; rw [hsh]; have hdone : (0 : Nat) = 0 := rfl) | (go_at_call 24; refine (known_true m _ (known_at hm hB)).mono ?_; rintro e w1 ⟨rfl, hb⟩; (try replace hS := hS.below hb hS.lt); (try replace hF := hF.below hb hF.lt); (try replace hP := hP.below hb hP.lt); (try replace hG := hG.below hb hG.lt); (try replace hQ := hQ.below hb hQ.lt); (try replace hT := hT.below hb hT.lt); (try replace hR := rdB hR hb); (try replace hR2 := rdB hR2 hb); (try replace hA := rdB hA hb); (try replace hC := rdB hC hb); replace hB := hB.trans (hb.mono hB.size); (try clear qhS); (try clear qhF); (try clear qhP); (try clear qhG); (try clear qhQ); (try clear qhT); clear hb; (try have qhS := fun i => Blk.cell hS i); (try have qhF := fun i => Blk.cell hF i); (try have qhP := fun i => Blk.cell hP i); (try have qhG := fun i => Blk.cell hG i); (try have qhQ := fun i => Blk.cell hQ i); (try have qhT := fun i => Blk.cell hT i)))
  go_ret
  exact ⟨rfl, hB⟩
set_option maxRecDepth 100000 in
set_option maxHeartbeats 25600000 in
theorem flames_x3 (W H F L X Y N PX PY N2 PX2 PY2 more : Int) (A : Option Addr) (n cap : Nat) (rows : List ByteArray) (A2 : Option Addr) (n2 cap2 : Nat) (rows2 : List ByteArray) (m : Int) (w : World) (hm : w.cell? ⟨0, 0, none⟩ = some (.int .i64 m)) (hcap : n ≤ cap) (hcm : cap ≤ maxLen) (hs : ∀ r ∈ rows, r.size ≤ maxLen) (hr : Rd w w.heap.size 1 A n (rows.map Value.string)) (hcap2 : n2 ≤ cap2) (hcm2 : cap2 ≤ maxLen) (hs2 : ∀ r ∈ rows2, r.size ≤ maxLen) (hr2 : Rd w w.heap.size 1 A2 n2 (rows2.map Value.string)) (hsh : shortB rows = true) (hsh2 : shortB rows2 = true) (hst : stageB W H F L X Y = false) :
    Calls Tryz.prog 18 #[.agg #[.int .i64 W, .int .i64 H, .int .i64 F, .int .i64 L, .int .i64 X, .int .i64 Y], .agg #[.slice A n cap], .agg #[.int .i64 N, .int .i64 PX, .int .i64 PY], .agg #[.slice A2 n2 cap2], .agg #[.int .i64 N2, .int .i64 PX2, .int .i64 PY2], .int .i64 more] w fun e w' => e = .returned (.bool true) ∧ Below w.heap.size w w' := by
  have hn : n ≤ maxLen := Nat.le_trans hcap hcm
  have hn2 : n2 ≤ maxLen := Nat.le_trans hcap2 hcm2
  go_enter Tryz.func18, Tryz.ntmps18
  go_upto_region 1 with (fail)
  have hS := blk5_0 w (.cells #[.slice A n cap] 26) (.cells #[.int .i64 N, .int .i64 PX, .int .i64 PY] 28) (.cells #[.slice A2 n2 cap2] 26) (.cells #[.int .i64 N2, .int .i64 PX2, .int .i64 PY2] 28) 23 #[.int .i64 W, .int .i64 H, .int .i64 F, .int .i64 L, .int .i64 X, .int .i64 Y]
  have hF := blk5_1 w (.cells #[.int .i64 W, .int .i64 H, .int .i64 F, .int .i64 L, .int .i64 X, .int .i64 Y] 23) (.cells #[.int .i64 N, .int .i64 PX, .int .i64 PY] 28) (.cells #[.slice A2 n2 cap2] 26) (.cells #[.int .i64 N2, .int .i64 PX2, .int .i64 PY2] 28) 26 #[.slice A n cap]
  have hP := blk5_2 w (.cells #[.int .i64 W, .int .i64 H, .int .i64 F, .int .i64 L, .int .i64 X, .int .i64 Y] 23) (.cells #[.slice A n cap] 26) (.cells #[.slice A2 n2 cap2] 26) (.cells #[.int .i64 N2, .int .i64 PX2, .int .i64 PY2] 28) 28 #[.int .i64 N, .int .i64 PX, .int .i64 PY]
  have hG := blk5_3 w (.cells #[.int .i64 W, .int .i64 H, .int .i64 F, .int .i64 L, .int .i64 X, .int .i64 Y] 23) (.cells #[.slice A n cap] 26) (.cells #[.int .i64 N, .int .i64 PX, .int .i64 PY] 28) (.cells #[.int .i64 N2, .int .i64 PX2, .int .i64 PY2] 28) 26 #[.slice A2 n2 cap2]
  have hQ := blk5_4 w (.cells #[.int .i64 W, .int .i64 H, .int .i64 F, .int .i64 L, .int .i64 X, .int .i64 Y] 23) (.cells #[.slice A n cap] 26) (.cells #[.int .i64 N, .int .i64 PX, .int .i64 PY] 28) (.cells #[.slice A2 n2 cap2] 26) 28 #[.int .i64 N2, .int .i64 PX2, .int .i64 PY2]
  have hB := pro_5 w (.cells #[.int .i64 W, .int .i64 H, .int .i64 F, .int .i64 L, .int .i64 X, .int .i64 Y] 23) (.cells #[.slice A n cap] 26) (.cells #[.int .i64 N, .int .i64 PX, .int .i64 PY] 28) (.cells #[.slice A2 n2 cap2] 26) (.cells #[.int .i64 N2, .int .i64 PX2, .int .i64 PY2] 28)
  have hR := rdB hr hB
  have hR2 := rdB hr2 hB
  generalize ((((w.alloc (.cells #[.int .i64 W, .int .i64 H, .int .i64 F, .int .i64 L, .int .i64 X, .int .i64 Y] 23)).alloc (.cells #[.slice A n cap] 26)).alloc (.cells #[.int .i64 N, .int .i64 PX, .int .i64 PY] 28)).alloc (.cells #[.slice A2 n2 cap2] 26)).alloc (.cells #[.int .i64 N2, .int .i64 PX2, .int .i64 PY2] 28) = W0 at *
  have qhS := fun i => Blk.cell hS i
  have qhF := fun i => Blk.cell hF i
  have qhP := fun i => Blk.cell hP i
  have qhG := fun i => Blk.cell hG i
  have qhQ := fun i => Blk.cell hQ i
  clear hcap hcm hcap2 hcm2 hr hr2
  go_wp2_with (first | (go_at_call 23; have hx := hdone; clear hx; refine (short_any A2 n2 cap2 rows2 _ hn2 hs2 hR2).mono ?_; rintro e w1 ⟨rfl, rfl⟩; rw [hsh2]) | (go_at_call 23; refine (short_any A n cap rows _ hn hs hR).mono ?_; rintro e w1 ⟨rfl, rfl⟩; rw [hsh]; have hdone : (0 : Nat) = 0 := rfl) | (go_at_call 27; refine (Stage_any W H F L X Y _).mono ?_; rintro e w1 ⟨rfl, hb⟩; rw [hst]; (try replace hS := hS.below hb hS.lt); (try replace hF := hF.below hb hF.lt); (try replace hP := hP.below hb hP.lt); (try replace hG := hG.below hb hG.lt); (try replace hQ := hQ.below hb hQ.lt); (try replace hT := hT.below hb hT.lt); (try replace hR := rdB hR hb); (try replace hR2 := rdB hR2 hb); (try replace hA := rdB hA hb); (try replace hC := rdB hC hb); replace hB := hB.trans (hb.mono hB.size); (try clear qhS); (try clear qhF); (try clear qhP); (try clear qhG); (try clear qhQ); (try clear qhT); clear hb; (try have qhS := fun i => Blk.cell hS i); (try have qhF := fun i => Blk.cell hF i); (try have qhP := fun i => Blk.cell hP i); (try have qhG := fun i => Blk.cell hG i); (try have qhQ := fun i => Blk.cell hQ i); (try have qhT := fun i => Blk.cell hT i)) | (go_at_call 24; refine (known_true m _ (known_at hm hB)).mono ?_; rintro e w1 ⟨rfl, hb⟩; (try replace hS := hS.below hb hS.lt); (try replace hF := hF.below hb hF.lt); (try replace hP := hP.below hb hP.lt); (try replace hG := hG.below hb hG.lt); (try replace hQ := hQ.below hb hQ.lt); (try replace hT := hT.below hb hT.lt); (try replace hR := rdB hR hb); (try replace hR2 := rdB hR2 hb); (try replace hA := rdB hA hb); (try replace hC := rdB hC hb); replace hB := hB.trans (hb.mono hB.size); (try clear qhS); (try clear qhF); (try clear qhP); (try clear qhG); (try clear qhQ); (try clear qhT); clear hb; (try have qhS := fun i => Blk.cell hS i); (try have qhF := fun i => Blk.cell hF i); (try have qhP := fun i => Blk.cell hP i); (try have qhG := fun i => Blk.cell hG i); (try have qhQ := fun i => Blk.cell hQ i); (try have qhT := fun i => Blk.cell hT i)))
  go_ret
  exact ⟨rfl, hB⟩
set_option maxRecDepth 100000 in
set_option maxHeartbeats 25600000 in
theorem flames_x4 (W H F L X Y N PX PY N2 PX2 PY2 more : Int) (A : Option Addr) (n cap : Nat) (rows : List ByteArray) (A2 : Option Addr) (n2 cap2 : Nat) (rows2 : List ByteArray) (m : Int) (w : World) (hm : w.cell? ⟨0, 0, none⟩ = some (.int .i64 m)) (hcap : n ≤ cap) (hcm : cap ≤ maxLen) (hs : ∀ r ∈ rows, r.size ≤ maxLen) (hr : Rd w w.heap.size 1 A n (rows.map Value.string)) (hcap2 : n2 ≤ cap2) (hcm2 : cap2 ≤ maxLen) (hs2 : ∀ r ∈ rows2, r.size ≤ maxLen) (hr2 : Rd w w.heap.size 1 A2 n2 (rows2.map Value.string)) (hsh : shortB rows = true) (hsh2 : shortB rows2 = true) (hst : stageB W H F L X Y = true) (hfg : figB rows = false) :
    Calls Tryz.prog 18 #[.agg #[.int .i64 W, .int .i64 H, .int .i64 F, .int .i64 L, .int .i64 X, .int .i64 Y], .agg #[.slice A n cap], .agg #[.int .i64 N, .int .i64 PX, .int .i64 PY], .agg #[.slice A2 n2 cap2], .agg #[.int .i64 N2, .int .i64 PX2, .int .i64 PY2], .int .i64 more] w fun e w' => e = .returned (.bool true) ∧ Below w.heap.size w w' := by
  have hn : n ≤ maxLen := Nat.le_trans hcap hcm
  have hn2 : n2 ≤ maxLen := Nat.le_trans hcap2 hcm2
  go_enter Tryz.func18, Tryz.ntmps18
  go_upto_region 1 with (fail)
  have hS := blk5_0 w (.cells #[.slice A n cap] 26) (.cells #[.int .i64 N, .int .i64 PX, .int .i64 PY] 28) (.cells #[.slice A2 n2 cap2] 26) (.cells #[.int .i64 N2, .int .i64 PX2, .int .i64 PY2] 28) 23 #[.int .i64 W, .int .i64 H, .int .i64 F, .int .i64 L, .int .i64 X, .int .i64 Y]
  have hF := blk5_1 w (.cells #[.int .i64 W, .int .i64 H, .int .i64 F, .int .i64 L, .int .i64 X, .int .i64 Y] 23) (.cells #[.int .i64 N, .int .i64 PX, .int .i64 PY] 28) (.cells #[.slice A2 n2 cap2] 26) (.cells #[.int .i64 N2, .int .i64 PX2, .int .i64 PY2] 28) 26 #[.slice A n cap]
  have hP := blk5_2 w (.cells #[.int .i64 W, .int .i64 H, .int .i64 F, .int .i64 L, .int .i64 X, .int .i64 Y] 23) (.cells #[.slice A n cap] 26) (.cells #[.slice A2 n2 cap2] 26) (.cells #[.int .i64 N2, .int .i64 PX2, .int .i64 PY2] 28) 28 #[.int .i64 N, .int .i64 PX, .int .i64 PY]
  have hG := blk5_3 w (.cells #[.int .i64 W, .int .i64 H, .int .i64 F, .int .i64 L, .int .i64 X, .int .i64 Y] 23) (.cells #[.slice A n cap] 26) (.cells #[.int .i64 N, .int .i64 PX, .int .i64 PY] 28) (.cells #[.int .i64 N2, .int .i64 PX2, .int .i64 PY2] 28) 26 #[.slice A2 n2 cap2]
  have hQ := blk5_4 w (.cells #[.int .i64 W, .int .i64 H, .int .i64 F, .int .i64 L, .int .i64 X, .int .i64 Y] 23) (.cells #[.slice A n cap] 26) (.cells #[.int .i64 N, .int .i64 PX, .int .i64 PY] 28) (.cells #[.slice A2 n2 cap2] 26) 28 #[.int .i64 N2, .int .i64 PX2, .int .i64 PY2]
  have hB := pro_5 w (.cells #[.int .i64 W, .int .i64 H, .int .i64 F, .int .i64 L, .int .i64 X, .int .i64 Y] 23) (.cells #[.slice A n cap] 26) (.cells #[.int .i64 N, .int .i64 PX, .int .i64 PY] 28) (.cells #[.slice A2 n2 cap2] 26) (.cells #[.int .i64 N2, .int .i64 PX2, .int .i64 PY2] 28)
  have hR := rdB hr hB
  have hR2 := rdB hr2 hB
  generalize ((((w.alloc (.cells #[.int .i64 W, .int .i64 H, .int .i64 F, .int .i64 L, .int .i64 X, .int .i64 Y] 23)).alloc (.cells #[.slice A n cap] 26)).alloc (.cells #[.int .i64 N, .int .i64 PX, .int .i64 PY] 28)).alloc (.cells #[.slice A2 n2 cap2] 26)).alloc (.cells #[.int .i64 N2, .int .i64 PX2, .int .i64 PY2] 28) = W0 at *
  have qhS := fun i => Blk.cell hS i
  have qhF := fun i => Blk.cell hF i
  have qhP := fun i => Blk.cell hP i
  have qhG := fun i => Blk.cell hG i
  have qhQ := fun i => Blk.cell hQ i
  clear hcap hcm hcap2 hcm2 hr hr2
  go_wp2_with (first | (go_at_call 23; have hx := hdone; clear hx; refine (short_any A2 n2 cap2 rows2 _ hn2 hs2 hR2).mono ?_; rintro e w1 ⟨rfl, rfl⟩; rw [hsh2]) | (go_at_call 23; refine (short_any A n cap rows _ hn hs hR).mono ?_; rintro e w1 ⟨rfl, rfl⟩; rw [hsh]; have hdone : (0 : Nat) = 0 := rfl) | (go_at_call 27; refine (Stage_any W H F L X Y _).mono ?_; rintro e w1 ⟨rfl, hb⟩; rw [hst]; (try replace hS := hS.below hb hS.lt); (try replace hF := hF.below hb hF.lt); (try replace hP := hP.below hb hP.lt); (try replace hG := hG.below hb hG.lt); (try replace hQ := hQ.below hb hQ.lt); (try replace hT := hT.below hb hT.lt); (try replace hR := rdB hR hb); (try replace hR2 := rdB hR2 hb); (try replace hA := rdB hA hb); (try replace hC := rdB hC hb); replace hB := hB.trans (hb.mono hB.size); (try clear qhS); (try clear qhF); (try clear qhP); (try clear qhG); (try clear qhQ); (try clear qhT); clear hb; (try have qhS := fun i => Blk.cell hS i); (try have qhF := fun i => Blk.cell hF i); (try have qhP := fun i => Blk.cell hP i); (try have qhG := fun i => Blk.cell hG i); (try have qhQ := fun i => Blk.cell hQ i); (try have qhT := fun i => Blk.cell hT i)) | (go_at_call 28; refine (refFigure_any A n cap rows _ hn hs hR).mono ?_; rintro e w1 ⟨rfl, hb⟩; rw [hfg]; have hdon2 : (0 : Nat) = 0 := rfl; (try replace hS := hS.below hb hS.lt); (try replace hF := hF.below hb hF.lt); (try replace hP := hP.below hb hP.lt); (try replace hG := hG.below hb hG.lt); (try replace hQ := hQ.below hb hQ.lt); (try replace hT := hT.below hb hT.lt); (try replace hR := rdB hR hb); (try replace hR2 := rdB hR2 hb); (try replace hA := rdB hA hb); (try replace hC := rdB hC hb); replace hB := hB.trans (hb.mono hB.size); (try clear qhS); (try clear qhF); (try clear qhP); (try clear qhG); (try clear qhQ); (try clear qhT); clear hb; (try have qhS := fun i => Blk.cell hS i); (try have qhF := fun i => Blk.cell hF i); (try have qhP := fun i => Blk.cell hP i); (try have qhG := fun i => Blk.cell hG i); (try have qhQ := fun i => Blk.cell hQ i); (try have qhT := fun i => Blk.cell hT i)) | (go_at_call 24; refine (known_true m _ (known_at hm hB)).mono ?_; rintro e w1 ⟨rfl, hb⟩; (try replace hS := hS.below hb hS.lt); (try replace hF := hF.below hb hF.lt); (try replace hP := hP.below hb hP.lt); (try replace hG := hG.below hb hG.lt); (try replace hQ := hQ.below hb hQ.lt); (try replace hT := hT.below hb hT.lt); (try replace hR := rdB hR hb); (try replace hR2 := rdB hR2 hb); (try replace hA := rdB hA hb); (try replace hC := rdB hC hb); replace hB := hB.trans (hb.mono hB.size); (try clear qhS); (try clear qhF); (try clear qhP); (try clear qhG); (try clear qhQ); (try clear qhT); clear hb; (try have qhS := fun i => Blk.cell hS i); (try have qhF := fun i => Blk.cell hF i); (try have qhP := fun i => Blk.cell hP i); (try have qhG := fun i => Blk.cell hG i); (try have qhQ := fun i => Blk.cell hQ i); (try have qhT := fun i => Blk.cell hT i)))
  go_ret
  exact ⟨rfl, hB⟩
end Go.Proofs.YtifddfchpknkbaaGreatDoor
