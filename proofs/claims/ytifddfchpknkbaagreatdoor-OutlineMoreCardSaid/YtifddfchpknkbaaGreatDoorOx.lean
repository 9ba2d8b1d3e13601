import Derived.Test.YtifddfchpknkbaaGreatDoorLz
import Derived.Test.YtifddfchpknkbaaGreatDoorKn
set_option linter.unusedVariables false
set_option linter.unusedSimpArgs false
namespace Go.Proofs.YtifddfchpknkbaaGreatDoor
open Go.RowKit

set_option maxRecDepth 100000 in
set_option maxHeartbeats 25600000 in
theorem more_x1 (W H F L X Y nl nh xl xh y k : Int) (bb : Bool) (fig : Int) (A : Option Addr) (n cap : Nat) (fs : List Fig) (SA : Option Addr) (sn scap : Nat) (rs : List ByteArray) (A2 : Option Addr) (n2 cap2 : Nat) (rows2 : List ByteArray) (m : Int) (w : World) (hm : w.cell? ⟨0, 0, none⟩ = some (.int .i64 m)) (hcap : n ≤ cap) (hcm : cap ≤ maxLen) (hf : ∀ f ∈ fs, f.ok w w.heap.size) (hr : Rd w w.heap.size 1 A n (fs.map Fig.val)) (hsn : sn ≤ scap) (hscm : scap ≤ maxLen) (hss : ∀ r ∈ rs, r.size ≤ maxLen) (hsr : Rd w w.heap.size 1 SA sn (rs.map Value.string)) (hc21 : n2 ≤ cap2) (hc22 : cap2 ≤ maxLen) (hs2 : ∀ r ∈ rows2, r.size ≤ maxLen) (hR2 : Rd w w.heap.size 1 A2 n2 (rows2.map Value.string)) (hfw : fewB fs = false) :
    Calls Tryz.prog 19 #[.agg #[.int .i64 W, .int .i64 H, .int .i64 F, .int .i64 L, .int .i64 X, .int .i64 Y], .slice A n cap, .agg #[.int .i64 nl, .int .i64 nh, .int .i64 xl, .int .i64 xh, .int .i64 y], .slice SA sn scap, .int .i64 k, .bool bb, .agg #[.slice A2 n2 cap2], .int .i64 fig] w fun e w' => e = .returned (.bool true) ∧ Below w.heap.size w w' := by
  have hn : n ≤ maxLen := Nat.le_trans hcap hcm
  have hnS : sn ≤ maxLen := Nat.le_trans hsn hscm
  have hnM : n2 ≤ maxLen := Nat.le_trans hc21 hc22
  go_enter Tryz.func19, Tryz.ntmps19
  go_upto_region 1 with (fail)
  have hS := blk3_0 w (.cells #[.int .i64 nl, .int .i64 nh, .int .i64 xl, .int .i64 xh, .int .i64 y] 71) (.cells #[.slice A2 n2 cap2] 26) 23 #[.int .i64 W, .int .i64 H, .int .i64 F, .int .i64 L, .int .i64 X, .int .i64 Y]
  have hQ := blk3_1 w (.cells #[.int .i64 W, .int .i64 H, .int .i64 F, .int .i64 L, .int .i64 X, .int .i64 Y] 23) (.cells #[.slice A2 n2 cap2] 26) 71 #[.int .i64 nl, .int .i64 nh, .int .i64 xl, .int .i64 xh, .int .i64 y]
  have hM := blk3_2 w (.cells #[.int .i64 W, .int .i64 H, .int .i64 F, .int .i64 L, .int .i64 X, .int .i64 Y] 23) (.cells #[.int .i64 nl, .int .i64 nh, .int .i64 xl, .int .i64 xh, .int .i64 y] 71) 26 #[.slice A2 n2 cap2]
  have hB := pro_3 w (.cells #[.int .i64 W, .int .i64 H, .int .i64 F, .int .i64 L, .int .i64 X, .int .i64 Y] 23) (.cells #[.int .i64 nl, .int .i64 nh, .int .i64 xl, .int .i64 xh, .int .i64 y] 71) (.cells #[.slice A2 n2 cap2] 26)
  generalize ((w.alloc (.cells #[.int .i64 W, .int .i64 H, .int .i64 F, .int .i64 L, .int .i64 X, .int .i64 Y] 23)).alloc (.cells #[.int .i64 nl, .int .i64 nh, .int .i64 xl, .int .i64 xh, .int .i64 y] 71)).alloc (.cells #[.slice A2 n2 cap2] 26) = W0 at *
  have qhS := fun i => Blk.cell hS i
  have qhQ := fun i => Blk.cell hQ i
  have qhM := fun i => Blk.cell hM i
  have k39 : ∀ p : Blw W0.heap.size W0, Calls Tryz.prog 39 #[.slice A n cap] p.to fun e w' => e = .returned (.bool false) ∧ p.to = w' := fun p => by have h := few_any A n cap fs p.to hn (fun f h => ((hf f h).below (hB.trans (p.h.mono hB.size))).more (Nat.le_trans hB.size p.h.size)) (rdB hr (hB.trans (p.h.mono hB.size))); rw [hfw] at h; exact h
  have hbS := fun p i => blw_blk hS p i
  have hbQ := fun p i => blw_blk hQ p i
  have hbM := fun p i => blw_blk hM p i
  refine wp_region_blw (by kernel_rfl) (by kernel_rfl) ?_
  repeat (go_big_quiet_step (first | (go_at_call 39; exact Calls.blw_of_same _ (k39 _))))
  refine wpQuiet_nil ?_
  rintro W3 ⟨⟨_, hb⟩, rfl⟩
  clear qhS qhQ qhM hbS hbQ hbM k39
  replace hS := hS.below hb hS.lt; replace hQ := hQ.below hb hQ.lt; replace hM := hM.below hb hM.lt; replace hB := hB.trans (hb.mono hB.size); clear hb; have qhS := fun i => Blk.cell hS i; have qhQ := fun i => Blk.cell hQ i; have qhM := fun i => Blk.cell hM i
  go_wp2_with ((go_at_call 24; refine (known_true m _ (known_at hm hB)).mono ?_; rintro e w1 ⟨rfl, hb⟩; (try replace hS := hS.below hb hS.lt); (try replace hQ := hQ.below hb hQ.lt); (try replace hM := hM.below hb hM.lt); replace hB := hB.trans (hb.mono hB.size); (try clear qhS); (try clear qhQ); (try clear qhM); clear hb; (try have qhS := fun i => Blk.cell hS i); (try have qhQ := fun i => Blk.cell hQ i); (try have qhM := fun i => Blk.cell hM i)))
  go_ret
  exact ⟨rfl, hB⟩
set_option maxRecDepth 100000 in
set_option maxHeartbeats 25600000 in
theorem more_x2 (W H F L X Y nl nh xl xh y k : Int) (bb : Bool) (fig : Int) (A : Option Addr) (n cap : Nat) (fs : List Fig) (SA : Option Addr) (sn scap : Nat) (rs : List ByteArray) (A2 : Option Addr) (n2 cap2 : Nat) (rows2 : List ByteArray) (m : Int) (w : World) (hm : w.cell? ⟨0, 0, none⟩ = some (.int .i64 m)) (hcap : n ≤ cap) (hcm : cap ≤ maxLen) (hf : ∀ f ∈ fs, f.ok w w.heap.size) (hr : Rd w w.heap.size 1 A n (fs.map Fig.val)) (hsn : sn ≤ scap) (hscm : scap ≤ maxLen) (hss : ∀ r ∈ rs, r.size ≤ maxLen) (hsr : Rd w w.heap.size 1 SA sn (rs.map Value.string)) (hc21 : n2 ≤ cap2) (hc22 : cap2 ≤ maxLen) (hs2 : ∀ r ∈ rows2, r.size ≤ maxLen) (hR2 : Rd w w.heap.size 1 A2 n2 (rows2.map Value.string)) (hfw : fewB fs = true) (hsh : shortB rs = false) :
    Calls Tryz.prog 19 #[.agg #[.int .i64 W, .int .i64 H, .int .i64 F, .int .i64 L, .int .i64 X, .int .i64 Y], .slice A n cap, .agg #[.int .i64 nl, .int .i64 nh, .int .i64 xl, .int .i64 xh, .int .i64 y], .slice SA sn scap, .int .i64 k, .bool bb, .agg #[.slice A2 n2 cap2], .int .i64 fig] w fun e w' => e = .returned (.bool true) ∧ Below w.heap.size w w' := by
  have hn : n ≤ maxLen := Nat.le_trans hcap hcm
  have hnS : sn ≤ maxLen := Nat.le_trans hsn hscm
  have hnM : n2 ≤ maxLen := Nat.le_trans hc21 hc22
  go_enter Tryz.func19, Tryz.ntmps19
  go_upto_region 1 with (fail)
  have hS := blk3_0 w (.cells #[.int .i64 nl, .int .i64 nh, .int .i64 xl, .int .i64 xh, .int .i64 y] 71) (.cells #[.slice A2 n2 cap2] 26) 23 #[.int .i64 W, .int .i64 H, .int .i64 F, .int .i64 L, .int .i64 X, .int .i64 Y]
  have hQ := blk3_1 w (.cells #[.int .i64 W, .int .i64 H, .int .i64 F, .int .i64 L, .int .i64 X, .int .i64 Y] 23) (.cells #[.slice A2 n2 cap2] 26) 71 #[.int .i64 nl, .int .i64 nh, .int .i64 xl, .int .i64 xh, .int .i64 y]
  have hM := blk3_2 w (.cells #[.int .i64 W, .int .i64 H, .int .i64 F, .int .i64 L, .int .i64 X, .int .i64 Y] 23) (.cells #[.int .i64 nl, .int .i64 nh, .int .i64 xl, .int .i64 xh, .int .i64 y] 71) 26 #[.slice A2 n2 cap2]
  have hB := pro_3 w (.cells #[.int .i64 W, .int .i64 H, .int .i64 F, .int .i64 L, .int .i64 X, .int .i64 Y] 23) (.cells #[.int .i64 nl, .int .i64 nh, .int .i64 xl, .int .i64 xh, .int .i64 y] 71) (.cells #[.slice A2 n2 cap2] 26)
  generalize ((w.alloc (.cells #[.int .i64 W, .int .i64 H, .int .i64 F, .int .i64 L, .int .i64 X, .int .i64 Y] 23)).alloc (.cells #[.int .i64 nl, .int .i64 nh, .int .i64 xl, .int .i64 xh, .int .i64 y] 71)).alloc (.cells #[.slice A2 n2 cap2] 26) = W0 at *
  have qhS := fun i => Blk.cell hS i
  have qhQ := fun i => Blk.cell hQ i
  have qhM := fun i => Blk.cell hM i
  have k39 : ∀ p : Blw W0.heap.size W0, Calls Tryz.prog 39 #[.slice A n cap] p.to fun e w' => e = .returned (.bool true) ∧ p.to = w' := fun p => by have h := few_any A n cap fs p.to hn (fun f h => ((hf f h).below (hB.trans (p.h.mono hB.size))).more (Nat.le_trans hB.size p.h.size)) (rdB hr (hB.trans (p.h.mono hB.size))); rw [hfw] at h; exact h
  have k23 : ∀ p : Blw W0.heap.size W0, Calls Tryz.prog 23 #[.slice SA sn scap] p.to fun e w' => e = .returned (.bool false) ∧ p.to = w' := fun p => by have h := short_any SA sn scap rs p.to hnS hss (rdB hsr (hB.trans (p.h.mono hB.size))); rw [hsh] at h; exact h
  have hbS := fun p i => blw_blk hS p i
  have hbQ := fun p i => blw_blk hQ p i
  have hbM := fun p i => blw_blk hM p i
  refine wp_region_blw (by kernel_rfl) (by kernel_rfl) ?_
  repeat (go_big_quiet_step (first | (go_at_call 39; exact Calls.blw_of_same _ (k39 _)) | (go_at_call_of 23 (Value.slice SA sn scap); exact Calls.blw_of_same _ (k23 _))))
  refine wpQuiet_nil ?_
  rintro W3 ⟨⟨_, hb⟩, rfl⟩
  clear qhS qhQ qhM hbS hbQ hbM k39 k23
  replace hS := hS.below hb hS.lt; replace hQ := hQ.below hb hQ.lt; replace hM := hM.below hb hM.lt; replace hB := hB.trans (hb.mono hB.size); clear hb; have qhS := fun i => Blk.cell hS i; have qhQ := fun i => Blk.cell hQ i; have qhM := fun i => Blk.cell hM i
  go_wp2_with ((go_at_call 24; refine (known_true m _ (known_at hm hB)).mono ?_; rintro e w1 ⟨rfl, hb⟩; (try replace hS := hS.below hb hS.lt); (try replace hQ := hQ.below hb hQ.lt); (try replace hM := hM.below hb hM.lt); replace hB := hB.trans (hb.mono hB.size); (try clear qhS); (try clear qhQ); (try clear qhM); clear hb; (try have qhS := fun i => Blk.cell hS i); (try have qhQ := fun i => Blk.cell hQ i); (try have qhM := fun i => Blk.cell hM i)))
  go_ret
  exact ⟨rfl, hB⟩
set_option maxRecDepth 100000 in
set_option maxHeartbeats 25600000 in
theorem more_x3 (W H F L X Y nl nh xl xh y k : Int) (bb : Bool) (fig : Int) (A : Option Addr) (n cap : Nat) (fs : List Fig) (SA : Option Addr) (sn scap : Nat) (rs : List ByteArray) (A2 : Option Addr) (n2 cap2 : Nat) (rows2 : List ByteArray) (m : Int) (w : World) (hm : w.cell? ⟨0, 0, none⟩ = some (.int .i64 m)) (hcap : n ≤ cap) (hcm : cap ≤ maxLen) (hf : ∀ f ∈ fs, f.ok w w.heap.size) (hr : Rd w w.heap.size 1 A n (fs.map Fig.val)) (hsn : sn ≤ scap) (hscm : scap ≤ maxLen) (hss : ∀ r ∈ rs, r.size ≤ maxLen) (hsr : Rd w w.heap.size 1 SA sn (rs.map Value.string)) (hc21 : n2 ≤ cap2) (hc22 : cap2 ≤ maxLen) (hs2 : ∀ r ∈ rows2, r.size ≤ maxLen) (hR2 : Rd w w.heap.size 1 A2 n2 (rows2.map Value.string)) (hfw : fewB fs = true) (hsh : shortB rs = true) (hsh2 : shortB rows2 = false) :
    Calls Tryz.prog 19 #[.agg #[.int .i64 W, .int .i64 H, .int .i64 F, .int .i64 L, .int .i64 X, .int .i64 Y], .slice A n cap, .agg #[.int .i64 nl, .int .i64 nh, .int .i64 xl, .int .i64 xh, .int .i64 y], .slice SA sn scap, .int .i64 k, .bool bb, .agg #[.slice A2 n2 cap2], .int .i64 fig] w fun e w' => e = .returned (.bool true) ∧ Below w.heap.size w w' := by
  have hn : n ≤ maxLen := Nat.le_trans hcap hcm
  have hnS : sn ≤ maxLen := Nat.le_trans hsn hscm
  have hnM : n2 ≤ maxLen := Nat.le_trans hc21 hc22
  go_enter Tryz.func19, Tryz.ntmps19
  go_upto_region 1 with (fail)
  have hS := blk3_0 w (.cells #[.int .i64 nl, .int .i64 nh, .int .i64 xl, .int .i64 xh, .int .i64 y] 71) (.cells #[.slice A2 n2 cap2] 26) 23 #[.int .i64 W, .int .i64 H, .int .i64 F, .int .i64 L, .int .i64 X, .int .i64 Y]
  have hQ := blk3_1 w (.cells #[.int .i64 W, .int .i64 H, .int .i64 F, .int .i64 L, .int .i64 X, .int .i64 Y] 23) (.cells #[.slice A2 n2 cap2] 26) 71 #[.int .i64 nl, .int .i64 nh, .int .i64 xl, .int .i64 xh, .int .i64 y]
  have hM := blk3_2 w (.cells #[.int .i64 W, .int .i64 H, .int .i64 F, .int .i64 L, .int .i64 X, .int .i64 Y] 23) (.cells #[.int .i64 nl, .int .i64 nh, .int .i64 xl, .int .i64 xh, .int .i64 y] 71) 26 #[.slice A2 n2 cap2]
  have hB := pro_3 w (.cells #[.int .i64 W, .int .i64 H, .int .i64 F, .int .i64 L, .int .i64 X, .int .i64 Y] 23) (.cells #[.int .i64 nl, .int .i64 nh, .int .i64 xl, .int .i64 xh, .int .i64 y] 71) (.cells #[.slice A2 n2 cap2] 26)
  generalize ((w.alloc (.cells #[.int .i64 W, .int .i64 H, .int .i64 F, .int .i64 L, .int .i64 X, .int .i64 Y] 23)).alloc (.cells #[.int .i64 nl, .int .i64 nh, .int .i64 xl, .int .i64 xh, .int .i64 y] 71)).alloc (.cells #[.slice A2 n2 cap2] 26) = W0 at *
  have qhS := fun i => Blk.cell hS i
  have qhQ := fun i => Blk.cell hQ i
  have qhM := fun i => Blk.cell hM i
  have k39 : ∀ p : Blw W0.heap.size W0, Calls Tryz.prog 39 #[.slice A n cap] p.to fun e w' => e = .returned (.bool true) ∧ p.to = w' := fun p => by have h := few_any A n cap fs p.to hn (fun f h => ((hf f h).below (hB.trans (p.h.mono hB.size))).more (Nat.le_trans hB.size p.h.size)) (rdB hr (hB.trans (p.h.mono hB.size))); rw [hfw] at h; exact h
  have k23 : ∀ p : Blw W0.heap.size W0, Calls Tryz.prog 23 #[.slice SA sn scap] p.to fun e w' => e = .returned (.bool true) ∧ p.to = w' := fun p => by have h := short_any SA sn scap rs p.to hnS hss (rdB hsr (hB.trans (p.h.mono hB.size))); rw [hsh] at h; exact h
  have k23b : ∀ p : Blw W0.heap.size W0, Calls Tryz.prog 23 #[.slice A2 n2 cap2] p.to fun e w' => e = .returned (.bool false) ∧ p.to = w' := fun p => by have h := short_any A2 n2 cap2 rows2 p.to hnM hs2 (rdB hR2 (hB.trans (p.h.mono hB.size))); rw [hsh2] at h; exact h
  have hbS := fun p i => blw_blk hS p i
  have hbQ := fun p i => blw_blk hQ p i
  have hbM := fun p i => blw_blk hM p i
  refine wp_region_blw (by kernel_rfl) (by kernel_rfl) ?_
  repeat (go_big_quiet_step (first | (go_at_call 39; exact Calls.blw_of_same _ (k39 _)) | (go_at_call_of 23 (Value.slice A2 n2 cap2); exact Calls.blw_of_same _ (k23b _)) | (go_at_call_of 23 (Value.slice SA sn scap); exact Calls.blw_of_same _ (k23 _))))
  refine wpQuiet_nil ?_
  rintro W3 ⟨⟨_, hb⟩, rfl⟩
  clear qhS qhQ qhM hbS hbQ hbM k39 k23 k23b
  replace hS := hS.below hb hS.lt; replace hQ := hQ.below hb hQ.lt; replace hM := hM.below hb hM.lt; replace hB := hB.trans (hb.mono hB.size); clear hb; have qhS := fun i => Blk.cell hS i; have qhQ := fun i => Blk.cell hQ i; have qhM := fun i => Blk.cell hM i
  go_wp2_with ((go_at_call 24; refine (known_true m _ (known_at hm hB)).mono ?_; rintro e w1 ⟨rfl, hb⟩; (try replace hS := hS.below hb hS.lt); (try replace hQ := hQ.below hb hQ.lt); (try replace hM := hM.below hb hM.lt); replace hB := hB.trans (hb.mono hB.size); (try clear qhS); (try clear qhQ); (try clear qhM); clear hb; (try have qhS := fun i => Blk.cell hS i); (try have qhQ := fun i => Blk.cell hQ i); (try have qhM := fun i => Blk.cell hM i)))
  go_ret
  exact ⟨rfl, hB⟩
set_option maxRecDepth 100000 in
set_option maxHeartbeats 25600000 in
theorem more_x4 (W H F L X Y nl nh xl xh y k : Int) (bb : Bool) (fig : Int) (A : Option Addr) (n cap : Nat) (fs : List Fig) (SA : Option Addr) (sn scap : Nat) (rs : List ByteArray) (A2 : Option Addr) (n2 cap2 : Nat) (rows2 : List ByteArray) (m : Int) (w : World) (hm : w.cell? ⟨0, 0, none⟩ = some (.int .i64 m)) (hcap : n ≤ cap) (hcm : cap ≤ maxLen) (hf : ∀ f ∈ fs, f.ok w w.heap.size) (hr : Rd w w.heap.size 1 A n (fs.map Fig.val)) (hsn : sn ≤ scap) (hscm : scap ≤ maxLen) (hss : ∀ r ∈ rs, r.size ≤ maxLen) (hsr : Rd w w.heap.size 1 SA sn (rs.map Value.string)) (hc21 : n2 ≤ cap2) (hc22 : cap2 ≤ maxLen) (hs2 : ∀ r ∈ rows2, r.size ≤ maxLen) (hR2 : Rd w w.heap.size 1 A2 n2 (rows2.map Value.string)) (hfw : fewB fs = true) (hsh : shortB rs = true) (hsh2 : shortB rows2 = true) (hst : stageB W H F L X Y = false) (hak : askV (askB W H F L X Y nl nh xl xh y fs && false) = 2) :
    Calls Tryz.prog 19 #[.agg #[.int .i64 W, .int .i64 H, .int .i64 F, .int .i64 L, .int .i64 X, .int .i64 Y], .slice A n cap, .agg #[.int .i64 nl, .int .i64 nh, .int .i64 xl, .int .i64 xh, .int .i64 y], .slice SA sn scap, .int .i64 k, .bool bb, .agg #[.slice A2 n2 cap2], .int .i64 fig] w fun e w' => e = .returned (.bool true) ∧ Below w.heap.size w w' := by
  have hn : n ≤ maxLen := Nat.le_trans hcap hcm
  have hnS : sn ≤ maxLen := Nat.le_trans hsn hscm
  have hnM : n2 ≤ maxLen := Nat.le_trans hc21 hc22
  go_enter Tryz.func19, Tryz.ntmps19
  go_upto_region 1 with (fail)
  have hS := blk3_0 w (.cells #[.int .i64 nl, .int .i64 nh, .int .i64 xl, .int .i64 xh, .int .i64 y] 71) (.cells #[.slice A2 n2 cap2] 26) 23 #[.int .i64 W, .int .i64 H, .int .i64 F, .int .i64 L, .int .i64 X, .int .i64 Y]
  have hQ := blk3_1 w (.cells #[.int .i64 W, .int .i64 H, .int .i64 F, .int .i64 L, .int .i64 X, .int .i64 Y] 23) (.cells #[.slice A2 n2 cap2] 26) 71 #[.int .i64 nl, .int .i64 nh, .int .i64 xl, .int .i64 xh, .int .i64 y]
  have hM := blk3_2 w (.cells #[.int .i64 W, .int .i64 H, .int .i64 F, .int .i64 L, .int .i64 X, .int .i64 Y] 23) (.cells #[.int .i64 nl, .int .i64 nh, .int .i64 xl, .int .i64 xh, .int .i64 y] 71) 26 #[.slice A2 n2 cap2]
  have hB := pro_3 w (.cells #[.int .i64 W, .int .i64 H, .int .i64 F, .int .i64 L, .int .i64 X, .int .i64 Y] 23) (.cells #[.int .i64 nl, .int .i64 nh, .int .i64 xl, .int .i64 xh, .int .i64 y] 71) (.cells #[.slice A2 n2 cap2] 26)
  generalize ((w.alloc (.cells #[.int .i64 W, .int .i64 H, .int .i64 F, .int .i64 L, .int .i64 X, .int .i64 Y] 23)).alloc (.cells #[.int .i64 nl, .int .i64 nh, .int .i64 xl, .int .i64 xh, .int .i64 y] 71)).alloc (.cells #[.slice A2 n2 cap2] 26) = W0 at *
  have qhS := fun i => Blk.cell hS i
  have qhQ := fun i => Blk.cell hQ i
  have qhM := fun i => Blk.cell hM i
  have k39 : ∀ p : Blw W0.heap.size W0, Calls Tryz.prog 39 #[.slice A n cap] p.to fun e w' => e = .returned (.bool true) ∧ p.to = w' := fun p => by have h := few_any A n cap fs p.to hn (fun f h => ((hf f h).below (hB.trans (p.h.mono hB.size))).more (Nat.le_trans hB.size p.h.size)) (rdB hr (hB.trans (p.h.mono hB.size))); rw [hfw] at h; exact h
  have k23 : ∀ p : Blw W0.heap.size W0, Calls Tryz.prog 23 #[.slice SA sn scap] p.to fun e w' => e = .returned (.bool true) ∧ p.to = w' := fun p => by have h := short_any SA sn scap rs p.to hnS hss (rdB hsr (hB.trans (p.h.mono hB.size))); rw [hsh] at h; exact h
  have k23b : ∀ p : Blw W0.heap.size W0, Calls Tryz.prog 23 #[.slice A2 n2 cap2] p.to fun e w' => e = .returned (.bool true) ∧ p.to = w' := fun p => by have h := short_any A2 n2 cap2 rows2 p.to hnM hs2 (rdB hR2 (hB.trans (p.h.mono hB.size))); rw [hsh2] at h; exact h
  have k27 : ∀ p : Blw W0.heap.size W0, Calls Tryz.prog 27 #[.agg #[.int .i64 W, .int .i64 H, .int .i64 F, .int .i64 L, .int .i64 X, .int .i64 Y]] p.to fun e w' => e = .returned (.bool false) ∧ Below p.to.heap.size p.to w' := fun p => by have h := Stage_any W H F L X Y p.to; rw [hst] at h; exact h
  have k54 : ∀ p : Blw W0.heap.size W0, Calls Tryz.prog 54 #[.agg #[.int .i64 W, .int .i64 H, .int .i64 F, .int .i64 L, .int .i64 X, .int .i64 Y], .slice A n cap, .agg #[.int .i64 nl, .int .i64 nh, .int .i64 xl, .int .i64 xh, .int .i64 y], .bool false] p.to fun e w' => e = .returned (.int .i64 2) ∧ Below p.to.heap.size p.to w' := fun p => by have h := asked_any W H F L X Y nl nh xl xh y A n cap fs false p.to hn (fun f h => ((hf f h).below (hB.trans (p.h.mono hB.size))).more (Nat.le_trans hB.size p.h.size)) (rdB hr (hB.trans (p.h.mono hB.size))); rw [hak] at h; exact h
  have hbS := fun p i => blw_blk hS p i
  have hbQ := fun p i => blw_blk hQ p i
  have hbM := fun p i => blw_blk hM p i
  refine wp_region_blw (by kernel_rfl) (by kernel_rfl) ?_
  repeat (go_big_quiet_step (first | (go_at_call 39; exact Calls.blw_of_same _ (k39 _)) | (go_at_call_of 23 (Value.slice A2 n2 cap2); exact Calls.blw_of_same _ (k23b _)) | (go_at_call_of 23 (Value.slice SA sn scap); exact Calls.blw_of_same _ (k23 _)) | (go_at_call 27; exact Calls.blw_of _ (k27 _)) | (go_at_call 54; exact Calls.blw_of _ (k54 _))))
  refine wpQuiet_nil ?_
  rintro W3 ⟨⟨_, hb⟩, rfl⟩
  clear qhS qhQ qhM hbS hbQ hbM k39 k23 k23b k27 k54
  replace hS := hS.below hb hS.lt; replace hQ := hQ.below hb hQ.lt; replace hM := hM.below hb hM.lt; replace hB := hB.trans (hb.mono hB.size); clear hb; have qhS := fun i => Blk.cell hS i; have qhQ := fun i => Blk.cell hQ i; have qhM := fun i => Blk.cell hM i
  go_wp2_with ((go_at_call 24; refine (known_true m _ (known_at hm hB)).mono ?_; rintro e w1 ⟨rfl, hb⟩; (try replace hS := hS.below hb hS.lt); (try replace hQ := hQ.below hb hQ.lt); (try replace hM := hM.below hb hM.lt); replace hB := hB.trans (hb.mono hB.size); (try clear qhS); (try clear qhQ); (try clear qhM); clear hb; (try have qhS := fun i => Blk.cell hS i); (try have qhQ := fun i => Blk.cell hQ i); (try have qhM := fun i => Blk.cell hM i)))
  go_ret
  exact ⟨rfl, hB⟩
set_option maxRecDepth 100000 in
set_option maxHeartbeats 25600000 in
theorem more_x5 (W H F L X Y nl nh xl xh y k : Int) (bb : Bool) (fig : Int) (A : Option Addr) (n cap : Nat) (fs : List Fig) (SA : Option Addr) (sn scap : Nat) (rs : List ByteArray) (A2 : Option Addr) (n2 cap2 : Nat) (rows2 : List ByteArray) (m : Int) (w : World) (hm : w.cell? ⟨0, 0, none⟩ = some (.int .i64 m)) (hcap : n ≤ cap) (hcm : cap ≤ maxLen) (hf : ∀ f ∈ fs, f.ok w w.heap.size) (hr : Rd w w.heap.size 1 A n (fs.map Fig.val)) (hsn : sn ≤ scap) (hscm : scap ≤ maxLen) (hss : ∀ r ∈ rs, r.size ≤ maxLen) (hsr : Rd w w.heap.size 1 SA sn (rs.map Value.string)) (hc21 : n2 ≤ cap2) (hc22 : cap2 ≤ maxLen) (hs2 : ∀ r ∈ rows2, r.size ≤ maxLen) (hR2 : Rd w w.heap.size 1 A2 n2 (rows2.map Value.string)) (hfw : fewB fs = true) (hsh : shortB rs = true) (hsh2 : shortB rows2 = true) (hst : stageB W H F L X Y = true) (hsg : sightB W H rs = false) (hak : askV (askB W H F L X Y nl nh xl xh y fs && false) = 2) :
    Calls Tryz.prog 19 #[.agg #[.int .i64 W, .int .i64 H, .int .i64 F, .int .i64 L, .int .i64 X, .int .i64 Y], .slice A n cap, .agg #[.int .i64 nl, .int .i64 nh, .int .i64 xl, .int .i64 xh, .int .i64 y], .slice SA sn scap, .int .i64 k, .bool bb, .agg #[.slice A2 n2 cap2], .int .i64 fig] w fun e w' => e = .returned (.bool true) ∧ Below w.heap.size w w' := by
  have hn : n ≤ maxLen := Nat.le_trans hcap hcm
  have hnS : sn ≤ maxLen := Nat.le_trans hsn hscm
  have hnM : n2 ≤ maxLen := Nat.le_trans hc21 hc22
  go_enter Tryz.func19, Tryz.ntmps19
  go_upto_region 1 with (fail)
  have hS := blk3_0 w (.cells #[.int .i64 nl, .int .i64 nh, .int .i64 xl, .int .i64 xh, .int .i64 y] 71) (.cells #[.slice A2 n2 cap2] 26) 23 #[.int .i64 W, .int .i64 H, .int .i64 F, .int .i64 L, .int .i64 X, .int .i64 Y]
  have hQ := blk3_1 w (.cells #[.int .i64 W, .int .i64 H, .int .i64 F, .int .i64 L, .int .i64 X, .int .i64 Y] 23) (.cells #[.slice A2 n2 cap2] 26) 71 #[.int .i64 nl, .int .i64 nh, .int .i64 xl, .int .i64 xh, .int .i64 y]
  have hM := blk3_2 w (.cells #[.int .i64 W, .int .i64 H, .int .i64 F, .int .i64 L, .int .i64 X, .int .i64 Y] 23) (.cells #[.int .i64 nl, .int .i64 nh, .int .i64 xl, .int .i64 xh, .int .i64 y] 71) 26 #[.slice A2 n2 cap2]
  have hB := pro_3 w (.cells #[.int .i64 W, .int .i64 H, .int .i64 F, .int .i64 L, .int .i64 X, .int .i64 Y] 23) (.cells #[.int .i64 nl, .int .i64 nh, .int .i64 xl, .int .i64 xh, .int .i64 y] 71) (.cells #[.slice A2 n2 cap2] 26)
  generalize ((w.alloc (.cells #[.int .i64 W, .int .i64 H, .int .i64 F, .int .i64 L, .int .i64 X, .int .i64 Y] 23)).alloc (.cells #[.int .i64 nl, .int .i64 nh, .int .i64 xl, .int .i64 xh, .int .i64 y] 71)).alloc (.cells #[.slice A2 n2 cap2] 26) = W0 at *
  have qhS := fun i => Blk.cell hS i
  have qhQ := fun i => Blk.cell hQ i
  have qhM := fun i => Blk.cell hM i
  have k39 : ∀ p : Blw W0.heap.size W0, Calls Tryz.prog 39 #[.slice A n cap] p.to fun e w' => e = .returned (.bool true) ∧ p.to = w' := fun p => by have h := few_any A n cap fs p.to hn (fun f h => ((hf f h).below (hB.trans (p.h.mono hB.size))).more (Nat.le_trans hB.size p.h.size)) (rdB hr (hB.trans (p.h.mono hB.size))); rw [hfw] at h; exact h
  have k23 : ∀ p : Blw W0.heap.size W0, Calls Tryz.prog 23 #[.slice SA sn scap] p.to fun e w' => e = .returned (.bool true) ∧ p.to = w' := fun p => by have h := short_any SA sn scap rs p.to hnS hss (rdB hsr (hB.trans (p.h.mono hB.size))); rw [hsh] at h; exact h
  have k23b : ∀ p : Blw W0.heap.size W0, Calls Tryz.prog 23 #[.slice A2 n2 cap2] p.to fun e w' => e = .returned (.bool true) ∧ p.to = w' := fun p => by have h := short_any A2 n2 cap2 rows2 p.to hnM hs2 (rdB hR2 (hB.trans (p.h.mono hB.size))); rw [hsh2] at h; exact h
  have k27 : ∀ p : Blw W0.heap.size W0, Calls Tryz.prog 27 #[.agg #[.int .i64 W, .int .i64 H, .int .i64 F, .int .i64 L, .int .i64 X, .int .i64 Y]] p.to fun e w' => e = .returned (.bool true) ∧ Below p.to.heap.size p.to w' := fun p => by have h := Stage_any W H F L X Y p.to; rw [hst] at h; exact h
  have k55 : ∀ p : Blw W0.heap.size W0, Calls Tryz.prog 55 #[.agg #[.int .i64 W, .int .i64 H, .int .i64 F, .int .i64 L, .int .i64 X, .int .i64 Y], .slice SA sn scap] p.to fun e w' => e = .returned (.bool false) ∧ Below p.to.heap.size p.to w' := fun p => by have h := refSight_any W H F L X Y SA sn scap rs p.to hnS hss (rdB hsr (hB.trans (p.h.mono hB.size))); rw [hsg] at h; exact h
  have k54 : ∀ p : Blw W0.heap.size W0, Calls Tryz.prog 54 #[.agg #[.int .i64 W, .int .i64 H, .int .i64 F, .int .i64 L, .int .i64 X, .int .i64 Y], .slice A n cap, .agg #[.int .i64 nl, .int .i64 nh, .int .i64 xl, .int .i64 xh, .int .i64 y], .bool false] p.to fun e w' => e = .returned (.int .i64 2) ∧ Below p.to.heap.size p.to w' := fun p => by have h := asked_any W H F L X Y nl nh xl xh y A n cap fs false p.to hn (fun f h => ((hf f h).below (hB.trans (p.h.mono hB.size))).more (Nat.le_trans hB.size p.h.size)) (rdB hr (hB.trans (p.h.mono hB.size))); rw [hak] at h; exact h
  have hbS := fun p i => blw_blk hS p i
  have hbQ := fun p i => blw_blk hQ p i
  have hbM := fun p i => blw_blk hM p i
  refine wp_region_blw (by kernel_rfl) (by kernel_rfl) ?_
  repeat (go_big_quiet_step (first | (go_at_call 39; exact Calls.blw_of_same _ (k39 _)) | (go_at_call_of 23 (Value.slice A2 n2 cap2); exact Calls.blw_of_same _ (k23b _)) | (go_at_call_of 23 (Value.slice SA sn scap); exact Calls.blw_of_same _ (k23 _)) | (go_at_call 27; exact Calls.blw_of _ (k27 _)) | (go_at_call 55; exact Calls.blw_of _ (k55 _)) | (go_at_call 54; exact Calls.blw_of _ (k54 _))))
  refine wpQuiet_nil ?_
  rintro W3 ⟨⟨_, hb⟩, rfl⟩
  clear qhS qhQ qhM hbS hbQ hbM k39 k23 k23b k27 k55 k54
  replace hS := hS.below hb hS.lt; replace hQ := hQ.below hb hQ.lt; replace hM := hM.below hb hM.lt; replace hB := hB.trans (hb.mono hB.size); clear hb; have qhS := fun i => Blk.cell hS i; have qhQ := fun i => Blk.cell hQ i; have qhM := fun i => Blk.cell hM i
  go_wp2_with ((go_at_call 24; refine (known_true m _ (known_at hm hB)).mono ?_; rintro e w1 ⟨rfl, hb⟩; (try replace hS := hS.below hb hS.lt); (try replace hQ := hQ.below hb hQ.lt); (try replace hM := hM.below hb hM.lt); replace hB := hB.trans (hb.mono hB.size); (try clear qhS); (try clear qhQ); (try clear qhM); clear hb; (try have qhS := fun i => Blk.cell hS i); (try have qhQ := fun i => Blk.cell hQ i); (try have qhM := fun i => Blk.cell hM i)))
  go_ret
  exact ⟨rfl, hB⟩
set_option maxRecDepth 100000 in
set_option maxHeartbeats 25600000 in
theorem more_x6 (W H F L X Y nl nh xl xh y k : Int) (bb : Bool) (fig : Int) (A : Option Addr) (n cap : Nat) (fs : List Fig) (SA : Option Addr) (sn scap : Nat) (rs : List ByteArray) (A2 : Option Addr) (n2 cap2 : Nat) (rows2 : List ByteArray) (m : Int) (w : World) (hm : w.cell? ⟨0, 0, none⟩ = some (.int .i64 m)) (hcap : n ≤ cap) (hcm : cap ≤ maxLen) (hf : ∀ f ∈ fs, f.ok w w.heap.size) (hr : Rd w w.heap.size 1 A n (fs.map Fig.val)) (hsn : sn ≤ scap) (hscm : scap ≤ maxLen) (hss : ∀ r ∈ rs, r.size ≤ maxLen) (hsr : Rd w w.heap.size 1 SA sn (rs.map Value.string)) (hc21 : n2 ≤ cap2) (hc22 : cap2 ≤ maxLen) (hs2 : ∀ r ∈ rows2, r.size ≤ maxLen) (hR2 : Rd w w.heap.size 1 A2 n2 (rows2.map Value.string)) (hfw : fewB fs = true) (hsh : shortB rs = true) (hsh2 : shortB rows2 = true) (hst : stageB W H F L X Y = true) (hsg : sightB W H rs = true) (hak : askV (askB W H F L X Y nl nh xl xh y fs && true) = 2) :
    Calls Tryz.prog 19 #[.agg #[.int .i64 W, .int .i64 H, .int .i64 F, .int .i64 L, .int .i64 X, .int .i64 Y], .slice A n cap, .agg #[.int .i64 nl, .int .i64 nh, .int .i64 xl, .int .i64 xh, .int .i64 y], .slice SA sn scap, .int .i64 k, .bool bb, .agg #[.slice A2 n2 cap2], .int .i64 fig] w fun e w' => e = .returned (.bool true) ∧ Below w.heap.size w w' := by
  have hn : n ≤ maxLen := Nat.le_trans hcap hcm
  have hnS : sn ≤ maxLen := Nat.le_trans hsn hscm
  have hnM : n2 ≤ maxLen := Nat.le_trans hc21 hc22
  go_enter Tryz.func19, Tryz.ntmps19
  go_upto_region 1 with (fail)
  have hS := blk3_0 w (.cells #[.int .i64 nl, .int .i64 nh, .int .i64 xl, .int .i64 xh, .int .i64 y] 71) (.cells #[.slice A2 n2 cap2] 26) 23 #[.int .i64 W, .int .i64 H, .int .i64 F, .int .i64 L, .int .i64 X, .int .i64 Y]
  have hQ := blk3_1 w (.cells #[.int .i64 W, .int .i64 H, .int .i64 F, .int .i64 L, .int .i64 X, .int .i64 Y] 23) (.cells #[.slice A2 n2 cap2] 26) 71 #[.int .i64 nl, .int .i64 nh, .int .i64 xl, .int .i64 xh, .int .i64 y]
  have hM := blk3_2 w (.cells #[.int .i64 W, .int .i64 H, .int .i64 F, .int .i64 L, .int .i64 X, .int .i64 Y] 23) (.cells #[.int .i64 nl, .int .i64 nh, .int .i64 xl, .int .i64 xh, .int .i64 y] 71) 26 #[.slice A2 n2 cap2]
  have hB := pro_3 w (.cells #[.int .i64 W, .int .i64 H, .int .i64 F, .int .i64 L, .int .i64 X, .int .i64 Y] 23) (.cells #[.int .i64 nl, .int .i64 nh, .int .i64 xl, .int .i64 xh, .int .i64 y] 71) (.cells #[.slice A2 n2 cap2] 26)
  generalize ((w.alloc (.cells #[.int .i64 W, .int .i64 H, .int .i64 F, .int .i64 L, .int .i64 X, .int .i64 Y] 23)).alloc (.cells #[.int .i64 nl, .int .i64 nh, .int .i64 xl, .int .i64 xh, .int .i64 y] 71)).alloc (.cells #[.slice A2 n2 cap2] 26) = W0 at *
  have qhS := fun i => Blk.cell hS i
  have qhQ := fun i => Blk.cell hQ i
  have qhM := fun i => Blk.cell hM i
  have k39 : ∀ p : Blw W0.heap.size W0, Calls Tryz.prog 39 #[.slice A n cap] p.to fun e w' => e = .returned (.bool true) ∧ p.to = w' := fun p => by have h := few_any A n cap fs p.to hn (fun f h => ((hf f h).below (hB.trans (p.h.mono hB.size))).more (Nat.le_trans hB.size p.h.size)) (rdB hr (hB.trans (p.h.mono hB.size))); rw [hfw] at h; exact h
  have k23 : ∀ p : Blw W0.heap.size W0, Calls Tryz.prog 23 #[.slice SA sn scap] p.to fun e w' => e = .returned (.bool true) ∧ p.to = w' := fun p => by have h := short_any SA sn scap rs p.to hnS hss (rdB hsr (hB.trans (p.h.mono hB.size))); rw [hsh] at h; exact h
  have k23b : ∀ p : Blw W0.heap.size W0, Calls Tryz.prog 23 #[.slice A2 n2 cap2] p.to fun e w' => e = .returned (.bool true) ∧ p.to = w' := fun p => by have h := short_any A2 n2 cap2 rows2 p.to hnM hs2 (rdB hR2 (hB.trans (p.h.mono hB.size))); rw [hsh2] at h; exact h
  have k27 : ∀ p : Blw W0.heap.size W0, Calls Tryz.prog 27 #[.agg #[.int .i64 W, .int .i64 H, .int .i64 F, .int .i64 L, .int .i64 X, .int .i64 Y]] p.to fun e w' => e = .returned (.bool true) ∧ Below p.to.heap.size p.to w' := fun p => by have h := Stage_any W H F L X Y p.to; rw [hst] at h; exact h
  have k55 : ∀ p : Blw W0.heap.size W0, Calls Tryz.prog 55 #[.agg #[.int .i64 W, .int .i64 H, .int .i64 F, .int .i64 L, .int .i64 X, .int .i64 Y], .slice SA sn scap] p.to fun e w' => e = .returned (.bool true) ∧ Below p.to.heap.size p.to w' := fun p => by have h := refSight_any W H F L X Y SA sn scap rs p.to hnS hss (rdB hsr (hB.trans (p.h.mono hB.size))); rw [hsg] at h; exact h
  have k54 : ∀ p : Blw W0.heap.size W0, Calls Tryz.prog 54 #[.agg #[.int .i64 W, .int .i64 H, .int .i64 F, .int .i64 L, .int .i64 X, .int .i64 Y], .slice A n cap, .agg #[.int .i64 nl, .int .i64 nh, .int .i64 xl, .int .i64 xh, .int .i64 y], .bool true] p.to fun e w' => e = .returned (.int .i64 2) ∧ Below p.to.heap.size p.to w' := fun p => by have h := asked_any W H F L X Y nl nh xl xh y A n cap fs true p.to hn (fun f h => ((hf f h).below (hB.trans (p.h.mono hB.size))).more (Nat.le_trans hB.size p.h.size)) (rdB hr (hB.trans (p.h.mono hB.size))); rw [hak] at h; exact h
  have hbS := fun p i => blw_blk hS p i
  have hbQ := fun p i => blw_blk hQ p i
  have hbM := fun p i => blw_blk hM p i
  refine wp_region_blw (by kernel_rfl) (by kernel_rfl) ?_
  repeat (go_big_quiet_step (first | (go_at_call 39; exact Calls.blw_of_same _ (k39 _)) | (go_at_call_of 23 (Value.slice A2 n2 cap2); exact Calls.blw_of_same _ (k23b _)) | (go_at_call_of 23 (Value.slice SA sn scap); exact Calls.blw_of_same _ (k23 _)) | (go_at_call 27; exact Calls.blw_of _ (k27 _)) | (go_at_call 55; exact Calls.blw_of _ (k55 _)) | (go_at_call 54; exact Calls.blw_of _ (k54 _))))
  refine wpQuiet_nil ?_
  rintro W3 ⟨⟨_, hb⟩, rfl⟩
  clear qhS qhQ qhM hbS hbQ hbM k39 k23 k23b k27 k55 k54
  replace hS := hS.below hb hS.lt; replace hQ := hQ.below hb hQ.lt; replace hM := hM.below hb hM.lt; replace hB := hB.trans (hb.mono hB.size); clear hb; have qhS := fun i => Blk.cell hS i; have qhQ := fun i => Blk.cell hQ i; have qhM := fun i => Blk.cell hM i
  go_wp2_with ((go_at_call 24; refine (known_true m _ (known_at hm hB)).mono ?_; rintro e w1 ⟨rfl, hb⟩; (try replace hS := hS.below hb hS.lt); (try replace hQ := hQ.below hb hQ.lt); (try replace hM := hM.below hb hM.lt); replace hB := hB.trans (hb.mono hB.size); (try clear qhS); (try clear qhQ); (try clear qhM); clear hb; (try have qhS := fun i => Blk.cell hS i); (try have qhQ := fun i => Blk.cell hQ i); (try have qhM := fun i => Blk.cell hM i)))
  go_ret
  exact ⟨rfl, hB⟩
set_option maxRecDepth 100000 in
set_option maxHeartbeats 25600000 in
theorem more_x7 (W H F L X Y nl nh xl xh y k : Int) (bb : Bool) (fig : Int) (A : Option Addr) (n cap : Nat) (fs : List Fig) (SA : Option Addr) (sn scap : Nat) (rs : List ByteArray) (A2 : Option Addr) (n2 cap2 : Nat) (rows2 : List ByteArray) (m : Int) (w : World) (hm : w.cell? ⟨0, 0, none⟩ = some (.int .i64 m)) (hcap : n ≤ cap) (hcm : cap ≤ maxLen) (hf : ∀ f ∈ fs, f.ok w w.heap.size) (hr : Rd w w.heap.size 1 A n (fs.map Fig.val)) (hsn : sn ≤ scap) (hscm : scap ≤ maxLen) (hss : ∀ r ∈ rs, r.size ≤ maxLen) (hsr : Rd w w.heap.size 1 SA sn (rs.map Value.string)) (hc21 : n2 ≤ cap2) (hc22 : cap2 ≤ maxLen) (hs2 : ∀ r ∈ rows2, r.size ≤ maxLen) (hR2 : Rd w w.heap.size 1 A2 n2 (rows2.map Value.string)) (hfw : fewB fs = true) (hsh : shortB rs = true) (hsh2 : shortB rows2 = true) (hst : stageB W H F L X Y = true) (hsg : sightB W H rs = true) (hak : askV (askB W H F L X Y nl nh xl xh y fs && true) = 0) (h0 : k < 0) :
    Calls Tryz.prog 19 #[.agg #[.int .i64 W, .int .i64 H, .int .i64 F, .int .i64 L, .int .i64 X, .int .i64 Y], .slice A n cap, .agg #[.int .i64 nl, .int .i64 nh, .int .i64 xl, .int .i64 xh, .int .i64 y], .slice SA sn scap, .int .i64 k, .bool bb, .agg #[.slice A2 n2 cap2], .int .i64 fig] w fun e w' => e = .returned (.bool true) ∧ Below w.heap.size w w' := by
  have hn : n ≤ maxLen := Nat.le_trans hcap hcm
  have hnS : sn ≤ maxLen := Nat.le_trans hsn hscm
  have hnM : n2 ≤ maxLen := Nat.le_trans hc21 hc22
  go_enter Tryz.func19, Tryz.ntmps19
  go_upto_region 1 with (fail)
  have hS := blk3_0 w (.cells #[.int .i64 nl, .int .i64 nh, .int .i64 xl, .int .i64 xh, .int .i64 y] 71) (.cells #[.slice A2 n2 cap2] 26) 23 #[.int .i64 W, .int .i64 H, .int .i64 F, .int .i64 L, .int .i64 X, .int .i64 Y]
  have hQ := blk3_1 w (.cells #[.int .i64 W, .int .i64 H, .int .i64 F, .int .i64 L, .int .i64 X, .int .i64 Y] 23) (.cells #[.slice A2 n2 cap2] 26) 71 #[.int .i64 nl, .int .i64 nh, .int .i64 xl, .int .i64 xh, .int .i64 y]
  have hM := blk3_2 w (.cells #[.int .i64 W, .int .i64 H, .int .i64 F, .int .i64 L, .int .i64 X, .int .i64 Y] 23) (.cells #[.int .i64 nl, .int .i64 nh, .int .i64 xl, .int .i64 xh, .int .i64 y] 71) 26 #[.slice A2 n2 cap2]
  have hB := pro_3 w (.cells #[.int .i64 W, .int .i64 H, .int .i64 F, .int .i64 L, .int .i64 X, .int .i64 Y] 23) (.cells #[.int .i64 nl, .int .i64 nh, .int .i64 xl, .int .i64 xh, .int .i64 y] 71) (.cells #[.slice A2 n2 cap2] 26)
  generalize ((w.alloc (.cells #[.int .i64 W, .int .i64 H, .int .i64 F, .int .i64 L, .int .i64 X, .int .i64 Y] 23)).alloc (.cells #[.int .i64 nl, .int .i64 nh, .int .i64 xl, .int .i64 xh, .int .i64 y] 71)).alloc (.cells #[.slice A2 n2 cap2] 26) = W0 at *
  have qhS := fun i => Blk.cell hS i
  have qhQ := fun i => Blk.cell hQ i
  have qhM := fun i => Blk.cell hM i
  have k39 : ∀ p : Blw W0.heap.size W0, Calls Tryz.prog 39 #[.slice A n cap] p.to fun e w' => e = .returned (.bool true) ∧ p.to = w' := fun p => by have h := few_any A n cap fs p.to hn (fun f h => ((hf f h).below (hB.trans (p.h.mono hB.size))).more (Nat.le_trans hB.size p.h.size)) (rdB hr (hB.trans (p.h.mono hB.size))); rw [hfw] at h; exact h
  have k23 : ∀ p : Blw W0.heap.size W0, Calls Tryz.prog 23 #[.slice SA sn scap] p.to fun e w' => e = .returned (.bool true) ∧ p.to = w' := fun p => by have h := short_any SA sn scap rs p.to hnS hss (rdB hsr (hB.trans (p.h.mono hB.size))); rw [hsh] at h; exact h
  have k23b : ∀ p : Blw W0.heap.size W0, Calls Tryz.prog 23 #[.slice A2 n2 cap2] p.to fun e w' => e = .returned (.bool true) ∧ p.to = w' := fun p => by have h := short_any A2 n2 cap2 rows2 p.to hnM hs2 (rdB hR2 (hB.trans (p.h.mono hB.size))); rw [hsh2] at h; exact h
  have k27 : ∀ p : Blw W0.heap.size W0, Calls Tryz.prog 27 #[.agg #[.int .i64 W, .int .i64 H, .int .i64 F, .int .i64 L, .int .i64 X, .int .i64 Y]] p.to fun e w' => e = .returned (.bool true) ∧ Below p.to.heap.size p.to w' := fun p => by have h := Stage_any W H F L X Y p.to; rw [hst] at h; exact h
  have k55 : ∀ p : Blw W0.heap.size W0, Calls Tryz.prog 55 #[.agg #[.int .i64 W, .int .i64 H, .int .i64 F, .int .i64 L, .int .i64 X, .int .i64 Y], .slice SA sn scap] p.to fun e w' => e = .returned (.bool true) ∧ Below p.to.heap.size p.to w' := fun p => by have h := refSight_any W H F L X Y SA sn scap rs p.to hnS hss (rdB hsr (hB.trans (p.h.mono hB.size))); rw [hsg] at h; exact h
  have k54 : ∀ p : Blw W0.heap.size W0, Calls Tryz.prog 54 #[.agg #[.int .i64 W, .int .i64 H, .int .i64 F, .int .i64 L, .int .i64 X, .int .i64 Y], .slice A n cap, .agg #[.int .i64 nl, .int .i64 nh, .int .i64 xl, .int .i64 xh, .int .i64 y], .bool true] p.to fun e w' => e = .returned (.int .i64 0) ∧ Below p.to.heap.size p.to w' := fun p => by have h := asked_any W H F L X Y nl nh xl xh y A n cap fs true p.to hn (fun f h => ((hf f h).below (hB.trans (p.h.mono hB.size))).more (Nat.le_trans hB.size p.h.size)) (rdB hr (hB.trans (p.h.mono hB.size))); rw [hak] at h; exact h
  have hbS := fun p i => blw_blk hS p i
  have hbQ := fun p i => blw_blk hQ p i
  have hbM := fun p i => blw_blk hM p i
  refine wp_region_blw (by kernel_rfl) (by kernel_rfl) ?_
  repeat (go_big_quiet_step (first | (go_at_call 39; exact Calls.blw_of_same _ (k39 _)) | (go_at_call_of 23 (Value.slice A2 n2 cap2); exact Calls.blw_of_same _ (k23b _)) | (go_at_call_of 23 (Value.slice SA sn scap); exact Calls.blw_of_same _ (k23 _)) | (go_at_call 27; exact Calls.blw_of _ (k27 _)) | (go_at_call 55; exact Calls.blw_of _ (k55 _)) | (go_at_call 54; exact Calls.blw_of _ (k54 _))))
  refine wpQuiet_nil ?_
  rintro W3 ⟨⟨_, hb⟩, rfl⟩
  clear qhS qhQ qhM hbS hbQ hbM k39 k23 k23b k27 k55 k54
  replace hS := hS.below hb hS.lt; replace hQ := hQ.below hb hQ.lt; replace hM := hM.below hb hM.lt; replace hB := hB.trans (hb.mono hB.size); clear hb; have qhS := fun i => Blk.cell hS i; have qhQ := fun i => Blk.cell hQ i; have qhM := fun i => Blk.cell hM i
  go_wp2_with ((go_at_call 24; refine (known_true m _ (known_at hm hB)).mono ?_; rintro e w1 ⟨rfl, hb⟩; (try replace hS := hS.below hb hS.lt); (try replace hQ := hQ.below hb hQ.lt); (try replace hM := hM.below hb hM.lt); replace hB := hB.trans (hb.mono hB.size); (try clear qhS); (try clear qhQ); (try clear qhM); clear hb; (try have qhS := fun i => Blk.cell hS i); (try have qhQ := fun i => Blk.cell hQ i); (try have qhM := fun i => Blk.cell hM i)))
  go_ret
  exact ⟨rfl, hB⟩
set_option maxRecDepth 100000 in
set_option maxHeartbeats 25600000 in
theorem more_x8 (Wn Hn : Nat) (F L X Y nl nh xl xh y k : Int) (bb : Bool) (fig : Int) (A : Option Addr) (n cap : Nat) (fs : List Fig) (SA : Option Addr) (sn scap : Nat) (rs : List ByteArray) (A2 : Option Addr) (n2 cap2 : Nat) (rows2 : List ByteArray) (m : Int) (w : World) (hm : w.cell? ⟨0, 0, none⟩ = some (.int .i64 m)) (hcap : n ≤ cap) (hcm : cap ≤ maxLen) (hf : ∀ f ∈ fs, f.ok w w.heap.size) (hr : Rd w w.heap.size 1 A n (fs.map Fig.val)) (hsn : sn ≤ scap) (hscm : scap ≤ maxLen) (hss : ∀ r ∈ rs, r.size ≤ maxLen) (hsr : Rd w w.heap.size 1 SA sn (rs.map Value.string)) (hc21 : n2 ≤ cap2) (hc22 : cap2 ≤ maxLen) (hs2 : ∀ r ∈ rows2, r.size ≤ maxLen) (hR2 : Rd w w.heap.size 1 A2 n2 (rows2.map Value.string)) (hfw : fewB fs = true) (hsh : shortB rs = true) (hsh2 : shortB rows2 = true) (hst : stageB Wn Hn F L X Y = true) (hsg : sightB Wn Hn rs = true) (hak : askV (askB Wn Hn F L X Y nl nh xl xh y fs && true) = 0) (h0 : ¬ k < 0) (hW : Wn ≤ 16) (hH : Hn ≤ 16) (h1 : (Wn : Int) * Hn ≤ k) :
    Calls Tryz.prog 19 #[.agg #[.int .i64 Wn, .int .i64 Hn, .int .i64 F, .int .i64 L, .int .i64 X, .int .i64 Y], .slice A n cap, .agg #[.int .i64 nl, .int .i64 nh, .int .i64 xl, .int .i64 xh, .int .i64 y], .slice SA sn scap, .int .i64 k, .bool bb, .agg #[.slice A2 n2 cap2], .int .i64 fig] w fun e w' => e = .returned (.bool true) ∧ Below w.heap.size w w' := by
  have hn : n ≤ maxLen := Nat.le_trans hcap hcm
  have hnS : sn ≤ maxLen := Nat.le_trans hsn hscm
  have hnM : n2 ≤ maxLen := Nat.le_trans hc21 hc22
  go_enter Tryz.func19, Tryz.ntmps19
  go_upto_region 1 with (fail)
  have hS := blk3_0 w (.cells #[.int .i64 nl, .int .i64 nh, .int .i64 xl, .int .i64 xh, .int .i64 y] 71) (.cells #[.slice A2 n2 cap2] 26) 23 #[.int .i64 Wn, .int .i64 Hn, .int .i64 F, .int .i64 L, .int .i64 X, .int .i64 Y]
  have hQ := blk3_1 w (.cells #[.int .i64 Wn, .int .i64 Hn, .int .i64 F, .int .i64 L, .int .i64 X, .int .i64 Y] 23) (.cells #[.slice A2 n2 cap2] 26) 71 #[.int .i64 nl, .int .i64 nh, .int .i64 xl, .int .i64 xh, .int .i64 y]
  have hM := blk3_2 w (.cells #[.int .i64 Wn, .int .i64 Hn, .int .i64 F, .int .i64 L, .int .i64 X, .int .i64 Y] 23) (.cells #[.int .i64 nl, .int .i64 nh, .int .i64 xl, .int .i64 xh, .int .i64 y] 71) 26 #[.slice A2 n2 cap2]
  have hB := pro_3 w (.cells #[.int .i64 Wn, .int .i64 Hn, .int .i64 F, .int .i64 L, .int .i64 X, .int .i64 Y] 23) (.cells #[.int .i64 nl, .int .i64 nh, .int .i64 xl, .int .i64 xh, .int .i64 y] 71) (.cells #[.slice A2 n2 cap2] 26)
  generalize ((w.alloc (.cells #[.int .i64 Wn, .int .i64 Hn, .int .i64 F, .int .i64 L, .int .i64 X, .int .i64 Y] 23)).alloc (.cells #[.int .i64 nl, .int .i64 nh, .int .i64 xl, .int .i64 xh, .int .i64 y] 71)).alloc (.cells #[.slice A2 n2 cap2] 26) = W0 at *
  have qhS := fun i => Blk.cell hS i
  have qhQ := fun i => Blk.cell hQ i
  have qhM := fun i => Blk.cell hM i
  have h2 : Wn * Hn ≤ 256 := Nat.mul_le_mul hW hH
  have h2i : (Wn : Int) * Hn ≤ 256 := by exact_mod_cast h2
  have h2j : (0 : Int) ≤ (Wn : Int) * Hn := Int.mul_nonneg (by omega) (by omega)
  have hmw := i64_ok ((Wn : Int) * Hn) (by omega)
  clear h2 h2i h2j
  have k39 : ∀ p : Blw W0.heap.size W0, Calls Tryz.prog 39 #[.slice A n cap] p.to fun e w' => e = .returned (.bool true) ∧ p.to = w' := fun p => by have h := few_any A n cap fs p.to hn (fun f h => ((hf f h).below (hB.trans (p.h.mono hB.size))).more (Nat.le_trans hB.size p.h.size)) (rdB hr (hB.trans (p.h.mono hB.size))); rw [hfw] at h; exact h
  have k23 : ∀ p : Blw W0.heap.size W0, Calls Tryz.prog 23 #[.slice SA sn scap] p.to fun e w' => e = .returned (.bool true) ∧ p.to = w' := fun p => by have h := short_any SA sn scap rs p.to hnS hss (rdB hsr (hB.trans (p.h.mono hB.size))); rw [hsh] at h; exact h
  have k23b : ∀ p : Blw W0.heap.size W0, Calls Tryz.prog 23 #[.slice A2 n2 cap2] p.to fun e w' => e = .returned (.bool true) ∧ p.to = w' := fun p => by have h := short_any A2 n2 cap2 rows2 p.to hnM hs2 (rdB hR2 (hB.trans (p.h.mono hB.size))); rw [hsh2] at h; exact h
  have k27 : ∀ p : Blw W0.heap.size W0, Calls Tryz.prog 27 #[.agg #[.int .i64 Wn, .int .i64 Hn, .int .i64 F, .int .i64 L, .int .i64 X, .int .i64 Y]] p.to fun e w' => e = .returned (.bool true) ∧ Below p.to.heap.size p.to w' := fun p => by have h := Stage_any Wn Hn F L X Y p.to; rw [hst] at h; exact h
  have k55 : ∀ p : Blw W0.heap.size W0, Calls Tryz.prog 55 #[.agg #[.int .i64 Wn, .int .i64 Hn, .int .i64 F, .int .i64 L, .int .i64 X, .int .i64 Y], .slice SA sn scap] p.to fun e w' => e = .returned (.bool true) ∧ Below p.to.heap.size p.to w' := fun p => by have h := refSight_any Wn Hn F L X Y SA sn scap rs p.to hnS hss (rdB hsr (hB.trans (p.h.mono hB.size))); rw [hsg] at h; exact h
  have k54 : ∀ p : Blw W0.heap.size W0, Calls Tryz.prog 54 #[.agg #[.int .i64 Wn, .int .i64 Hn, .int .i64 F, .int .i64 L, .int .i64 X, .int .i64 Y], .slice A n cap, .agg #[.int .i64 nl, .int .i64 nh, .int .i64 xl, .int .i64 xh, .int .i64 y], .bool true] p.to fun e w' => e = .returned (.int .i64 0) ∧ Below p.to.heap.size p.to w' := fun p => by have h := asked_any Wn Hn F L X Y nl nh xl xh y A n cap fs true p.to hn (fun f h => ((hf f h).below (hB.trans (p.h.mono hB.size))).more (Nat.le_trans hB.size p.h.size)) (rdB hr (hB.trans (p.h.mono hB.size))); rw [hak] at h; exact h
  have hbS := fun p i => blw_blk hS p i
  have hbQ := fun p i => blw_blk hQ p i
  have hbM := fun p i => blw_blk hM p i
  refine wp_region_blw (by kernel_rfl) (by kernel_rfl) ?_
  repeat (go_big_quiet_step (first | (go_at_call 39; exact Calls.blw_of_same _ (k39 _)) | (go_at_call_of 23 (Value.slice A2 n2 cap2); exact Calls.blw_of_same _ (k23b _)) | (go_at_call_of 23 (Value.slice SA sn scap); exact Calls.blw_of_same _ (k23 _)) | (go_at_call 27; exact Calls.blw_of _ (k27 _)) | (go_at_call 55; exact Calls.blw_of _ (k55 _)) | (go_at_call 54; exact Calls.blw_of _ (k54 _))))
  refine wpQuiet_nil ?_
  rintro W3 ⟨⟨_, hb⟩, rfl⟩
  clear qhS qhQ qhM hbS hbQ hbM k39 k23 k23b k27 k55 k54
  replace hS := hS.below hb hS.lt; replace hQ := hQ.below hb hQ.lt; replace hM := hM.below hb hM.lt; replace hB := hB.trans (hb.mono hB.size); clear hb; have qhS := fun i => Blk.cell hS i; have qhQ := fun i => Blk.cell hQ i; have qhM := fun i => Blk.cell hM i
  go_wp2_with ((go_at_call 24; refine (known_true m _ (known_at hm hB)).mono ?_; rintro e w1 ⟨rfl, hb⟩; (try replace hS := hS.below hb hS.lt); (try replace hQ := hQ.below hb hQ.lt); (try replace hM := hM.below hb hM.lt); replace hB := hB.trans (hb.mono hB.size); (try clear qhS); (try clear qhQ); (try clear qhM); clear hb; (try have qhS := fun i => Blk.cell hS i); (try have qhQ := fun i => Blk.cell hQ i); (try have qhM := fun i => Blk.cell hM i)))
  go_ret
  exact ⟨rfl, hB⟩
set_option maxRecDepth 100000 in
set_option maxHeartbeats 25600000 in
theorem more_x9 (Wn Hn : Nat) (F L X Y nl nh xl xh y k : Int) (bb : Bool) (fig : Int) (A : Option Addr) (n cap : Nat) (fs : List Fig) (SA : Option Addr) (sn scap : Nat) (rs : List ByteArray) (A2 : Option Addr) (n2 cap2 : Nat) (rows2 : List ByteArray) (m : Int) (w : World) (hm : w.cell? ⟨0, 0, none⟩ = some (.int .i64 m)) (hcap : n ≤ cap) (hcm : cap ≤ maxLen) (hf : ∀ f ∈ fs, f.ok w w.heap.size) (hr : Rd w w.heap.size 1 A n (fs.map Fig.val)) (hsn : sn ≤ scap) (hscm : scap ≤ maxLen) (hss : ∀ r ∈ rs, r.size ≤ maxLen) (hsr : Rd w w.heap.size 1 SA sn (rs.map Value.string)) (hc21 : n2 ≤ cap2) (hc22 : cap2 ≤ maxLen) (hs2 : ∀ r ∈ rows2, r.size ≤ maxLen) (hR2 : Rd w w.heap.size 1 A2 n2 (rows2.map Value.string)) (hfw : fewB fs = true) (hsh : shortB rs = true) (hsh2 : shortB rows2 = true) (hst : stageB Wn Hn F L X Y = true) (hsg : sightB Wn Hn rs = true) (hak : askV (askB Wn Hn F L X Y nl nh xl xh y fs && true) = 0) (h0 : ¬ k < 0) (hW : Wn ≤ 16) (hH : Hn ≤ 16) (h1 : ¬ (Wn : Int) * Hn ≤ k) (hfg : figB rows2 = false) :
    Calls Tryz.prog 19 #[.agg #[.int .i64 Wn, .int .i64 Hn, .int .i64 F, .int .i64 L, .int .i64 X, .int .i64 Y], .slice A n cap, .agg #[.int .i64 nl, .int .i64 nh, .int .i64 xl, .int .i64 xh, .int .i64 y], .slice SA sn scap, .int .i64 k, .bool bb, .agg #[.slice A2 n2 cap2], .int .i64 fig] w fun e w' => e = .returned (.bool true) ∧ Below w.heap.size w w' := by
  have hn : n ≤ maxLen := Nat.le_trans hcap hcm
  have hnS : sn ≤ maxLen := Nat.le_trans hsn hscm
  have hnM : n2 ≤ maxLen := Nat.le_trans hc21 hc22
  go_enter Tryz.func19, Tryz.ntmps19
  go_upto_region 1 with (fail)
  have hS := blk3_0 w (.cells #[.int .i64 nl, .int .i64 nh, .int .i64 xl, .int .i64 xh, .int .i64 y] 71) (.cells #[.slice A2 n2 cap2] 26) 23 #[.int .i64 Wn, .int .i64 Hn, .int .i64 F, .int .i64 L, .int .i64 X, .int .i64 Y]
  have hQ := blk3_1 w (.cells #[.int .i64 Wn, .int .i64 Hn, .int .i64 F, .int .i64 L, .int .i64 X, .int .i64 Y] 23) (.cells #[.slice A2 n2 cap2] 26) 71 #[.int .i64 nl, .int .i64 nh, .int .i64 xl, .int .i64 xh, .int .i64 y]
  have hM := blk3_2 w (.cells #[.int .i64 Wn, .int .i64 Hn, .int .i64 F, .int .i64 L, .int .i64 X, .int .i64 Y] 23) (.cells #[.int .i64 nl, .int .i64 nh, .int .i64 xl, .int .i64 xh, .int .i64 y] 71) 26 #[.slice A2 n2 cap2]
  have hB := pro_3 w (.cells #[.int .i64 Wn, .int .i64 Hn, .int .i64 F, .int .i64 L, .int .i64 X, .int .i64 Y] 23) (.cells #[.int .i64 nl, .int .i64 nh, .int .i64 xl, .int .i64 xh, .int .i64 y] 71) (.cells #[.slice A2 n2 cap2] 26)
  generalize ((w.alloc (.cells #[.int .i64 Wn, .int .i64 Hn, .int .i64 F, .int .i64 L, .int .i64 X, .int .i64 Y] 23)).alloc (.cells #[.int .i64 nl, .int .i64 nh, .int .i64 xl, .int .i64 xh, .int .i64 y] 71)).alloc (.cells #[.slice A2 n2 cap2] 26) = W0 at *
  have qhS := fun i => Blk.cell hS i
  have qhQ := fun i => Blk.cell hQ i
  have qhM := fun i => Blk.cell hM i
  have h2 : Wn * Hn ≤ 256 := Nat.mul_le_mul hW hH
  have h2i : (Wn : Int) * Hn ≤ 256 := by exact_mod_cast h2
  have h2j : (0 : Int) ≤ (Wn : Int) * Hn := Int.mul_nonneg (by omega) (by omega)
  have hmw := i64_ok ((Wn : Int) * Hn) (by omega)
  clear h2 h2i h2j
  have k39 : ∀ p : Blw W0.heap.size W0, Calls Tryz.prog 39 #[.slice A n cap] p.to fun e w' => e = .returned (.bool true) ∧ p.to = w' := fun p => by have h := few_any A n cap fs p.to hn (fun f h => ((hf f h).below (hB.trans (p.h.mono hB.size))).more (Nat.le_trans hB.size p.h.size)) (rdB hr (hB.trans (p.h.mono hB.size))); rw [hfw] at h; exact h
  have k23 : ∀ p : Blw W0.heap.size W0, Calls Tryz.prog 23 #[.slice SA sn scap] p.to fun e w' => e = .returned (.bool true) ∧ p.to = w' := fun p => by have h := short_any SA sn scap rs p.to hnS hss (rdB hsr (hB.trans (p.h.mono hB.size))); rw [hsh] at h; exact h
  have k23b : ∀ p : Blw W0.heap.size W0, Calls Tryz.prog 23 #[.slice A2 n2 cap2] p.to fun e w' => e = .returned (.bool true) ∧ p.to = w' := fun p => by have h := short_any A2 n2 cap2 rows2 p.to hnM hs2 (rdB hR2 (hB.trans (p.h.mono hB.size))); rw [hsh2] at h; exact h
  have k27 : ∀ p : Blw W0.heap.size W0, Calls Tryz.prog 27 #[.agg #[.int .i64 Wn, .int .i64 Hn, .int .i64 F, .int .i64 L, .int .i64 X, .int .i64 Y]] p.to fun e w' => e = .returned (.bool true) ∧ Below p.to.heap.size p.to w' := fun p => by have h := Stage_any Wn Hn F L X Y p.to; rw [hst] at h; exact h
  have k55 : ∀ p : Blw W0.heap.size W0, Calls Tryz.prog 55 #[.agg #[.int .i64 Wn, .int .i64 Hn, .int .i64 F, .int .i64 L, .int .i64 X, .int .i64 Y], .slice SA sn scap] p.to fun e w' => e = .returned (.bool true) ∧ Below p.to.heap.size p.to w' := fun p => by have h := refSight_any Wn Hn F L X Y SA sn scap rs p.to hnS hss (rdB hsr (hB.trans (p.h.mono hB.size))); rw [hsg] at h; exact h
  have k54 : ∀ p : Blw W0.heap.size W0, Calls Tryz.prog 54 #[.agg #[.int .i64 Wn, .int .i64 Hn, .int .i64 F, .int .i64 L, .int .i64 X, .int .i64 Y], .slice A n cap, .agg #[.int .i64 nl, .int .i64 nh, .int .i64 xl, .int .i64 xh, .int .i64 y], .bool true] p.to fun e w' => e = .returned (.int .i64 0) ∧ Below p.to.heap.size p.to w' := fun p => by have h := asked_any Wn Hn F L X Y nl nh xl xh y A n cap fs true p.to hn (fun f h => ((hf f h).below (hB.trans (p.h.mono hB.size))).more (Nat.le_trans hB.size p.h.size)) (rdB hr (hB.trans (p.h.mono hB.size))); rw [hak] at h; exact h
  have k28 : ∀ p : Blw W0.heap.size W0, Calls Tryz.prog 28 #[.agg #[.slice A2 n2 cap2]] p.to fun e w' => e = .returned (.bool false) ∧ Below p.to.heap.size p.to w' := fun p => by have h := refFigure_any A2 n2 cap2 rows2 p.to hnM hs2 (rdB hR2 (hB.trans (p.h.mono hB.size))); rw [hfg] at h; exact h
  have hbS := fun p i => blw_blk hS p i
  have hbQ := fun p i => blw_blk hQ p i
  have hbM := fun p i => blw_blk hM p i
  refine wp_region_blw (by kernel_rfl) (by kernel_rfl) ?_
  repeat (go_big_quiet_step (first | (go_at_call 39; exact Calls.blw_of_same _ (k39 _)) | (go_at_call_of 23 (Value.slice A2 n2 cap2); exact Calls.blw_of_same _ (k23b _)) | (go_at_call_of 23 (Value.slice SA sn scap); exact Calls.blw_of_same _ (k23 _)) | (go_at_call 27; exact Calls.blw_of _ (k27 _)) | (go_at_call 55; exact Calls.blw_of _ (k55 _)) | (go_at_call 54; exact Calls.blw_of _ (k54 _)) | (go_at_call 28; exact Calls.blw_of _ (k28 _))))
  refine wpQuiet_nil ?_
  rintro W3 ⟨⟨_, hb⟩, rfl⟩
  clear qhS qhQ qhM hbS hbQ hbM k39 k23 k23b k27 k55 k54 k28
  replace hS := hS.below hb hS.lt; replace hQ := hQ.below hb hQ.lt; replace hM := hM.below hb hM.lt; replace hB := hB.trans (hb.mono hB.size); clear hb; have qhS := fun i => Blk.cell hS i; have qhQ := fun i => Blk.cell hQ i; have qhM := fun i => Blk.cell hM i
  go_wp2_with ((go_at_call 24; refine (known_true m _ (known_at hm hB)).mono ?_; rintro e w1 ⟨rfl, hb⟩; (try replace hS := hS.below hb hS.lt); (try replace hQ := hQ.below hb hQ.lt); (try replace hM := hM.below hb hM.lt); replace hB := hB.trans (hb.mono hB.size); (try clear qhS); (try clear qhQ); (try clear qhM); clear hb; (try have qhS := fun i => Blk.cell hS i); (try have qhQ := fun i => Blk.cell hQ i); (try have qhM := fun i => Blk.cell hM i)))
  go_ret
  exact ⟨rfl, hB⟩
set_option maxRecDepth 100000 in
set_option maxHeartbeats 25600000 in
theorem more_x10 (Wn Hn : Nat) (F L X Y nl nh xl xh y k : Int) (bb : Bool) (fig : Int) (A : Option Addr) (n cap : Nat) (fs : List Fig) (SA : Option Addr) (sn scap : Nat) (rs : List ByteArray) (A2 : Option Addr) (n2 cap2 : Nat) (rows2 : List ByteArray) (m : Int) (w : World) (hm : w.cell? ⟨0, 0, none⟩ = some (.int .i64 m)) (hcap : n ≤ cap) (hcm : cap ≤ maxLen) (hf : ∀ f ∈ fs, f.ok w w.heap.size) (hr : Rd w w.heap.size 1 A n (fs.map Fig.val)) (hsn : sn ≤ scap) (hscm : scap ≤ maxLen) (hss : ∀ r ∈ rs, r.size ≤ maxLen) (hsr : Rd w w.heap.size 1 SA sn (rs.map Value.string)) (hc21 : n2 ≤ cap2) (hc22 : cap2 ≤ maxLen) (hs2 : ∀ r ∈ rows2, r.size ≤ maxLen) (hR2 : Rd w w.heap.size 1 A2 n2 (rows2.map Value.string)) (hfw : fewB fs = true) (hsh : shortB rs = true) (hsh2 : shortB rows2 = true) (hst : stageB Wn Hn F L X Y = true) (hsg : sightB Wn Hn rs = true) (hak : askV (askB Wn Hn F L X Y nl nh xl xh y fs && true) = 0) (h0 : ¬ k < 0) (hW : Wn ≤ 16) (hH : Hn ≤ 16) (h1 : ¬ (Wn : Int) * Hn ≤ k) (hfg : figB rows2 = true) (h6 : (6 : Int) ≤ n) :
    Calls Tryz.prog 19 #[.agg #[.int .i64 Wn, .int .i64 Hn, .int .i64 F, .int .i64 L, .int .i64 X, .int .i64 Y], .slice A n cap, .agg #[.int .i64 nl, .int .i64 nh, .int .i64 xl, .int .i64 xh, .int .i64 y], .slice SA sn scap, .int .i64 k, .bool bb, .agg #[.slice A2 n2 cap2], .int .i64 fig] w fun e w' => e = .returned (.bool true) ∧ Below w.heap.size w w' := by
  have hn : n ≤ maxLen := Nat.le_trans hcap hcm
  have hnS : sn ≤ maxLen := Nat.le_trans hsn hscm
  have hnM : n2 ≤ maxLen := Nat.le_trans hc21 hc22
  go_enter Tryz.func19, Tryz.ntmps19
  go_upto_region 1 with (fail)
  have hS := blk3_0 w (.cells #[.int .i64 nl, .int .i64 nh, .int .i64 xl, .int .i64 xh, .int .i64 y] 71) (.cells #[.slice A2 n2 cap2] 26) 23 #[.int .i64 Wn, .int .i64 Hn, .int .i64 F, .int .i64 L, .int .i64 X, .int .i64 Y]
  have hQ := blk3_1 w (.cells #[.int .i64 Wn, .int .i64 Hn, .int .i64 F, .int .i64 L, .int .i64 X, .int .i64 Y] 23) (.cells #[.slice A2 n2 cap2] 26) 71 #[.int .i64 nl, .int .i64 nh, .int .i64 xl, .int .i64 xh, .int .i64 y]
  have hM := blk3_2 w (.cells #[.int .i64 Wn, .int .i64 Hn, .int .i64 F, .int .i64 L, .int .i64 X, .int .i64 Y] 23) (.cells #[.int .i64 nl, .int .i64 nh, .int .i64 xl, .int .i64 xh, .int .i64 y] 71) 26 #[.slice A2 n2 cap2]
  have hB := pro_3 w (.cells #[.int .i64 Wn, .int .i64 Hn, .int .i64 F, .int .i64 L, .int .i64 X, .int .i64 Y] 23) (.cells #[.int .i64 nl, .int .i64 nh, .int .i64 xl, .int .i64 xh, .int .i64 y] 71) (.cells #[.slice A2 n2 cap2] 26)
  generalize ((w.alloc (.cells #[.int .i64 Wn, .int .i64 Hn, .int .i64 F, .int .i64 L, .int .i64 X, .int .i64 Y] 23)).alloc (.cells #[.int .i64 nl, .int .i64 nh, .int .i64 xl, .int .i64 xh, .int .i64 y] 71)).alloc (.cells #[.slice A2 n2 cap2] 26) = W0 at *
  have qhS := fun i => Blk.cell hS i
  have qhQ := fun i => Blk.cell hQ i
  have qhM := fun i => Blk.cell hM i
  have h2 : Wn * Hn ≤ 256 := Nat.mul_le_mul hW hH
  have h2i : (Wn : Int) * Hn ≤ 256 := by exact_mod_cast h2
  have h2j : (0 : Int) ≤ (Wn : Int) * Hn := Int.mul_nonneg (by omega) (by omega)
  have hmw := i64_ok ((Wn : Int) * Hn) (by omega)
  clear h2 h2i h2j
  have k39 : ∀ p : Blw W0.heap.size W0, Calls Tryz.prog 39 #[.slice A n cap] p.to fun e w' => e = .returned (.bool true) ∧ p.to = w' := fun p => by have h := few_any A n cap fs p.to hn (fun f h => ((hf f h).below (hB.trans (p.h.mono hB.size))).more (Nat.le_trans hB.size p.h.size)) (rdB hr (hB.trans (p.h.mono hB.size))); rw [hfw] at h; exact h
  have k23 : ∀ p : Blw W0.heap.size W0, Calls Tryz.prog 23 #[.slice SA sn scap] p.to fun e w' => e = .returned (.bool true) ∧ p.to = w' := fun p => by have h := short_any SA sn scap rs p.to hnS hss (rdB hsr (hB.trans (p.h.mono hB.size))); rw [hsh] at h; exact h
  have k23b : ∀ p : Blw W0.heap.size W0, Calls Tryz.prog 23 #[.slice A2 n2 cap2] p.to fun e w' => e = .returned (.bool true) ∧ p.to = w' := fun p => by have h := short_any A2 n2 cap2 rows2 p.to hnM hs2 (rdB hR2 (hB.trans (p.h.mono hB.size))); rw [hsh2] at h; exact h
  have k27 : ∀ p : Blw W0.heap.size W0, Calls Tryz.prog 27 #[.agg #[.int .i64 Wn, .int .i64 Hn, .int .i64 F, .int .i64 L, .int .i64 X, .int .i64 Y]] p.to fun e w' => e = .returned (.bool true) ∧ Below p.to.heap.size p.to w' := fun p => by have h := Stage_any Wn Hn F L X Y p.to; rw [hst] at h; exact h
  have k55 : ∀ p : Blw W0.heap.size W0, Calls Tryz.prog 55 #[.agg #[.int .i64 Wn, .int .i64 Hn, .int .i64 F, .int .i64 L, .int .i64 X, .int .i64 Y], .slice SA sn scap] p.to fun e w' => e = .returned (.bool true) ∧ Below p.to.heap.size p.to w' := fun p => by have h := refSight_any Wn Hn F L X Y SA sn scap rs p.to hnS hss (rdB hsr (hB.trans (p.h.mono hB.size))); rw [hsg] at h; exact h
  have k54 : ∀ p : Blw W0.heap.size W0, Calls Tryz.prog 54 #[.agg #[.int .i64 Wn, .int .i64 Hn, .int .i64 F, .int .i64 L, .int .i64 X, .int .i64 Y], .slice A n cap, .agg #[.int .i64 nl, .int .i64 nh, .int .i64 xl, .int .i64 xh, .int .i64 y], .bool true] p.to fun e w' => e = .returned (.int .i64 0) ∧ Below p.to.heap.size p.to w' := fun p => by have h := asked_any Wn Hn F L X Y nl nh xl xh y A n cap fs true p.to hn (fun f h => ((hf f h).below (hB.trans (p.h.mono hB.size))).more (Nat.le_trans hB.size p.h.size)) (rdB hr (hB.trans (p.h.mono hB.size))); rw [hak] at h; exact h
  have k28 : ∀ p : Blw W0.heap.size W0, Calls Tryz.prog 28 #[.agg #[.slice A2 n2 cap2]] p.to fun e w' => e = .returned (.bool true) ∧ Below p.to.heap.size p.to w' := fun p => by have h := refFigure_any A2 n2 cap2 rows2 p.to hnM hs2 (rdB hR2 (hB.trans (p.h.mono hB.size))); rw [hfg] at h; exact h
  have hbS := fun p i => blw_blk hS p i
  have hbQ := fun p i => blw_blk hQ p i
  have hbM := fun p i => blw_blk hM p i
  refine wp_region_blw (by kernel_rfl) (by kernel_rfl) ?_
  repeat (go_big_quiet_step (first | (go_at_call 39; exact Calls.blw_of_same _ (k39 _)) | (go_at_call_of 23 (Value.slice A2 n2 cap2); exact Calls.blw_of_same _ (k23b _)) | (go_at_call_of 23 (Value.slice SA sn scap); exact Calls.blw_of_same _ (k23 _)) | (go_at_call 27; exact Calls.blw_of _ (k27 _)) | (go_at_call 55; exact Calls.blw_of _ (k55 _)) | (go_at_call 54; exact Calls.blw_of _ (k54 _)) | (go_at_call 28; exact Calls.blw_of _ (k28 _))))
  refine wpQuiet_nil ?_
  rintro W3 ⟨⟨_, hb⟩, rfl⟩
  clear qhS qhQ qhM hbS hbQ hbM k39 k23 k23b k27 k55 k54 k28
  replace hS := hS.below hb hS.lt; replace hQ := hQ.below hb hQ.lt; replace hM := hM.below hb hM.lt; replace hB := hB.trans (hb.mono hB.size); clear hb; have qhS := fun i => Blk.cell hS i; have qhQ := fun i => Blk.cell hQ i; have qhM := fun i => Blk.cell hM i
  go_wp2_with ((go_at_call 24; refine (known_true m _ (known_at hm hB)).mono ?_; rintro e w1 ⟨rfl, hb⟩; (try replace hS := hS.below hb hS.lt); (try replace hQ := hQ.below hb hQ.lt); (try replace hM := hM.below hb hM.lt); replace hB := hB.trans (hb.mono hB.size); (try clear qhS); (try clear qhQ); (try clear qhM); clear hb; (try have qhS := fun i => Blk.cell hS i); (try have qhQ := fun i => Blk.cell hQ i); (try have qhM := fun i => Blk.cell hM i)))
  go_ret
  exact ⟨rfl, hB⟩
set_option maxRecDepth 100000 in
set_option maxHeartbeats 25600000 in
theorem more_x11 (Wn Hn : Nat) (F L X Y nl nh xl xh y k : Int) (bb : Bool) (fig : Int) (A : Option Addr) (n cap : Nat) (fs : List Fig) (SA : Option Addr) (sn scap : Nat) (rs : List ByteArray) (A2 : Option Addr) (n2 cap2 : Nat) (rows2 : List ByteArray) (m : Int) (w : World) (hm : w.cell? ⟨0, 0, none⟩ = some (.int .i64 m)) (hcap : n ≤ cap) (hcm : cap ≤ maxLen) (hf : ∀ f ∈ fs, f.ok w w.heap.size) (hr : Rd w w.heap.size 1 A n (fs.map Fig.val)) (hsn : sn ≤ scap) (hscm : scap ≤ maxLen) (hss : ∀ r ∈ rs, r.size ≤ maxLen) (hsr : Rd w w.heap.size 1 SA sn (rs.map Value.string)) (hc21 : n2 ≤ cap2) (hc22 : cap2 ≤ maxLen) (hs2 : ∀ r ∈ rows2, r.size ≤ maxLen) (hR2 : Rd w w.heap.size 1 A2 n2 (rows2.map Value.string)) (hfw : fewB fs = true) (hsh : shortB rs = true) (hsh2 : shortB rows2 = true) (hst : stageB Wn Hn F L X Y = true) (hsg : sightB Wn Hn rs = true) (hak : askV (askB Wn Hn F L X Y nl nh xl xh y fs && true) = 0) (h0 : ¬ k < 0) (hW : Wn ≤ 16) (hH : Hn ≤ 16) (h1 : ¬ (Wn : Int) * Hn ≤ k) (hfg : figB rows2 = true) (h6 : ¬ (6 : Int) ≤ n) (h7 : fig < 0) :
    Calls Tryz.prog 19 #[.agg #[.int .i64 Wn, .int .i64 Hn, .int .i64 F, .int .i64 L, .int .i64 X, .int .i64 Y], .slice A n cap, .agg #[.int .i64 nl, .int .i64 nh, .int .i64 xl, .int .i64 xh, .int .i64 y], .slice SA sn scap, .int .i64 k, .bool bb, .agg #[.slice A2 n2 cap2], .int .i64 fig] w fun e w' => e = .returned (.bool true) ∧ Below w.heap.size w w' := by
  have hn : n ≤ maxLen := Nat.le_trans hcap hcm
  have hnS : sn ≤ maxLen := Nat.le_trans hsn hscm
  have hnM : n2 ≤ maxLen := Nat.le_trans hc21 hc22
  go_enter Tryz.func19, Tryz.ntmps19
  go_upto_region 1 with (fail)
  have hS := blk3_0 w (.cells #[.int .i64 nl, .int .i64 nh, .int .i64 xl, .int .i64 xh, .int .i64 y] 71) (.cells #[.slice A2 n2 cap2] 26) 23 #[.int .i64 Wn, .int .i64 Hn, .int .i64 F, .int .i64 L, .int .i64 X, .int .i64 Y]
  have hQ := blk3_1 w (.cells #[.int .i64 Wn, .int .i64 Hn, .int .i64 F, .int .i64 L, .int .i64 X, .int .i64 Y] 23) (.cells #[.slice A2 n2 cap2] 26) 71 #[.int .i64 nl, .int .i64 nh, .int .i64 xl, .int .i64 xh, .int .i64 y]
  have hM := blk3_2 w (.cells #[.int .i64 Wn, .int .i64 Hn, .int .i64 F, .int .i64 L, .int .i64 X, .int .i64 Y] 23) (.cells #[.int .i64 nl, .int .i64 nh, .int .i64 xl, .int .i64 xh, .int .i64 y] 71) 26 #[.slice A2 n2 cap2]
  have hB := pro_3 w (.cells #[.int .i64 Wn, .int .i64 Hn, .int .i64 F, .int .i64 L, .int .i64 X, .int .i64 Y] 23) (.cells #[.int .i64 nl, .int .i64 nh, .int .i64 xl, .int .i64 xh, .int .i64 y] 71) (.cells #[.slice A2 n2 cap2] 26)
  generalize ((w.alloc (.cells #[.int .i64 Wn, .int .i64 Hn, .int .i64 F, .int .i64 L, .int .i64 X, .int .i64 Y] 23)).alloc (.cells #[.int .i64 nl, .int .i64 nh, .int .i64 xl, .int .i64 xh, .int .i64 y] 71)).alloc (.cells #[.slice A2 n2 cap2] 26) = W0 at *
  have qhS := fun i => Blk.cell hS i
  have qhQ := fun i => Blk.cell hQ i
  have qhM := fun i => Blk.cell hM i
  have h2 : Wn * Hn ≤ 256 := Nat.mul_le_mul hW hH
  have h2i : (Wn : Int) * Hn ≤ 256 := by exact_mod_cast h2
  have h2j : (0 : Int) ≤ (Wn : Int) * Hn := Int.mul_nonneg (by omega) (by omega)
  have hmw := i64_ok ((Wn : Int) * Hn) (by omega)
  clear h2 h2i h2j
  have k39 : ∀ p : Blw W0.heap.size W0, Calls Tryz.prog 39 #[.slice A n cap] p.to fun e w' => e = .returned (.bool true) ∧ p.to = w' := fun p => by have h := few_any A n cap fs p.to hn (fun f h => ((hf f h).below (hB.trans (p.h.mono hB.size))).more (Nat.le_trans hB.size p.h.size)) (rdB hr (hB.trans (p.h.mono hB.size))); rw [hfw] at h; exact h
  have k23 : ∀ p : Blw W0.heap.size W0, Calls Tryz.prog 23 #[.slice SA sn scap] p.to fun e w' => e = .returned (.bool true) ∧ p.to = w' := fun p => by have h := short_any SA sn scap rs p.to hnS hss (rdB hsr (hB.trans (p.h.mono hB.size))); rw [hsh] at h; exact h
  have k23b : ∀ p : Blw W0.heap.size W0, Calls Tryz.prog 23 #[.slice A2 n2 cap2] p.to fun e w' => e = .returned (.bool true) ∧ p.to = w' := fun p => by have h := short_any A2 n2 cap2 rows2 p.to hnM hs2 (rdB hR2 (hB.trans (p.h.mono hB.size))); rw [hsh2] at h; exact h
  have k27 : ∀ p : Blw W0.heap.size W0, Calls Tryz.prog 27 #[.agg #[.int .i64 Wn, .int .i64 Hn, .int .i64 F, .int .i64 L, .int .i64 X, .int .i64 Y]] p.to fun e w' => e = .returned (.bool true) ∧ Below p.to.heap.size p.to w' := fun p => by have h := Stage_any Wn Hn F L X Y p.to; rw [hst] at h; exact h
  have k55 : ∀ p : Blw W0.heap.size W0, Calls Tryz.prog 55 #[.agg #[.int .i64 Wn, .int .i64 Hn, .int .i64 F, .int .i64 L, .int .i64 X, .int .i64 Y], .slice SA sn scap] p.to fun e w' => e = .returned (.bool true) ∧ Below p.to.heap.size p.to w' := fun p => by have h := refSight_any Wn Hn F L X Y SA sn scap rs p.to hnS hss (rdB hsr (hB.trans (p.h.mono hB.size))); rw [hsg] at h; exact h
  have k54 : ∀ p : Blw W0.heap.size W0, Calls Tryz.prog 54 #[.agg #[.int .i64 Wn, .int .i64 Hn, .int .i64 F, .int .i64 L, .int .i64 X, .int .i64 Y], .slice A n cap, .agg #[.int .i64 nl, .int .i64 nh, .int .i64 xl, .int .i64 xh, .int .i64 y], .bool true] p.to fun e w' => e = .returned (.int .i64 0) ∧ Below p.to.heap.size p.to w' := fun p => by have h := asked_any Wn Hn F L X Y nl nh xl xh y A n cap fs true p.to hn (fun f h => ((hf f h).below (hB.trans (p.h.mono hB.size))).more (Nat.le_trans hB.size p.h.size)) (rdB hr (hB.trans (p.h.mono hB.size))); rw [hak] at h; exact h
  have k28 : ∀ p : Blw W0.heap.size W0, Calls Tryz.prog 28 #[.agg #[.slice A2 n2 cap2]] p.to fun e w' => e = .returned (.bool true) ∧ Below p.to.heap.size p.to w' := fun p => by have h := refFigure_any A2 n2 cap2 rows2 p.to hnM hs2 (rdB hR2 (hB.trans (p.h.mono hB.size))); rw [hfg] at h; exact h
  have hbS := fun p i => blw_blk hS p i
  have hbQ := fun p i => blw_blk hQ p i
  have hbM := fun p i => blw_blk hM p i
  refine wp_region_blw (by kernel_rfl) (by kernel_rfl) ?_
  repeat (go_big_quiet_step (first | (go_at_call 39; exact Calls.blw_of_same _ (k39 _)) | (go_at_call_of 23 (Value.slice A2 n2 cap2); exact Calls.blw_of_same _ (k23b _)) | (go_at_call_of 23 (Value.slice SA sn scap); exact Calls.blw_of_same _ (k23 _)) | (go_at_call 27; exact Calls.blw_of _ (k27 _)) | (go_at_call 55; exact Calls.blw_of _ (k55 _)) | (go_at_call 54; exact Calls.blw_of _ (k54 _)) | (go_at_call 28; exact Calls.blw_of _ (k28 _))))
  refine wpQuiet_nil ?_
  rintro W3 ⟨⟨_, hb⟩, rfl⟩
  clear qhS qhQ qhM hbS hbQ hbM k39 k23 k23b k27 k55 k54 k28
  replace hS := hS.below hb hS.lt; replace hQ := hQ.below hb hQ.lt; replace hM := hM.below hb hM.lt; replace hB := hB.trans (hb.mono hB.size); clear hb; have qhS := fun i => Blk.cell hS i; have qhQ := fun i => Blk.cell hQ i; have qhM := fun i => Blk.cell hM i
  go_wp2_with ((go_at_call 24; refine (known_true m _ (known_at hm hB)).mono ?_; rintro e w1 ⟨rfl, hb⟩; (try replace hS := hS.below hb hS.lt); (try replace hQ := hQ.below hb hQ.lt); (try replace hM := hM.below hb hM.lt); replace hB := hB.trans (hb.mono hB.size); (try clear qhS); (try clear qhQ); (try clear qhM); clear hb; (try have qhS := fun i => Blk.cell hS i); (try have qhQ := fun i => Blk.cell hQ i); (try have qhM := fun i => Blk.cell hM i)))
  go_ret
  exact ⟨rfl, hB⟩
set_option maxRecDepth 100000 in
set_option maxHeartbeats 25600000 in
theorem more_x12 (Wn Hn : Nat) (F L X Y nl nh xl xh y k : Int) (bb : Bool) (fig : Int) (A : Option Addr) (n cap : Nat) (fs : List Fig) (SA : Option Addr) (sn scap : Nat) (rs : List ByteArray) (A2 : Option Addr) (n2 cap2 : Nat) (rows2 : List ByteArray) (m : Int) (w : World) (hm : w.cell? ⟨0, 0, none⟩ = some (.int .i64 m)) (hcap : n ≤ cap) (hcm : cap ≤ maxLen) (hf : ∀ f ∈ fs, f.ok w w.heap.size) (hr : Rd w w.heap.size 1 A n (fs.map Fig.val)) (hsn : sn ≤ scap) (hscm : scap ≤ maxLen) (hss : ∀ r ∈ rs, r.size ≤ maxLen) (hsr : Rd w w.heap.size 1 SA sn (rs.map Value.string)) (hc21 : n2 ≤ cap2) (hc22 : cap2 ≤ maxLen) (hs2 : ∀ r ∈ rows2, r.size ≤ maxLen) (hR2 : Rd w w.heap.size 1 A2 n2 (rows2.map Value.string)) (hfw : fewB fs = true) (hsh : shortB rs = true) (hsh2 : shortB rows2 = true) (hst : stageB Wn Hn F L X Y = true) (hsg : sightB Wn Hn rs = true) (hak : askV (askB Wn Hn F L X Y nl nh xl xh y fs && true) = 0) (h0 : ¬ k < 0) (hW : Wn ≤ 16) (hH : Hn ≤ 16) (h1 : ¬ (Wn : Int) * Hn ≤ k) (hfg : figB rows2 = true) (h6 : ¬ (6 : Int) ≤ n) (h7 : ¬ fig < 0) (h8 : (n : Int) ≤ fig) :
    Calls Tryz.prog 19 #[.agg #[.int .i64 Wn, .int .i64 Hn, .int .i64 F, .int .i64 L, .int .i64 X, .int .i64 Y], .slice A n cap, .agg #[.int .i64 nl, .int .i64 nh, .int .i64 xl, .int .i64 xh, .int .i64 y], .slice SA sn scap, .int .i64 k, .bool bb, .agg #[.slice A2 n2 cap2], .int .i64 fig] w fun e w' => e = .returned (.bool true) ∧ Below w.heap.size w w' := by
  have hn : n ≤ maxLen := Nat.le_trans hcap hcm
  have hnS : sn ≤ maxLen := Nat.le_trans hsn hscm
  have hnM : n2 ≤ maxLen := Nat.le_trans hc21 hc22
  go_enter Tryz.func19, Tryz.ntmps19
  go_upto_region 1 with (fail)
  have hS := blk3_0 w (.cells #[.int .i64 nl, .int .i64 nh, .int .i64 xl, .int .i64 xh, .int .i64 y] 71) (.cells #[.slice A2 n2 cap2] 26) 23 #[.int .i64 Wn, .int .i64 Hn, .int .i64 F, .int .i64 L, .int .i64 X, .int .i64 Y]
  have hQ := blk3_1 w (.cells #[.int .i64 Wn, .int .i64 Hn, .int .i64 F, .int .i64 L, .int .i64 X, .int .i64 Y] 23) (.cells #[.slice A2 n2 cap2] 26) 71 #[.int .i64 nl, .int .i64 nh, .int .i64 xl, .int .i64 xh, .int .i64 y]
  have hM := blk3_2 w (.cells #[.int .i64 Wn, .int .i64 Hn, .int .i64 F, .int .i64 L, .int .i64 X, .int .i64 Y] 23) (.cells #[.int .i64 nl, .int .i64 nh, .int .i64 xl, .int .i64 xh, .int .i64 y] 71) 26 #[.slice A2 n2 cap2]
  have hB := pro_3 w (.cells #[.int .i64 Wn, .int .i64 Hn, .int .i64 F, .int .i64 L, .int .i64 X, .int .i64 Y] 23) (.cells #[.int .i64 nl, .int .i64 nh, .int .i64 xl, .int .i64 xh, .int .i64 y] 71) (.cells #[.slice A2 n2 cap2] 26)
  generalize ((w.alloc (.cells #[.int .i64 Wn, .int .i64 Hn, .int .i64 F, .int .i64 L, .int .i64 X, .int .i64 Y] 23)).alloc (.cells #[.int .i64 nl, .int .i64 nh, .int .i64 xl, .int .i64 xh, .int .i64 y] 71)).alloc (.cells #[.slice A2 n2 cap2] 26) = W0 at *
  have qhS := fun i => Blk.cell hS i
  have qhQ := fun i => Blk.cell hQ i
  have qhM := fun i => Blk.cell hM i
  have h2 : Wn * Hn ≤ 256 := Nat.mul_le_mul hW hH
  have h2i : (Wn : Int) * Hn ≤ 256 := by exact_mod_cast h2
  have h2j : (0 : Int) ≤ (Wn : Int) * Hn := Int.mul_nonneg (by omega) (by omega)
  have hmw := i64_ok ((Wn : Int) * Hn) (by omega)
  clear h2 h2i h2j
  have k39 : ∀ p : Blw W0.heap.size W0, Calls Tryz.prog 39 #[.slice A n cap] p.to fun e w' => e = .returned (.bool true) ∧ p.to = w' := fun p => by have h := few_any A n cap fs p.to hn (fun f h => ((hf f h).below (hB.trans (p.h.mono hB.size))).more (Nat.le_trans hB.size p.h.size)) (rdB hr (hB.trans (p.h.mono hB.size))); rw [hfw] at h; exact h
  have k23 : ∀ p : Blw W0.heap.size W0, Calls Tryz.prog 23 #[.slice SA sn scap] p.to fun e w' => e = .returned (.bool true) ∧ p.to = w' := fun p => by have h := short_any SA sn scap rs p.to hnS hss (rdB hsr (hB.trans (p.h.mono hB.size))); rw [hsh] at h; exact h
  have k23b : ∀ p : Blw W0.heap.size W0, Calls Tryz.prog 23 #[.slice A2 n2 cap2] p.to fun e w' => e = .returned (.bool true) ∧ p.to = w' := fun p => by have h := short_any A2 n2 cap2 rows2 p.to hnM hs2 (rdB hR2 (hB.trans (p.h.mono hB.size))); rw [hsh2] at h; exact h
  have k27 : ∀ p : Blw W0.heap.size W0, Calls Tryz.prog 27 #[.agg #[.int .i64 Wn, .int .i64 Hn, .int .i64 F, .int .i64 L, .int .i64 X, .int .i64 Y]] p.to fun e w' => e = .returned (.bool true) ∧ Below p.to.heap.size p.to w' := fun p => by have h := Stage_any Wn Hn F L X Y p.to; rw [hst] at h; exact h
  have k55 : ∀ p : Blw W0.heap.size W0, Calls Tryz.prog 55 #[.agg #[.int .i64 Wn, .int .i64 Hn, .int .i64 F, .int .i64 L, .int .i64 X, .int .i64 Y], .slice SA sn scap] p.to fun e w' => e = .returned (.bool true) ∧ Below p.to.heap.size p.to w' := fun p => by have h := refSight_any Wn Hn F L X Y SA sn scap rs p.to hnS hss (rdB hsr (hB.trans (p.h.mono hB.size))); rw [hsg] at h; exact h
  have k54 : ∀ p : Blw W0.heap.size W0, Calls Tryz.prog 54 #[.agg #[.int .i64 Wn, .int .i64 Hn, .int .i64 F, .int .i64 L, .int .i64 X, .int .i64 Y], .slice A n cap, .agg #[.int .i64 nl, .int .i64 nh, .int .i64 xl, .int .i64 xh, .int .i64 y], .bool true] p.to fun e w' => e = .returned (.int .i64 0) ∧ Below p.to.heap.size p.to w' := fun p => by have h := asked_any Wn Hn F L X Y nl nh xl xh y A n cap fs true p.to hn (fun f h => ((hf f h).below (hB.trans (p.h.mono hB.size))).more (Nat.le_trans hB.size p.h.size)) (rdB hr (hB.trans (p.h.mono hB.size))); rw [hak] at h; exact h
  have k28 : ∀ p : Blw W0.heap.size W0, Calls Tryz.prog 28 #[.agg #[.slice A2 n2 cap2]] p.to fun e w' => e = .returned (.bool true) ∧ Below p.to.heap.size p.to w' := fun p => by have h := refFigure_any A2 n2 cap2 rows2 p.to hnM hs2 (rdB hR2 (hB.trans (p.h.mono hB.size))); rw [hfg] at h; exact h
  have hbS := fun p i => blw_blk hS p i
  have hbQ := fun p i => blw_blk hQ p i
  have hbM := fun p i => blw_blk hM p i
  refine wp_region_blw (by kernel_rfl) (by kernel_rfl) ?_
  repeat (go_big_quiet_step (first | (go_at_call 39; exact Calls.blw_of_same _ (k39 _)) | (go_at_call_of 23 (Value.slice A2 n2 cap2); exact Calls.blw_of_same _ (k23b _)) | (go_at_call_of 23 (Value.slice SA sn scap); exact Calls.blw_of_same _ (k23 _)) | (go_at_call 27; exact Calls.blw_of _ (k27 _)) | (go_at_call 55; exact Calls.blw_of _ (k55 _)) | (go_at_call 54; exact Calls.blw_of _ (k54 _)) | (go_at_call 28; exact Calls.blw_of _ (k28 _))))
  refine wpQuiet_nil ?_
  rintro W3 ⟨⟨_, hb⟩, rfl⟩
  clear qhS qhQ qhM hbS hbQ hbM k39 k23 k23b k27 k55 k54 k28
  replace hS := hS.below hb hS.lt; replace hQ := hQ.below hb hQ.lt; replace hM := hM.below hb hM.lt; replace hB := hB.trans (hb.mono hB.size); clear hb; have qhS := fun i => Blk.cell hS i; have qhQ := fun i => Blk.cell hQ i; have qhM := fun i => Blk.cell hM i
  go_wp2_with ((go_at_call 24; refine (known_true m _ (known_at hm hB)).mono ?_; rintro e w1 ⟨rfl, hb⟩; (try replace hS := hS.below hb hS.lt); (try replace hQ := hQ.below hb hQ.lt); (try replace hM := hM.below hb hM.lt); replace hB := hB.trans (hb.mono hB.size); (try clear qhS); (try clear qhQ); (try clear qhM); clear hb; (try have qhS := fun i => Blk.cell hS i); (try have qhQ := fun i => Blk.cell hQ i); (try have qhM := fun i => Blk.cell hM i)))
  go_ret
  exact ⟨rfl, hB⟩
end Go.Proofs.YtifddfchpknkbaaGreatDoor
