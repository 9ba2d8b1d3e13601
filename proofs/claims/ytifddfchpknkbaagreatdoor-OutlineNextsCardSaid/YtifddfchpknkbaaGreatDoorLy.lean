import Derived.Test.YtifddfchpknkbaaGreatDoorAw
import Derived.Test.YtifddfchpknkbaaGreatDoorTs
import Derived.Test.YtifddfchpknkbaaGreatDoorKn
set_option linter.unusedVariables false
set_option linter.unusedSimpArgs false
namespace Go.Proofs.YtifddfchpknkbaaGreatDoor
open Go.RowKit

set_option maxRecDepth 100000 in
set_option maxHeartbeats 25600000 in
theorem looks_x1 (W H F L X Y nl nh xl xh y other : Int) (A : Option Addr) (n cap : Nat) (fs : List Fig) (SA : Option Addr) (sn scap : Nat) (rs : List ByteArray) (m : Int) (w : World) (hm : w.cell? ⟨0, 0, none⟩ = some (.int .i64 m)) (hcap : n ≤ cap) (hcm : cap ≤ maxLen) (hf : ∀ f ∈ fs, f.ok w w.heap.size) (hr : Rd w w.heap.size 1 A n (fs.map Fig.val)) (hsn : sn ≤ scap) (hscm : scap ≤ maxLen) (hss : ∀ r ∈ rs, r.size ≤ maxLen) (hsr : Rd w w.heap.size 1 SA sn (rs.map Value.string)) (hfw : fewB fs = false) :
    Calls Tryz.prog 13 #[.agg #[.int .i64 W, .int .i64 H, .int .i64 F, .int .i64 L, .int .i64 X, .int .i64 Y], .slice A n cap, .agg #[.int .i64 nl, .int .i64 nh, .int .i64 xl, .int .i64 xh, .int .i64 y], .slice SA sn scap, .int .i64 other] w fun e w' => e = .returned (.bool true) ∧ Below w.heap.size w w' := by
  have hn : n ≤ maxLen := Nat.le_trans hcap hcm
  have hnS : sn ≤ maxLen := Nat.le_trans hsn hscm
  go_enter Tryz.func13, Tryz.ntmps13
  go_upto_region 1 with (fail)
  have hS := blk2_0 w (.cells #[.int .i64 nl, .int .i64 nh, .int .i64 xl, .int .i64 xh, .int .i64 y] 71) 23 #[.int .i64 W, .int .i64 H, .int .i64 F, .int .i64 L, .int .i64 X, .int .i64 Y]
  have hQ := blk2_1 w (.cells #[.int .i64 W, .int .i64 H, .int .i64 F, .int .i64 L, .int .i64 X, .int .i64 Y] 23) 71 #[.int .i64 nl, .int .i64 nh, .int .i64 xl, .int .i64 xh, .int .i64 y]
  have hB := pro_2 w (.cells #[.int .i64 W, .int .i64 H, .int .i64 F, .int .i64 L, .int .i64 X, .int .i64 Y] 23) (.cells #[.int .i64 nl, .int .i64 nh, .int .i64 xl, .int .i64 xh, .int .i64 y] 71)
  generalize (w.alloc (.cells #[.int .i64 W, .int .i64 H, .int .i64 F, .int .i64 L, .int .i64 X, .int .i64 Y] 23)).alloc (.cells #[.int .i64 nl, .int .i64 nh, .int .i64 xl, .int .i64 xh, .int .i64 y] 71) = W0 at *
  have qhS := fun i => Blk.cell hS i
  have qhQ := fun i => Blk.cell hQ i
  have k39 : ∀ p : Blw W0.heap.size W0, Calls Tryz.prog 39 #[.slice A n cap] p.to fun e w' => e = .returned (.bool false) ∧ p.to = w' := fun p => by have h := few_any A n cap fs p.to hn (fun f h => ((hf f h).below (hB.trans (p.h.mono hB.size))).more (Nat.le_trans hB.size p.h.size)) (rdB hr (hB.trans (p.h.mono hB.size))); rw [hfw] at h; exact h
  have hbS := fun p i => blw_blk hS p i
  have hbQ := fun p i => blw_blk hQ p i
  refine wp_region_blw (by kernel_rfl) (by kernel_rfl) ?_
  repeat (go_big_quiet_step (first | (go_at_call 39; exact Calls.blw_of_same _ (k39 _))))
  refine wpQuiet_nil ?_
  rintro W3 ⟨⟨_, hb⟩, rfl⟩
  clear qhS qhQ hbS hbQ k39
  replace hS := hS.below hb hS.lt; replace hQ := hQ.below hb hQ.lt; replace hB := hB.trans (hb.mono hB.size); clear hb; have qhS := fun i => Blk.cell hS i; have qhQ := fun i => Blk.cell hQ i
  go_wp2_with ((go_at_call 24; refine (known_true m _ (known_at hm hB)).mono ?_; rintro e w1 ⟨rfl, hb⟩; (try replace hS := hS.below hb hS.lt); (try replace hQ := hQ.below hb hQ.lt); replace hB := hB.trans (hb.mono hB.size); (try clear qhS); (try clear qhQ); clear hb; (try have qhS := fun i => Blk.cell hS i); (try have qhQ := fun i => Blk.cell hQ i)))
  go_ret
  exact ⟨rfl, hB⟩
set_option maxRecDepth 100000 in
set_option maxHeartbeats 25600000 in
theorem looks_x2 (W H F L X Y nl nh xl xh y other : Int) (A : Option Addr) (n cap : Nat) (fs : List Fig) (SA : Option Addr) (sn scap : Nat) (rs : List ByteArray) (m : Int) (w : World) (hm : w.cell? ⟨0, 0, none⟩ = some (.int .i64 m)) (hcap : n ≤ cap) (hcm : cap ≤ maxLen) (hf : ∀ f ∈ fs, f.ok w w.heap.size) (hr : Rd w w.heap.size 1 A n (fs.map Fig.val)) (hsn : sn ≤ scap) (hscm : scap ≤ maxLen) (hss : ∀ r ∈ rs, r.size ≤ maxLen) (hsr : Rd w w.heap.size 1 SA sn (rs.map Value.string)) (hfw : fewB fs = true) (hsh : shortB rs = false) :
    Calls Tryz.prog 13 #[.agg #[.int .i64 W, .int .i64 H, .int .i64 F, .int .i64 L, .int .i64 X, .int .i64 Y], .slice A n cap, .agg #[.int .i64 nl, .int .i64 nh, .int .i64 xl, .int .i64 xh, .int .i64 y], .slice SA sn scap, .int .i64 other] w fun e w' => e = .returned (.bool true) ∧ Below w.heap.size w w' := by
  have hn : n ≤ maxLen := Nat.le_trans hcap hcm
  have hnS : sn ≤ maxLen := Nat.le_trans hsn hscm
  go_enter Tryz.func13, Tryz.ntmps13
  go_upto_region 1 with (fail)
  have hS := blk2_0 w (.cells #[.int .i64 nl, .int .i64 nh, .int .i64 xl, .int .i64 xh, .int .i64 y] 71) 23 #[.int .i64 W, .int .i64 H, .int .i64 F, .int .i64 L, .int .i64 X, .int .i64 Y]
  have hQ := blk2_1 w (.cells #[.int .i64 W, .int .i64 H, .int .i64 F, .int .i64 L, .int .i64 X, .int .i64 Y] 23) 71 #[.int .i64 nl, .int .i64 nh, .int .i64 xl, .int .i64 xh, .int .i64 y]
  have hB := pro_2 w (.cells #[.int .i64 W, .int .i64 H, .int .i64 F, .int .i64 L, .int .i64 X, .int .i64 Y] 23) (.cells #[.int .i64 nl, .int .i64 nh, .int .i64 xl, .int .i64 xh, .int .i64 y] 71)
  generalize (w.alloc (.cells #[.int .i64 W, .int .i64 H, .int .i64 F, .int .i64 L, .int .i64 X, .int .i64 Y] 23)).alloc (.cells #[.int .i64 nl, .int .i64 nh, .int .i64 xl, .int .i64 xh, .int .i64 y] 71) = W0 at *
  have qhS := fun i => Blk.cell hS i
  have qhQ := fun i => Blk.cell hQ i
  have k39 : ∀ p : Blw W0.heap.size W0, Calls Tryz.prog 39 #[.slice A n cap] p.to fun e w' => e = .returned (.bool true) ∧ p.to = w' := fun p => by have h := few_any A n cap fs p.to hn (fun f h => ((hf f h).below (hB.trans (p.h.mono hB.size))).more (Nat.le_trans hB.size p.h.size)) (rdB hr (hB.trans (p.h.mono hB.size))); rw [hfw] at h; exact h
  have k23 : ∀ p : Blw W0.heap.size W0, Calls Tryz.prog 23 #[.slice SA sn scap] p.to fun e w' => e = .returned (.bool false) ∧ p.to = w' := fun p => by have h := short_any SA sn scap rs p.to hnS hss (rdB hsr (hB.trans (p.h.mono hB.size))); rw [hsh] at h; exact h
  have hbS := fun p i => blw_blk hS p i
  have hbQ := fun p i => blw_blk hQ p i
  refine wp_region_blw (by kernel_rfl) (by kernel_rfl) ?_
  repeat (go_big_quiet_step (first | (go_at_call 39; exact Calls.blw_of_same _ (k39 _)) | (go_at_call 23; exact Calls.blw_of_same _ (k23 _))))
  refine wpQuiet_nil ?_
  rintro W3 ⟨⟨_, hb⟩, rfl⟩
  clear qhS qhQ hbS hbQ k39 k23
  replace hS := hS.below hb hS.lt; replace hQ := hQ.below hb hQ.lt; replace hB := hB.trans (hb.mono hB.size); clear hb; have qhS := fun i => Blk.cell hS i; have qhQ := fun i => Blk.cell hQ i
  go_wp2_with ((go_at_call 24; refine (known_true m _ (known_at hm hB)).mono ?_; rintro e w1 ⟨rfl, hb⟩; (try replace hS := hS.below hb hS.lt); (try replace hQ := hQ.below hb hQ.lt); replace hB := hB.trans (hb.mono hB.size); (try clear qhS); (try clear qhQ); clear hb; (try have qhS := fun i => Blk.cell hS i); (try have qhQ := fun i => Blk.cell hQ i)))
  go_ret
  exact ⟨rfl, hB⟩
set_option maxRecDepth 100000 in
set_option maxHeartbeats 25600000 in
theorem looks_x3 (W H F L X Y nl nh xl xh y other : Int) (A : Option Addr) (n cap : Nat) (fs : List Fig) (SA : Option Addr) (sn scap : Nat) (rs : List ByteArray) (m : Int) (w : World) (hm : w.cell? ⟨0, 0, none⟩ = some (.int .i64 m)) (hcap : n ≤ cap) (hcm : cap ≤ maxLen) (hf : ∀ f ∈ fs, f.ok w w.heap.size) (hr : Rd w w.heap.size 1 A n (fs.map Fig.val)) (hsn : sn ≤ scap) (hscm : scap ≤ maxLen) (hss : ∀ r ∈ rs, r.size ≤ maxLen) (hsr : Rd w w.heap.size 1 SA sn (rs.map Value.string)) (hfw : fewB fs = true) (hsh : shortB rs = true) (hst : stageB W H F L X Y = false) (hak : askV (askB W H F L X Y nl nh xl xh y fs && false) = 2) :
    Calls Tryz.prog 13 #[.agg #[.int .i64 W, .int .i64 H, .int .i64 F, .int .i64 L, .int .i64 X, .int .i64 Y], .slice A n cap, .agg #[.int .i64 nl, .int .i64 nh, .int .i64 xl, .int .i64 xh, .int .i64 y], .slice SA sn scap, .int .i64 other] w fun e w' => e = .returned (.bool true) ∧ Below w.heap.size w w' := by
  have hn : n ≤ maxLen := Nat.le_trans hcap hcm
  have hnS : sn ≤ maxLen := Nat.le_trans hsn hscm
  go_enter Tryz.func13, Tryz.ntmps13
  go_upto_region 1 with (fail)
  have hS := blk2_0 w (.cells #[.int .i64 nl, .int .i64 nh, .int .i64 xl, .int .i64 xh, .int .i64 y] 71) 23 #[.int .i64 W, .int .i64 H, .int .i64 F, .int .i64 L, .int .i64 X, .int .i64 Y]
  have hQ := blk2_1 w (.cells #[.int .i64 W, .int .i64 H, .int .i64 F, .int .i64 L, .int .i64 X, .int .i64 Y] 23) 71 #[.int .i64 nl, .int .i64 nh, .int .i64 xl, .int .i64 xh, .int .i64 y]
  have hB := pro_2 w (.cells #[.int .i64 W, .int .i64 H, .int .i64 F, .int .i64 L, .int .i64 X, .int .i64 Y] 23) (.cells #[.int .i64 nl, .int .i64 nh, .int .i64 xl, .int .i64 xh, .int .i64 y] 71)
  generalize (w.alloc (.cells #[.int .i64 W, .int .i64 H, .int .i64 F, .int .i64 L, .int .i64 X, .int .i64 Y] 23)).alloc (.cells #[.int .i64 nl, .int .i64 nh, .int .i64 xl, .int .i64 xh, .int .i64 y] 71) = W0 at *
  have qhS := fun i => Blk.cell hS i
  have qhQ := fun i => Blk.cell hQ i
  have k39 : ∀ p : Blw W0.heap.size W0, Calls Tryz.prog 39 #[.slice A n cap] p.to fun e w' => e = .returned (.bool true) ∧ p.to = w' := fun p => by have h := few_any A n cap fs p.to hn (fun f h => ((hf f h).below (hB.trans (p.h.mono hB.size))).more (Nat.le_trans hB.size p.h.size)) (rdB hr (hB.trans (p.h.mono hB.size))); rw [hfw] at h; exact h
  have k23 : ∀ p : Blw W0.heap.size W0, Calls Tryz.prog 23 #[.slice SA sn scap] p.to fun e w' => e = .returned (.bool true) ∧ p.to = w' := fun p => by have h := short_any SA sn scap rs p.to hnS hss (rdB hsr (hB.trans (p.h.mono hB.size))); rw [hsh] at h; exact h
  have k27 : ∀ p : Blw W0.heap.size W0, Calls Tryz.prog 27 #[.agg #[.int .i64 W, .int .i64 H, .int .i64 F, .int .i64 L, .int .i64 X, .int .i64 Y]] p.to fun e w' => e = .returned (.bool false) ∧ Below p.to.heap.size p.to w' := fun p => by have h := Stage_any W H F L X Y p.to; rw [hst] at h; exact h
  have k54 : ∀ p : Blw W0.heap.size W0, Calls Tryz.prog 54 #[.agg #[.int .i64 W, .int .i64 H, .int .i64 F, .int .i64 L, .int .i64 X, .int .i64 Y], .slice A n cap, .agg #[.int .i64 nl, .int .i64 nh, .int .i64 xl, .int .i64 xh, .int .i64 y], .bool false] p.to fun e w' => e = .returned (.int .i64 2) ∧ Below p.to.heap.size p.to w' := fun p => by have h := asked_any W H F L X Y nl nh xl xh y A n cap fs false p.to hn (fun f h => ((hf f h).below (hB.trans (p.h.mono hB.size))).more (Nat.le_trans hB.size p.h.size)) (rdB hr (hB.trans (p.h.mono hB.size))); rw [hak] at h; exact h
  have hbS := fun p i => blw_blk hS p i
  have hbQ := fun p i => blw_blk hQ p i
  refine wp_region_blw (by kernel_rfl) (by kernel_rfl) ?_
  repeat (go_big_quiet_step (first | (go_at_call 39; exact Calls.blw_of_same _ (k39 _)) | (go_at_call 23; exact Calls.blw_of_same _ (k23 _)) | (go_at_call 27; exact Calls.blw_of _ (k27 _)) | (go_at_call 54; exact Calls.blw_of _ (k54 _))))
  refine wpQuiet_nil ?_
  rintro W3 ⟨⟨_, hb⟩, rfl⟩
  clear qhS qhQ hbS hbQ k39 k23 k27 k54
  replace hS := hS.below hb hS.lt; replace hQ := hQ.below hb hQ.lt; replace hB := hB.trans (hb.mono hB.size); clear hb; have qhS := fun i => Blk.cell hS i; have qhQ := fun i => Blk.cell hQ i
  go_wp2_with ((go_at_call 24; refine (known_true m _ (known_at hm hB)).mono ?_; rintro e w1 ⟨rfl, hb⟩; (try replace hS := hS.below hb hS.lt); (try replace hQ := hQ.below hb hQ.lt); replace hB := hB.trans (hb.mono hB.size); (try clear qhS); (try clear qhQ); clear hb; (try have qhS := fun i => Blk.cell hS i); (try have qhQ := fun i => Blk.cell hQ i)))
  go_ret
  exact ⟨rfl, hB⟩
set_option maxRecDepth 100000 in
set_option maxHeartbeats 25600000 in
theorem looks_x4 (W H F L X Y nl nh xl xh y other : Int) (A : Option Addr) (n cap : Nat) (fs : List Fig) (SA : Option Addr) (sn scap : Nat) (rs : List ByteArray) (m : Int) (w : World) (hm : w.cell? ⟨0, 0, none⟩ = some (.int .i64 m)) (hcap : n ≤ cap) (hcm : cap ≤ maxLen) (hf : ∀ f ∈ fs, f.ok w w.heap.size) (hr : Rd w w.heap.size 1 A n (fs.map Fig.val)) (hsn : sn ≤ scap) (hscm : scap ≤ maxLen) (hss : ∀ r ∈ rs, r.size ≤ maxLen) (hsr : Rd w w.heap.size 1 SA sn (rs.map Value.string)) (hfw : fewB fs = true) (hsh : shortB rs = true) (hst : stageB W H F L X Y = true) (hsg : sightB W H rs = false) (hak : askV (askB W H F L X Y nl nh xl xh y fs && false) = 2) :
    Calls Tryz.prog 13 #[.agg #[.int .i64 W, .int .i64 H, .int .i64 F, .int .i64 L, .int .i64 X, .int .i64 Y], .slice A n cap, .agg #[.int .i64 nl, .int .i64 nh, .int .i64 xl, .int .i64 xh, .int .i64 y], .slice SA sn scap, .int .i64 other] w fun e w' => e = .returned (.bool true) ∧ Below w.heap.size w w' := by
  have hn : n ≤ maxLen := Nat.le_trans hcap hcm
  have hnS : sn ≤ maxLen := Nat.le_trans hsn hscm
  go_enter Tryz.func13, Tryz.ntmps13
  go_upto_region 1 with (fail)
  have hS := blk2_0 w (.cells #[.int .i64 nl, .int .i64 nh, .int .i64 xl, .int .i64 xh, .int .i64 y] 71) 23 #[.int .i64 W, .int .i64 H, .int .i64 F, .int .i64 L, .int .i64 X, .int .i64 Y]
  have hQ := blk2_1 w (.cells #[.int .i64 W, .int .i64 H, .int .i64 F, .int .i64 L, .int .i64 X, .int .i64 Y] 23) 71 #[.int .i64 nl, .int .i64 nh, .int .i64 xl, .int .i64 xh, .int .i64 y]
  have hB := pro_2 w (.cells #[.int .i64 W, .int .i64 H, .int .i64 F, .int .i64 L, .int .i64 X, .int .i64 Y] 23) (.cells #[.int .i64 nl, .int .i64 nh, .int .i64 xl, .int .i64 xh, .int .i64 y] 71)
  generalize (w.alloc (.cells #[.int .i64 W, .int .i64 H, .int .i64 F, .int .i64 L, .int .i64 X, .int .i64 Y] 23)).alloc (.cells #[.int .i64 nl, .int .i64 nh, .int .i64 xl, .int .i64 xh, .int .i64 y] 71) = W0 at *
  have qhS := fun i => Blk.cell hS i
  have qhQ := fun i => Blk.cell hQ i
  have k39 : ∀ p : Blw W0.heap.size W0, Calls Tryz.prog 39 #[.slice A n cap] p.to fun e w' => e = .returned (.bool true) ∧ p.to = w' := fun p => by have h := few_any A n cap fs p.to hn (fun f h => ((hf f h).below (hB.trans (p.h.mono hB.size))).more (Nat.le_trans hB.size p.h.size)) (rdB hr (hB.trans (p.h.mono hB.size))); rw [hfw] at h; exact h
  have k23 : ∀ p : Blw W0.heap.size W0, Calls Tryz.prog 23 #[.slice SA sn scap] p.to fun e w' => e = .returned (.bool true) ∧ p.to = w' := fun p => by have h := short_any SA sn scap rs p.to hnS hss (rdB hsr (hB.trans (p.h.mono hB.size))); rw [hsh] at h; exact h
  have k27 : ∀ p : Blw W0.heap.size W0, Calls Tryz.prog 27 #[.agg #[.int .i64 W, .int .i64 H, .int .i64 F, .int .i64 L, .int .i64 X, .int .i64 Y]] p.to fun e w' => e = .returned (.bool true) ∧ Below p.to.heap.size p.to w' := fun p => by have h := Stage_any W H F L X Y p.to; rw [hst] at h; exact h
  have k55 : ∀ p : Blw W0.heap.size W0, Calls Tryz.prog 55 #[.agg #[.int .i64 W, .int .i64 H, .int .i64 F, .int .i64 L, .int .i64 X, .int .i64 Y], .slice SA sn scap] p.to fun e w' => e = .returned (.bool false) ∧ Below p.to.heap.size p.to w' := fun p => by have h := refSight_any W H F L X Y SA sn scap rs p.to hnS hss (rdB hsr (hB.trans (p.h.mono hB.size))); rw [hsg] at h; exact h
  have k54 : ∀ p : Blw W0.heap.size W0, Calls Tryz.prog 54 #[.agg #[.int .i64 W, .int .i64 H, .int .i64 F, .int .i64 L, .int .i64 X, .int .i64 Y], .slice A n cap, .agg #[.int .i64 nl, .int .i64 nh, .int .i64 xl, .int .i64 xh, .int .i64 y], .bool false] p.to fun e w' => e = .returned (.int .i64 2) ∧ Below p.to.heap.size p.to w' := fun p => by have h := asked_any W H F L X Y nl nh xl xh y A n cap fs false p.to hn (fun f h => ((hf f h).below (hB.trans (p.h.mono hB.size))).more (Nat.le_trans hB.size p.h.size)) (rdB hr (hB.trans (p.h.mono hB.size))); rw [hak] at h; exact h
  have hbS := fun p i => blw_blk hS p i
  have hbQ := fun p i => blw_blk hQ p i
  refine wp_region_blw (by kernel_rfl) (by kernel_rfl) ?_
  repeat (go_big_quiet_step (first | (go_at_call 39; exact Calls.blw_of_same _ (k39 _)) | (go_at_call 23; exact Calls.blw_of_same _ (k23 _)) | (go_at_call 27; exact Calls.blw_of _ (k27 _)) | (go_at_call 55; exact Calls.blw_of _ (k55 _)) | (go_at_call 54; exact Calls.blw_of _ (k54 _))))
  refine wpQuiet_nil ?_
  rintro W3 ⟨⟨_, hb⟩, rfl⟩
  clear qhS qhQ hbS hbQ k39 k23 k27 k54 k55
  replace hS := hS.below hb hS.lt; replace hQ := hQ.below hb hQ.lt; replace hB := hB.trans (hb.mono hB.size); clear hb; have qhS := fun i => Blk.cell hS i; have qhQ := fun i => Blk.cell hQ i
  go_wp2_with ((go_at_call 24; refine (known_true m _ (known_at hm hB)).mono ?_; rintro e w1 ⟨rfl, hb⟩; (try replace hS := hS.below hb hS.lt); (try replace hQ := hQ.below hb hQ.lt); replace hB := hB.trans (hb.mono hB.size); (try clear qhS); (try clear qhQ); clear hb; (try have qhS := fun i => Blk.cell hS i); (try have qhQ := fun i => Blk.cell hQ i)))
  go_ret
  exact ⟨rfl, hB⟩
set_option maxRecDepth 100000 in
set_option maxHeartbeats 25600000 in
theorem looks_x5 (W H F L X Y nl nh xl xh y other : Int) (A : Option Addr) (n cap : Nat) (fs : List Fig) (SA : Option Addr) (sn scap : Nat) (rs : List ByteArray) (m : Int) (w : World) (hm : w.cell? ⟨0, 0, none⟩ = some (.int .i64 m)) (hcap : n ≤ cap) (hcm : cap ≤ maxLen) (hf : ∀ f ∈ fs, f.ok w w.heap.size) (hr : Rd w w.heap.size 1 A n (fs.map Fig.val)) (hsn : sn ≤ scap) (hscm : scap ≤ maxLen) (hss : ∀ r ∈ rs, r.size ≤ maxLen) (hsr : Rd w w.heap.size 1 SA sn (rs.map Value.string)) (hfw : fewB fs = true) (hsh : shortB rs = true) (hst : stageB W H F L X Y = true) (hsg : sightB W H rs = true) (hak : askV (askB W H F L X Y nl nh xl xh y fs && true) = 2) :
    Calls Tryz.prog 13 #[.agg #[.int .i64 W, .int .i64 H, .int .i64 F, .int .i64 L, .int .i64 X, .int .i64 Y], .slice A n cap, .agg #[.int .i64 nl, .int .i64 nh, .int .i64 xl, .int .i64 xh, .int .i64 y], .slice SA sn scap, .int .i64 other] w fun e w' => e = .returned (.bool true) ∧ Below w.heap.size w w' := by
  have hn : n ≤ maxLen := Nat.le_trans hcap hcm
  have hnS : sn ≤ maxLen := Nat.le_trans hsn hscm
  go_enter Tryz.func13, Tryz.ntmps13
  go_upto_region 1 with (fail)
  have hS := blk2_0 w (.cells #[.int .i64 nl, .int .i64 nh, .int .i64 xl, .int .i64 xh, .int .i64 y] 71) 23 #[.int .i64 W, .int .i64 H, .int .i64 F, .int .i64 L, .int .i64 X, .int .i64 Y]
  have hQ := blk2_1 w (.cells #[.int .i64 W, .int .i64 H, .int .i64 F, .int .i64 L, .int .i64 X, .int .i64 Y] 23) 71 #[.int .i64 nl, .int .i64 nh, .int .i64 xl, .int .i64 xh, .int .i64 y]
  have hB := pro_2 w (.cells #[.int .i64 W, .int .i64 H, .int .i64 F, .int .i64 L, .int .i64 X, .int .i64 Y] 23) (.cells #[.int .i64 nl, .int .i64 nh, .int .i64 xl, .int .i64 xh, .int .i64 y] 71)
  generalize (w.alloc (.cells #[.int .i64 W, .int .i64 H, .int .i64 F, .int .i64 L, .int .i64 X, .int .i64 Y] 23)).alloc (.cells #[.int .i64 nl, .int .i64 nh, .int .i64 xl, .int .i64 xh, .int .i64 y] 71) = W0 at *
  have qhS := fun i => Blk.cell hS i
  have qhQ := fun i => Blk.cell hQ i
  have k39 : ∀ p : Blw W0.heap.size W0, Calls Tryz.prog 39 #[.slice A n cap] p.to fun e w' => e = .returned (.bool true) ∧ p.to = w' := fun p => by have h := few_any A n cap fs p.to hn (fun f h => ((hf f h).below (hB.trans (p.h.mono hB.size))).more (Nat.le_trans hB.size p.h.size)) (rdB hr (hB.trans (p.h.mono hB.size))); rw [hfw] at h; exact h
  have k23 : ∀ p : Blw W0.heap.size W0, Calls Tryz.prog 23 #[.slice SA sn scap] p.to fun e w' => e = .returned (.bool true) ∧ p.to = w' := fun p => by have h := short_any SA sn scap rs p.to hnS hss (rdB hsr (hB.trans (p.h.mono hB.size))); rw [hsh] at h; exact h
  have k27 : ∀ p : Blw W0.heap.size W0, Calls Tryz.prog 27 #[.agg #[.int .i64 W, .int .i64 H, .int .i64 F, .int .i64 L, .int .i64 X, .int .i64 Y]] p.to fun e w' => e = .returned (.bool true) ∧ Below p.to.heap.size p.to w' := fun p => by have h := Stage_any W H F L X Y p.to; rw [hst] at h; exact h
  have k55 : ∀ p : Blw W0.heap.size W0, Calls Tryz.prog 55 #[.agg #[.int .i64 W, .int .i64 H, .int .i64 F, .int .i64 L, .int .i64 X, .int .i64 Y], .slice SA sn scap] p.to fun e w' => e = .returned (.bool true) ∧ Below p.to.heap.size p.to w' := fun p => by have h := refSight_any W H F L X Y SA sn scap rs p.to hnS hss (rdB hsr (hB.trans (p.h.mono hB.size))); rw [hsg] at h; exact h
  have k54 : ∀ p : Blw W0.heap.size W0, Calls Tryz.prog 54 #[.agg #[.int .i64 W, .int .i64 H, .int .i64 F, .int .i64 L, .int .i64 X, .int .i64 Y], .slice A n cap, .agg #[.int .i64 nl, .int .i64 nh, .int .i64 xl, .int .i64 xh, .int .i64 y], .bool true] p.to fun e w' => e = .returned (.int .i64 2) ∧ Below p.to.heap.size p.to w' := fun p => by have h := asked_any W H F L X Y nl nh xl xh y A n cap fs true p.to hn (fun f h => ((hf f h).below (hB.trans (p.h.mono hB.size))).more (Nat.le_trans hB.size p.h.size)) (rdB hr (hB.trans (p.h.mono hB.size))); rw [hak] at h; exact h
  have hbS := fun p i => blw_blk hS p i
  have hbQ := fun p i => blw_blk hQ p i
  refine wp_region_blw (by kernel_rfl) (by kernel_rfl) ?_
  repeat (go_big_quiet_step (first | (go_at_call 39; exact Calls.blw_of_same _ (k39 _)) | (go_at_call 23; exact Calls.blw_of_same _ (k23 _)) | (go_at_call 27; exact Calls.blw_of _ (k27 _)) | (go_at_call 55; exact Calls.blw_of _ (k55 _)) | (go_at_call 54; exact Calls.blw_of _ (k54 _))))
  refine wpQuiet_nil ?_
  rintro W3 ⟨⟨_, hb⟩, rfl⟩
  clear qhS qhQ hbS hbQ k39 k23 k27 k54 k55
  replace hS := hS.below hb hS.lt; replace hQ := hQ.below hb hQ.lt; replace hB := hB.trans (hb.mono hB.size); clear hb; have qhS := fun i => Blk.cell hS i; have qhQ := fun i => Blk.cell hQ i
  go_wp2_with ((go_at_call 24; refine (known_true m _ (known_at hm hB)).mono ?_; rintro e w1 ⟨rfl, hb⟩; (try replace hS := hS.below hb hS.lt); (try replace hQ := hQ.below hb hQ.lt); replace hB := hB.trans (hb.mono hB.size); (try clear qhS); (try clear qhQ); clear hb; (try have qhS := fun i => Blk.cell hS i); (try have qhQ := fun i => Blk.cell hQ i)))
  go_ret
  exact ⟨rfl, hB⟩
set_option maxRecDepth 100000 in
set_option maxHeartbeats 25600000 in
theorem looks_x6 (W H F L X Y nl nh xl xh y other : Int) (A : Option Addr) (n cap : Nat) (fs : List Fig) (SA : Option Addr) (sn scap : Nat) (rs : List ByteArray) (m : Int) (w : World) (hm : w.cell? ⟨0, 0, none⟩ = some (.int .i64 m)) (hcap : n ≤ cap) (hcm : cap ≤ maxLen) (hf : ∀ f ∈ fs, f.ok w w.heap.size) (hr : Rd w w.heap.size 1 A n (fs.map Fig.val)) (hsn : sn ≤ scap) (hscm : scap ≤ maxLen) (hss : ∀ r ∈ rs, r.size ≤ maxLen) (hsr : Rd w w.heap.size 1 SA sn (rs.map Value.string)) (hfw : fewB fs = true) (hsh : shortB rs = true) (hst : stageB W H F L X Y = true) (hsg : sightB W H rs = true) (hak : askV (askB W H F L X Y nl nh xl xh y fs && true) = 0) (h0 : other < 0) :
    Calls Tryz.prog 13 #[.agg #[.int .i64 W, .int .i64 H, .int .i64 F, .int .i64 L, .int .i64 X, .int .i64 Y], .slice A n cap, .agg #[.int .i64 nl, .int .i64 nh, .int .i64 xl, .int .i64 xh, .int .i64 y], .slice SA sn scap, .int .i64 other] w fun e w' => e = .returned (.bool true) ∧ Below w.heap.size w w' := by
  have hn : n ≤ maxLen := Nat.le_trans hcap hcm
  have hnS : sn ≤ maxLen := Nat.le_trans hsn hscm
  go_enter Tryz.func13, Tryz.ntmps13
  go_upto_region 1 with (fail)
  have hS := blk2_0 w (.cells #[.int .i64 nl, .int .i64 nh, .int .i64 xl, .int .i64 xh, .int .i64 y] 71) 23 #[.int .i64 W, .int .i64 H, .int .i64 F, .int .i64 L, .int .i64 X, .int .i64 Y]
  have hQ := blk2_1 w (.cells #[.int .i64 W, .int .i64 H, .int .i64 F, .int .i64 L, .int .i64 X, .int .i64 Y] 23) 71 #[.int .i64 nl, .int .i64 nh, .int .i64 xl, .int .i64 xh, .int .i64 y]
  have hB := pro_2 w (.cells #[.int .i64 W, .int .i64 H, .int .i64 F, .int .i64 L, .int .i64 X, .int .i64 Y] 23) (.cells #[.int .i64 nl, .int .i64 nh, .int .i64 xl, .int .i64 xh, .int .i64 y] 71)
  generalize (w.alloc (.cells #[.int .i64 W, .int .i64 H, .int .i64 F, .int .i64 L, .int .i64 X, .int .i64 Y] 23)).alloc (.cells #[.int .i64 nl, .int .i64 nh, .int .i64 xl, .int .i64 xh, .int .i64 y] 71) = W0 at *
  have qhS := fun i => Blk.cell hS i
  have qhQ := fun i => Blk.cell hQ i
  have k39 : ∀ p : Blw W0.heap.size W0, Calls Tryz.prog 39 #[.slice A n cap] p.to fun e w' => e = .returned (.bool true) ∧ p.to = w' := fun p => by have h := few_any A n cap fs p.to hn (fun f h => ((hf f h).below (hB.trans (p.h.mono hB.size))).more (Nat.le_trans hB.size p.h.size)) (rdB hr (hB.trans (p.h.mono hB.size))); rw [hfw] at h; exact h
  have k23 : ∀ p : Blw W0.heap.size W0, Calls Tryz.prog 23 #[.slice SA sn scap] p.to fun e w' => e = .returned (.bool true) ∧ p.to = w' := fun p => by have h := short_any SA sn scap rs p.to hnS hss (rdB hsr (hB.trans (p.h.mono hB.size))); rw [hsh] at h; exact h
  have k27 : ∀ p : Blw W0.heap.size W0, Calls Tryz.prog 27 #[.agg #[.int .i64 W, .int .i64 H, .int .i64 F, .int .i64 L, .int .i64 X, .int .i64 Y]] p.to fun e w' => e = .returned (.bool true) ∧ Below p.to.heap.size p.to w' := fun p => by have h := Stage_any W H F L X Y p.to; rw [hst] at h; exact h
  have k55 : ∀ p : Blw W0.heap.size W0, Calls Tryz.prog 55 #[.agg #[.int .i64 W, .int .i64 H, .int .i64 F, .int .i64 L, .int .i64 X, .int .i64 Y], .slice SA sn scap] p.to fun e w' => e = .returned (.bool true) ∧ Below p.to.heap.size p.to w' := fun p => by have h := refSight_any W H F L X Y SA sn scap rs p.to hnS hss (rdB hsr (hB.trans (p.h.mono hB.size))); rw [hsg] at h; exact h
  have k54 : ∀ p : Blw W0.heap.size W0, Calls Tryz.prog 54 #[.agg #[.int .i64 W, .int .i64 H, .int .i64 F, .int .i64 L, .int .i64 X, .int .i64 Y], .slice A n cap, .agg #[.int .i64 nl, .int .i64 nh, .int .i64 xl, .int .i64 xh, .int .i64 y], .bool true] p.to fun e w' => e = .returned (.int .i64 0) ∧ Below p.to.heap.size p.to w' := fun p => by have h := asked_any W H F L X Y nl nh xl xh y A n cap fs true p.to hn (fun f h => ((hf f h).below (hB.trans (p.h.mono hB.size))).more (Nat.le_trans hB.size p.h.size)) (rdB hr (hB.trans (p.h.mono hB.size))); rw [hak] at h; exact h
  have hbS := fun p i => blw_blk hS p i
  have hbQ := fun p i => blw_blk hQ p i
  refine wp_region_blw (by kernel_rfl) (by kernel_rfl) ?_
  repeat (go_big_quiet_step (first | (go_at_call 39; exact Calls.blw_of_same _ (k39 _)) | (go_at_call 23; exact Calls.blw_of_same _ (k23 _)) | (go_at_call 27; exact Calls.blw_of _ (k27 _)) | (go_at_call 55; exact Calls.blw_of _ (k55 _)) | (go_at_call 54; exact Calls.blw_of _ (k54 _))))
  refine wpQuiet_nil ?_
  rintro W3 ⟨⟨_, hb⟩, rfl⟩
  clear qhS qhQ hbS hbQ k39 k23 k27 k54 k55
  replace hS := hS.below hb hS.lt; replace hQ := hQ.below hb hQ.lt; replace hB := hB.trans (hb.mono hB.size); clear hb; have qhS := fun i => Blk.cell hS i; have qhQ := fun i => Blk.cell hQ i
  go_wp2_with ((go_at_call 24; refine (known_true m _ (known_at hm hB)).mono ?_; rintro e w1 ⟨rfl, hb⟩; (try replace hS := hS.below hb hS.lt); (try replace hQ := hQ.below hb hQ.lt); replace hB := hB.trans (hb.mono hB.size); (try clear qhS); (try clear qhQ); clear hb; (try have qhS := fun i => Blk.cell hS i); (try have qhQ := fun i => Blk.cell hQ i)))
  go_ret
  exact ⟨rfl, hB⟩
set_option maxRecDepth 100000 in
set_option maxHeartbeats 25600000 in
theorem looks_x7 (Wn Hn : Nat) (F L X Y nl nh xl xh y other : Int) (A : Option Addr) (n cap : Nat) (fs : List Fig) (SA : Option Addr) (sn scap : Nat) (rs : List ByteArray) (m : Int) (w : World) (hm : w.cell? ⟨0, 0, none⟩ = some (.int .i64 m)) (hcap : n ≤ cap) (hcm : cap ≤ maxLen) (hf : ∀ f ∈ fs, f.ok w w.heap.size) (hr : Rd w w.heap.size 1 A n (fs.map Fig.val)) (hsn : sn ≤ scap) (hscm : scap ≤ maxLen) (hss : ∀ r ∈ rs, r.size ≤ maxLen) (hsr : Rd w w.heap.size 1 SA sn (rs.map Value.string)) (hfw : fewB fs = true) (hsh : shortB rs = true) (hst : stageB Wn Hn F L X Y = true) (hsg : sightB Wn Hn rs = true) (hak : askV (askB Wn Hn F L X Y nl nh xl xh y fs && true) = 0) (h0 : ¬ other < 0) (hW : Wn ≤ 16) (hH : Hn ≤ 16) (h1 : (Wn : Int) * Hn ≤ other) :
    Calls Tryz.prog 13 #[.agg #[.int .i64 Wn, .int .i64 Hn, .int .i64 F, .int .i64 L, .int .i64 X, .int .i64 Y], .slice A n cap, .agg #[.int .i64 nl, .int .i64 nh, .int .i64 xl, .int .i64 xh, .int .i64 y], .slice SA sn scap, .int .i64 other] w fun e w' => e = .returned (.bool true) ∧ Below w.heap.size w w' := by
  have hn : n ≤ maxLen := Nat.le_trans hcap hcm
  have hnS : sn ≤ maxLen := Nat.le_trans hsn hscm
  go_enter Tryz.func13, Tryz.ntmps13
  go_upto_region 1 with (fail)
  have hS := blk2_0 w (.cells #[.int .i64 nl, .int .i64 nh, .int .i64 xl, .int .i64 xh, .int .i64 y] 71) 23 #[.int .i64 Wn, .int .i64 Hn, .int .i64 F, .int .i64 L, .int .i64 X, .int .i64 Y]
  have hQ := blk2_1 w (.cells #[.int .i64 Wn, .int .i64 Hn, .int .i64 F, .int .i64 L, .int .i64 X, .int .i64 Y] 23) 71 #[.int .i64 nl, .int .i64 nh, .int .i64 xl, .int .i64 xh, .int .i64 y]
  have hB := pro_2 w (.cells #[.int .i64 Wn, .int .i64 Hn, .int .i64 F, .int .i64 L, .int .i64 X, .int .i64 Y] 23) (.cells #[.int .i64 nl, .int .i64 nh, .int .i64 xl, .int .i64 xh, .int .i64 y] 71)
  generalize (w.alloc (.cells #[.int .i64 Wn, .int .i64 Hn, .int .i64 F, .int .i64 L, .int .i64 X, .int .i64 Y] 23)).alloc (.cells #[.int .i64 nl, .int .i64 nh, .int .i64 xl, .int .i64 xh, .int .i64 y] 71) = W0 at *
  have qhS := fun i => Blk.cell hS i
  have qhQ := fun i => Blk.cell hQ i
  have hmul : (0 : Int) ≤ (Wn : Int) * Hn ∧ (Wn : Int) * Hn ≤ 256 := by have h2 : Wn * Hn ≤ 256 := Nat.mul_le_mul hW hH; exact ⟨Int.mul_nonneg (by omega) (by omega), by exact_mod_cast h2⟩
  obtain ⟨hm1, hm2⟩ := hmul
  have hmw := i64_ok ((Wn : Int) * Hn) (by omega)
  clear hm1 hm2
  have k39 : ∀ p : Blw W0.heap.size W0, Calls Tryz.prog 39 #[.slice A n cap] p.to fun e w' => e = .returned (.bool true) ∧ p.to = w' := fun p => by have h := few_any A n cap fs p.to hn (fun f h => ((hf f h).below (hB.trans (p.h.mono hB.size))).more (Nat.le_trans hB.size p.h.size)) (rdB hr (hB.trans (p.h.mono hB.size))); rw [hfw] at h; exact h
  have k23 : ∀ p : Blw W0.heap.size W0, Calls Tryz.prog 23 #[.slice SA sn scap] p.to fun e w' => e = .returned (.bool true) ∧ p.to = w' := fun p => by have h := short_any SA sn scap rs p.to hnS hss (rdB hsr (hB.trans (p.h.mono hB.size))); rw [hsh] at h; exact h
  have k27 : ∀ p : Blw W0.heap.size W0, Calls Tryz.prog 27 #[.agg #[.int .i64 Wn, .int .i64 Hn, .int .i64 F, .int .i64 L, .int .i64 X, .int .i64 Y]] p.to fun e w' => e = .returned (.bool true) ∧ Below p.to.heap.size p.to w' := fun p => by have h := Stage_any Wn Hn F L X Y p.to; rw [hst] at h; exact h
  have k55 : ∀ p : Blw W0.heap.size W0, Calls Tryz.prog 55 #[.agg #[.int .i64 Wn, .int .i64 Hn, .int .i64 F, .int .i64 L, .int .i64 X, .int .i64 Y], .slice SA sn scap] p.to fun e w' => e = .returned (.bool true) ∧ Below p.to.heap.size p.to w' := fun p => by have h := refSight_any Wn Hn F L X Y SA sn scap rs p.to hnS hss (rdB hsr (hB.trans (p.h.mono hB.size))); rw [hsg] at h; exact h
  have k54 : ∀ p : Blw W0.heap.size W0, Calls Tryz.prog 54 #[.agg #[.int .i64 Wn, .int .i64 Hn, .int .i64 F, .int .i64 L, .int .i64 X, .int .i64 Y], .slice A n cap, .agg #[.int .i64 nl, .int .i64 nh, .int .i64 xl, .int .i64 xh, .int .i64 y], .bool true] p.to fun e w' => e = .returned (.int .i64 0) ∧ Below p.to.heap.size p.to w' := fun p => by have h := asked_any Wn Hn F L X Y nl nh xl xh y A n cap fs true p.to hn (fun f h => ((hf f h).below (hB.trans (p.h.mono hB.size))).more (Nat.le_trans hB.size p.h.size)) (rdB hr (hB.trans (p.h.mono hB.size))); rw [hak] at h; exact h
  have hbS := fun p i => blw_blk hS p i
  have hbQ := fun p i => blw_blk hQ p i
  refine wp_region_blw (by kernel_rfl) (by kernel_rfl) ?_
  repeat (go_big_quiet_step (first | (go_at_call 39; exact Calls.blw_of_same _ (k39 _)) | (go_at_call 23; exact Calls.blw_of_same _ (k23 _)) | (go_at_call 27; exact Calls.blw_of _ (k27 _)) | (go_at_call 55; exact Calls.blw_of _ (k55 _)) | (go_at_call 54; exact Calls.blw_of _ (k54 _))))
  refine wpQuiet_nil ?_
  rintro W3 ⟨⟨_, hb⟩, rfl⟩
  clear qhS qhQ hbS hbQ k39 k23 k27 k54 k55
  replace hS := hS.below hb hS.lt; replace hQ := hQ.below hb hQ.lt; replace hB := hB.trans (hb.mono hB.size); clear hb; have qhS := fun i => Blk.cell hS i; have qhQ := fun i => Blk.cell hQ i
  go_wp2_with ((go_at_call 24; refine (known_true m _ (known_at hm hB)).mono ?_; rintro e w1 ⟨rfl, hb⟩; (try replace hS := hS.below hb hS.lt); (try replace hQ := hQ.below hb hQ.lt); replace hB := hB.trans (hb.mono hB.size); (try clear qhS); (try clear qhQ); clear hb; (try have qhS := fun i => Blk.cell hS i); (try have qhQ := fun i => Blk.cell hQ i)))
  go_ret
  exact ⟨rfl, hB⟩
set_option maxRecDepth 100000 in
set_option maxHeartbeats 25600000 in
theorem looks_7 (Wn Hn : Nat) (F L X Y nl nh xl xh y : Int) (ko : Nat) (A : Option Addr) (n cap : Nat) (fs : List Fig) (SA : Option Addr) (sn scap : Nat) (rs : List ByteArray) (m : Int) (w : World) (hm : w.cell? ⟨0, 0, none⟩ = some (.int .i64 m)) (hcap : n ≤ cap) (hcm : cap ≤ maxLen) (hf : ∀ f ∈ fs, f.ok w w.heap.size) (hr : Rd w w.heap.size 1 A n (fs.map Fig.val)) (hsn : sn ≤ scap) (hscm : scap ≤ maxLen) (hss : ∀ r ∈ rs, r.size ≤ maxLen) (hsr : Rd w w.heap.size 1 SA sn (rs.map Value.string)) (hfw : fewB fs = true) (hsh : shortB rs = true) (hst : stageB Wn Hn F L X Y = true) (hsg : sightB Wn Hn rs = true) (hak : askV (askB Wn Hn F L X Y nl nh xl xh y fs && true) = 0) (hW : Wn ≤ 16) (hH : Hn ≤ 16) (hko : ko < Wn * Hn) (now c mm : Int) (hnow : now = 0) (HNP : Hid (nextP Wn Hn F L X Y nl nh xl xh y fs rs = (c, mm))) (HNE : Hid (nextE Wn Hn F L X Y nl nh xl xh y fs rs = 7)) (HNOW : Hid (seenI Wn Hn F L X Y nl nh xl xh y fs rs = now)) :
    Calls Tryz.prog 13 #[.agg #[.int .i64 Wn, .int .i64 Hn, .int .i64 F, .int .i64 L, .int .i64 X, .int .i64 Y], .slice A n cap, .agg #[.int .i64 nl, .int .i64 nh, .int .i64 xl, .int .i64 xh, .int .i64 y], .slice SA sn scap, .int .i64 (ko : Nat)] w fun e w' => e = .returned (.bool true) ∧ Below w.heap.size w w' := by
  have hn : n ≤ maxLen := Nat.le_trans hcap hcm
  have hnS : sn ≤ maxLen := Nat.le_trans hsn hscm
  have h2 : Wn * Hn ≤ 256 := Nat.mul_le_mul hW hH
  have h2i : (Wn : Int) * Hn ≤ 256 := by exact_mod_cast h2
  have h2j : (0 : Int) ≤ (Wn : Int) * Hn := Int.mul_nonneg (by omega) (by omega)
  have hmw := i64_ok ((Wn : Int) * Hn) (by omega)
  have ho1 : ¬ ((ko : Nat) : Int) < 0 := by omega
  have hko2 : ((ko : Nat) : Int) < (Wn : Int) * Hn := by exact_mod_cast hko
  have ho2 : ¬ (Wn : Int) * Hn ≤ (ko : Nat) := by omega
  clear h2 h2i h2j
  go_enter Tryz.func13, Tryz.ntmps13
  go_upto_region 1 with (fail)
  have hS := blk2_0 w (.cells #[.int .i64 nl, .int .i64 nh, .int .i64 xl, .int .i64 xh, .int .i64 y] 71) 23 #[.int .i64 Wn, .int .i64 Hn, .int .i64 F, .int .i64 L, .int .i64 X, .int .i64 Y]
  have hQ := blk2_1 w (.cells #[.int .i64 Wn, .int .i64 Hn, .int .i64 F, .int .i64 L, .int .i64 X, .int .i64 Y] 23) 71 #[.int .i64 nl, .int .i64 nh, .int .i64 xl, .int .i64 xh, .int .i64 y]
  have hB := pro_2 w (.cells #[.int .i64 Wn, .int .i64 Hn, .int .i64 F, .int .i64 L, .int .i64 X, .int .i64 Y] 23) (.cells #[.int .i64 nl, .int .i64 nh, .int .i64 xl, .int .i64 xh, .int .i64 y] 71)
  generalize (w.alloc (.cells #[.int .i64 Wn, .int .i64 Hn, .int .i64 F, .int .i64 L, .int .i64 X, .int .i64 Y] 23)).alloc (.cells #[.int .i64 nl, .int .i64 nh, .int .i64 xl, .int .i64 xh, .int .i64 y] 71) = W0 at *
  have qhS := fun i => Blk.cell hS i
  have qhQ := fun i => Blk.cell hQ i
  have k39 : ∀ p : Blw W0.heap.size W0, Calls Tryz.prog 39 #[.slice A n cap] p.to fun e w' => e = .returned (.bool true) ∧ p.to = w' := fun p => by have h := few_any A n cap fs p.to hn (fun f h => ((hf f h).below (hB.trans (p.h.mono hB.size))).more (Nat.le_trans hB.size p.h.size)) (rdB hr (hB.trans (p.h.mono hB.size))); rw [hfw] at h; exact h
  have k23 : ∀ p : Blw W0.heap.size W0, Calls Tryz.prog 23 #[.slice SA sn scap] p.to fun e w' => e = .returned (.bool true) ∧ p.to = w' := fun p => by have h := short_any SA sn scap rs p.to hnS hss (rdB hsr (hB.trans (p.h.mono hB.size))); rw [hsh] at h; exact h
  have k27 : ∀ p : Blw W0.heap.size W0, Calls Tryz.prog 27 #[.agg #[.int .i64 Wn, .int .i64 Hn, .int .i64 F, .int .i64 L, .int .i64 X, .int .i64 Y]] p.to fun e w' => e = .returned (.bool true) ∧ Below p.to.heap.size p.to w' := fun p => by have h := Stage_any Wn Hn F L X Y p.to; rw [hst] at h; exact h
  have k55 : ∀ p : Blw W0.heap.size W0, Calls Tryz.prog 55 #[.agg #[.int .i64 Wn, .int .i64 Hn, .int .i64 F, .int .i64 L, .int .i64 X, .int .i64 Y], .slice SA sn scap] p.to fun e w' => e = .returned (.bool true) ∧ Below p.to.heap.size p.to w' := fun p => by have h := refSight_any Wn Hn F L X Y SA sn scap rs p.to hnS hss (rdB hsr (hB.trans (p.h.mono hB.size))); rw [hsg] at h; exact h
  have k54 : ∀ p : Blw W0.heap.size W0, Calls Tryz.prog 54 #[.agg #[.int .i64 Wn, .int .i64 Hn, .int .i64 F, .int .i64 L, .int .i64 X, .int .i64 Y], .slice A n cap, .agg #[.int .i64 nl, .int .i64 nh, .int .i64 xl, .int .i64 xh, .int .i64 y], .bool true] p.to fun e w' => e = .returned (.int .i64 0) ∧ Below p.to.heap.size p.to w' := fun p => by have h := asked_any Wn Hn F L X Y nl nh xl xh y A n cap fs true p.to hn (fun f h => ((hf f h).below (hB.trans (p.h.mono hB.size))).more (Nat.le_trans hB.size p.h.size)) (rdB hr (hB.trans (p.h.mono hB.size))); rw [hak] at h; exact h
  have hbS := fun p i => blw_blk hS p i
  have hbQ := fun p i => blw_blk hQ p i
  refine wp_region_blw (by kernel_rfl) (by kernel_rfl) ?_
  repeat (go_big_quiet_step (first | (go_at_call 39; exact Calls.blw_of_same _ (k39 _)) | (go_at_call 23; exact Calls.blw_of_same _ (k23 _)) | (go_at_call 27; exact Calls.blw_of _ (k27 _)) | (go_at_call 55; exact Calls.blw_of _ (k55 _)) | (go_at_call 54; exact Calls.blw_of _ (k54 _))))
  refine wpQuiet_nil ?_
  rintro W3 ⟨⟨_, hb⟩, rfl⟩
  clear qhS qhQ hbS hbQ k39 k23 k27 k54 k55
  replace hS := hS.below hb hS.lt; replace hQ := hQ.below hb hQ.lt; replace hB := hB.trans (hb.mono hB.size); clear hb; have qhS := fun i => Blk.cell hS i; have qhQ := fun i => Blk.cell hQ i
  clear ho1 ho2 hfw hsh hst hsg hak hko hko2
  go_upto_region 4 with ((go_at_call 63; refine (Next_any Wn Hn F L X Y nl nh xl xh y A n cap fs SA sn scap rs _ hcap hcm (fun f h => ((hf f h).below hB).more hB.size) (rdB hr hB) hsn hscm hss (rdB hsr hB)).mono ?_; rintro e w1 ⟨rfl, hb⟩; rw [HNP.out, HNE.out]; (try replace hS := hS.below hb hS.lt); (try replace hQ := hQ.below hb hQ.lt); replace hB := hB.trans (hb.mono hB.size); (try clear qhS); (try clear qhQ); clear hb; (try have qhS := fun i => Blk.cell hS i); (try have qhQ := fun i => Blk.cell hQ i); dsimp only))
  clear HNP HNE
  go_upto_region 5 with ((go_at_call 65; refine (lawSeen_any Wn Hn F L X Y nl nh xl xh y A n cap fs SA sn scap rs _ hcap hcm (fun f h => ((hf f h).below hB).more hB.size) (rdB hr hB) hsn hscm hss (rdB hsr hB)).mono ?_; rintro e w1 ⟨rfl, hb⟩; rw [HNOW.out]; (try replace hS := hS.below hb hS.lt); (try replace hQ := hQ.below hb hQ.lt); replace hB := hB.trans (hb.mono hB.size); (try clear qhS); (try clear qhQ); clear hb; (try have qhS := fun i => Blk.cell hS i); (try have qhQ := fun i => Blk.cell hQ i)))
  clear HNOW
  subst hnow
  go_wp2_with ((go_at_call 24; refine (known_true m _ (known_at hm hB)).mono ?_; rintro e w1 ⟨rfl, hb⟩; (try replace hS := hS.below hb hS.lt); (try replace hQ := hQ.below hb hQ.lt); replace hB := hB.trans (hb.mono hB.size); (try clear qhS); (try clear qhQ); clear hb; (try have qhS := fun i => Blk.cell hS i); (try have qhQ := fun i => Blk.cell hQ i)))
  go_ret
  exact ⟨rfl, hB⟩
set_option maxRecDepth 100000 in
set_option maxHeartbeats 25600000 in
theorem looks_5 (Wn Hn : Nat) (F L X Y nl nh xl xh y : Int) (ko : Nat) (A : Option Addr) (n cap : Nat) (fs : List Fig) (SA : Option Addr) (sn scap : Nat) (rs : List ByteArray) (m : Int) (w : World) (hm : w.cell? ⟨0, 0, none⟩ = some (.int .i64 m)) (hcap : n ≤ cap) (hcm : cap ≤ maxLen) (hf : ∀ f ∈ fs, f.ok w w.heap.size) (hr : Rd w w.heap.size 1 A n (fs.map Fig.val)) (hsn : sn ≤ scap) (hscm : scap ≤ maxLen) (hss : ∀ r ∈ rs, r.size ≤ maxLen) (hsr : Rd w w.heap.size 1 SA sn (rs.map Value.string)) (hfw : fewB fs = true) (hsh : shortB rs = true) (hst : stageB Wn Hn F L X Y = true) (hsg : sightB Wn Hn rs = true) (hak : askV (askB Wn Hn F L X Y nl nh xl xh y fs && true) = 0) (hW : Wn ≤ 16) (hH : Hn ≤ 16) (hko : ko < Wn * Hn) (now c mm : Int) (hnow : 0 < now) (hsn2 : sn ≤ 100000) (hss2 : ∀ r ∈ rs, r.size ≤ 100000) (HC : Hid (((countR rs ((63 : Nat) : Int) : Nat) : Int) = 0)) (HNP : Hid (nextP Wn Hn F L X Y nl nh xl xh y fs rs = (c, mm))) (HNE : Hid (nextE Wn Hn F L X Y nl nh xl xh y fs rs = 5)) (HNOW : Hid (seenI Wn Hn F L X Y nl nh xl xh y fs rs = now)) :
    Calls Tryz.prog 13 #[.agg #[.int .i64 Wn, .int .i64 Hn, .int .i64 F, .int .i64 L, .int .i64 X, .int .i64 Y], .slice A n cap, .agg #[.int .i64 nl, .int .i64 nh, .int .i64 xl, .int .i64 xh, .int .i64 y], .slice SA sn scap, .int .i64 (ko : Nat)] w fun e w' => e = .returned (.bool true) ∧ Below w.heap.size w w' := by
  have hn : n ≤ maxLen := Nat.le_trans hcap hcm
  have hnS : sn ≤ maxLen := Nat.le_trans hsn hscm
  have h2 : Wn * Hn ≤ 256 := Nat.mul_le_mul hW hH
  have h2i : (Wn : Int) * Hn ≤ 256 := by exact_mod_cast h2
  have h2j : (0 : Int) ≤ (Wn : Int) * Hn := Int.mul_nonneg (by omega) (by omega)
  have hmw := i64_ok ((Wn : Int) * Hn) (by omega)
  have ho1 : ¬ ((ko : Nat) : Int) < 0 := by omega
  have hko2 : ((ko : Nat) : Int) < (Wn : Int) * Hn := by exact_mod_cast hko
  have ho2 : ¬ (Wn : Int) * Hn ≤ (ko : Nat) := by omega
  clear h2 h2i h2j
  go_enter Tryz.func13, Tryz.ntmps13
  go_upto_region 1 with (fail)
  have hS := blk2_0 w (.cells #[.int .i64 nl, .int .i64 nh, .int .i64 xl, .int .i64 xh, .int .i64 y] 71) 23 #[.int .i64 Wn, .int .i64 Hn, .int .i64 F, .int .i64 L, .int .i64 X, .int .i64 Y]
  have hQ := blk2_1 w (.cells #[.int .i64 Wn, .int .i64 Hn, .int .i64 F, .int .i64 L, .int .i64 X, .int .i64 Y] 23) 71 #[.int .i64 nl, .int .i64 nh, .int .i64 xl, .int .i64 xh, .int .i64 y]
  have hB := pro_2 w (.cells #[.int .i64 Wn, .int .i64 Hn, .int .i64 F, .int .i64 L, .int .i64 X, .int .i64 Y] 23) (.cells #[.int .i64 nl, .int .i64 nh, .int .i64 xl, .int .i64 xh, .int .i64 y] 71)
  generalize (w.alloc (.cells #[.int .i64 Wn, .int .i64 Hn, .int .i64 F, .int .i64 L, .int .i64 X, .int .i64 Y] 23)).alloc (.cells #[.int .i64 nl, .int .i64 nh, .int .i64 xl, .int .i64 xh, .int .i64 y] 71) = W0 at *
  have qhS := fun i => Blk.cell hS i
  have qhQ := fun i => Blk.cell hQ i
  have k39 : ∀ p : Blw W0.heap.size W0, Calls Tryz.prog 39 #[.slice A n cap] p.to fun e w' => e = .returned (.bool true) ∧ p.to = w' := fun p => by have h := few_any A n cap fs p.to hn (fun f h => ((hf f h).below (hB.trans (p.h.mono hB.size))).more (Nat.le_trans hB.size p.h.size)) (rdB hr (hB.trans (p.h.mono hB.size))); rw [hfw] at h; exact h
  have k23 : ∀ p : Blw W0.heap.size W0, Calls Tryz.prog 23 #[.slice SA sn scap] p.to fun e w' => e = .returned (.bool true) ∧ p.to = w' := fun p => by have h := short_any SA sn scap rs p.to hnS hss (rdB hsr (hB.trans (p.h.mono hB.size))); rw [hsh] at h; exact h
  have k27 : ∀ p : Blw W0.heap.size W0, Calls Tryz.prog 27 #[.agg #[.int .i64 Wn, .int .i64 Hn, .int .i64 F, .int .i64 L, .int .i64 X, .int .i64 Y]] p.to fun e w' => e = .returned (.bool true) ∧ Below p.to.heap.size p.to w' := fun p => by have h := Stage_any Wn Hn F L X Y p.to; rw [hst] at h; exact h
  have k55 : ∀ p : Blw W0.heap.size W0, Calls Tryz.prog 55 #[.agg #[.int .i64 Wn, .int .i64 Hn, .int .i64 F, .int .i64 L, .int .i64 X, .int .i64 Y], .slice SA sn scap] p.to fun e w' => e = .returned (.bool true) ∧ Below p.to.heap.size p.to w' := fun p => by have h := refSight_any Wn Hn F L X Y SA sn scap rs p.to hnS hss (rdB hsr (hB.trans (p.h.mono hB.size))); rw [hsg] at h; exact h
  have k54 : ∀ p : Blw W0.heap.size W0, Calls Tryz.prog 54 #[.agg #[.int .i64 Wn, .int .i64 Hn, .int .i64 F, .int .i64 L, .int .i64 X, .int .i64 Y], .slice A n cap, .agg #[.int .i64 nl, .int .i64 nh, .int .i64 xl, .int .i64 xh, .int .i64 y], .bool true] p.to fun e w' => e = .returned (.int .i64 0) ∧ Below p.to.heap.size p.to w' := fun p => by have h := asked_any Wn Hn F L X Y nl nh xl xh y A n cap fs true p.to hn (fun f h => ((hf f h).below (hB.trans (p.h.mono hB.size))).more (Nat.le_trans hB.size p.h.size)) (rdB hr (hB.trans (p.h.mono hB.size))); rw [hak] at h; exact h
  have hbS := fun p i => blw_blk hS p i
  have hbQ := fun p i => blw_blk hQ p i
  refine wp_region_blw (by kernel_rfl) (by kernel_rfl) ?_
  repeat (go_big_quiet_step (first | (go_at_call 39; exact Calls.blw_of_same _ (k39 _)) | (go_at_call 23; exact Calls.blw_of_same _ (k23 _)) | (go_at_call 27; exact Calls.blw_of _ (k27 _)) | (go_at_call 55; exact Calls.blw_of _ (k55 _)) | (go_at_call 54; exact Calls.blw_of _ (k54 _))))
  refine wpQuiet_nil ?_
  rintro W3 ⟨⟨_, hb⟩, rfl⟩
  clear qhS qhQ hbS hbQ k39 k23 k27 k54 k55
  replace hS := hS.below hb hS.lt; replace hQ := hQ.below hb hQ.lt; replace hB := hB.trans (hb.mono hB.size); clear hb; have qhS := fun i => Blk.cell hS i; have qhQ := fun i => Blk.cell hQ i
  clear ho1 ho2 hfw hsh hst hsg hak hko hko2
  go_upto_region 4 with ((go_at_call 63; refine (Next_any Wn Hn F L X Y nl nh xl xh y A n cap fs SA sn scap rs _ hcap hcm (fun f h => ((hf f h).below hB).more hB.size) (rdB hr hB) hsn hscm hss (rdB hsr hB)).mono ?_; rintro e w1 ⟨rfl, hb⟩; rw [HNP.out, HNE.out]; (try replace hS := hS.below hb hS.lt); (try replace hQ := hQ.below hb hQ.lt); replace hB := hB.trans (hb.mono hB.size); (try clear qhS); (try clear qhQ); clear hb; (try have qhS := fun i => Blk.cell hS i); (try have qhQ := fun i => Blk.cell hQ i); dsimp only))
  clear HNP HNE
  go_upto_region 5 with ((go_at_call 65; refine (lawSeen_any Wn Hn F L X Y nl nh xl xh y A n cap fs SA sn scap rs _ hcap hcm (fun f h => ((hf f h).below hB).more hB.size) (rdB hr hB) hsn hscm hss (rdB hsr hB)).mono ?_; rintro e w1 ⟨rfl, hb⟩; rw [HNOW.out]; (try replace hS := hS.below hb hS.lt); (try replace hQ := hQ.below hb hQ.lt); replace hB := hB.trans (hb.mono hB.size); (try clear qhS); (try clear qhQ); clear hb; (try have qhS := fun i => Blk.cell hS i); (try have qhQ := fun i => Blk.cell hQ i)))
  clear HNOW
  have hne : (now == 0) = false := by simp; omega
  go_wp2_with (first | (go_at_call 34; refine (refCount_any SA sn scap rs 63 _ hsn2 (by omega) hss2 (rdB hsr hB)).mono ?_; rintro e w1 ⟨rfl, rfl⟩; rw [HC.out]) | (go_at_call 24; refine (known_true m _ (known_at hm hB)).mono ?_; rintro e w1 ⟨rfl, hb⟩; (try replace hS := hS.below hb hS.lt); (try replace hQ := hQ.below hb hQ.lt); replace hB := hB.trans (hb.mono hB.size); (try clear qhS); (try clear qhQ); clear hb; (try have qhS := fun i => Blk.cell hS i); (try have qhQ := fun i => Blk.cell hQ i)))
  go_ret
  exact ⟨rfl, hB⟩
set_option maxRecDepth 100000 in
set_option maxHeartbeats 25600000 in
theorem looks_0a (Wn Hn : Nat) (F L X Y nl nh xl xh y : Int) (ko : Nat) (A : Option Addr) (n cap : Nat) (fs : List Fig) (SA : Option Addr) (sn scap : Nat) (rs : List ByteArray) (m : Int) (w : World) (hm : w.cell? ⟨0, 0, none⟩ = some (.int .i64 m)) (hcap : n ≤ cap) (hcm : cap ≤ maxLen) (hf : ∀ f ∈ fs, f.ok w w.heap.size) (hr : Rd w w.heap.size 1 A n (fs.map Fig.val)) (hsn : sn ≤ scap) (hscm : scap ≤ maxLen) (hss : ∀ r ∈ rs, r.size ≤ maxLen) (hsr : Rd w w.heap.size 1 SA sn (rs.map Value.string)) (hfw : fewB fs = true) (hsh : shortB rs = true) (hst : stageB Wn Hn F L X Y = true) (hsg : sightB Wn Hn rs = true) (hak : askV (askB Wn Hn F L X Y nl nh xl xh y fs && true) = 0) (hW : Wn ≤ 16) (hH : Hn ≤ 16) (hko : ko < Wn * Hn) (now mm : Int) (kn : Nat) (rown rowo : ByteArray) (hW1 : 1 ≤ Wn) (hsn3 : sn ≤ 10000) (hkn : kn < Wn * Hn) (hzkn : rs[kn / Wn]? = some rown) (hckn : (ltr rown)[kn % Wn]? = some 63) (hzko : rs[ko / Wn]? = some rowo) (a1 b1 : Int) (hrkn : rown.size = Wn) (h35kn : ∀ r ∈ (rs.set (kn / Wn) (seenRow rown 35 (kn % Wn))), r.size ≤ maxLen) (h46kn : ∀ r ∈ (rs.set (kn / Wn) (seenRow rown 46 (kn % Wn))), r.size ≤ maxLen) (HAkn : Hid (seenI Wn Hn F L X Y nl nh xl xh y fs (rs.set (kn / Wn) (seenRow rown 35 (kn % Wn))) = a1)) (HBkn : Hid (seenI Wn Hn F L X Y nl nh xl xh y fs (rs.set (kn / Wn) (seenRow rown 46 (kn % Wn))) = b1)) (hakn : 0 ≤ a1) (hbkn : 0 ≤ b1) (HMXkn : Hid (max a1 b1 = mm)) (hm1 : 1 ≤ mm) (hm2 : mm ≤ now) (hro2 : rowo.size = Wn) (zo : Int) (hcko : (ltr rowo)[ko % Wn]? = some zo) (hzo : zo ≠ 63) (HNP : Hid (nextP Wn Hn F L X Y nl nh xl xh y fs rs = (((kn : Nat) : Int), mm))) (HNE : Hid (nextE Wn Hn F L X Y nl nh xl xh y fs rs = 0)) (HNOW : Hid (seenI Wn Hn F L X Y nl nh xl xh y fs rs = now)) :
    Calls Tryz.prog 13 #[.agg #[.int .i64 Wn, .int .i64 Hn, .int .i64 F, .int .i64 L, .int .i64 X, .int .i64 Y], .slice A n cap, .agg #[.int .i64 nl, .int .i64 nh, .int .i64 xl, .int .i64 xh, .int .i64 y], .slice SA sn scap, .int .i64 (ko : Nat)] w fun e w' => e = .returned (.bool true) ∧ Below w.heap.size w w' := by
  have hn : n ≤ maxLen := Nat.le_trans hcap hcm
  have hnS : sn ≤ maxLen := Nat.le_trans hsn hscm
  have h2 : Wn * Hn ≤ 256 := Nat.mul_le_mul hW hH
  have h2i : (Wn : Int) * Hn ≤ 256 := by exact_mod_cast h2
  have h2j : (0 : Int) ≤ (Wn : Int) * Hn := Int.mul_nonneg (by omega) (by omega)
  have hmw := i64_ok ((Wn : Int) * Hn) (by omega)
  have ho1 : ¬ ((ko : Nat) : Int) < 0 := by omega
  have hko2 : ((ko : Nat) : Int) < (Wn : Int) * Hn := by exact_mod_cast hko
  have ho2 : ¬ (Wn : Int) * Hn ≤ (ko : Nat) := by omega
  clear h2 h2i h2j
  go_enter Tryz.func13, Tryz.ntmps13
  go_upto_region 1 with (fail)
  have hS := blk2_0 w (.cells #[.int .i64 nl, .int .i64 nh, .int .i64 xl, .int .i64 xh, .int .i64 y] 71) 23 #[.int .i64 Wn, .int .i64 Hn, .int .i64 F, .int .i64 L, .int .i64 X, .int .i64 Y]
  have hQ := blk2_1 w (.cells #[.int .i64 Wn, .int .i64 Hn, .int .i64 F, .int .i64 L, .int .i64 X, .int .i64 Y] 23) 71 #[.int .i64 nl, .int .i64 nh, .int .i64 xl, .int .i64 xh, .int .i64 y]
  have hB := pro_2 w (.cells #[.int .i64 Wn, .int .i64 Hn, .int .i64 F, .int .i64 L, .int .i64 X, .int .i64 Y] 23) (.cells #[.int .i64 nl, .int .i64 nh, .int .i64 xl, .int .i64 xh, .int .i64 y] 71)
  generalize (w.alloc (.cells #[.int .i64 Wn, .int .i64 Hn, .int .i64 F, .int .i64 L, .int .i64 X, .int .i64 Y] 23)).alloc (.cells #[.int .i64 nl, .int .i64 nh, .int .i64 xl, .int .i64 xh, .int .i64 y] 71) = W0 at *
  have qhS := fun i => Blk.cell hS i
  have qhQ := fun i => Blk.cell hQ i
  have k39 : ∀ p : Blw W0.heap.size W0, Calls Tryz.prog 39 #[.slice A n cap] p.to fun e w' => e = .returned (.bool true) ∧ p.to = w' := fun p => by have h := few_any A n cap fs p.to hn (fun f h => ((hf f h).below (hB.trans (p.h.mono hB.size))).more (Nat.le_trans hB.size p.h.size)) (rdB hr (hB.trans (p.h.mono hB.size))); rw [hfw] at h; exact h
  have k23 : ∀ p : Blw W0.heap.size W0, Calls Tryz.prog 23 #[.slice SA sn scap] p.to fun e w' => e = .returned (.bool true) ∧ p.to = w' := fun p => by have h := short_any SA sn scap rs p.to hnS hss (rdB hsr (hB.trans (p.h.mono hB.size))); rw [hsh] at h; exact h
  have k27 : ∀ p : Blw W0.heap.size W0, Calls Tryz.prog 27 #[.agg #[.int .i64 Wn, .int .i64 Hn, .int .i64 F, .int .i64 L, .int .i64 X, .int .i64 Y]] p.to fun e w' => e = .returned (.bool true) ∧ Below p.to.heap.size p.to w' := fun p => by have h := Stage_any Wn Hn F L X Y p.to; rw [hst] at h; exact h
  have k55 : ∀ p : Blw W0.heap.size W0, Calls Tryz.prog 55 #[.agg #[.int .i64 Wn, .int .i64 Hn, .int .i64 F, .int .i64 L, .int .i64 X, .int .i64 Y], .slice SA sn scap] p.to fun e w' => e = .returned (.bool true) ∧ Below p.to.heap.size p.to w' := fun p => by have h := refSight_any Wn Hn F L X Y SA sn scap rs p.to hnS hss (rdB hsr (hB.trans (p.h.mono hB.size))); rw [hsg] at h; exact h
  have k54 : ∀ p : Blw W0.heap.size W0, Calls Tryz.prog 54 #[.agg #[.int .i64 Wn, .int .i64 Hn, .int .i64 F, .int .i64 L, .int .i64 X, .int .i64 Y], .slice A n cap, .agg #[.int .i64 nl, .int .i64 nh, .int .i64 xl, .int .i64 xh, .int .i64 y], .bool true] p.to fun e w' => e = .returned (.int .i64 0) ∧ Below p.to.heap.size p.to w' := fun p => by have h := asked_any Wn Hn F L X Y nl nh xl xh y A n cap fs true p.to hn (fun f h => ((hf f h).below (hB.trans (p.h.mono hB.size))).more (Nat.le_trans hB.size p.h.size)) (rdB hr (hB.trans (p.h.mono hB.size))); rw [hak] at h; exact h
  have hbS := fun p i => blw_blk hS p i
  have hbQ := fun p i => blw_blk hQ p i
  refine wp_region_blw (by kernel_rfl) (by kernel_rfl) ?_
  repeat (go_big_quiet_step (first | (go_at_call 39; exact Calls.blw_of_same _ (k39 _)) | (go_at_call 23; exact Calls.blw_of_same _ (k23 _)) | (go_at_call 27; exact Calls.blw_of _ (k27 _)) | (go_at_call 55; exact Calls.blw_of _ (k55 _)) | (go_at_call 54; exact Calls.blw_of _ (k54 _))))
  refine wpQuiet_nil ?_
  rintro W3 ⟨⟨_, hb⟩, rfl⟩
  clear qhS qhQ hbS hbQ k39 k23 k27 k54 k55
  replace hS := hS.below hb hS.lt; replace hQ := hQ.below hb hQ.lt; replace hB := hB.trans (hb.mono hB.size); clear hb; have qhS := fun i => Blk.cell hS i; have qhQ := fun i => Blk.cell hQ i
  clear ho1 ho2 hfw hsh hst hsg hak hko2
  go_upto_region 4 with ((go_at_call 63; refine (Next_any Wn Hn F L X Y nl nh xl xh y A n cap fs SA sn scap rs _ hcap hcm (fun f h => ((hf f h).below hB).more hB.size) (rdB hr hB) hsn hscm hss (rdB hsr hB)).mono ?_; rintro e w1 ⟨rfl, hb⟩; rw [HNP.out, HNE.out]; (try replace hS := hS.below hb hS.lt); (try replace hQ := hQ.below hb hQ.lt); replace hB := hB.trans (hb.mono hB.size); (try clear qhS); (try clear qhQ); clear hb; (try have qhS := fun i => Blk.cell hS i); (try have qhQ := fun i => Blk.cell hQ i); dsimp only))
  clear HNP HNE
  go_upto_region 5 with ((go_at_call 65; refine (lawSeen_any Wn Hn F L X Y nl nh xl xh y A n cap fs SA sn scap rs _ hcap hcm (fun f h => ((hf f h).below hB).more hB.size) (rdB hr hB) hsn hscm hss (rdB hsr hB)).mono ?_; rintro e w1 ⟨rfl, hb⟩; rw [HNOW.out]; (try replace hS := hS.below hb hS.lt); (try replace hQ := hQ.below hb hQ.lt); replace hB := hB.trans (hb.mono hB.size); (try clear qhS); (try clear qhQ); clear hb; (try have qhS := fun i => Blk.cell hS i); (try have qhQ := fun i => Blk.cell hQ i)))
  clear HNOW
  have h2 : Wn * Hn ≤ 256 := Nat.mul_le_mul hW hH
  have h2i : (Wn : Int) * Hn ≤ 256 := by exact_mod_cast h2
  have h2j : (0 : Int) ≤ (Wn : Int) * Hn := Int.mul_nonneg (by omega) (by omega)
  have hkn2 : ((kn : Nat) : Int) < (Wn : Int) * Hn := by exact_mod_cast hkn
  have n1 : ¬ ((kn : Nat) : Int) < 0 := by omega
  have n2 : ¬ (Wn : Int) * Hn ≤ (kn : Nat) := by omega
  have n3 : ¬ mm < 1 := by omega
  have n4 : ¬ now < mm := by omega
  have n5 : (mm != mm) = false := by simp
  clear h2i h2j hkn2
  go_upto_region 9 with (first | (go_at_call 66; refine (Cell_any Wn Hn F L X Y SA sn scap rs rown kn 63 _ hW1 (by omega) (by omega) hzkn hckn (by omega) (rdB hsr hB)).mono ?_; rintro e w1 ⟨rfl, hb⟩; (try replace hS := hS.below hb hS.lt); (try replace hQ := hQ.below hb hQ.lt); replace hB := hB.trans (hb.mono hB.size); (try clear qhS); (try clear qhQ); clear hb; (try have qhS := fun i => Blk.cell hS i); (try have qhQ := fun i => Blk.cell hQ i)) | (go_at_call 67; refine (worst_any Wn Hn F L X Y nl nh xl xh y A n cap fs SA sn scap rs rown kn a1 b1 _ hcap hcm (fun f h => ((hf f h).below hB).more hB.size) (rdB hr hB) hW1 (by omega) (by omega) hsn3 hzkn hrkn (rdB hsr hB) h35kn h46kn HAkn HBkn hakn hbkn).mono ?_; rintro e w1 ⟨rfl, hb⟩; rw [HMXkn.out]; (try replace hS := hS.below hb hS.lt); (try replace hQ := hQ.below hb hQ.lt); replace hB := hB.trans (hb.mono hB.size); (try clear qhS); (try clear qhQ); clear hb; (try have qhS := fun i => Blk.cell hS i); (try have qhQ := fun i => Blk.cell hQ i)))
  clear n1 n2 n3 n4 n5 HAkn HBkn HMXkn h35kn h46kn
  have nz : (zo != 63) = true := by simp [hzo]
  go_wp2_with (first | (go_at_call 66; refine (Cell_any Wn Hn F L X Y SA sn scap rs rowo ko zo _ hW1 (by omega) (by omega) hzko hcko (by omega) (rdB hsr hB)).mono ?_; rintro e w1 ⟨rfl, hb⟩; (try replace hS := hS.below hb hS.lt); (try replace hQ := hQ.below hb hQ.lt); replace hB := hB.trans (hb.mono hB.size); (try clear qhS); (try clear qhQ); clear hb; (try have qhS := fun i => Blk.cell hS i); (try have qhQ := fun i => Blk.cell hQ i)) | (go_at_call 24; refine (known_true m _ (known_at hm hB)).mono ?_; rintro e w1 ⟨rfl, hb⟩; (try replace hS := hS.below hb hS.lt); (try replace hQ := hQ.below hb hQ.lt); replace hB := hB.trans (hb.mono hB.size); (try clear qhS); (try clear qhQ); clear hb; (try have qhS := fun i => Blk.cell hS i); (try have qhQ := fun i => Blk.cell hQ i)))
  go_ret
  exact ⟨rfl, hB⟩
set_option maxRecDepth 100000 in
set_option maxHeartbeats 25600000 in
theorem looks_0b (Wn Hn : Nat) (F L X Y nl nh xl xh y : Int) (ko : Nat) (A : Option Addr) (n cap : Nat) (fs : List Fig) (SA : Option Addr) (sn scap : Nat) (rs : List ByteArray) (m : Int) (w : World) (hm : w.cell? ⟨0, 0, none⟩ = some (.int .i64 m)) (hcap : n ≤ cap) (hcm : cap ≤ maxLen) (hf : ∀ f ∈ fs, f.ok w w.heap.size) (hr : Rd w w.heap.size 1 A n (fs.map Fig.val)) (hsn : sn ≤ scap) (hscm : scap ≤ maxLen) (hss : ∀ r ∈ rs, r.size ≤ maxLen) (hsr : Rd w w.heap.size 1 SA sn (rs.map Value.string)) (hfw : fewB fs = true) (hsh : shortB rs = true) (hst : stageB Wn Hn F L X Y = true) (hsg : sightB Wn Hn rs = true) (hak : askV (askB Wn Hn F L X Y nl nh xl xh y fs && true) = 0) (hW : Wn ≤ 16) (hH : Hn ≤ 16) (hko : ko < Wn * Hn) (now mm : Int) (kn : Nat) (rown rowo : ByteArray) (hW1 : 1 ≤ Wn) (hsn3 : sn ≤ 10000) (hkn : kn < Wn * Hn) (hzkn : rs[kn / Wn]? = some rown) (hckn : (ltr rown)[kn % Wn]? = some 63) (hzko : rs[ko / Wn]? = some rowo) (a1 b1 : Int) (hrkn : rown.size = Wn) (h35kn : ∀ r ∈ (rs.set (kn / Wn) (seenRow rown 35 (kn % Wn))), r.size ≤ maxLen) (h46kn : ∀ r ∈ (rs.set (kn / Wn) (seenRow rown 46 (kn % Wn))), r.size ≤ maxLen) (HAkn : Hid (seenI Wn Hn F L X Y nl nh xl xh y fs (rs.set (kn / Wn) (seenRow rown 35 (kn % Wn))) = a1)) (HBkn : Hid (seenI Wn Hn F L X Y nl nh xl xh y fs (rs.set (kn / Wn) (seenRow rown 46 (kn % Wn))) = b1)) (hakn : 0 ≤ a1) (hbkn : 0 ≤ b1) (HMXkn : Hid (max a1 b1 = mm)) (hm1 : 1 ≤ mm) (hm2 : mm ≤ now) (hro2 : rowo.size = Wn) (x a2 b2 : Int) (hcko : (ltr rowo)[ko % Wn]? = some 63) (hrko : rowo.size = Wn) (h35ko : ∀ r ∈ (rs.set (ko / Wn) (seenRow rowo 35 (ko % Wn))), r.size ≤ maxLen) (h46ko : ∀ r ∈ (rs.set (ko / Wn) (seenRow rowo 46 (ko % Wn))), r.size ≤ maxLen) (HAko : Hid (seenI Wn Hn F L X Y nl nh xl xh y fs (rs.set (ko / Wn) (seenRow rowo 35 (ko % Wn))) = a2)) (HBko : Hid (seenI Wn Hn F L X Y nl nh xl xh y fs (rs.set (ko / Wn) (seenRow rowo 46 (ko % Wn))) = b2)) (hako : 0 ≤ a2) (hbko : 0 ≤ b2) (HMXko : Hid (max a2 b2 = x)) (hx1 : mm ≤ x) (hx2 : mm < x ∨ kn ≤ ko) (HNP : Hid (nextP Wn Hn F L X Y nl nh xl xh y fs rs = (((kn : Nat) : Int), mm))) (HNE : Hid (nextE Wn Hn F L X Y nl nh xl xh y fs rs = 0)) (HNOW : Hid (seenI Wn Hn F L X Y nl nh xl xh y fs rs = now)) :
    Calls Tryz.prog 13 #[.agg #[.int .i64 Wn, .int .i64 Hn, .int .i64 F, .int .i64 L, .int .i64 X, .int .i64 Y], .slice A n cap, .agg #[.int .i64 nl, .int .i64 nh, .int .i64 xl, .int .i64 xh, .int .i64 y], .slice SA sn scap, .int .i64 (ko : Nat)] w fun e w' => e = .returned (.bool true) ∧ Below w.heap.size w w' := by
  have hn : n ≤ maxLen := Nat.le_trans hcap hcm
  have hnS : sn ≤ maxLen := Nat.le_trans hsn hscm
  have h2 : Wn * Hn ≤ 256 := Nat.mul_le_mul hW hH
  have h2i : (Wn : Int) * Hn ≤ 256 := by exact_mod_cast h2
  have h2j : (0 : Int) ≤ (Wn : Int) * Hn := Int.mul_nonneg (by omega) (by omega)
  have hmw := i64_ok ((Wn : Int) * Hn) (by omega)
  have ho1 : ¬ ((ko : Nat) : Int) < 0 := by omega
  have hko2 : ((ko : Nat) : Int) < (Wn : Int) * Hn := by exact_mod_cast hko
  have ho2 : ¬ (Wn : Int) * Hn ≤ (ko : Nat) := by omega
  clear h2 h2i h2j
  go_enter Tryz.func13, Tryz.ntmps13
  go_upto_region 1 with (fail)
  have hS := blk2_0 w (.cells #[.int .i64 nl, .int .i64 nh, .int .i64 xl, .int .i64 xh, .int .i64 y] 71) 23 #[.int .i64 Wn, .int .i64 Hn, .int .i64 F, .int .i64 L, .int .i64 X, .int .i64 Y]
  have hQ := blk2_1 w (.cells #[.int .i64 Wn, .int .i64 Hn, .int .i64 F, .int .i64 L, .int .i64 X, .int .i64 Y] 23) 71 #[.int .i64 nl, .int .i64 nh, .int .i64 xl, .int .i64 xh, .int .i64 y]
  have hB := pro_2 w (.cells #[.int .i64 Wn, .int .i64 Hn, .int .i64 F, .int .i64 L, .int .i64 X, .int .i64 Y] 23) (.cells #[.int .i64 nl, .int .i64 nh, .int .i64 xl, .int .i64 xh, .int .i64 y] 71)
  generalize (w.alloc (.cells #[.int .i64 Wn, .int .i64 Hn, .int .i64 F, .int .i64 L, .int .i64 X, .int .i64 Y] 23)).alloc (.cells #[.int .i64 nl, .int .i64 nh, .int .i64 xl, .int .i64 xh, .int .i64 y] 71) = W0 at *
  have qhS := fun i => Blk.cell hS i
  have qhQ := fun i => Blk.cell hQ i
  have k39 : ∀ p : Blw W0.heap.size W0, Calls Tryz.prog 39 #[.slice A n cap] p.to fun e w' => e = .returned (.bool true) ∧ p.to = w' := fun p => by have h := few_any A n cap fs p.to hn (fun f h => ((hf f h).below (hB.trans (p.h.mono hB.size))).more (Nat.le_trans hB.size p.h.size)) (rdB hr (hB.trans (p.h.mono hB.size))); rw [hfw] at h; exact h
  have k23 : ∀ p : Blw W0.heap.size W0, Calls Tryz.prog 23 #[.slice SA sn scap] p.to fun e w' => e = .returned (.bool true) ∧ p.to = w' := fun p => by have h := short_any SA sn scap rs p.to hnS hss (rdB hsr (hB.trans (p.h.mono hB.size))); rw [hsh] at h; exact h
  have k27 : ∀ p : Blw W0.heap.size W0, Calls Tryz.prog 27 #[.agg #[.int .i64 Wn, .int .i64 Hn, .int .i64 F, .int .i64 L, .int .i64 X, .int .i64 Y]] p.to fun e w' => e = .returned (.bool true) ∧ Below p.to.heap.size p.to w' := fun p => by have h := Stage_any Wn Hn F L X Y p.to; rw [hst] at h; exact h
  have k55 : ∀ p : Blw W0.heap.size W0, Calls Tryz.prog 55 #[.agg #[.int .i64 Wn, .int .i64 Hn, .int .i64 F, .int .i64 L, .int .i64 X, .int .i64 Y], .slice SA sn scap] p.to fun e w' => e = .returned (.bool true) ∧ Below p.to.heap.size p.to w' := fun p => by have h := refSight_any Wn Hn F L X Y SA sn scap rs p.to hnS hss (rdB hsr (hB.trans (p.h.mono hB.size))); rw [hsg] at h; exact h
  have k54 : ∀ p : Blw W0.heap.size W0, Calls Tryz.prog 54 #[.agg #[.int .i64 Wn, .int .i64 Hn, .int .i64 F, .int .i64 L, .int .i64 X, .int .i64 Y], .slice A n cap, .agg #[.int .i64 nl, .int .i64 nh, .int .i64 xl, .int .i64 xh, .int .i64 y], .bool true] p.to fun e w' => e = .returned (.int .i64 0) ∧ Below p.to.heap.size p.to w' := fun p => by have h := asked_any Wn Hn F L X Y nl nh xl xh y A n cap fs true p.to hn (fun f h => ((hf f h).below (hB.trans (p.h.mono hB.size))).more (Nat.le_trans hB.size p.h.size)) (rdB hr (hB.trans (p.h.mono hB.size))); rw [hak] at h; exact h
  have hbS := fun p i => blw_blk hS p i
  have hbQ := fun p i => blw_blk hQ p i
  refine wp_region_blw (by kernel_rfl) (by kernel_rfl) ?_
  repeat (go_big_quiet_step (first | (go_at_call 39; exact Calls.blw_of_same _ (k39 _)) | (go_at_call 23; exact Calls.blw_of_same _ (k23 _)) | (go_at_call 27; exact Calls.blw_of _ (k27 _)) | (go_at_call 55; exact Calls.blw_of _ (k55 _)) | (go_at_call 54; exact Calls.blw_of _ (k54 _))))
  refine wpQuiet_nil ?_
  rintro W3 ⟨⟨_, hb⟩, rfl⟩
  clear qhS qhQ hbS hbQ k39 k23 k27 k54 k55
  replace hS := hS.below hb hS.lt; replace hQ := hQ.below hb hQ.lt; replace hB := hB.trans (hb.mono hB.size); clear hb; have qhS := fun i => Blk.cell hS i; have qhQ := fun i => Blk.cell hQ i
  clear ho1 ho2 hfw hsh hst hsg hak hko2
  go_upto_region 4 with ((go_at_call 63; refine (Next_any Wn Hn F L X Y nl nh xl xh y A n cap fs SA sn scap rs _ hcap hcm (fun f h => ((hf f h).below hB).more hB.size) (rdB hr hB) hsn hscm hss (rdB hsr hB)).mono ?_; rintro e w1 ⟨rfl, hb⟩; rw [HNP.out, HNE.out]; (try replace hS := hS.below hb hS.lt); (try replace hQ := hQ.below hb hQ.lt); replace hB := hB.trans (hb.mono hB.size); (try clear qhS); (try clear qhQ); clear hb; (try have qhS := fun i => Blk.cell hS i); (try have qhQ := fun i => Blk.cell hQ i); dsimp only))
  clear HNP HNE
  go_upto_region 5 with ((go_at_call 65; refine (lawSeen_any Wn Hn F L X Y nl nh xl xh y A n cap fs SA sn scap rs _ hcap hcm (fun f h => ((hf f h).below hB).more hB.size) (rdB hr hB) hsn hscm hss (rdB hsr hB)).mono ?_; rintro e w1 ⟨rfl, hb⟩; rw [HNOW.out]; (try replace hS := hS.below hb hS.lt); (try replace hQ := hQ.below hb hQ.lt); replace hB := hB.trans (hb.mono hB.size); (try clear qhS); (try clear qhQ); clear hb; (try have qhS := fun i => Blk.cell hS i); (try have qhQ := fun i => Blk.cell hQ i)))
  clear HNOW
  have h2 : Wn * Hn ≤ 256 := Nat.mul_le_mul hW hH
  have h2i : (Wn : Int) * Hn ≤ 256 := by exact_mod_cast h2
  have h2j : (0 : Int) ≤ (Wn : Int) * Hn := Int.mul_nonneg (by omega) (by omega)
  have hkn2 : ((kn : Nat) : Int) < (Wn : Int) * Hn := by exact_mod_cast hkn
  have n1 : ¬ ((kn : Nat) : Int) < 0 := by omega
  have n2 : ¬ (Wn : Int) * Hn ≤ (kn : Nat) := by omega
  have n3 : ¬ mm < 1 := by omega
  have n4 : ¬ now < mm := by omega
  have n5 : (mm != mm) = false := by simp
  clear h2i h2j hkn2
  go_upto_region 9 with (first | (go_at_call 66; refine (Cell_any Wn Hn F L X Y SA sn scap rs rown kn 63 _ hW1 (by omega) (by omega) hzkn hckn (by omega) (rdB hsr hB)).mono ?_; rintro e w1 ⟨rfl, hb⟩; (try replace hS := hS.below hb hS.lt); (try replace hQ := hQ.below hb hQ.lt); replace hB := hB.trans (hb.mono hB.size); (try clear qhS); (try clear qhQ); clear hb; (try have qhS := fun i => Blk.cell hS i); (try have qhQ := fun i => Blk.cell hQ i)) | (go_at_call 67; refine (worst_any Wn Hn F L X Y nl nh xl xh y A n cap fs SA sn scap rs rown kn a1 b1 _ hcap hcm (fun f h => ((hf f h).below hB).more hB.size) (rdB hr hB) hW1 (by omega) (by omega) hsn3 hzkn hrkn (rdB hsr hB) h35kn h46kn HAkn HBkn hakn hbkn).mono ?_; rintro e w1 ⟨rfl, hb⟩; rw [HMXkn.out]; (try replace hS := hS.below hb hS.lt); (try replace hQ := hQ.below hb hQ.lt); replace hB := hB.trans (hb.mono hB.size); (try clear qhS); (try clear qhQ); clear hb; (try have qhS := fun i => Blk.cell hS i); (try have qhQ := fun i => Blk.cell hQ i)))
  clear n1 n2 n3 n4 n5 HAkn HBkn HMXkn h35kn h46kn
  go_upto_region 11 with ((go_at_call 66; refine (Cell_any Wn Hn F L X Y SA sn scap rs rowo ko 63 _ hW1 (by omega) (by omega) hzko hcko (by omega) (rdB hsr hB)).mono ?_; rintro e w1 ⟨rfl, hb⟩; (try replace hS := hS.below hb hS.lt); (try replace hQ := hQ.below hb hQ.lt); replace hB := hB.trans (hb.mono hB.size); (try clear qhS); (try clear qhQ); clear hb; (try have qhS := fun i => Blk.cell hS i); (try have qhQ := fun i => Blk.cell hQ i)))
  go_upto_region 12 with ((go_at_call 67; refine (worst_any Wn Hn F L X Y nl nh xl xh y A n cap fs SA sn scap rs rowo ko a2 b2 _ hcap hcm (fun f h => ((hf f h).below hB).more hB.size) (rdB hr hB) hW1 (by omega) (by omega) hsn3 hzko hrko (rdB hsr hB) h35ko h46ko HAko HBko hako hbko).mono ?_; rintro e w1 ⟨rfl, hb⟩; rw [HMXko.out]; (try replace hS := hS.below hb hS.lt); (try replace hQ := hQ.below hb hQ.lt); replace hB := hB.trans (hb.mono hB.size); (try clear qhS); (try clear qhQ); clear hb; (try have qhS := fun i => Blk.cell hS i); (try have qhQ := fun i => Blk.cell hQ i)))
  clear HAko HBko HMXko h35ko h46ko
  by_cases hq : mm < x
  · as_aux_lemma =>
      go_wp2_with ((go_at_call 24; refine (known_true m _ (known_at hm hB)).mono ?_; rintro e w1 ⟨rfl, hb⟩; (try replace hS := hS.below hb hS.lt); (try replace hQ := hQ.below hb hQ.lt); replace hB := hB.trans (hb.mono hB.size); (try clear qhS); (try clear qhQ); clear hb; (try have qhS := fun i => Blk.cell hS i); (try have qhQ := fun i => Blk.cell hQ i)))
      go_ret
      exact ⟨rfl, hB⟩
  · have hq2 : ((kn : Nat) : Int) ≤ (ko : Nat) := by omega
    as_aux_lemma =>
      go_wp2_with ((go_at_call 24; refine (known_true m _ (known_at hm hB)).mono ?_; rintro e w1 ⟨rfl, hb⟩; (try replace hS := hS.below hb hS.lt); (try replace hQ := hQ.below hb hQ.lt); replace hB := hB.trans (hb.mono hB.size); (try clear qhS); (try clear qhQ); clear hb; (try have qhS := fun i => Blk.cell hS i); (try have qhQ := fun i => Blk.cell hQ i)))
      go_ret
      exact ⟨rfl, hB⟩
end Go.Proofs.YtifddfchpknkbaaGreatDoor
