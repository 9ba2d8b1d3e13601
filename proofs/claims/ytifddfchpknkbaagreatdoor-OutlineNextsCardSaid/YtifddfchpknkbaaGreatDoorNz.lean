import Derived.Test.YtifddfchpknkbaaGreatDoorNy
import Derived.Test.YtifddfchpknkbaaGreatDoorLz
import Derived.Test.YtifddfchpknkbaaGreatDoorNx
set_option linter.unusedVariables false
set_option linter.unusedSimpArgs false
namespace Go.Proofs.YtifddfchpknkbaaGreatDoor
open Go.RowKit

set_option maxRecDepth 100000 in
set_option maxHeartbeats 25600000 in
theorem nexts_x1 (W H F L X Y nl nh xl xh y : Int) (A : Option Addr) (n cap : Nat) (fs : List Fig) (SA : Option Addr) (sn scap : Nat) (rs : List ByteArray) (m : Int) (w : World) (hm : w.cell? ⟨0, 0, none⟩ = some (.int .i64 m)) (hcap : n ≤ cap) (hcm : cap ≤ maxLen) (hf : ∀ f ∈ fs, f.ok w w.heap.size) (hr : Rd w w.heap.size 1 A n (fs.map Fig.val)) (hsn : sn ≤ scap) (hscm : scap ≤ maxLen) (hss : ∀ r ∈ rs, r.size ≤ maxLen) (hsr : Rd w w.heap.size 1 SA sn (rs.map Value.string)) (hfw : fewB fs = false) :
    Calls Tryz.prog 12 #[.agg #[.int .i64 W, .int .i64 H, .int .i64 F, .int .i64 L, .int .i64 X, .int .i64 Y], .slice A n cap, .agg #[.int .i64 nl, .int .i64 nh, .int .i64 xl, .int .i64 xh, .int .i64 y], .slice SA sn scap] w fun e w' => e = .returned (.bool true) ∧ Below w.heap.size w w' := by
  have hn : n ≤ maxLen := Nat.le_trans hcap hcm
  have hnS : sn ≤ maxLen := Nat.le_trans hsn hscm
  go_enter Tryz.func12, Tryz.ntmps12
  go_upto_region 1 with (fail)
  have hS := blk2_0 w (.cells #[.int .i64 nl, .int .i64 nh, .int .i64 xl, .int .i64 xh, .int .i64 y] 71) 23 #[.int .i64 W, .int .i64 H, .int .i64 F, .int .i64 L, .int .i64 X, .int .i64 Y]
  have hQ := blk2_1 w (.cells #[.int .i64 W, .int .i64 H, .int .i64 F, .int .i64 L, .int .i64 X, .int .i64 Y] 23) 71 #[.int .i64 nl, .int .i64 nh, .int .i64 xl, .int .i64 xh, .int .i64 y]
  have hB := pro_2 w (.cells #[.int .i64 W, .int .i64 H, .int .i64 F, .int .i64 L, .int .i64 X, .int .i64 Y] 23) (.cells #[.int .i64 nl, .int .i64 nh, .int .i64 xl, .int .i64 xh, .int .i64 y] 71)
  generalize (w.alloc (.cells #[.int .i64 W, .int .i64 H, .int .i64 F, .int .i64 L, .int .i64 X, .int .i64 Y] 23)).alloc (.cells #[.int .i64 nl, .int .i64 nh, .int .i64 xl, .int .i64 xh, .int .i64 y] 71) = W0 at *
  have qhS := fun i => Blk.cell hS i
  have qhQ := fun i => Blk.cell hQ i
  go_wp2_with (first | (go_at_call 39; refine (few_any A n cap fs _ hn (fun f h => ((hf f h).below hB).more hB.size) (rdB hr hB)).mono ?_; rintro e w1 ⟨rfl, rfl⟩; rw [hfw]) | (go_at_call 24; refine (known_true m _ (known_at hm hB)).mono ?_; rintro e w1 ⟨rfl, hb⟩; (try replace hS := hS.below hb hS.lt); (try replace hQ := hQ.below hb hQ.lt); replace hB := hB.trans (hb.mono hB.size); (try clear qhS); (try clear qhQ); clear hb; (try have qhS := fun i => Blk.cell hS i); (try have qhQ := fun i => Blk.cell hQ i)) | (go_at_call 24; refine (known_true m _ (known_at hm hB)).mono ?_; rintro e w1 ⟨rfl, hb⟩; (try replace hS := hS.below hb hS.lt); (try replace hQ := hQ.below hb hQ.lt); replace hB := hB.trans (hb.mono hB.size); (try clear qhS); (try clear qhQ); clear hb; (try have qhS := fun i => Blk.cell hS i); (try have qhQ := fun i => Blk.cell hQ i)))
  go_ret
  exact ⟨rfl, hB⟩
set_option maxRecDepth 100000 in
set_option maxHeartbeats 25600000 in
theorem nexts_x2 (W H F L X Y nl nh xl xh y : Int) (A : Option Addr) (n cap : Nat) (fs : List Fig) (SA : Option Addr) (sn scap : Nat) (rs : List ByteArray) (m : Int) (w : World) (hm : w.cell? ⟨0, 0, none⟩ = some (.int .i64 m)) (hcap : n ≤ cap) (hcm : cap ≤ maxLen) (hf : ∀ f ∈ fs, f.ok w w.heap.size) (hr : Rd w w.heap.size 1 A n (fs.map Fig.val)) (hsn : sn ≤ scap) (hscm : scap ≤ maxLen) (hss : ∀ r ∈ rs, r.size ≤ maxLen) (hsr : Rd w w.heap.size 1 SA sn (rs.map Value.string)) (hfw : fewB fs = true) (hsh : shortB rs = false) :
    Calls Tryz.prog 12 #[.agg #[.int .i64 W, .int .i64 H, .int .i64 F, .int .i64 L, .int .i64 X, .int .i64 Y], .slice A n cap, .agg #[.int .i64 nl, .int .i64 nh, .int .i64 xl, .int .i64 xh, .int .i64 y], .slice SA sn scap] w fun e w' => e = .returned (.bool true) ∧ Below w.heap.size w w' := by
  have hn : n ≤ maxLen := Nat.le_trans hcap hcm
  have hnS : sn ≤ maxLen := Nat.le_trans hsn hscm
  go_enter Tryz.func12, Tryz.ntmps12
  go_upto_region 1 with (fail)
  have hS := blk2_0 w (.cells #[.int .i64 nl, .int .i64 nh, .int .i64 xl, .int .i64 xh, .int .i64 y] 71) 23 #[.int .i64 W, .int .i64 H, .int .i64 F, .int .i64 L, .int .i64 X, .int .i64 Y]
  have hQ := blk2_1 w (.cells #[.int .i64 W, .int .i64 H, .int .i64 F, .int .i64 L, .int .i64 X, .int .i64 Y] 23) 71 #[.int .i64 nl, .int .i64 nh, .int .i64 xl, .int .i64 xh, .int .i64 y]
  have hB := pro_2 w (.cells #[.int .i64 W, .int .i64 H, .int .i64 F, .int .i64 L, .int .i64 X, .int .i64 Y] 23) (.cells #[.int .i64 nl, .int .i64 nh, .int .i64 xl, .int .i64 xh, .int .i64 y] 71)
  generalize (w.alloc (.cells #[.int .i64 W, .int .i64 H, .int .i64 F, .int .i64 L, .int .i64 X, .int .i64 Y] 23)).alloc (.cells #[.int .i64 nl, .int .i64 nh, .int .i64 xl, .int .i64 xh, .int .i64 y] 71) = W0 at *
  have qhS := fun i => Blk.cell hS i
  have qhQ := fun i => Blk.cell hQ i
  go_wp2_with (first | (go_at_call 39; refine (few_any A n cap fs _ hn (fun f h => ((hf f h).below hB).more hB.size) (rdB hr hB)).mono ?_; rintro e w1 ⟨rfl, rfl⟩; rw [hfw]) | (go_at_call 23; refine (short_any SA sn scap rs _ hnS hss (rdB hsr hB)).mono ?_; rintro e w1 ⟨rfl, rfl⟩; rw [hsh]) | (go_at_call 24; refine (known_true m _ (known_at hm hB)).mono ?_; rintro e w1 ⟨rfl, hb⟩; (try replace hS := hS.below hb hS.lt); (try replace hQ := hQ.below hb hQ.lt); replace hB := hB.trans (hb.mono hB.size); (try clear qhS); (try clear qhQ); clear hb; (try have qhS := fun i => Blk.cell hS i); (try have qhQ := fun i => Blk.cell hQ i)))
  go_ret
  exact ⟨rfl, hB⟩
set_option maxRecDepth 100000 in
set_option maxHeartbeats 25600000 in
theorem nexts_b1 (W H F L X Y nl nh xl xh y : Int) (A : Option Addr) (n cap : Nat) (fs : List Fig) (SA : Option Addr) (sn scap : Nat) (rs : List ByteArray) (m : Int) (w : World) (hm : w.cell? ⟨0, 0, none⟩ = some (.int .i64 m)) (hcap : n ≤ cap) (hcm : cap ≤ maxLen) (hf : ∀ f ∈ fs, f.ok w w.heap.size) (hr : Rd w w.heap.size 1 A n (fs.map Fig.val)) (hsn : sn ≤ scap) (hscm : scap ≤ maxLen) (hss : ∀ r ∈ rs, r.size ≤ maxLen) (hsr : Rd w w.heap.size 1 SA sn (rs.map Value.string)) (hfw : fewB fs = true) (hsh : shortB rs = true) (hst : stageB W H F L X Y = false) (hak : askV (askB W H F L X Y nl nh xl xh y fs && false) = 2) (HNP : Hid (nextP W H F L X Y nl nh xl xh y fs rs = (0, 0))) (HNE : Hid (nextE W H F L X Y nl nh xl xh y fs rs = 2)) :
    Calls Tryz.prog 12 #[.agg #[.int .i64 W, .int .i64 H, .int .i64 F, .int .i64 L, .int .i64 X, .int .i64 Y], .slice A n cap, .agg #[.int .i64 nl, .int .i64 nh, .int .i64 xl, .int .i64 xh, .int .i64 y], .slice SA sn scap] w fun e w' => e = .returned (.bool true) ∧ Below w.heap.size w w' := by
  have hn : n ≤ maxLen := Nat.le_trans hcap hcm
  have hnS : sn ≤ maxLen := Nat.le_trans hsn hscm
  go_enter Tryz.func12, Tryz.ntmps12
  go_upto_region 1 with (fail)
  have hS := blk2_0 w (.cells #[.int .i64 nl, .int .i64 nh, .int .i64 xl, .int .i64 xh, .int .i64 y] 71) 23 #[.int .i64 W, .int .i64 H, .int .i64 F, .int .i64 L, .int .i64 X, .int .i64 Y]
  have hQ := blk2_1 w (.cells #[.int .i64 W, .int .i64 H, .int .i64 F, .int .i64 L, .int .i64 X, .int .i64 Y] 23) 71 #[.int .i64 nl, .int .i64 nh, .int .i64 xl, .int .i64 xh, .int .i64 y]
  have hB := pro_2 w (.cells #[.int .i64 W, .int .i64 H, .int .i64 F, .int .i64 L, .int .i64 X, .int .i64 Y] 23) (.cells #[.int .i64 nl, .int .i64 nh, .int .i64 xl, .int .i64 xh, .int .i64 y] 71)
  generalize (w.alloc (.cells #[.int .i64 W, .int .i64 H, .int .i64 F, .int .i64 L, .int .i64 X, .int .i64 Y] 23)).alloc (.cells #[.int .i64 nl, .int .i64 nh, .int .i64 xl, .int .i64 xh, .int .i64 y] 71) = W0 at *
  have qhS := fun i => Blk.cell hS i
  have qhQ := fun i => Blk.cell hQ i
  go_upto_region 3 with (first | (go_at_call 39; refine (few_any A n cap fs _ hn (fun f h => ((hf f h).below hB).more hB.size) (rdB hr hB)).mono ?_; rintro e w1 ⟨rfl, rfl⟩; rw [hfw]) | (go_at_call 23; refine (short_any SA sn scap rs _ hnS hss (rdB hsr hB)).mono ?_; rintro e w1 ⟨rfl, rfl⟩; rw [hsh]))
  go_upto_region 4 with ((go_at_call 63; refine (Next_any W H F L X Y nl nh xl xh y A n cap fs SA sn scap rs _ hcap hcm (fun f h => ((hf f h).below hB).more hB.size) (rdB hr hB) hsn hscm hss (rdB hsr hB)).mono ?_; rintro e w1 ⟨rfl, hb⟩; rw [HNP.out, HNE.out]; (try replace hS := hS.below hb hS.lt); (try replace hQ := hQ.below hb hQ.lt); replace hB := hB.trans (hb.mono hB.size); (try clear qhS); (try clear qhQ); clear hb; (try have qhS := fun i => Blk.cell hS i); (try have qhQ := fun i => Blk.cell hQ i); dsimp only))
  clear HNP HNE
  rename World => W0
  have k27 : ∀ p : Blw W0.heap.size W0, Calls Tryz.prog 27 #[.agg #[.int .i64 W, .int .i64 H, .int .i64 F, .int .i64 L, .int .i64 X, .int .i64 Y]] p.to fun e w' => e = .returned (.bool false) ∧ Below p.to.heap.size p.to w' := fun p => by have h := Stage_any W H F L X Y p.to; rw [hst] at h; exact h
  have k54 : ∀ p : Blw W0.heap.size W0, Calls Tryz.prog 54 #[.agg #[.int .i64 W, .int .i64 H, .int .i64 F, .int .i64 L, .int .i64 X, .int .i64 Y], .slice A n cap, .agg #[.int .i64 nl, .int .i64 nh, .int .i64 xl, .int .i64 xh, .int .i64 y], .bool false] p.to fun e w' => e = .returned (.int .i64 2) ∧ Below p.to.heap.size p.to w' := fun p => by have h := asked_any W H F L X Y nl nh xl xh y A n cap fs false p.to hn (fun f h => ((hf f h).below (hB.trans (p.h.mono hB.size))).more (Nat.le_trans hB.size p.h.size)) (rdB hr (hB.trans (p.h.mono hB.size))); rw [hak] at h; exact h
  have hbS := fun p i => blw_blk hS p i
  have hbQ := fun p i => blw_blk hQ p i
  refine wp_region_blw (by kernel_rfl) (by kernel_rfl) ?_
  repeat (go_big_quiet_step (first | (go_at_call 27; exact Calls.blw_of _ (k27 _)) | (go_at_call 54; exact Calls.blw_of _ (k54 _))))
  refine wpQuiet_nil ?_
  rintro W3 ⟨⟨_, hb⟩, rfl⟩
  clear qhS qhQ hbS hbQ k27 k54
  replace hS := hS.below hb hS.lt; replace hQ := hQ.below hb hQ.lt; replace hB := hB.trans (hb.mono hB.size); clear hb; have qhS := fun i => Blk.cell hS i; have qhQ := fun i => Blk.cell hQ i
  go_wp2_with ((go_at_call 24; refine (known_true m _ (known_at hm hB)).mono ?_; rintro e w1 ⟨rfl, hb⟩; (try replace hS := hS.below hb hS.lt); (try replace hQ := hQ.below hb hQ.lt); replace hB := hB.trans (hb.mono hB.size); (try clear qhS); (try clear qhQ); clear hb; (try have qhS := fun i => Blk.cell hS i); (try have qhQ := fun i => Blk.cell hQ i)))
  go_ret
  exact ⟨rfl, hB⟩
set_option maxRecDepth 100000 in
set_option maxHeartbeats 25600000 in
theorem nexts_b2 (W H F L X Y nl nh xl xh y : Int) (A : Option Addr) (n cap : Nat) (fs : List Fig) (SA : Option Addr) (sn scap : Nat) (rs : List ByteArray) (m : Int) (w : World) (hm : w.cell? ⟨0, 0, none⟩ = some (.int .i64 m)) (hcap : n ≤ cap) (hcm : cap ≤ maxLen) (hf : ∀ f ∈ fs, f.ok w w.heap.size) (hr : Rd w w.heap.size 1 A n (fs.map Fig.val)) (hsn : sn ≤ scap) (hscm : scap ≤ maxLen) (hss : ∀ r ∈ rs, r.size ≤ maxLen) (hsr : Rd w w.heap.size 1 SA sn (rs.map Value.string)) (hfw : fewB fs = true) (hsh : shortB rs = true) (hst : stageB W H F L X Y = true) (hsg : sightB W H rs = false) (hak : askV (askB W H F L X Y nl nh xl xh y fs && false) = 2) (HNP : Hid (nextP W H F L X Y nl nh xl xh y fs rs = (0, 0))) (HNE : Hid (nextE W H F L X Y nl nh xl xh y fs rs = 2)) :
    Calls Tryz.prog 12 #[.agg #[.int .i64 W, .int .i64 H, .int .i64 F, .int .i64 L, .int .i64 X, .int .i64 Y], .slice A n cap, .agg #[.int .i64 nl, .int .i64 nh, .int .i64 xl, .int .i64 xh, .int .i64 y], .slice SA sn scap] w fun e w' => e = .returned (.bool true) ∧ Below w.heap.size w w' := by
  have hn : n ≤ maxLen := Nat.le_trans hcap hcm
  have hnS : sn ≤ maxLen := Nat.le_trans hsn hscm
  go_enter Tryz.func12, Tryz.ntmps12
  go_upto_region 1 with (fail)
  have hS := blk2_0 w (.cells #[.int .i64 nl, .int .i64 nh, .int .i64 xl, .int .i64 xh, .int .i64 y] 71) 23 #[.int .i64 W, .int .i64 H, .int .i64 F, .int .i64 L, .int .i64 X, .int .i64 Y]
  have hQ := blk2_1 w (.cells #[.int .i64 W, .int .i64 H, .int .i64 F, .int .i64 L, .int .i64 X, .int .i64 Y] 23) 71 #[.int .i64 nl, .int .i64 nh, .int .i64 xl, .int .i64 xh, .int .i64 y]
  have hB := pro_2 w (.cells #[.int .i64 W, .int .i64 H, .int .i64 F, .int .i64 L, .int .i64 X, .int .i64 Y] 23) (.cells #[.int .i64 nl, .int .i64 nh, .int .i64 xl, .int .i64 xh, .int .i64 y] 71)
  generalize (w.alloc (.cells #[.int .i64 W, .int .i64 H, .int .i64 F, .int .i64 L, .int .i64 X, .int .i64 Y] 23)).alloc (.cells #[.int .i64 nl, .int .i64 nh, .int .i64 xl, .int .i64 xh, .int .i64 y] 71) = W0 at *
  have qhS := fun i => Blk.cell hS i
  have qhQ := fun i => Blk.cell hQ i
  go_upto_region 3 with (first | (go_at_call 39; refine (few_any A n cap fs _ hn (fun f h => ((hf f h).below hB).more hB.size) (rdB hr hB)).mono ?_; rintro e w1 ⟨rfl, rfl⟩; rw [hfw]) | (go_at_call 23; refine (short_any SA sn scap rs _ hnS hss (rdB hsr hB)).mono ?_; rintro e w1 ⟨rfl, rfl⟩; rw [hsh]))
  go_upto_region 4 with ((go_at_call 63; refine (Next_any W H F L X Y nl nh xl xh y A n cap fs SA sn scap rs _ hcap hcm (fun f h => ((hf f h).below hB).more hB.size) (rdB hr hB) hsn hscm hss (rdB hsr hB)).mono ?_; rintro e w1 ⟨rfl, hb⟩; rw [HNP.out, HNE.out]; (try replace hS := hS.below hb hS.lt); (try replace hQ := hQ.below hb hQ.lt); replace hB := hB.trans (hb.mono hB.size); (try clear qhS); (try clear qhQ); clear hb; (try have qhS := fun i => Blk.cell hS i); (try have qhQ := fun i => Blk.cell hQ i); dsimp only))
  clear HNP HNE
  rename World => W0
  have k27 : ∀ p : Blw W0.heap.size W0, Calls Tryz.prog 27 #[.agg #[.int .i64 W, .int .i64 H, .int .i64 F, .int .i64 L, .int .i64 X, .int .i64 Y]] p.to fun e w' => e = .returned (.bool true) ∧ Below p.to.heap.size p.to w' := fun p => by have h := Stage_any W H F L X Y p.to; rw [hst] at h; exact h
  have k55 : ∀ p : Blw W0.heap.size W0, Calls Tryz.prog 55 #[.agg #[.int .i64 W, .int .i64 H, .int .i64 F, .int .i64 L, .int .i64 X, .int .i64 Y], .slice SA sn scap] p.to fun e w' => e = .returned (.bool false) ∧ Below p.to.heap.size p.to w' := fun p => by have h := refSight_any W H F L X Y SA sn scap rs p.to hnS hss (rdB hsr (hB.trans (p.h.mono hB.size))); rw [hsg] at h; exact h
  have k54 : ∀ p : Blw W0.heap.size W0, Calls Tryz.prog 54 #[.agg #[.int .i64 W, .int .i64 H, .int .i64 F, .int .i64 L, .int .i64 X, .int .i64 Y], .slice A n cap, .agg #[.int .i64 nl, .int .i64 nh, .int .i64 xl, .int .i64 xh, .int .i64 y], .bool false] p.to fun e w' => e = .returned (.int .i64 2) ∧ Below p.to.heap.size p.to w' := fun p => by have h := asked_any W H F L X Y nl nh xl xh y A n cap fs false p.to hn (fun f h => ((hf f h).below (hB.trans (p.h.mono hB.size))).more (Nat.le_trans hB.size p.h.size)) (rdB hr (hB.trans (p.h.mono hB.size))); rw [hak] at h; exact h
  have hbS := fun p i => blw_blk hS p i
  have hbQ := fun p i => blw_blk hQ p i
  refine wp_region_blw (by kernel_rfl) (by kernel_rfl) ?_
  repeat (go_big_quiet_step (first | (go_at_call 27; exact Calls.blw_of _ (k27 _)) | (go_at_call 55; exact Calls.blw_of _ (k55 _)) | (go_at_call 54; exact Calls.blw_of _ (k54 _))))
  refine wpQuiet_nil ?_
  rintro W3 ⟨⟨_, hb⟩, rfl⟩
  clear qhS qhQ hbS hbQ k27 k54 k55
  replace hS := hS.below hb hS.lt; replace hQ := hQ.below hb hQ.lt; replace hB := hB.trans (hb.mono hB.size); clear hb; have qhS := fun i => Blk.cell hS i; have qhQ := fun i => Blk.cell hQ i
  go_wp2_with ((go_at_call 24; refine (known_true m _ (known_at hm hB)).mono ?_; rintro e w1 ⟨rfl, hb⟩; (try replace hS := hS.below hb hS.lt); (try replace hQ := hQ.below hb hQ.lt); replace hB := hB.trans (hb.mono hB.size); (try clear qhS); (try clear qhQ); clear hb; (try have qhS := fun i => Blk.cell hS i); (try have qhQ := fun i => Blk.cell hQ i)))
  go_ret
  exact ⟨rfl, hB⟩
set_option maxRecDepth 100000 in
set_option maxHeartbeats 25600000 in
theorem nexts_b3 (W H F L X Y nl nh xl xh y : Int) (A : Option Addr) (n cap : Nat) (fs : List Fig) (SA : Option Addr) (sn scap : Nat) (rs : List ByteArray) (m : Int) (w : World) (hm : w.cell? ⟨0, 0, none⟩ = some (.int .i64 m)) (hcap : n ≤ cap) (hcm : cap ≤ maxLen) (hf : ∀ f ∈ fs, f.ok w w.heap.size) (hr : Rd w w.heap.size 1 A n (fs.map Fig.val)) (hsn : sn ≤ scap) (hscm : scap ≤ maxLen) (hss : ∀ r ∈ rs, r.size ≤ maxLen) (hsr : Rd w w.heap.size 1 SA sn (rs.map Value.string)) (hfw : fewB fs = true) (hsh : shortB rs = true) (hst : stageB W H F L X Y = true) (hsg : sightB W H rs = true) (hak : askV (askB W H F L X Y nl nh xl xh y fs && true) = 2) (HNP : Hid (nextP W H F L X Y nl nh xl xh y fs rs = (0, 0))) (HNE : Hid (nextE W H F L X Y nl nh xl xh y fs rs = 2)) :
    Calls Tryz.prog 12 #[.agg #[.int .i64 W, .int .i64 H, .int .i64 F, .int .i64 L, .int .i64 X, .int .i64 Y], .slice A n cap, .agg #[.int .i64 nl, .int .i64 nh, .int .i64 xl, .int .i64 xh, .int .i64 y], .slice SA sn scap] w fun e w' => e = .returned (.bool true) ∧ Below w.heap.size w w' := by
  have hn : n ≤ maxLen := Nat.le_trans hcap hcm
  have hnS : sn ≤ maxLen := Nat.le_trans hsn hscm
  go_enter Tryz.func12, Tryz.ntmps12
  go_upto_region 1 with (fail)
  have hS := blk2_0 w (.cells #[.int .i64 nl, .int .i64 nh, .int .i64 xl, .int .i64 xh, .int .i64 y] 71) 23 #[.int .i64 W, .int .i64 H, .int .i64 F, .int .i64 L, .int .i64 X, .int .i64 Y]
  have hQ := blk2_1 w (.cells #[.int .i64 W, .int .i64 H, .int .i64 F, .int .i64 L, .int .i64 X, .int .i64 Y] 23) 71 #[.int .i64 nl, .int .i64 nh, .int .i64 xl, .int .i64 xh, .int .i64 y]
  have hB := pro_2 w (.cells #[.int .i64 W, .int .i64 H, .int .i64 F, .int .i64 L, .int .i64 X, .int .i64 Y] 23) (.cells #[.int .i64 nl, .int .i64 nh, .int .i64 xl, .int .i64 xh, .int .i64 y] 71)
  generalize (w.alloc (.cells #[.int .i64 W, .int .i64 H, .int .i64 F, .int .i64 L, .int .i64 X, .int .i64 Y] 23)).alloc (.cells #[.int .i64 nl, .int .i64 nh, .int .i64 xl, .int .i64 xh, .int .i64 y] 71) = W0 at *
  have qhS := fun i => Blk.cell hS i
  have qhQ := fun i => Blk.cell hQ i
  go_upto_region 3 with (first | (go_at_call 39; refine (few_any A n cap fs _ hn (fun f h => ((hf f h).below hB).more hB.size) (rdB hr hB)).mono ?_; rintro e w1 ⟨rfl, rfl⟩; rw [hfw]) | (go_at_call 23; refine (short_any SA sn scap rs _ hnS hss (rdB hsr hB)).mono ?_; rintro e w1 ⟨rfl, rfl⟩; rw [hsh]))
  go_upto_region 4 with ((go_at_call 63; refine (Next_any W H F L X Y nl nh xl xh y A n cap fs SA sn scap rs _ hcap hcm (fun f h => ((hf f h).below hB).more hB.size) (rdB hr hB) hsn hscm hss (rdB hsr hB)).mono ?_; rintro e w1 ⟨rfl, hb⟩; rw [HNP.out, HNE.out]; (try replace hS := hS.below hb hS.lt); (try replace hQ := hQ.below hb hQ.lt); replace hB := hB.trans (hb.mono hB.size); (try clear qhS); (try clear qhQ); clear hb; (try have qhS := fun i => Blk.cell hS i); (try have qhQ := fun i => Blk.cell hQ i); dsimp only))
  clear HNP HNE
  rename World => W0
  have k27 : ∀ p : Blw W0.heap.size W0, Calls Tryz.prog 27 #[.agg #[.int .i64 W, .int .i64 H, .int .i64 F, .int .i64 L, .int .i64 X, .int .i64 Y]] p.to fun e w' => e = .returned (.bool true) ∧ Below p.to.heap.size p.to w' := fun p => by have h := Stage_any W H F L X Y p.to; rw [hst] at h; exact h
  have k55 : ∀ p : Blw W0.heap.size W0, Calls Tryz.prog 55 #[.agg #[.int .i64 W, .int .i64 H, .int .i64 F, .int .i64 L, .int .i64 X, .int .i64 Y], .slice SA sn scap] p.to fun e w' => e = .returned (.bool true) ∧ Below p.to.heap.size p.to w' := fun p => by have h := refSight_any W H F L X Y SA sn scap rs p.to hnS hss (rdB hsr (hB.trans (p.h.mono hB.size))); rw [hsg] at h; exact h
  have k54 : ∀ p : Blw W0.heap.size W0, Calls Tryz.prog 54 #[.agg #[.int .i64 W, .int .i64 H, .int .i64 F, .int .i64 L, .int .i64 X, .int .i64 Y], .slice A n cap, .agg #[.int .i64 nl, .int .i64 nh, .int .i64 xl, .int .i64 xh, .int .i64 y], .bool true] p.to fun e w' => e = .returned (.int .i64 2) ∧ Below p.to.heap.size p.to w' := fun p => by have h := asked_any W H F L X Y nl nh xl xh y A n cap fs true p.to hn (fun f h => ((hf f h).below (hB.trans (p.h.mono hB.size))).more (Nat.le_trans hB.size p.h.size)) (rdB hr (hB.trans (p.h.mono hB.size))); rw [hak] at h; exact h
  have hbS := fun p i => blw_blk hS p i
  have hbQ := fun p i => blw_blk hQ p i
  refine wp_region_blw (by kernel_rfl) (by kernel_rfl) ?_
  repeat (go_big_quiet_step (first | (go_at_call 27; exact Calls.blw_of _ (k27 _)) | (go_at_call 55; exact Calls.blw_of _ (k55 _)) | (go_at_call 54; exact Calls.blw_of _ (k54 _))))
  refine wpQuiet_nil ?_
  rintro W3 ⟨⟨_, hb⟩, rfl⟩
  clear qhS qhQ hbS hbQ k27 k54 k55
  replace hS := hS.below hb hS.lt; replace hQ := hQ.below hb hQ.lt; replace hB := hB.trans (hb.mono hB.size); clear hb; have qhS := fun i => Blk.cell hS i; have qhQ := fun i => Blk.cell hQ i
  go_wp2_with ((go_at_call 24; refine (known_true m _ (known_at hm hB)).mono ?_; rintro e w1 ⟨rfl, hb⟩; (try replace hS := hS.below hb hS.lt); (try replace hQ := hQ.below hb hQ.lt); replace hB := hB.trans (hb.mono hB.size); (try clear qhS); (try clear qhQ); clear hb; (try have qhS := fun i => Blk.cell hS i); (try have qhQ := fun i => Blk.cell hQ i)))
  go_ret
  exact ⟨rfl, hB⟩
set_option maxRecDepth 100000 in
set_option maxHeartbeats 25600000 in
theorem nexts_7 (Wn Hn : Nat) (F L X Y nl nh xl xh y : Int) (A : Option Addr) (n cap : Nat) (fs : List Fig) (SA : Option Addr) (sn scap : Nat) (rs : List ByteArray) (m : Int) (w : World) (hm : w.cell? ⟨0, 0, none⟩ = some (.int .i64 m)) (hcap : n ≤ cap) (hcm : cap ≤ maxLen) (hf : ∀ f ∈ fs, f.ok w w.heap.size) (hr : Rd w w.heap.size 1 A n (fs.map Fig.val)) (hsn : sn ≤ scap) (hscm : scap ≤ maxLen) (hss : ∀ r ∈ rs, r.size ≤ maxLen) (hsr : Rd w w.heap.size 1 SA sn (rs.map Value.string)) (hfw : fewB fs = true) (hsh : shortB rs = true) (hst : stageB Wn Hn F L X Y = true) (hsg : sightB Wn Hn rs = true) (hak : askV (askB Wn Hn F L X Y nl nh xl xh y fs && true) = 0) (hask : askB Wn Hn F L X Y nl nh xl xh y fs = true) (rl : Nat) (HRL : Hid ((rdT Wn Hn F L X Y nl nh xl xh y fs rs).length = rl)) (hrl : rl = 0) (HNP : Hid (nextP Wn Hn F L X Y nl nh xl xh y fs rs = (0, 0))) (HNE : Hid (nextE Wn Hn F L X Y nl nh xl xh y fs rs = 7)) :
    Calls Tryz.prog 12 #[.agg #[.int .i64 Wn, .int .i64 Hn, .int .i64 F, .int .i64 L, .int .i64 X, .int .i64 Y], .slice A n cap, .agg #[.int .i64 nl, .int .i64 nh, .int .i64 xl, .int .i64 xh, .int .i64 y], .slice SA sn scap] w fun e w' => e = .returned (.bool true) ∧ Below w.heap.size w w' := by
  have hn : n ≤ maxLen := Nat.le_trans hcap hcm
  have hnS : sn ≤ maxLen := Nat.le_trans hsn hscm
  go_enter Tryz.func12, Tryz.ntmps12
  go_upto_region 1 with (fail)
  have hS := blk2_0 w (.cells #[.int .i64 nl, .int .i64 nh, .int .i64 xl, .int .i64 xh, .int .i64 y] 71) 23 #[.int .i64 Wn, .int .i64 Hn, .int .i64 F, .int .i64 L, .int .i64 X, .int .i64 Y]
  have hQ := blk2_1 w (.cells #[.int .i64 Wn, .int .i64 Hn, .int .i64 F, .int .i64 L, .int .i64 X, .int .i64 Y] 23) 71 #[.int .i64 nl, .int .i64 nh, .int .i64 xl, .int .i64 xh, .int .i64 y]
  have hB := pro_2 w (.cells #[.int .i64 Wn, .int .i64 Hn, .int .i64 F, .int .i64 L, .int .i64 X, .int .i64 Y] 23) (.cells #[.int .i64 nl, .int .i64 nh, .int .i64 xl, .int .i64 xh, .int .i64 y] 71)
  generalize (w.alloc (.cells #[.int .i64 Wn, .int .i64 Hn, .int .i64 F, .int .i64 L, .int .i64 X, .int .i64 Y] 23)).alloc (.cells #[.int .i64 nl, .int .i64 nh, .int .i64 xl, .int .i64 xh, .int .i64 y] 71) = W0 at *
  have qhS := fun i => Blk.cell hS i
  have qhQ := fun i => Blk.cell hQ i
  go_upto_region 3 with (first | (go_at_call 39; refine (few_any A n cap fs _ hn (fun f h => ((hf f h).below hB).more hB.size) (rdB hr hB)).mono ?_; rintro e w1 ⟨rfl, rfl⟩; rw [hfw]) | (go_at_call 23; refine (short_any SA sn scap rs _ hnS hss (rdB hsr hB)).mono ?_; rintro e w1 ⟨rfl, rfl⟩; rw [hsh]))
  go_upto_region 4 with ((go_at_call 63; refine (Next_any Wn Hn F L X Y nl nh xl xh y A n cap fs SA sn scap rs _ hcap hcm (fun f h => ((hf f h).below hB).more hB.size) (rdB hr hB) hsn hscm hss (rdB hsr hB)).mono ?_; rintro e w1 ⟨rfl, hb⟩; rw [HNP.out, HNE.out]; (try replace hS := hS.below hb hS.lt); (try replace hQ := hQ.below hb hQ.lt); replace hB := hB.trans (hb.mono hB.size); (try clear qhS); (try clear qhQ); clear hb; (try have qhS := fun i => Blk.cell hS i); (try have qhQ := fun i => Blk.cell hQ i); dsimp only))
  clear HNP HNE hfw hsh
  rename World => W0
  have k27 : ∀ p : Blw W0.heap.size W0, Calls Tryz.prog 27 #[.agg #[.int .i64 Wn, .int .i64 Hn, .int .i64 F, .int .i64 L, .int .i64 X, .int .i64 Y]] p.to fun e w' => e = .returned (.bool true) ∧ Below p.to.heap.size p.to w' := fun p => by have h := Stage_any Wn Hn F L X Y p.to; rw [hst] at h; exact h
  have k55 : ∀ p : Blw W0.heap.size W0, Calls Tryz.prog 55 #[.agg #[.int .i64 Wn, .int .i64 Hn, .int .i64 F, .int .i64 L, .int .i64 X, .int .i64 Y], .slice SA sn scap] p.to fun e w' => e = .returned (.bool true) ∧ Below p.to.heap.size p.to w' := fun p => by have h := refSight_any Wn Hn F L X Y SA sn scap rs p.to hnS hss (rdB hsr (hB.trans (p.h.mono hB.size))); rw [hsg] at h; exact h
  have k54 : ∀ p : Blw W0.heap.size W0, Calls Tryz.prog 54 #[.agg #[.int .i64 Wn, .int .i64 Hn, .int .i64 F, .int .i64 L, .int .i64 X, .int .i64 Y], .slice A n cap, .agg #[.int .i64 nl, .int .i64 nh, .int .i64 xl, .int .i64 xh, .int .i64 y], .bool true] p.to fun e w' => e = .returned (.int .i64 0) ∧ Below p.to.heap.size p.to w' := fun p => by have h := asked_any Wn Hn F L X Y nl nh xl xh y A n cap fs true p.to hn (fun f h => ((hf f h).below (hB.trans (p.h.mono hB.size))).more (Nat.le_trans hB.size p.h.size)) (rdB hr (hB.trans (p.h.mono hB.size))); rw [hak] at h; exact h
  have hbS := fun p i => blw_blk hS p i
  have hbQ := fun p i => blw_blk hQ p i
  refine wp_region_blw (by kernel_rfl) (by kernel_rfl) ?_
  repeat (go_big_quiet_step (first | (go_at_call 27; exact Calls.blw_of _ (k27 _)) | (go_at_call 55; exact Calls.blw_of _ (k55 _)) | (go_at_call 54; exact Calls.blw_of _ (k54 _))))
  refine wpQuiet_nil ?_
  rintro W3 ⟨⟨_, hb⟩, rfl⟩
  clear qhS qhQ hbS hbQ k27 k54 k55
  replace hS := hS.below hb hS.lt; replace hQ := hQ.below hb hQ.lt; replace hB := hB.trans (hb.mono hB.size); clear hb; have qhS := fun i => Blk.cell hS i; have qhQ := fun i => Blk.cell hQ i
  subst hrl
  go_wp2_with (first | (go_at_call 57; refine (refReads_any Wn Hn F L X Y nl nh xl xh y A n cap fs SA sn scap rs _ hcap hcm (fun f h => ((hf f h).below hB).more hB.size) (rdB hr hB) (rdB hsr hB) hask hsg).mono ?_; rintro e w1 ⟨v1, rfl, own, hb⟩; obtain ⟨uA, uC, rfl⟩ := own_slice own; clear own; rw [HRL.out]; (try replace hS := hS.below hb hS.lt); (try replace hQ := hQ.below hb hQ.lt); replace hB := hB.trans (hb.mono hB.size); (try clear qhS); (try clear qhQ); clear hb; (try have qhS := fun i => Blk.cell hS i); (try have qhQ := fun i => Blk.cell hQ i)) | (go_at_call 24; refine (known_true m _ (known_at hm hB)).mono ?_; rintro e w1 ⟨rfl, hb⟩; (try replace hS := hS.below hb hS.lt); (try replace hQ := hQ.below hb hQ.lt); replace hB := hB.trans (hb.mono hB.size); (try clear qhS); (try clear qhQ); clear hb; (try have qhS := fun i => Blk.cell hS i); (try have qhQ := fun i => Blk.cell hQ i)))
  go_ret
  exact ⟨rfl, hB⟩
set_option maxRecDepth 100000 in
set_option maxHeartbeats 25600000 in
theorem nexts_5 (Wn Hn : Nat) (F L X Y nl nh xl xh y : Int) (A : Option Addr) (n cap : Nat) (fs : List Fig) (SA : Option Addr) (sn scap : Nat) (rs : List ByteArray) (m : Int) (w : World) (hm : w.cell? ⟨0, 0, none⟩ = some (.int .i64 m)) (hcap : n ≤ cap) (hcm : cap ≤ maxLen) (hf : ∀ f ∈ fs, f.ok w w.heap.size) (hr : Rd w w.heap.size 1 A n (fs.map Fig.val)) (hsn : sn ≤ scap) (hscm : scap ≤ maxLen) (hss : ∀ r ∈ rs, r.size ≤ maxLen) (hsr : Rd w w.heap.size 1 SA sn (rs.map Value.string)) (hfw : fewB fs = true) (hsh : shortB rs = true) (hst : stageB Wn Hn F L X Y = true) (hsg : sightB Wn Hn rs = true) (hak : askV (askB Wn Hn F L X Y nl nh xl xh y fs && true) = 0) (hask : askB Wn Hn F L X Y nl nh xl xh y fs = true) (rl : Nat) (HRL : Hid ((rdT Wn Hn F L X Y nl nh xl xh y fs rs).length = rl)) (hrl : rl ≠ 0) (HNP : Hid (nextP Wn Hn F L X Y nl nh xl xh y fs rs = (0, 0))) (HNE : Hid (nextE Wn Hn F L X Y nl nh xl xh y fs rs = 5)) (HBO : Hid (bestO (fun c => (mostN (agL Wn Hn F L X Y nl nh xl xh y fs rs) c.toNat : Int)) (unseenL (flatS rs)) = (-1, 0))) :
    Calls Tryz.prog 12 #[.agg #[.int .i64 Wn, .int .i64 Hn, .int .i64 F, .int .i64 L, .int .i64 X, .int .i64 Y], .slice A n cap, .agg #[.int .i64 nl, .int .i64 nh, .int .i64 xl, .int .i64 xh, .int .i64 y], .slice SA sn scap] w fun e w' => e = .returned (.bool true) ∧ Below w.heap.size w w' := by
  have hn : n ≤ maxLen := Nat.le_trans hcap hcm
  have hnS : sn ≤ maxLen := Nat.le_trans hsn hscm
  go_enter Tryz.func12, Tryz.ntmps12
  go_upto_region 1 with (fail)
  have hS := blk2_0 w (.cells #[.int .i64 nl, .int .i64 nh, .int .i64 xl, .int .i64 xh, .int .i64 y] 71) 23 #[.int .i64 Wn, .int .i64 Hn, .int .i64 F, .int .i64 L, .int .i64 X, .int .i64 Y]
  have hQ := blk2_1 w (.cells #[.int .i64 Wn, .int .i64 Hn, .int .i64 F, .int .i64 L, .int .i64 X, .int .i64 Y] 23) 71 #[.int .i64 nl, .int .i64 nh, .int .i64 xl, .int .i64 xh, .int .i64 y]
  have hB := pro_2 w (.cells #[.int .i64 Wn, .int .i64 Hn, .int .i64 F, .int .i64 L, .int .i64 X, .int .i64 Y] 23) (.cells #[.int .i64 nl, .int .i64 nh, .int .i64 xl, .int .i64 xh, .int .i64 y] 71)
  generalize (w.alloc (.cells #[.int .i64 Wn, .int .i64 Hn, .int .i64 F, .int .i64 L, .int .i64 X, .int .i64 Y] 23)).alloc (.cells #[.int .i64 nl, .int .i64 nh, .int .i64 xl, .int .i64 xh, .int .i64 y] 71) = W0 at *
  have qhS := fun i => Blk.cell hS i
  have qhQ := fun i => Blk.cell hQ i
  go_upto_region 3 with (first | (go_at_call 39; refine (few_any A n cap fs _ hn (fun f h => ((hf f h).below hB).more hB.size) (rdB hr hB)).mono ?_; rintro e w1 ⟨rfl, rfl⟩; rw [hfw]) | (go_at_call 23; refine (short_any SA sn scap rs _ hnS hss (rdB hsr hB)).mono ?_; rintro e w1 ⟨rfl, rfl⟩; rw [hsh]))
  go_upto_region 4 with ((go_at_call 63; refine (Next_any Wn Hn F L X Y nl nh xl xh y A n cap fs SA sn scap rs _ hcap hcm (fun f h => ((hf f h).below hB).more hB.size) (rdB hr hB) hsn hscm hss (rdB hsr hB)).mono ?_; rintro e w1 ⟨rfl, hb⟩; rw [HNP.out, HNE.out]; (try replace hS := hS.below hb hS.lt); (try replace hQ := hQ.below hb hQ.lt); replace hB := hB.trans (hb.mono hB.size); (try clear qhS); (try clear qhQ); clear hb; (try have qhS := fun i => Blk.cell hS i); (try have qhQ := fun i => Blk.cell hQ i); dsimp only))
  clear HNP HNE hfw hsh
  rename World => W0
  have k27 : ∀ p : Blw W0.heap.size W0, Calls Tryz.prog 27 #[.agg #[.int .i64 Wn, .int .i64 Hn, .int .i64 F, .int .i64 L, .int .i64 X, .int .i64 Y]] p.to fun e w' => e = .returned (.bool true) ∧ Below p.to.heap.size p.to w' := fun p => by have h := Stage_any Wn Hn F L X Y p.to; rw [hst] at h; exact h
  have k55 : ∀ p : Blw W0.heap.size W0, Calls Tryz.prog 55 #[.agg #[.int .i64 Wn, .int .i64 Hn, .int .i64 F, .int .i64 L, .int .i64 X, .int .i64 Y], .slice SA sn scap] p.to fun e w' => e = .returned (.bool true) ∧ Below p.to.heap.size p.to w' := fun p => by have h := refSight_any Wn Hn F L X Y SA sn scap rs p.to hnS hss (rdB hsr (hB.trans (p.h.mono hB.size))); rw [hsg] at h; exact h
  have k54 : ∀ p : Blw W0.heap.size W0, Calls Tryz.prog 54 #[.agg #[.int .i64 Wn, .int .i64 Hn, .int .i64 F, .int .i64 L, .int .i64 X, .int .i64 Y], .slice A n cap, .agg #[.int .i64 nl, .int .i64 nh, .int .i64 xl, .int .i64 xh, .int .i64 y], .bool true] p.to fun e w' => e = .returned (.int .i64 0) ∧ Below p.to.heap.size p.to w' := fun p => by have h := asked_any Wn Hn F L X Y nl nh xl xh y A n cap fs true p.to hn (fun f h => ((hf f h).below (hB.trans (p.h.mono hB.size))).more (Nat.le_trans hB.size p.h.size)) (rdB hr (hB.trans (p.h.mono hB.size))); rw [hak] at h; exact h
  have hbS := fun p i => blw_blk hS p i
  have hbQ := fun p i => blw_blk hQ p i
  refine wp_region_blw (by kernel_rfl) (by kernel_rfl) ?_
  repeat (go_big_quiet_step (first | (go_at_call 27; exact Calls.blw_of _ (k27 _)) | (go_at_call 55; exact Calls.blw_of _ (k55 _)) | (go_at_call 54; exact Calls.blw_of _ (k54 _))))
  refine wpQuiet_nil ?_
  rintro W3 ⟨⟨_, hb⟩, rfl⟩
  clear qhS qhQ hbS hbQ k27 k54 k55
  replace hS := hS.below hb hS.lt; replace hQ := hQ.below hb hQ.lt; replace hB := hB.trans (hb.mono hB.size); clear hb; have qhS := fun i => Blk.cell hS i; have qhQ := fun i => Blk.cell hQ i
  have hrz : ((rl : Int) == 0) = false := by simp; omega
  go_wp2_with (first | (go_at_call 57; refine (refReads_any Wn Hn F L X Y nl nh xl xh y A n cap fs SA sn scap rs _ hcap hcm (fun f h => ((hf f h).below hB).more hB.size) (rdB hr hB) (rdB hsr hB) hask hsg).mono ?_; rintro e w1 ⟨v1, rfl, own, hb⟩; obtain ⟨uA, uC, rfl⟩ := own_slice own; clear own; rw [HRL.out]; (try replace hS := hS.below hb hS.lt); (try replace hQ := hQ.below hb hQ.lt); replace hB := hB.trans (hb.mono hB.size); (try clear qhS); (try clear qhQ); clear hb; (try have qhS := fun i => Blk.cell hS i); (try have qhQ := fun i => Blk.cell hQ i)) | (go_at_call 64; refine (refNext_any Wn Hn F L X Y nl nh xl xh y A n cap fs SA sn scap rs _ hcap hcm (fun f h => ((hf f h).below hB).more hB.size) (rdB hr hB) (rdB hsr hB) hask hsg).mono ?_; rintro e w1 ⟨rfl, hb⟩; rw [HBO.out]; (try replace hS := hS.below hb hS.lt); (try replace hQ := hQ.below hb hQ.lt); replace hB := hB.trans (hb.mono hB.size); (try clear qhS); (try clear qhQ); clear hb; (try have qhS := fun i => Blk.cell hS i); (try have qhQ := fun i => Blk.cell hQ i); dsimp only) | (go_at_call 24; refine (known_true m _ (known_at hm hB)).mono ?_; rintro e w1 ⟨rfl, hb⟩; (try replace hS := hS.below hb hS.lt); (try replace hQ := hQ.below hb hQ.lt); replace hB := hB.trans (hb.mono hB.size); (try clear qhS); (try clear qhQ); clear hb; (try have qhS := fun i => Blk.cell hS i); (try have qhQ := fun i => Blk.cell hQ i)))
  go_ret
  exact ⟨rfl, hB⟩
set_option maxRecDepth 100000 in
set_option maxHeartbeats 25600000 in
theorem nexts_0 (Wn Hn : Nat) (F L X Y nl nh xl xh y : Int) (A : Option Addr) (n cap : Nat) (fs : List Fig) (SA : Option Addr) (sn scap : Nat) (rs : List ByteArray) (m : Int) (w : World) (hm : w.cell? ⟨0, 0, none⟩ = some (.int .i64 m)) (hcap : n ≤ cap) (hcm : cap ≤ maxLen) (hf : ∀ f ∈ fs, f.ok w w.heap.size) (hr : Rd w w.heap.size 1 A n (fs.map Fig.val)) (hsn : sn ≤ scap) (hscm : scap ≤ maxLen) (hss : ∀ r ∈ rs, r.size ≤ maxLen) (hsr : Rd w w.heap.size 1 SA sn (rs.map Value.string)) (hfw : fewB fs = true) (hsh : shortB rs = true) (hst : stageB Wn Hn F L X Y = true) (hsg : sightB Wn Hn rs = true) (hak : askV (askB Wn Hn F L X Y nl nh xl xh y fs && true) = 0) (hask : askB Wn Hn F L X Y nl nh xl xh y fs = true) (rl : Nat) (HRL : Hid ((rdT Wn Hn F L X Y nl nh xl xh y fs rs).length = rl)) (cx cy : Int) (hrl : rl ≠ 0) (hcx : 0 ≤ cx) (HNP : Hid (nextP Wn Hn F L X Y nl nh xl xh y fs rs = (cx, cy))) (HNE : Hid (nextE Wn Hn F L X Y nl nh xl xh y fs rs = 0)) (HBO : Hid (bestO (fun c => (mostN (agL Wn Hn F L X Y nl nh xl xh y fs rs) c.toNat : Int)) (unseenL (flatS rs)) = (cx, cy))) :
    Calls Tryz.prog 12 #[.agg #[.int .i64 Wn, .int .i64 Hn, .int .i64 F, .int .i64 L, .int .i64 X, .int .i64 Y], .slice A n cap, .agg #[.int .i64 nl, .int .i64 nh, .int .i64 xl, .int .i64 xh, .int .i64 y], .slice SA sn scap] w fun e w' => e = .returned (.bool true) ∧ Below w.heap.size w w' := by
  have hn : n ≤ maxLen := Nat.le_trans hcap hcm
  have hnS : sn ≤ maxLen := Nat.le_trans hsn hscm
  go_enter Tryz.func12, Tryz.ntmps12
  go_upto_region 1 with (fail)
  have hS := blk2_0 w (.cells #[.int .i64 nl, .int .i64 nh, .int .i64 xl, .int .i64 xh, .int .i64 y] 71) 23 #[.int .i64 Wn, .int .i64 Hn, .int .i64 F, .int .i64 L, .int .i64 X, .int .i64 Y]
  have hQ := blk2_1 w (.cells #[.int .i64 Wn, .int .i64 Hn, .int .i64 F, .int .i64 L, .int .i64 X, .int .i64 Y] 23) 71 #[.int .i64 nl, .int .i64 nh, .int .i64 xl, .int .i64 xh, .int .i64 y]
  have hB := pro_2 w (.cells #[.int .i64 Wn, .int .i64 Hn, .int .i64 F, .int .i64 L, .int .i64 X, .int .i64 Y] 23) (.cells #[.int .i64 nl, .int .i64 nh, .int .i64 xl, .int .i64 xh, .int .i64 y] 71)
  generalize (w.alloc (.cells #[.int .i64 Wn, .int .i64 Hn, .int .i64 F, .int .i64 L, .int .i64 X, .int .i64 Y] 23)).alloc (.cells #[.int .i64 nl, .int .i64 nh, .int .i64 xl, .int .i64 xh, .int .i64 y] 71) = W0 at *
  have qhS := fun i => Blk.cell hS i
  have qhQ := fun i => Blk.cell hQ i
  go_upto_region 3 with (first | (go_at_call 39; refine (few_any A n cap fs _ hn (fun f h => ((hf f h).below hB).more hB.size) (rdB hr hB)).mono ?_; rintro e w1 ⟨rfl, rfl⟩; rw [hfw]) | (go_at_call 23; refine (short_any SA sn scap rs _ hnS hss (rdB hsr hB)).mono ?_; rintro e w1 ⟨rfl, rfl⟩; rw [hsh]))
  go_upto_region 4 with ((go_at_call 63; refine (Next_any Wn Hn F L X Y nl nh xl xh y A n cap fs SA sn scap rs _ hcap hcm (fun f h => ((hf f h).below hB).more hB.size) (rdB hr hB) hsn hscm hss (rdB hsr hB)).mono ?_; rintro e w1 ⟨rfl, hb⟩; rw [HNP.out, HNE.out]; (try replace hS := hS.below hb hS.lt); (try replace hQ := hQ.below hb hQ.lt); replace hB := hB.trans (hb.mono hB.size); (try clear qhS); (try clear qhQ); clear hb; (try have qhS := fun i => Blk.cell hS i); (try have qhQ := fun i => Blk.cell hQ i); dsimp only))
  clear HNP HNE hfw hsh
  rename World => W0
  have k27 : ∀ p : Blw W0.heap.size W0, Calls Tryz.prog 27 #[.agg #[.int .i64 Wn, .int .i64 Hn, .int .i64 F, .int .i64 L, .int .i64 X, .int .i64 Y]] p.to fun e w' => e = .returned (.bool true) ∧ Below p.to.heap.size p.to w' := fun p => by have h := Stage_any Wn Hn F L X Y p.to; rw [hst] at h; exact h
  have k55 : ∀ p : Blw W0.heap.size W0, Calls Tryz.prog 55 #[.agg #[.int .i64 Wn, .int .i64 Hn, .int .i64 F, .int .i64 L, .int .i64 X, .int .i64 Y], .slice SA sn scap] p.to fun e w' => e = .returned (.bool true) ∧ Below p.to.heap.size p.to w' := fun p => by have h := refSight_any Wn Hn F L X Y SA sn scap rs p.to hnS hss (rdB hsr (hB.trans (p.h.mono hB.size))); rw [hsg] at h; exact h
  have k54 : ∀ p : Blw W0.heap.size W0, Calls Tryz.prog 54 #[.agg #[.int .i64 Wn, .int .i64 Hn, .int .i64 F, .int .i64 L, .int .i64 X, .int .i64 Y], .slice A n cap, .agg #[.int .i64 nl, .int .i64 nh, .int .i64 xl, .int .i64 xh, .int .i64 y], .bool true] p.to fun e w' => e = .returned (.int .i64 0) ∧ Below p.to.heap.size p.to w' := fun p => by have h := asked_any Wn Hn F L X Y nl nh xl xh y A n cap fs true p.to hn (fun f h => ((hf f h).below (hB.trans (p.h.mono hB.size))).more (Nat.le_trans hB.size p.h.size)) (rdB hr (hB.trans (p.h.mono hB.size))); rw [hak] at h; exact h
  have hbS := fun p i => blw_blk hS p i
  have hbQ := fun p i => blw_blk hQ p i
  refine wp_region_blw (by kernel_rfl) (by kernel_rfl) ?_
  repeat (go_big_quiet_step (first | (go_at_call 27; exact Calls.blw_of _ (k27 _)) | (go_at_call 55; exact Calls.blw_of _ (k55 _)) | (go_at_call 54; exact Calls.blw_of _ (k54 _))))
  refine wpQuiet_nil ?_
  rintro W3 ⟨⟨_, hb⟩, rfl⟩
  clear qhS qhQ hbS hbQ k27 k54 k55
  replace hS := hS.below hb hS.lt; replace hQ := hQ.below hb hQ.lt; replace hB := hB.trans (hb.mono hB.size); clear hb; have qhS := fun i => Blk.cell hS i; have qhQ := fun i => Blk.cell hQ i
  have hrz : ((rl : Int) == 0) = false := by simp; omega
  have hcn : ¬ cx < 0 := by omega
  go_wp2_with (first | (go_at_call 57; refine (refReads_any Wn Hn F L X Y nl nh xl xh y A n cap fs SA sn scap rs _ hcap hcm (fun f h => ((hf f h).below hB).more hB.size) (rdB hr hB) (rdB hsr hB) hask hsg).mono ?_; rintro e w1 ⟨v1, rfl, own, hb⟩; obtain ⟨uA, uC, rfl⟩ := own_slice own; clear own; rw [HRL.out]; (try replace hS := hS.below hb hS.lt); (try replace hQ := hQ.below hb hQ.lt); replace hB := hB.trans (hb.mono hB.size); (try clear qhS); (try clear qhQ); clear hb; (try have qhS := fun i => Blk.cell hS i); (try have qhQ := fun i => Blk.cell hQ i)) | (go_at_call 64; refine (refNext_any Wn Hn F L X Y nl nh xl xh y A n cap fs SA sn scap rs _ hcap hcm (fun f h => ((hf f h).below hB).more hB.size) (rdB hr hB) (rdB hsr hB) hask hsg).mono ?_; rintro e w1 ⟨rfl, hb⟩; rw [HBO.out]; (try replace hS := hS.below hb hS.lt); (try replace hQ := hQ.below hb hQ.lt); replace hB := hB.trans (hb.mono hB.size); (try clear qhS); (try clear qhQ); clear hb; (try have qhS := fun i => Blk.cell hS i); (try have qhQ := fun i => Blk.cell hQ i); dsimp only) | (go_at_call 24; refine (known_true m _ (known_at hm hB)).mono ?_; rintro e w1 ⟨rfl, hb⟩; (try replace hS := hS.below hb hS.lt); (try replace hQ := hQ.below hb hQ.lt); replace hB := hB.trans (hb.mono hB.size); (try clear qhS); (try clear qhQ); clear hb; (try have qhS := fun i => Blk.cell hS i); (try have qhQ := fun i => Blk.cell hQ i)))
  go_ret
  exact ⟨rfl, hB⟩
theorem nexts_law (W H F L X Y nl nh xl xh y : Int) (A : Option Addr) (n cap : Nat) (fs : List Fig) (SA : Option Addr) (sn scap : Nat) (rs : List ByteArray) (m : Int) (w : World) (hm : w.cell? ⟨0, 0, none⟩ = some (.int .i64 m)) (hcap : n ≤ cap) (hcm : cap ≤ maxLen) (hf : ∀ f ∈ fs, f.ok w w.heap.size) (hr : Rd w w.heap.size 1 A n (fs.map Fig.val)) (hsn : sn ≤ scap) (hscm : scap ≤ maxLen) (hss : ∀ r ∈ rs, r.size ≤ maxLen) (hsr : Rd w w.heap.size 1 SA sn (rs.map Value.string)) :
    Calls Tryz.prog 12 #[.agg #[.int .i64 W, .int .i64 H, .int .i64 F, .int .i64 L, .int .i64 X, .int .i64 Y], .slice A n cap, .agg #[.int .i64 nl, .int .i64 nh, .int .i64 xl, .int .i64 xh, .int .i64 y], .slice SA sn scap] w fun e w' => e = .returned (.bool true) ∧ Below w.heap.size w w' := by
  cases hfw : fewB fs
  · exact nexts_x1 W H F L X Y nl nh xl xh y A n cap fs SA sn scap rs m w hm hcap hcm hf hr hsn hscm hss hsr hfw
  cases hsh : shortB rs
  · exact nexts_x2 W H F L X Y nl nh xl xh y A n cap fs SA sn scap rs m w hm hcap hcm hf hr hsn hscm hss hsr hfw hsh
  have hbad : goodQ W H F L X Y nl nh xl xh y fs rs = false → nextP W H F L X Y nl nh xl xh y fs rs = (0, 0) ∧ nextE W H F L X Y nl nh xl xh y fs rs = 2 := fun h => ⟨by unfold nextP; rw [h]; rfl, by unfold nextE; rw [h]; rfl⟩
  cases hst : stageB W H F L X Y
  · obtain ⟨a1, a2⟩ := hbad (by simp [goodQ, askB, hst])
    exact nexts_b1 W H F L X Y nl nh xl xh y A n cap fs SA sn scap rs m w hm hcap hcm hf hr hsn hscm hss hsr hfw hsh hst (by simp [askV]) (Lib.hid a1) (Lib.hid a2)
  cases hsg : sightB W H rs
  · obtain ⟨a1, a2⟩ := hbad (by simp [goodQ, hsg])
    exact nexts_b2 W H F L X Y nl nh xl xh y A n cap fs SA sn scap rs m w hm hcap hcm hf hr hsn hscm hss hsr hfw hsh hst hsg (by simp [askV]) (Lib.hid a1) (Lib.hid a2)
  rcases askV_iff (b := askB W H F L X Y nl nh xl xh y fs) with ⟨hak, hask⟩ | ⟨hak, hask⟩
  rotate_left
  · obtain ⟨a1, a2⟩ := hbad (by simp [goodQ, hask])
    exact nexts_b3 W H F L X Y nl nh xl xh y A n cap fs SA sn scap rs m w hm hcap hcm hf hr hsn hscm hss hsr hfw hsh hst hsg hak (Lib.hid a1) (Lib.hid a2)
  have hgood : goodQ W H F L X Y nl nh xl xh y fs rs = true := by simp only [goodQ, hask, hsg]; rfl
  have hdim := ask_dims hask
  obtain ⟨Wn, rfl⟩ : ∃ k : Nat, W = k := ⟨W.toNat, by omega⟩
  obtain ⟨Hn, rfl⟩ : ∃ k : Nat, H = k := ⟨H.toNat, by omega⟩
  have hrl : (rdT Wn Hn F L X Y nl nh xl xh y fs rs).length = (agL Wn Hn F L X Y nl nh xl xh y fs rs).length := by rw [agL_rdT, List.length_map]
  by_cases hag0 : (agL Wn Hn F L X Y nl nh xl xh y fs rs).length = 0
  · exact nexts_7 Wn Hn F L X Y nl nh xl xh y A n cap fs SA sn scap rs m w hm hcap hcm hf hr hsn hscm hss hsr hfw hsh hst hsg hak hask _ (Lib.hid rfl) (by rw [hrl]; exact hag0) (Lib.hid (by unfold nextP; rw [if_pos hgood, if_pos hag0])) (Lib.hid (by unfold nextE; rw [if_pos hgood, if_pos hag0]))
  by_cases hun : (unseenL (flatS rs)).length = 0
  · have hu0 : unseenL (flatS rs) = [] := List.length_eq_zero_iff.1 hun
    have hui : unseenI rs = [] := by unfold unseenI; rw [hu0]; rfl
    exact nexts_5 Wn Hn F L X Y nl nh xl xh y A n cap fs SA sn scap rs m w hm hcap hcm hf hr hsn hscm hss hsr hfw hsh hst hsg hak hask _ (Lib.hid rfl) (by rw [hrl]; exact hag0) (Lib.hid (by unfold nextP; rw [if_pos hgood, if_neg hag0, hui])) (Lib.hid (by unfold nextE; rw [if_pos hgood, if_neg hag0, if_pos hun])) (Lib.hid (by rw [hu0]; rfl))
  have hune : unseenL (flatS rs) ≠ [] := fun h => hun (by rw [h]; rfl)
  have hbo : bestO (fun c => (mostN (agL Wn Hn F L X Y nl nh xl xh y fs rs) c.toNat : Int)) (unseenL (flatS rs)) = nextP Wn Hn F L X Y nl nh xl xh y fs rs := by
    unfold nextP bestO
    rw [if_pos hgood, if_neg hag0]
    unfold unseenI
    cases h : (unseenL (flatS rs)).map (fun n : Nat => (n : Int)) with
    | nil => exact absurd (List.map_eq_nil_iff.1 h) hune
    | cons c0 cs => rfl
  have hpos := bestO_pos (cost := fun c => (mostN (agL Wn Hn F L X Y nl nh xl xh y fs rs) c.toNat : Int)) hune
  rw [hbo] at hpos
  exact nexts_0 Wn Hn F L X Y nl nh xl xh y A n cap fs SA sn scap rs m w hm hcap hcm hf hr hsn hscm hss hsr hfw hsh hst hsg hak hask _ (Lib.hid rfl) (nextP Wn Hn F L X Y nl nh xl xh y fs rs).1 (nextP Wn Hn F L X Y nl nh xl xh y fs rs).2 (by rw [hrl]; exact hag0) hpos (Lib.hid rfl) (Lib.hid (by unfold nextE; rw [if_pos hgood, if_neg hag0, if_neg hun])) (Lib.hid (by rw [hbo]))
end Go.Proofs.YtifddfchpknkbaaGreatDoor
