import Derived.Test.YtifddfchpknkbaaGreatDoorRt
import Derived.Test.YtifddfchpknkbaaGreatDoorLz
set_option linter.unusedVariables false
set_option linter.unusedSimpArgs false
namespace Go.Proofs.YtifddfchpknkbaaGreatDoor
open Go.RowKit

theorem sameL_self (xs : List Int) : sameL xs xs = true := by
  unfold sameL
  rw [decide_eq_true rfl, Bool.true_and, List.all_eq_true]
  intro p hp
  have : p.1 = p.2 := by
    obtain ⟨i, hi, rfl⟩ := List.getElem_of_mem hp
    rw [List.getElem_zip]
  simp [sameP, this]
set_option maxRecDepth 100000 in
set_option maxHeartbeats 25600000 in
theorem reads_x1 (W H F L X Y nl nh xl xh y : Int) (A : Option Addr) (n cap : Nat) (fs : List Fig) (SA : Option Addr) (sn scap : Nat) (rs : List ByteArray) (m : Int) (w : World) (hm : w.cell? ⟨0, 0, none⟩ = some (.int .i64 m)) (hcap : n ≤ cap) (hcm : cap ≤ maxLen) (hf : ∀ f ∈ fs, f.ok w w.heap.size) (hr : Rd w w.heap.size 1 A n (fs.map Fig.val)) (hsn : sn ≤ scap) (hscm : scap ≤ maxLen) (hss : ∀ r ∈ rs, r.size ≤ maxLen) (hsr : Rd w w.heap.size 1 SA sn (rs.map Value.string)) (hfw : fewB fs = false) :
    Calls Tryz.prog 10 #[.agg #[.int .i64 W, .int .i64 H, .int .i64 F, .int .i64 L, .int .i64 X, .int .i64 Y], .slice A n cap, .agg #[.int .i64 nl, .int .i64 nh, .int .i64 xl, .int .i64 xh, .int .i64 y], .slice SA sn scap] w fun e w' => e = .returned (.bool true) ∧ Below w.heap.size w w' := by
  have hn : n ≤ maxLen := Nat.le_trans hcap hcm
  have hnS : sn ≤ maxLen := Nat.le_trans hsn hscm
  go_enter Tryz.func10, Tryz.ntmps10
  go_upto_region 1 with (fail)
  have hS := blk2_0 w (.cells #[.int .i64 nl, .int .i64 nh, .int .i64 xl, .int .i64 xh, .int .i64 y] 71) 23 #[.int .i64 W, .int .i64 H, .int .i64 F, .int .i64 L, .int .i64 X, .int .i64 Y]
  have hQ := blk2_1 w (.cells #[.int .i64 W, .int .i64 H, .int .i64 F, .int .i64 L, .int .i64 X, .int .i64 Y] 23) 71 #[.int .i64 nl, .int .i64 nh, .int .i64 xl, .int .i64 xh, .int .i64 y]
  have hB := pro_2 w (.cells #[.int .i64 W, .int .i64 H, .int .i64 F, .int .i64 L, .int .i64 X, .int .i64 Y] 23) (.cells #[.int .i64 nl, .int .i64 nh, .int .i64 xl, .int .i64 xh, .int .i64 y] 71)
  generalize (w.alloc (.cells #[.int .i64 W, .int .i64 H, .int .i64 F, .int .i64 L, .int .i64 X, .int .i64 Y] 23)).alloc (.cells #[.int .i64 nl, .int .i64 nh, .int .i64 xl, .int .i64 xh, .int .i64 y] 71) = W0 at *
  have qhS := fun i => Blk.cell hS i
  have qhQ := fun i => Blk.cell hQ i
  go_wp2_with (first | (go_at_call 39; refine (few_any A n cap fs _ hn (fun f h => ((hf f h).below hB).more hB.size) (rdB hr hB)).mono ?_; rintro e w1 ⟨rfl, rfl⟩; rw [hfw]) | (go_at_call 24; refine (known_true m _ (known_at hm hB)).mono ?_; rintro e w1 ⟨rfl, hb⟩; (try replace hS := hS.below hb hS.lt); (try replace hQ := hQ.below hb hQ.lt); replace hB := hB.trans (hb.mono hB.size); (try clear qhS); (try clear qhQ); clear hb; (try have qhS := fun i => Blk.cell hS i); (try have qhQ := fun i => Blk.cell hQ i)) | (go_at_call 24; refine (known_true m _ (known_at hm hB)).mono ?_; rintro e w1 ⟨rfl, hb⟩; (try replace hS := hS.below hb hS.lt); (try replace hQ := hQ.below hb hQ.lt); replace hB := hB.trans (hb.mono hB.size); (try clear qhS); (try clear qhQ); clear hb; (try have qhS := fun i => Blk.cell hS i); (try have qhQ := fun i => Blk.cell hQ i)))
  go_ret
  exact ⟨rfl, hB⟩
set_option maxRecDepth 100000 in
set_option maxHeartbeats 25600000 in
theorem reads_x2 (W H F L X Y nl nh xl xh y : Int) (A : Option Addr) (n cap : Nat) (fs : List Fig) (SA : Option Addr) (sn scap : Nat) (rs : List ByteArray) (m : Int) (w : World) (hm : w.cell? ⟨0, 0, none⟩ = some (.int .i64 m)) (hcap : n ≤ cap) (hcm : cap ≤ maxLen) (hf : ∀ f ∈ fs, f.ok w w.heap.size) (hr : Rd w w.heap.size 1 A n (fs.map Fig.val)) (hsn : sn ≤ scap) (hscm : scap ≤ maxLen) (hss : ∀ r ∈ rs, r.size ≤ maxLen) (hsr : Rd w w.heap.size 1 SA sn (rs.map Value.string)) (hfw : fewB fs = true) (hsh : shortB rs = false) :
    Calls Tryz.prog 10 #[.agg #[.int .i64 W, .int .i64 H, .int .i64 F, .int .i64 L, .int .i64 X, .int .i64 Y], .slice A n cap, .agg #[.int .i64 nl, .int .i64 nh, .int .i64 xl, .int .i64 xh, .int .i64 y], .slice SA sn scap] w fun e w' => e = .returned (.bool true) ∧ Below w.heap.size w w' := by
  have hn : n ≤ maxLen := Nat.le_trans hcap hcm
  have hnS : sn ≤ maxLen := Nat.le_trans hsn hscm
  go_enter Tryz.func10, Tryz.ntmps10
  go_upto_region 1 with (fail)
  have hS := blk2_0 w (.cells #[.int .i64 nl, .int .i64 nh, .int .i64 xl, .int .i64 xh, .int .i64 y] 71) 23 #[.int .i64 W, .int .i64 H, .int .i64 F, .int .i64 L, .int .i64 X, .int .i64 Y]
  have hQ := blk2_1 w (.cells #[.int .i64 W, .int .i64 H, .int .i64 F, .int .i64 L, .int .i64 X, .int .i64 Y] 23) 71 #[.int .i64 nl, .int .i64 nh, .int .i64 xl, .int .i64 xh, .int .i64 y]
  have hB := pro_2 w (.cells #[.int .i64 W, .int .i64 H, .int .i64 F, .int .i64 L, .int .i64 X, .int .i64 Y] 23) (.cells #[.int .i64 nl, .int .i64 nh, .int .i64 xl, .int .i64 xh, .int .i64 y] 71)
  generalize (w.alloc (.cells #[.int .i64 W, .int .i64 H, .int .i64 F, .int .i64 L, .int .i64 X, .int .i64 Y] 23)).alloc (.cells #[.int .i64 nl, .int .i64 nh, .int .i64 xl, .int .i64 xh, .int .i64 y] 71) = W0 at *
  have qhS := fun i => Blk.cell hS i
  have qhQ := fun i => Blk.cell hQ i
  go_wp2_with (first | (go_at_call 39; refine (few_any A n cap fs _ hn (fun f h => ((hf f h).below hB).more hB.size) (rdB hr hB)).mono ?_; rintro e w1 ⟨rfl, rfl⟩; rw [hfw]) | (go_at_call 23; refine (short_any SA sn scap rs _ hnS hss (rdB hsr hB)).mono ?_; rintro e w1 ⟨rfl, rfl⟩; rw [hsh]) | (go_at_call 24; refine (known_true m _ (known_at hm hB)).mono ?_; rintro e w1 ⟨rfl, hb⟩; (try replace hS := hS.below hb hS.lt); (try replace hQ := hQ.below hb hQ.lt); replace hB := hB.trans (hb.mono hB.size); (try clear qhS); (try clear qhQ); clear hb; (try have qhS := fun i => Blk.cell hS i); (try have qhQ := fun i => Blk.cell hQ i)))
  go_ret
  exact ⟨rfl, hB⟩
set_option maxRecDepth 100000 in
set_option maxHeartbeats 25600000 in
theorem reads_b1 (W H F L X Y nl nh xl xh y : Int) (A : Option Addr) (n cap : Nat) (fs : List Fig) (SA : Option Addr) (sn scap : Nat) (rs : List ByteArray) (m : Int) (w : World) (hm : w.cell? ⟨0, 0, none⟩ = some (.int .i64 m)) (hcap : n ≤ cap) (hcm : cap ≤ maxLen) (hf : ∀ f ∈ fs, f.ok w w.heap.size) (hr : Rd w w.heap.size 1 A n (fs.map Fig.val)) (hsn : sn ≤ scap) (hscm : scap ≤ maxLen) (hss : ∀ r ∈ rs, r.size ≤ maxLen) (hsr : Rd w w.heap.size 1 SA sn (rs.map Value.string)) (hfw : fewB fs = true) (hsh : shortB rs = true) (hst : stageB W H F L X Y = false) (hak : askV (askB W H F L X Y nl nh xl xh y fs && false) = 2) (HRE : Hid (readsE W H F L X Y nl nh xl xh y fs rs = 2)) (HRL : Hid (readsL W H F L X Y nl nh xl xh y fs rs = [])) (HWE : Hid (whoE W H F L X Y nl nh xl xh y fs rs = 2)) (HWL : Hid (whoL W H F L X Y nl nh xl xh y fs rs = [])) :
    Calls Tryz.prog 10 #[.agg #[.int .i64 W, .int .i64 H, .int .i64 F, .int .i64 L, .int .i64 X, .int .i64 Y], .slice A n cap, .agg #[.int .i64 nl, .int .i64 nh, .int .i64 xl, .int .i64 xh, .int .i64 y], .slice SA sn scap] w fun e w' => e = .returned (.bool true) ∧ Below w.heap.size w w' := by
  have hn : n ≤ maxLen := Nat.le_trans hcap hcm
  have hnS : sn ≤ maxLen := Nat.le_trans hsn hscm
  go_enter Tryz.func10, Tryz.ntmps10
  go_upto_region 1 with (fail)
  have hS := blk2_0 w (.cells #[.int .i64 nl, .int .i64 nh, .int .i64 xl, .int .i64 xh, .int .i64 y] 71) 23 #[.int .i64 W, .int .i64 H, .int .i64 F, .int .i64 L, .int .i64 X, .int .i64 Y]
  have hQ := blk2_1 w (.cells #[.int .i64 W, .int .i64 H, .int .i64 F, .int .i64 L, .int .i64 X, .int .i64 Y] 23) 71 #[.int .i64 nl, .int .i64 nh, .int .i64 xl, .int .i64 xh, .int .i64 y]
  have hB := pro_2 w (.cells #[.int .i64 W, .int .i64 H, .int .i64 F, .int .i64 L, .int .i64 X, .int .i64 Y] 23) (.cells #[.int .i64 nl, .int .i64 nh, .int .i64 xl, .int .i64 xh, .int .i64 y] 71)
  generalize (w.alloc (.cells #[.int .i64 W, .int .i64 H, .int .i64 F, .int .i64 L, .int .i64 X, .int .i64 Y] 23)).alloc (.cells #[.int .i64 nl, .int .i64 nh, .int .i64 xl, .int .i64 xh, .int .i64 y] 71) = W0 at *
  have qhS := fun i => Blk.cell hS i
  have qhQ := fun i => Blk.cell hQ i
  go_upto_region 3 with (first | (go_at_call 39; refine (few_any A n cap fs _ hn (fun f h => ((hf f h).below hB).more hB.size) (rdB hr hB)).mono ?_; rintro e w1 ⟨rfl, rfl⟩; rw [hfw]) | (go_at_call 23; refine (short_any SA sn scap rs _ hnS hss (rdB hsr hB)).mono ?_; rintro e w1 ⟨rfl, rfl⟩; rw [hsh]))
  go_upto_region 4 with ((go_at_call 52; refine (Reads_any W H F L X Y nl nh xl xh y A n cap fs SA sn scap rs _ hcap hcm (fun f h => ((hf f h).below hB).more hB.size) (rdB hr hB) hsn hscm hss (rdB hsr hB)).mono ?_; rintro e w1 ⟨v1, rfl, hIs, hb⟩; obtain ⟨xA, xn, xc, rfl, hx1, hx2, hX⟩ := hIs; rw [HRL.out] at hX; rw [HRE.out]; (try replace hS := hS.below hb hS.lt); (try replace hQ := hQ.below hb hQ.lt); (try replace hW := rdB hW hb); (try replace hU := rdB hU hb); (try replace hV := rdB hV hb); replace hB := hB.trans (hb.mono hB.size); (try clear qhS); (try clear qhQ); clear hb; (try have qhS := fun i => Blk.cell hS i); (try have qhQ := fun i => Blk.cell hQ i)))
  go_upto_region 5 with ((go_at_call 53; refine (Who_any W H F L X Y nl nh xl xh y A n cap fs SA sn scap rs _ hcap hcm (fun f h => ((hf f h).below hB).more hB.size) (rdB hr hB) hsn hscm hss (rdB hsr hB)).mono ?_; rintro e w1 ⟨v1, rfl, hIs, hb⟩; obtain ⟨wA, wn, wc, rfl, hw1, hw2, hW⟩ := hIs; rw [HWL.out] at hW; rw [HWE.out]; (try replace hS := hS.below hb hS.lt); (try replace hQ := hQ.below hb hQ.lt); (try replace hX := rdB hX hb); (try replace hU := rdB hU hb); (try replace hV := rdB hV hb); replace hB := hB.trans (hb.mono hB.size); (try clear qhS); (try clear qhQ); clear hb; (try have qhS := fun i => Blk.cell hS i); (try have qhQ := fun i => Blk.cell hQ i)))
  clear HRE HRL HWE HWL
  have hxn : xn = 0 := by have := hX.1; simp at this; omega
  have hwn : wn = 0 := hW.len.symm
  subst hxn hwn
  rename World => W0
  have k27 : ∀ p : Blw W0.heap.size W0, Calls Tryz.prog 27 #[.agg #[.int .i64 W, .int .i64 H, .int .i64 F, .int .i64 L, .int .i64 X, .int .i64 Y]] p.to fun e w' => e = .returned (.bool false) ∧ Below p.to.heap.size p.to w' := fun p => by have h := Stage_any W H F L X Y p.to; rw [hst] at h; exact h
  have k54 : ∀ p : Blw W0.heap.size W0, Calls Tryz.prog 54 #[.agg #[.int .i64 W, .int .i64 H, .int .i64 F, .int .i64 L, .int .i64 X, .int .i64 Y], .slice A n cap, .agg #[.int .i64 nl, .int .i64 nh, .int .i64 xl, .int .i64 xh, .int .i64 y], .bool false] p.to fun e w' => e = .returned (.int .i64 2) ∧ Below p.to.heap.size p.to w' := fun p => by have h := asked_any W H F L X Y nl nh xl xh y A n cap fs false p.to hn (fun f h => ((hf f h).below (hB.trans (p.h.mono hB.size))).more (Nat.le_trans hB.size p.h.size)) (rdB hr (hB.trans (p.h.mono hB.size))); rw [hak] at h; exact h
  have hbS := fun p i => blw_blk hS p i
  have hbQ := fun p i => blw_blk hQ p i
  refine wp_region_blw (by kernel_rfl) (by kernel_rfl) ?_
  repeat (go_big_quiet_step (first | (go_at_call 27; exact Calls.blw_of _ (k27 _)) | (go_at_call 54; exact Calls.blw_of _ (k54 _))))
  refine wpQuiet_nil ?_
  rintro W3 ⟨⟨_, hb⟩, rfl⟩
  clear qhS qhQ hbS hbQ k27 k54
  replace hS := hS.below hb hS.lt; replace hQ := hQ.below hb hQ.lt; replace hX := rdB hX hb; replace hW := rdB hW hb; replace hB := hB.trans (hb.mono hB.size); clear hb; have qhS := fun i => Blk.cell hS i; have qhQ := fun i => Blk.cell hQ i
  go_wp2_with ((go_at_call 24; refine (known_true m _ (known_at hm hB)).mono ?_; rintro e w1 ⟨rfl, hb⟩; (try replace hS := hS.below hb hS.lt); (try replace hQ := hQ.below hb hQ.lt); (try replace hX := rdB hX hb); (try replace hW := rdB hW hb); (try replace hU := rdB hU hb); (try replace hV := rdB hV hb); replace hB := hB.trans (hb.mono hB.size); (try clear qhS); (try clear qhQ); clear hb; (try have qhS := fun i => Blk.cell hS i); (try have qhQ := fun i => Blk.cell hQ i)))
  go_ret
  exact ⟨rfl, hB⟩
set_option maxRecDepth 100000 in
set_option maxHeartbeats 25600000 in
theorem reads_b2 (W H F L X Y nl nh xl xh y : Int) (A : Option Addr) (n cap : Nat) (fs : List Fig) (SA : Option Addr) (sn scap : Nat) (rs : List ByteArray) (m : Int) (w : World) (hm : w.cell? ⟨0, 0, none⟩ = some (.int .i64 m)) (hcap : n ≤ cap) (hcm : cap ≤ maxLen) (hf : ∀ f ∈ fs, f.ok w w.heap.size) (hr : Rd w w.heap.size 1 A n (fs.map Fig.val)) (hsn : sn ≤ scap) (hscm : scap ≤ maxLen) (hss : ∀ r ∈ rs, r.size ≤ maxLen) (hsr : Rd w w.heap.size 1 SA sn (rs.map Value.string)) (hfw : fewB fs = true) (hsh : shortB rs = true) (hst : stageB W H F L X Y = true) (hsg : sightB W H rs = false) (hak : askV (askB W H F L X Y nl nh xl xh y fs && false) = 2) (HRE : Hid (readsE W H F L X Y nl nh xl xh y fs rs = 2)) (HRL : Hid (readsL W H F L X Y nl nh xl xh y fs rs = [])) (HWE : Hid (whoE W H F L X Y nl nh xl xh y fs rs = 2)) (HWL : Hid (whoL W H F L X Y nl nh xl xh y fs rs = [])) :
    Calls Tryz.prog 10 #[.agg #[.int .i64 W, .int .i64 H, .int .i64 F, .int .i64 L, .int .i64 X, .int .i64 Y], .slice A n cap, .agg #[.int .i64 nl, .int .i64 nh, .int .i64 xl, .int .i64 xh, .int .i64 y], .slice SA sn scap] w fun e w' => e = .returned (.bool true) ∧ Below w.heap.size w w' := by
  have hn : n ≤ maxLen := Nat.le_trans hcap hcm
  have hnS : sn ≤ maxLen := Nat.le_trans hsn hscm
  go_enter Tryz.func10, Tryz.ntmps10
  go_upto_region 1 with (fail)
  have hS := blk2_0 w (.cells #[.int .i64 nl, .int .i64 nh, .int .i64 xl, .int .i64 xh, .int .i64 y] 71) 23 #[.int .i64 W, .int .i64 H, .int .i64 F, .int .i64 L, .int .i64 X, .int .i64 Y]
  have hQ := blk2_1 w (.cells #[.int .i64 W, .int .i64 H, .int .i64 F, .int .i64 L, .int .i64 X, .int .i64 Y] 23) 71 #[.int .i64 nl, .int .i64 nh, .int .i64 xl, .int .i64 xh, .int .i64 y]
  have hB := pro_2 w (.cells #[.int .i64 W, .int .i64 H, .int .i64 F, .int .i64 L, .int .i64 X, .int .i64 Y] 23) (.cells #[.int .i64 nl, .int .i64 nh, .int .i64 xl, .int .i64 xh, .int .i64 y] 71)
  generalize (w.alloc (.cells #[.int .i64 W, .int .i64 H, .int .i64 F, .int .i64 L, .int .i64 X, .int .i64 Y] 23)).alloc (.cells #[.int .i64 nl, .int .i64 nh, .int .i64 xl, .int .i64 xh, .int .i64 y] 71) = W0 at *
  have qhS := fun i => Blk.cell hS i
  have qhQ := fun i => Blk.cell hQ i
  go_upto_region 3 with (first | (go_at_call 39; refine (few_any A n cap fs _ hn (fun f h => ((hf f h).below hB).more hB.size) (rdB hr hB)).mono ?_; rintro e w1 ⟨rfl, rfl⟩; rw [hfw]) | (go_at_call 23; refine (short_any SA sn scap rs _ hnS hss (rdB hsr hB)).mono ?_; rintro e w1 ⟨rfl, rfl⟩; rw [hsh]))
  go_upto_region 4 with ((go_at_call 52; refine (Reads_any W H F L X Y nl nh xl xh y A n cap fs SA sn scap rs _ hcap hcm (fun f h => ((hf f h).below hB).more hB.size) (rdB hr hB) hsn hscm hss (rdB hsr hB)).mono ?_; rintro e w1 ⟨v1, rfl, hIs, hb⟩; obtain ⟨xA, xn, xc, rfl, hx1, hx2, hX⟩ := hIs; rw [HRL.out] at hX; rw [HRE.out]; (try replace hS := hS.below hb hS.lt); (try replace hQ := hQ.below hb hQ.lt); (try replace hW := rdB hW hb); (try replace hU := rdB hU hb); (try replace hV := rdB hV hb); replace hB := hB.trans (hb.mono hB.size); (try clear qhS); (try clear qhQ); clear hb; (try have qhS := fun i => Blk.cell hS i); (try have qhQ := fun i => Blk.cell hQ i)))
  go_upto_region 5 with ((go_at_call 53; refine (Who_any W H F L X Y nl nh xl xh y A n cap fs SA sn scap rs _ hcap hcm (fun f h => ((hf f h).below hB).more hB.size) (rdB hr hB) hsn hscm hss (rdB hsr hB)).mono ?_; rintro e w1 ⟨v1, rfl, hIs, hb⟩; obtain ⟨wA, wn, wc, rfl, hw1, hw2, hW⟩ := hIs; rw [HWL.out] at hW; rw [HWE.out]; (try replace hS := hS.below hb hS.lt); (try replace hQ := hQ.below hb hQ.lt); (try replace hX := rdB hX hb); (try replace hU := rdB hU hb); (try replace hV := rdB hV hb); replace hB := hB.trans (hb.mono hB.size); (try clear qhS); (try clear qhQ); clear hb; (try have qhS := fun i => Blk.cell hS i); (try have qhQ := fun i => Blk.cell hQ i)))
  clear HRE HRL HWE HWL
  have hxn : xn = 0 := by have := hX.1; simp at this; omega
  have hwn : wn = 0 := hW.len.symm
  subst hxn hwn
  rename World => W0
  have k27 : ∀ p : Blw W0.heap.size W0, Calls Tryz.prog 27 #[.agg #[.int .i64 W, .int .i64 H, .int .i64 F, .int .i64 L, .int .i64 X, .int .i64 Y]] p.to fun e w' => e = .returned (.bool true) ∧ Below p.to.heap.size p.to w' := fun p => by have h := Stage_any W H F L X Y p.to; rw [hst] at h; exact h
  have k55 : ∀ p : Blw W0.heap.size W0, Calls Tryz.prog 55 #[.agg #[.int .i64 W, .int .i64 H, .int .i64 F, .int .i64 L, .int .i64 X, .int .i64 Y], .slice SA sn scap] p.to fun e w' => e = .returned (.bool false) ∧ Below p.to.heap.size p.to w' := fun p => by have h := refSight_any W H F L X Y SA sn scap rs p.to hnS hss (rdB hsr (hB.trans (p.h.mono hB.size))); rw [hsg] at h; exact h
  have k54 : ∀ p : Blw W0.heap.size W0, Calls Tryz.prog 54 #[.agg #[.int .i64 W, .int .i64 H, .int .i64 F, .int .i64 L, .int .i64 X, .int .i64 Y], .slice A n cap, .agg #[.int .i64 nl, .int .i64 nh, .int .i64 xl, .int .i64 xh, .int .i64 y], .bool false] p.to fun e w' => e = .returned (.int .i64 2) ∧ Below p.to.heap.size p.to w' := fun p => by have h := asked_any W H F L X Y nl nh xl xh y A n cap fs false p.to hn (fun f h => ((hf f h).below (hB.trans (p.h.mono hB.size))).more (Nat.le_trans hB.size p.h.size)) (rdB hr (hB.trans (p.h.mono hB.size))); rw [hak] at h; exact h
  have hbS := fun p i => blw_blk hS p i
  have hbQ := fun p i => blw_blk hQ p i
  refine wp_region_blw (by kernel_rfl) (by kernel_rfl) ?_
  repeat (go_big_quiet_step (first | (go_at_call 27; exact Calls.blw_of _ (k27 _)) | (go_at_call 55; exact Calls.blw_of _ (k55 _)) | (go_at_call 54; exact Calls.blw_of _ (k54 _))))
  refine wpQuiet_nil ?_
  rintro W3 ⟨⟨_, hb⟩, rfl⟩
  clear qhS qhQ hbS hbQ k27 k54 k55
  replace hS := hS.below hb hS.lt; replace hQ := hQ.below hb hQ.lt; replace hX := rdB hX hb; replace hW := rdB hW hb; replace hB := hB.trans (hb.mono hB.size); clear hb; have qhS := fun i => Blk.cell hS i; have qhQ := fun i => Blk.cell hQ i
  go_wp2_with ((go_at_call 24; refine (known_true m _ (known_at hm hB)).mono ?_; rintro e w1 ⟨rfl, hb⟩; (try replace hS := hS.below hb hS.lt); (try replace hQ := hQ.below hb hQ.lt); (try replace hX := rdB hX hb); (try replace hW := rdB hW hb); (try replace hU := rdB hU hb); (try replace hV := rdB hV hb); replace hB := hB.trans (hb.mono hB.size); (try clear qhS); (try clear qhQ); clear hb; (try have qhS := fun i => Blk.cell hS i); (try have qhQ := fun i => Blk.cell hQ i)))
  go_ret
  exact ⟨rfl, hB⟩
set_option maxRecDepth 100000 in
set_option maxHeartbeats 25600000 in
theorem reads_b3 (W H F L X Y nl nh xl xh y : Int) (A : Option Addr) (n cap : Nat) (fs : List Fig) (SA : Option Addr) (sn scap : Nat) (rs : List ByteArray) (m : Int) (w : World) (hm : w.cell? ⟨0, 0, none⟩ = some (.int .i64 m)) (hcap : n ≤ cap) (hcm : cap ≤ maxLen) (hf : ∀ f ∈ fs, f.ok w w.heap.size) (hr : Rd w w.heap.size 1 A n (fs.map Fig.val)) (hsn : sn ≤ scap) (hscm : scap ≤ maxLen) (hss : ∀ r ∈ rs, r.size ≤ maxLen) (hsr : Rd w w.heap.size 1 SA sn (rs.map Value.string)) (hfw : fewB fs = true) (hsh : shortB rs = true) (hst : stageB W H F L X Y = true) (hsg : sightB W H rs = true) (hak : askV (askB W H F L X Y nl nh xl xh y fs && true) = 2) (HRE : Hid (readsE W H F L X Y nl nh xl xh y fs rs = 2)) (HRL : Hid (readsL W H F L X Y nl nh xl xh y fs rs = [])) (HWE : Hid (whoE W H F L X Y nl nh xl xh y fs rs = 2)) (HWL : Hid (whoL W H F L X Y nl nh xl xh y fs rs = [])) :
    Calls Tryz.prog 10 #[.agg #[.int .i64 W, .int .i64 H, .int .i64 F, .int .i64 L, .int .i64 X, .int .i64 Y], .slice A n cap, .agg #[.int .i64 nl, .int .i64 nh, .int .i64 xl, .int .i64 xh, .int .i64 y], .slice SA sn scap] w fun e w' => e = .returned (.bool true) ∧ Below w.heap.size w w' := by
  have hn : n ≤ maxLen := Nat.le_trans hcap hcm
  have hnS : sn ≤ maxLen := Nat.le_trans hsn hscm
  go_enter Tryz.func10, Tryz.ntmps10
  go_upto_region 1 with (fail)
  have hS := blk2_0 w (.cells #[.int .i64 nl, .int .i64 nh, .int .i64 xl, .int .i64 xh, .int .i64 y] 71) 23 #[.int .i64 W, .int .i64 H, .int .i64 F, .int .i64 L, .int .i64 X, .int .i64 Y]
  have hQ := blk2_1 w (.cells #[.int .i64 W, .int .i64 H, .int .i64 F, .int .i64 L, .int .i64 X, .int .i64 Y] 23) 71 #[.int .i64 nl, .int .i64 nh, .int .i64 xl, .int .i64 xh, .int .i64 y]
  have hB := pro_2 w (.cells #[.int .i64 W, .int .i64 H, .int .i64 F, .int .i64 L, .int .i64 X, .int .i64 Y] 23) (.cells #[.int .i64 nl, .int .i64 nh, .int .i64 xl, .int .i64 xh, .int .i64 y] 71)
  generalize (w.alloc (.cells #[.int .i64 W, .int .i64 H, .int .i64 F, .int .i64 L, .int .i64 X, .int .i64 Y] 23)).alloc (.cells #[.int .i64 nl, .int .i64 nh, .int .i64 xl, .int .i64 xh, .int .i64 y] 71) = W0 at *
  have qhS := fun i => Blk.cell hS i
  have qhQ := fun i => Blk.cell hQ i
  go_upto_region 3 with (first | (go_at_call 39; refine (few_any A n cap fs _ hn (fun f h => ((hf f h).below hB).more hB.size) (rdB hr hB)).mono ?_; rintro e w1 ⟨rfl, rfl⟩; rw [hfw]) | (go_at_call 23; refine (short_any SA sn scap rs _ hnS hss (rdB hsr hB)).mono ?_; rintro e w1 ⟨rfl, rfl⟩; rw [hsh]))
  go_upto_region 4 with ((go_at_call 52; refine (Reads_any W H F L X Y nl nh xl xh y A n cap fs SA sn scap rs _ hcap hcm (fun f h => ((hf f h).below hB).more hB.size) (rdB hr hB) hsn hscm hss (rdB hsr hB)).mono ?_; rintro e w1 ⟨v1, rfl, hIs, hb⟩; obtain ⟨xA, xn, xc, rfl, hx1, hx2, hX⟩ := hIs; rw [HRL.out] at hX; rw [HRE.out]; (try replace hS := hS.below hb hS.lt); (try replace hQ := hQ.below hb hQ.lt); (try replace hW := rdB hW hb); (try replace hU := rdB hU hb); (try replace hV := rdB hV hb); replace hB := hB.trans (hb.mono hB.size); (try clear qhS); (try clear qhQ); clear hb; (try have qhS := fun i => Blk.cell hS i); (try have qhQ := fun i => Blk.cell hQ i)))
  go_upto_region 5 with ((go_at_call 53; refine (Who_any W H F L X Y nl nh xl xh y A n cap fs SA sn scap rs _ hcap hcm (fun f h => ((hf f h).below hB).more hB.size) (rdB hr hB) hsn hscm hss (rdB hsr hB)).mono ?_; rintro e w1 ⟨v1, rfl, hIs, hb⟩; obtain ⟨wA, wn, wc, rfl, hw1, hw2, hW⟩ := hIs; rw [HWL.out] at hW; rw [HWE.out]; (try replace hS := hS.below hb hS.lt); (try replace hQ := hQ.below hb hQ.lt); (try replace hX := rdB hX hb); (try replace hU := rdB hU hb); (try replace hV := rdB hV hb); replace hB := hB.trans (hb.mono hB.size); (try clear qhS); (try clear qhQ); clear hb; (try have qhS := fun i => Blk.cell hS i); (try have qhQ := fun i => Blk.cell hQ i)))
  clear HRE HRL HWE HWL
  have hxn : xn = 0 := by have := hX.1; simp at this; omega
  have hwn : wn = 0 := hW.len.symm
  subst hxn hwn
  rename World => W0
  have k27 : ∀ p : Blw W0.heap.size W0, Calls Tryz.prog 27 #[.agg #[.int .i64 W, .int .i64 H, .int .i64 F, .int .i64 L, .int .i64 X, .int .i64 Y]] p.to fun e w' => e = .returned (.bool true) ∧ Below p.to.heap.size p.to w' := fun p => by have h := Stage_any W H F L X Y p.to; rw [hst] at h; exact h
  have k55 : ∀ p : Blw W0.heap.size W0, Calls Tryz.prog 55 #[.agg #[.int .i64 W, .int .i64 H, .int .i64 F, .int .i64 L, .int .i64 X, .int .i64 Y], .slice SA sn scap] p.to fun e w' => e = .returned (.bool true) ∧ Below p.to.heap.size p.to w' := fun p => by have h := refSight_any W H F L X Y SA sn scap rs p.to hnS hss (rdB hsr (hB.trans (p.h.mono hB.size))); rw [hsg] at h; exact h
  have k54 : ∀ p : Blw W0.heap.size W0, Calls Tryz.prog 54 #[.agg #[.int .i64 W, .int .i64 H, .int .i64 F, .int .i64 L, .int .i64 X, .int .i64 Y], .slice A n cap, .agg #[.int .i64 nl, .int .i64 nh, .int .i64 xl, .int .i64 xh, .int .i64 y], .bool true] p.to fun e w' => e = .returned (.int .i64 2) ∧ Below p.to.heap.size p.to w' := fun p => by have h := asked_any W H F L X Y nl nh xl xh y A n cap fs true p.to hn (fun f h => ((hf f h).below (hB.trans (p.h.mono hB.size))).more (Nat.le_trans hB.size p.h.size)) (rdB hr (hB.trans (p.h.mono hB.size))); rw [hak] at h; exact h
  have hbS := fun p i => blw_blk hS p i
  have hbQ := fun p i => blw_blk hQ p i
  refine wp_region_blw (by kernel_rfl) (by kernel_rfl) ?_
  repeat (go_big_quiet_step (first | (go_at_call 27; exact Calls.blw_of _ (k27 _)) | (go_at_call 55; exact Calls.blw_of _ (k55 _)) | (go_at_call 54; exact Calls.blw_of _ (k54 _))))
  refine wpQuiet_nil ?_
  rintro W3 ⟨⟨_, hb⟩, rfl⟩
  clear qhS qhQ hbS hbQ k27 k54 k55
  replace hS := hS.below hb hS.lt; replace hQ := hQ.below hb hQ.lt; replace hX := rdB hX hb; replace hW := rdB hW hb; replace hB := hB.trans (hb.mono hB.size); clear hb; have qhS := fun i => Blk.cell hS i; have qhQ := fun i => Blk.cell hQ i
  go_wp2_with ((go_at_call 24; refine (known_true m _ (known_at hm hB)).mono ?_; rintro e w1 ⟨rfl, hb⟩; (try replace hS := hS.below hb hS.lt); (try replace hQ := hQ.below hb hQ.lt); (try replace hX := rdB hX hb); (try replace hW := rdB hW hb); (try replace hU := rdB hU hb); (try replace hV := rdB hV hb); replace hB := hB.trans (hb.mono hB.size); (try clear qhS); (try clear qhQ); clear hb; (try have qhS := fun i => Blk.cell hS i); (try have qhQ := fun i => Blk.cell hQ i)))
  go_ret
  exact ⟨rfl, hB⟩
set_option maxRecDepth 100000 in
set_option maxHeartbeats 25600000 in
theorem reads_good (Wn Hn : Nat) (F L X Y nl nh xl xh y : Int) (A : Option Addr) (n cap : Nat) (fs : List Fig) (SA : Option Addr) (sn scap : Nat) (rs : List ByteArray) (m : Int) (w : World) (hm : w.cell? ⟨0, 0, none⟩ = some (.int .i64 m)) (hcap : n ≤ cap) (hcm : cap ≤ maxLen) (hf : ∀ f ∈ fs, f.ok w w.heap.size) (hr : Rd w w.heap.size 1 A n (fs.map Fig.val)) (hsn : sn ≤ scap) (hscm : scap ≤ maxLen) (hss : ∀ r ∈ rs, r.size ≤ maxLen) (hsr : Rd w w.heap.size 1 SA sn (rs.map Value.string)) (hfw : fewB fs = true) (hsh : shortB rs = true) (hst : stageB Wn Hn F L X Y = true) (hsg : sightB Wn Hn rs = true) (hak : askV (askB Wn Hn F L X Y nl nh xl xh y fs && true) = 0) (hask : askB Wn Hn F L X Y nl nh xl xh y fs = true) (ee : Int) (ll : List Int) (HRE : Hid (readsE Wn Hn F L X Y nl nh xl xh y fs rs = 0)) (HRL : Hid (readsL Wn Hn F L X Y nl nh xl xh y fs rs = rdT Wn Hn F L X Y nl nh xl xh y fs rs)) (hrl : (rdT Wn Hn F L X Y nl nh xl xh y fs rs).length ≤ 1000) (HWE : Hid (whoE Wn Hn F L X Y nl nh xl xh y fs rs = ee)) (HWL : Hid (whoL Wn Hn F L X Y nl nh xl xh y fs rs = ll)) (HEE : Hid ((ee = 7 ∧ ll = []) ∨ ee = 0)) :
    Calls Tryz.prog 10 #[.agg #[.int .i64 Wn, .int .i64 Hn, .int .i64 F, .int .i64 L, .int .i64 X, .int .i64 Y], .slice A n cap, .agg #[.int .i64 nl, .int .i64 nh, .int .i64 xl, .int .i64 xh, .int .i64 y], .slice SA sn scap] w fun e w' => e = .returned (.bool true) ∧ Below w.heap.size w w' := by
  have hn : n ≤ maxLen := Nat.le_trans hcap hcm
  have hnS : sn ≤ maxLen := Nat.le_trans hsn hscm
  go_enter Tryz.func10, Tryz.ntmps10
  go_upto_region 1 with (fail)
  have hS := blk2_0 w (.cells #[.int .i64 nl, .int .i64 nh, .int .i64 xl, .int .i64 xh, .int .i64 y] 71) 23 #[.int .i64 Wn, .int .i64 Hn, .int .i64 F, .int .i64 L, .int .i64 X, .int .i64 Y]
  have hQ := blk2_1 w (.cells #[.int .i64 Wn, .int .i64 Hn, .int .i64 F, .int .i64 L, .int .i64 X, .int .i64 Y] 23) 71 #[.int .i64 nl, .int .i64 nh, .int .i64 xl, .int .i64 xh, .int .i64 y]
  have hB := pro_2 w (.cells #[.int .i64 Wn, .int .i64 Hn, .int .i64 F, .int .i64 L, .int .i64 X, .int .i64 Y] 23) (.cells #[.int .i64 nl, .int .i64 nh, .int .i64 xl, .int .i64 xh, .int .i64 y] 71)
  generalize (w.alloc (.cells #[.int .i64 Wn, .int .i64 Hn, .int .i64 F, .int .i64 L, .int .i64 X, .int .i64 Y] 23)).alloc (.cells #[.int .i64 nl, .int .i64 nh, .int .i64 xl, .int .i64 xh, .int .i64 y] 71) = W0 at *
  have qhS := fun i => Blk.cell hS i
  have qhQ := fun i => Blk.cell hQ i
  go_upto_region 3 with (first | (go_at_call 39; refine (few_any A n cap fs _ hn (fun f h => ((hf f h).below hB).more hB.size) (rdB hr hB)).mono ?_; rintro e w1 ⟨rfl, rfl⟩; rw [hfw]) | (go_at_call 23; refine (short_any SA sn scap rs _ hnS hss (rdB hsr hB)).mono ?_; rintro e w1 ⟨rfl, rfl⟩; rw [hsh]))
  go_upto_region 4 with ((go_at_call 52; refine (Reads_any Wn Hn F L X Y nl nh xl xh y A n cap fs SA sn scap rs _ hcap hcm (fun f h => ((hf f h).below hB).more hB.size) (rdB hr hB) hsn hscm hss (rdB hsr hB)).mono ?_; rintro e w1 ⟨v1, rfl, hIs, hb⟩; obtain ⟨xA, xn, xc, rfl, hx1, hx2, hX⟩ := hIs; rw [HRL.out] at hX; rw [HRE.out]; (try replace hS := hS.below hb hS.lt); (try replace hQ := hQ.below hb hQ.lt); (try replace hW := rdB hW hb); (try replace hU := rdB hU hb); (try replace hV := rdB hV hb); replace hB := hB.trans (hb.mono hB.size); (try clear qhS); (try clear qhQ); clear hb; (try have qhS := fun i => Blk.cell hS i); (try have qhQ := fun i => Blk.cell hQ i)))
  go_upto_region 5 with ((go_at_call 53; refine (Who_any Wn Hn F L X Y nl nh xl xh y A n cap fs SA sn scap rs _ hcap hcm (fun f h => ((hf f h).below hB).more hB.size) (rdB hr hB) hsn hscm hss (rdB hsr hB)).mono ?_; rintro e w1 ⟨v1, rfl, hIs, hb⟩; obtain ⟨wA, wn, wc, rfl, hw1, hw2, hW⟩ := hIs; rw [HWL.out] at hW; rw [HWE.out]; (try replace hS := hS.below hb hS.lt); (try replace hQ := hQ.below hb hQ.lt); (try replace hX := rdB hX hb); (try replace hU := rdB hU hb); (try replace hV := rdB hV hb); replace hB := hB.trans (hb.mono hB.size); (try clear qhS); (try clear qhQ); clear hb; (try have qhS := fun i => Blk.cell hS i); (try have qhQ := fun i => Blk.cell hQ i)))
  clear HRE HRL hfw hsh
  have hxn : xn ≤ 100000 := by have := hX.lenc (by decide) (rdC_len y); omega
  rename World => W0
  have k27 : ∀ p : Blw W0.heap.size W0, Calls Tryz.prog 27 #[.agg #[.int .i64 Wn, .int .i64 Hn, .int .i64 F, .int .i64 L, .int .i64 X, .int .i64 Y]] p.to fun e w' => e = .returned (.bool true) ∧ Below p.to.heap.size p.to w' := fun p => by have h := Stage_any Wn Hn F L X Y p.to; rw [hst] at h; exact h
  have k55 : ∀ p : Blw W0.heap.size W0, Calls Tryz.prog 55 #[.agg #[.int .i64 Wn, .int .i64 Hn, .int .i64 F, .int .i64 L, .int .i64 X, .int .i64 Y], .slice SA sn scap] p.to fun e w' => e = .returned (.bool true) ∧ Below p.to.heap.size p.to w' := fun p => by have h := refSight_any Wn Hn F L X Y SA sn scap rs p.to hnS hss (rdB hsr (hB.trans (p.h.mono hB.size))); rw [hsg] at h; exact h
  have k54 : ∀ p : Blw W0.heap.size W0, Calls Tryz.prog 54 #[.agg #[.int .i64 Wn, .int .i64 Hn, .int .i64 F, .int .i64 L, .int .i64 X, .int .i64 Y], .slice A n cap, .agg #[.int .i64 nl, .int .i64 nh, .int .i64 xl, .int .i64 xh, .int .i64 y], .bool true] p.to fun e w' => e = .returned (.int .i64 0) ∧ Below p.to.heap.size p.to w' := fun p => by have h := asked_any Wn Hn F L X Y nl nh xl xh y A n cap fs true p.to hn (fun f h => ((hf f h).below (hB.trans (p.h.mono hB.size))).more (Nat.le_trans hB.size p.h.size)) (rdB hr (hB.trans (p.h.mono hB.size))); rw [hak] at h; exact h
  have hbS := fun p i => blw_blk hS p i
  have hbQ := fun p i => blw_blk hQ p i
  refine wp_region_blw (by kernel_rfl) (by kernel_rfl) ?_
  repeat (go_big_quiet_step (first | (go_at_call 27; exact Calls.blw_of _ (k27 _)) | (go_at_call 55; exact Calls.blw_of _ (k55 _)) | (go_at_call 54; exact Calls.blw_of _ (k54 _))))
  refine wpQuiet_nil ?_
  rintro W3 ⟨⟨_, hb⟩, rfl⟩
  clear qhS qhQ hbS hbQ k27 k54 k55
  replace hS := hS.below hb hS.lt; replace hQ := hQ.below hb hQ.lt; replace hX := rdB hX hb; replace hW := rdB hW hb; replace hB := hB.trans (hb.mono hB.size); clear hb; have qhS := fun i => Blk.cell hS i; have qhQ := fun i => Blk.cell hQ i
  go_upto_region 9 with (first | (go_at_call 57; refine (refReads_any Wn Hn F L X Y nl nh xl xh y A n cap fs SA sn scap rs _ hcap hcm (fun f h => ((hf f h).below hB).more hB.size) (rdB hr hB) (rdB hsr hB) hask hsg).mono ?_; rintro e w1 ⟨v1, rfl, own, hb⟩; obtain ⟨uA, uC, rfl⟩ := own_slice own; have hU := Rd.of_own own; clear own; (try replace hS := hS.below hb hS.lt); (try replace hQ := hQ.below hb hQ.lt); (try replace hX := rdB hX hb); (try replace hW := rdB hW hb); (try replace hV := rdB hV hb); replace hB := hB.trans (hb.mono hB.size); (try clear qhS); (try clear qhQ); clear hb; (try have qhS := fun i => Blk.cell hS i); (try have qhQ := fun i => Blk.cell hQ i)) | (go_at_call 56; refine (sameReads_eq xA uA xn xc (rdT Wn Hn F L X Y nl nh xl xh y fs rs).length uC (rdT Wn Hn F L X Y nl nh xl xh y fs rs) y _ hxn hX hU).mono ?_; rintro e w1 ⟨rfl, hb⟩; (try replace hS := hS.below hb hS.lt); (try replace hQ := hQ.below hb hQ.lt); (try replace hX := rdB hX hb); (try replace hW := rdB hW hb); (try replace hU := rdB hU hb); (try replace hV := rdB hV hb); replace hB := hB.trans (hb.mono hB.size); (try clear qhS); (try clear qhQ); clear hb; (try have qhS := fun i => Blk.cell hS i); (try have qhQ := fun i => Blk.cell hQ i)))
  clear hX hU hrl
  go_upto_region 10 with ((go_at_call 58; refine (refWho_any Wn Hn F L X Y nl nh xl xh y A n cap fs SA sn scap rs _ hcap hcm (fun f h => ((hf f h).below hB).more hB.size) (rdB hr hB) (rdB hsr hB) hask hsg).mono ?_; rintro e w1 ⟨v1, rfl, hIs, hb⟩; obtain ⟨vA, vn, vc, rfl, hv1, hv2, hV⟩ := hIs; rw [HWL.out] at hV; rw [HWE.out]; (try replace hS := hS.below hb hS.lt); (try replace hQ := hQ.below hb hQ.lt); (try replace hX := rdB hX hb); (try replace hW := rdB hW hb); (try replace hU := rdB hU hb); replace hB := hB.trans (hb.mono hB.size); (try clear qhS); (try clear qhQ); clear hb; (try have qhS := fun i => Blk.cell hS i); (try have qhQ := fun i => Blk.cell hQ i)))
  rcases HEE.out with ⟨rfl, rfl⟩ | rfl
  · as_aux_lemma =>
      have hwn : wn = 0 := hW.len.symm
      subst hwn
      clear HEE HWE HWL
      go_wp2_with ((go_at_call 24; refine (known_true m _ (known_at hm hB)).mono ?_; rintro e w1 ⟨rfl, hb⟩; (try replace hS := hS.below hb hS.lt); (try replace hQ := hQ.below hb hQ.lt); (try replace hX := rdB hX hb); (try replace hW := rdB hW hb); (try replace hU := rdB hU hb); (try replace hV := rdB hV hb); replace hB := hB.trans (hb.mono hB.size); (try clear qhS); (try clear qhQ); clear hb; (try have qhS := fun i => Blk.cell hS i); (try have qhQ := fun i => Blk.cell hQ i)))
      go_ret
      exact ⟨rfl, hB⟩
  · as_aux_lemma =>
      clear HEE HWE HWL
      go_wp2_with (first | (go_at_call 59; refine (SameWords_any wA vA wn vn wc vc ll ll _ (Nat.le_trans hw1 hw2) (Nat.le_trans hv1 hv2) hW hV).mono ?_; rintro e w1 ⟨rfl, hb⟩; rw [sameL_self]; (try replace hS := hS.below hb hS.lt); (try replace hQ := hQ.below hb hQ.lt); (try replace hX := rdB hX hb); (try replace hW := rdB hW hb); (try replace hU := rdB hU hb); (try replace hV := rdB hV hb); replace hB := hB.trans (hb.mono hB.size); (try clear qhS); (try clear qhQ); clear hb; (try have qhS := fun i => Blk.cell hS i); (try have qhQ := fun i => Blk.cell hQ i)) | (go_at_call 24; refine (known_true m _ (known_at hm hB)).mono ?_; rintro e w1 ⟨rfl, hb⟩; (try replace hS := hS.below hb hS.lt); (try replace hQ := hQ.below hb hQ.lt); (try replace hX := rdB hX hb); (try replace hW := rdB hW hb); (try replace hU := rdB hU hb); (try replace hV := rdB hV hb); replace hB := hB.trans (hb.mono hB.size); (try clear qhS); (try clear qhQ); clear hb; (try have qhS := fun i => Blk.cell hS i); (try have qhQ := fun i => Blk.cell hQ i)))
      go_ret
      exact ⟨rfl, hB⟩
theorem reads_law (W H F L X Y nl nh xl xh y : Int) (A : Option Addr) (n cap : Nat) (fs : List Fig) (SA : Option Addr) (sn scap : Nat) (rs : List ByteArray) (m : Int) (w : World) (hm : w.cell? ⟨0, 0, none⟩ = some (.int .i64 m)) (hcap : n ≤ cap) (hcm : cap ≤ maxLen) (hf : ∀ f ∈ fs, f.ok w w.heap.size) (hr : Rd w w.heap.size 1 A n (fs.map Fig.val)) (hsn : sn ≤ scap) (hscm : scap ≤ maxLen) (hss : ∀ r ∈ rs, r.size ≤ maxLen) (hsr : Rd w w.heap.size 1 SA sn (rs.map Value.string)) :
    Calls Tryz.prog 10 #[.agg #[.int .i64 W, .int .i64 H, .int .i64 F, .int .i64 L, .int .i64 X, .int .i64 Y], .slice A n cap, .agg #[.int .i64 nl, .int .i64 nh, .int .i64 xl, .int .i64 xh, .int .i64 y], .slice SA sn scap] w fun e w' => e = .returned (.bool true) ∧ Below w.heap.size w w' := by
  cases hfw : fewB fs
  · exact reads_x1 W H F L X Y nl nh xl xh y A n cap fs SA sn scap rs m w hm hcap hcm hf hr hsn hscm hss hsr hfw
  cases hsh : shortB rs
  · exact reads_x2 W H F L X Y nl nh xl xh y A n cap fs SA sn scap rs m w hm hcap hcm hf hr hsn hscm hss hsr hfw hsh
  have hbad : goodQ W H F L X Y nl nh xl xh y fs rs = false → readsE W H F L X Y nl nh xl xh y fs rs = 2 ∧ readsL W H F L X Y nl nh xl xh y fs rs = [] ∧ whoE W H F L X Y nl nh xl xh y fs rs = 2 ∧ whoL W H F L X Y nl nh xl xh y fs rs = [] := fun h => ⟨by unfold readsE; rw [h]; rfl, by unfold readsL; rw [h]; rfl, by unfold whoE; rw [h]; rfl, by unfold whoL; rw [h]; rfl⟩
  cases hst : stageB W H F L X Y
  · obtain ⟨a1, a2, a3, a4⟩ := hbad (by simp [goodQ, askB, hst])
    exact reads_b1 W H F L X Y nl nh xl xh y A n cap fs SA sn scap rs m w hm hcap hcm hf hr hsn hscm hss hsr hfw hsh hst (by simp [askV]) (Lib.hid a1) (Lib.hid a2) (Lib.hid a3) (Lib.hid a4)
  cases hsg : sightB W H rs
  · obtain ⟨a1, a2, a3, a4⟩ := hbad (by simp [goodQ, hsg])
    exact reads_b2 W H F L X Y nl nh xl xh y A n cap fs SA sn scap rs m w hm hcap hcm hf hr hsn hscm hss hsr hfw hsh hst hsg (by simp [askV]) (Lib.hid a1) (Lib.hid a2) (Lib.hid a3) (Lib.hid a4)
  rcases askV_iff (b := askB W H F L X Y nl nh xl xh y fs) with ⟨hak, hask⟩ | ⟨hak, hask⟩
  rotate_left
  · obtain ⟨a1, a2, a3, a4⟩ := hbad (by simp [goodQ, hask])
    exact reads_b3 W H F L X Y nl nh xl xh y A n cap fs SA sn scap rs m w hm hcap hcm hf hr hsn hscm hss hsr hfw hsh hst hsg hak (Lib.hid a1) (Lib.hid a2) (Lib.hid a3) (Lib.hid a4)
  have hgood : goodQ W H F L X Y nl nh xl xh y fs rs = true := by simp only [goodQ, hask, hsg]; rfl
  have hdim := ask_dims hask
  obtain ⟨Wn, rfl⟩ : ∃ k : Nat, W = k := ⟨W.toNat, by omega⟩
  obtain ⟨Hn, rfl⟩ : ∃ k : Nat, H = k := ⟨H.toNat, by omega⟩
  have hrl : (rdT Wn Hn F L X Y nl nh xl xh y fs rs).length ≤ 1000 := Nat.le_trans (List.length_filter_le _ _) (Nat.le_trans (allR_small hask) (by omega))
  refine reads_good Wn Hn F L X Y nl nh xl xh y A n cap fs SA sn scap rs m w hm hcap hcm hf hr hsn hscm hss hsr hfw hsh hst hsg hak hask _ _ (Lib.hid (by unfold readsE; rw [if_pos hgood])) (Lib.hid (by unfold readsL; rw [if_pos hgood])) hrl (Lib.hid rfl) (Lib.hid rfl) (Lib.hid ?_)
  unfold whoE whoL
  rw [if_pos hgood, if_pos hgood]
  by_cases h0 : (uniq (whoF Wn Hn F L X Y nl nh xl xh y fs rs)).length = 0
  · left; rw [if_pos h0, if_pos h0]; exact ⟨rfl, rfl⟩
  · right; rw [if_neg h0]
end Go.Proofs.YtifddfchpknkbaaGreatDoor
