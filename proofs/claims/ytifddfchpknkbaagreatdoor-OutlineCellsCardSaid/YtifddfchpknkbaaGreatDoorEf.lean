import Derived.Test.YtifddfchpknkbaaGreatDoorEd
import Derived.Test.YtifddfchpknkbaaGreatDoorKn
import Derived.Test.YtifddfchpknkbaaGreatDoorZ
set_option linter.unusedVariables false
set_option linter.unusedSimpArgs false
namespace Go.Proofs.YtifddfchpknkbaaGreatDoor
open Go.RowKit

set_option maxRecDepth 100000 in
set_option maxHeartbeats 25600000 in
theorem cells_x1 (W H F L X Y nl nh xl xh y : Int) (A : Option Addr) (n cap : Nat) (fs : List Fig) (CA : Option Addr) (kn kcap : Nat) (cs : List Int) (m : Int) (w : World) (hm : w.cell? ⟨0, 0, none⟩ = some (.int .i64 m)) (hcap : n ≤ cap) (hcm : cap ≤ maxLen) (hf : ∀ f ∈ fs, f.ok w w.heap.size) (hr : Rd w w.heap.size 1 A n (fs.map Fig.val)) (hkn : kn ≤ kcap) (hkcm : kcap ≤ maxLen) (hC : Rd w w.heap.size 1 CA kn (cs.map (Value.int .i64))) (hfw : fewB fs = false) :
    Calls Tryz.prog 16 #[.agg #[.int .i64 W, .int .i64 H, .int .i64 F, .int .i64 L, .int .i64 X, .int .i64 Y], .slice A n cap, .agg #[.int .i64 nl, .int .i64 nh, .int .i64 xl, .int .i64 xh, .int .i64 y], .slice CA kn kcap] w fun e w' => e = .returned (.bool true) ∧ Below w.heap.size w w' := by
  have hn : n ≤ maxLen := Nat.le_trans hcap hcm
  go_enter Tryz.func16, Tryz.ntmps16
  go_upto_region 1 with (fail)
  have hS := blk2_0 w (.cells #[.int .i64 nl, .int .i64 nh, .int .i64 xl, .int .i64 xh, .int .i64 y] 71) 23 #[.int .i64 W, .int .i64 H, .int .i64 F, .int .i64 L, .int .i64 X, .int .i64 Y]
  have hQ := blk2_1 w (.cells #[.int .i64 W, .int .i64 H, .int .i64 F, .int .i64 L, .int .i64 X, .int .i64 Y] 23) 71 #[.int .i64 nl, .int .i64 nh, .int .i64 xl, .int .i64 xh, .int .i64 y]
  have hB := pro_2 w (.cells #[.int .i64 W, .int .i64 H, .int .i64 F, .int .i64 L, .int .i64 X, .int .i64 Y] 23) (.cells #[.int .i64 nl, .int .i64 nh, .int .i64 xl, .int .i64 xh, .int .i64 y] 71)
  generalize (w.alloc (.cells #[.int .i64 W, .int .i64 H, .int .i64 F, .int .i64 L, .int .i64 X, .int .i64 Y] 23)).alloc (.cells #[.int .i64 nl, .int .i64 nh, .int .i64 xl, .int .i64 xh, .int .i64 y] 71) = W0 at *
  have qhS := fun i => Blk.cell hS i
  have qhQ := fun i => Blk.cell hQ i
  go_wp2_with (first | (go_at_call 39; refine (few_any A n cap fs _ hn (fun f h => ((hf f h).below hB).more hB.size) (rdB hr hB)).mono ?_; rintro e w1 ⟨rfl, rfl⟩; rw [hfw]) | (go_at_call 24; refine (known_true m _ (known_at hm hB)).mono ?_; rintro e w1 ⟨rfl, hb⟩; (try replace hS := hS.below hb hS.lt); (try replace hQ := hQ.below hb hQ.lt); (try replace hP := rdB hP hb); (try replace hX := rdB hX hb); replace hB := hB.trans (hb.mono hB.size); (try clear qhS); (try clear qhQ); clear hb; (try have qhS := fun i => Blk.cell hS i); (try have qhQ := fun i => Blk.cell hQ i)))
  go_ret
  exact ⟨rfl, hB⟩
set_option maxRecDepth 100000 in
set_option maxHeartbeats 25600000 in
theorem cells_x2 (W H F L X Y nl nh xl xh y : Int) (A : Option Addr) (n cap : Nat) (fs : List Fig) (CA : Option Addr) (kn kcap : Nat) (cs : List Int) (m : Int) (w : World) (hm : w.cell? ⟨0, 0, none⟩ = some (.int .i64 m)) (hcap : n ≤ cap) (hcm : cap ≤ maxLen) (hf : ∀ f ∈ fs, f.ok w w.heap.size) (hr : Rd w w.heap.size 1 A n (fs.map Fig.val)) (hkn : kn ≤ kcap) (hkcm : kcap ≤ maxLen) (hC : Rd w w.heap.size 1 CA kn (cs.map (Value.int .i64))) (hfw : fewB fs = true) (hle : (10 : Int) < kn) :
    Calls Tryz.prog 16 #[.agg #[.int .i64 W, .int .i64 H, .int .i64 F, .int .i64 L, .int .i64 X, .int .i64 Y], .slice A n cap, .agg #[.int .i64 nl, .int .i64 nh, .int .i64 xl, .int .i64 xh, .int .i64 y], .slice CA kn kcap] w fun e w' => e = .returned (.bool true) ∧ Below w.heap.size w w' := by
  have hn : n ≤ maxLen := Nat.le_trans hcap hcm
  go_enter Tryz.func16, Tryz.ntmps16
  go_upto_region 1 with (fail)
  have hS := blk2_0 w (.cells #[.int .i64 nl, .int .i64 nh, .int .i64 xl, .int .i64 xh, .int .i64 y] 71) 23 #[.int .i64 W, .int .i64 H, .int .i64 F, .int .i64 L, .int .i64 X, .int .i64 Y]
  have hQ := blk2_1 w (.cells #[.int .i64 W, .int .i64 H, .int .i64 F, .int .i64 L, .int .i64 X, .int .i64 Y] 23) 71 #[.int .i64 nl, .int .i64 nh, .int .i64 xl, .int .i64 xh, .int .i64 y]
  have hB := pro_2 w (.cells #[.int .i64 W, .int .i64 H, .int .i64 F, .int .i64 L, .int .i64 X, .int .i64 Y] 23) (.cells #[.int .i64 nl, .int .i64 nh, .int .i64 xl, .int .i64 xh, .int .i64 y] 71)
  generalize (w.alloc (.cells #[.int .i64 W, .int .i64 H, .int .i64 F, .int .i64 L, .int .i64 X, .int .i64 Y] 23)).alloc (.cells #[.int .i64 nl, .int .i64 nh, .int .i64 xl, .int .i64 xh, .int .i64 y] 71) = W0 at *
  have qhS := fun i => Blk.cell hS i
  have qhQ := fun i => Blk.cell hQ i
  go_wp2_with (first | (go_at_call 39; refine (few_any A n cap fs _ hn (fun f h => ((hf f h).below hB).more hB.size) (rdB hr hB)).mono ?_; rintro e w1 ⟨rfl, rfl⟩; rw [hfw]) | (go_at_call 24; refine (known_true m _ (known_at hm hB)).mono ?_; rintro e w1 ⟨rfl, hb⟩; (try replace hS := hS.below hb hS.lt); (try replace hQ := hQ.below hb hQ.lt); (try replace hP := rdB hP hb); (try replace hX := rdB hX hb); replace hB := hB.trans (hb.mono hB.size); (try clear qhS); (try clear qhQ); clear hb; (try have qhS := fun i => Blk.cell hS i); (try have qhQ := fun i => Blk.cell hQ i)))
  go_ret
  exact ⟨rfl, hB⟩
set_option maxRecDepth 100000 in
set_option maxHeartbeats 25600000 in
theorem cells_b1 (W H F L X Y nl nh xl xh y : Int) (A : Option Addr) (n cap : Nat) (fs : List Fig) (CA : Option Addr) (kn kcap : Nat) (cs : List Int) (m : Int) (w : World) (hm : w.cell? ⟨0, 0, none⟩ = some (.int .i64 m)) (hcap : n ≤ cap) (hcm : cap ≤ maxLen) (hf : ∀ f ∈ fs, f.ok w w.heap.size) (hr : Rd w w.heap.size 1 A n (fs.map Fig.val)) (hkn : kn ≤ kcap) (hkcm : kcap ≤ maxLen) (hC : Rd w w.heap.size 1 CA kn (cs.map (Value.int .i64))) (hfw : fewB fs = true) (hle : kn ≤ 10) (HSM : Hid (goodP W H F L X Y nl nh xl xh y fs cs = true → (difP W H F L X Y nl nh xl xh y fs cs).length ≤ 100000)) (hst : stageB W H F L X Y = false) (hak : askV (askB W H F L X Y nl nh xl xh y fs && false) = 2) (HEB : Hid (enoughB W H F L X Y nl nh xl xh y fs cs = false)) (HEE : Hid (enoughE W H F L X Y nl nh xl xh y fs cs = 2)) (HPL : Hid (planL W H F L X Y nl nh xl xh y fs cs = [])) (HPE : Hid (planE W H F L X Y nl nh xl xh y fs cs = 2)) :
    Calls Tryz.prog 16 #[.agg #[.int .i64 W, .int .i64 H, .int .i64 F, .int .i64 L, .int .i64 X, .int .i64 Y], .slice A n cap, .agg #[.int .i64 nl, .int .i64 nh, .int .i64 xl, .int .i64 xh, .int .i64 y], .slice CA kn kcap] w fun e w' => e = .returned (.bool true) ∧ Below w.heap.size w w' := by
  have hn : n ≤ maxLen := Nat.le_trans hcap hcm
  have hle0 : ¬ (10 : Int) < kn := by omega
  go_enter Tryz.func16, Tryz.ntmps16
  go_upto_region 1 with (fail)
  have hS := blk2_0 w (.cells #[.int .i64 nl, .int .i64 nh, .int .i64 xl, .int .i64 xh, .int .i64 y] 71) 23 #[.int .i64 W, .int .i64 H, .int .i64 F, .int .i64 L, .int .i64 X, .int .i64 Y]
  have hQ := blk2_1 w (.cells #[.int .i64 W, .int .i64 H, .int .i64 F, .int .i64 L, .int .i64 X, .int .i64 Y] 23) 71 #[.int .i64 nl, .int .i64 nh, .int .i64 xl, .int .i64 xh, .int .i64 y]
  have hB := pro_2 w (.cells #[.int .i64 W, .int .i64 H, .int .i64 F, .int .i64 L, .int .i64 X, .int .i64 Y] 23) (.cells #[.int .i64 nl, .int .i64 nh, .int .i64 xl, .int .i64 xh, .int .i64 y] 71)
  generalize (w.alloc (.cells #[.int .i64 W, .int .i64 H, .int .i64 F, .int .i64 L, .int .i64 X, .int .i64 Y] 23)).alloc (.cells #[.int .i64 nl, .int .i64 nh, .int .i64 xl, .int .i64 xh, .int .i64 y] 71) = W0 at *
  have qhS := fun i => Blk.cell hS i
  have qhQ := fun i => Blk.cell hQ i
  go_upto_region 3 with ((go_at_call 39; refine (few_any A n cap fs _ hn (fun f h => ((hf f h).below hB).more hB.size) (rdB hr hB)).mono ?_; rintro e w1 ⟨rfl, rfl⟩; rw [hfw]))
  go_upto_region 4 with ((go_at_call 74; refine (Enough_all W H F L X Y nl nh xl xh y A n cap fs CA kn kcap cs _ hcap hcm (fun f h => ((hf f h).below hB).more hB.size) (rdB hr hB) (by omega) (rdB hC hB) (HSM.out)).mono ?_; rintro e w1 ⟨rfl, hb⟩; rw [HEB.out, HEE.out]; (try replace hS := hS.below hb hS.lt); (try replace hQ := hQ.below hb hQ.lt); (try replace hP := rdB hP hb); (try replace hX := rdB hX hb); replace hB := hB.trans (hb.mono hB.size); (try clear qhS); (try clear qhQ); clear hb; (try have qhS := fun i => Blk.cell hS i); (try have qhQ := fun i => Blk.cell hQ i)))
  go_upto_region 5 with ((go_at_call 75; refine (Plan_all W H F L X Y nl nh xl xh y A n cap fs CA kn kcap cs _ hcap hcm (fun f h => ((hf f h).below hB).more hB.size) (rdB hr hB) (by omega) (rdB hC hB) (HSM.out)).mono ?_; rintro e w1 ⟨v1, rfl, hIs, hb⟩; obtain ⟨pA, pn, pc, rfl, hp1, hp2, hP⟩ := hIs; rw [HPL.out] at hP; rw [HPE.out]; (try replace hS := hS.below hb hS.lt); (try replace hQ := hQ.below hb hQ.lt); (try replace hX := rdB hX hb); replace hB := hB.trans (hb.mono hB.size); (try clear qhS); (try clear qhQ); clear hb; (try have qhS := fun i => Blk.cell hS i); (try have qhQ := fun i => Blk.cell hQ i)))
  clear HEB HEE HPL HPE HSM
  have hpn : pn = 0 := by have := hP.1; simp at this; omega
  subst hpn
  rename World => W0
  have k27 : ∀ p : Blw W0.heap.size W0, Calls Tryz.prog 27 #[.agg #[.int .i64 W, .int .i64 H, .int .i64 F, .int .i64 L, .int .i64 X, .int .i64 Y]] p.to fun e w' => e = .returned (.bool false) ∧ Below p.to.heap.size p.to w' := fun p => by have h := Stage_any W H F L X Y p.to; rw [hst] at h; exact h
  have k54 : ∀ p : Blw W0.heap.size W0, Calls Tryz.prog 54 #[.agg #[.int .i64 W, .int .i64 H, .int .i64 F, .int .i64 L, .int .i64 X, .int .i64 Y], .slice A n cap, .agg #[.int .i64 nl, .int .i64 nh, .int .i64 xl, .int .i64 xh, .int .i64 y], .bool false] p.to fun e w' => e = .returned (.int .i64 2) ∧ Below p.to.heap.size p.to w' := fun p => by have h := asked_any W H F L X Y nl nh xl xh y A n cap fs false p.to hn (fun f h => ((hf f h).below (hB.trans (p.h.mono hB.size))).more (Nat.le_trans hB.size p.h.size)) (rdB hr (hB.trans (p.h.mono hB.size))); rw [hak] at h; exact h
  have hbS := fun p i => blw_blk hS p i
  have hbQ := fun p i => blw_blk hQ p i
  refine wp_region_blw (by kernel_rfl) (by kernel_rfl) ?_
  repeat (go_big_quiet_step (first | (go_at_call 27; exact Calls.blw_of _ (k27 _)) | (go_at_call 54; exact Calls.blw_of _ (k54 _))))
  refine wpQuiet_nil ?_
  rintro W3 ⟨⟨_, hb⟩, rfl⟩
  clear qhS qhQ hbS hbQ k27 k54
  replace hS := hS.below hb hS.lt; replace hQ := hQ.below hb hQ.lt; replace hP := rdB hP hb; replace hB := hB.trans (hb.mono hB.size); clear hb; have qhS := fun i => Blk.cell hS i; have qhQ := fun i => Blk.cell hQ i
  go_wp2_with ((go_at_call 24; refine (known_true m _ (known_at hm hB)).mono ?_; rintro e w1 ⟨rfl, hb⟩; (try replace hS := hS.below hb hS.lt); (try replace hQ := hQ.below hb hQ.lt); (try replace hP := rdB hP hb); (try replace hX := rdB hX hb); replace hB := hB.trans (hb.mono hB.size); (try clear qhS); (try clear qhQ); clear hb; (try have qhS := fun i => Blk.cell hS i); (try have qhQ := fun i => Blk.cell hQ i)))
  go_ret
  exact ⟨rfl, hB⟩
set_option maxRecDepth 100000 in
set_option maxHeartbeats 25600000 in
theorem cells_b2 (W H F L X Y nl nh xl xh y : Int) (A : Option Addr) (n cap : Nat) (fs : List Fig) (CA : Option Addr) (kn kcap : Nat) (cs : List Int) (m : Int) (w : World) (hm : w.cell? ⟨0, 0, none⟩ = some (.int .i64 m)) (hcap : n ≤ cap) (hcm : cap ≤ maxLen) (hf : ∀ f ∈ fs, f.ok w w.heap.size) (hr : Rd w w.heap.size 1 A n (fs.map Fig.val)) (hkn : kn ≤ kcap) (hkcm : kcap ≤ maxLen) (hC : Rd w w.heap.size 1 CA kn (cs.map (Value.int .i64))) (hfw : fewB fs = true) (hle : kn ≤ 10) (hdm : (1 ≤ W ∧ W ≤ 100) ∧ (1 ≤ H ∧ H ≤ 100)) (HSM : Hid (goodP W H F L X Y nl nh xl xh y fs cs = true → (difP W H F L X Y nl nh xl xh y fs cs).length ≤ 100000)) (hst : stageB W H F L X Y = true) (hcel : cellsB W H cs = false) (hak : askV (askB W H F L X Y nl nh xl xh y fs && false) = 2) (HEB : Hid (enoughB W H F L X Y nl nh xl xh y fs cs = false)) (HEE : Hid (enoughE W H F L X Y nl nh xl xh y fs cs = 2)) (HPL : Hid (planL W H F L X Y nl nh xl xh y fs cs = [])) (HPE : Hid (planE W H F L X Y nl nh xl xh y fs cs = 2)) :
    Calls Tryz.prog 16 #[.agg #[.int .i64 W, .int .i64 H, .int .i64 F, .int .i64 L, .int .i64 X, .int .i64 Y], .slice A n cap, .agg #[.int .i64 nl, .int .i64 nh, .int .i64 xl, .int .i64 xh, .int .i64 y], .slice CA kn kcap] w fun e w' => e = .returned (.bool true) ∧ Below w.heap.size w w' := by
  have hn : n ≤ maxLen := Nat.le_trans hcap hcm
  obtain ⟨⟨d1, d2⟩, d3, d4⟩ := hdm
  have hle0 : ¬ (10 : Int) < kn := by omega
  go_enter Tryz.func16, Tryz.ntmps16
  go_upto_region 1 with (fail)
  have hS := blk2_0 w (.cells #[.int .i64 nl, .int .i64 nh, .int .i64 xl, .int .i64 xh, .int .i64 y] 71) 23 #[.int .i64 W, .int .i64 H, .int .i64 F, .int .i64 L, .int .i64 X, .int .i64 Y]
  have hQ := blk2_1 w (.cells #[.int .i64 W, .int .i64 H, .int .i64 F, .int .i64 L, .int .i64 X, .int .i64 Y] 23) 71 #[.int .i64 nl, .int .i64 nh, .int .i64 xl, .int .i64 xh, .int .i64 y]
  have hB := pro_2 w (.cells #[.int .i64 W, .int .i64 H, .int .i64 F, .int .i64 L, .int .i64 X, .int .i64 Y] 23) (.cells #[.int .i64 nl, .int .i64 nh, .int .i64 xl, .int .i64 xh, .int .i64 y] 71)
  generalize (w.alloc (.cells #[.int .i64 W, .int .i64 H, .int .i64 F, .int .i64 L, .int .i64 X, .int .i64 Y] 23)).alloc (.cells #[.int .i64 nl, .int .i64 nh, .int .i64 xl, .int .i64 xh, .int .i64 y] 71) = W0 at *
  have qhS := fun i => Blk.cell hS i
  have qhQ := fun i => Blk.cell hQ i
  go_upto_region 3 with ((go_at_call 39; refine (few_any A n cap fs _ hn (fun f h => ((hf f h).below hB).more hB.size) (rdB hr hB)).mono ?_; rintro e w1 ⟨rfl, rfl⟩; rw [hfw]))
  go_upto_region 4 with ((go_at_call 74; refine (Enough_all W H F L X Y nl nh xl xh y A n cap fs CA kn kcap cs _ hcap hcm (fun f h => ((hf f h).below hB).more hB.size) (rdB hr hB) (by omega) (rdB hC hB) (HSM.out)).mono ?_; rintro e w1 ⟨rfl, hb⟩; rw [HEB.out, HEE.out]; (try replace hS := hS.below hb hS.lt); (try replace hQ := hQ.below hb hQ.lt); (try replace hP := rdB hP hb); (try replace hX := rdB hX hb); replace hB := hB.trans (hb.mono hB.size); (try clear qhS); (try clear qhQ); clear hb; (try have qhS := fun i => Blk.cell hS i); (try have qhQ := fun i => Blk.cell hQ i)))
  go_upto_region 5 with ((go_at_call 75; refine (Plan_all W H F L X Y nl nh xl xh y A n cap fs CA kn kcap cs _ hcap hcm (fun f h => ((hf f h).below hB).more hB.size) (rdB hr hB) (by omega) (rdB hC hB) (HSM.out)).mono ?_; rintro e w1 ⟨v1, rfl, hIs, hb⟩; obtain ⟨pA, pn, pc, rfl, hp1, hp2, hP⟩ := hIs; rw [HPL.out] at hP; rw [HPE.out]; (try replace hS := hS.below hb hS.lt); (try replace hQ := hQ.below hb hQ.lt); (try replace hX := rdB hX hb); replace hB := hB.trans (hb.mono hB.size); (try clear qhS); (try clear qhQ); clear hb; (try have qhS := fun i => Blk.cell hS i); (try have qhQ := fun i => Blk.cell hQ i)))
  clear HEB HEE HPL HPE HSM
  have hpn : pn = 0 := by have := hP.1; simp at this; omega
  subst hpn
  rename World => W0
  have k27 : ∀ p : Blw W0.heap.size W0, Calls Tryz.prog 27 #[.agg #[.int .i64 W, .int .i64 H, .int .i64 F, .int .i64 L, .int .i64 X, .int .i64 Y]] p.to fun e w' => e = .returned (.bool true) ∧ Below p.to.heap.size p.to w' := fun p => by have h := Stage_any W H F L X Y p.to; rw [hst] at h; exact h
  have k76 : ∀ p : Blw W0.heap.size W0, Calls Tryz.prog 76 #[.agg #[.int .i64 W, .int .i64 H, .int .i64 F, .int .i64 L, .int .i64 X, .int .i64 Y], .slice CA kn kcap] p.to fun e w' => e = .returned (.bool false) ∧ Below p.to.heap.size p.to w' := fun p => by have h := refCells_any W H F L X Y CA kn kcap cs p.to (by omega) (rdB hC (hB.trans (p.h.mono hB.size))) (by omega) (by omega) (by omega) (by omega); rw [hcel] at h; exact h
  have k54 : ∀ p : Blw W0.heap.size W0, Calls Tryz.prog 54 #[.agg #[.int .i64 W, .int .i64 H, .int .i64 F, .int .i64 L, .int .i64 X, .int .i64 Y], .slice A n cap, .agg #[.int .i64 nl, .int .i64 nh, .int .i64 xl, .int .i64 xh, .int .i64 y], .bool false] p.to fun e w' => e = .returned (.int .i64 2) ∧ Below p.to.heap.size p.to w' := fun p => by have h := asked_any W H F L X Y nl nh xl xh y A n cap fs false p.to hn (fun f h => ((hf f h).below (hB.trans (p.h.mono hB.size))).more (Nat.le_trans hB.size p.h.size)) (rdB hr (hB.trans (p.h.mono hB.size))); rw [hak] at h; exact h
  have hbS := fun p i => blw_blk hS p i
  have hbQ := fun p i => blw_blk hQ p i
  refine wp_region_blw (by kernel_rfl) (by kernel_rfl) ?_
  repeat (go_big_quiet_step (first | (go_at_call 27; exact Calls.blw_of _ (k27 _)) | (go_at_call 76; exact Calls.blw_of _ (k76 _)) | (go_at_call 54; exact Calls.blw_of _ (k54 _))))
  refine wpQuiet_nil ?_
  rintro W3 ⟨⟨_, hb⟩, rfl⟩
  clear qhS qhQ hbS hbQ k27 k54 k76
  replace hS := hS.below hb hS.lt; replace hQ := hQ.below hb hQ.lt; replace hP := rdB hP hb; replace hB := hB.trans (hb.mono hB.size); clear hb; have qhS := fun i => Blk.cell hS i; have qhQ := fun i => Blk.cell hQ i
  go_wp2_with ((go_at_call 24; refine (known_true m _ (known_at hm hB)).mono ?_; rintro e w1 ⟨rfl, hb⟩; (try replace hS := hS.below hb hS.lt); (try replace hQ := hQ.below hb hQ.lt); (try replace hP := rdB hP hb); (try replace hX := rdB hX hb); replace hB := hB.trans (hb.mono hB.size); (try clear qhS); (try clear qhQ); clear hb; (try have qhS := fun i => Blk.cell hS i); (try have qhQ := fun i => Blk.cell hQ i)))
  go_ret
  exact ⟨rfl, hB⟩
set_option maxRecDepth 100000 in
set_option maxHeartbeats 25600000 in
theorem cells_b3 (W H F L X Y nl nh xl xh y : Int) (A : Option Addr) (n cap : Nat) (fs : List Fig) (CA : Option Addr) (kn kcap : Nat) (cs : List Int) (m : Int) (w : World) (hm : w.cell? ⟨0, 0, none⟩ = some (.int .i64 m)) (hcap : n ≤ cap) (hcm : cap ≤ maxLen) (hf : ∀ f ∈ fs, f.ok w w.heap.size) (hr : Rd w w.heap.size 1 A n (fs.map Fig.val)) (hkn : kn ≤ kcap) (hkcm : kcap ≤ maxLen) (hC : Rd w w.heap.size 1 CA kn (cs.map (Value.int .i64))) (hfw : fewB fs = true) (hle : kn ≤ 10) (hdm : (1 ≤ W ∧ W ≤ 100) ∧ (1 ≤ H ∧ H ≤ 100)) (HSM : Hid (goodP W H F L X Y nl nh xl xh y fs cs = true → (difP W H F L X Y nl nh xl xh y fs cs).length ≤ 100000)) (hst : stageB W H F L X Y = true) (hcel : cellsB W H cs = true) (hak : askV (askB W H F L X Y nl nh xl xh y fs && true) = 2) (HEB : Hid (enoughB W H F L X Y nl nh xl xh y fs cs = false)) (HEE : Hid (enoughE W H F L X Y nl nh xl xh y fs cs = 2)) (HPL : Hid (planL W H F L X Y nl nh xl xh y fs cs = [])) (HPE : Hid (planE W H F L X Y nl nh xl xh y fs cs = 2)) :
    Calls Tryz.prog 16 #[.agg #[.int .i64 W, .int .i64 H, .int .i64 F, .int .i64 L, .int .i64 X, .int .i64 Y], .slice A n cap, .agg #[.int .i64 nl, .int .i64 nh, .int .i64 xl, .int .i64 xh, .int .i64 y], .slice CA kn kcap] w fun e w' => e = .returned (.bool true) ∧ Below w.heap.size w w' := by
  have hn : n ≤ maxLen := Nat.le_trans hcap hcm
  obtain ⟨⟨d1, d2⟩, d3, d4⟩ := hdm
  have hle0 : ¬ (10 : Int) < kn := by omega
  go_enter Tryz.func16, Tryz.ntmps16
  go_upto_region 1 with (fail)
  have hS := blk2_0 w (.cells #[.int .i64 nl, .int .i64 nh, .int .i64 xl, .int .i64 xh, .int .i64 y] 71) 23 #[.int .i64 W, .int .i64 H, .int .i64 F, .int .i64 L, .int .i64 X, .int .i64 Y]
  have hQ := blk2_1 w (.cells #[.int .i64 W, .int .i64 H, .int .i64 F, .int .i64 L, .int .i64 X, .int .i64 Y] 23) 71 #[.int .i64 nl, .int .i64 nh, .int .i64 xl, .int .i64 xh, .int .i64 y]
  have hB := pro_2 w (.cells #[.int .i64 W, .int .i64 H, .int .i64 F, .int .i64 L, .int .i64 X, .int .i64 Y] 23) (.cells #[.int .i64 nl, .int .i64 nh, .int .i64 xl, .int .i64 xh, .int .i64 y] 71)
  generalize (w.alloc (.cells #[.int .i64 W, .int .i64 H, .int .i64 F, .int .i64 L, .int .i64 X, .int .i64 Y] 23)).alloc (.cells #[.int .i64 nl, .int .i64 nh, .int .i64 xl, .int .i64 xh, .int .i64 y] 71) = W0 at *
  have qhS := fun i => Blk.cell hS i
  have qhQ := fun i => Blk.cell hQ i
  go_upto_region 3 with ((go_at_call 39; refine (few_any A n cap fs _ hn (fun f h => ((hf f h).below hB).more hB.size) (rdB hr hB)).mono ?_; rintro e w1 ⟨rfl, rfl⟩; rw [hfw]))
  go_upto_region 4 with ((go_at_call 74; refine (Enough_all W H F L X Y nl nh xl xh y A n cap fs CA kn kcap cs _ hcap hcm (fun f h => ((hf f h).below hB).more hB.size) (rdB hr hB) (by omega) (rdB hC hB) (HSM.out)).mono ?_; rintro e w1 ⟨rfl, hb⟩; rw [HEB.out, HEE.out]; (try replace hS := hS.below hb hS.lt); (try replace hQ := hQ.below hb hQ.lt); (try replace hP := rdB hP hb); (try replace hX := rdB hX hb); replace hB := hB.trans (hb.mono hB.size); (try clear qhS); (try clear qhQ); clear hb; (try have qhS := fun i => Blk.cell hS i); (try have qhQ := fun i => Blk.cell hQ i)))
  go_upto_region 5 with ((go_at_call 75; refine (Plan_all W H F L X Y nl nh xl xh y A n cap fs CA kn kcap cs _ hcap hcm (fun f h => ((hf f h).below hB).more hB.size) (rdB hr hB) (by omega) (rdB hC hB) (HSM.out)).mono ?_; rintro e w1 ⟨v1, rfl, hIs, hb⟩; obtain ⟨pA, pn, pc, rfl, hp1, hp2, hP⟩ := hIs; rw [HPL.out] at hP; rw [HPE.out]; (try replace hS := hS.below hb hS.lt); (try replace hQ := hQ.below hb hQ.lt); (try replace hX := rdB hX hb); replace hB := hB.trans (hb.mono hB.size); (try clear qhS); (try clear qhQ); clear hb; (try have qhS := fun i => Blk.cell hS i); (try have qhQ := fun i => Blk.cell hQ i)))
  clear HEB HEE HPL HPE HSM
  have hpn : pn = 0 := by have := hP.1; simp at this; omega
  subst hpn
  rename World => W0
  have k27 : ∀ p : Blw W0.heap.size W0, Calls Tryz.prog 27 #[.agg #[.int .i64 W, .int .i64 H, .int .i64 F, .int .i64 L, .int .i64 X, .int .i64 Y]] p.to fun e w' => e = .returned (.bool true) ∧ Below p.to.heap.size p.to w' := fun p => by have h := Stage_any W H F L X Y p.to; rw [hst] at h; exact h
  have k76 : ∀ p : Blw W0.heap.size W0, Calls Tryz.prog 76 #[.agg #[.int .i64 W, .int .i64 H, .int .i64 F, .int .i64 L, .int .i64 X, .int .i64 Y], .slice CA kn kcap] p.to fun e w' => e = .returned (.bool true) ∧ Below p.to.heap.size p.to w' := fun p => by have h := refCells_any W H F L X Y CA kn kcap cs p.to (by omega) (rdB hC (hB.trans (p.h.mono hB.size))) (by omega) (by omega) (by omega) (by omega); rw [hcel] at h; exact h
  have k54 : ∀ p : Blw W0.heap.size W0, Calls Tryz.prog 54 #[.agg #[.int .i64 W, .int .i64 H, .int .i64 F, .int .i64 L, .int .i64 X, .int .i64 Y], .slice A n cap, .agg #[.int .i64 nl, .int .i64 nh, .int .i64 xl, .int .i64 xh, .int .i64 y], .bool true] p.to fun e w' => e = .returned (.int .i64 2) ∧ Below p.to.heap.size p.to w' := fun p => by have h := asked_any W H F L X Y nl nh xl xh y A n cap fs true p.to hn (fun f h => ((hf f h).below (hB.trans (p.h.mono hB.size))).more (Nat.le_trans hB.size p.h.size)) (rdB hr (hB.trans (p.h.mono hB.size))); rw [hak] at h; exact h
  have hbS := fun p i => blw_blk hS p i
  have hbQ := fun p i => blw_blk hQ p i
  refine wp_region_blw (by kernel_rfl) (by kernel_rfl) ?_
  repeat (go_big_quiet_step (first | (go_at_call 27; exact Calls.blw_of _ (k27 _)) | (go_at_call 76; exact Calls.blw_of _ (k76 _)) | (go_at_call 54; exact Calls.blw_of _ (k54 _))))
  refine wpQuiet_nil ?_
  rintro W3 ⟨⟨_, hb⟩, rfl⟩
  clear qhS qhQ hbS hbQ k27 k54 k76
  replace hS := hS.below hb hS.lt; replace hQ := hQ.below hb hQ.lt; replace hP := rdB hP hb; replace hB := hB.trans (hb.mono hB.size); clear hb; have qhS := fun i => Blk.cell hS i; have qhQ := fun i => Blk.cell hQ i
  go_wp2_with ((go_at_call 24; refine (known_true m _ (known_at hm hB)).mono ?_; rintro e w1 ⟨rfl, hb⟩; (try replace hS := hS.below hb hS.lt); (try replace hQ := hQ.below hb hQ.lt); (try replace hP := rdB hP hb); (try replace hX := rdB hX hb); replace hB := hB.trans (hb.mono hB.size); (try clear qhS); (try clear qhQ); clear hb; (try have qhS := fun i => Blk.cell hS i); (try have qhQ := fun i => Blk.cell hQ i)))
  go_ret
  exact ⟨rfl, hB⟩
set_option maxRecDepth 100000 in
set_option maxHeartbeats 25600000 in
theorem cells_5 (Wn Hn : Nat) (F L X Y nl nh xl xh y : Int) (A : Option Addr) (n cap : Nat) (fs : List Fig) (CA : Option Addr) (kn kcap : Nat) (cs : List Int) (m : Int) (w : World) (hm : w.cell? ⟨0, 0, none⟩ = some (.int .i64 m)) (hcap : n ≤ cap) (hcm : cap ≤ maxLen) (hf : ∀ f ∈ fs, f.ok w w.heap.size) (hr : Rd w w.heap.size 1 A n (fs.map Fig.val)) (hkn : kn ≤ kcap) (hkcm : kcap ≤ maxLen) (hC : Rd w w.heap.size 1 CA kn (cs.map (Value.int .i64))) (hfw : fewB fs = true) (hle : kn ≤ 10) (HSM : Hid (goodP Wn Hn F L X Y nl nh xl xh y fs cs = true → (difP Wn Hn F L X Y nl nh xl xh y fs cs).length ≤ 100000)) (hst : stageB Wn Hn F L X Y = true) (hcel : cellsB Wn Hn cs = true) (hak : askV (askB Wn Hn F L X Y nl nh xl xh y fs && true) = 0) (hask : askB Wn Hn F L X Y nl nh xl xh y fs = true) (csN : List Nat) (HCN : Hid (Rd w w.heap.size 1 CA kn (csN.map natV))) (HCS : Hid (∀ c ∈ csN, c < Wn * Hn)) (HEB : Hid (enoughB Wn Hn F L X Y nl nh xl xh y fs cs = false)) (HEE : Hid (enoughE Wn Hn F L X Y nl nh xl xh y fs cs = 0)) (HTV : Hid (telP (shL Wn Hn F L X Y nl nh xl xh y fs) csN = false)) (HPL : Hid (planL Wn Hn F L X Y nl nh xl xh y fs cs = [])) (HPE : Hid (planE Wn Hn F L X Y nl nh xl xh y fs cs = 5)) (HRS : Hid (refS (telP (shL Wn Hn F L X Y nl nh xl xh y fs)) csN (csN.length + 1) = none)) :
    Calls Tryz.prog 16 #[.agg #[.int .i64 Wn, .int .i64 Hn, .int .i64 F, .int .i64 L, .int .i64 X, .int .i64 Y], .slice A n cap, .agg #[.int .i64 nl, .int .i64 nh, .int .i64 xl, .int .i64 xh, .int .i64 y], .slice CA kn kcap] w fun e w' => e = .returned (.bool true) ∧ Below w.heap.size w w' := by
  have hn : n ≤ maxLen := Nat.le_trans hcap hcm
  have hdim := ask_dims hask
  have d1 : 1 ≤ Wn ∧ Wn ≤ 100 ∧ 1 ≤ Hn ∧ Hn ≤ 100 := by omega
  obtain ⟨d1, d2, d3, d4⟩ := d1
  clear hdim
  have hle0 : ¬ (10 : Int) < kn := by omega
  go_enter Tryz.func16, Tryz.ntmps16
  go_upto_region 1 with (fail)
  have hS := blk2_0 w (.cells #[.int .i64 nl, .int .i64 nh, .int .i64 xl, .int .i64 xh, .int .i64 y] 71) 23 #[.int .i64 Wn, .int .i64 Hn, .int .i64 F, .int .i64 L, .int .i64 X, .int .i64 Y]
  have hQ := blk2_1 w (.cells #[.int .i64 Wn, .int .i64 Hn, .int .i64 F, .int .i64 L, .int .i64 X, .int .i64 Y] 23) 71 #[.int .i64 nl, .int .i64 nh, .int .i64 xl, .int .i64 xh, .int .i64 y]
  have hB := pro_2 w (.cells #[.int .i64 Wn, .int .i64 Hn, .int .i64 F, .int .i64 L, .int .i64 X, .int .i64 Y] 23) (.cells #[.int .i64 nl, .int .i64 nh, .int .i64 xl, .int .i64 xh, .int .i64 y] 71)
  generalize (w.alloc (.cells #[.int .i64 Wn, .int .i64 Hn, .int .i64 F, .int .i64 L, .int .i64 X, .int .i64 Y] 23)).alloc (.cells #[.int .i64 nl, .int .i64 nh, .int .i64 xl, .int .i64 xh, .int .i64 y] 71) = W0 at *
  have qhS := fun i => Blk.cell hS i
  have qhQ := fun i => Blk.cell hQ i
  go_upto_region 3 with ((go_at_call 39; refine (few_any A n cap fs _ hn (fun f h => ((hf f h).below hB).more hB.size) (rdB hr hB)).mono ?_; rintro e w1 ⟨rfl, rfl⟩; rw [hfw]))
  go_upto_region 4 with ((go_at_call 74; refine (Enough_all Wn Hn F L X Y nl nh xl xh y A n cap fs CA kn kcap cs _ hcap hcm (fun f h => ((hf f h).below hB).more hB.size) (rdB hr hB) (by omega) (rdB hC hB) (HSM.out)).mono ?_; rintro e w1 ⟨rfl, hb⟩; rw [HEB.out, HEE.out]; (try replace hS := hS.below hb hS.lt); (try replace hQ := hQ.below hb hQ.lt); (try replace hP := rdB hP hb); (try replace hX := rdB hX hb); replace hB := hB.trans (hb.mono hB.size); (try clear qhS); (try clear qhQ); clear hb; (try have qhS := fun i => Blk.cell hS i); (try have qhQ := fun i => Blk.cell hQ i)))
  go_upto_region 5 with ((go_at_call 75; refine (Plan_all Wn Hn F L X Y nl nh xl xh y A n cap fs CA kn kcap cs _ hcap hcm (fun f h => ((hf f h).below hB).more hB.size) (rdB hr hB) (by omega) (rdB hC hB) (HSM.out)).mono ?_; rintro e w1 ⟨v1, rfl, hIs, hb⟩; obtain ⟨pA, pn, pc, rfl, hp1, hp2, hP⟩ := hIs; rw [HPL.out] at hP; rw [HPE.out]; (try replace hS := hS.below hb hS.lt); (try replace hQ := hQ.below hb hQ.lt); (try replace hX := rdB hX hb); replace hB := hB.trans (hb.mono hB.size); (try clear qhS); (try clear qhQ); clear hb; (try have qhS := fun i => Blk.cell hS i); (try have qhQ := fun i => Blk.cell hQ i)))
  clear HEB HEE HPL HPE HSM
  have hpn : pn = 0 := by have := hP.1; simp at this; omega
  subst hpn
  rename World => W0
  have k27 : ∀ p : Blw W0.heap.size W0, Calls Tryz.prog 27 #[.agg #[.int .i64 Wn, .int .i64 Hn, .int .i64 F, .int .i64 L, .int .i64 X, .int .i64 Y]] p.to fun e w' => e = .returned (.bool true) ∧ Below p.to.heap.size p.to w' := fun p => by have h := Stage_any Wn Hn F L X Y p.to; rw [hst] at h; exact h
  have k76 : ∀ p : Blw W0.heap.size W0, Calls Tryz.prog 76 #[.agg #[.int .i64 Wn, .int .i64 Hn, .int .i64 F, .int .i64 L, .int .i64 X, .int .i64 Y], .slice CA kn kcap] p.to fun e w' => e = .returned (.bool true) ∧ Below p.to.heap.size p.to w' := fun p => by have h := refCells_any Wn Hn F L X Y CA kn kcap cs p.to (by omega) (rdB hC (hB.trans (p.h.mono hB.size))) (by omega) (by omega) (by omega) (by omega); rw [hcel] at h; exact h
  have k54 : ∀ p : Blw W0.heap.size W0, Calls Tryz.prog 54 #[.agg #[.int .i64 Wn, .int .i64 Hn, .int .i64 F, .int .i64 L, .int .i64 X, .int .i64 Y], .slice A n cap, .agg #[.int .i64 nl, .int .i64 nh, .int .i64 xl, .int .i64 xh, .int .i64 y], .bool true] p.to fun e w' => e = .returned (.int .i64 0) ∧ Below p.to.heap.size p.to w' := fun p => by have h := asked_any Wn Hn F L X Y nl nh xl xh y A n cap fs true p.to hn (fun f h => ((hf f h).below (hB.trans (p.h.mono hB.size))).more (Nat.le_trans hB.size p.h.size)) (rdB hr (hB.trans (p.h.mono hB.size))); rw [hak] at h; exact h
  have hbS := fun p i => blw_blk hS p i
  have hbQ := fun p i => blw_blk hQ p i
  refine wp_region_blw (by kernel_rfl) (by kernel_rfl) ?_
  repeat (go_big_quiet_step (first | (go_at_call 27; exact Calls.blw_of _ (k27 _)) | (go_at_call 76; exact Calls.blw_of _ (k76 _)) | (go_at_call 54; exact Calls.blw_of _ (k54 _))))
  refine wpQuiet_nil ?_
  rintro W3 ⟨⟨_, hb⟩, rfl⟩
  clear qhS qhQ hbS hbQ k27 k54 k76
  replace hS := hS.below hb hS.lt; replace hQ := hQ.below hb hQ.lt; replace hP := rdB hP hb; replace hB := hB.trans (hb.mono hB.size); clear hb; have qhS := fun i => Blk.cell hS i; have qhQ := fun i => Blk.cell hQ i
  clear hst hcel hak hfw
  go_wp2_with (first | (go_at_call 77; refine (refEnough_any Wn Hn F L X Y nl nh xl xh y A n cap fs CA kn kcap csN _ hcap hcm (fun f h => ((hf f h).below hB).more hB.size) (rdB hr hB) hask (rdB HCN.out hB) (by omega) HCS.out).mono ?_; rintro e w1 ⟨rfl, hb⟩; rw [HTV.out]; (try replace hS := hS.below hb hS.lt); (try replace hQ := hQ.below hb hQ.lt); (try replace hP := rdB hP hb); (try replace hX := rdB hX hb); replace hB := hB.trans (hb.mono hB.size); (try clear qhS); (try clear qhQ); clear hb; (try have qhS := fun i => Blk.cell hS i); (try have qhQ := fun i => Blk.cell hQ i)) | (go_at_call 78; refine (refPlan_any Wn Hn F L X Y nl nh xl xh y A n cap fs CA kn kcap csN _ hcap hcm (fun f h => ((hf f h).below hB).more hB.size) (rdB hr hB) hask (rdB HCN.out hB) hle HCS.out).mono ?_; rintro e w1 hp; rw [HRS.out] at hp; obtain ⟨v1, rfl, hb⟩ := hp; skip; (try replace hS := hS.below hb hS.lt); (try replace hQ := hQ.below hb hQ.lt); (try replace hP := rdB hP hb); (try replace hX := rdB hX hb); replace hB := hB.trans (hb.mono hB.size); (try clear qhS); (try clear qhQ); clear hb; (try have qhS := fun i => Blk.cell hS i); (try have qhQ := fun i => Blk.cell hQ i); dsimp only) | (go_at_call 24; refine (known_true m _ (known_at hm hB)).mono ?_; rintro e w1 ⟨rfl, hb⟩; (try replace hS := hS.below hb hS.lt); (try replace hQ := hQ.below hb hQ.lt); (try replace hP := rdB hP hb); (try replace hX := rdB hX hb); replace hB := hB.trans (hb.mono hB.size); (try clear qhS); (try clear qhQ); clear hb; (try have qhS := fun i => Blk.cell hS i); (try have qhQ := fun i => Blk.cell hQ i)))
  go_ret
  exact ⟨rfl, hB⟩
set_option maxRecDepth 100000 in
set_option maxHeartbeats 25600000 in
theorem cells_0 (Wn Hn : Nat) (F L X Y nl nh xl xh y : Int) (A : Option Addr) (n cap : Nat) (fs : List Fig) (CA : Option Addr) (kn kcap : Nat) (cs : List Int) (m : Int) (w : World) (hm : w.cell? ⟨0, 0, none⟩ = some (.int .i64 m)) (hcap : n ≤ cap) (hcm : cap ≤ maxLen) (hf : ∀ f ∈ fs, f.ok w w.heap.size) (hr : Rd w w.heap.size 1 A n (fs.map Fig.val)) (hkn : kn ≤ kcap) (hkcm : kcap ≤ maxLen) (hC : Rd w w.heap.size 1 CA kn (cs.map (Value.int .i64))) (hfw : fewB fs = true) (hle : kn ≤ 10) (HSM : Hid (goodP Wn Hn F L X Y nl nh xl xh y fs cs = true → (difP Wn Hn F L X Y nl nh xl xh y fs cs).length ≤ 100000)) (hst : stageB Wn Hn F L X Y = true) (hcel : cellsB Wn Hn cs = true) (hak : askV (askB Wn Hn F L X Y nl nh xl xh y fs && true) = 0) (hask : askB Wn Hn F L X Y nl nh xl xh y fs = true) (csN : List Nat) (HCN : Hid (Rd w w.heap.size 1 CA kn (csN.map natV))) (HCS : Hid (∀ c ∈ csN, c < Wn * Hn)) (HEB : Hid (enoughB Wn Hn F L X Y nl nh xl xh y fs cs = true)) (HEE : Hid (enoughE Wn Hn F L X Y nl nh xl xh y fs cs = 0)) (HTV : Hid (telP (shL Wn Hn F L X Y nl nh xl xh y fs) csN = true)) (l : List Nat) (pl : List Int) (HPL : Hid (planL Wn Hn F L X Y nl nh xl xh y fs cs = l)) (HLV : Hid (l.map natV = pl.map (Value.int .i64))) (HPE : Hid (planE Wn Hn F L X Y nl nh xl xh y fs cs = 0)) (HRS : Hid (refS (telP (shL Wn Hn F L X Y nl nh xl xh y fs)) csN (csN.length + 1) = some l)) :
    Calls Tryz.prog 16 #[.agg #[.int .i64 Wn, .int .i64 Hn, .int .i64 F, .int .i64 L, .int .i64 X, .int .i64 Y], .slice A n cap, .agg #[.int .i64 nl, .int .i64 nh, .int .i64 xl, .int .i64 xh, .int .i64 y], .slice CA kn kcap] w fun e w' => e = .returned (.bool true) ∧ Below w.heap.size w w' := by
  have hn : n ≤ maxLen := Nat.le_trans hcap hcm
  have hdim := ask_dims hask
  have d1 : 1 ≤ Wn ∧ Wn ≤ 100 ∧ 1 ≤ Hn ∧ Hn ≤ 100 := by omega
  obtain ⟨d1, d2, d3, d4⟩ := d1
  clear hdim
  have hle0 : ¬ (10 : Int) < kn := by omega
  go_enter Tryz.func16, Tryz.ntmps16
  go_upto_region 1 with (fail)
  have hS := blk2_0 w (.cells #[.int .i64 nl, .int .i64 nh, .int .i64 xl, .int .i64 xh, .int .i64 y] 71) 23 #[.int .i64 Wn, .int .i64 Hn, .int .i64 F, .int .i64 L, .int .i64 X, .int .i64 Y]
  have hQ := blk2_1 w (.cells #[.int .i64 Wn, .int .i64 Hn, .int .i64 F, .int .i64 L, .int .i64 X, .int .i64 Y] 23) 71 #[.int .i64 nl, .int .i64 nh, .int .i64 xl, .int .i64 xh, .int .i64 y]
  have hB := pro_2 w (.cells #[.int .i64 Wn, .int .i64 Hn, .int .i64 F, .int .i64 L, .int .i64 X, .int .i64 Y] 23) (.cells #[.int .i64 nl, .int .i64 nh, .int .i64 xl, .int .i64 xh, .int .i64 y] 71)
  generalize (w.alloc (.cells #[.int .i64 Wn, .int .i64 Hn, .int .i64 F, .int .i64 L, .int .i64 X, .int .i64 Y] 23)).alloc (.cells #[.int .i64 nl, .int .i64 nh, .int .i64 xl, .int .i64 xh, .int .i64 y] 71) = W0 at *
  have qhS := fun i => Blk.cell hS i
  have qhQ := fun i => Blk.cell hQ i
  go_upto_region 3 with ((go_at_call 39; refine (few_any A n cap fs _ hn (fun f h => ((hf f h).below hB).more hB.size) (rdB hr hB)).mono ?_; rintro e w1 ⟨rfl, rfl⟩; rw [hfw]))
  go_upto_region 4 with ((go_at_call 74; refine (Enough_all Wn Hn F L X Y nl nh xl xh y A n cap fs CA kn kcap cs _ hcap hcm (fun f h => ((hf f h).below hB).more hB.size) (rdB hr hB) (by omega) (rdB hC hB) (HSM.out)).mono ?_; rintro e w1 ⟨rfl, hb⟩; rw [HEB.out, HEE.out]; (try replace hS := hS.below hb hS.lt); (try replace hQ := hQ.below hb hQ.lt); (try replace hP := rdB hP hb); (try replace hX := rdB hX hb); replace hB := hB.trans (hb.mono hB.size); (try clear qhS); (try clear qhQ); clear hb; (try have qhS := fun i => Blk.cell hS i); (try have qhQ := fun i => Blk.cell hQ i)))
  go_upto_region 5 with ((go_at_call 75; refine (Plan_all Wn Hn F L X Y nl nh xl xh y A n cap fs CA kn kcap cs _ hcap hcm (fun f h => ((hf f h).below hB).more hB.size) (rdB hr hB) (by omega) (rdB hC hB) (HSM.out)).mono ?_; rintro e w1 ⟨v1, rfl, hIs, hb⟩; obtain ⟨pA, pn, pc, rfl, hp1, hp2, hP⟩ := hIs; rw [HPL.out] at hP; rw [HPE.out]; (try replace hS := hS.below hb hS.lt); (try replace hQ := hQ.below hb hQ.lt); (try replace hX := rdB hX hb); replace hB := hB.trans (hb.mono hB.size); (try clear qhS); (try clear qhQ); clear hb; (try have qhS := fun i => Blk.cell hS i); (try have qhQ := fun i => Blk.cell hQ i)))
  clear HEB HEE HPL HPE HSM
  rw [HLV.out] at hP
  rename World => W0
  have k27 : ∀ p : Blw W0.heap.size W0, Calls Tryz.prog 27 #[.agg #[.int .i64 Wn, .int .i64 Hn, .int .i64 F, .int .i64 L, .int .i64 X, .int .i64 Y]] p.to fun e w' => e = .returned (.bool true) ∧ Below p.to.heap.size p.to w' := fun p => by have h := Stage_any Wn Hn F L X Y p.to; rw [hst] at h; exact h
  have k76 : ∀ p : Blw W0.heap.size W0, Calls Tryz.prog 76 #[.agg #[.int .i64 Wn, .int .i64 Hn, .int .i64 F, .int .i64 L, .int .i64 X, .int .i64 Y], .slice CA kn kcap] p.to fun e w' => e = .returned (.bool true) ∧ Below p.to.heap.size p.to w' := fun p => by have h := refCells_any Wn Hn F L X Y CA kn kcap cs p.to (by omega) (rdB hC (hB.trans (p.h.mono hB.size))) (by omega) (by omega) (by omega) (by omega); rw [hcel] at h; exact h
  have k54 : ∀ p : Blw W0.heap.size W0, Calls Tryz.prog 54 #[.agg #[.int .i64 Wn, .int .i64 Hn, .int .i64 F, .int .i64 L, .int .i64 X, .int .i64 Y], .slice A n cap, .agg #[.int .i64 nl, .int .i64 nh, .int .i64 xl, .int .i64 xh, .int .i64 y], .bool true] p.to fun e w' => e = .returned (.int .i64 0) ∧ Below p.to.heap.size p.to w' := fun p => by have h := asked_any Wn Hn F L X Y nl nh xl xh y A n cap fs true p.to hn (fun f h => ((hf f h).below (hB.trans (p.h.mono hB.size))).more (Nat.le_trans hB.size p.h.size)) (rdB hr (hB.trans (p.h.mono hB.size))); rw [hak] at h; exact h
  have hbS := fun p i => blw_blk hS p i
  have hbQ := fun p i => blw_blk hQ p i
  refine wp_region_blw (by kernel_rfl) (by kernel_rfl) ?_
  repeat (go_big_quiet_step (first | (go_at_call 27; exact Calls.blw_of _ (k27 _)) | (go_at_call 76; exact Calls.blw_of _ (k76 _)) | (go_at_call 54; exact Calls.blw_of _ (k54 _))))
  refine wpQuiet_nil ?_
  rintro W3 ⟨⟨_, hb⟩, rfl⟩
  clear qhS qhQ hbS hbQ k27 k54 k76
  replace hS := hS.below hb hS.lt; replace hQ := hQ.below hb hQ.lt; replace hP := rdB hP hb; replace hB := hB.trans (hb.mono hB.size); clear hb; have qhS := fun i => Blk.cell hS i; have qhQ := fun i => Blk.cell hQ i
  clear hst hcel hak hfw
  go_wp2_with (first | (go_at_call 77; refine (refEnough_any Wn Hn F L X Y nl nh xl xh y A n cap fs CA kn kcap csN _ hcap hcm (fun f h => ((hf f h).below hB).more hB.size) (rdB hr hB) hask (rdB HCN.out hB) (by omega) HCS.out).mono ?_; rintro e w1 ⟨rfl, hb⟩; rw [HTV.out]; (try replace hS := hS.below hb hS.lt); (try replace hQ := hQ.below hb hQ.lt); (try replace hP := rdB hP hb); (try replace hX := rdB hX hb); replace hB := hB.trans (hb.mono hB.size); (try clear qhS); (try clear qhQ); clear hb; (try have qhS := fun i => Blk.cell hS i); (try have qhQ := fun i => Blk.cell hQ i)) | (go_at_call 78; refine (refPlan_any Wn Hn F L X Y nl nh xl xh y A n cap fs CA kn kcap csN _ hcap hcm (fun f h => ((hf f h).below hB).more hB.size) (rdB hr hB) hask (rdB HCN.out hB) hle HCS.out).mono ?_; rintro e w1 hp; rw [HRS.out] at hp; obtain ⟨v1, rfl, hIs, hb⟩ := hp; obtain ⟨xA, xn, xc, rfl, hx1, hx2, hX⟩ := hIs; rw [HLV.out] at hX; (try replace hS := hS.below hb hS.lt); (try replace hQ := hQ.below hb hQ.lt); (try replace hP := rdB hP hb); replace hB := hB.trans (hb.mono hB.size); (try clear qhS); (try clear qhQ); clear hb; (try have qhS := fun i => Blk.cell hS i); (try have qhQ := fun i => Blk.cell hQ i); dsimp only) | (go_at_call 71; refine (Same_any pA xA pn xn pc xc pl pl _ (Nat.le_trans hp1 hp2) (Nat.le_trans hx1 hx2) hP hX).mono ?_; rintro e w1 ⟨rfl, hb⟩; rw [sameL_me]; (try replace hS := hS.below hb hS.lt); (try replace hQ := hQ.below hb hQ.lt); (try replace hP := rdB hP hb); (try replace hX := rdB hX hb); replace hB := hB.trans (hb.mono hB.size); (try clear qhS); (try clear qhQ); clear hb; (try have qhS := fun i => Blk.cell hS i); (try have qhQ := fun i => Blk.cell hQ i)) | (go_at_call 24; refine (known_true m _ (known_at hm hB)).mono ?_; rintro e w1 ⟨rfl, hb⟩; (try replace hS := hS.below hb hS.lt); (try replace hQ := hQ.below hb hQ.lt); (try replace hP := rdB hP hb); (try replace hX := rdB hX hb); replace hB := hB.trans (hb.mono hB.size); (try clear qhS); (try clear qhQ); clear hb; (try have qhS := fun i => Blk.cell hS i); (try have qhQ := fun i => Blk.cell hQ i)))
  go_ret
  exact ⟨rfl, hB⟩
theorem cells_law (W H F L X Y nl nh xl xh y : Int) (A : Option Addr) (n cap : Nat) (fs : List Fig) (CA : Option Addr) (kn kcap : Nat) (cs : List Int) (m : Int) (w : World) (hm : w.cell? ⟨0, 0, none⟩ = some (.int .i64 m)) (hcap : n ≤ cap) (hcm : cap ≤ maxLen) (hf : ∀ f ∈ fs, f.ok w w.heap.size) (hr : Rd w w.heap.size 1 A n (fs.map Fig.val)) (hkn : kn ≤ kcap) (hkcm : kcap ≤ maxLen) (hC : Rd w w.heap.size 1 CA kn (cs.map (Value.int .i64))) :
    Calls Tryz.prog 16 #[.agg #[.int .i64 W, .int .i64 H, .int .i64 F, .int .i64 L, .int .i64 X, .int .i64 Y], .slice A n cap, .agg #[.int .i64 nl, .int .i64 nh, .int .i64 xl, .int .i64 xh, .int .i64 y], .slice CA kn kcap] w fun e w' => e = .returned (.bool true) ∧ Below w.heap.size w w' := by
  have hlen := hC.len
  have HSM := Lib.hid (dif_small W H F L X Y nl nh xl xh y fs cs)
  cases hfw : fewB fs
  · exact cells_x1 W H F L X Y nl nh xl xh y A n cap fs CA kn kcap cs m w hm hcap hcm hf hr hkn hkcm hC hfw
  by_cases hle : kn ≤ 10
  rotate_left
  · exact cells_x2 W H F L X Y nl nh xl xh y A n cap fs CA kn kcap cs m w hm hcap hcm hf hr hkn hkcm hC hfw (by omega)
  have hbad : goodP W H F L X Y nl nh xl xh y fs cs = false → (enoughB W H F L X Y nl nh xl xh y fs cs = false ∧ enoughE W H F L X Y nl nh xl xh y fs cs = 2) ∧ planL W H F L X Y nl nh xl xh y fs cs = [] ∧ planE W H F L X Y nl nh xl xh y fs cs = 2 := fun h => ⟨⟨by unfold enoughB; rw [h]; rfl, by unfold enoughE; rw [h]; rfl⟩, by unfold planL; rw [h]; rfl, by unfold planE; rw [h]; rfl⟩
  cases hst : stageB W H F L X Y
  · obtain ⟨⟨a1, a2⟩, a3, a4⟩ := hbad (by simp [goodP, askB, hst])
    exact cells_b1 W H F L X Y nl nh xl xh y A n cap fs CA kn kcap cs m w hm hcap hcm hf hr hkn hkcm hC hfw hle HSM hst (by simp [askV]) (Lib.hid a1) (Lib.hid a2) (Lib.hid a3) (Lib.hid a4)
  have hdm : (1 ≤ W ∧ W ≤ 100) ∧ (1 ≤ H ∧ H ≤ 100) := by have ⟨⟨s1, s2⟩, ⟨s3, s4⟩, _⟩ := stageB_nums hst; omega
  cases hcel : cellsB W H cs
  · obtain ⟨⟨a1, a2⟩, a3, a4⟩ := hbad (by simp [goodP, hcel])
    exact cells_b2 W H F L X Y nl nh xl xh y A n cap fs CA kn kcap cs m w hm hcap hcm hf hr hkn hkcm hC hfw hle hdm HSM hst hcel (by simp [askV]) (Lib.hid a1) (Lib.hid a2) (Lib.hid a3) (Lib.hid a4)
  rcases askV_two (b := askB W H F L X Y nl nh xl xh y fs) with ⟨hak, hask⟩ | ⟨hak, hask⟩
  rotate_left
  · obtain ⟨⟨a1, a2⟩, a3, a4⟩ := hbad (by simp [goodP, hask])
    exact cells_b3 W H F L X Y nl nh xl xh y A n cap fs CA kn kcap cs m w hm hcap hcm hf hr hkn hkcm hC hfw hle hdm HSM hst hcel hak (Lib.hid a1) (Lib.hid a2) (Lib.hid a3) (Lib.hid a4)
  have hgood : goodP W H F L X Y nl nh xl xh y fs cs = true := by simp only [goodP, hask, hcel]; rfl
  obtain ⟨hcs, hcv, h8⟩ := cells_nat hcel hdm.1.1 hdm.2.1
  obtain ⟨Wn, rfl⟩ : ∃ k : Nat, W = k := ⟨W.toNat, by omega⟩
  obtain ⟨Hn, rfl⟩ : ∃ k : Nat, H = k := ⟨H.toNat, by omega⟩
  rw [Int.toNat_natCast, Int.toNat_natCast] at hcs
  have hCN := hC
  rw [hcv] at hCN
  have hl2 : (cs.map Int.toNat).length = cs.length := List.length_map _
  have hdif : difP Wn Hn F L X Y nl nh xl xh y fs cs = diffAll (cs.map Int.toNat) (cs.map Int.toNat).length (shL Wn Hn F L X Y nl nh xl xh y fs) := by unfold difP; rw [hl2]
  have htel : tellB (difP Wn Hn F L X Y nl nh xl xh y fs cs) 18446744073709551615 = telP (shL Wn Hn F L X Y nl nh xl xh y fs) (cs.map Int.toNat) := by rw [hdif, tell_rel (Rel.full (by omega))]; rfl
  have hfs : refS (telP (shL Wn Hn F L X Y nl nh xl xh y fs)) (cs.map Int.toNat) ((cs.map Int.toNat).length + 1) = fewS (difP Wn Hn F L X Y nl nh xl xh y fs cs) (cs.map Int.toNat) ((cs.map Int.toNat).length + 1) := by rw [hdif]; exact fewS_ref _
  have hsome := fewS_some (sl := shL Wn Hn F L X Y nl nh xl xh y fs) (cells := cs.map Int.toNat) (by omega)
  rw [← hdif, htel, ← hfs] at hsome
  have hEE : enoughE Wn Hn F L X Y nl nh xl xh y fs cs = 0 := by unfold enoughE; rw [if_pos hgood]
  have hEB : enoughB Wn Hn F L X Y nl nh xl xh y fs cs = telP (shL Wn Hn F L X Y nl nh xl xh y fs) (cs.map Int.toNat) := by unfold enoughB; rw [hgood, htel]; rfl
  cases hrs : refS (telP (shL Wn Hn F L X Y nl nh xl xh y fs)) (cs.map Int.toNat) ((cs.map Int.toNat).length + 1) with
  | none =>
    rw [hrs] at hsome
    have htv : telP (shL Wn Hn F L X Y nl nh xl xh y fs) (cs.map Int.toNat) = false := hsome.symm
    exact cells_5 Wn Hn F L X Y nl nh xl xh y A n cap fs CA kn kcap cs m w hm hcap hcm hf hr hkn hkcm hC hfw hle HSM hst hcel hak hask (cs.map Int.toNat) (Lib.hid hCN) (Lib.hid hcs) (Lib.hid (by rw [hEB, htv])) (Lib.hid hEE) (Lib.hid htv) (Lib.hid (by unfold planL; rw [if_pos hgood, htel, htv]; rfl)) (Lib.hid (by unfold planE; rw [if_pos hgood, htel, htv]; rfl)) (Lib.hid hrs)
  | some l =>
    rw [hrs] at hsome
    have htv : telP (shL Wn Hn F L X Y nl nh xl xh y fs) (cs.map Int.toNat) = true := hsome.symm
    exact cells_0 Wn Hn F L X Y nl nh xl xh y A n cap fs CA kn kcap cs m w hm hcap hcm hf hr hkn hkcm hC hfw hle HSM hst hcel hak hask (cs.map Int.toNat) (Lib.hid hCN) (Lib.hid hcs) (Lib.hid (by rw [hEB, htv])) (Lib.hid hEE) (Lib.hid htv) l (l.map fun k : Nat => (k : Int)) (Lib.hid (by unfold planL; rw [if_pos hgood, htel, htv, if_pos rfl]; unfold fewL; rw [← hfs, hrs]; rfl)) (Lib.hid (by rw [List.map_map]; rfl)) (Lib.hid (by unfold planE; rw [if_pos hgood, htel, htv]; rfl)) (Lib.hid hrs)
end Go.Proofs.YtifddfchpknkbaaGreatDoor
