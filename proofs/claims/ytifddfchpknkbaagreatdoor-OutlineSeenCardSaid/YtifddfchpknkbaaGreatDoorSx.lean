import Derived.Test.YtifddfchpknkbaaGreatDoorRt
import Derived.Test.YtifddfchpknkbaaGreatDoorKn
import Derived.Test.YtifddfchpknkbaaGreatDoorJp
import Derived.Test.YtifddfchpknkbaaGreatDoorFm
set_option linter.unusedVariables false
set_option linter.unusedSimpArgs false
namespace Go.Proofs.YtifddfchpknkbaaGreatDoor
open Go.RowKit

theorem readB_parts {n : Nat} {nl nh xl xh y f pn px py : Int} (h : readB n nl nh xl xh y f pn px py = true) : (0 ≤ f ∧ f < n) ∧ (nl ≤ pn ∧ pn ≤ nh) ∧ (xl ≤ px ∧ px ≤ xh) ∧ py = y := by
  simp only [readB, Bool.and_eq_true, decide_eq_true_eq, beq_iff_eq] at h
  obtain ⟨a, b, c, d, e, f, g⟩ := h
  exact ⟨⟨a, b⟩, ⟨c, d⟩, ⟨e, f⟩, g⟩
theorem askV_parts {b : Bool} : (askV (b && true) = 0 ∧ b = true) ∨ (askV (b && true) = 2 ∧ b = false) := by cases b <;> simp [askV]
set_option maxRecDepth 100000 in
set_option maxHeartbeats 25600000 in
theorem seen_x1 (W H F L X Y nl nh xl xh y f1 n1 x1 y1 : Int) (A : Option Addr) (n cap : Nat) (fs : List Fig) (CA : Option Addr) (cn ccap : Nat) (cs : List Int) (m : Int) (w : World) (hm : w.cell? ⟨0, 0, none⟩ = some (.int .i64 m)) (hcap : n ≤ cap) (hcm : cap ≤ maxLen) (hf : ∀ f ∈ fs, f.ok w w.heap.size) (hr : Rd w w.heap.size 1 A n (fs.map Fig.val)) (hcn : cn ≤ ccap) (hccm : ccap ≤ maxLen) (hcr : Rd w w.heap.size 1 CA cn (cs.map (Value.int .i64))) (hfw : fewB fs = false) :
    Calls Tryz.prog 11 #[.agg #[.int .i64 W, .int .i64 H, .int .i64 F, .int .i64 L, .int .i64 X, .int .i64 Y], .slice A n cap, .agg #[.int .i64 nl, .int .i64 nh, .int .i64 xl, .int .i64 xh, .int .i64 y], .agg #[.int .i64 f1, .int .i64 n1, .int .i64 x1, .int .i64 y1], .slice CA cn ccap] w fun e w' => e = .returned (.bool true) ∧ Below w.heap.size w w' := by
  have hn : n ≤ maxLen := Nat.le_trans hcap hcm
  go_enter Tryz.func11, Tryz.ntmps11
  go_upto_region 1 with (fail)
  have hS := blk3_0 w (.cells #[.int .i64 nl, .int .i64 nh, .int .i64 xl, .int .i64 xh, .int .i64 y] 71) (.cells #[.int .i64 f1, .int .i64 n1, .int .i64 x1, .int .i64 y1] 86) 23 #[.int .i64 W, .int .i64 H, .int .i64 F, .int .i64 L, .int .i64 X, .int .i64 Y]
  have hQ := blk3_1 w (.cells #[.int .i64 W, .int .i64 H, .int .i64 F, .int .i64 L, .int .i64 X, .int .i64 Y] 23) (.cells #[.int .i64 f1, .int .i64 n1, .int .i64 x1, .int .i64 y1] 86) 71 #[.int .i64 nl, .int .i64 nh, .int .i64 xl, .int .i64 xh, .int .i64 y]
  have hX := blk3_2 w (.cells #[.int .i64 W, .int .i64 H, .int .i64 F, .int .i64 L, .int .i64 X, .int .i64 Y] 23) (.cells #[.int .i64 nl, .int .i64 nh, .int .i64 xl, .int .i64 xh, .int .i64 y] 71) 86 #[.int .i64 f1, .int .i64 n1, .int .i64 x1, .int .i64 y1]
  have hB := pro_3 w (.cells #[.int .i64 W, .int .i64 H, .int .i64 F, .int .i64 L, .int .i64 X, .int .i64 Y] 23) (.cells #[.int .i64 nl, .int .i64 nh, .int .i64 xl, .int .i64 xh, .int .i64 y] 71) (.cells #[.int .i64 f1, .int .i64 n1, .int .i64 x1, .int .i64 y1] 86)
  generalize ((w.alloc (.cells #[.int .i64 W, .int .i64 H, .int .i64 F, .int .i64 L, .int .i64 X, .int .i64 Y] 23)).alloc (.cells #[.int .i64 nl, .int .i64 nh, .int .i64 xl, .int .i64 xh, .int .i64 y] 71)).alloc (.cells #[.int .i64 f1, .int .i64 n1, .int .i64 x1, .int .i64 y1] 86) = W0 at *
  have qhS := fun i => Blk.cell hS i
  have qhQ := fun i => Blk.cell hQ i
  have qhX := fun i => Blk.cell hX i
  clear hcap hcm
  go_wp2_with (first | (go_at_call 39; refine (few_any A n cap fs _ hn (fun f h => ((hf f h).below hB).more hB.size) (rdB hr hB)).mono ?_; rintro e w1 ⟨rfl, rfl⟩; rw [hfw]) | (go_at_call 24; refine (known_true m _ (known_at hm hB)).mono ?_; rintro e w1 ⟨rfl, hb⟩; (try replace hS := hS.below hb hS.lt); (try replace hQ := hQ.below hb hQ.lt); (try replace hX := hX.below hb hX.lt); replace hB := hB.trans (hb.mono hB.size); (try clear qhS); (try clear qhQ); (try clear qhX); clear hb; (try have qhS := fun i => Blk.cell hS i); (try have qhQ := fun i => Blk.cell hQ i); (try have qhX := fun i => Blk.cell hX i)))
  go_ret
  exact ⟨rfl, hB⟩
set_option maxRecDepth 100000 in
set_option maxHeartbeats 25600000 in
theorem seen_x2 (W H F L X Y nl nh xl xh y f1 n1 x1 y1 : Int) (A : Option Addr) (n cap : Nat) (fs : List Fig) (CA : Option Addr) (cn ccap : Nat) (cs : List Int) (m : Int) (w : World) (hm : w.cell? ⟨0, 0, none⟩ = some (.int .i64 m)) (hcap : n ≤ cap) (hcm : cap ≤ maxLen) (hf : ∀ f ∈ fs, f.ok w w.heap.size) (hr : Rd w w.heap.size 1 A n (fs.map Fig.val)) (hcn : cn ≤ ccap) (hccm : ccap ≤ maxLen) (hcr : Rd w w.heap.size 1 CA cn (cs.map (Value.int .i64))) (hfw : fewB fs = true) (hc3 : (300 : Int) < cn) :
    Calls Tryz.prog 11 #[.agg #[.int .i64 W, .int .i64 H, .int .i64 F, .int .i64 L, .int .i64 X, .int .i64 Y], .slice A n cap, .agg #[.int .i64 nl, .int .i64 nh, .int .i64 xl, .int .i64 xh, .int .i64 y], .agg #[.int .i64 f1, .int .i64 n1, .int .i64 x1, .int .i64 y1], .slice CA cn ccap] w fun e w' => e = .returned (.bool true) ∧ Below w.heap.size w w' := by
  have hn : n ≤ maxLen := Nat.le_trans hcap hcm
  go_enter Tryz.func11, Tryz.ntmps11
  go_upto_region 1 with (fail)
  have hS := blk3_0 w (.cells #[.int .i64 nl, .int .i64 nh, .int .i64 xl, .int .i64 xh, .int .i64 y] 71) (.cells #[.int .i64 f1, .int .i64 n1, .int .i64 x1, .int .i64 y1] 86) 23 #[.int .i64 W, .int .i64 H, .int .i64 F, .int .i64 L, .int .i64 X, .int .i64 Y]
  have hQ := blk3_1 w (.cells #[.int .i64 W, .int .i64 H, .int .i64 F, .int .i64 L, .int .i64 X, .int .i64 Y] 23) (.cells #[.int .i64 f1, .int .i64 n1, .int .i64 x1, .int .i64 y1] 86) 71 #[.int .i64 nl, .int .i64 nh, .int .i64 xl, .int .i64 xh, .int .i64 y]
  have hX := blk3_2 w (.cells #[.int .i64 W, .int .i64 H, .int .i64 F, .int .i64 L, .int .i64 X, .int .i64 Y] 23) (.cells #[.int .i64 nl, .int .i64 nh, .int .i64 xl, .int .i64 xh, .int .i64 y] 71) 86 #[.int .i64 f1, .int .i64 n1, .int .i64 x1, .int .i64 y1]
  have hB := pro_3 w (.cells #[.int .i64 W, .int .i64 H, .int .i64 F, .int .i64 L, .int .i64 X, .int .i64 Y] 23) (.cells #[.int .i64 nl, .int .i64 nh, .int .i64 xl, .int .i64 xh, .int .i64 y] 71) (.cells #[.int .i64 f1, .int .i64 n1, .int .i64 x1, .int .i64 y1] 86)
  generalize ((w.alloc (.cells #[.int .i64 W, .int .i64 H, .int .i64 F, .int .i64 L, .int .i64 X, .int .i64 Y] 23)).alloc (.cells #[.int .i64 nl, .int .i64 nh, .int .i64 xl, .int .i64 xh, .int .i64 y] 71)).alloc (.cells #[.int .i64 f1, .int .i64 n1, .int .i64 x1, .int .i64 y1] 86) = W0 at *
  have qhS := fun i => Blk.cell hS i
  have qhQ := fun i => Blk.cell hQ i
  have qhX := fun i => Blk.cell hX i
  clear hcap hcm
  go_wp2_with (first | (go_at_call 39; refine (few_any A n cap fs _ hn (fun f h => ((hf f h).below hB).more hB.size) (rdB hr hB)).mono ?_; rintro e w1 ⟨rfl, rfl⟩; rw [hfw]) | (go_at_call 24; refine (known_true m _ (known_at hm hB)).mono ?_; rintro e w1 ⟨rfl, hb⟩; (try replace hS := hS.below hb hS.lt); (try replace hQ := hQ.below hb hQ.lt); (try replace hX := hX.below hb hX.lt); replace hB := hB.trans (hb.mono hB.size); (try clear qhS); (try clear qhQ); (try clear qhX); clear hb; (try have qhS := fun i => Blk.cell hS i); (try have qhQ := fun i => Blk.cell hQ i); (try have qhX := fun i => Blk.cell hX i)))
  go_ret
  exact ⟨rfl, hB⟩
set_option maxRecDepth 100000 in
set_option maxHeartbeats 25600000 in
theorem seen_x3 (W H F L X Y nl nh xl xh y f1 n1 x1 y1 : Int) (A : Option Addr) (n cap : Nat) (fs : List Fig) (CA : Option Addr) (cn ccap : Nat) (cs : List Int) (m : Int) (w : World) (hm : w.cell? ⟨0, 0, none⟩ = some (.int .i64 m)) (hcap : n ≤ cap) (hcm : cap ≤ maxLen) (hf : ∀ f ∈ fs, f.ok w w.heap.size) (hr : Rd w w.heap.size 1 A n (fs.map Fig.val)) (hcn : cn ≤ ccap) (hccm : ccap ≤ maxLen) (hcr : Rd w w.heap.size 1 CA cn (cs.map (Value.int .i64))) (hfw : fewB fs = true) (hc3 : ¬ (300 : Int) < cn) (hak : askV (askB W H F L X Y nl nh xl xh y fs && true) = 2) :
    Calls Tryz.prog 11 #[.agg #[.int .i64 W, .int .i64 H, .int .i64 F, .int .i64 L, .int .i64 X, .int .i64 Y], .slice A n cap, .agg #[.int .i64 nl, .int .i64 nh, .int .i64 xl, .int .i64 xh, .int .i64 y], .agg #[.int .i64 f1, .int .i64 n1, .int .i64 x1, .int .i64 y1], .slice CA cn ccap] w fun e w' => e = .returned (.bool true) ∧ Below w.heap.size w w' := by
  have hn : n ≤ maxLen := Nat.le_trans hcap hcm
  go_enter Tryz.func11, Tryz.ntmps11
  go_upto_region 1 with (fail)
  have hS := blk3_0 w (.cells #[.int .i64 nl, .int .i64 nh, .int .i64 xl, .int .i64 xh, .int .i64 y] 71) (.cells #[.int .i64 f1, .int .i64 n1, .int .i64 x1, .int .i64 y1] 86) 23 #[.int .i64 W, .int .i64 H, .int .i64 F, .int .i64 L, .int .i64 X, .int .i64 Y]
  have hQ := blk3_1 w (.cells #[.int .i64 W, .int .i64 H, .int .i64 F, .int .i64 L, .int .i64 X, .int .i64 Y] 23) (.cells #[.int .i64 f1, .int .i64 n1, .int .i64 x1, .int .i64 y1] 86) 71 #[.int .i64 nl, .int .i64 nh, .int .i64 xl, .int .i64 xh, .int .i64 y]
  have hX := blk3_2 w (.cells #[.int .i64 W, .int .i64 H, .int .i64 F, .int .i64 L, .int .i64 X, .int .i64 Y] 23) (.cells #[.int .i64 nl, .int .i64 nh, .int .i64 xl, .int .i64 xh, .int .i64 y] 71) 86 #[.int .i64 f1, .int .i64 n1, .int .i64 x1, .int .i64 y1]
  have hB := pro_3 w (.cells #[.int .i64 W, .int .i64 H, .int .i64 F, .int .i64 L, .int .i64 X, .int .i64 Y] 23) (.cells #[.int .i64 nl, .int .i64 nh, .int .i64 xl, .int .i64 xh, .int .i64 y] 71) (.cells #[.int .i64 f1, .int .i64 n1, .int .i64 x1, .int .i64 y1] 86)
  generalize ((w.alloc (.cells #[.int .i64 W, .int .i64 H, .int .i64 F, .int .i64 L, .int .i64 X, .int .i64 Y] 23)).alloc (.cells #[.int .i64 nl, .int .i64 nh, .int .i64 xl, .int .i64 xh, .int .i64 y] 71)).alloc (.cells #[.int .i64 f1, .int .i64 n1, .int .i64 x1, .int .i64 y1] 86) = W0 at *
  have qhS := fun i => Blk.cell hS i
  have qhQ := fun i => Blk.cell hQ i
  have qhX := fun i => Blk.cell hX i
  clear hcap hcm
  go_wp2_with (first | (go_at_call 39; refine (few_any A n cap fs _ hn (fun f h => ((hf f h).below hB).more hB.size) (rdB hr hB)).mono ?_; rintro e w1 ⟨rfl, rfl⟩; rw [hfw]) | (go_at_call 54; refine (asked_any W H F L X Y nl nh xl xh y A n cap fs true _ hn (fun f h => ((hf f h).below hB).more hB.size) (rdB hr hB)).mono ?_; rintro e w1 ⟨rfl, hb⟩; rw [hak]; (try replace hS := hS.below hb hS.lt); (try replace hQ := hQ.below hb hQ.lt); (try replace hX := hX.below hb hX.lt); replace hB := hB.trans (hb.mono hB.size); (try clear qhS); (try clear qhQ); (try clear qhX); clear hb; (try have qhS := fun i => Blk.cell hS i); (try have qhQ := fun i => Blk.cell hQ i); (try have qhX := fun i => Blk.cell hX i)) | (go_at_call 24; refine (known_true m _ (known_at hm hB)).mono ?_; rintro e w1 ⟨rfl, hb⟩; (try replace hS := hS.below hb hS.lt); (try replace hQ := hQ.below hb hQ.lt); (try replace hX := hX.below hb hX.lt); replace hB := hB.trans (hb.mono hB.size); (try clear qhS); (try clear qhQ); (try clear qhX); clear hb; (try have qhS := fun i => Blk.cell hS i); (try have qhQ := fun i => Blk.cell hQ i); (try have qhX := fun i => Blk.cell hX i)))
  go_ret
  exact ⟨rfl, hB⟩
set_option maxRecDepth 100000 in
set_option maxHeartbeats 25600000 in
theorem seen_x4 (W H F L X Y nl nh xl xh y f1 n1 x1 y1 : Int) (A : Option Addr) (n cap : Nat) (fs : List Fig) (CA : Option Addr) (cn ccap : Nat) (cs : List Int) (m : Int) (w : World) (hm : w.cell? ⟨0, 0, none⟩ = some (.int .i64 m)) (hcap : n ≤ cap) (hcm : cap ≤ maxLen) (hf : ∀ f ∈ fs, f.ok w w.heap.size) (hr : Rd w w.heap.size 1 A n (fs.map Fig.val)) (hcn : cn ≤ ccap) (hccm : ccap ≤ maxLen) (hcr : Rd w w.heap.size 1 CA cn (cs.map (Value.int .i64))) (hfw : fewB fs = true) (hc3 : ¬ (300 : Int) < cn) (hak : askV (askB W H F L X Y nl nh xl xh y fs && true) = 0) (hr1 : readB n nl nh xl xh y f1 n1 x1 y1 = false) :
    Calls Tryz.prog 11 #[.agg #[.int .i64 W, .int .i64 H, .int .i64 F, .int .i64 L, .int .i64 X, .int .i64 Y], .slice A n cap, .agg #[.int .i64 nl, .int .i64 nh, .int .i64 xl, .int .i64 xh, .int .i64 y], .agg #[.int .i64 f1, .int .i64 n1, .int .i64 x1, .int .i64 y1], .slice CA cn ccap] w fun e w' => e = .returned (.bool true) ∧ Below w.heap.size w w' := by
  have hn : n ≤ maxLen := Nat.le_trans hcap hcm
  go_enter Tryz.func11, Tryz.ntmps11
  go_upto_region 1 with (fail)
  have hS := blk3_0 w (.cells #[.int .i64 nl, .int .i64 nh, .int .i64 xl, .int .i64 xh, .int .i64 y] 71) (.cells #[.int .i64 f1, .int .i64 n1, .int .i64 x1, .int .i64 y1] 86) 23 #[.int .i64 W, .int .i64 H, .int .i64 F, .int .i64 L, .int .i64 X, .int .i64 Y]
  have hQ := blk3_1 w (.cells #[.int .i64 W, .int .i64 H, .int .i64 F, .int .i64 L, .int .i64 X, .int .i64 Y] 23) (.cells #[.int .i64 f1, .int .i64 n1, .int .i64 x1, .int .i64 y1] 86) 71 #[.int .i64 nl, .int .i64 nh, .int .i64 xl, .int .i64 xh, .int .i64 y]
  have hX := blk3_2 w (.cells #[.int .i64 W, .int .i64 H, .int .i64 F, .int .i64 L, .int .i64 X, .int .i64 Y] 23) (.cells #[.int .i64 nl, .int .i64 nh, .int .i64 xl, .int .i64 xh, .int .i64 y] 71) 86 #[.int .i64 f1, .int .i64 n1, .int .i64 x1, .int .i64 y1]
  have hB := pro_3 w (.cells #[.int .i64 W, .int .i64 H, .int .i64 F, .int .i64 L, .int .i64 X, .int .i64 Y] 23) (.cells #[.int .i64 nl, .int .i64 nh, .int .i64 xl, .int .i64 xh, .int .i64 y] 71) (.cells #[.int .i64 f1, .int .i64 n1, .int .i64 x1, .int .i64 y1] 86)
  generalize ((w.alloc (.cells #[.int .i64 W, .int .i64 H, .int .i64 F, .int .i64 L, .int .i64 X, .int .i64 Y] 23)).alloc (.cells #[.int .i64 nl, .int .i64 nh, .int .i64 xl, .int .i64 xh, .int .i64 y] 71)).alloc (.cells #[.int .i64 f1, .int .i64 n1, .int .i64 x1, .int .i64 y1] 86) = W0 at *
  have qhS := fun i => Blk.cell hS i
  have qhQ := fun i => Blk.cell hQ i
  have qhX := fun i => Blk.cell hX i
  clear hcap hcm
  go_wp2_with (first | (go_at_call 39; refine (few_any A n cap fs _ hn (fun f h => ((hf f h).below hB).more hB.size) (rdB hr hB)).mono ?_; rintro e w1 ⟨rfl, rfl⟩; rw [hfw]) | (go_at_call 54; refine (asked_any W H F L X Y nl nh xl xh y A n cap fs true _ hn (fun f h => ((hf f h).below hB).more hB.size) (rdB hr hB)).mono ?_; rintro e w1 ⟨rfl, hb⟩; rw [hak]; (try replace hS := hS.below hb hS.lt); (try replace hQ := hQ.below hb hQ.lt); (try replace hX := hX.below hb hX.lt); replace hB := hB.trans (hb.mono hB.size); (try clear qhS); (try clear qhQ); (try clear qhX); clear hb; (try have qhS := fun i => Blk.cell hS i); (try have qhQ := fun i => Blk.cell hQ i); (try have qhX := fun i => Blk.cell hX i)) | (go_at_call 60; refine (reading_any nl nh xl xh y f1 n1 x1 y1 A n cap _).mono ?_; rintro e w1 ⟨rfl, hb⟩; rw [hr1]; (try replace hS := hS.below hb hS.lt); (try replace hQ := hQ.below hb hQ.lt); (try replace hX := hX.below hb hX.lt); replace hB := hB.trans (hb.mono hB.size); (try clear qhS); (try clear qhQ); (try clear qhX); clear hb; (try have qhS := fun i => Blk.cell hS i); (try have qhQ := fun i => Blk.cell hQ i); (try have qhX := fun i => Blk.cell hX i)) | (go_at_call 24; refine (known_true m _ (known_at hm hB)).mono ?_; rintro e w1 ⟨rfl, hb⟩; (try replace hS := hS.below hb hS.lt); (try replace hQ := hQ.below hb hQ.lt); (try replace hX := hX.below hb hX.lt); replace hB := hB.trans (hb.mono hB.size); (try clear qhS); (try clear qhQ); (try clear qhX); clear hb; (try have qhS := fun i => Blk.cell hS i); (try have qhQ := fun i => Blk.cell hQ i); (try have qhX := fun i => Blk.cell hX i)))
  go_ret
  exact ⟨rfl, hB⟩

set_option maxRecDepth 100000 in
set_option maxHeartbeats 3200000 in
/-- A reading that is in a list is found. -/
theorem listed_true (A : Option Addr) (n cap : Nat) (tl : List Tr) (y f1 n1 x1 : Int) (w : World) (hn : n ≤ 100000) (hin : (f1, n1, x1) ∈ tl) (hr : Rd w w.heap.size 4 A n (tl.flatMap (rdC y))) :
    Calls Tryz.prog 61 #[.slice A n cap, .agg #[.int .i64 f1, .int .i64 n1, .int .i64 x1, .int .i64 y]] w fun e w' => e = .returned (.bool true) ∧ Below w.heap.size w w' := by
  have hlen := hr.lenc (by decide) (rdC_len y)
  have HL := Lib.hid hlen; have HIN := Lib.hid hin; clear hlen hin
  go_enter Tryz.func61, Tryz.ntmps61
  go_upto_region 1 with (fail)
  have hX := Blk.new w 86 #[.int .i64 f1, .int .i64 n1, .int .i64 x1, .int .i64 y]
  have hB : Below w.heap.size w (w.alloc (.cells #[.int .i64 f1, .int .i64 n1, .int .i64 x1, .int .i64 y] 86)) := (Below.refl _ w).alloc (Nat.le_refl _) _
  generalize w.alloc (.cells #[.int .i64 f1, .int .i64 n1, .int .i64 x1, .int .i64 y] 86) = W0 at *
  go_wp2_with (fail)
  go_loopg [5] n (fun g i wr => ∃ k : Nat, g = n - k ∧ k ≤ n ∧ i = .int .i64 k ∧ (f1, n1, x1) ∉ tl.take k ∧ Blk wr w.heap.size 86 #[.int .i64 f1, .int .i64 n1, .int .i64 x1, .int .i64 y] ∧ Below w.heap.size w wr)
  case atStart => exact ⟨0, rfl, Nat.zero_le _, rfl, by simp, hX, hB⟩
  case round =>
    clear hX hB
    obtain ⟨k, hg, hk, rfl, hno, hX, hB⟩ := hrel
    have HG := Lib.hid hg; clear hg
    by_cases hlt : k < n
    · obtain ⟨b, off, hz, rfl, hb, c0, c1, c2, c3⟩ := (hr.below hB).at4 hlt
      have htk : tl.take (k + 1) = tl.take k ++ [tl[k]] := List.take_succ_eq_append_getElem hz
      generalize hak : tl[k] = tk at *
      obtain ⟨a1, a2, a3⟩ := tk
      dsimp only at c0 c1 c2 c3
      have HTK := Lib.hid htk; have HNO := Lib.hid hno; clear htk hno hak
      have hbl := Nat.lt_of_lt_of_le hb hB.size
      have e0 := fun p : Blw wr.heap.size wr => blw_cell (a := ⟨b, off + k * 4, none⟩) hbl c0 p
      have e1 := fun p : Blw wr.heap.size wr => blw_cell (a := ⟨b, off + k * 4 + 1, none⟩) hbl c1 p
      have e2 := fun p : Blw wr.heap.size wr => blw_cell (a := ⟨b, off + k * 4 + 2, none⟩) hbl c2 p
      have e3 := fun p : Blw wr.heap.size wr => blw_cell (a := ⟨b, off + k * 4 + 3, none⟩) hbl c3 p
      have hbx := fun p i => blw_blk hX p i
      go_upto_region 4 with (fail)
      by_cases heq : a1 = f1 ∧ a2 = n1 ∧ a3 = x1
      · obtain ⟨rfl, rfl, rfl⟩ := heq
        as_aux_lemma =>
          refine wp_region_blw (by kernel_rfl) (by kernel_rfl) ?_
          repeat (go_big_quiet_step (fail))
          refine wpQuiet_nil ?_
          rintro W3 ⟨⟨_, hb3⟩, rfl⟩
          clear e0 e1 e2 e3 hbx
          go_wp2_with (fail)
          go_ret
          exact ⟨rfl, hB.trans (hb3.mono hB.size)⟩
      · have hne : (f1, n1, x1) ∉ tl.take (k + 1) := by
          rw [HTK.out]
          intro h
          rcases List.mem_append.1 h with h | h
          · exact HNO.out h
          · have : (f1, n1, x1) = (a1, a2, a3) := by simpa using h
            cases this
            exact heq ⟨rfl, rfl, rfl⟩
        have HNE := Lib.hid hne; clear hne HTK HNO
        have heq2 : ¬ (a1 = f1 ∧ a2 = n1 ∧ a3 = x1 ∧ y = y) := fun h => heq ⟨h.1, h.2.1, h.2.2.1⟩
        by_cases h1 : a1 = f1
        · subst h1
          by_cases h2 : a2 = n1
          · subst h2
            have h3 : (a3 == x1) = false := by simp; intro h; exact heq ⟨rfl, rfl, h⟩
            clear heq heq2
            as_aux_lemma =>
              refine wp_region_blw (by kernel_rfl) (by kernel_rfl) ?_
              repeat (go_big_quiet_step (fail))
              refine wpQuiet_nil ?_
              rintro W3 ⟨⟨_, hb3⟩, rfl⟩
              clear e0 e1 e2 e3 hbx
              go_wp2_with (fail)
              go_roundg (n - (k + 1))
              case measure => rw [HG.out]; omega
              case rel => exact ⟨k + 1, rfl, by omega, by go_num, HNE.out, hX.below hb3 hX.lt, hB.trans (hb3.mono hB.size)⟩
          · have h3 : (a2 == n1) = false := by simp [h2]
            clear heq heq2 h2
            as_aux_lemma =>
              refine wp_region_blw (by kernel_rfl) (by kernel_rfl) ?_
              repeat (go_big_quiet_step (fail))
              refine wpQuiet_nil ?_
              rintro W3 ⟨⟨_, hb3⟩, rfl⟩
              clear e0 e1 e2 e3 hbx
              go_wp2_with (fail)
              go_roundg (n - (k + 1))
              case measure => rw [HG.out]; omega
              case rel => exact ⟨k + 1, rfl, by omega, by go_num, HNE.out, hX.below hb3 hX.lt, hB.trans (hb3.mono hB.size)⟩
        · have h3 : (a1 == f1) = false := by simp [h1]
          clear heq heq2 h1
          as_aux_lemma =>
            refine wp_region_blw (by kernel_rfl) (by kernel_rfl) ?_
            repeat (go_big_quiet_step (fail))
            refine wpQuiet_nil ?_
            rintro W3 ⟨⟨_, hb3⟩, rfl⟩
            clear e0 e1 e2 e3 hbx
            go_wp2_with (fail)
            go_roundg (n - (k + 1))
            case measure => rw [HG.out]; omega
            case rel => exact ⟨k + 1, rfl, by omega, by go_num, HNE.out, hX.below hb3 hX.lt, hB.trans (hb3.mono hB.size)⟩
    · exfalso
      obtain rfl : k = n := by omega
      have htk : tl.take k = tl := List.take_of_length_le (by have := HL.out; omega)
      rw [htk] at hno
      exact hno HIN.out
end Go.Proofs.YtifddfchpknkbaaGreatDoor
