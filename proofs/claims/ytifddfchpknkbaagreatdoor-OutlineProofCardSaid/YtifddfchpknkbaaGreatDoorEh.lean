import Derived.Test.YtifddfchpknkbaaGreatDoorEg
import Derived.Test.YtifddfchpknkbaaGreatDoorKn
import Derived.Test.YtifddfchpknkbaaGreatDoorOa
import Derived.Test.YtifddfchpknkbaaGreatDoorTm
set_option linter.unusedVariables false
set_option linter.unusedSimpArgs false
namespace Go.Proofs.YtifddfchpknkbaaGreatDoor
open Go.RowKit

theorem pro_4 (w : World) (o0 o1 o2 o3 : Obj) : Below w.heap.size w ((((w.alloc o0).alloc o1).alloc o2).alloc o3) :=
  ((((Below.refl _ w).alloc (Nat.le_refl _) _).alloc (by simp only [World.size_alloc]; omega) _).alloc (by simp only [World.size_alloc]; omega) _).alloc (by simp only [World.size_alloc]; omega) _
theorem blk4_0 (w : World) (o1 o2 o3 : Obj) (t : TypeId) (cs : Array Value) : Blk ((((w.alloc (.cells cs t)).alloc o1).alloc o2).alloc o3) (w.heap.size) t cs := by
  have := (((Blk.new (w) t cs).alloc o1).alloc o2).alloc o3
  simpa only [World.size_alloc] using this
theorem blk4_1 (w : World) (o0 o2 o3 : Obj) (t : TypeId) (cs : Array Value) : Blk ((((w.alloc o0).alloc (.cells cs t)).alloc o2).alloc o3) (w.heap.size + 1) t cs := by
  have := ((Blk.new (w.alloc o0) t cs).alloc o2).alloc o3
  simpa only [World.size_alloc] using this
theorem blk4_2 (w : World) (o0 o1 o3 : Obj) (t : TypeId) (cs : Array Value) : Blk ((((w.alloc o0).alloc o1).alloc (.cells cs t)).alloc o3) (w.heap.size + 1 + 1) t cs := by
  have := (Blk.new ((w.alloc o0).alloc o1) t cs).alloc o3
  simpa only [World.size_alloc] using this
theorem blk4_3 (w : World) (o0 o1 o2 : Obj) (t : TypeId) (cs : Array Value) : Blk ((((w.alloc o0).alloc o1).alloc o2).alloc (.cells cs t)) (w.heap.size + 1 + 1 + 1) t cs := by
  have := Blk.new (((w.alloc o0).alloc o1).alloc o2) t cs
  simpa only [World.size_alloc] using this
set_option maxRecDepth 100000 in
set_option maxHeartbeats 25600000 in
theorem proof_x1 (W H F L X Y nl nh xl xh y f1 n1 x1 y1 f2 n2 x2 y2 : Int) (A : Option Addr) (n cap : Nat) (fs : List Fig) (CA : Option Addr) (kn kcap : Nat) (cs : List Int) (OA : Option Addr) (on ocap : Nat) (os : List Int) (m : Int) (w : World) (hm : w.cell? ⟨0, 0, none⟩ = some (.int .i64 m)) (hcap : n ≤ cap) (hcm : cap ≤ maxLen) (hf : ∀ f ∈ fs, f.ok w w.heap.size) (hr : Rd w w.heap.size 1 A n (fs.map Fig.val)) (hkn : kn ≤ kcap) (hkcm : kcap ≤ maxLen) (hC0 : Rd w w.heap.size 1 CA kn (cs.map (Value.int .i64))) (hon : on ≤ ocap) (hocm : ocap ≤ maxLen) (hO0 : Rd w w.heap.size 1 OA on (os.map (Value.int .i64))) (hfw : fewB fs = false) :
    Calls Tryz.prog 17 #[.agg #[.int .i64 W, .int .i64 H, .int .i64 F, .int .i64 L, .int .i64 X, .int .i64 Y], .slice A n cap, .agg #[.int .i64 nl, .int .i64 nh, .int .i64 xl, .int .i64 xh, .int .i64 y], .slice CA kn kcap, .slice OA on ocap, .agg #[.int .i64 f1, .int .i64 n1, .int .i64 x1, .int .i64 y1], .agg #[.int .i64 f2, .int .i64 n2, .int .i64 x2, .int .i64 y2]] w fun e w' => e = .returned (.bool true) ∧ Below w.heap.size w w' := by
  have hn : n ≤ maxLen := Nat.le_trans hcap hcm
  go_enter Tryz.func17, Tryz.ntmps17
  go_upto_region 1 with (fail)
  have hS := blk4_0 w (.cells #[.int .i64 nl, .int .i64 nh, .int .i64 xl, .int .i64 xh, .int .i64 y] 71) (.cells #[.int .i64 f1, .int .i64 n1, .int .i64 x1, .int .i64 y1] 86) (.cells #[.int .i64 f2, .int .i64 n2, .int .i64 x2, .int .i64 y2] 86) 23 #[.int .i64 W, .int .i64 H, .int .i64 F, .int .i64 L, .int .i64 X, .int .i64 Y]
  have hQ := blk4_1 w (.cells #[.int .i64 W, .int .i64 H, .int .i64 F, .int .i64 L, .int .i64 X, .int .i64 Y] 23) (.cells #[.int .i64 f1, .int .i64 n1, .int .i64 x1, .int .i64 y1] 86) (.cells #[.int .i64 f2, .int .i64 n2, .int .i64 x2, .int .i64 y2] 86) 71 #[.int .i64 nl, .int .i64 nh, .int .i64 xl, .int .i64 xh, .int .i64 y]
  have hXA := blk4_2 w (.cells #[.int .i64 W, .int .i64 H, .int .i64 F, .int .i64 L, .int .i64 X, .int .i64 Y] 23) (.cells #[.int .i64 nl, .int .i64 nh, .int .i64 xl, .int .i64 xh, .int .i64 y] 71) (.cells #[.int .i64 f2, .int .i64 n2, .int .i64 x2, .int .i64 y2] 86) 86 #[.int .i64 f1, .int .i64 n1, .int .i64 x1, .int .i64 y1]
  have hXB := blk4_3 w (.cells #[.int .i64 W, .int .i64 H, .int .i64 F, .int .i64 L, .int .i64 X, .int .i64 Y] 23) (.cells #[.int .i64 nl, .int .i64 nh, .int .i64 xl, .int .i64 xh, .int .i64 y] 71) (.cells #[.int .i64 f1, .int .i64 n1, .int .i64 x1, .int .i64 y1] 86) 86 #[.int .i64 f2, .int .i64 n2, .int .i64 x2, .int .i64 y2]
  have hB := pro_4 w (.cells #[.int .i64 W, .int .i64 H, .int .i64 F, .int .i64 L, .int .i64 X, .int .i64 Y] 23) (.cells #[.int .i64 nl, .int .i64 nh, .int .i64 xl, .int .i64 xh, .int .i64 y] 71) (.cells #[.int .i64 f1, .int .i64 n1, .int .i64 x1, .int .i64 y1] 86) (.cells #[.int .i64 f2, .int .i64 n2, .int .i64 x2, .int .i64 y2] 86)
  generalize (((w.alloc (.cells #[.int .i64 W, .int .i64 H, .int .i64 F, .int .i64 L, .int .i64 X, .int .i64 Y] 23)).alloc (.cells #[.int .i64 nl, .int .i64 nh, .int .i64 xl, .int .i64 xh, .int .i64 y] 71)).alloc (.cells #[.int .i64 f1, .int .i64 n1, .int .i64 x1, .int .i64 y1] 86)).alloc (.cells #[.int .i64 f2, .int .i64 n2, .int .i64 x2, .int .i64 y2] 86) = W0 at *
  have qhS := fun i => Blk.cell hS i
  have qhQ := fun i => Blk.cell hQ i
  have qhXA := fun i => Blk.cell hXA i
  have qhXB := fun i => Blk.cell hXB i
  have k39 : ∀ p : Blw W0.heap.size W0, Calls Tryz.prog 39 #[.slice A n cap] p.to fun e w' => e = .returned (.bool false) ∧ p.to = w' := fun p => by have h := few_any A n cap fs p.to hn (fun f h => ((hf f h).below (hB.trans (p.h.mono hB.size))).more (Nat.le_trans hB.size p.h.size)) (rdB hr (hB.trans (p.h.mono hB.size))); rw [hfw] at h; exact h
  have hbS := fun p i => blw_blk hS p i
  have hbQ := fun p i => blw_blk hQ p i
  have hbXA := fun p i => blw_blk hXA p i
  have hbXB := fun p i => blw_blk hXB p i
  refine wp_region_blw (by kernel_rfl) (by kernel_rfl) ?_
  repeat (go_big_quiet_step (first | (go_at_call 39; exact Calls.blw_of_same _ (k39 _))))
  refine wpQuiet_nil ?_
  rintro W3 ⟨⟨_, hb⟩, rfl⟩
  clear qhS qhQ qhXA qhXB hbS hbQ hbXA hbXB k39
  replace hS := hS.below hb hS.lt; replace hQ := hQ.below hb hQ.lt; replace hXA := hXA.below hb hXA.lt; replace hXB := hXB.below hb hXB.lt; replace hB := hB.trans (hb.mono hB.size); clear hb; have qhS := fun i => Blk.cell hS i; have qhQ := fun i => Blk.cell hQ i; have qhXA := fun i => Blk.cell hXA i; have qhXB := fun i => Blk.cell hXB i
  go_wp2_with ((go_at_call 24; refine (known_true m _ (known_at hm hB)).mono ?_; rintro e w1 ⟨rfl, hb⟩; (try replace hS := hS.below hb hS.lt); (try replace hQ := hQ.below hb hQ.lt); (try replace hXA := hXA.below hb hXA.lt); (try replace hXB := hXB.below hb hXB.lt); replace hB := hB.trans (hb.mono hB.size); (try clear qhS); (try clear qhQ); (try clear qhXA); (try clear qhXB); clear hb; (try have qhS := fun i => Blk.cell hS i); (try have qhQ := fun i => Blk.cell hQ i); (try have qhXA := fun i => Blk.cell hXA i); (try have qhXB := fun i => Blk.cell hXB i)))
  go_ret
  exact ⟨rfl, hB⟩
set_option maxRecDepth 100000 in
set_option maxHeartbeats 25600000 in
theorem proof_x2 (W H F L X Y nl nh xl xh y f1 n1 x1 y1 f2 n2 x2 y2 : Int) (A : Option Addr) (n cap : Nat) (fs : List Fig) (CA : Option Addr) (kn kcap : Nat) (cs : List Int) (OA : Option Addr) (on ocap : Nat) (os : List Int) (m : Int) (w : World) (hm : w.cell? ⟨0, 0, none⟩ = some (.int .i64 m)) (hcap : n ≤ cap) (hcm : cap ≤ maxLen) (hf : ∀ f ∈ fs, f.ok w w.heap.size) (hr : Rd w w.heap.size 1 A n (fs.map Fig.val)) (hkn : kn ≤ kcap) (hkcm : kcap ≤ maxLen) (hC0 : Rd w w.heap.size 1 CA kn (cs.map (Value.int .i64))) (hon : on ≤ ocap) (hocm : ocap ≤ maxLen) (hO0 : Rd w w.heap.size 1 OA on (os.map (Value.int .i64))) (hfw : fewB fs = true) (hle : (10 : Int) < kn) :
    Calls Tryz.prog 17 #[.agg #[.int .i64 W, .int .i64 H, .int .i64 F, .int .i64 L, .int .i64 X, .int .i64 Y], .slice A n cap, .agg #[.int .i64 nl, .int .i64 nh, .int .i64 xl, .int .i64 xh, .int .i64 y], .slice CA kn kcap, .slice OA on ocap, .agg #[.int .i64 f1, .int .i64 n1, .int .i64 x1, .int .i64 y1], .agg #[.int .i64 f2, .int .i64 n2, .int .i64 x2, .int .i64 y2]] w fun e w' => e = .returned (.bool true) ∧ Below w.heap.size w w' := by
  have hn : n ≤ maxLen := Nat.le_trans hcap hcm
  go_enter Tryz.func17, Tryz.ntmps17
  go_upto_region 1 with (fail)
  have hS := blk4_0 w (.cells #[.int .i64 nl, .int .i64 nh, .int .i64 xl, .int .i64 xh, .int .i64 y] 71) (.cells #[.int .i64 f1, .int .i64 n1, .int .i64 x1, .int .i64 y1] 86) (.cells #[.int .i64 f2, .int .i64 n2, .int .i64 x2, .int .i64 y2] 86) 23 #[.int .i64 W, .int .i64 H, .int .i64 F, .int .i64 L, .int .i64 X, .int .i64 Y]
  have hQ := blk4_1 w (.cells #[.int .i64 W, .int .i64 H, .int .i64 F, .int .i64 L, .int .i64 X, .int .i64 Y] 23) (.cells #[.int .i64 f1, .int .i64 n1, .int .i64 x1, .int .i64 y1] 86) (.cells #[.int .i64 f2, .int .i64 n2, .int .i64 x2, .int .i64 y2] 86) 71 #[.int .i64 nl, .int .i64 nh, .int .i64 xl, .int .i64 xh, .int .i64 y]
  have hXA := blk4_2 w (.cells #[.int .i64 W, .int .i64 H, .int .i64 F, .int .i64 L, .int .i64 X, .int .i64 Y] 23) (.cells #[.int .i64 nl, .int .i64 nh, .int .i64 xl, .int .i64 xh, .int .i64 y] 71) (.cells #[.int .i64 f2, .int .i64 n2, .int .i64 x2, .int .i64 y2] 86) 86 #[.int .i64 f1, .int .i64 n1, .int .i64 x1, .int .i64 y1]
  have hXB := blk4_3 w (.cells #[.int .i64 W, .int .i64 H, .int .i64 F, .int .i64 L, .int .i64 X, .int .i64 Y] 23) (.cells #[.int .i64 nl, .int .i64 nh, .int .i64 xl, .int .i64 xh, .int .i64 y] 71) (.cells #[.int .i64 f1, .int .i64 n1, .int .i64 x1, .int .i64 y1] 86) 86 #[.int .i64 f2, .int .i64 n2, .int .i64 x2, .int .i64 y2]
  have hB := pro_4 w (.cells #[.int .i64 W, .int .i64 H, .int .i64 F, .int .i64 L, .int .i64 X, .int .i64 Y] 23) (.cells #[.int .i64 nl, .int .i64 nh, .int .i64 xl, .int .i64 xh, .int .i64 y] 71) (.cells #[.int .i64 f1, .int .i64 n1, .int .i64 x1, .int .i64 y1] 86) (.cells #[.int .i64 f2, .int .i64 n2, .int .i64 x2, .int .i64 y2] 86)
  generalize (((w.alloc (.cells #[.int .i64 W, .int .i64 H, .int .i64 F, .int .i64 L, .int .i64 X, .int .i64 Y] 23)).alloc (.cells #[.int .i64 nl, .int .i64 nh, .int .i64 xl, .int .i64 xh, .int .i64 y] 71)).alloc (.cells #[.int .i64 f1, .int .i64 n1, .int .i64 x1, .int .i64 y1] 86)).alloc (.cells #[.int .i64 f2, .int .i64 n2, .int .i64 x2, .int .i64 y2] 86) = W0 at *
  have qhS := fun i => Blk.cell hS i
  have qhQ := fun i => Blk.cell hQ i
  have qhXA := fun i => Blk.cell hXA i
  have qhXB := fun i => Blk.cell hXB i
  have k39 : ∀ p : Blw W0.heap.size W0, Calls Tryz.prog 39 #[.slice A n cap] p.to fun e w' => e = .returned (.bool true) ∧ p.to = w' := fun p => by have h := few_any A n cap fs p.to hn (fun f h => ((hf f h).below (hB.trans (p.h.mono hB.size))).more (Nat.le_trans hB.size p.h.size)) (rdB hr (hB.trans (p.h.mono hB.size))); rw [hfw] at h; exact h
  have hbS := fun p i => blw_blk hS p i
  have hbQ := fun p i => blw_blk hQ p i
  have hbXA := fun p i => blw_blk hXA p i
  have hbXB := fun p i => blw_blk hXB p i
  refine wp_region_blw (by kernel_rfl) (by kernel_rfl) ?_
  repeat (go_big_quiet_step (first | (go_at_call 39; exact Calls.blw_of_same _ (k39 _))))
  refine wpQuiet_nil ?_
  rintro W3 ⟨⟨_, hb⟩, rfl⟩
  clear qhS qhQ qhXA qhXB hbS hbQ hbXA hbXB k39
  replace hS := hS.below hb hS.lt; replace hQ := hQ.below hb hQ.lt; replace hXA := hXA.below hb hXA.lt; replace hXB := hXB.below hb hXB.lt; replace hB := hB.trans (hb.mono hB.size); clear hb; have qhS := fun i => Blk.cell hS i; have qhQ := fun i => Blk.cell hQ i; have qhXA := fun i => Blk.cell hXA i; have qhXB := fun i => Blk.cell hXB i
  go_wp2_with ((go_at_call 24; refine (known_true m _ (known_at hm hB)).mono ?_; rintro e w1 ⟨rfl, hb⟩; (try replace hS := hS.below hb hS.lt); (try replace hQ := hQ.below hb hQ.lt); (try replace hXA := hXA.below hb hXA.lt); (try replace hXB := hXB.below hb hXB.lt); replace hB := hB.trans (hb.mono hB.size); (try clear qhS); (try clear qhQ); (try clear qhXA); (try clear qhXB); clear hb; (try have qhS := fun i => Blk.cell hS i); (try have qhQ := fun i => Blk.cell hQ i); (try have qhXA := fun i => Blk.cell hXA i); (try have qhXB := fun i => Blk.cell hXB i)))
  go_ret
  exact ⟨rfl, hB⟩
set_option maxRecDepth 100000 in
set_option maxHeartbeats 25600000 in
theorem proof_x3 (W H F L X Y nl nh xl xh y f1 n1 x1 y1 f2 n2 x2 y2 : Int) (A : Option Addr) (n cap : Nat) (fs : List Fig) (CA : Option Addr) (kn kcap : Nat) (cs : List Int) (OA : Option Addr) (on ocap : Nat) (os : List Int) (m : Int) (w : World) (hm : w.cell? ⟨0, 0, none⟩ = some (.int .i64 m)) (hcap : n ≤ cap) (hcm : cap ≤ maxLen) (hf : ∀ f ∈ fs, f.ok w w.heap.size) (hr : Rd w w.heap.size 1 A n (fs.map Fig.val)) (hkn : kn ≤ kcap) (hkcm : kcap ≤ maxLen) (hC0 : Rd w w.heap.size 1 CA kn (cs.map (Value.int .i64))) (hon : on ≤ ocap) (hocm : ocap ≤ maxLen) (hO0 : Rd w w.heap.size 1 OA on (os.map (Value.int .i64))) (hfw : fewB fs = true) (hle : kn ≤ 10) (hol : (10 : Int) < on) :
    Calls Tryz.prog 17 #[.agg #[.int .i64 W, .int .i64 H, .int .i64 F, .int .i64 L, .int .i64 X, .int .i64 Y], .slice A n cap, .agg #[.int .i64 nl, .int .i64 nh, .int .i64 xl, .int .i64 xh, .int .i64 y], .slice CA kn kcap, .slice OA on ocap, .agg #[.int .i64 f1, .int .i64 n1, .int .i64 x1, .int .i64 y1], .agg #[.int .i64 f2, .int .i64 n2, .int .i64 x2, .int .i64 y2]] w fun e w' => e = .returned (.bool true) ∧ Below w.heap.size w w' := by
  have hn : n ≤ maxLen := Nat.le_trans hcap hcm
  have hle0 : ¬ (10 : Int) < kn := by omega
  go_enter Tryz.func17, Tryz.ntmps17
  go_upto_region 1 with (fail)
  have hS := blk4_0 w (.cells #[.int .i64 nl, .int .i64 nh, .int .i64 xl, .int .i64 xh, .int .i64 y] 71) (.cells #[.int .i64 f1, .int .i64 n1, .int .i64 x1, .int .i64 y1] 86) (.cells #[.int .i64 f2, .int .i64 n2, .int .i64 x2, .int .i64 y2] 86) 23 #[.int .i64 W, .int .i64 H, .int .i64 F, .int .i64 L, .int .i64 X, .int .i64 Y]
  have hQ := blk4_1 w (.cells #[.int .i64 W, .int .i64 H, .int .i64 F, .int .i64 L, .int .i64 X, .int .i64 Y] 23) (.cells #[.int .i64 f1, .int .i64 n1, .int .i64 x1, .int .i64 y1] 86) (.cells #[.int .i64 f2, .int .i64 n2, .int .i64 x2, .int .i64 y2] 86) 71 #[.int .i64 nl, .int .i64 nh, .int .i64 xl, .int .i64 xh, .int .i64 y]
  have hXA := blk4_2 w (.cells #[.int .i64 W, .int .i64 H, .int .i64 F, .int .i64 L, .int .i64 X, .int .i64 Y] 23) (.cells #[.int .i64 nl, .int .i64 nh, .int .i64 xl, .int .i64 xh, .int .i64 y] 71) (.cells #[.int .i64 f2, .int .i64 n2, .int .i64 x2, .int .i64 y2] 86) 86 #[.int .i64 f1, .int .i64 n1, .int .i64 x1, .int .i64 y1]
  have hXB := blk4_3 w (.cells #[.int .i64 W, .int .i64 H, .int .i64 F, .int .i64 L, .int .i64 X, .int .i64 Y] 23) (.cells #[.int .i64 nl, .int .i64 nh, .int .i64 xl, .int .i64 xh, .int .i64 y] 71) (.cells #[.int .i64 f1, .int .i64 n1, .int .i64 x1, .int .i64 y1] 86) 86 #[.int .i64 f2, .int .i64 n2, .int .i64 x2, .int .i64 y2]
  have hB := pro_4 w (.cells #[.int .i64 W, .int .i64 H, .int .i64 F, .int .i64 L, .int .i64 X, .int .i64 Y] 23) (.cells #[.int .i64 nl, .int .i64 nh, .int .i64 xl, .int .i64 xh, .int .i64 y] 71) (.cells #[.int .i64 f1, .int .i64 n1, .int .i64 x1, .int .i64 y1] 86) (.cells #[.int .i64 f2, .int .i64 n2, .int .i64 x2, .int .i64 y2] 86)
  generalize (((w.alloc (.cells #[.int .i64 W, .int .i64 H, .int .i64 F, .int .i64 L, .int .i64 X, .int .i64 Y] 23)).alloc (.cells #[.int .i64 nl, .int .i64 nh, .int .i64 xl, .int .i64 xh, .int .i64 y] 71)).alloc (.cells #[.int .i64 f1, .int .i64 n1, .int .i64 x1, .int .i64 y1] 86)).alloc (.cells #[.int .i64 f2, .int .i64 n2, .int .i64 x2, .int .i64 y2] 86) = W0 at *
  have qhS := fun i => Blk.cell hS i
  have qhQ := fun i => Blk.cell hQ i
  have qhXA := fun i => Blk.cell hXA i
  have qhXB := fun i => Blk.cell hXB i
  have k39 : ∀ p : Blw W0.heap.size W0, Calls Tryz.prog 39 #[.slice A n cap] p.to fun e w' => e = .returned (.bool true) ∧ p.to = w' := fun p => by have h := few_any A n cap fs p.to hn (fun f h => ((hf f h).below (hB.trans (p.h.mono hB.size))).more (Nat.le_trans hB.size p.h.size)) (rdB hr (hB.trans (p.h.mono hB.size))); rw [hfw] at h; exact h
  have hbS := fun p i => blw_blk hS p i
  have hbQ := fun p i => blw_blk hQ p i
  have hbXA := fun p i => blw_blk hXA p i
  have hbXB := fun p i => blw_blk hXB p i
  refine wp_region_blw (by kernel_rfl) (by kernel_rfl) ?_
  repeat (go_big_quiet_step (first | (go_at_call 39; exact Calls.blw_of_same _ (k39 _))))
  refine wpQuiet_nil ?_
  rintro W3 ⟨⟨_, hb⟩, rfl⟩
  clear qhS qhQ qhXA qhXB hbS hbQ hbXA hbXB k39
  replace hS := hS.below hb hS.lt; replace hQ := hQ.below hb hQ.lt; replace hXA := hXA.below hb hXA.lt; replace hXB := hXB.below hb hXB.lt; replace hB := hB.trans (hb.mono hB.size); clear hb; have qhS := fun i => Blk.cell hS i; have qhQ := fun i => Blk.cell hQ i; have qhXA := fun i => Blk.cell hXA i; have qhXB := fun i => Blk.cell hXB i
  go_wp2_with ((go_at_call 24; refine (known_true m _ (known_at hm hB)).mono ?_; rintro e w1 ⟨rfl, hb⟩; (try replace hS := hS.below hb hS.lt); (try replace hQ := hQ.below hb hQ.lt); (try replace hXA := hXA.below hb hXA.lt); (try replace hXB := hXB.below hb hXB.lt); replace hB := hB.trans (hb.mono hB.size); (try clear qhS); (try clear qhQ); (try clear qhXA); (try clear qhXB); clear hb; (try have qhS := fun i => Blk.cell hS i); (try have qhQ := fun i => Blk.cell hQ i); (try have qhXA := fun i => Blk.cell hXA i); (try have qhXB := fun i => Blk.cell hXB i)))
  go_ret
  exact ⟨rfl, hB⟩
set_option maxRecDepth 100000 in
set_option maxHeartbeats 25600000 in
theorem proof_x4 (W H F L X Y nl nh xl xh y f1 n1 x1 y1 f2 n2 x2 y2 : Int) (A : Option Addr) (n cap : Nat) (fs : List Fig) (CA : Option Addr) (kn kcap : Nat) (cs : List Int) (OA : Option Addr) (on ocap : Nat) (os : List Int) (m : Int) (w : World) (hm : w.cell? ⟨0, 0, none⟩ = some (.int .i64 m)) (hcap : n ≤ cap) (hcm : cap ≤ maxLen) (hf : ∀ f ∈ fs, f.ok w w.heap.size) (hr : Rd w w.heap.size 1 A n (fs.map Fig.val)) (hkn : kn ≤ kcap) (hkcm : kcap ≤ maxLen) (hC0 : Rd w w.heap.size 1 CA kn (cs.map (Value.int .i64))) (hon : on ≤ ocap) (hocm : ocap ≤ maxLen) (hO0 : Rd w w.heap.size 1 OA on (os.map (Value.int .i64))) (hfw : fewB fs = true) (hle : kn ≤ 10) (hol : on ≤ 10) (hst : stageB W H F L X Y = false) (hak : askV (askB W H F L X Y nl nh xl xh y fs && false) = 2) :
    Calls Tryz.prog 17 #[.agg #[.int .i64 W, .int .i64 H, .int .i64 F, .int .i64 L, .int .i64 X, .int .i64 Y], .slice A n cap, .agg #[.int .i64 nl, .int .i64 nh, .int .i64 xl, .int .i64 xh, .int .i64 y], .slice CA kn kcap, .slice OA on ocap, .agg #[.int .i64 f1, .int .i64 n1, .int .i64 x1, .int .i64 y1], .agg #[.int .i64 f2, .int .i64 n2, .int .i64 x2, .int .i64 y2]] w fun e w' => e = .returned (.bool true) ∧ Below w.heap.size w w' := by
  have hn : n ≤ maxLen := Nat.le_trans hcap hcm
  have hle0 : ¬ (10 : Int) < kn := by omega
  have hol0 : ¬ (10 : Int) < on := by omega
  go_enter Tryz.func17, Tryz.ntmps17
  go_upto_region 1 with (fail)
  have hS := blk4_0 w (.cells #[.int .i64 nl, .int .i64 nh, .int .i64 xl, .int .i64 xh, .int .i64 y] 71) (.cells #[.int .i64 f1, .int .i64 n1, .int .i64 x1, .int .i64 y1] 86) (.cells #[.int .i64 f2, .int .i64 n2, .int .i64 x2, .int .i64 y2] 86) 23 #[.int .i64 W, .int .i64 H, .int .i64 F, .int .i64 L, .int .i64 X, .int .i64 Y]
  have hQ := blk4_1 w (.cells #[.int .i64 W, .int .i64 H, .int .i64 F, .int .i64 L, .int .i64 X, .int .i64 Y] 23) (.cells #[.int .i64 f1, .int .i64 n1, .int .i64 x1, .int .i64 y1] 86) (.cells #[.int .i64 f2, .int .i64 n2, .int .i64 x2, .int .i64 y2] 86) 71 #[.int .i64 nl, .int .i64 nh, .int .i64 xl, .int .i64 xh, .int .i64 y]
  have hXA := blk4_2 w (.cells #[.int .i64 W, .int .i64 H, .int .i64 F, .int .i64 L, .int .i64 X, .int .i64 Y] 23) (.cells #[.int .i64 nl, .int .i64 nh, .int .i64 xl, .int .i64 xh, .int .i64 y] 71) (.cells #[.int .i64 f2, .int .i64 n2, .int .i64 x2, .int .i64 y2] 86) 86 #[.int .i64 f1, .int .i64 n1, .int .i64 x1, .int .i64 y1]
  have hXB := blk4_3 w (.cells #[.int .i64 W, .int .i64 H, .int .i64 F, .int .i64 L, .int .i64 X, .int .i64 Y] 23) (.cells #[.int .i64 nl, .int .i64 nh, .int .i64 xl, .int .i64 xh, .int .i64 y] 71) (.cells #[.int .i64 f1, .int .i64 n1, .int .i64 x1, .int .i64 y1] 86) 86 #[.int .i64 f2, .int .i64 n2, .int .i64 x2, .int .i64 y2]
  have hB := pro_4 w (.cells #[.int .i64 W, .int .i64 H, .int .i64 F, .int .i64 L, .int .i64 X, .int .i64 Y] 23) (.cells #[.int .i64 nl, .int .i64 nh, .int .i64 xl, .int .i64 xh, .int .i64 y] 71) (.cells #[.int .i64 f1, .int .i64 n1, .int .i64 x1, .int .i64 y1] 86) (.cells #[.int .i64 f2, .int .i64 n2, .int .i64 x2, .int .i64 y2] 86)
  generalize (((w.alloc (.cells #[.int .i64 W, .int .i64 H, .int .i64 F, .int .i64 L, .int .i64 X, .int .i64 Y] 23)).alloc (.cells #[.int .i64 nl, .int .i64 nh, .int .i64 xl, .int .i64 xh, .int .i64 y] 71)).alloc (.cells #[.int .i64 f1, .int .i64 n1, .int .i64 x1, .int .i64 y1] 86)).alloc (.cells #[.int .i64 f2, .int .i64 n2, .int .i64 x2, .int .i64 y2] 86) = W0 at *
  have qhS := fun i => Blk.cell hS i
  have qhQ := fun i => Blk.cell hQ i
  have qhXA := fun i => Blk.cell hXA i
  have qhXB := fun i => Blk.cell hXB i
  have k39 : ∀ p : Blw W0.heap.size W0, Calls Tryz.prog 39 #[.slice A n cap] p.to fun e w' => e = .returned (.bool true) ∧ p.to = w' := fun p => by have h := few_any A n cap fs p.to hn (fun f h => ((hf f h).below (hB.trans (p.h.mono hB.size))).more (Nat.le_trans hB.size p.h.size)) (rdB hr (hB.trans (p.h.mono hB.size))); rw [hfw] at h; exact h
  have k27 : ∀ p : Blw W0.heap.size W0, Calls Tryz.prog 27 #[.agg #[.int .i64 W, .int .i64 H, .int .i64 F, .int .i64 L, .int .i64 X, .int .i64 Y]] p.to fun e w' => e = .returned (.bool false) ∧ Below p.to.heap.size p.to w' := fun p => by have h := Stage_any W H F L X Y p.to; rw [hst] at h; exact h
  have k54 : ∀ p : Blw W0.heap.size W0, Calls Tryz.prog 54 #[.agg #[.int .i64 W, .int .i64 H, .int .i64 F, .int .i64 L, .int .i64 X, .int .i64 Y], .slice A n cap, .agg #[.int .i64 nl, .int .i64 nh, .int .i64 xl, .int .i64 xh, .int .i64 y], .bool false] p.to fun e w' => e = .returned (.int .i64 2) ∧ Below p.to.heap.size p.to w' := fun p => by have h := asked_any W H F L X Y nl nh xl xh y A n cap fs false p.to hn (fun f h => ((hf f h).below (hB.trans (p.h.mono hB.size))).more (Nat.le_trans hB.size p.h.size)) (rdB hr (hB.trans (p.h.mono hB.size))); rw [hak] at h; exact h
  have hbS := fun p i => blw_blk hS p i
  have hbQ := fun p i => blw_blk hQ p i
  have hbXA := fun p i => blw_blk hXA p i
  have hbXB := fun p i => blw_blk hXB p i
  refine wp_region_blw (by kernel_rfl) (by kernel_rfl) ?_
  repeat (go_big_quiet_step (first | (go_at_call 39; exact Calls.blw_of_same _ (k39 _)) | (go_at_call 27; exact Calls.blw_of _ (k27 _)) | (go_at_call 54; exact Calls.blw_of _ (k54 _))))
  refine wpQuiet_nil ?_
  rintro W3 ⟨⟨_, hb⟩, rfl⟩
  clear qhS qhQ qhXA qhXB hbS hbQ hbXA hbXB k39 k27 k54
  replace hS := hS.below hb hS.lt; replace hQ := hQ.below hb hQ.lt; replace hXA := hXA.below hb hXA.lt; replace hXB := hXB.below hb hXB.lt; replace hB := hB.trans (hb.mono hB.size); clear hb; have qhS := fun i => Blk.cell hS i; have qhQ := fun i => Blk.cell hQ i; have qhXA := fun i => Blk.cell hXA i; have qhXB := fun i => Blk.cell hXB i
  go_wp2_with ((go_at_call 24; refine (known_true m _ (known_at hm hB)).mono ?_; rintro e w1 ⟨rfl, hb⟩; (try replace hS := hS.below hb hS.lt); (try replace hQ := hQ.below hb hQ.lt); (try replace hXA := hXA.below hb hXA.lt); (try replace hXB := hXB.below hb hXB.lt); replace hB := hB.trans (hb.mono hB.size); (try clear qhS); (try clear qhQ); (try clear qhXA); (try clear qhXB); clear hb; (try have qhS := fun i => Blk.cell hS i); (try have qhQ := fun i => Blk.cell hQ i); (try have qhXA := fun i => Blk.cell hXA i); (try have qhXB := fun i => Blk.cell hXB i)))
  go_ret
  exact ⟨rfl, hB⟩
set_option maxRecDepth 100000 in
set_option maxHeartbeats 25600000 in
theorem proof_x5 (W H F L X Y nl nh xl xh y f1 n1 x1 y1 f2 n2 x2 y2 : Int) (A : Option Addr) (n cap : Nat) (fs : List Fig) (CA : Option Addr) (kn kcap : Nat) (cs : List Int) (OA : Option Addr) (on ocap : Nat) (os : List Int) (m : Int) (w : World) (hm : w.cell? ⟨0, 0, none⟩ = some (.int .i64 m)) (hcap : n ≤ cap) (hcm : cap ≤ maxLen) (hf : ∀ f ∈ fs, f.ok w w.heap.size) (hr : Rd w w.heap.size 1 A n (fs.map Fig.val)) (hkn : kn ≤ kcap) (hkcm : kcap ≤ maxLen) (hC0 : Rd w w.heap.size 1 CA kn (cs.map (Value.int .i64))) (hon : on ≤ ocap) (hocm : ocap ≤ maxLen) (hO0 : Rd w w.heap.size 1 OA on (os.map (Value.int .i64))) (hdm : (1 ≤ W ∧ W ≤ 100) ∧ (1 ≤ H ∧ H ≤ 100)) (hfw : fewB fs = true) (hle : kn ≤ 10) (hol : on ≤ 10) (hst : stageB W H F L X Y = true) (hcel : cellsB W H cs = false) (hak : askV (askB W H F L X Y nl nh xl xh y fs && false) = 2) :
    Calls Tryz.prog 17 #[.agg #[.int .i64 W, .int .i64 H, .int .i64 F, .int .i64 L, .int .i64 X, .int .i64 Y], .slice A n cap, .agg #[.int .i64 nl, .int .i64 nh, .int .i64 xl, .int .i64 xh, .int .i64 y], .slice CA kn kcap, .slice OA on ocap, .agg #[.int .i64 f1, .int .i64 n1, .int .i64 x1, .int .i64 y1], .agg #[.int .i64 f2, .int .i64 n2, .int .i64 x2, .int .i64 y2]] w fun e w' => e = .returned (.bool true) ∧ Below w.heap.size w w' := by
  have hn : n ≤ maxLen := Nat.le_trans hcap hcm
  obtain ⟨⟨d1, d2⟩, d3, d4⟩ := hdm
  have hle0 : ¬ (10 : Int) < kn := by omega
  have hol0 : ¬ (10 : Int) < on := by omega
  go_enter Tryz.func17, Tryz.ntmps17
  go_upto_region 1 with (fail)
  have hS := blk4_0 w (.cells #[.int .i64 nl, .int .i64 nh, .int .i64 xl, .int .i64 xh, .int .i64 y] 71) (.cells #[.int .i64 f1, .int .i64 n1, .int .i64 x1, .int .i64 y1] 86) (.cells #[.int .i64 f2, .int .i64 n2, .int .i64 x2, .int .i64 y2] 86) 23 #[.int .i64 W, .int .i64 H, .int .i64 F, .int .i64 L, .int .i64 X, .int .i64 Y]
  have hQ := blk4_1 w (.cells #[.int .i64 W, .int .i64 H, .int .i64 F, .int .i64 L, .int .i64 X, .int .i64 Y] 23) (.cells #[.int .i64 f1, .int .i64 n1, .int .i64 x1, .int .i64 y1] 86) (.cells #[.int .i64 f2, .int .i64 n2, .int .i64 x2, .int .i64 y2] 86) 71 #[.int .i64 nl, .int .i64 nh, .int .i64 xl, .int .i64 xh, .int .i64 y]
  have hXA := blk4_2 w (.cells #[.int .i64 W, .int .i64 H, .int .i64 F, .int .i64 L, .int .i64 X, .int .i64 Y] 23) (.cells #[.int .i64 nl, .int .i64 nh, .int .i64 xl, .int .i64 xh, .int .i64 y] 71) (.cells #[.int .i64 f2, .int .i64 n2, .int .i64 x2, .int .i64 y2] 86) 86 #[.int .i64 f1, .int .i64 n1, .int .i64 x1, .int .i64 y1]
  have hXB := blk4_3 w (.cells #[.int .i64 W, .int .i64 H, .int .i64 F, .int .i64 L, .int .i64 X, .int .i64 Y] 23) (.cells #[.int .i64 nl, .int .i64 nh, .int .i64 xl, .int .i64 xh, .int .i64 y] 71) (.cells #[.int .i64 f1, .int .i64 n1, .int .i64 x1, .int .i64 y1] 86) 86 #[.int .i64 f2, .int .i64 n2, .int .i64 x2, .int .i64 y2]
  have hB := pro_4 w (.cells #[.int .i64 W, .int .i64 H, .int .i64 F, .int .i64 L, .int .i64 X, .int .i64 Y] 23) (.cells #[.int .i64 nl, .int .i64 nh, .int .i64 xl, .int .i64 xh, .int .i64 y] 71) (.cells #[.int .i64 f1, .int .i64 n1, .int .i64 x1, .int .i64 y1] 86) (.cells #[.int .i64 f2, .int .i64 n2, .int .i64 x2, .int .i64 y2] 86)
  generalize (((w.alloc (.cells #[.int .i64 W, .int .i64 H, .int .i64 F, .int .i64 L, .int .i64 X, .int .i64 Y] 23)).alloc (.cells #[.int .i64 nl, .int .i64 nh, .int .i64 xl, .int .i64 xh, .int .i64 y] 71)).alloc (.cells #[.int .i64 f1, .int .i64 n1, .int .i64 x1, .int .i64 y1] 86)).alloc (.cells #[.int .i64 f2, .int .i64 n2, .int .i64 x2, .int .i64 y2] 86) = W0 at *
  have qhS := fun i => Blk.cell hS i
  have qhQ := fun i => Blk.cell hQ i
  have qhXA := fun i => Blk.cell hXA i
  have qhXB := fun i => Blk.cell hXB i
  have k39 : ∀ p : Blw W0.heap.size W0, Calls Tryz.prog 39 #[.slice A n cap] p.to fun e w' => e = .returned (.bool true) ∧ p.to = w' := fun p => by have h := few_any A n cap fs p.to hn (fun f h => ((hf f h).below (hB.trans (p.h.mono hB.size))).more (Nat.le_trans hB.size p.h.size)) (rdB hr (hB.trans (p.h.mono hB.size))); rw [hfw] at h; exact h
  have k27 : ∀ p : Blw W0.heap.size W0, Calls Tryz.prog 27 #[.agg #[.int .i64 W, .int .i64 H, .int .i64 F, .int .i64 L, .int .i64 X, .int .i64 Y]] p.to fun e w' => e = .returned (.bool true) ∧ Below p.to.heap.size p.to w' := fun p => by have h := Stage_any W H F L X Y p.to; rw [hst] at h; exact h
  have k76 : ∀ p : Blw W0.heap.size W0, Calls Tryz.prog 76 #[.agg #[.int .i64 W, .int .i64 H, .int .i64 F, .int .i64 L, .int .i64 X, .int .i64 Y], .slice CA kn kcap] p.to fun e w' => e = .returned (.bool false) ∧ Below p.to.heap.size p.to w' := fun p => by have h := refCells_any W H F L X Y CA kn kcap cs p.to (by omega) (rdB hC0 (hB.trans (p.h.mono hB.size))) (by omega) (by omega) (by omega) (by omega); rw [hcel] at h; exact h
  have k54 : ∀ p : Blw W0.heap.size W0, Calls Tryz.prog 54 #[.agg #[.int .i64 W, .int .i64 H, .int .i64 F, .int .i64 L, .int .i64 X, .int .i64 Y], .slice A n cap, .agg #[.int .i64 nl, .int .i64 nh, .int .i64 xl, .int .i64 xh, .int .i64 y], .bool false] p.to fun e w' => e = .returned (.int .i64 2) ∧ Below p.to.heap.size p.to w' := fun p => by have h := asked_any W H F L X Y nl nh xl xh y A n cap fs false p.to hn (fun f h => ((hf f h).below (hB.trans (p.h.mono hB.size))).more (Nat.le_trans hB.size p.h.size)) (rdB hr (hB.trans (p.h.mono hB.size))); rw [hak] at h; exact h
  have hbS := fun p i => blw_blk hS p i
  have hbQ := fun p i => blw_blk hQ p i
  have hbXA := fun p i => blw_blk hXA p i
  have hbXB := fun p i => blw_blk hXB p i
  refine wp_region_blw (by kernel_rfl) (by kernel_rfl) ?_
  repeat (go_big_quiet_step (first | (go_at_call 39; exact Calls.blw_of_same _ (k39 _)) | (go_at_call 27; exact Calls.blw_of _ (k27 _)) | (go_at_call_of 76 (Value.slice CA kn kcap); exact Calls.blw_of _ (k76 _)) | (go_at_call 54; exact Calls.blw_of _ (k54 _))))
  refine wpQuiet_nil ?_
  rintro W3 ⟨⟨_, hb⟩, rfl⟩
  clear qhS qhQ qhXA qhXB hbS hbQ hbXA hbXB k39 k27 k76 k54
  replace hS := hS.below hb hS.lt; replace hQ := hQ.below hb hQ.lt; replace hXA := hXA.below hb hXA.lt; replace hXB := hXB.below hb hXB.lt; replace hB := hB.trans (hb.mono hB.size); clear hb; have qhS := fun i => Blk.cell hS i; have qhQ := fun i => Blk.cell hQ i; have qhXA := fun i => Blk.cell hXA i; have qhXB := fun i => Blk.cell hXB i
  go_wp2_with ((go_at_call 24; refine (known_true m _ (known_at hm hB)).mono ?_; rintro e w1 ⟨rfl, hb⟩; (try replace hS := hS.below hb hS.lt); (try replace hQ := hQ.below hb hQ.lt); (try replace hXA := hXA.below hb hXA.lt); (try replace hXB := hXB.below hb hXB.lt); replace hB := hB.trans (hb.mono hB.size); (try clear qhS); (try clear qhQ); (try clear qhXA); (try clear qhXB); clear hb; (try have qhS := fun i => Blk.cell hS i); (try have qhQ := fun i => Blk.cell hQ i); (try have qhXA := fun i => Blk.cell hXA i); (try have qhXB := fun i => Blk.cell hXB i)))
  go_ret
  exact ⟨rfl, hB⟩
set_option maxRecDepth 100000 in
set_option maxHeartbeats 25600000 in
theorem proof_x6 (W H F L X Y nl nh xl xh y f1 n1 x1 y1 f2 n2 x2 y2 : Int) (A : Option Addr) (n cap : Nat) (fs : List Fig) (CA : Option Addr) (kn kcap : Nat) (cs : List Int) (OA : Option Addr) (on ocap : Nat) (os : List Int) (m : Int) (w : World) (hm : w.cell? ⟨0, 0, none⟩ = some (.int .i64 m)) (hcap : n ≤ cap) (hcm : cap ≤ maxLen) (hf : ∀ f ∈ fs, f.ok w w.heap.size) (hr : Rd w w.heap.size 1 A n (fs.map Fig.val)) (hkn : kn ≤ kcap) (hkcm : kcap ≤ maxLen) (hC0 : Rd w w.heap.size 1 CA kn (cs.map (Value.int .i64))) (hon : on ≤ ocap) (hocm : ocap ≤ maxLen) (hO0 : Rd w w.heap.size 1 OA on (os.map (Value.int .i64))) (hdm : (1 ≤ W ∧ W ≤ 100) ∧ (1 ≤ H ∧ H ≤ 100)) (hfw : fewB fs = true) (hle : kn ≤ 10) (hol : on ≤ 10) (hst : stageB W H F L X Y = true) (hcel : cellsB W H cs = true) (hak : askV (askB W H F L X Y nl nh xl xh y fs && true) = 2) :
    Calls Tryz.prog 17 #[.agg #[.int .i64 W, .int .i64 H, .int .i64 F, .int .i64 L, .int .i64 X, .int .i64 Y], .slice A n cap, .agg #[.int .i64 nl, .int .i64 nh, .int .i64 xl, .int .i64 xh, .int .i64 y], .slice CA kn kcap, .slice OA on ocap, .agg #[.int .i64 f1, .int .i64 n1, .int .i64 x1, .int .i64 y1], .agg #[.int .i64 f2, .int .i64 n2, .int .i64 x2, .int .i64 y2]] w fun e w' => e = .returned (.bool true) ∧ Below w.heap.size w w' := by
  have hn : n ≤ maxLen := Nat.le_trans hcap hcm
  obtain ⟨⟨d1, d2⟩, d3, d4⟩ := hdm
  have hle0 : ¬ (10 : Int) < kn := by omega
  have hol0 : ¬ (10 : Int) < on := by omega
  go_enter Tryz.func17, Tryz.ntmps17
  go_upto_region 1 with (fail)
  have hS := blk4_0 w (.cells #[.int .i64 nl, .int .i64 nh, .int .i64 xl, .int .i64 xh, .int .i64 y] 71) (.cells #[.int .i64 f1, .int .i64 n1, .int .i64 x1, .int .i64 y1] 86) (.cells #[.int .i64 f2, .int .i64 n2, .int .i64 x2, .int .i64 y2] 86) 23 #[.int .i64 W, .int .i64 H, .int .i64 F, .int .i64 L, .int .i64 X, .int .i64 Y]
  have hQ := blk4_1 w (.cells #[.int .i64 W, .int .i64 H, .int .i64 F, .int .i64 L, .int .i64 X, .int .i64 Y] 23) (.cells #[.int .i64 f1, .int .i64 n1, .int .i64 x1, .int .i64 y1] 86) (.cells #[.int .i64 f2, .int .i64 n2, .int .i64 x2, .int .i64 y2] 86) 71 #[.int .i64 nl, .int .i64 nh, .int .i64 xl, .int .i64 xh, .int .i64 y]
  have hXA := blk4_2 w (.cells #[.int .i64 W, .int .i64 H, .int .i64 F, .int .i64 L, .int .i64 X, .int .i64 Y] 23) (.cells #[.int .i64 nl, .int .i64 nh, .int .i64 xl, .int .i64 xh, .int .i64 y] 71) (.cells #[.int .i64 f2, .int .i64 n2, .int .i64 x2, .int .i64 y2] 86) 86 #[.int .i64 f1, .int .i64 n1, .int .i64 x1, .int .i64 y1]
  have hXB := blk4_3 w (.cells #[.int .i64 W, .int .i64 H, .int .i64 F, .int .i64 L, .int .i64 X, .int .i64 Y] 23) (.cells #[.int .i64 nl, .int .i64 nh, .int .i64 xl, .int .i64 xh, .int .i64 y] 71) (.cells #[.int .i64 f1, .int .i64 n1, .int .i64 x1, .int .i64 y1] 86) 86 #[.int .i64 f2, .int .i64 n2, .int .i64 x2, .int .i64 y2]
  have hB := pro_4 w (.cells #[.int .i64 W, .int .i64 H, .int .i64 F, .int .i64 L, .int .i64 X, .int .i64 Y] 23) (.cells #[.int .i64 nl, .int .i64 nh, .int .i64 xl, .int .i64 xh, .int .i64 y] 71) (.cells #[.int .i64 f1, .int .i64 n1, .int .i64 x1, .int .i64 y1] 86) (.cells #[.int .i64 f2, .int .i64 n2, .int .i64 x2, .int .i64 y2] 86)
  generalize (((w.alloc (.cells #[.int .i64 W, .int .i64 H, .int .i64 F, .int .i64 L, .int .i64 X, .int .i64 Y] 23)).alloc (.cells #[.int .i64 nl, .int .i64 nh, .int .i64 xl, .int .i64 xh, .int .i64 y] 71)).alloc (.cells #[.int .i64 f1, .int .i64 n1, .int .i64 x1, .int .i64 y1] 86)).alloc (.cells #[.int .i64 f2, .int .i64 n2, .int .i64 x2, .int .i64 y2] 86) = W0 at *
  have qhS := fun i => Blk.cell hS i
  have qhQ := fun i => Blk.cell hQ i
  have qhXA := fun i => Blk.cell hXA i
  have qhXB := fun i => Blk.cell hXB i
  have k39 : ∀ p : Blw W0.heap.size W0, Calls Tryz.prog 39 #[.slice A n cap] p.to fun e w' => e = .returned (.bool true) ∧ p.to = w' := fun p => by have h := few_any A n cap fs p.to hn (fun f h => ((hf f h).below (hB.trans (p.h.mono hB.size))).more (Nat.le_trans hB.size p.h.size)) (rdB hr (hB.trans (p.h.mono hB.size))); rw [hfw] at h; exact h
  have k27 : ∀ p : Blw W0.heap.size W0, Calls Tryz.prog 27 #[.agg #[.int .i64 W, .int .i64 H, .int .i64 F, .int .i64 L, .int .i64 X, .int .i64 Y]] p.to fun e w' => e = .returned (.bool true) ∧ Below p.to.heap.size p.to w' := fun p => by have h := Stage_any W H F L X Y p.to; rw [hst] at h; exact h
  have k76 : ∀ p : Blw W0.heap.size W0, Calls Tryz.prog 76 #[.agg #[.int .i64 W, .int .i64 H, .int .i64 F, .int .i64 L, .int .i64 X, .int .i64 Y], .slice CA kn kcap] p.to fun e w' => e = .returned (.bool true) ∧ Below p.to.heap.size p.to w' := fun p => by have h := refCells_any W H F L X Y CA kn kcap cs p.to (by omega) (rdB hC0 (hB.trans (p.h.mono hB.size))) (by omega) (by omega) (by omega) (by omega); rw [hcel] at h; exact h
  have k54 : ∀ p : Blw W0.heap.size W0, Calls Tryz.prog 54 #[.agg #[.int .i64 W, .int .i64 H, .int .i64 F, .int .i64 L, .int .i64 X, .int .i64 Y], .slice A n cap, .agg #[.int .i64 nl, .int .i64 nh, .int .i64 xl, .int .i64 xh, .int .i64 y], .bool true] p.to fun e w' => e = .returned (.int .i64 2) ∧ Below p.to.heap.size p.to w' := fun p => by have h := asked_any W H F L X Y nl nh xl xh y A n cap fs true p.to hn (fun f h => ((hf f h).below (hB.trans (p.h.mono hB.size))).more (Nat.le_trans hB.size p.h.size)) (rdB hr (hB.trans (p.h.mono hB.size))); rw [hak] at h; exact h
  have hbS := fun p i => blw_blk hS p i
  have hbQ := fun p i => blw_blk hQ p i
  have hbXA := fun p i => blw_blk hXA p i
  have hbXB := fun p i => blw_blk hXB p i
  refine wp_region_blw (by kernel_rfl) (by kernel_rfl) ?_
  repeat (go_big_quiet_step (first | (go_at_call 39; exact Calls.blw_of_same _ (k39 _)) | (go_at_call 27; exact Calls.blw_of _ (k27 _)) | (go_at_call_of 76 (Value.slice CA kn kcap); exact Calls.blw_of _ (k76 _)) | (go_at_call 54; exact Calls.blw_of _ (k54 _))))
  refine wpQuiet_nil ?_
  rintro W3 ⟨⟨_, hb⟩, rfl⟩
  clear qhS qhQ qhXA qhXB hbS hbQ hbXA hbXB k39 k27 k76 k54
  replace hS := hS.below hb hS.lt; replace hQ := hQ.below hb hQ.lt; replace hXA := hXA.below hb hXA.lt; replace hXB := hXB.below hb hXB.lt; replace hB := hB.trans (hb.mono hB.size); clear hb; have qhS := fun i => Blk.cell hS i; have qhQ := fun i => Blk.cell hQ i; have qhXA := fun i => Blk.cell hXA i; have qhXB := fun i => Blk.cell hXB i
  go_wp2_with ((go_at_call 24; refine (known_true m _ (known_at hm hB)).mono ?_; rintro e w1 ⟨rfl, hb⟩; (try replace hS := hS.below hb hS.lt); (try replace hQ := hQ.below hb hQ.lt); (try replace hXA := hXA.below hb hXA.lt); (try replace hXB := hXB.below hb hXB.lt); replace hB := hB.trans (hb.mono hB.size); (try clear qhS); (try clear qhQ); (try clear qhXA); (try clear qhXB); clear hb; (try have qhS := fun i => Blk.cell hS i); (try have qhQ := fun i => Blk.cell hQ i); (try have qhXA := fun i => Blk.cell hXA i); (try have qhXB := fun i => Blk.cell hXB i)))
  go_ret
  exact ⟨rfl, hB⟩
set_option maxRecDepth 100000 in
set_option maxHeartbeats 25600000 in
theorem proof_x7 (W H F L X Y nl nh xl xh y f1 n1 x1 y1 f2 n2 x2 y2 : Int) (A : Option Addr) (n cap : Nat) (fs : List Fig) (CA : Option Addr) (kn kcap : Nat) (cs : List Int) (OA : Option Addr) (on ocap : Nat) (os : List Int) (m : Int) (w : World) (hm : w.cell? ⟨0, 0, none⟩ = some (.int .i64 m)) (hcap : n ≤ cap) (hcm : cap ≤ maxLen) (hf : ∀ f ∈ fs, f.ok w w.heap.size) (hr : Rd w w.heap.size 1 A n (fs.map Fig.val)) (hkn : kn ≤ kcap) (hkcm : kcap ≤ maxLen) (hC0 : Rd w w.heap.size 1 CA kn (cs.map (Value.int .i64))) (hon : on ≤ ocap) (hocm : ocap ≤ maxLen) (hO0 : Rd w w.heap.size 1 OA on (os.map (Value.int .i64))) (hdm : (1 ≤ W ∧ W ≤ 100) ∧ (1 ≤ H ∧ H ≤ 100)) (hfw : fewB fs = true) (hle : kn ≤ 10) (hol : on ≤ 10) (hst : stageB W H F L X Y = true) (hcel : cellsB W H cs = true) (hak : askV (askB W H F L X Y nl nh xl xh y fs && true) = 0) (hocel : cellsB W H os = false) :
    Calls Tryz.prog 17 #[.agg #[.int .i64 W, .int .i64 H, .int .i64 F, .int .i64 L, .int .i64 X, .int .i64 Y], .slice A n cap, .agg #[.int .i64 nl, .int .i64 nh, .int .i64 xl, .int .i64 xh, .int .i64 y], .slice CA kn kcap, .slice OA on ocap, .agg #[.int .i64 f1, .int .i64 n1, .int .i64 x1, .int .i64 y1], .agg #[.int .i64 f2, .int .i64 n2, .int .i64 x2, .int .i64 y2]] w fun e w' => e = .returned (.bool true) ∧ Below w.heap.size w w' := by
  have hn : n ≤ maxLen := Nat.le_trans hcap hcm
  obtain ⟨⟨d1, d2⟩, d3, d4⟩ := hdm
  have hle0 : ¬ (10 : Int) < kn := by omega
  have hol0 : ¬ (10 : Int) < on := by omega
  go_enter Tryz.func17, Tryz.ntmps17
  go_upto_region 1 with (fail)
  have hS := blk4_0 w (.cells #[.int .i64 nl, .int .i64 nh, .int .i64 xl, .int .i64 xh, .int .i64 y] 71) (.cells #[.int .i64 f1, .int .i64 n1, .int .i64 x1, .int .i64 y1] 86) (.cells #[.int .i64 f2, .int .i64 n2, .int .i64 x2, .int .i64 y2] 86) 23 #[.int .i64 W, .int .i64 H, .int .i64 F, .int .i64 L, .int .i64 X, .int .i64 Y]
  have hQ := blk4_1 w (.cells #[.int .i64 W, .int .i64 H, .int .i64 F, .int .i64 L, .int .i64 X, .int .i64 Y] 23) (.cells #[.int .i64 f1, .int .i64 n1, .int .i64 x1, .int .i64 y1] 86) (.cells #[.int .i64 f2, .int .i64 n2, .int .i64 x2, .int .i64 y2] 86) 71 #[.int .i64 nl, .int .i64 nh, .int .i64 xl, .int .i64 xh, .int .i64 y]
  have hXA := blk4_2 w (.cells #[.int .i64 W, .int .i64 H, .int .i64 F, .int .i64 L, .int .i64 X, .int .i64 Y] 23) (.cells #[.int .i64 nl, .int .i64 nh, .int .i64 xl, .int .i64 xh, .int .i64 y] 71) (.cells #[.int .i64 f2, .int .i64 n2, .int .i64 x2, .int .i64 y2] 86) 86 #[.int .i64 f1, .int .i64 n1, .int .i64 x1, .int .i64 y1]
  have hXB := blk4_3 w (.cells #[.int .i64 W, .int .i64 H, .int .i64 F, .int .i64 L, .int .i64 X, .int .i64 Y] 23) (.cells #[.int .i64 nl, .int .i64 nh, .int .i64 xl, .int .i64 xh, .int .i64 y] 71) (.cells #[.int .i64 f1, .int .i64 n1, .int .i64 x1, .int .i64 y1] 86) 86 #[.int .i64 f2, .int .i64 n2, .int .i64 x2, .int .i64 y2]
  have hB := pro_4 w (.cells #[.int .i64 W, .int .i64 H, .int .i64 F, .int .i64 L, .int .i64 X, .int .i64 Y] 23) (.cells #[.int .i64 nl, .int .i64 nh, .int .i64 xl, .int .i64 xh, .int .i64 y] 71) (.cells #[.int .i64 f1, .int .i64 n1, .int .i64 x1, .int .i64 y1] 86) (.cells #[.int .i64 f2, .int .i64 n2, .int .i64 x2, .int .i64 y2] 86)
  generalize (((w.alloc (.cells #[.int .i64 W, .int .i64 H, .int .i64 F, .int .i64 L, .int .i64 X, .int .i64 Y] 23)).alloc (.cells #[.int .i64 nl, .int .i64 nh, .int .i64 xl, .int .i64 xh, .int .i64 y] 71)).alloc (.cells #[.int .i64 f1, .int .i64 n1, .int .i64 x1, .int .i64 y1] 86)).alloc (.cells #[.int .i64 f2, .int .i64 n2, .int .i64 x2, .int .i64 y2] 86) = W0 at *
  have qhS := fun i => Blk.cell hS i
  have qhQ := fun i => Blk.cell hQ i
  have qhXA := fun i => Blk.cell hXA i
  have qhXB := fun i => Blk.cell hXB i
  have k39 : ∀ p : Blw W0.heap.size W0, Calls Tryz.prog 39 #[.slice A n cap] p.to fun e w' => e = .returned (.bool true) ∧ p.to = w' := fun p => by have h := few_any A n cap fs p.to hn (fun f h => ((hf f h).below (hB.trans (p.h.mono hB.size))).more (Nat.le_trans hB.size p.h.size)) (rdB hr (hB.trans (p.h.mono hB.size))); rw [hfw] at h; exact h
  have k27 : ∀ p : Blw W0.heap.size W0, Calls Tryz.prog 27 #[.agg #[.int .i64 W, .int .i64 H, .int .i64 F, .int .i64 L, .int .i64 X, .int .i64 Y]] p.to fun e w' => e = .returned (.bool true) ∧ Below p.to.heap.size p.to w' := fun p => by have h := Stage_any W H F L X Y p.to; rw [hst] at h; exact h
  have k76 : ∀ p : Blw W0.heap.size W0, Calls Tryz.prog 76 #[.agg #[.int .i64 W, .int .i64 H, .int .i64 F, .int .i64 L, .int .i64 X, .int .i64 Y], .slice CA kn kcap] p.to fun e w' => e = .returned (.bool true) ∧ Below p.to.heap.size p.to w' := fun p => by have h := refCells_any W H F L X Y CA kn kcap cs p.to (by omega) (rdB hC0 (hB.trans (p.h.mono hB.size))) (by omega) (by omega) (by omega) (by omega); rw [hcel] at h; exact h
  have k54 : ∀ p : Blw W0.heap.size W0, Calls Tryz.prog 54 #[.agg #[.int .i64 W, .int .i64 H, .int .i64 F, .int .i64 L, .int .i64 X, .int .i64 Y], .slice A n cap, .agg #[.int .i64 nl, .int .i64 nh, .int .i64 xl, .int .i64 xh, .int .i64 y], .bool true] p.to fun e w' => e = .returned (.int .i64 0) ∧ Below p.to.heap.size p.to w' := fun p => by have h := asked_any W H F L X Y nl nh xl xh y A n cap fs true p.to hn (fun f h => ((hf f h).below (hB.trans (p.h.mono hB.size))).more (Nat.le_trans hB.size p.h.size)) (rdB hr (hB.trans (p.h.mono hB.size))); rw [hak] at h; exact h
  have k76b : ∀ p : Blw W0.heap.size W0, Calls Tryz.prog 76 #[.agg #[.int .i64 W, .int .i64 H, .int .i64 F, .int .i64 L, .int .i64 X, .int .i64 Y], .slice OA on ocap] p.to fun e w' => e = .returned (.bool false) ∧ Below p.to.heap.size p.to w' := fun p => by have h := refCells_any W H F L X Y OA on ocap os p.to (by omega) (rdB hO0 (hB.trans (p.h.mono hB.size))) (by omega) (by omega) (by omega) (by omega); rw [hocel] at h; exact h
  have hbS := fun p i => blw_blk hS p i
  have hbQ := fun p i => blw_blk hQ p i
  have hbXA := fun p i => blw_blk hXA p i
  have hbXB := fun p i => blw_blk hXB p i
  refine wp_region_blw (by kernel_rfl) (by kernel_rfl) ?_
  repeat (go_big_quiet_step (first | (go_at_call 39; exact Calls.blw_of_same _ (k39 _)) | (go_at_call 27; exact Calls.blw_of _ (k27 _)) | (go_at_call_of 76 (Value.slice CA kn kcap); exact Calls.blw_of _ (k76 _)) | (go_at_call 54; exact Calls.blw_of _ (k54 _)) | (go_at_call_of 76 (Value.slice OA on ocap); exact Calls.blw_of _ (k76b _))))
  refine wpQuiet_nil ?_
  rintro W3 ⟨⟨_, hb⟩, rfl⟩
  clear qhS qhQ qhXA qhXB hbS hbQ hbXA hbXB k39 k27 k76 k54 k76b
  replace hS := hS.below hb hS.lt; replace hQ := hQ.below hb hQ.lt; replace hXA := hXA.below hb hXA.lt; replace hXB := hXB.below hb hXB.lt; replace hB := hB.trans (hb.mono hB.size); clear hb; have qhS := fun i => Blk.cell hS i; have qhQ := fun i => Blk.cell hQ i; have qhXA := fun i => Blk.cell hXA i; have qhXB := fun i => Blk.cell hXB i
  go_wp2_with ((go_at_call 24; refine (known_true m _ (known_at hm hB)).mono ?_; rintro e w1 ⟨rfl, hb⟩; (try replace hS := hS.below hb hS.lt); (try replace hQ := hQ.below hb hQ.lt); (try replace hXA := hXA.below hb hXA.lt); (try replace hXB := hXB.below hb hXB.lt); replace hB := hB.trans (hb.mono hB.size); (try clear qhS); (try clear qhQ); (try clear qhXA); (try clear qhXB); clear hb; (try have qhS := fun i => Blk.cell hS i); (try have qhQ := fun i => Blk.cell hQ i); (try have qhXA := fun i => Blk.cell hXA i); (try have qhXB := fun i => Blk.cell hXB i)))
  go_ret
  exact ⟨rfl, hB⟩
set_option maxRecDepth 100000 in
set_option maxHeartbeats 25600000 in
theorem proof_x8 (W H F L X Y nl nh xl xh y f1 n1 x1 y1 f2 n2 x2 y2 : Int) (A : Option Addr) (n cap : Nat) (fs : List Fig) (CA : Option Addr) (kn kcap : Nat) (cs : List Int) (OA : Option Addr) (on ocap : Nat) (os : List Int) (m : Int) (w : World) (hm : w.cell? ⟨0, 0, none⟩ = some (.int .i64 m)) (hcap : n ≤ cap) (hcm : cap ≤ maxLen) (hf : ∀ f ∈ fs, f.ok w w.heap.size) (hr : Rd w w.heap.size 1 A n (fs.map Fig.val)) (hkn : kn ≤ kcap) (hkcm : kcap ≤ maxLen) (hC0 : Rd w w.heap.size 1 CA kn (cs.map (Value.int .i64))) (hon : on ≤ ocap) (hocm : ocap ≤ maxLen) (hO0 : Rd w w.heap.size 1 OA on (os.map (Value.int .i64))) (hdm : (1 ≤ W ∧ W ≤ 100) ∧ (1 ≤ H ∧ H ≤ 100)) (hfw : fewB fs = true) (hle : kn ≤ 10) (hol : on ≤ 10) (hst : stageB W H F L X Y = true) (hcel : cellsB W H cs = true) (hak : askV (askB W H F L X Y nl nh xl xh y fs && true) = 0) (hocel : cellsB W H os = true) (hwi : withB cs os = false) :
    Calls Tryz.prog 17 #[.agg #[.int .i64 W, .int .i64 H, .int .i64 F, .int .i64 L, .int .i64 X, .int .i64 Y], .slice A n cap, .agg #[.int .i64 nl, .int .i64 nh, .int .i64 xl, .int .i64 xh, .int .i64 y], .slice CA kn kcap, .slice OA on ocap, .agg #[.int .i64 f1, .int .i64 n1, .int .i64 x1, .int .i64 y1], .agg #[.int .i64 f2, .int .i64 n2, .int .i64 x2, .int .i64 y2]] w fun e w' => e = .returned (.bool true) ∧ Below w.heap.size w w' := by
  have hn : n ≤ maxLen := Nat.le_trans hcap hcm
  obtain ⟨⟨d1, d2⟩, d3, d4⟩ := hdm
  have hle0 : ¬ (10 : Int) < kn := by omega
  have hol0 : ¬ (10 : Int) < on := by omega
  go_enter Tryz.func17, Tryz.ntmps17
  go_upto_region 1 with (fail)
  have hS := blk4_0 w (.cells #[.int .i64 nl, .int .i64 nh, .int .i64 xl, .int .i64 xh, .int .i64 y] 71) (.cells #[.int .i64 f1, .int .i64 n1, .int .i64 x1, .int .i64 y1] 86) (.cells #[.int .i64 f2, .int .i64 n2, .int .i64 x2, .int .i64 y2] 86) 23 #[.int .i64 W, .int .i64 H, .int .i64 F, .int .i64 L, .int .i64 X, .int .i64 Y]
  have hQ := blk4_1 w (.cells #[.int .i64 W, .int .i64 H, .int .i64 F, .int .i64 L, .int .i64 X, .int .i64 Y] 23) (.cells #[.int .i64 f1, .int .i64 n1, .int .i64 x1, .int .i64 y1] 86) (.cells #[.int .i64 f2, .int .i64 n2, .int .i64 x2, .int .i64 y2] 86) 71 #[.int .i64 nl, .int .i64 nh, .int .i64 xl, .int .i64 xh, .int .i64 y]
  have hXA := blk4_2 w (.cells #[.int .i64 W, .int .i64 H, .int .i64 F, .int .i64 L, .int .i64 X, .int .i64 Y] 23) (.cells #[.int .i64 nl, .int .i64 nh, .int .i64 xl, .int .i64 xh, .int .i64 y] 71) (.cells #[.int .i64 f2, .int .i64 n2, .int .i64 x2, .int .i64 y2] 86) 86 #[.int .i64 f1, .int .i64 n1, .int .i64 x1, .int .i64 y1]
  have hXB := blk4_3 w (.cells #[.int .i64 W, .int .i64 H, .int .i64 F, .int .i64 L, .int .i64 X, .int .i64 Y] 23) (.cells #[.int .i64 nl, .int .i64 nh, .int .i64 xl, .int .i64 xh, .int .i64 y] 71) (.cells #[.int .i64 f1, .int .i64 n1, .int .i64 x1, .int .i64 y1] 86) 86 #[.int .i64 f2, .int .i64 n2, .int .i64 x2, .int .i64 y2]
  have hB := pro_4 w (.cells #[.int .i64 W, .int .i64 H, .int .i64 F, .int .i64 L, .int .i64 X, .int .i64 Y] 23) (.cells #[.int .i64 nl, .int .i64 nh, .int .i64 xl, .int .i64 xh, .int .i64 y] 71) (.cells #[.int .i64 f1, .int .i64 n1, .int .i64 x1, .int .i64 y1] 86) (.cells #[.int .i64 f2, .int .i64 n2, .int .i64 x2, .int .i64 y2] 86)
  generalize (((w.alloc (.cells #[.int .i64 W, .int .i64 H, .int .i64 F, .int .i64 L, .int .i64 X, .int .i64 Y] 23)).alloc (.cells #[.int .i64 nl, .int .i64 nh, .int .i64 xl, .int .i64 xh, .int .i64 y] 71)).alloc (.cells #[.int .i64 f1, .int .i64 n1, .int .i64 x1, .int .i64 y1] 86)).alloc (.cells #[.int .i64 f2, .int .i64 n2, .int .i64 x2, .int .i64 y2] 86) = W0 at *
  have qhS := fun i => Blk.cell hS i
  have qhQ := fun i => Blk.cell hQ i
  have qhXA := fun i => Blk.cell hXA i
  have qhXB := fun i => Blk.cell hXB i
  have k39 : ∀ p : Blw W0.heap.size W0, Calls Tryz.prog 39 #[.slice A n cap] p.to fun e w' => e = .returned (.bool true) ∧ p.to = w' := fun p => by have h := few_any A n cap fs p.to hn (fun f h => ((hf f h).below (hB.trans (p.h.mono hB.size))).more (Nat.le_trans hB.size p.h.size)) (rdB hr (hB.trans (p.h.mono hB.size))); rw [hfw] at h; exact h
  have k27 : ∀ p : Blw W0.heap.size W0, Calls Tryz.prog 27 #[.agg #[.int .i64 W, .int .i64 H, .int .i64 F, .int .i64 L, .int .i64 X, .int .i64 Y]] p.to fun e w' => e = .returned (.bool true) ∧ Below p.to.heap.size p.to w' := fun p => by have h := Stage_any W H F L X Y p.to; rw [hst] at h; exact h
  have k76 : ∀ p : Blw W0.heap.size W0, Calls Tryz.prog 76 #[.agg #[.int .i64 W, .int .i64 H, .int .i64 F, .int .i64 L, .int .i64 X, .int .i64 Y], .slice CA kn kcap] p.to fun e w' => e = .returned (.bool true) ∧ Below p.to.heap.size p.to w' := fun p => by have h := refCells_any W H F L X Y CA kn kcap cs p.to (by omega) (rdB hC0 (hB.trans (p.h.mono hB.size))) (by omega) (by omega) (by omega) (by omega); rw [hcel] at h; exact h
  have k54 : ∀ p : Blw W0.heap.size W0, Calls Tryz.prog 54 #[.agg #[.int .i64 W, .int .i64 H, .int .i64 F, .int .i64 L, .int .i64 X, .int .i64 Y], .slice A n cap, .agg #[.int .i64 nl, .int .i64 nh, .int .i64 xl, .int .i64 xh, .int .i64 y], .bool true] p.to fun e w' => e = .returned (.int .i64 0) ∧ Below p.to.heap.size p.to w' := fun p => by have h := asked_any W H F L X Y nl nh xl xh y A n cap fs true p.to hn (fun f h => ((hf f h).below (hB.trans (p.h.mono hB.size))).more (Nat.le_trans hB.size p.h.size)) (rdB hr (hB.trans (p.h.mono hB.size))); rw [hak] at h; exact h
  have k76b : ∀ p : Blw W0.heap.size W0, Calls Tryz.prog 76 #[.agg #[.int .i64 W, .int .i64 H, .int .i64 F, .int .i64 L, .int .i64 X, .int .i64 Y], .slice OA on ocap] p.to fun e w' => e = .returned (.bool true) ∧ Below p.to.heap.size p.to w' := fun p => by have h := refCells_any W H F L X Y OA on ocap os p.to (by omega) (rdB hO0 (hB.trans (p.h.mono hB.size))) (by omega) (by omega) (by omega) (by omega); rw [hocel] at h; exact h
  have k79 : ∀ p : Blw W0.heap.size W0, Calls Tryz.prog 79 #[.slice CA kn kcap, .slice OA on ocap] p.to fun e w' => e = .returned (.bool false) ∧ p.to = w' := fun p => by have h := withinL_any CA kn kcap cs OA on ocap os p.to (by omega) (by omega) (rdB hC0 (hB.trans (p.h.mono hB.size))) (rdB hO0 (hB.trans (p.h.mono hB.size))); rw [hwi] at h; exact h
  have hbS := fun p i => blw_blk hS p i
  have hbQ := fun p i => blw_blk hQ p i
  have hbXA := fun p i => blw_blk hXA p i
  have hbXB := fun p i => blw_blk hXB p i
  refine wp_region_blw (by kernel_rfl) (by kernel_rfl) ?_
  repeat (go_big_quiet_step (first | (go_at_call 39; exact Calls.blw_of_same _ (k39 _)) | (go_at_call 27; exact Calls.blw_of _ (k27 _)) | (go_at_call_of 76 (Value.slice CA kn kcap); exact Calls.blw_of _ (k76 _)) | (go_at_call 54; exact Calls.blw_of _ (k54 _)) | (go_at_call_of 76 (Value.slice OA on ocap); exact Calls.blw_of _ (k76b _)) | (go_at_call 79; exact Calls.blw_of_same _ (k79 _))))
  refine wpQuiet_nil ?_
  rintro W3 ⟨⟨_, hb⟩, rfl⟩
  clear qhS qhQ qhXA qhXB hbS hbQ hbXA hbXB k39 k27 k76 k54 k76b k79
  replace hS := hS.below hb hS.lt; replace hQ := hQ.below hb hQ.lt; replace hXA := hXA.below hb hXA.lt; replace hXB := hXB.below hb hXB.lt; replace hB := hB.trans (hb.mono hB.size); clear hb; have qhS := fun i => Blk.cell hS i; have qhQ := fun i => Blk.cell hQ i; have qhXA := fun i => Blk.cell hXA i; have qhXB := fun i => Blk.cell hXB i
  go_wp2_with ((go_at_call 24; refine (known_true m _ (known_at hm hB)).mono ?_; rintro e w1 ⟨rfl, hb⟩; (try replace hS := hS.below hb hS.lt); (try replace hQ := hQ.below hb hQ.lt); (try replace hXA := hXA.below hb hXA.lt); (try replace hXB := hXB.below hb hXB.lt); replace hB := hB.trans (hb.mono hB.size); (try clear qhS); (try clear qhQ); (try clear qhXA); (try clear qhXB); clear hb; (try have qhS := fun i => Blk.cell hS i); (try have qhQ := fun i => Blk.cell hQ i); (try have qhXA := fun i => Blk.cell hXA i); (try have qhXB := fun i => Blk.cell hXB i)))
  go_ret
  exact ⟨rfl, hB⟩
set_option maxRecDepth 100000 in
set_option maxHeartbeats 25600000 in
theorem proof_x9 (W H F L X Y nl nh xl xh y f1 n1 x1 y1 f2 n2 x2 y2 : Int) (A : Option Addr) (n cap : Nat) (fs : List Fig) (CA : Option Addr) (kn kcap : Nat) (cs : List Int) (OA : Option Addr) (on ocap : Nat) (os : List Int) (m : Int) (w : World) (hm : w.cell? ⟨0, 0, none⟩ = some (.int .i64 m)) (hcap : n ≤ cap) (hcm : cap ≤ maxLen) (hf : ∀ f ∈ fs, f.ok w w.heap.size) (hr : Rd w w.heap.size 1 A n (fs.map Fig.val)) (hkn : kn ≤ kcap) (hkcm : kcap ≤ maxLen) (hC0 : Rd w w.heap.size 1 CA kn (cs.map (Value.int .i64))) (hon : on ≤ ocap) (hocm : ocap ≤ maxLen) (hO0 : Rd w w.heap.size 1 OA on (os.map (Value.int .i64))) (hdm : (1 ≤ W ∧ W ≤ 100) ∧ (1 ≤ H ∧ H ≤ 100)) (hfw : fewB fs = true) (hle : kn ≤ 10) (hol : on ≤ 10) (hst : stageB W H F L X Y = true) (hcel : cellsB W H cs = true) (hak : askV (askB W H F L X Y nl nh xl xh y fs && true) = 0) (hocel : cellsB W H os = true) (hwi : withB cs os = true) (hrx : readB n nl nh xl xh y f1 n1 x1 y1 = false) :
    Calls Tryz.prog 17 #[.agg #[.int .i64 W, .int .i64 H, .int .i64 F, .int .i64 L, .int .i64 X, .int .i64 Y], .slice A n cap, .agg #[.int .i64 nl, .int .i64 nh, .int .i64 xl, .int .i64 xh, .int .i64 y], .slice CA kn kcap, .slice OA on ocap, .agg #[.int .i64 f1, .int .i64 n1, .int .i64 x1, .int .i64 y1], .agg #[.int .i64 f2, .int .i64 n2, .int .i64 x2, .int .i64 y2]] w fun e w' => e = .returned (.bool true) ∧ Below w.heap.size w w' := by
  have hn : n ≤ maxLen := Nat.le_trans hcap hcm
  obtain ⟨⟨d1, d2⟩, d3, d4⟩ := hdm
  have hle0 : ¬ (10 : Int) < kn := by omega
  have hol0 : ¬ (10 : Int) < on := by omega
  go_enter Tryz.func17, Tryz.ntmps17
  go_upto_region 1 with (fail)
  have hS := blk4_0 w (.cells #[.int .i64 nl, .int .i64 nh, .int .i64 xl, .int .i64 xh, .int .i64 y] 71) (.cells #[.int .i64 f1, .int .i64 n1, .int .i64 x1, .int .i64 y1] 86) (.cells #[.int .i64 f2, .int .i64 n2, .int .i64 x2, .int .i64 y2] 86) 23 #[.int .i64 W, .int .i64 H, .int .i64 F, .int .i64 L, .int .i64 X, .int .i64 Y]
  have hQ := blk4_1 w (.cells #[.int .i64 W, .int .i64 H, .int .i64 F, .int .i64 L, .int .i64 X, .int .i64 Y] 23) (.cells #[.int .i64 f1, .int .i64 n1, .int .i64 x1, .int .i64 y1] 86) (.cells #[.int .i64 f2, .int .i64 n2, .int .i64 x2, .int .i64 y2] 86) 71 #[.int .i64 nl, .int .i64 nh, .int .i64 xl, .int .i64 xh, .int .i64 y]
  have hXA := blk4_2 w (.cells #[.int .i64 W, .int .i64 H, .int .i64 F, .int .i64 L, .int .i64 X, .int .i64 Y] 23) (.cells #[.int .i64 nl, .int .i64 nh, .int .i64 xl, .int .i64 xh, .int .i64 y] 71) (.cells #[.int .i64 f2, .int .i64 n2, .int .i64 x2, .int .i64 y2] 86) 86 #[.int .i64 f1, .int .i64 n1, .int .i64 x1, .int .i64 y1]
  have hXB := blk4_3 w (.cells #[.int .i64 W, .int .i64 H, .int .i64 F, .int .i64 L, .int .i64 X, .int .i64 Y] 23) (.cells #[.int .i64 nl, .int .i64 nh, .int .i64 xl, .int .i64 xh, .int .i64 y] 71) (.cells #[.int .i64 f1, .int .i64 n1, .int .i64 x1, .int .i64 y1] 86) 86 #[.int .i64 f2, .int .i64 n2, .int .i64 x2, .int .i64 y2]
  have hB := pro_4 w (.cells #[.int .i64 W, .int .i64 H, .int .i64 F, .int .i64 L, .int .i64 X, .int .i64 Y] 23) (.cells #[.int .i64 nl, .int .i64 nh, .int .i64 xl, .int .i64 xh, .int .i64 y] 71) (.cells #[.int .i64 f1, .int .i64 n1, .int .i64 x1, .int .i64 y1] 86) (.cells #[.int .i64 f2, .int .i64 n2, .int .i64 x2, .int .i64 y2] 86)
  generalize (((w.alloc (.cells #[.int .i64 W, .int .i64 H, .int .i64 F, .int .i64 L, .int .i64 X, .int .i64 Y] 23)).alloc (.cells #[.int .i64 nl, .int .i64 nh, .int .i64 xl, .int .i64 xh, .int .i64 y] 71)).alloc (.cells #[.int .i64 f1, .int .i64 n1, .int .i64 x1, .int .i64 y1] 86)).alloc (.cells #[.int .i64 f2, .int .i64 n2, .int .i64 x2, .int .i64 y2] 86) = W0 at *
  have qhS := fun i => Blk.cell hS i
  have qhQ := fun i => Blk.cell hQ i
  have qhXA := fun i => Blk.cell hXA i
  have qhXB := fun i => Blk.cell hXB i
  have k39 : ∀ p : Blw W0.heap.size W0, Calls Tryz.prog 39 #[.slice A n cap] p.to fun e w' => e = .returned (.bool true) ∧ p.to = w' := fun p => by have h := few_any A n cap fs p.to hn (fun f h => ((hf f h).below (hB.trans (p.h.mono hB.size))).more (Nat.le_trans hB.size p.h.size)) (rdB hr (hB.trans (p.h.mono hB.size))); rw [hfw] at h; exact h
  have k27 : ∀ p : Blw W0.heap.size W0, Calls Tryz.prog 27 #[.agg #[.int .i64 W, .int .i64 H, .int .i64 F, .int .i64 L, .int .i64 X, .int .i64 Y]] p.to fun e w' => e = .returned (.bool true) ∧ Below p.to.heap.size p.to w' := fun p => by have h := Stage_any W H F L X Y p.to; rw [hst] at h; exact h
  have k76 : ∀ p : Blw W0.heap.size W0, Calls Tryz.prog 76 #[.agg #[.int .i64 W, .int .i64 H, .int .i64 F, .int .i64 L, .int .i64 X, .int .i64 Y], .slice CA kn kcap] p.to fun e w' => e = .returned (.bool true) ∧ Below p.to.heap.size p.to w' := fun p => by have h := refCells_any W H F L X Y CA kn kcap cs p.to (by omega) (rdB hC0 (hB.trans (p.h.mono hB.size))) (by omega) (by omega) (by omega) (by omega); rw [hcel] at h; exact h
  have k54 : ∀ p : Blw W0.heap.size W0, Calls Tryz.prog 54 #[.agg #[.int .i64 W, .int .i64 H, .int .i64 F, .int .i64 L, .int .i64 X, .int .i64 Y], .slice A n cap, .agg #[.int .i64 nl, .int .i64 nh, .int .i64 xl, .int .i64 xh, .int .i64 y], .bool true] p.to fun e w' => e = .returned (.int .i64 0) ∧ Below p.to.heap.size p.to w' := fun p => by have h := asked_any W H F L X Y nl nh xl xh y A n cap fs true p.to hn (fun f h => ((hf f h).below (hB.trans (p.h.mono hB.size))).more (Nat.le_trans hB.size p.h.size)) (rdB hr (hB.trans (p.h.mono hB.size))); rw [hak] at h; exact h
  have k76b : ∀ p : Blw W0.heap.size W0, Calls Tryz.prog 76 #[.agg #[.int .i64 W, .int .i64 H, .int .i64 F, .int .i64 L, .int .i64 X, .int .i64 Y], .slice OA on ocap] p.to fun e w' => e = .returned (.bool true) ∧ Below p.to.heap.size p.to w' := fun p => by have h := refCells_any W H F L X Y OA on ocap os p.to (by omega) (rdB hO0 (hB.trans (p.h.mono hB.size))) (by omega) (by omega) (by omega) (by omega); rw [hocel] at h; exact h
  have k79 : ∀ p : Blw W0.heap.size W0, Calls Tryz.prog 79 #[.slice CA kn kcap, .slice OA on ocap] p.to fun e w' => e = .returned (.bool true) ∧ p.to = w' := fun p => by have h := withinL_any CA kn kcap cs OA on ocap os p.to (by omega) (by omega) (rdB hC0 (hB.trans (p.h.mono hB.size))) (rdB hO0 (hB.trans (p.h.mono hB.size))); rw [hwi] at h; exact h
  have k60a : ∀ p : Blw W0.heap.size W0, Calls Tryz.prog 60 #[.slice A n cap, .agg #[.int .i64 nl, .int .i64 nh, .int .i64 xl, .int .i64 xh, .int .i64 y], .agg #[.int .i64 f1, .int .i64 n1, .int .i64 x1, .int .i64 y1]] p.to fun e w' => e = .returned (.bool false) ∧ Below p.to.heap.size p.to w' := fun p => by have h := reading_any nl nh xl xh y f1 n1 x1 y1 A n cap p.to; rw [hrx] at h; exact h
  have hbS := fun p i => blw_blk hS p i
  have hbQ := fun p i => blw_blk hQ p i
  have hbXA := fun p i => blw_blk hXA p i
  have hbXB := fun p i => blw_blk hXB p i
  refine wp_region_blw (by kernel_rfl) (by kernel_rfl) ?_
  repeat (go_big_quiet_step (first | (go_at_call 39; exact Calls.blw_of_same _ (k39 _)) | (go_at_call 27; exact Calls.blw_of _ (k27 _)) | (go_at_call_of 76 (Value.slice CA kn kcap); exact Calls.blw_of _ (k76 _)) | (go_at_call 54; exact Calls.blw_of _ (k54 _)) | (go_at_call_of 76 (Value.slice OA on ocap); exact Calls.blw_of _ (k76b _)) | (go_at_call 79; exact Calls.blw_of_same _ (k79 _)) | (go_at_call_of 60 (Value.agg #[.int .i64 f1, .int .i64 n1, .int .i64 x1, .int .i64 y1]); exact Calls.blw_of _ (k60a _))))
  refine wpQuiet_nil ?_
  rintro W3 ⟨⟨_, hb⟩, rfl⟩
  clear qhS qhQ qhXA qhXB hbS hbQ hbXA hbXB k39 k27 k76 k54 k76b k79 k60a
  replace hS := hS.below hb hS.lt; replace hQ := hQ.below hb hQ.lt; replace hXA := hXA.below hb hXA.lt; replace hXB := hXB.below hb hXB.lt; replace hB := hB.trans (hb.mono hB.size); clear hb; have qhS := fun i => Blk.cell hS i; have qhQ := fun i => Blk.cell hQ i; have qhXA := fun i => Blk.cell hXA i; have qhXB := fun i => Blk.cell hXB i
  go_wp2_with ((go_at_call 24; refine (known_true m _ (known_at hm hB)).mono ?_; rintro e w1 ⟨rfl, hb⟩; (try replace hS := hS.below hb hS.lt); (try replace hQ := hQ.below hb hQ.lt); (try replace hXA := hXA.below hb hXA.lt); (try replace hXB := hXB.below hb hXB.lt); replace hB := hB.trans (hb.mono hB.size); (try clear qhS); (try clear qhQ); (try clear qhXA); (try clear qhXB); clear hb; (try have qhS := fun i => Blk.cell hS i); (try have qhQ := fun i => Blk.cell hQ i); (try have qhXA := fun i => Blk.cell hXA i); (try have qhXB := fun i => Blk.cell hXB i)))
  go_ret
  exact ⟨rfl, hB⟩
set_option maxRecDepth 100000 in
set_option maxHeartbeats 25600000 in
theorem proof_x10 (W H F L X Y nl nh xl xh y f1 n1 x1 y1 f2 n2 x2 y2 : Int) (A : Option Addr) (n cap : Nat) (fs : List Fig) (CA : Option Addr) (kn kcap : Nat) (cs : List Int) (OA : Option Addr) (on ocap : Nat) (os : List Int) (m : Int) (w : World) (hm : w.cell? ⟨0, 0, none⟩ = some (.int .i64 m)) (hcap : n ≤ cap) (hcm : cap ≤ maxLen) (hf : ∀ f ∈ fs, f.ok w w.heap.size) (hr : Rd w w.heap.size 1 A n (fs.map Fig.val)) (hkn : kn ≤ kcap) (hkcm : kcap ≤ maxLen) (hC0 : Rd w w.heap.size 1 CA kn (cs.map (Value.int .i64))) (hon : on ≤ ocap) (hocm : ocap ≤ maxLen) (hO0 : Rd w w.heap.size 1 OA on (os.map (Value.int .i64))) (hdm : (1 ≤ W ∧ W ≤ 100) ∧ (1 ≤ H ∧ H ≤ 100)) (hfw : fewB fs = true) (hle : kn ≤ 10) (hol : on ≤ 10) (hst : stageB W H F L X Y = true) (hcel : cellsB W H cs = true) (hak : askV (askB W H F L X Y nl nh xl xh y fs && true) = 0) (hocel : cellsB W H os = true) (hwi : withB cs os = true) (hrx : readB n nl nh xl xh y f1 n1 x1 y1 = true) (hry : readB n nl nh xl xh y f2 n2 x2 y2 = false) :
    Calls Tryz.prog 17 #[.agg #[.int .i64 W, .int .i64 H, .int .i64 F, .int .i64 L, .int .i64 X, .int .i64 Y], .slice A n cap, .agg #[.int .i64 nl, .int .i64 nh, .int .i64 xl, .int .i64 xh, .int .i64 y], .slice CA kn kcap, .slice OA on ocap, .agg #[.int .i64 f1, .int .i64 n1, .int .i64 x1, .int .i64 y1], .agg #[.int .i64 f2, .int .i64 n2, .int .i64 x2, .int .i64 y2]] w fun e w' => e = .returned (.bool true) ∧ Below w.heap.size w w' := by
  have hn : n ≤ maxLen := Nat.le_trans hcap hcm
  obtain ⟨⟨d1, d2⟩, d3, d4⟩ := hdm
  have hle0 : ¬ (10 : Int) < kn := by omega
  have hol0 : ¬ (10 : Int) < on := by omega
  go_enter Tryz.func17, Tryz.ntmps17
  go_upto_region 1 with (fail)
  have hS := blk4_0 w (.cells #[.int .i64 nl, .int .i64 nh, .int .i64 xl, .int .i64 xh, .int .i64 y] 71) (.cells #[.int .i64 f1, .int .i64 n1, .int .i64 x1, .int .i64 y1] 86) (.cells #[.int .i64 f2, .int .i64 n2, .int .i64 x2, .int .i64 y2] 86) 23 #[.int .i64 W, .int .i64 H, .int .i64 F, .int .i64 L, .int .i64 X, .int .i64 Y]
  have hQ := blk4_1 w (.cells #[.int .i64 W, .int .i64 H, .int .i64 F, .int .i64 L, .int .i64 X, .int .i64 Y] 23) (.cells #[.int .i64 f1, .int .i64 n1, .int .i64 x1, .int .i64 y1] 86) (.cells #[.int .i64 f2, .int .i64 n2, .int .i64 x2, .int .i64 y2] 86) 71 #[.int .i64 nl, .int .i64 nh, .int .i64 xl, .int .i64 xh, .int .i64 y]
  have hXA := blk4_2 w (.cells #[.int .i64 W, .int .i64 H, .int .i64 F, .int .i64 L, .int .i64 X, .int .i64 Y] 23) (.cells #[.int .i64 nl, .int .i64 nh, .int .i64 xl, .int .i64 xh, .int .i64 y] 71) (.cells #[.int .i64 f2, .int .i64 n2, .int .i64 x2, .int .i64 y2] 86) 86 #[.int .i64 f1, .int .i64 n1, .int .i64 x1, .int .i64 y1]
  have hXB := blk4_3 w (.cells #[.int .i64 W, .int .i64 H, .int .i64 F, .int .i64 L, .int .i64 X, .int .i64 Y] 23) (.cells #[.int .i64 nl, .int .i64 nh, .int .i64 xl, .int .i64 xh, .int .i64 y] 71) (.cells #[.int .i64 f1, .int .i64 n1, .int .i64 x1, .int .i64 y1] 86) 86 #[.int .i64 f2, .int .i64 n2, .int .i64 x2, .int .i64 y2]
  have hB := pro_4 w (.cells #[.int .i64 W, .int .i64 H, .int .i64 F, .int .i64 L, .int .i64 X, .int .i64 Y] 23) (.cells #[.int .i64 nl, .int .i64 nh, .int .i64 xl, .int .i64 xh, .int .i64 y] 71) (.cells #[.int .i64 f1, .int .i64 n1, .int .i64 x1, .int .i64 y1] 86) (.cells #[.int .i64 f2, .int .i64 n2, .int .i64 x2, .int .i64 y2] 86)
  generalize (((w.alloc (.cells #[.int .i64 W, .int .i64 H, .int .i64 F, .int .i64 L, .int .i64 X, .int .i64 Y] 23)).alloc (.cells #[.int .i64 nl, .int .i64 nh, .int .i64 xl, .int .i64 xh, .int .i64 y] 71)).alloc (.cells #[.int .i64 f1, .int .i64 n1, .int .i64 x1, .int .i64 y1] 86)).alloc (.cells #[.int .i64 f2, .int .i64 n2, .int .i64 x2, .int .i64 y2] 86) = W0 at *
  have qhS := fun i => Blk.cell hS i
  have qhQ := fun i => Blk.cell hQ i
  have qhXA := fun i => Blk.cell hXA i
  have qhXB := fun i => Blk.cell hXB i
  have k39 : ∀ p : Blw W0.heap.size W0, Calls Tryz.prog 39 #[.slice A n cap] p.to fun e w' => e = .returned (.bool true) ∧ p.to = w' := fun p => by have h := few_any A n cap fs p.to hn (fun f h => ((hf f h).below (hB.trans (p.h.mono hB.size))).more (Nat.le_trans hB.size p.h.size)) (rdB hr (hB.trans (p.h.mono hB.size))); rw [hfw] at h; exact h
  have k27 : ∀ p : Blw W0.heap.size W0, Calls Tryz.prog 27 #[.agg #[.int .i64 W, .int .i64 H, .int .i64 F, .int .i64 L, .int .i64 X, .int .i64 Y]] p.to fun e w' => e = .returned (.bool true) ∧ Below p.to.heap.size p.to w' := fun p => by have h := Stage_any W H F L X Y p.to; rw [hst] at h; exact h
  have k76 : ∀ p : Blw W0.heap.size W0, Calls Tryz.prog 76 #[.agg #[.int .i64 W, .int .i64 H, .int .i64 F, .int .i64 L, .int .i64 X, .int .i64 Y], .slice CA kn kcap] p.to fun e w' => e = .returned (.bool true) ∧ Below p.to.heap.size p.to w' := fun p => by have h := refCells_any W H F L X Y CA kn kcap cs p.to (by omega) (rdB hC0 (hB.trans (p.h.mono hB.size))) (by omega) (by omega) (by omega) (by omega); rw [hcel] at h; exact h
  have k54 : ∀ p : Blw W0.heap.size W0, Calls Tryz.prog 54 #[.agg #[.int .i64 W, .int .i64 H, .int .i64 F, .int .i64 L, .int .i64 X, .int .i64 Y], .slice A n cap, .agg #[.int .i64 nl, .int .i64 nh, .int .i64 xl, .int .i64 xh, .int .i64 y], .bool true] p.to fun e w' => e = .returned (.int .i64 0) ∧ Below p.to.heap.size p.to w' := fun p => by have h := asked_any W H F L X Y nl nh xl xh y A n cap fs true p.to hn (fun f h => ((hf f h).below (hB.trans (p.h.mono hB.size))).more (Nat.le_trans hB.size p.h.size)) (rdB hr (hB.trans (p.h.mono hB.size))); rw [hak] at h; exact h
  have k76b : ∀ p : Blw W0.heap.size W0, Calls Tryz.prog 76 #[.agg #[.int .i64 W, .int .i64 H, .int .i64 F, .int .i64 L, .int .i64 X, .int .i64 Y], .slice OA on ocap] p.to fun e w' => e = .returned (.bool true) ∧ Below p.to.heap.size p.to w' := fun p => by have h := refCells_any W H F L X Y OA on ocap os p.to (by omega) (rdB hO0 (hB.trans (p.h.mono hB.size))) (by omega) (by omega) (by omega) (by omega); rw [hocel] at h; exact h
  have k79 : ∀ p : Blw W0.heap.size W0, Calls Tryz.prog 79 #[.slice CA kn kcap, .slice OA on ocap] p.to fun e w' => e = .returned (.bool true) ∧ p.to = w' := fun p => by have h := withinL_any CA kn kcap cs OA on ocap os p.to (by omega) (by omega) (rdB hC0 (hB.trans (p.h.mono hB.size))) (rdB hO0 (hB.trans (p.h.mono hB.size))); rw [hwi] at h; exact h
  have k60a : ∀ p : Blw W0.heap.size W0, Calls Tryz.prog 60 #[.slice A n cap, .agg #[.int .i64 nl, .int .i64 nh, .int .i64 xl, .int .i64 xh, .int .i64 y], .agg #[.int .i64 f1, .int .i64 n1, .int .i64 x1, .int .i64 y1]] p.to fun e w' => e = .returned (.bool true) ∧ Below p.to.heap.size p.to w' := fun p => by have h := reading_any nl nh xl xh y f1 n1 x1 y1 A n cap p.to; rw [hrx] at h; exact h
  have k60b : ∀ p : Blw W0.heap.size W0, Calls Tryz.prog 60 #[.slice A n cap, .agg #[.int .i64 nl, .int .i64 nh, .int .i64 xl, .int .i64 xh, .int .i64 y], .agg #[.int .i64 f2, .int .i64 n2, .int .i64 x2, .int .i64 y2]] p.to fun e w' => e = .returned (.bool false) ∧ Below p.to.heap.size p.to w' := fun p => by have h := reading_any nl nh xl xh y f2 n2 x2 y2 A n cap p.to; rw [hry] at h; exact h
  have hbS := fun p i => blw_blk hS p i
  have hbQ := fun p i => blw_blk hQ p i
  have hbXA := fun p i => blw_blk hXA p i
  have hbXB := fun p i => blw_blk hXB p i
  refine wp_region_blw (by kernel_rfl) (by kernel_rfl) ?_
  repeat (go_big_quiet_step (first | (go_at_call 39; exact Calls.blw_of_same _ (k39 _)) | (go_at_call 27; exact Calls.blw_of _ (k27 _)) | (go_at_call_of 76 (Value.slice CA kn kcap); exact Calls.blw_of _ (k76 _)) | (go_at_call 54; exact Calls.blw_of _ (k54 _)) | (go_at_call_of 76 (Value.slice OA on ocap); exact Calls.blw_of _ (k76b _)) | (go_at_call 79; exact Calls.blw_of_same _ (k79 _)) | (go_at_call_of 60 (Value.agg #[.int .i64 f2, .int .i64 n2, .int .i64 x2, .int .i64 y2]); exact Calls.blw_of _ (k60b _)) | (go_at_call_of 60 (Value.agg #[.int .i64 f1, .int .i64 n1, .int .i64 x1, .int .i64 y1]); exact Calls.blw_of _ (k60a _))))
  refine wpQuiet_nil ?_
  rintro W3 ⟨⟨_, hb⟩, rfl⟩
  clear qhS qhQ qhXA qhXB hbS hbQ hbXA hbXB k39 k27 k76 k54 k76b k79 k60a k60b
  replace hS := hS.below hb hS.lt; replace hQ := hQ.below hb hQ.lt; replace hXA := hXA.below hb hXA.lt; replace hXB := hXB.below hb hXB.lt; replace hB := hB.trans (hb.mono hB.size); clear hb; have qhS := fun i => Blk.cell hS i; have qhQ := fun i => Blk.cell hQ i; have qhXA := fun i => Blk.cell hXA i; have qhXB := fun i => Blk.cell hXB i
  go_wp2_with ((go_at_call 24; refine (known_true m _ (known_at hm hB)).mono ?_; rintro e w1 ⟨rfl, hb⟩; (try replace hS := hS.below hb hS.lt); (try replace hQ := hQ.below hb hQ.lt); (try replace hXA := hXA.below hb hXA.lt); (try replace hXB := hXB.below hb hXB.lt); replace hB := hB.trans (hb.mono hB.size); (try clear qhS); (try clear qhQ); (try clear qhXA); (try clear qhXB); clear hb; (try have qhS := fun i => Blk.cell hS i); (try have qhQ := fun i => Blk.cell hQ i); (try have qhXA := fun i => Blk.cell hXA i); (try have qhXB := fun i => Blk.cell hXB i)))
  go_ret
  exact ⟨rfl, hB⟩
end Go.Proofs.YtifddfchpknkbaaGreatDoor

namespace Go.Proofs.YtifddfchpknkbaaGreatDoor
open Go.RowKit

set_option maxRecDepth 100000 in
set_option maxHeartbeats 25600000 in
theorem proof_5 (Wn Hn : Nat) (F L X Y nl nh xl xh y n1 x1 y1 n2 x2 y2 : Int) (i1 i2 : Nat) (A : Option Addr) (n cap : Nat) (fs : List Fig) (CA : Option Addr) (kn kcap : Nat) (cs : List Int) (OA : Option Addr) (on ocap : Nat) (os : List Int) (m : Int) (w : World) (hm : w.cell? ⟨0, 0, none⟩ = some (.int .i64 m)) (hcap : n ≤ cap) (hcm : cap ≤ maxLen) (hf : ∀ f ∈ fs, f.ok w w.heap.size) (hr : Rd w w.heap.size 1 A n (fs.map Fig.val)) (hkn : kn ≤ kcap) (hkcm : kcap ≤ maxLen) (hC0 : Rd w w.heap.size 1 CA kn (cs.map (Value.int .i64))) (hon : on ≤ ocap) (hocm : ocap ≤ maxLen) (hO0 : Rd w w.heap.size 1 OA on (os.map (Value.int .i64))) (hfw : fewB fs = true) (hle : kn ≤ 10) (hol : on ≤ 10) (hst : stageB Wn Hn F L X Y = true) (hcel : cellsB Wn Hn cs = true) (hak : askV (askB Wn Hn F L X Y nl nh xl xh y fs && true) = 0) (hocel : cellsB Wn Hn os = true) (hwi : withB cs os = true) (hrx : readB n nl nh xl xh y i1 n1 x1 y1 = true) (hry : readB n nl nh xl xh y i2 n2 x2 y2 = true) (hdm : (1 ≤ Wn ∧ Wn ≤ 100) ∧ (1 ≤ Hn ∧ Hn ≤ 100)) (a b0 me : Int) (HEB1 : Hid (enoughB Wn Hn F L X Y nl nh xl xh y fs cs = false)) (HEE1 : Hid (enoughE Wn Hn F L X Y nl nh xl xh y fs cs = 0)) (HEB2 : Hid (enoughB Wn Hn F L X Y nl nh xl xh y fs os = false)) (HEE2 : Hid (enoughE Wn Hn F L X Y nl nh xl xh y fs os = 0)) (pl : List Int) (HPL : Hid ((planL Wn Hn F L X Y nl nh xl xh y fs cs).map natV = pl.map (Value.int .i64))) (HPE : Hid (planE Wn Hn F L X Y nl nh xl xh y fs cs = 5)) (HM : Hid (mistR Wn Hn F L X Y nl nh xl xh y fs = #[.int .i64 a, .int .i64 b0, .int .i64 me])) (hme : me = 0 ∨ me = 5) :
    Calls Tryz.prog 17 #[.agg #[.int .i64 Wn, .int .i64 Hn, .int .i64 F, .int .i64 L, .int .i64 X, .int .i64 Y], .slice A n cap, .agg #[.int .i64 nl, .int .i64 nh, .int .i64 xl, .int .i64 xh, .int .i64 y], .slice CA kn kcap, .slice OA on ocap, .agg #[.int .i64 (i1 : Nat), .int .i64 n1, .int .i64 x1, .int .i64 y1], .agg #[.int .i64 (i2 : Nat), .int .i64 n2, .int .i64 x2, .int .i64 y2]] w fun e w' => e = .returned (.bool true) ∧ Below w.heap.size w w' := by
  have hn : n ≤ maxLen := Nat.le_trans hcap hcm
  have hle0 : ¬ (10 : Int) < kn := by omega
  have hol0 : ¬ (10 : Int) < on := by omega
  obtain ⟨⟨d1, d2⟩, d3, d4⟩ := hdm
  go_enter Tryz.func17, Tryz.ntmps17
  go_upto_region 1 with (fail)
  have hS := blk4_0 w (.cells #[.int .i64 nl, .int .i64 nh, .int .i64 xl, .int .i64 xh, .int .i64 y] 71) (.cells #[.int .i64 (i1 : Nat), .int .i64 n1, .int .i64 x1, .int .i64 y1] 86) (.cells #[.int .i64 (i2 : Nat), .int .i64 n2, .int .i64 x2, .int .i64 y2] 86) 23 #[.int .i64 Wn, .int .i64 Hn, .int .i64 F, .int .i64 L, .int .i64 X, .int .i64 Y]
  have hQ := blk4_1 w (.cells #[.int .i64 Wn, .int .i64 Hn, .int .i64 F, .int .i64 L, .int .i64 X, .int .i64 Y] 23) (.cells #[.int .i64 (i1 : Nat), .int .i64 n1, .int .i64 x1, .int .i64 y1] 86) (.cells #[.int .i64 (i2 : Nat), .int .i64 n2, .int .i64 x2, .int .i64 y2] 86) 71 #[.int .i64 nl, .int .i64 nh, .int .i64 xl, .int .i64 xh, .int .i64 y]
  have hXA := blk4_2 w (.cells #[.int .i64 Wn, .int .i64 Hn, .int .i64 F, .int .i64 L, .int .i64 X, .int .i64 Y] 23) (.cells #[.int .i64 nl, .int .i64 nh, .int .i64 xl, .int .i64 xh, .int .i64 y] 71) (.cells #[.int .i64 (i2 : Nat), .int .i64 n2, .int .i64 x2, .int .i64 y2] 86) 86 #[.int .i64 (i1 : Nat), .int .i64 n1, .int .i64 x1, .int .i64 y1]
  have hXB := blk4_3 w (.cells #[.int .i64 Wn, .int .i64 Hn, .int .i64 F, .int .i64 L, .int .i64 X, .int .i64 Y] 23) (.cells #[.int .i64 nl, .int .i64 nh, .int .i64 xl, .int .i64 xh, .int .i64 y] 71) (.cells #[.int .i64 (i1 : Nat), .int .i64 n1, .int .i64 x1, .int .i64 y1] 86) 86 #[.int .i64 (i2 : Nat), .int .i64 n2, .int .i64 x2, .int .i64 y2]
  have hB := pro_4 w (.cells #[.int .i64 Wn, .int .i64 Hn, .int .i64 F, .int .i64 L, .int .i64 X, .int .i64 Y] 23) (.cells #[.int .i64 nl, .int .i64 nh, .int .i64 xl, .int .i64 xh, .int .i64 y] 71) (.cells #[.int .i64 (i1 : Nat), .int .i64 n1, .int .i64 x1, .int .i64 y1] 86) (.cells #[.int .i64 (i2 : Nat), .int .i64 n2, .int .i64 x2, .int .i64 y2] 86)
  generalize (((w.alloc (.cells #[.int .i64 Wn, .int .i64 Hn, .int .i64 F, .int .i64 L, .int .i64 X, .int .i64 Y] 23)).alloc (.cells #[.int .i64 nl, .int .i64 nh, .int .i64 xl, .int .i64 xh, .int .i64 y] 71)).alloc (.cells #[.int .i64 (i1 : Nat), .int .i64 n1, .int .i64 x1, .int .i64 y1] 86)).alloc (.cells #[.int .i64 (i2 : Nat), .int .i64 n2, .int .i64 x2, .int .i64 y2] 86) = W0 at *
  have qhS := fun i => Blk.cell hS i
  have qhQ := fun i => Blk.cell hQ i
  have qhXA := fun i => Blk.cell hXA i
  have qhXB := fun i => Blk.cell hXB i
  have k39 : ∀ p : Blw W0.heap.size W0, Calls Tryz.prog 39 #[.slice A n cap] p.to fun e w' => e = .returned (.bool true) ∧ p.to = w' := fun p => by have h := few_any A n cap fs p.to hn (fun f h => ((hf f h).below (hB.trans (p.h.mono hB.size))).more (Nat.le_trans hB.size p.h.size)) (rdB hr (hB.trans (p.h.mono hB.size))); rw [hfw] at h; exact h
  have k27 : ∀ p : Blw W0.heap.size W0, Calls Tryz.prog 27 #[.agg #[.int .i64 Wn, .int .i64 Hn, .int .i64 F, .int .i64 L, .int .i64 X, .int .i64 Y]] p.to fun e w' => e = .returned (.bool true) ∧ Below p.to.heap.size p.to w' := fun p => by have h := Stage_any Wn Hn F L X Y p.to; rw [hst] at h; exact h
  have k76 : ∀ p : Blw W0.heap.size W0, Calls Tryz.prog 76 #[.agg #[.int .i64 Wn, .int .i64 Hn, .int .i64 F, .int .i64 L, .int .i64 X, .int .i64 Y], .slice CA kn kcap] p.to fun e w' => e = .returned (.bool true) ∧ Below p.to.heap.size p.to w' := fun p => by have h := refCells_any Wn Hn F L X Y CA kn kcap cs p.to (by omega) (rdB hC0 (hB.trans (p.h.mono hB.size))) (by omega) (by omega) (by omega) (by omega); rw [hcel] at h; exact h
  have k54 : ∀ p : Blw W0.heap.size W0, Calls Tryz.prog 54 #[.agg #[.int .i64 Wn, .int .i64 Hn, .int .i64 F, .int .i64 L, .int .i64 X, .int .i64 Y], .slice A n cap, .agg #[.int .i64 nl, .int .i64 nh, .int .i64 xl, .int .i64 xh, .int .i64 y], .bool true] p.to fun e w' => e = .returned (.int .i64 0) ∧ Below p.to.heap.size p.to w' := fun p => by have h := asked_any Wn Hn F L X Y nl nh xl xh y A n cap fs true p.to hn (fun f h => ((hf f h).below (hB.trans (p.h.mono hB.size))).more (Nat.le_trans hB.size p.h.size)) (rdB hr (hB.trans (p.h.mono hB.size))); rw [hak] at h; exact h
  have k76b : ∀ p : Blw W0.heap.size W0, Calls Tryz.prog 76 #[.agg #[.int .i64 Wn, .int .i64 Hn, .int .i64 F, .int .i64 L, .int .i64 X, .int .i64 Y], .slice OA on ocap] p.to fun e w' => e = .returned (.bool true) ∧ Below p.to.heap.size p.to w' := fun p => by have h := refCells_any Wn Hn F L X Y OA on ocap os p.to (by omega) (rdB hO0 (hB.trans (p.h.mono hB.size))) (by omega) (by omega) (by omega) (by omega); rw [hocel] at h; exact h
  have k79 : ∀ p : Blw W0.heap.size W0, Calls Tryz.prog 79 #[.slice CA kn kcap, .slice OA on ocap] p.to fun e w' => e = .returned (.bool true) ∧ p.to = w' := fun p => by have h := withinL_any CA kn kcap cs OA on ocap os p.to (by omega) (by omega) (rdB hC0 (hB.trans (p.h.mono hB.size))) (rdB hO0 (hB.trans (p.h.mono hB.size))); rw [hwi] at h; exact h
  have k60a : ∀ p : Blw W0.heap.size W0, Calls Tryz.prog 60 #[.slice A n cap, .agg #[.int .i64 nl, .int .i64 nh, .int .i64 xl, .int .i64 xh, .int .i64 y], .agg #[.int .i64 (i1 : Nat), .int .i64 n1, .int .i64 x1, .int .i64 y1]] p.to fun e w' => e = .returned (.bool true) ∧ Below p.to.heap.size p.to w' := fun p => by have h := reading_any nl nh xl xh y i1 n1 x1 y1 A n cap p.to; rw [hrx] at h; exact h
  have k60b : ∀ p : Blw W0.heap.size W0, Calls Tryz.prog 60 #[.slice A n cap, .agg #[.int .i64 nl, .int .i64 nh, .int .i64 xl, .int .i64 xh, .int .i64 y], .agg #[.int .i64 (i2 : Nat), .int .i64 n2, .int .i64 x2, .int .i64 y2]] p.to fun e w' => e = .returned (.bool true) ∧ Below p.to.heap.size p.to w' := fun p => by have h := reading_any nl nh xl xh y i2 n2 x2 y2 A n cap p.to; rw [hry] at h; exact h
  have hbS := fun p i => blw_blk hS p i
  have hbQ := fun p i => blw_blk hQ p i
  have hbXA := fun p i => blw_blk hXA p i
  have hbXB := fun p i => blw_blk hXB p i
  refine wp_region_blw (by kernel_rfl) (by kernel_rfl) ?_
  repeat (go_big_quiet_step (first | (go_at_call 39; exact Calls.blw_of_same _ (k39 _)) | (go_at_call 27; exact Calls.blw_of _ (k27 _)) | (go_at_call_of 76 (Value.slice CA kn kcap); exact Calls.blw_of _ (k76 _)) | (go_at_call 54; exact Calls.blw_of _ (k54 _)) | (go_at_call_of 76 (Value.slice OA on ocap); exact Calls.blw_of _ (k76b _)) | (go_at_call 79; exact Calls.blw_of_same _ (k79 _)) | (go_at_call_of 60 (Value.agg #[.int .i64 (i2 : Nat), .int .i64 n2, .int .i64 x2, .int .i64 y2]); exact Calls.blw_of _ (k60b _)) | (go_at_call_of 60 (Value.agg #[.int .i64 (i1 : Nat), .int .i64 n1, .int .i64 x1, .int .i64 y1]); exact Calls.blw_of _ (k60a _))))
  refine wpQuiet_nil ?_
  rintro W3 ⟨⟨_, hb⟩, rfl⟩
  clear qhS qhQ qhXA qhXB hbS hbQ hbXA hbXB k39 k27 k76 k54 k76b k79 k60a k60b
  replace hS := hS.below hb hS.lt; replace hQ := hQ.below hb hQ.lt; replace hXA := hXA.below hb hXA.lt; replace hXB := hXB.below hb hXB.lt; replace hB := hB.trans (hb.mono hB.size); clear hb; have qhS := fun i => Blk.cell hS i; have qhQ := fun i => Blk.cell hQ i; have qhXA := fun i => Blk.cell hXA i; have qhXB := fun i => Blk.cell hXB i
  clear hfw hst hcel hak hocel hwi hrx hry
  go_upto_region 4 with ((go_at_call_of 74 (Value.slice CA kn kcap); refine (Enough_all Wn Hn F L X Y nl nh xl xh y A n cap fs CA kn kcap cs _ hcap hcm (fun f h => ((hf f h).below hB).more hB.size) (rdB hr hB) (by omega) (rdB hC0 hB) (dif_small Wn Hn F L X Y nl nh xl xh y fs cs)).mono ?_; rintro e w1 ⟨rfl, hb⟩; rw [HEB1.out, HEE1.out]; (try replace hS := hS.below hb hS.lt); (try replace hQ := hQ.below hb hQ.lt); (try replace hXA := hXA.below hb hXA.lt); (try replace hXB := hXB.below hb hXB.lt); (try replace hP := rdB hP hb); (try replace hC := rdB hC hb); (try replace hD := rdB hD hb); replace hB := hB.trans (hb.mono hB.size); (try clear qhS); (try clear qhQ); (try clear qhXA); (try clear qhXB); clear hb; (try have qhS := fun i => Blk.cell hS i); (try have qhQ := fun i => Blk.cell hQ i); (try have qhXA := fun i => Blk.cell hXA i); (try have qhXB := fun i => Blk.cell hXB i)))
  clear HEB1 HEE1
  go_upto_region 5 with ((go_at_call_of 74 (Value.slice OA on ocap); refine (Enough_all Wn Hn F L X Y nl nh xl xh y A n cap fs OA on ocap os _ hcap hcm (fun f h => ((hf f h).below hB).more hB.size) (rdB hr hB) (by omega) (rdB hO0 hB) (dif_small Wn Hn F L X Y nl nh xl xh y fs os)).mono ?_; rintro e w1 ⟨rfl, hb⟩; rw [HEB2.out, HEE2.out]; (try replace hS := hS.below hb hS.lt); (try replace hQ := hQ.below hb hQ.lt); (try replace hXA := hXA.below hb hXA.lt); (try replace hXB := hXB.below hb hXB.lt); (try replace hP := rdB hP hb); (try replace hC := rdB hC hb); (try replace hD := rdB hD hb); replace hB := hB.trans (hb.mono hB.size); (try clear qhS); (try clear qhQ); (try clear qhXA); (try clear qhXB); clear hb; (try have qhS := fun i => Blk.cell hS i); (try have qhQ := fun i => Blk.cell hQ i); (try have qhXA := fun i => Blk.cell hXA i); (try have qhXB := fun i => Blk.cell hXB i)))
  clear HEB2 HEE2
  go_upto_region 6 with ((go_at_call 75; refine (Plan_all Wn Hn F L X Y nl nh xl xh y A n cap fs CA kn kcap cs _ hcap hcm (fun f h => ((hf f h).below hB).more hB.size) (rdB hr hB) (by omega) (rdB hC0 hB) (dif_small Wn Hn F L X Y nl nh xl xh y fs cs)).mono ?_; rintro e w1 ⟨v1, rfl, hIs, hb⟩; obtain ⟨pA, pn, pc, rfl, hp1, hp2, hP⟩ := hIs; rw [HPL.out] at hP; rw [HPE.out]; (try replace hS := hS.below hb hS.lt); (try replace hQ := hQ.below hb hQ.lt); (try replace hXA := hXA.below hb hXA.lt); (try replace hXB := hXB.below hb hXB.lt); (try replace hC := rdB hC hb); (try replace hD := rdB hD hb); replace hB := hB.trans (hb.mono hB.size); (try clear qhS); (try clear qhQ); (try clear qhXA); (try clear qhXB); clear hb; (try have qhS := fun i => Blk.cell hS i); (try have qhQ := fun i => Blk.cell hQ i); (try have qhXA := fun i => Blk.cell hXA i); (try have qhXB := fun i => Blk.cell hXB i)))
  clear HPL HPE
  go_upto_region 7 with ((go_at_call 68; refine (Mistaken_any Wn Hn F L X Y nl nh xl xh y A n cap fs _ hcap hcm (fun f h => ((hf f h).below hB).more hB.size) (rdB hr hB)).mono ?_; rintro e w1 ⟨rfl, hb⟩; rw [HM.out]; (try replace hS := hS.below hb hS.lt); (try replace hQ := hQ.below hb hQ.lt); (try replace hXA := hXA.below hb hXA.lt); (try replace hXB := hXB.below hb hXB.lt); (try replace hP := rdB hP hb); (try replace hC := rdB hC hb); (try replace hD := rdB hD hb); replace hB := hB.trans (hb.mono hB.size); (try clear qhS); (try clear qhQ); (try clear qhXA); (try clear qhXB); clear hb; (try have qhS := fun i => Blk.cell hS i); (try have qhQ := fun i => Blk.cell hQ i); (try have qhXA := fun i => Blk.cell hXA i); (try have qhXB := fun i => Blk.cell hXB i)))
  clear HM
  rcases hme with rfl | rfl
  all_goals
    as_aux_lemma =>
      go_wp2_with ((go_at_call 24; refine (known_true m _ (known_at hm hB)).mono ?_; rintro e w1 ⟨rfl, hb⟩; (try replace hS := hS.below hb hS.lt); (try replace hQ := hQ.below hb hQ.lt); (try replace hXA := hXA.below hb hXA.lt); (try replace hXB := hXB.below hb hXB.lt); (try replace hP := rdB hP hb); (try replace hC := rdB hC hb); (try replace hD := rdB hD hb); replace hB := hB.trans (hb.mono hB.size); (try clear qhS); (try clear qhQ); (try clear qhXA); (try clear qhXB); clear hb; (try have qhS := fun i => Blk.cell hS i); (try have qhQ := fun i => Blk.cell hQ i); (try have qhXA := fun i => Blk.cell hXA i); (try have qhXB := fun i => Blk.cell hXB i)))
      go_ret
      exact ⟨rfl, hB⟩
end Go.Proofs.YtifddfchpknkbaaGreatDoor

namespace Go.Proofs.YtifddfchpknkbaaGreatDoor
open Go.RowKit

set_option maxRecDepth 100000 in
set_option maxHeartbeats 25600000 in
theorem proof_a (Wn Hn : Nat) (F L X Y nl nh xl xh y n1 x1 y1 n2 x2 y2 : Int) (i1 i2 : Nat) (A : Option Addr) (n cap : Nat) (fs : List Fig) (CA : Option Addr) (kn kcap : Nat) (cs : List Int) (OA : Option Addr) (on ocap : Nat) (os : List Int) (m : Int) (w : World) (hm : w.cell? ⟨0, 0, none⟩ = some (.int .i64 m)) (hcap : n ≤ cap) (hcm : cap ≤ maxLen) (hf : ∀ f ∈ fs, f.ok w w.heap.size) (hr : Rd w w.heap.size 1 A n (fs.map Fig.val)) (hkn : kn ≤ kcap) (hkcm : kcap ≤ maxLen) (hC0 : Rd w w.heap.size 1 CA kn (cs.map (Value.int .i64))) (hon : on ≤ ocap) (hocm : ocap ≤ maxLen) (hO0 : Rd w w.heap.size 1 OA on (os.map (Value.int .i64))) (hfw : fewB fs = true) (hle : kn ≤ 10) (hol : on ≤ 10) (hst : stageB Wn Hn F L X Y = true) (hcel : cellsB Wn Hn cs = true) (hak : askV (askB Wn Hn F L X Y nl nh xl xh y fs && true) = 0) (hocel : cellsB Wn Hn os = true) (hwi : withB cs os = true) (hrx : readB n nl nh xl xh y i1 n1 x1 y1 = true) (hry : readB n nl nh xl xh y i2 n2 x2 y2 = true) (hdm : (1 ≤ Wn ∧ Wn ≤ 100) ∧ (1 ≤ Hn ∧ Hn ≤ 100)) (A1 : Option Addr) (m1 cap1 : Nat) (rows1 : List ByteArray) (A2 : Option Addr) (m2 cap2 : Nat) (rows2 : List ByteArray) (rsC rsD : List ByteArray) (zC zD : Nat → Int) (l : List Nat)
    (g1 : i1 < fs.length) (g2 : i2 < fs.length) (HG1 : Hid (fs[i1] = ⟨A1, m1, cap1, rows1⟩)) (HG2 : Hid (fs[i2] = ⟨A2, m2, cap2, rows2⟩))
    (HEC : Hid (errV (viewB Wn Hn F L X Y n1 x1 y1 rows1) = .int .i64 0)) (HED : Hid (errV (viewB Wn Hn F L X Y n2 x2 y2 rows2) = .int .i64 0)) (HRC : Hid (rsC = shadowRows Wn Hn F L X Y n1 x1 y1 rows1)) (HRD : Hid (rsD = shadowRows Wn Hn F L X Y n2 x2 y2 rows2))
    (hlc : rsC.length ≤ 100000) (hld : rsD.length ≤ 100000) (hsc : ∀ r ∈ rsC, r.size ≤ 100000) (hsd : ∀ r ∈ rsD, r.size ≤ 100000) (HWC : Hid (wholeB Wn Hn rsC = true)) (HWD : Hid (wholeB Wn Hn rsD = true))
    (HCC : Hid (∀ c ∈ l, c ≤ 10000 ∧ (∃ r, rsC[c / Wn]? = some r ∧ (ltr r)[c % Wn]? = some (zC c) ∧ r.size ≤ 10000) ∧ (∃ r, rsD[c / Wn]? = some r ∧ (ltr r)[c % Wn]? = some (zD c) ∧ r.size ≤ 10000)))
    (HFIN : Hid (((i1 == i2) || l.any (fun c => clB (zC c) (zD c))) = true)) (HEB1 : Hid (enoughB Wn Hn F L X Y nl nh xl xh y fs cs = true)) (HEE1 : Hid (enoughE Wn Hn F L X Y nl nh xl xh y fs cs = 0)) (HEB2 : Hid (enoughB Wn Hn F L X Y nl nh xl xh y fs os = false)) (HEE2 : Hid (enoughE Wn Hn F L X Y nl nh xl xh y fs os = 0)) (HPL : Hid ((planL Wn Hn F L X Y nl nh xl xh y fs cs).map natV = (castL l).map (Value.int .i64))) (HPE : Hid (planE Wn Hn F L X Y nl nh xl xh y fs cs = 0)) (HM : Hid (mistR Wn Hn F L X Y nl nh xl xh y fs = #[.int .i64 0, .int .i64 0, .int .i64 5])) (hl8 : l.length ≤ 8) (HPC : Hid (cellsB Wn Hn (castL l) = true)) (HPW : Hid (withB cs (castL l) = true)) (HEB3 : Hid (enoughB Wn Hn F L X Y nl nh xl xh y fs (castL l) = true)) (HEE3 : Hid (enoughE Wn Hn F L X Y nl nh xl xh y fs (castL l) = 0)) (HIS : Hid (false = true → l.length ≤ os.length ∧ (os.length = l.length → befB os (castL l) = false))) :
    Calls Tryz.prog 17 #[.agg #[.int .i64 Wn, .int .i64 Hn, .int .i64 F, .int .i64 L, .int .i64 X, .int .i64 Y], .slice A n cap, .agg #[.int .i64 nl, .int .i64 nh, .int .i64 xl, .int .i64 xh, .int .i64 y], .slice CA kn kcap, .slice OA on ocap, .agg #[.int .i64 (i1 : Nat), .int .i64 n1, .int .i64 x1, .int .i64 y1], .agg #[.int .i64 (i2 : Nat), .int .i64 n2, .int .i64 x2, .int .i64 y2]] w fun e w' => e = .returned (.bool true) ∧ Below w.heap.size w w' := by
  have hn : n ≤ maxLen := Nat.le_trans hcap hcm
  have hle0 : ¬ (10 : Int) < kn := by omega
  have hol0 : ¬ (10 : Int) < on := by omega
  obtain ⟨⟨d1, d2⟩, d3, d4⟩ := hdm
  go_enter Tryz.func17, Tryz.ntmps17
  go_upto_region 1 with (fail)
  have hS := blk4_0 w (.cells #[.int .i64 nl, .int .i64 nh, .int .i64 xl, .int .i64 xh, .int .i64 y] 71) (.cells #[.int .i64 (i1 : Nat), .int .i64 n1, .int .i64 x1, .int .i64 y1] 86) (.cells #[.int .i64 (i2 : Nat), .int .i64 n2, .int .i64 x2, .int .i64 y2] 86) 23 #[.int .i64 Wn, .int .i64 Hn, .int .i64 F, .int .i64 L, .int .i64 X, .int .i64 Y]
  have hQ := blk4_1 w (.cells #[.int .i64 Wn, .int .i64 Hn, .int .i64 F, .int .i64 L, .int .i64 X, .int .i64 Y] 23) (.cells #[.int .i64 (i1 : Nat), .int .i64 n1, .int .i64 x1, .int .i64 y1] 86) (.cells #[.int .i64 (i2 : Nat), .int .i64 n2, .int .i64 x2, .int .i64 y2] 86) 71 #[.int .i64 nl, .int .i64 nh, .int .i64 xl, .int .i64 xh, .int .i64 y]
  have hXA := blk4_2 w (.cells #[.int .i64 Wn, .int .i64 Hn, .int .i64 F, .int .i64 L, .int .i64 X, .int .i64 Y] 23) (.cells #[.int .i64 nl, .int .i64 nh, .int .i64 xl, .int .i64 xh, .int .i64 y] 71) (.cells #[.int .i64 (i2 : Nat), .int .i64 n2, .int .i64 x2, .int .i64 y2] 86) 86 #[.int .i64 (i1 : Nat), .int .i64 n1, .int .i64 x1, .int .i64 y1]
  have hXB := blk4_3 w (.cells #[.int .i64 Wn, .int .i64 Hn, .int .i64 F, .int .i64 L, .int .i64 X, .int .i64 Y] 23) (.cells #[.int .i64 nl, .int .i64 nh, .int .i64 xl, .int .i64 xh, .int .i64 y] 71) (.cells #[.int .i64 (i1 : Nat), .int .i64 n1, .int .i64 x1, .int .i64 y1] 86) 86 #[.int .i64 (i2 : Nat), .int .i64 n2, .int .i64 x2, .int .i64 y2]
  have hB := pro_4 w (.cells #[.int .i64 Wn, .int .i64 Hn, .int .i64 F, .int .i64 L, .int .i64 X, .int .i64 Y] 23) (.cells #[.int .i64 nl, .int .i64 nh, .int .i64 xl, .int .i64 xh, .int .i64 y] 71) (.cells #[.int .i64 (i1 : Nat), .int .i64 n1, .int .i64 x1, .int .i64 y1] 86) (.cells #[.int .i64 (i2 : Nat), .int .i64 n2, .int .i64 x2, .int .i64 y2] 86)
  generalize (((w.alloc (.cells #[.int .i64 Wn, .int .i64 Hn, .int .i64 F, .int .i64 L, .int .i64 X, .int .i64 Y] 23)).alloc (.cells #[.int .i64 nl, .int .i64 nh, .int .i64 xl, .int .i64 xh, .int .i64 y] 71)).alloc (.cells #[.int .i64 (i1 : Nat), .int .i64 n1, .int .i64 x1, .int .i64 y1] 86)).alloc (.cells #[.int .i64 (i2 : Nat), .int .i64 n2, .int .i64 x2, .int .i64 y2] 86) = W0 at *
  have qhS := fun i => Blk.cell hS i
  have qhQ := fun i => Blk.cell hQ i
  have qhXA := fun i => Blk.cell hXA i
  have qhXB := fun i => Blk.cell hXB i
  have k39 : ∀ p : Blw W0.heap.size W0, Calls Tryz.prog 39 #[.slice A n cap] p.to fun e w' => e = .returned (.bool true) ∧ p.to = w' := fun p => by have h := few_any A n cap fs p.to hn (fun f h => ((hf f h).below (hB.trans (p.h.mono hB.size))).more (Nat.le_trans hB.size p.h.size)) (rdB hr (hB.trans (p.h.mono hB.size))); rw [hfw] at h; exact h
  have k27 : ∀ p : Blw W0.heap.size W0, Calls Tryz.prog 27 #[.agg #[.int .i64 Wn, .int .i64 Hn, .int .i64 F, .int .i64 L, .int .i64 X, .int .i64 Y]] p.to fun e w' => e = .returned (.bool true) ∧ Below p.to.heap.size p.to w' := fun p => by have h := Stage_any Wn Hn F L X Y p.to; rw [hst] at h; exact h
  have k76 : ∀ p : Blw W0.heap.size W0, Calls Tryz.prog 76 #[.agg #[.int .i64 Wn, .int .i64 Hn, .int .i64 F, .int .i64 L, .int .i64 X, .int .i64 Y], .slice CA kn kcap] p.to fun e w' => e = .returned (.bool true) ∧ Below p.to.heap.size p.to w' := fun p => by have h := refCells_any Wn Hn F L X Y CA kn kcap cs p.to (by omega) (rdB hC0 (hB.trans (p.h.mono hB.size))) (by omega) (by omega) (by omega) (by omega); rw [hcel] at h; exact h
  have k54 : ∀ p : Blw W0.heap.size W0, Calls Tryz.prog 54 #[.agg #[.int .i64 Wn, .int .i64 Hn, .int .i64 F, .int .i64 L, .int .i64 X, .int .i64 Y], .slice A n cap, .agg #[.int .i64 nl, .int .i64 nh, .int .i64 xl, .int .i64 xh, .int .i64 y], .bool true] p.to fun e w' => e = .returned (.int .i64 0) ∧ Below p.to.heap.size p.to w' := fun p => by have h := asked_any Wn Hn F L X Y nl nh xl xh y A n cap fs true p.to hn (fun f h => ((hf f h).below (hB.trans (p.h.mono hB.size))).more (Nat.le_trans hB.size p.h.size)) (rdB hr (hB.trans (p.h.mono hB.size))); rw [hak] at h; exact h
  have k76b : ∀ p : Blw W0.heap.size W0, Calls Tryz.prog 76 #[.agg #[.int .i64 Wn, .int .i64 Hn, .int .i64 F, .int .i64 L, .int .i64 X, .int .i64 Y], .slice OA on ocap] p.to fun e w' => e = .returned (.bool true) ∧ Below p.to.heap.size p.to w' := fun p => by have h := refCells_any Wn Hn F L X Y OA on ocap os p.to (by omega) (rdB hO0 (hB.trans (p.h.mono hB.size))) (by omega) (by omega) (by omega) (by omega); rw [hocel] at h; exact h
  have k79 : ∀ p : Blw W0.heap.size W0, Calls Tryz.prog 79 #[.slice CA kn kcap, .slice OA on ocap] p.to fun e w' => e = .returned (.bool true) ∧ p.to = w' := fun p => by have h := withinL_any CA kn kcap cs OA on ocap os p.to (by omega) (by omega) (rdB hC0 (hB.trans (p.h.mono hB.size))) (rdB hO0 (hB.trans (p.h.mono hB.size))); rw [hwi] at h; exact h
  have k60a : ∀ p : Blw W0.heap.size W0, Calls Tryz.prog 60 #[.slice A n cap, .agg #[.int .i64 nl, .int .i64 nh, .int .i64 xl, .int .i64 xh, .int .i64 y], .agg #[.int .i64 (i1 : Nat), .int .i64 n1, .int .i64 x1, .int .i64 y1]] p.to fun e w' => e = .returned (.bool true) ∧ Below p.to.heap.size p.to w' := fun p => by have h := reading_any nl nh xl xh y i1 n1 x1 y1 A n cap p.to; rw [hrx] at h; exact h
  have k60b : ∀ p : Blw W0.heap.size W0, Calls Tryz.prog 60 #[.slice A n cap, .agg #[.int .i64 nl, .int .i64 nh, .int .i64 xl, .int .i64 xh, .int .i64 y], .agg #[.int .i64 (i2 : Nat), .int .i64 n2, .int .i64 x2, .int .i64 y2]] p.to fun e w' => e = .returned (.bool true) ∧ Below p.to.heap.size p.to w' := fun p => by have h := reading_any nl nh xl xh y i2 n2 x2 y2 A n cap p.to; rw [hry] at h; exact h
  have hbS := fun p i => blw_blk hS p i
  have hbQ := fun p i => blw_blk hQ p i
  have hbXA := fun p i => blw_blk hXA p i
  have hbXB := fun p i => blw_blk hXB p i
  refine wp_region_blw (by kernel_rfl) (by kernel_rfl) ?_
  repeat (go_big_quiet_step (first | (go_at_call 39; exact Calls.blw_of_same _ (k39 _)) | (go_at_call 27; exact Calls.blw_of _ (k27 _)) | (go_at_call_of 76 (Value.slice CA kn kcap); exact Calls.blw_of _ (k76 _)) | (go_at_call 54; exact Calls.blw_of _ (k54 _)) | (go_at_call_of 76 (Value.slice OA on ocap); exact Calls.blw_of _ (k76b _)) | (go_at_call 79; exact Calls.blw_of_same _ (k79 _)) | (go_at_call_of 60 (Value.agg #[.int .i64 (i2 : Nat), .int .i64 n2, .int .i64 x2, .int .i64 y2]); exact Calls.blw_of _ (k60b _)) | (go_at_call_of 60 (Value.agg #[.int .i64 (i1 : Nat), .int .i64 n1, .int .i64 x1, .int .i64 y1]); exact Calls.blw_of _ (k60a _))))
  refine wpQuiet_nil ?_
  rintro W3 ⟨⟨_, hb⟩, rfl⟩
  clear qhS qhQ qhXA qhXB hbS hbQ hbXA hbXB k39 k27 k76 k54 k76b k79 k60a k60b
  replace hS := hS.below hb hS.lt; replace hQ := hQ.below hb hQ.lt; replace hXA := hXA.below hb hXA.lt; replace hXB := hXB.below hb hXB.lt; replace hB := hB.trans (hb.mono hB.size); clear hb; have qhS := fun i => Blk.cell hS i; have qhQ := fun i => Blk.cell hQ i; have qhXA := fun i => Blk.cell hXA i; have qhXB := fun i => Blk.cell hXB i
  clear hfw hst hcel hak hocel hwi hrx hry
  go_upto_region 4 with ((go_at_call_of 74 (Value.slice CA kn kcap); refine (Enough_all Wn Hn F L X Y nl nh xl xh y A n cap fs CA kn kcap cs _ hcap hcm (fun f h => ((hf f h).below hB).more hB.size) (rdB hr hB) (by omega) (rdB hC0 hB) (dif_small Wn Hn F L X Y nl nh xl xh y fs cs)).mono ?_; rintro e w1 ⟨rfl, hb⟩; rw [HEB1.out, HEE1.out]; (try replace hS := hS.below hb hS.lt); (try replace hQ := hQ.below hb hQ.lt); (try replace hXA := hXA.below hb hXA.lt); (try replace hXB := hXB.below hb hXB.lt); (try replace hP := rdB hP hb); (try replace hC := rdB hC hb); (try replace hD := rdB hD hb); replace hB := hB.trans (hb.mono hB.size); (try clear qhS); (try clear qhQ); (try clear qhXA); (try clear qhXB); clear hb; (try have qhS := fun i => Blk.cell hS i); (try have qhQ := fun i => Blk.cell hQ i); (try have qhXA := fun i => Blk.cell hXA i); (try have qhXB := fun i => Blk.cell hXB i)))
  clear HEB1 HEE1
  go_upto_region 5 with ((go_at_call_of 74 (Value.slice OA on ocap); refine (Enough_all Wn Hn F L X Y nl nh xl xh y A n cap fs OA on ocap os _ hcap hcm (fun f h => ((hf f h).below hB).more hB.size) (rdB hr hB) (by omega) (rdB hO0 hB) (dif_small Wn Hn F L X Y nl nh xl xh y fs os)).mono ?_; rintro e w1 ⟨rfl, hb⟩; rw [HEB2.out, HEE2.out]; (try replace hS := hS.below hb hS.lt); (try replace hQ := hQ.below hb hQ.lt); (try replace hXA := hXA.below hb hXA.lt); (try replace hXB := hXB.below hb hXB.lt); (try replace hP := rdB hP hb); (try replace hC := rdB hC hb); (try replace hD := rdB hD hb); replace hB := hB.trans (hb.mono hB.size); (try clear qhS); (try clear qhQ); (try clear qhXA); (try clear qhXB); clear hb; (try have qhS := fun i => Blk.cell hS i); (try have qhQ := fun i => Blk.cell hQ i); (try have qhXA := fun i => Blk.cell hXA i); (try have qhXB := fun i => Blk.cell hXB i)))
  clear HEB2 HEE2
  go_upto_region 6 with ((go_at_call 75; refine (Plan_all Wn Hn F L X Y nl nh xl xh y A n cap fs CA kn kcap cs _ hcap hcm (fun f h => ((hf f h).below hB).more hB.size) (rdB hr hB) (by omega) (rdB hC0 hB) (dif_small Wn Hn F L X Y nl nh xl xh y fs cs)).mono ?_; rintro e w1 ⟨v1, rfl, hIs, hb⟩; obtain ⟨pA, pn, pc, rfl, hp1, hp2, hP⟩ := hIs; rw [HPL.out] at hP; rw [HPE.out]; (try replace hS := hS.below hb hS.lt); (try replace hQ := hQ.below hb hQ.lt); (try replace hXA := hXA.below hb hXA.lt); (try replace hXB := hXB.below hb hXB.lt); (try replace hC := rdB hC hb); (try replace hD := rdB hD hb); replace hB := hB.trans (hb.mono hB.size); (try clear qhS); (try clear qhQ); (try clear qhXA); (try clear qhXB); clear hb; (try have qhS := fun i => Blk.cell hS i); (try have qhQ := fun i => Blk.cell hQ i); (try have qhXA := fun i => Blk.cell hXA i); (try have qhXB := fun i => Blk.cell hXB i)))
  clear HPL HPE
  go_upto_region 7 with ((go_at_call 68; refine (Mistaken_any Wn Hn F L X Y nl nh xl xh y A n cap fs _ hcap hcm (fun f h => ((hf f h).below hB).more hB.size) (rdB hr hB)).mono ?_; rintro e w1 ⟨rfl, hb⟩; rw [HM.out]; (try replace hS := hS.below hb hS.lt); (try replace hQ := hQ.below hb hQ.lt); (try replace hXA := hXA.below hb hXA.lt); (try replace hXB := hXB.below hb hXB.lt); (try replace hP := rdB hP hb); (try replace hC := rdB hC hb); (try replace hD := rdB hD hb); replace hB := hB.trans (hb.mono hB.size); (try clear qhS); (try clear qhQ); (try clear qhXA); (try clear qhXB); clear hb; (try have qhS := fun i => Blk.cell hS i); (try have qhQ := fun i => Blk.cell hQ i); (try have qhXA := fun i => Blk.cell hXA i); (try have qhXB := fun i => Blk.cell hXB i)))
  clear HM
  go_upto_region 9 with (fail)
  go_upto_region 11 with (fail)
  have hpn8 : pn ≤ 8 := by have h := hP.len; unfold castL at h; rw [List.length_map] at h; omega
  have hpl := hP.len
  unfold castL at hpl
  rw [List.length_map] at hpl
  clear hpl
  go_upto_region 13 with (first | (go_at_call 76; refine (refCells_any Wn Hn F L X Y pA pn pc (castL l) _ (by omega) hP (by omega) (by omega) (by omega) (by omega)).mono ?_; rintro e w1 ⟨rfl, hb⟩; rw [HPC.out]; (try replace hS := hS.below hb hS.lt); (try replace hQ := hQ.below hb hQ.lt); (try replace hXA := hXA.below hb hXA.lt); (try replace hXB := hXB.below hb hXB.lt); (try replace hP := rdB hP hb); (try replace hC := rdB hC hb); (try replace hD := rdB hD hb); replace hB := hB.trans (hb.mono hB.size); (try clear qhS); (try clear qhQ); (try clear qhXA); (try clear qhXB); clear hb; (try have qhS := fun i => Blk.cell hS i); (try have qhQ := fun i => Blk.cell hQ i); (try have qhXA := fun i => Blk.cell hXA i); (try have qhXB := fun i => Blk.cell hXB i)) | (go_at_call 79; refine (withinL_any CA kn kcap cs pA pn pc (castL l) _ (by omega) (by omega) (rdB hC0 hB) hP).mono ?_; rintro e w1 ⟨rfl, rfl⟩; rw [HPW.out]))
  clear HPC HPW HIS
  go_upto_region 14 with ((go_at_call_of 74 (Value.slice pA pn pc); refine (Enough_all Wn Hn F L X Y nl nh xl xh y A n cap fs pA pn pc (castL l) _ hcap hcm (fun f h => ((hf f h).below hB).more hB.size) (rdB hr hB) (by omega) hP (dif_small Wn Hn F L X Y nl nh xl xh y fs (castL l))).mono ?_; rintro e w1 ⟨rfl, hb⟩; rw [HEB3.out, HEE3.out]; (try replace hS := hS.below hb hS.lt); (try replace hQ := hQ.below hb hQ.lt); (try replace hXA := hXA.below hb hXA.lt); (try replace hXB := hXB.below hb hXB.lt); (try replace hP := rdB hP hb); (try replace hC := rdB hC hb); (try replace hD := rdB hD hb); replace hB := hB.trans (hb.mono hB.size); (try clear qhS); (try clear qhQ); (try clear qhXA); (try clear qhXB); clear hb; (try have qhS := fun i => Blk.cell hS i); (try have qhQ := fun i => Blk.cell hQ i); (try have qhXA := fun i => Blk.cell hXA i); (try have qhXB := fun i => Blk.cell hXB i)))
  clear HEB3 HEE3
  have hlen := hr.len
  have hi1 : (i1 : Int) < n := by omega
  have hi2 : (i2 : Int) < n := by omega
  rename World => WA
  have hrW := rdB hr hB
  obtain ⟨b, off, rfl, hbb, hcf⟩ := hrW.2 (by omega)
  have c1 : WA.cell? ⟨b, off + i1, none⟩ = some (Fig.val fs[i1]) := hcf i1 (Fig.val fs[i1]) (by simp [g1])
  have c2 : WA.cell? ⟨b, off + i2, none⟩ = some (Fig.val fs[i2]) := hcf i2 (Fig.val fs[i2]) (by simp [g2])
  have o1 := hf _ (List.getElem_mem g1)
  have o2 := hf _ (List.getElem_mem g2)
  rw [HG1.out] at c1 o1
  rw [HG2.out] at c2 o2
  simp only [Fig.val] at c1 c2
  obtain ⟨hc11, hc12, hs1, hR1⟩ := o1
  obtain ⟨hc21, hc22, hs2, hR2⟩ := o2
  dsimp only at hc11 hc12 hs1 hR1 hc21 hc22 hs2 hR2
  clear hcf HG1 HG2
  rename World => WR
  refine wp_region_G (fun w' => Below WR.drew.heap.size WR.drew w') 13 (by kernel_rfl) ?_
  replace hS := hS.drew
  replace hQ := hQ.drew
  replace hXA := hXA.drew
  replace hXB := hXB.drew
  replace hP : Rd WR.drew WR.drew.heap.size _ _ _ _ := hP
  replace hB := hB.drew
  (try clear qhS qhQ qhXA qhXB)
  replace hbb : b < WR.drew.heap.size := hbb
  replace c1 : WR.drew.cell? _ = _ := c1
  replace c2 : WR.drew.cell? _ = _ := c2
  generalize WR.drew = WD at *
  have hTT : Below WD.heap.size WD WD := Below.refl _ _
  refine wpG_take (i := 0) (v := ?vz1_0) rfl (by kernel_rfl) (by kernel_rfl) (by kernel_rfl) (by kernel_rfl) (fun _ _ _ h => h) (Or.inl ⟨by rfl, ?hyz1_0⟩) hTT ?restz1_0
  case hyz1_0 => intro wq hSw; have qhS := fun i => (Blk.below hS hSw hS.lt).cell i; have qhQ := fun i => (Blk.below hQ hSw hQ.lt).cell i; have qhXA := fun i => (Blk.below hXA hSw hXA.lt).cell i; have qhXB := fun i => (Blk.below hXB hSw hXB.lt).cell i; have e1 := (hSw.cell (p := ⟨b, off + i1, none⟩) hbb).trans c1; have e2 := (hSw.cell (p := ⟨b, off + i2, none⟩) hbb).trans c2; go_simp <;> with_reducible rfl
  simp only [List.getElem_toArray, List.getElem_cons_zero, List.getElem_cons_succ, Act.put, List.setIfInBounds_toArray, List.set_cons_zero, List.set_cons_succ]
  refine wpG_take (i := 1) (v := ?vz1_1) rfl (by kernel_rfl) (by kernel_rfl) (by kernel_rfl) (by kernel_rfl) (fun _ _ _ h => h) (Or.inl ⟨by rfl, ?hyz1_1⟩) hTT ?restz1_1
  case hyz1_1 => intro wq hSw; have qhS := fun i => (Blk.below hS hSw hS.lt).cell i; have qhQ := fun i => (Blk.below hQ hSw hQ.lt).cell i; have qhXA := fun i => (Blk.below hXA hSw hXA.lt).cell i; have qhXB := fun i => (Blk.below hXB hSw hXB.lt).cell i; have e1 := (hSw.cell (p := ⟨b, off + i1, none⟩) hbb).trans c1; have e2 := (hSw.cell (p := ⟨b, off + i2, none⟩) hbb).trans c2; go_simp <;> with_reducible rfl
  simp only [List.getElem_toArray, List.getElem_cons_zero, List.getElem_cons_succ, Act.put, List.setIfInBounds_toArray, List.set_cons_zero, List.set_cons_succ]
  refine wpG_take (i := 2) (v := ?vz1_2) rfl (by kernel_rfl) (by kernel_rfl) (by kernel_rfl) (by kernel_rfl) (fun _ _ _ h => h) (Or.inl ⟨by rfl, ?hyz1_2⟩) hTT ?restz1_2
  case hyz1_2 => intro wq hSw; have qhS := fun i => (Blk.below hS hSw hS.lt).cell i; have qhQ := fun i => (Blk.below hQ hSw hQ.lt).cell i; have qhXA := fun i => (Blk.below hXA hSw hXA.lt).cell i; have qhXB := fun i => (Blk.below hXB hSw hXB.lt).cell i; have e1 := (hSw.cell (p := ⟨b, off + i1, none⟩) hbb).trans c1; have e2 := (hSw.cell (p := ⟨b, off + i2, none⟩) hbb).trans c2; go_simp <;> with_reducible rfl
  simp only [List.getElem_toArray, List.getElem_cons_zero, List.getElem_cons_succ, Act.put, List.setIfInBounds_toArray, List.set_cons_zero, List.set_cons_succ]
  refine wpG_take (i := 3) (v := ?vz1_3) rfl (by kernel_rfl) (by kernel_rfl) (by kernel_rfl) (by kernel_rfl) (fun _ _ _ h => h) (Or.inl ⟨by rfl, ?hyz1_3⟩) hTT ?restz1_3
  case hyz1_3 => intro wq hSw; have qhS := fun i => (Blk.below hS hSw hS.lt).cell i; have qhQ := fun i => (Blk.below hQ hSw hQ.lt).cell i; have qhXA := fun i => (Blk.below hXA hSw hXA.lt).cell i; have qhXB := fun i => (Blk.below hXB hSw hXB.lt).cell i; have e1 := (hSw.cell (p := ⟨b, off + i1, none⟩) hbb).trans c1; have e2 := (hSw.cell (p := ⟨b, off + i2, none⟩) hbb).trans c2; go_simp <;> with_reducible rfl
  simp only [List.getElem_toArray, List.getElem_cons_zero, List.getElem_cons_succ, Act.put, List.setIfInBounds_toArray, List.set_cons_zero, List.set_cons_succ]
  refine wpG_take (i := 4) (v := ?vz1_4) rfl (by kernel_rfl) (by kernel_rfl) (by kernel_rfl) (by kernel_rfl) (fun _ _ _ h => h) (Or.inl ⟨by rfl, ?hyz1_4⟩) hTT ?restz1_4
  case hyz1_4 => intro wq hSw; have qhS := fun i => (Blk.below hS hSw hS.lt).cell i; have qhQ := fun i => (Blk.below hQ hSw hQ.lt).cell i; have qhXA := fun i => (Blk.below hXA hSw hXA.lt).cell i; have qhXB := fun i => (Blk.below hXB hSw hXB.lt).cell i; have e1 := (hSw.cell (p := ⟨b, off + i1, none⟩) hbb).trans c1; have e2 := (hSw.cell (p := ⟨b, off + i2, none⟩) hbb).trans c2; go_simp <;> with_reducible rfl
  simp only [List.getElem_toArray, List.getElem_cons_zero, List.getElem_cons_succ, Act.put, List.setIfInBounds_toArray, List.set_cons_zero, List.set_cons_succ]
  refine wpG_take (i := 5) (v := ?vz1_5) rfl (by kernel_rfl) (by kernel_rfl) (by kernel_rfl) (by kernel_rfl) (fun _ _ _ h => h) (Or.inl ⟨by rfl, ?hyz1_5⟩) hTT ?restz1_5
  case hyz1_5 => intro wq hSw; have qhS := fun i => (Blk.below hS hSw hS.lt).cell i; have qhQ := fun i => (Blk.below hQ hSw hQ.lt).cell i; have qhXA := fun i => (Blk.below hXA hSw hXA.lt).cell i; have qhXB := fun i => (Blk.below hXB hSw hXB.lt).cell i; have e1 := (hSw.cell (p := ⟨b, off + i1, none⟩) hbb).trans c1; have e2 := (hSw.cell (p := ⟨b, off + i2, none⟩) hbb).trans c2; go_simp <;> with_reducible rfl
  simp only [List.getElem_toArray, List.getElem_cons_zero, List.getElem_cons_succ, Act.put, List.setIfInBounds_toArray, List.set_cons_zero, List.set_cons_succ]
  refine wpG_take (i := 6) (v := ?vz1_6) rfl (by kernel_rfl) (by kernel_rfl) (by kernel_rfl) (by kernel_rfl) (fun _ _ _ h => h) (Or.inl ⟨by rfl, ?hyz1_6⟩) hTT ?restz1_6
  case hyz1_6 => intro wq hSw; have qhS := fun i => (Blk.below hS hSw hS.lt).cell i; have qhQ := fun i => (Blk.below hQ hSw hQ.lt).cell i; have qhXA := fun i => (Blk.below hXA hSw hXA.lt).cell i; have qhXB := fun i => (Blk.below hXB hSw hXB.lt).cell i; have e1 := (hSw.cell (p := ⟨b, off + i1, none⟩) hbb).trans c1; have e2 := (hSw.cell (p := ⟨b, off + i2, none⟩) hbb).trans c2; go_simp <;> with_reducible rfl
  simp only [List.getElem_toArray, List.getElem_cons_zero, List.getElem_cons_succ, Act.put, List.setIfInBounds_toArray, List.set_cons_zero, List.set_cons_succ]
  refine wpG_take (i := 7) (v := ?vz1_7) rfl (by kernel_rfl) (by kernel_rfl) (by kernel_rfl) (by kernel_rfl) (fun _ _ _ h => h) (Or.inl ⟨by rfl, ?hyz1_7⟩) hTT ?restz1_7
  case hyz1_7 => intro wq hSw; have qhS := fun i => (Blk.below hS hSw hS.lt).cell i; have qhQ := fun i => (Blk.below hQ hSw hQ.lt).cell i; have qhXA := fun i => (Blk.below hXA hSw hXA.lt).cell i; have qhXB := fun i => (Blk.below hXB hSw hXB.lt).cell i; have e1 := (hSw.cell (p := ⟨b, off + i1, none⟩) hbb).trans c1; have e2 := (hSw.cell (p := ⟨b, off + i2, none⟩) hbb).trans c2; go_simp <;> with_reducible rfl
  simp only [List.getElem_toArray, List.getElem_cons_zero, List.getElem_cons_succ, Act.put, List.setIfInBounds_toArray, List.set_cons_zero, List.set_cons_succ]
  refine wpG_one (i := 8) rfl (by kernel_rfl) (fun K hK => ?_)
  go_simp
  refine (Shadow_any Wn Hn F L X Y n1 x1 y1 A1 m1 cap1 rows1 _ hc11 hc12 hs1 (rdB hR1 hB)).mono ?_; rintro e w1 ⟨vv, rfl, own, hb⟩; rw [HEC.out]; rw [← HRC.out] at own; obtain ⟨hCA, hCc, rfl⟩ := own_slice own; have hC1 := own_le0 own; have hC2 := own_cap own; have hC := Rd.of_own own; clear own; replace hTT := hTT.trans (hb.mono hTT.size); replace hS := hS.below hb hS.lt; replace hQ := hQ.below hb hQ.lt; replace hXA := hXA.below hb hXA.lt; replace hXB := hXB.below hb hXB.lt; (try replace hP := rdB hP hb); (try replace hD := rdB hD hb); replace hB := hB.trans (hb.mono hB.size); replace c1 := (hb.cell (p := ⟨b, off + i1, none⟩) hbb).trans c1; replace c2 := (hb.cell (p := ⟨b, off + i2, none⟩) hbb).trans c2; replace hbb := Nat.lt_of_lt_of_le hbb hb.size; clear hb; dsimp only
  refine hK _ _ (.inr hTT) ?_
  clear hK K
  try simp only [List.getElem_toArray, List.getElem_cons_zero, List.getElem_cons_succ, Act.put, List.setIfInBounds_toArray, List.set_cons_zero, List.set_cons_succ]
  refine wpG_take (i := 9) (v := ?vz1_9) rfl (by kernel_rfl) (by kernel_rfl) (by kernel_rfl) (by kernel_rfl) (fun _ _ _ h => h) (Or.inl ⟨by rfl, ?hyz1_9⟩) hTT ?restz1_9
  case hyz1_9 => intro wq hSw; skip; go_simp <;> with_reducible rfl
  simp only [List.getElem_toArray, List.getElem_cons_zero, List.getElem_cons_succ, Act.put, List.setIfInBounds_toArray, List.set_cons_zero, List.set_cons_succ]
  refine wpG_take (i := 10) (v := ?vz1_10) rfl (by kernel_rfl) (by kernel_rfl) (by kernel_rfl) (by kernel_rfl) (fun _ _ _ h => h) (Or.inl ⟨by rfl, ?hyz1_10⟩) hTT ?restz1_10
  case hyz1_10 => intro wq hSw; skip; go_simp <;> with_reducible rfl
  simp only [List.getElem_toArray, List.getElem_cons_zero, List.getElem_cons_succ, Act.put, List.setIfInBounds_toArray, List.set_cons_zero, List.set_cons_succ]
  refine wpG_take (i := 11) (v := ?vz1_11) rfl (by kernel_rfl) (by kernel_rfl) (by kernel_rfl) (by kernel_rfl) (fun _ _ _ h => h) (Or.inl ⟨by rfl, ?hyz1_11⟩) hTT ?restz1_11
  case hyz1_11 => intro wq hSw; skip; go_simp <;> with_reducible rfl
  simp only [List.getElem_toArray, List.getElem_cons_zero, List.getElem_cons_succ, Act.put, List.setIfInBounds_toArray, List.set_cons_zero, List.set_cons_succ]
  refine wpG_take (i := 12) (v := ?vz1_12) rfl (by kernel_rfl) (by kernel_rfl) (by kernel_rfl) (by kernel_rfl) (fun _ _ _ h => h) (Or.inl ⟨by rfl, ?hyz1_12⟩) hTT ?restz1_12
  case hyz1_12 => intro wq hSw; skip; go_simp <;> with_reducible rfl
  simp only [List.getElem_toArray, List.getElem_cons_zero, List.getElem_cons_succ, Act.put, List.setIfInBounds_toArray, List.set_cons_zero, List.set_cons_succ]
  refine wpG_one (i := 13) rfl (by kernel_rfl) (fun K hK => ?_)
  go_simp
  refine hK _ _ (.inl rfl) ?_
  clear hK K
  try simp only [List.getElem_toArray, List.getElem_cons_zero, List.getElem_cons_succ, Act.put, List.setIfInBounds_toArray, List.set_cons_zero, List.set_cons_succ]
  refine wpG_done (by kernel_rfl) ?_ _
  clear hTT
  have qhS := fun i => Blk.cell hS i
  have qhQ := fun i => Blk.cell hQ i
  have qhXA := fun i => Blk.cell hXA i
  have qhXB := fun i => Blk.cell hXB i
  go_upto_region 15 with (fail)
  rename World => WR
  refine wp_region_G (fun w' => Below WR.drew.heap.size WR.drew w') 13 (by kernel_rfl) ?_
  replace hS := hS.drew
  replace hQ := hQ.drew
  replace hXA := hXA.drew
  replace hXB := hXB.drew
  replace hP : Rd WR.drew WR.drew.heap.size _ _ _ _ := hP
  replace hC : Rd WR.drew WR.drew.heap.size _ _ _ _ := hC
  replace hB := hB.drew
  (try clear qhS qhQ qhXA qhXB)
  replace hbb : b < WR.drew.heap.size := hbb
  replace c1 : WR.drew.cell? _ = _ := c1
  replace c2 : WR.drew.cell? _ = _ := c2
  generalize WR.drew = WD at *
  have hTT : Below WD.heap.size WD WD := Below.refl _ _
  refine wpG_take (i := 0) (v := ?vz2_0) rfl (by kernel_rfl) (by kernel_rfl) (by kernel_rfl) (by kernel_rfl) (fun _ _ _ h => h) (Or.inl ⟨by rfl, ?hyz2_0⟩) hTT ?restz2_0
  case hyz2_0 => intro wq hSw; have qhS := fun i => (Blk.below hS hSw hS.lt).cell i; have qhQ := fun i => (Blk.below hQ hSw hQ.lt).cell i; have qhXA := fun i => (Blk.below hXA hSw hXA.lt).cell i; have qhXB := fun i => (Blk.below hXB hSw hXB.lt).cell i; have e1 := (hSw.cell (p := ⟨b, off + i1, none⟩) hbb).trans c1; have e2 := (hSw.cell (p := ⟨b, off + i2, none⟩) hbb).trans c2; go_simp <;> with_reducible rfl
  simp only [List.getElem_toArray, List.getElem_cons_zero, List.getElem_cons_succ, Act.put, List.setIfInBounds_toArray, List.set_cons_zero, List.set_cons_succ]
  refine wpG_take (i := 1) (v := ?vz2_1) rfl (by kernel_rfl) (by kernel_rfl) (by kernel_rfl) (by kernel_rfl) (fun _ _ _ h => h) (Or.inl ⟨by rfl, ?hyz2_1⟩) hTT ?restz2_1
  case hyz2_1 => intro wq hSw; have qhS := fun i => (Blk.below hS hSw hS.lt).cell i; have qhQ := fun i => (Blk.below hQ hSw hQ.lt).cell i; have qhXA := fun i => (Blk.below hXA hSw hXA.lt).cell i; have qhXB := fun i => (Blk.below hXB hSw hXB.lt).cell i; have e1 := (hSw.cell (p := ⟨b, off + i1, none⟩) hbb).trans c1; have e2 := (hSw.cell (p := ⟨b, off + i2, none⟩) hbb).trans c2; go_simp <;> with_reducible rfl
  simp only [List.getElem_toArray, List.getElem_cons_zero, List.getElem_cons_succ, Act.put, List.setIfInBounds_toArray, List.set_cons_zero, List.set_cons_succ]
  refine wpG_take (i := 2) (v := ?vz2_2) rfl (by kernel_rfl) (by kernel_rfl) (by kernel_rfl) (by kernel_rfl) (fun _ _ _ h => h) (Or.inl ⟨by rfl, ?hyz2_2⟩) hTT ?restz2_2
  case hyz2_2 => intro wq hSw; have qhS := fun i => (Blk.below hS hSw hS.lt).cell i; have qhQ := fun i => (Blk.below hQ hSw hQ.lt).cell i; have qhXA := fun i => (Blk.below hXA hSw hXA.lt).cell i; have qhXB := fun i => (Blk.below hXB hSw hXB.lt).cell i; have e1 := (hSw.cell (p := ⟨b, off + i1, none⟩) hbb).trans c1; have e2 := (hSw.cell (p := ⟨b, off + i2, none⟩) hbb).trans c2; go_simp <;> with_reducible rfl
  simp only [List.getElem_toArray, List.getElem_cons_zero, List.getElem_cons_succ, Act.put, List.setIfInBounds_toArray, List.set_cons_zero, List.set_cons_succ]
  refine wpG_take (i := 3) (v := ?vz2_3) rfl (by kernel_rfl) (by kernel_rfl) (by kernel_rfl) (by kernel_rfl) (fun _ _ _ h => h) (Or.inl ⟨by rfl, ?hyz2_3⟩) hTT ?restz2_3
  case hyz2_3 => intro wq hSw; have qhS := fun i => (Blk.below hS hSw hS.lt).cell i; have qhQ := fun i => (Blk.below hQ hSw hQ.lt).cell i; have qhXA := fun i => (Blk.below hXA hSw hXA.lt).cell i; have qhXB := fun i => (Blk.below hXB hSw hXB.lt).cell i; have e1 := (hSw.cell (p := ⟨b, off + i1, none⟩) hbb).trans c1; have e2 := (hSw.cell (p := ⟨b, off + i2, none⟩) hbb).trans c2; go_simp <;> with_reducible rfl
  simp only [List.getElem_toArray, List.getElem_cons_zero, List.getElem_cons_succ, Act.put, List.setIfInBounds_toArray, List.set_cons_zero, List.set_cons_succ]
  refine wpG_take (i := 4) (v := ?vz2_4) rfl (by kernel_rfl) (by kernel_rfl) (by kernel_rfl) (by kernel_rfl) (fun _ _ _ h => h) (Or.inl ⟨by rfl, ?hyz2_4⟩) hTT ?restz2_4
  case hyz2_4 => intro wq hSw; have qhS := fun i => (Blk.below hS hSw hS.lt).cell i; have qhQ := fun i => (Blk.below hQ hSw hQ.lt).cell i; have qhXA := fun i => (Blk.below hXA hSw hXA.lt).cell i; have qhXB := fun i => (Blk.below hXB hSw hXB.lt).cell i; have e1 := (hSw.cell (p := ⟨b, off + i1, none⟩) hbb).trans c1; have e2 := (hSw.cell (p := ⟨b, off + i2, none⟩) hbb).trans c2; go_simp <;> with_reducible rfl
  simp only [List.getElem_toArray, List.getElem_cons_zero, List.getElem_cons_succ, Act.put, List.setIfInBounds_toArray, List.set_cons_zero, List.set_cons_succ]
  refine wpG_take (i := 5) (v := ?vz2_5) rfl (by kernel_rfl) (by kernel_rfl) (by kernel_rfl) (by kernel_rfl) (fun _ _ _ h => h) (Or.inl ⟨by rfl, ?hyz2_5⟩) hTT ?restz2_5
  case hyz2_5 => intro wq hSw; have qhS := fun i => (Blk.below hS hSw hS.lt).cell i; have qhQ := fun i => (Blk.below hQ hSw hQ.lt).cell i; have qhXA := fun i => (Blk.below hXA hSw hXA.lt).cell i; have qhXB := fun i => (Blk.below hXB hSw hXB.lt).cell i; have e1 := (hSw.cell (p := ⟨b, off + i1, none⟩) hbb).trans c1; have e2 := (hSw.cell (p := ⟨b, off + i2, none⟩) hbb).trans c2; go_simp <;> with_reducible rfl
  simp only [List.getElem_toArray, List.getElem_cons_zero, List.getElem_cons_succ, Act.put, List.setIfInBounds_toArray, List.set_cons_zero, List.set_cons_succ]
  refine wpG_take (i := 6) (v := ?vz2_6) rfl (by kernel_rfl) (by kernel_rfl) (by kernel_rfl) (by kernel_rfl) (fun _ _ _ h => h) (Or.inl ⟨by rfl, ?hyz2_6⟩) hTT ?restz2_6
  case hyz2_6 => intro wq hSw; have qhS := fun i => (Blk.below hS hSw hS.lt).cell i; have qhQ := fun i => (Blk.below hQ hSw hQ.lt).cell i; have qhXA := fun i => (Blk.below hXA hSw hXA.lt).cell i; have qhXB := fun i => (Blk.below hXB hSw hXB.lt).cell i; have e1 := (hSw.cell (p := ⟨b, off + i1, none⟩) hbb).trans c1; have e2 := (hSw.cell (p := ⟨b, off + i2, none⟩) hbb).trans c2; go_simp <;> with_reducible rfl
  simp only [List.getElem_toArray, List.getElem_cons_zero, List.getElem_cons_succ, Act.put, List.setIfInBounds_toArray, List.set_cons_zero, List.set_cons_succ]
  refine wpG_take (i := 7) (v := ?vz2_7) rfl (by kernel_rfl) (by kernel_rfl) (by kernel_rfl) (by kernel_rfl) (fun _ _ _ h => h) (Or.inl ⟨by rfl, ?hyz2_7⟩) hTT ?restz2_7
  case hyz2_7 => intro wq hSw; have qhS := fun i => (Blk.below hS hSw hS.lt).cell i; have qhQ := fun i => (Blk.below hQ hSw hQ.lt).cell i; have qhXA := fun i => (Blk.below hXA hSw hXA.lt).cell i; have qhXB := fun i => (Blk.below hXB hSw hXB.lt).cell i; have e1 := (hSw.cell (p := ⟨b, off + i1, none⟩) hbb).trans c1; have e2 := (hSw.cell (p := ⟨b, off + i2, none⟩) hbb).trans c2; go_simp <;> with_reducible rfl
  simp only [List.getElem_toArray, List.getElem_cons_zero, List.getElem_cons_succ, Act.put, List.setIfInBounds_toArray, List.set_cons_zero, List.set_cons_succ]
  refine wpG_one (i := 8) rfl (by kernel_rfl) (fun K hK => ?_)
  go_simp
  refine (Shadow_any Wn Hn F L X Y n2 x2 y2 A2 m2 cap2 rows2 _ hc21 hc22 hs2 (rdB hR2 hB)).mono ?_; rintro e w1 ⟨vv, rfl, own, hb⟩; rw [HED.out]; rw [← HRD.out] at own; obtain ⟨hDA, hDc, rfl⟩ := own_slice own; have hD1 := own_le0 own; have hD2 := own_cap own; have hD := Rd.of_own own; clear own; replace hTT := hTT.trans (hb.mono hTT.size); replace hS := hS.below hb hS.lt; replace hQ := hQ.below hb hQ.lt; replace hXA := hXA.below hb hXA.lt; replace hXB := hXB.below hb hXB.lt; (try replace hP := rdB hP hb); (try replace hC := rdB hC hb); replace hB := hB.trans (hb.mono hB.size); clear c1 c2; replace hbb := Nat.lt_of_lt_of_le hbb hb.size; clear hb; dsimp only
  refine hK _ _ (.inr hTT) ?_
  clear hK K
  try simp only [List.getElem_toArray, List.getElem_cons_zero, List.getElem_cons_succ, Act.put, List.setIfInBounds_toArray, List.set_cons_zero, List.set_cons_succ]
  refine wpG_take (i := 9) (v := ?vz2_9) rfl (by kernel_rfl) (by kernel_rfl) (by kernel_rfl) (by kernel_rfl) (fun _ _ _ h => h) (Or.inl ⟨by rfl, ?hyz2_9⟩) hTT ?restz2_9
  case hyz2_9 => intro wq hSw; skip; go_simp <;> with_reducible rfl
  simp only [List.getElem_toArray, List.getElem_cons_zero, List.getElem_cons_succ, Act.put, List.setIfInBounds_toArray, List.set_cons_zero, List.set_cons_succ]
  refine wpG_take (i := 10) (v := ?vz2_10) rfl (by kernel_rfl) (by kernel_rfl) (by kernel_rfl) (by kernel_rfl) (fun _ _ _ h => h) (Or.inl ⟨by rfl, ?hyz2_10⟩) hTT ?restz2_10
  case hyz2_10 => intro wq hSw; skip; go_simp <;> with_reducible rfl
  simp only [List.getElem_toArray, List.getElem_cons_zero, List.getElem_cons_succ, Act.put, List.setIfInBounds_toArray, List.set_cons_zero, List.set_cons_succ]
  refine wpG_take (i := 11) (v := ?vz2_11) rfl (by kernel_rfl) (by kernel_rfl) (by kernel_rfl) (by kernel_rfl) (fun _ _ _ h => h) (Or.inl ⟨by rfl, ?hyz2_11⟩) hTT ?restz2_11
  case hyz2_11 => intro wq hSw; skip; go_simp <;> with_reducible rfl
  simp only [List.getElem_toArray, List.getElem_cons_zero, List.getElem_cons_succ, Act.put, List.setIfInBounds_toArray, List.set_cons_zero, List.set_cons_succ]
  refine wpG_take (i := 12) (v := ?vz2_12) rfl (by kernel_rfl) (by kernel_rfl) (by kernel_rfl) (by kernel_rfl) (fun _ _ _ h => h) (Or.inl ⟨by rfl, ?hyz2_12⟩) hTT ?restz2_12
  case hyz2_12 => intro wq hSw; skip; go_simp <;> with_reducible rfl
  simp only [List.getElem_toArray, List.getElem_cons_zero, List.getElem_cons_succ, Act.put, List.setIfInBounds_toArray, List.set_cons_zero, List.set_cons_succ]
  refine wpG_one (i := 13) rfl (by kernel_rfl) (fun K hK => ?_)
  go_simp
  refine hK _ _ (.inl rfl) ?_
  clear hK K
  try simp only [List.getElem_toArray, List.getElem_cons_zero, List.getElem_cons_succ, Act.put, List.setIfInBounds_toArray, List.set_cons_zero, List.set_cons_succ]
  refine wpG_done (by kernel_rfl) ?_ _
  clear hTT
  have qhS := fun i => Blk.cell hS i
  have qhQ := fun i => Blk.cell hQ i
  have qhXA := fun i => Blk.cell hXA i
  have qhXB := fun i => Blk.cell hXB i
  clear hR1 hR2 hs1 hs2 HEC HED HRC HRD hc11 hc12 hc21 hc22
  go_upto_region 16 with (fail)
  go_upto_region 18 with (first | (go_at_call 35; have hx := hwdone; clear hx; refine (whole_any Wn Hn F L X Y hDA rsD.length hDc rsD _ hld hsd hD).mono ?_; rintro e w1 ⟨rfl, hb⟩; rw [HWD.out]; clear hwdone; (try replace hS := hS.below hb hS.lt); (try replace hQ := hQ.below hb hQ.lt); (try replace hXA := hXA.below hb hXA.lt); (try replace hXB := hXB.below hb hXB.lt); (try replace hP := rdB hP hb); (try replace hC := rdB hC hb); (try replace hD := rdB hD hb); replace hB := hB.trans (hb.mono hB.size); (try clear qhS); (try clear qhQ); (try clear qhXA); (try clear qhXB); clear hb; (try have qhS := fun i => Blk.cell hS i); (try have qhQ := fun i => Blk.cell hQ i); (try have qhXA := fun i => Blk.cell hXA i); (try have qhXB := fun i => Blk.cell hXB i)) | (go_at_call 35; refine (whole_any Wn Hn F L X Y hCA rsC.length hCc rsC _ hlc hsc hC).mono ?_; rintro e w1 ⟨rfl, hb⟩; rw [HWC.out]; have hwdone : (0 : Nat) = 0 := rfl; (try replace hS := hS.below hb hS.lt); (try replace hQ := hQ.below hb hQ.lt); (try replace hXA := hXA.below hb hXA.lt); (try replace hXB := hXB.below hb hXB.lt); (try replace hP := rdB hP hb); (try replace hC := rdB hC hb); (try replace hD := rdB hD hb); replace hB := hB.trans (hb.mono hB.size); (try clear qhS); (try clear qhQ); (try clear qhXA); (try clear qhXB); clear hb; (try have qhS := fun i => Blk.cell hS i); (try have qhQ := fun i => Blk.cell hQ i); (try have qhXA := fun i => Blk.cell hXA i); (try have qhXB := fun i => Blk.cell hXB i)))
  clear HWC HWD
  obtain ⟨ef, hef⟩ : ∃ ef, ef = (i1 == i2) := ⟨_, rfl⟩
  have hfe : ((i1 : Int) == (i2 : Int)) = ef := by rw [hef, Bool.eq_iff_iff, beq_iff_eq, beq_iff_eq]; omega
  have HFE := Lib.hid hef; clear hef
  go_wp2_with (fail)
  have hdone := HFE
  go_loopg [30, 31] pn (fun g mt i wr => ∃ (k : Nat) (mv : Bool), g = pn - k ∧ k ≤ pn ∧ i = .int .i64 k ∧ mt = .bool mv ∧ mv = (ef || (l.take k).any (fun c => clB (zC c) (zD c))) ∧ Rd wr wr.heap.size 1 pA pn ((castL l).map (Value.int .i64)) ∧ Rd wr wr.heap.size 1 hCA rsC.length (rsC.map Value.string) ∧ Rd wr wr.heap.size 1 hDA rsD.length (rsD.map Value.string) ∧ Blk wr w.heap.size 23 #[.int .i64 Wn, .int .i64 Hn, .int .i64 F, .int .i64 L, .int .i64 X, .int .i64 Y] ∧ Below w.heap.size w wr)
  case atStart => exact ⟨0, ef, rfl, Nat.zero_le _, rfl, rfl, by simp, hP, hC, hD, hS, hB⟩
  case round =>
    clear hP hC hD hS hB qhS qhQ qhXA qhXB hQ hXA hXB
    obtain ⟨k, mv, hg, hk, rfl, rfl, hmv, hP, hC, hD, hS, hB⟩ := hrel
    have HG := Lib.hid hg; have HMV := Lib.hid hmv; clear hg hmv
    have hpl := hP.len
    rename World => W4
    by_cases hlt : k < pn
    · have hlti : (k : Int) < pn := by omega
      obtain ⟨bP, oP, hzc, rfl, hbP, hcc⟩ := hP.atm hlt
      have hzl : k < l.length := by unfold castL at hzc; rw [List.length_map] at hzc; exact hzc
      have hce : (castL l)[k] = ((l[k] : Nat) : Int) := (List.getElem?_eq_some_iff.1 (show (castL l)[k]? = some ((l[k] : Nat) : Int) by simp [castL, hzl])).2
      rw [hce] at hcc
      have hts := any_take_succ (fun c => clB (zC c) (zD c)) l k hzl
      obtain ⟨hc10, ⟨ri, ri1, ri2, ri3⟩, rk, rk1, rk2, rk3⟩ := HCC.out _ (List.getElem_mem hzl)
      have hki := fun p : Blw W4.heap.size W4 => Cell_any Wn Hn F L X Y hCA rsC.length hCc rsC ri l[k] (zC l[k]) p.to (by omega) (by omega) hc10 ri1 ri2 ri3 (rdB hC p.h)
      have hkk := fun p : Blw W4.heap.size W4 => Cell_any Wn Hn F L X Y hDA rsD.length hDc rsD rk l[k] (zD l[k]) p.to (by omega) (by omega) hc10 rk1 rk2 rk3 (rdB hD p.h)
      (try dsimp only at hts)
      generalize l[k] = c at *
      generalize hzC : zC c = zi at *
      generalize hzD : zD c = zk at *
      have HTS := Lib.hid hts; clear hts hce hzC hzD hzc
      have hbs := fun p i => blw_blk hS p i
      have q1 := fun p : Blw W4.heap.size W4 => blw_cell (a := ⟨bP, oP + k, none⟩) hbP hcc p
      have HPL2 := Lib.hid hpl; clear hpl
      go_upto_region 22 with (fail)
      cases mv
      rotate_left
      · as_aux_lemma =>
          refine wp_region_blw (by kernel_rfl) (by kernel_rfl) ?_
          repeat (go_big_quiet_step (fail))
          refine wpQuiet_nil ?_
          rintro W5 ⟨⟨_, hb5⟩, rfl⟩
          clear q1 hbs
          go_wp2_with (fail)
          go_roundg (pn - (k + 1))
          case measure => rw [HG.out]; omega
          case rel => exact ⟨k + 1, true, rfl, by omega, by go_num, rfl, by rw [HTS.out, ← Bool.or_assoc, ← HMV.out]; rfl, rdB hP hb5, rdB hC hb5, rdB hD hb5, hS.below hb5 hS.lt, hB.trans (hb5.mono hB.size)⟩
      · cases hcb : clB zi zk
        all_goals
          as_aux_lemma =>
            refine wp_region_blw (by kernel_rfl) (by kernel_rfl) ?_
            repeat (go_big_quiet_step (first | (go_at_call_of 66 (Value.slice hCA rsC.length hCc); exact Calls.blw_of _ (hki _)) | (go_at_call_of 66 (Value.slice hDA rsD.length hDc); exact Calls.blw_of _ (hkk _)) | (go_at_call 81; exact Calls.blw_of_same _ (hcb ▸ Opposed_any _ _ _))))
            refine wpQuiet_nil ?_
            rintro W5 ⟨⟨_, hb5⟩, rfl⟩
            clear q1 hbs
            go_wp2_with (fail)
            go_roundg (pn - (k + 1))
            case measure => rw [HG.out]; omega
            case rel => exact ⟨k + 1, _, rfl, by omega, by go_num, rfl, by rw [HTS.out, ← Bool.or_assoc, ← HMV.out, hcb]; rfl, rdB hP hb5, rdB hC hb5, rdB hD hb5, hS.below hb5 hS.lt, hB.trans (hb5.mono hB.size)⟩
    · obtain rfl : k = pn := by omega
      have hge : ¬ (k : Int) < k := by omega
      have hmt : mv = true := by
        rw [HMV.out, HFE.out, List.take_of_length_le (by unfold castL at hpl; rw [List.length_map] at hpl; omega)]
        exact HFIN.out
      subst hmt
      clear hpl
      go_wp2_with ((go_at_call 24; refine (known_true m _ (known_at hm hB)).mono ?_; rintro e w1 ⟨rfl, hb⟩; replace hB := hB.trans (hb.mono hB.size)))
      go_ret
      exact ⟨rfl, hB⟩
set_option maxRecDepth 100000 in
set_option maxHeartbeats 25600000 in
theorem proof_b (Wn Hn : Nat) (F L X Y nl nh xl xh y n1 x1 y1 n2 x2 y2 : Int) (i1 i2 : Nat) (A : Option Addr) (n cap : Nat) (fs : List Fig) (CA : Option Addr) (kn kcap : Nat) (cs : List Int) (OA : Option Addr) (on ocap : Nat) (os : List Int) (m : Int) (w : World) (hm : w.cell? ⟨0, 0, none⟩ = some (.int .i64 m)) (hcap : n ≤ cap) (hcm : cap ≤ maxLen) (hf : ∀ f ∈ fs, f.ok w w.heap.size) (hr : Rd w w.heap.size 1 A n (fs.map Fig.val)) (hkn : kn ≤ kcap) (hkcm : kcap ≤ maxLen) (hC0 : Rd w w.heap.size 1 CA kn (cs.map (Value.int .i64))) (hon : on ≤ ocap) (hocm : ocap ≤ maxLen) (hO0 : Rd w w.heap.size 1 OA on (os.map (Value.int .i64))) (hfw : fewB fs = true) (hle : kn ≤ 10) (hol : on ≤ 10) (hst : stageB Wn Hn F L X Y = true) (hcel : cellsB Wn Hn cs = true) (hak : askV (askB Wn Hn F L X Y nl nh xl xh y fs && true) = 0) (hocel : cellsB Wn Hn os = true) (hwi : withB cs os = true) (hrx : readB n nl nh xl xh y i1 n1 x1 y1 = true) (hry : readB n nl nh xl xh y i2 n2 x2 y2 = true) (hdm : (1 ≤ Wn ∧ Wn ≤ 100) ∧ (1 ≤ Hn ∧ Hn ≤ 100)) (A1 : Option Addr) (m1 cap1 : Nat) (rows1 : List ByteArray) (A2 : Option Addr) (m2 cap2 : Nat) (rows2 : List ByteArray) (rsC rsD : List ByteArray) (zC zD : Nat → Int) (l : List Nat)
    (g1 : i1 < fs.length) (g2 : i2 < fs.length) (HG1 : Hid (fs[i1] = ⟨A1, m1, cap1, rows1⟩)) (HG2 : Hid (fs[i2] = ⟨A2, m2, cap2, rows2⟩))
    (HEC : Hid (errV (viewB Wn Hn F L X Y n1 x1 y1 rows1) = .int .i64 0)) (HED : Hid (errV (viewB Wn Hn F L X Y n2 x2 y2 rows2) = .int .i64 0)) (HRC : Hid (rsC = shadowRows Wn Hn F L X Y n1 x1 y1 rows1)) (HRD : Hid (rsD = shadowRows Wn Hn F L X Y n2 x2 y2 rows2))
    (hlc : rsC.length ≤ 100000) (hld : rsD.length ≤ 100000) (hsc : ∀ r ∈ rsC, r.size ≤ 100000) (hsd : ∀ r ∈ rsD, r.size ≤ 100000) (HWC : Hid (wholeB Wn Hn rsC = true)) (HWD : Hid (wholeB Wn Hn rsD = true))
    (HCC : Hid (∀ c ∈ l, c ≤ 10000 ∧ (∃ r, rsC[c / Wn]? = some r ∧ (ltr r)[c % Wn]? = some (zC c) ∧ r.size ≤ 10000) ∧ (∃ r, rsD[c / Wn]? = some r ∧ (ltr r)[c % Wn]? = some (zD c) ∧ r.size ≤ 10000)))
    (HFIN : Hid (((i1 == i2) || l.any (fun c => clB (zC c) (zD c))) = true)) (HEB1 : Hid (enoughB Wn Hn F L X Y nl nh xl xh y fs cs = true)) (HEE1 : Hid (enoughE Wn Hn F L X Y nl nh xl xh y fs cs = 0)) (HEB2 : Hid (enoughB Wn Hn F L X Y nl nh xl xh y fs os = true)) (HEE2 : Hid (enoughE Wn Hn F L X Y nl nh xl xh y fs os = 0)) (HPL : Hid ((planL Wn Hn F L X Y nl nh xl xh y fs cs).map natV = (castL l).map (Value.int .i64))) (HPE : Hid (planE Wn Hn F L X Y nl nh xl xh y fs cs = 0)) (HM : Hid (mistR Wn Hn F L X Y nl nh xl xh y fs = #[.int .i64 0, .int .i64 0, .int .i64 5])) (hl8 : l.length ≤ 8) (HPC : Hid (cellsB Wn Hn (castL l) = true)) (HPW : Hid (withB cs (castL l) = true)) (HEB3 : Hid (enoughB Wn Hn F L X Y nl nh xl xh y fs (castL l) = true)) (HEE3 : Hid (enoughE Wn Hn F L X Y nl nh xl xh y fs (castL l) = 0)) (HIS : Hid (true = true → l.length ≤ os.length ∧ (os.length = l.length → befB os (castL l) = false))) (heq : on ≠ l.length) :
    Calls Tryz.prog 17 #[.agg #[.int .i64 Wn, .int .i64 Hn, .int .i64 F, .int .i64 L, .int .i64 X, .int .i64 Y], .slice A n cap, .agg #[.int .i64 nl, .int .i64 nh, .int .i64 xl, .int .i64 xh, .int .i64 y], .slice CA kn kcap, .slice OA on ocap, .agg #[.int .i64 (i1 : Nat), .int .i64 n1, .int .i64 x1, .int .i64 y1], .agg #[.int .i64 (i2 : Nat), .int .i64 n2, .int .i64 x2, .int .i64 y2]] w fun e w' => e = .returned (.bool true) ∧ Below w.heap.size w w' := by
  have hn : n ≤ maxLen := Nat.le_trans hcap hcm
  have hle0 : ¬ (10 : Int) < kn := by omega
  have hol0 : ¬ (10 : Int) < on := by omega
  obtain ⟨⟨d1, d2⟩, d3, d4⟩ := hdm
  go_enter Tryz.func17, Tryz.ntmps17
  go_upto_region 1 with (fail)
  have hS := blk4_0 w (.cells #[.int .i64 nl, .int .i64 nh, .int .i64 xl, .int .i64 xh, .int .i64 y] 71) (.cells #[.int .i64 (i1 : Nat), .int .i64 n1, .int .i64 x1, .int .i64 y1] 86) (.cells #[.int .i64 (i2 : Nat), .int .i64 n2, .int .i64 x2, .int .i64 y2] 86) 23 #[.int .i64 Wn, .int .i64 Hn, .int .i64 F, .int .i64 L, .int .i64 X, .int .i64 Y]
  have hQ := blk4_1 w (.cells #[.int .i64 Wn, .int .i64 Hn, .int .i64 F, .int .i64 L, .int .i64 X, .int .i64 Y] 23) (.cells #[.int .i64 (i1 : Nat), .int .i64 n1, .int .i64 x1, .int .i64 y1] 86) (.cells #[.int .i64 (i2 : Nat), .int .i64 n2, .int .i64 x2, .int .i64 y2] 86) 71 #[.int .i64 nl, .int .i64 nh, .int .i64 xl, .int .i64 xh, .int .i64 y]
  have hXA := blk4_2 w (.cells #[.int .i64 Wn, .int .i64 Hn, .int .i64 F, .int .i64 L, .int .i64 X, .int .i64 Y] 23) (.cells #[.int .i64 nl, .int .i64 nh, .int .i64 xl, .int .i64 xh, .int .i64 y] 71) (.cells #[.int .i64 (i2 : Nat), .int .i64 n2, .int .i64 x2, .int .i64 y2] 86) 86 #[.int .i64 (i1 : Nat), .int .i64 n1, .int .i64 x1, .int .i64 y1]
  have hXB := blk4_3 w (.cells #[.int .i64 Wn, .int .i64 Hn, .int .i64 F, .int .i64 L, .int .i64 X, .int .i64 Y] 23) (.cells #[.int .i64 nl, .int .i64 nh, .int .i64 xl, .int .i64 xh, .int .i64 y] 71) (.cells #[.int .i64 (i1 : Nat), .int .i64 n1, .int .i64 x1, .int .i64 y1] 86) 86 #[.int .i64 (i2 : Nat), .int .i64 n2, .int .i64 x2, .int .i64 y2]
  have hB := pro_4 w (.cells #[.int .i64 Wn, .int .i64 Hn, .int .i64 F, .int .i64 L, .int .i64 X, .int .i64 Y] 23) (.cells #[.int .i64 nl, .int .i64 nh, .int .i64 xl, .int .i64 xh, .int .i64 y] 71) (.cells #[.int .i64 (i1 : Nat), .int .i64 n1, .int .i64 x1, .int .i64 y1] 86) (.cells #[.int .i64 (i2 : Nat), .int .i64 n2, .int .i64 x2, .int .i64 y2] 86)
  generalize (((w.alloc (.cells #[.int .i64 Wn, .int .i64 Hn, .int .i64 F, .int .i64 L, .int .i64 X, .int .i64 Y] 23)).alloc (.cells #[.int .i64 nl, .int .i64 nh, .int .i64 xl, .int .i64 xh, .int .i64 y] 71)).alloc (.cells #[.int .i64 (i1 : Nat), .int .i64 n1, .int .i64 x1, .int .i64 y1] 86)).alloc (.cells #[.int .i64 (i2 : Nat), .int .i64 n2, .int .i64 x2, .int .i64 y2] 86) = W0 at *
  have qhS := fun i => Blk.cell hS i
  have qhQ := fun i => Blk.cell hQ i
  have qhXA := fun i => Blk.cell hXA i
  have qhXB := fun i => Blk.cell hXB i
  have k39 : ∀ p : Blw W0.heap.size W0, Calls Tryz.prog 39 #[.slice A n cap] p.to fun e w' => e = .returned (.bool true) ∧ p.to = w' := fun p => by have h := few_any A n cap fs p.to hn (fun f h => ((hf f h).below (hB.trans (p.h.mono hB.size))).more (Nat.le_trans hB.size p.h.size)) (rdB hr (hB.trans (p.h.mono hB.size))); rw [hfw] at h; exact h
  have k27 : ∀ p : Blw W0.heap.size W0, Calls Tryz.prog 27 #[.agg #[.int .i64 Wn, .int .i64 Hn, .int .i64 F, .int .i64 L, .int .i64 X, .int .i64 Y]] p.to fun e w' => e = .returned (.bool true) ∧ Below p.to.heap.size p.to w' := fun p => by have h := Stage_any Wn Hn F L X Y p.to; rw [hst] at h; exact h
  have k76 : ∀ p : Blw W0.heap.size W0, Calls Tryz.prog 76 #[.agg #[.int .i64 Wn, .int .i64 Hn, .int .i64 F, .int .i64 L, .int .i64 X, .int .i64 Y], .slice CA kn kcap] p.to fun e w' => e = .returned (.bool true) ∧ Below p.to.heap.size p.to w' := fun p => by have h := refCells_any Wn Hn F L X Y CA kn kcap cs p.to (by omega) (rdB hC0 (hB.trans (p.h.mono hB.size))) (by omega) (by omega) (by omega) (by omega); rw [hcel] at h; exact h
  have k54 : ∀ p : Blw W0.heap.size W0, Calls Tryz.prog 54 #[.agg #[.int .i64 Wn, .int .i64 Hn, .int .i64 F, .int .i64 L, .int .i64 X, .int .i64 Y], .slice A n cap, .agg #[.int .i64 nl, .int .i64 nh, .int .i64 xl, .int .i64 xh, .int .i64 y], .bool true] p.to fun e w' => e = .returned (.int .i64 0) ∧ Below p.to.heap.size p.to w' := fun p => by have h := asked_any Wn Hn F L X Y nl nh xl xh y A n cap fs true p.to hn (fun f h => ((hf f h).below (hB.trans (p.h.mono hB.size))).more (Nat.le_trans hB.size p.h.size)) (rdB hr (hB.trans (p.h.mono hB.size))); rw [hak] at h; exact h
  have k76b : ∀ p : Blw W0.heap.size W0, Calls Tryz.prog 76 #[.agg #[.int .i64 Wn, .int .i64 Hn, .int .i64 F, .int .i64 L, .int .i64 X, .int .i64 Y], .slice OA on ocap] p.to fun e w' => e = .returned (.bool true) ∧ Below p.to.heap.size p.to w' := fun p => by have h := refCells_any Wn Hn F L X Y OA on ocap os p.to (by omega) (rdB hO0 (hB.trans (p.h.mono hB.size))) (by omega) (by omega) (by omega) (by omega); rw [hocel] at h; exact h
  have k79 : ∀ p : Blw W0.heap.size W0, Calls Tryz.prog 79 #[.slice CA kn kcap, .slice OA on ocap] p.to fun e w' => e = .returned (.bool true) ∧ p.to = w' := fun p => by have h := withinL_any CA kn kcap cs OA on ocap os p.to (by omega) (by omega) (rdB hC0 (hB.trans (p.h.mono hB.size))) (rdB hO0 (hB.trans (p.h.mono hB.size))); rw [hwi] at h; exact h
  have k60a : ∀ p : Blw W0.heap.size W0, Calls Tryz.prog 60 #[.slice A n cap, .agg #[.int .i64 nl, .int .i64 nh, .int .i64 xl, .int .i64 xh, .int .i64 y], .agg #[.int .i64 (i1 : Nat), .int .i64 n1, .int .i64 x1, .int .i64 y1]] p.to fun e w' => e = .returned (.bool true) ∧ Below p.to.heap.size p.to w' := fun p => by have h := reading_any nl nh xl xh y i1 n1 x1 y1 A n cap p.to; rw [hrx] at h; exact h
  have k60b : ∀ p : Blw W0.heap.size W0, Calls Tryz.prog 60 #[.slice A n cap, .agg #[.int .i64 nl, .int .i64 nh, .int .i64 xl, .int .i64 xh, .int .i64 y], .agg #[.int .i64 (i2 : Nat), .int .i64 n2, .int .i64 x2, .int .i64 y2]] p.to fun e w' => e = .returned (.bool true) ∧ Below p.to.heap.size p.to w' := fun p => by have h := reading_any nl nh xl xh y i2 n2 x2 y2 A n cap p.to; rw [hry] at h; exact h
  have hbS := fun p i => blw_blk hS p i
  have hbQ := fun p i => blw_blk hQ p i
  have hbXA := fun p i => blw_blk hXA p i
  have hbXB := fun p i => blw_blk hXB p i
  refine wp_region_blw (by kernel_rfl) (by kernel_rfl) ?_
  repeat (go_big_quiet_step (first | (go_at_call 39; exact Calls.blw_of_same _ (k39 _)) | (go_at_call 27; exact Calls.blw_of _ (k27 _)) | (go_at_call_of 76 (Value.slice CA kn kcap); exact Calls.blw_of _ (k76 _)) | (go_at_call 54; exact Calls.blw_of _ (k54 _)) | (go_at_call_of 76 (Value.slice OA on ocap); exact Calls.blw_of _ (k76b _)) | (go_at_call 79; exact Calls.blw_of_same _ (k79 _)) | (go_at_call_of 60 (Value.agg #[.int .i64 (i2 : Nat), .int .i64 n2, .int .i64 x2, .int .i64 y2]); exact Calls.blw_of _ (k60b _)) | (go_at_call_of 60 (Value.agg #[.int .i64 (i1 : Nat), .int .i64 n1, .int .i64 x1, .int .i64 y1]); exact Calls.blw_of _ (k60a _))))
  refine wpQuiet_nil ?_
  rintro W3 ⟨⟨_, hb⟩, rfl⟩
  clear qhS qhQ qhXA qhXB hbS hbQ hbXA hbXB k39 k27 k76 k54 k76b k79 k60a k60b
  replace hS := hS.below hb hS.lt; replace hQ := hQ.below hb hQ.lt; replace hXA := hXA.below hb hXA.lt; replace hXB := hXB.below hb hXB.lt; replace hB := hB.trans (hb.mono hB.size); clear hb; have qhS := fun i => Blk.cell hS i; have qhQ := fun i => Blk.cell hQ i; have qhXA := fun i => Blk.cell hXA i; have qhXB := fun i => Blk.cell hXB i
  clear hfw hst hcel hak hocel hwi hrx hry
  go_upto_region 4 with ((go_at_call_of 74 (Value.slice CA kn kcap); refine (Enough_all Wn Hn F L X Y nl nh xl xh y A n cap fs CA kn kcap cs _ hcap hcm (fun f h => ((hf f h).below hB).more hB.size) (rdB hr hB) (by omega) (rdB hC0 hB) (dif_small Wn Hn F L X Y nl nh xl xh y fs cs)).mono ?_; rintro e w1 ⟨rfl, hb⟩; rw [HEB1.out, HEE1.out]; (try replace hS := hS.below hb hS.lt); (try replace hQ := hQ.below hb hQ.lt); (try replace hXA := hXA.below hb hXA.lt); (try replace hXB := hXB.below hb hXB.lt); (try replace hP := rdB hP hb); (try replace hC := rdB hC hb); (try replace hD := rdB hD hb); replace hB := hB.trans (hb.mono hB.size); (try clear qhS); (try clear qhQ); (try clear qhXA); (try clear qhXB); clear hb; (try have qhS := fun i => Blk.cell hS i); (try have qhQ := fun i => Blk.cell hQ i); (try have qhXA := fun i => Blk.cell hXA i); (try have qhXB := fun i => Blk.cell hXB i)))
  clear HEB1 HEE1
  go_upto_region 5 with ((go_at_call_of 74 (Value.slice OA on ocap); refine (Enough_all Wn Hn F L X Y nl nh xl xh y A n cap fs OA on ocap os _ hcap hcm (fun f h => ((hf f h).below hB).more hB.size) (rdB hr hB) (by omega) (rdB hO0 hB) (dif_small Wn Hn F L X Y nl nh xl xh y fs os)).mono ?_; rintro e w1 ⟨rfl, hb⟩; rw [HEB2.out, HEE2.out]; (try replace hS := hS.below hb hS.lt); (try replace hQ := hQ.below hb hQ.lt); (try replace hXA := hXA.below hb hXA.lt); (try replace hXB := hXB.below hb hXB.lt); (try replace hP := rdB hP hb); (try replace hC := rdB hC hb); (try replace hD := rdB hD hb); replace hB := hB.trans (hb.mono hB.size); (try clear qhS); (try clear qhQ); (try clear qhXA); (try clear qhXB); clear hb; (try have qhS := fun i => Blk.cell hS i); (try have qhQ := fun i => Blk.cell hQ i); (try have qhXA := fun i => Blk.cell hXA i); (try have qhXB := fun i => Blk.cell hXB i)))
  clear HEB2 HEE2
  go_upto_region 6 with ((go_at_call 75; refine (Plan_all Wn Hn F L X Y nl nh xl xh y A n cap fs CA kn kcap cs _ hcap hcm (fun f h => ((hf f h).below hB).more hB.size) (rdB hr hB) (by omega) (rdB hC0 hB) (dif_small Wn Hn F L X Y nl nh xl xh y fs cs)).mono ?_; rintro e w1 ⟨v1, rfl, hIs, hb⟩; obtain ⟨pA, pn, pc, rfl, hp1, hp2, hP⟩ := hIs; rw [HPL.out] at hP; rw [HPE.out]; (try replace hS := hS.below hb hS.lt); (try replace hQ := hQ.below hb hQ.lt); (try replace hXA := hXA.below hb hXA.lt); (try replace hXB := hXB.below hb hXB.lt); (try replace hC := rdB hC hb); (try replace hD := rdB hD hb); replace hB := hB.trans (hb.mono hB.size); (try clear qhS); (try clear qhQ); (try clear qhXA); (try clear qhXB); clear hb; (try have qhS := fun i => Blk.cell hS i); (try have qhQ := fun i => Blk.cell hQ i); (try have qhXA := fun i => Blk.cell hXA i); (try have qhXB := fun i => Blk.cell hXB i)))
  clear HPL HPE
  go_upto_region 7 with ((go_at_call 68; refine (Mistaken_any Wn Hn F L X Y nl nh xl xh y A n cap fs _ hcap hcm (fun f h => ((hf f h).below hB).more hB.size) (rdB hr hB)).mono ?_; rintro e w1 ⟨rfl, hb⟩; rw [HM.out]; (try replace hS := hS.below hb hS.lt); (try replace hQ := hQ.below hb hQ.lt); (try replace hXA := hXA.below hb hXA.lt); (try replace hXB := hXB.below hb hXB.lt); (try replace hP := rdB hP hb); (try replace hC := rdB hC hb); (try replace hD := rdB hD hb); replace hB := hB.trans (hb.mono hB.size); (try clear qhS); (try clear qhQ); (try clear qhXA); (try clear qhXB); clear hb; (try have qhS := fun i => Blk.cell hS i); (try have qhQ := fun i => Blk.cell hQ i); (try have qhXA := fun i => Blk.cell hXA i); (try have qhXB := fun i => Blk.cell hXB i)))
  clear HM
  go_upto_region 9 with (fail)
  go_upto_region 11 with (fail)
  have hpn8 : pn ≤ 8 := by have h := hP.len; unfold castL at h; rw [List.length_map] at h; omega
  have hpl := hP.len
  unfold castL at hpl
  rw [List.length_map] at hpl
  have hlp : ¬ (on : Int) < pn := by have := (HIS.out (by trivial)).1; have := hO0.len; omega
  have hep : ((on : Int) == (pn : Int)) = false := by simp; omega
  clear hpl
  go_upto_region 13 with (first | (go_at_call 76; refine (refCells_any Wn Hn F L X Y pA pn pc (castL l) _ (by omega) hP (by omega) (by omega) (by omega) (by omega)).mono ?_; rintro e w1 ⟨rfl, hb⟩; rw [HPC.out]; (try replace hS := hS.below hb hS.lt); (try replace hQ := hQ.below hb hQ.lt); (try replace hXA := hXA.below hb hXA.lt); (try replace hXB := hXB.below hb hXB.lt); (try replace hP := rdB hP hb); (try replace hC := rdB hC hb); (try replace hD := rdB hD hb); replace hB := hB.trans (hb.mono hB.size); (try clear qhS); (try clear qhQ); (try clear qhXA); (try clear qhXB); clear hb; (try have qhS := fun i => Blk.cell hS i); (try have qhQ := fun i => Blk.cell hQ i); (try have qhXA := fun i => Blk.cell hXA i); (try have qhXB := fun i => Blk.cell hXB i)) | (go_at_call 79; refine (withinL_any CA kn kcap cs pA pn pc (castL l) _ (by omega) (by omega) (rdB hC0 hB) hP).mono ?_; rintro e w1 ⟨rfl, rfl⟩; rw [HPW.out]))
  clear HPC HPW HIS
  go_upto_region 14 with ((go_at_call_of 74 (Value.slice pA pn pc); refine (Enough_all Wn Hn F L X Y nl nh xl xh y A n cap fs pA pn pc (castL l) _ hcap hcm (fun f h => ((hf f h).below hB).more hB.size) (rdB hr hB) (by omega) hP (dif_small Wn Hn F L X Y nl nh xl xh y fs (castL l))).mono ?_; rintro e w1 ⟨rfl, hb⟩; rw [HEB3.out, HEE3.out]; (try replace hS := hS.below hb hS.lt); (try replace hQ := hQ.below hb hQ.lt); (try replace hXA := hXA.below hb hXA.lt); (try replace hXB := hXB.below hb hXB.lt); (try replace hP := rdB hP hb); (try replace hC := rdB hC hb); (try replace hD := rdB hD hb); replace hB := hB.trans (hb.mono hB.size); (try clear qhS); (try clear qhQ); (try clear qhXA); (try clear qhXB); clear hb; (try have qhS := fun i => Blk.cell hS i); (try have qhQ := fun i => Blk.cell hQ i); (try have qhXA := fun i => Blk.cell hXA i); (try have qhXB := fun i => Blk.cell hXB i)))
  clear HEB3 HEE3
  have hlen := hr.len
  have hi1 : (i1 : Int) < n := by omega
  have hi2 : (i2 : Int) < n := by omega
  rename World => WA
  have hrW := rdB hr hB
  obtain ⟨b, off, rfl, hbb, hcf⟩ := hrW.2 (by omega)
  have c1 : WA.cell? ⟨b, off + i1, none⟩ = some (Fig.val fs[i1]) := hcf i1 (Fig.val fs[i1]) (by simp [g1])
  have c2 : WA.cell? ⟨b, off + i2, none⟩ = some (Fig.val fs[i2]) := hcf i2 (Fig.val fs[i2]) (by simp [g2])
  have o1 := hf _ (List.getElem_mem g1)
  have o2 := hf _ (List.getElem_mem g2)
  rw [HG1.out] at c1 o1
  rw [HG2.out] at c2 o2
  simp only [Fig.val] at c1 c2
  obtain ⟨hc11, hc12, hs1, hR1⟩ := o1
  obtain ⟨hc21, hc22, hs2, hR2⟩ := o2
  dsimp only at hc11 hc12 hs1 hR1 hc21 hc22 hs2 hR2
  clear hcf HG1 HG2
  rename World => WR
  refine wp_region_G (fun w' => Below WR.drew.heap.size WR.drew w') 13 (by kernel_rfl) ?_
  replace hS := hS.drew
  replace hQ := hQ.drew
  replace hXA := hXA.drew
  replace hXB := hXB.drew
  replace hP : Rd WR.drew WR.drew.heap.size _ _ _ _ := hP
  replace hB := hB.drew
  (try clear qhS qhQ qhXA qhXB)
  replace hbb : b < WR.drew.heap.size := hbb
  replace c1 : WR.drew.cell? _ = _ := c1
  replace c2 : WR.drew.cell? _ = _ := c2
  generalize WR.drew = WD at *
  have hTT : Below WD.heap.size WD WD := Below.refl _ _
  refine wpG_take (i := 0) (v := ?vz3_0) rfl (by kernel_rfl) (by kernel_rfl) (by kernel_rfl) (by kernel_rfl) (fun _ _ _ h => h) (Or.inl ⟨by rfl, ?hyz3_0⟩) hTT ?restz3_0
  case hyz3_0 => intro wq hSw; have qhS := fun i => (Blk.below hS hSw hS.lt).cell i; have qhQ := fun i => (Blk.below hQ hSw hQ.lt).cell i; have qhXA := fun i => (Blk.below hXA hSw hXA.lt).cell i; have qhXB := fun i => (Blk.below hXB hSw hXB.lt).cell i; have e1 := (hSw.cell (p := ⟨b, off + i1, none⟩) hbb).trans c1; have e2 := (hSw.cell (p := ⟨b, off + i2, none⟩) hbb).trans c2; go_simp <;> with_reducible rfl
  simp only [List.getElem_toArray, List.getElem_cons_zero, List.getElem_cons_succ, Act.put, List.setIfInBounds_toArray, List.set_cons_zero, List.set_cons_succ]
  refine wpG_take (i := 1) (v := ?vz3_1) rfl (by kernel_rfl) (by kernel_rfl) (by kernel_rfl) (by kernel_rfl) (fun _ _ _ h => h) (Or.inl ⟨by rfl, ?hyz3_1⟩) hTT ?restz3_1
  case hyz3_1 => intro wq hSw; have qhS := fun i => (Blk.below hS hSw hS.lt).cell i; have qhQ := fun i => (Blk.below hQ hSw hQ.lt).cell i; have qhXA := fun i => (Blk.below hXA hSw hXA.lt).cell i; have qhXB := fun i => (Blk.below hXB hSw hXB.lt).cell i; have e1 := (hSw.cell (p := ⟨b, off + i1, none⟩) hbb).trans c1; have e2 := (hSw.cell (p := ⟨b, off + i2, none⟩) hbb).trans c2; go_simp <;> with_reducible rfl
  simp only [List.getElem_toArray, List.getElem_cons_zero, List.getElem_cons_succ, Act.put, List.setIfInBounds_toArray, List.set_cons_zero, List.set_cons_succ]
  refine wpG_take (i := 2) (v := ?vz3_2) rfl (by kernel_rfl) (by kernel_rfl) (by kernel_rfl) (by kernel_rfl) (fun _ _ _ h => h) (Or.inl ⟨by rfl, ?hyz3_2⟩) hTT ?restz3_2
  case hyz3_2 => intro wq hSw; have qhS := fun i => (Blk.below hS hSw hS.lt).cell i; have qhQ := fun i => (Blk.below hQ hSw hQ.lt).cell i; have qhXA := fun i => (Blk.below hXA hSw hXA.lt).cell i; have qhXB := fun i => (Blk.below hXB hSw hXB.lt).cell i; have e1 := (hSw.cell (p := ⟨b, off + i1, none⟩) hbb).trans c1; have e2 := (hSw.cell (p := ⟨b, off + i2, none⟩) hbb).trans c2; go_simp <;> with_reducible rfl
  simp only [List.getElem_toArray, List.getElem_cons_zero, List.getElem_cons_succ, Act.put, List.setIfInBounds_toArray, List.set_cons_zero, List.set_cons_succ]
  refine wpG_take (i := 3) (v := ?vz3_3) rfl (by kernel_rfl) (by kernel_rfl) (by kernel_rfl) (by kernel_rfl) (fun _ _ _ h => h) (Or.inl ⟨by rfl, ?hyz3_3⟩) hTT ?restz3_3
  case hyz3_3 => intro wq hSw; have qhS := fun i => (Blk.below hS hSw hS.lt).cell i; have qhQ := fun i => (Blk.below hQ hSw hQ.lt).cell i; have qhXA := fun i => (Blk.below hXA hSw hXA.lt).cell i; have qhXB := fun i => (Blk.below hXB hSw hXB.lt).cell i; have e1 := (hSw.cell (p := ⟨b, off + i1, none⟩) hbb).trans c1; have e2 := (hSw.cell (p := ⟨b, off + i2, none⟩) hbb).trans c2; go_simp <;> with_reducible rfl
  simp only [List.getElem_toArray, List.getElem_cons_zero, List.getElem_cons_succ, Act.put, List.setIfInBounds_toArray, List.set_cons_zero, List.set_cons_succ]
  refine wpG_take (i := 4) (v := ?vz3_4) rfl (by kernel_rfl) (by kernel_rfl) (by kernel_rfl) (by kernel_rfl) (fun _ _ _ h => h) (Or.inl ⟨by rfl, ?hyz3_4⟩) hTT ?restz3_4
  case hyz3_4 => intro wq hSw; have qhS := fun i => (Blk.below hS hSw hS.lt).cell i; have qhQ := fun i => (Blk.below hQ hSw hQ.lt).cell i; have qhXA := fun i => (Blk.below hXA hSw hXA.lt).cell i; have qhXB := fun i => (Blk.below hXB hSw hXB.lt).cell i; have e1 := (hSw.cell (p := ⟨b, off + i1, none⟩) hbb).trans c1; have e2 := (hSw.cell (p := ⟨b, off + i2, none⟩) hbb).trans c2; go_simp <;> with_reducible rfl
  simp only [List.getElem_toArray, List.getElem_cons_zero, List.getElem_cons_succ, Act.put, List.setIfInBounds_toArray, List.set_cons_zero, List.set_cons_succ]
  refine wpG_take (i := 5) (v := ?vz3_5) rfl (by kernel_rfl) (by kernel_rfl) (by kernel_rfl) (by kernel_rfl) (fun _ _ _ h => h) (Or.inl ⟨by rfl, ?hyz3_5⟩) hTT ?restz3_5
  case hyz3_5 => intro wq hSw; have qhS := fun i => (Blk.below hS hSw hS.lt).cell i; have qhQ := fun i => (Blk.below hQ hSw hQ.lt).cell i; have qhXA := fun i => (Blk.below hXA hSw hXA.lt).cell i; have qhXB := fun i => (Blk.below hXB hSw hXB.lt).cell i; have e1 := (hSw.cell (p := ⟨b, off + i1, none⟩) hbb).trans c1; have e2 := (hSw.cell (p := ⟨b, off + i2, none⟩) hbb).trans c2; go_simp <;> with_reducible rfl
  simp only [List.getElem_toArray, List.getElem_cons_zero, List.getElem_cons_succ, Act.put, List.setIfInBounds_toArray, List.set_cons_zero, List.set_cons_succ]
  refine wpG_take (i := 6) (v := ?vz3_6) rfl (by kernel_rfl) (by kernel_rfl) (by kernel_rfl) (by kernel_rfl) (fun _ _ _ h => h) (Or.inl ⟨by rfl, ?hyz3_6⟩) hTT ?restz3_6
  case hyz3_6 => intro wq hSw; have qhS := fun i => (Blk.below hS hSw hS.lt).cell i; have qhQ := fun i => (Blk.below hQ hSw hQ.lt).cell i; have qhXA := fun i => (Blk.below hXA hSw hXA.lt).cell i; have qhXB := fun i => (Blk.below hXB hSw hXB.lt).cell i; have e1 := (hSw.cell (p := ⟨b, off + i1, none⟩) hbb).trans c1; have e2 := (hSw.cell (p := ⟨b, off + i2, none⟩) hbb).trans c2; go_simp <;> with_reducible rfl
  simp only [List.getElem_toArray, List.getElem_cons_zero, List.getElem_cons_succ, Act.put, List.setIfInBounds_toArray, List.set_cons_zero, List.set_cons_succ]
  refine wpG_take (i := 7) (v := ?vz3_7) rfl (by kernel_rfl) (by kernel_rfl) (by kernel_rfl) (by kernel_rfl) (fun _ _ _ h => h) (Or.inl ⟨by rfl, ?hyz3_7⟩) hTT ?restz3_7
  case hyz3_7 => intro wq hSw; have qhS := fun i => (Blk.below hS hSw hS.lt).cell i; have qhQ := fun i => (Blk.below hQ hSw hQ.lt).cell i; have qhXA := fun i => (Blk.below hXA hSw hXA.lt).cell i; have qhXB := fun i => (Blk.below hXB hSw hXB.lt).cell i; have e1 := (hSw.cell (p := ⟨b, off + i1, none⟩) hbb).trans c1; have e2 := (hSw.cell (p := ⟨b, off + i2, none⟩) hbb).trans c2; go_simp <;> with_reducible rfl
  simp only [List.getElem_toArray, List.getElem_cons_zero, List.getElem_cons_succ, Act.put, List.setIfInBounds_toArray, List.set_cons_zero, List.set_cons_succ]
  refine wpG_one (i := 8) rfl (by kernel_rfl) (fun K hK => ?_)
  go_simp
  refine (Shadow_any Wn Hn F L X Y n1 x1 y1 A1 m1 cap1 rows1 _ hc11 hc12 hs1 (rdB hR1 hB)).mono ?_; rintro e w1 ⟨vv, rfl, own, hb⟩; rw [HEC.out]; rw [← HRC.out] at own; obtain ⟨hCA, hCc, rfl⟩ := own_slice own; have hC1 := own_le0 own; have hC2 := own_cap own; have hC := Rd.of_own own; clear own; replace hTT := hTT.trans (hb.mono hTT.size); replace hS := hS.below hb hS.lt; replace hQ := hQ.below hb hQ.lt; replace hXA := hXA.below hb hXA.lt; replace hXB := hXB.below hb hXB.lt; (try replace hP := rdB hP hb); (try replace hD := rdB hD hb); replace hB := hB.trans (hb.mono hB.size); replace c1 := (hb.cell (p := ⟨b, off + i1, none⟩) hbb).trans c1; replace c2 := (hb.cell (p := ⟨b, off + i2, none⟩) hbb).trans c2; replace hbb := Nat.lt_of_lt_of_le hbb hb.size; clear hb; dsimp only
  refine hK _ _ (.inr hTT) ?_
  clear hK K
  try simp only [List.getElem_toArray, List.getElem_cons_zero, List.getElem_cons_succ, Act.put, List.setIfInBounds_toArray, List.set_cons_zero, List.set_cons_succ]
  refine wpG_take (i := 9) (v := ?vz3_9) rfl (by kernel_rfl) (by kernel_rfl) (by kernel_rfl) (by kernel_rfl) (fun _ _ _ h => h) (Or.inl ⟨by rfl, ?hyz3_9⟩) hTT ?restz3_9
  case hyz3_9 => intro wq hSw; skip; go_simp <;> with_reducible rfl
  simp only [List.getElem_toArray, List.getElem_cons_zero, List.getElem_cons_succ, Act.put, List.setIfInBounds_toArray, List.set_cons_zero, List.set_cons_succ]
  refine wpG_take (i := 10) (v := ?vz3_10) rfl (by kernel_rfl) (by kernel_rfl) (by kernel_rfl) (by kernel_rfl) (fun _ _ _ h => h) (Or.inl ⟨by rfl, ?hyz3_10⟩) hTT ?restz3_10
  case hyz3_10 => intro wq hSw; skip; go_simp <;> with_reducible rfl
  simp only [List.getElem_toArray, List.getElem_cons_zero, List.getElem_cons_succ, Act.put, List.setIfInBounds_toArray, List.set_cons_zero, List.set_cons_succ]
  refine wpG_take (i := 11) (v := ?vz3_11) rfl (by kernel_rfl) (by kernel_rfl) (by kernel_rfl) (by kernel_rfl) (fun _ _ _ h => h) (Or.inl ⟨by rfl, ?hyz3_11⟩) hTT ?restz3_11
  case hyz3_11 => intro wq hSw; skip; go_simp <;> with_reducible rfl
  simp only [List.getElem_toArray, List.getElem_cons_zero, List.getElem_cons_succ, Act.put, List.setIfInBounds_toArray, List.set_cons_zero, List.set_cons_succ]
  refine wpG_take (i := 12) (v := ?vz3_12) rfl (by kernel_rfl) (by kernel_rfl) (by kernel_rfl) (by kernel_rfl) (fun _ _ _ h => h) (Or.inl ⟨by rfl, ?hyz3_12⟩) hTT ?restz3_12
  case hyz3_12 => intro wq hSw; skip; go_simp <;> with_reducible rfl
  simp only [List.getElem_toArray, List.getElem_cons_zero, List.getElem_cons_succ, Act.put, List.setIfInBounds_toArray, List.set_cons_zero, List.set_cons_succ]
  refine wpG_one (i := 13) rfl (by kernel_rfl) (fun K hK => ?_)
  go_simp
  refine hK _ _ (.inl rfl) ?_
  clear hK K
  try simp only [List.getElem_toArray, List.getElem_cons_zero, List.getElem_cons_succ, Act.put, List.setIfInBounds_toArray, List.set_cons_zero, List.set_cons_succ]
  refine wpG_done (by kernel_rfl) ?_ _
  clear hTT
  have qhS := fun i => Blk.cell hS i
  have qhQ := fun i => Blk.cell hQ i
  have qhXA := fun i => Blk.cell hXA i
  have qhXB := fun i => Blk.cell hXB i
  go_upto_region 15 with (fail)
  rename World => WR
  refine wp_region_G (fun w' => Below WR.drew.heap.size WR.drew w') 13 (by kernel_rfl) ?_
  replace hS := hS.drew
  replace hQ := hQ.drew
  replace hXA := hXA.drew
  replace hXB := hXB.drew
  replace hP : Rd WR.drew WR.drew.heap.size _ _ _ _ := hP
  replace hC : Rd WR.drew WR.drew.heap.size _ _ _ _ := hC
  replace hB := hB.drew
  (try clear qhS qhQ qhXA qhXB)
  replace hbb : b < WR.drew.heap.size := hbb
  replace c1 : WR.drew.cell? _ = _ := c1
  replace c2 : WR.drew.cell? _ = _ := c2
  generalize WR.drew = WD at *
  have hTT : Below WD.heap.size WD WD := Below.refl _ _
  refine wpG_take (i := 0) (v := ?vz4_0) rfl (by kernel_rfl) (by kernel_rfl) (by kernel_rfl) (by kernel_rfl) (fun _ _ _ h => h) (Or.inl ⟨by rfl, ?hyz4_0⟩) hTT ?restz4_0
  case hyz4_0 => intro wq hSw; have qhS := fun i => (Blk.below hS hSw hS.lt).cell i; have qhQ := fun i => (Blk.below hQ hSw hQ.lt).cell i; have qhXA := fun i => (Blk.below hXA hSw hXA.lt).cell i; have qhXB := fun i => (Blk.below hXB hSw hXB.lt).cell i; have e1 := (hSw.cell (p := ⟨b, off + i1, none⟩) hbb).trans c1; have e2 := (hSw.cell (p := ⟨b, off + i2, none⟩) hbb).trans c2; go_simp <;> with_reducible rfl
  simp only [List.getElem_toArray, List.getElem_cons_zero, List.getElem_cons_succ, Act.put, List.setIfInBounds_toArray, List.set_cons_zero, List.set_cons_succ]
  refine wpG_take (i := 1) (v := ?vz4_1) rfl (by kernel_rfl) (by kernel_rfl) (by kernel_rfl) (by kernel_rfl) (fun _ _ _ h => h) (Or.inl ⟨by rfl, ?hyz4_1⟩) hTT ?restz4_1
  case hyz4_1 => intro wq hSw; have qhS := fun i => (Blk.below hS hSw hS.lt).cell i; have qhQ := fun i => (Blk.below hQ hSw hQ.lt).cell i; have qhXA := fun i => (Blk.below hXA hSw hXA.lt).cell i; have qhXB := fun i => (Blk.below hXB hSw hXB.lt).cell i; have e1 := (hSw.cell (p := ⟨b, off + i1, none⟩) hbb).trans c1; have e2 := (hSw.cell (p := ⟨b, off + i2, none⟩) hbb).trans c2; go_simp <;> with_reducible rfl
  simp only [List.getElem_toArray, List.getElem_cons_zero, List.getElem_cons_succ, Act.put, List.setIfInBounds_toArray, List.set_cons_zero, List.set_cons_succ]
  refine wpG_take (i := 2) (v := ?vz4_2) rfl (by kernel_rfl) (by kernel_rfl) (by kernel_rfl) (by kernel_rfl) (fun _ _ _ h => h) (Or.inl ⟨by rfl, ?hyz4_2⟩) hTT ?restz4_2
  case hyz4_2 => intro wq hSw; have qhS := fun i => (Blk.below hS hSw hS.lt).cell i; have qhQ := fun i => (Blk.below hQ hSw hQ.lt).cell i; have qhXA := fun i => (Blk.below hXA hSw hXA.lt).cell i; have qhXB := fun i => (Blk.below hXB hSw hXB.lt).cell i; have e1 := (hSw.cell (p := ⟨b, off + i1, none⟩) hbb).trans c1; have e2 := (hSw.cell (p := ⟨b, off + i2, none⟩) hbb).trans c2; go_simp <;> with_reducible rfl
  simp only [List.getElem_toArray, List.getElem_cons_zero, List.getElem_cons_succ, Act.put, List.setIfInBounds_toArray, List.set_cons_zero, List.set_cons_succ]
  refine wpG_take (i := 3) (v := ?vz4_3) rfl (by kernel_rfl) (by kernel_rfl) (by kernel_rfl) (by kernel_rfl) (fun _ _ _ h => h) (Or.inl ⟨by rfl, ?hyz4_3⟩) hTT ?restz4_3
  case hyz4_3 => intro wq hSw; have qhS := fun i => (Blk.below hS hSw hS.lt).cell i; have qhQ := fun i => (Blk.below hQ hSw hQ.lt).cell i; have qhXA := fun i => (Blk.below hXA hSw hXA.lt).cell i; have qhXB := fun i => (Blk.below hXB hSw hXB.lt).cell i; have e1 := (hSw.cell (p := ⟨b, off + i1, none⟩) hbb).trans c1; have e2 := (hSw.cell (p := ⟨b, off + i2, none⟩) hbb).trans c2; go_simp <;> with_reducible rfl
  simp only [List.getElem_toArray, List.getElem_cons_zero, List.getElem_cons_succ, Act.put, List.setIfInBounds_toArray, List.set_cons_zero, List.set_cons_succ]
  refine wpG_take (i := 4) (v := ?vz4_4) rfl (by kernel_rfl) (by kernel_rfl) (by kernel_rfl) (by kernel_rfl) (fun _ _ _ h => h) (Or.inl ⟨by rfl, ?hyz4_4⟩) hTT ?restz4_4
  case hyz4_4 => intro wq hSw; have qhS := fun i => (Blk.below hS hSw hS.lt).cell i; have qhQ := fun i => (Blk.below hQ hSw hQ.lt).cell i; have qhXA := fun i => (Blk.below hXA hSw hXA.lt).cell i; have qhXB := fun i => (Blk.below hXB hSw hXB.lt).cell i; have e1 := (hSw.cell (p := ⟨b, off + i1, none⟩) hbb).trans c1; have e2 := (hSw.cell (p := ⟨b, off + i2, none⟩) hbb).trans c2; go_simp <;> with_reducible rfl
  simp only [List.getElem_toArray, List.getElem_cons_zero, List.getElem_cons_succ, Act.put, List.setIfInBounds_toArray, List.set_cons_zero, List.set_cons_succ]
  refine wpG_take (i := 5) (v := ?vz4_5) rfl (by kernel_rfl) (by kernel_rfl) (by kernel_rfl) (by kernel_rfl) (fun _ _ _ h => h) (Or.inl ⟨by rfl, ?hyz4_5⟩) hTT ?restz4_5
  case hyz4_5 => intro wq hSw; have qhS := fun i => (Blk.below hS hSw hS.lt).cell i; have qhQ := fun i => (Blk.below hQ hSw hQ.lt).cell i; have qhXA := fun i => (Blk.below hXA hSw hXA.lt).cell i; have qhXB := fun i => (Blk.below hXB hSw hXB.lt).cell i; have e1 := (hSw.cell (p := ⟨b, off + i1, none⟩) hbb).trans c1; have e2 := (hSw.cell (p := ⟨b, off + i2, none⟩) hbb).trans c2; go_simp <;> with_reducible rfl
  simp only [List.getElem_toArray, List.getElem_cons_zero, List.getElem_cons_succ, Act.put, List.setIfInBounds_toArray, List.set_cons_zero, List.set_cons_succ]
  refine wpG_take (i := 6) (v := ?vz4_6) rfl (by kernel_rfl) (by kernel_rfl) (by kernel_rfl) (by kernel_rfl) (fun _ _ _ h => h) (Or.inl ⟨by rfl, ?hyz4_6⟩) hTT ?restz4_6
  case hyz4_6 => intro wq hSw; have qhS := fun i => (Blk.below hS hSw hS.lt).cell i; have qhQ := fun i => (Blk.below hQ hSw hQ.lt).cell i; have qhXA := fun i => (Blk.below hXA hSw hXA.lt).cell i; have qhXB := fun i => (Blk.below hXB hSw hXB.lt).cell i; have e1 := (hSw.cell (p := ⟨b, off + i1, none⟩) hbb).trans c1; have e2 := (hSw.cell (p := ⟨b, off + i2, none⟩) hbb).trans c2; go_simp <;> with_reducible rfl
  simp only [List.getElem_toArray, List.getElem_cons_zero, List.getElem_cons_succ, Act.put, List.setIfInBounds_toArray, List.set_cons_zero, List.set_cons_succ]
  refine wpG_take (i := 7) (v := ?vz4_7) rfl (by kernel_rfl) (by kernel_rfl) (by kernel_rfl) (by kernel_rfl) (fun _ _ _ h => h) (Or.inl ⟨by rfl, ?hyz4_7⟩) hTT ?restz4_7
  case hyz4_7 => intro wq hSw; have qhS := fun i => (Blk.below hS hSw hS.lt).cell i; have qhQ := fun i => (Blk.below hQ hSw hQ.lt).cell i; have qhXA := fun i => (Blk.below hXA hSw hXA.lt).cell i; have qhXB := fun i => (Blk.below hXB hSw hXB.lt).cell i; have e1 := (hSw.cell (p := ⟨b, off + i1, none⟩) hbb).trans c1; have e2 := (hSw.cell (p := ⟨b, off + i2, none⟩) hbb).trans c2; go_simp <;> with_reducible rfl
  simp only [List.getElem_toArray, List.getElem_cons_zero, List.getElem_cons_succ, Act.put, List.setIfInBounds_toArray, List.set_cons_zero, List.set_cons_succ]
  refine wpG_one (i := 8) rfl (by kernel_rfl) (fun K hK => ?_)
  go_simp
  refine (Shadow_any Wn Hn F L X Y n2 x2 y2 A2 m2 cap2 rows2 _ hc21 hc22 hs2 (rdB hR2 hB)).mono ?_; rintro e w1 ⟨vv, rfl, own, hb⟩; rw [HED.out]; rw [← HRD.out] at own; obtain ⟨hDA, hDc, rfl⟩ := own_slice own; have hD1 := own_le0 own; have hD2 := own_cap own; have hD := Rd.of_own own; clear own; replace hTT := hTT.trans (hb.mono hTT.size); replace hS := hS.below hb hS.lt; replace hQ := hQ.below hb hQ.lt; replace hXA := hXA.below hb hXA.lt; replace hXB := hXB.below hb hXB.lt; (try replace hP := rdB hP hb); (try replace hC := rdB hC hb); replace hB := hB.trans (hb.mono hB.size); clear c1 c2; replace hbb := Nat.lt_of_lt_of_le hbb hb.size; clear hb; dsimp only
  refine hK _ _ (.inr hTT) ?_
  clear hK K
  try simp only [List.getElem_toArray, List.getElem_cons_zero, List.getElem_cons_succ, Act.put, List.setIfInBounds_toArray, List.set_cons_zero, List.set_cons_succ]
  refine wpG_take (i := 9) (v := ?vz4_9) rfl (by kernel_rfl) (by kernel_rfl) (by kernel_rfl) (by kernel_rfl) (fun _ _ _ h => h) (Or.inl ⟨by rfl, ?hyz4_9⟩) hTT ?restz4_9
  case hyz4_9 => intro wq hSw; skip; go_simp <;> with_reducible rfl
  simp only [List.getElem_toArray, List.getElem_cons_zero, List.getElem_cons_succ, Act.put, List.setIfInBounds_toArray, List.set_cons_zero, List.set_cons_succ]
  refine wpG_take (i := 10) (v := ?vz4_10) rfl (by kernel_rfl) (by kernel_rfl) (by kernel_rfl) (by kernel_rfl) (fun _ _ _ h => h) (Or.inl ⟨by rfl, ?hyz4_10⟩) hTT ?restz4_10
  case hyz4_10 => intro wq hSw; skip; go_simp <;> with_reducible rfl
  simp only [List.getElem_toArray, List.getElem_cons_zero, List.getElem_cons_succ, Act.put, List.setIfInBounds_toArray, List.set_cons_zero, List.set_cons_succ]
  refine wpG_take (i := 11) (v := ?vz4_11) rfl (by kernel_rfl) (by kernel_rfl) (by kernel_rfl) (by kernel_rfl) (fun _ _ _ h => h) (Or.inl ⟨by rfl, ?hyz4_11⟩) hTT ?restz4_11
  case hyz4_11 => intro wq hSw; skip; go_simp <;> with_reducible rfl
  simp only [List.getElem_toArray, List.getElem_cons_zero, List.getElem_cons_succ, Act.put, List.setIfInBounds_toArray, List.set_cons_zero, List.set_cons_succ]
  refine wpG_take (i := 12) (v := ?vz4_12) rfl (by kernel_rfl) (by kernel_rfl) (by kernel_rfl) (by kernel_rfl) (fun _ _ _ h => h) (Or.inl ⟨by rfl, ?hyz4_12⟩) hTT ?restz4_12
  case hyz4_12 => intro wq hSw; skip; go_simp <;> with_reducible rfl
  simp only [List.getElem_toArray, List.getElem_cons_zero, List.getElem_cons_succ, Act.put, List.setIfInBounds_toArray, List.set_cons_zero, List.set_cons_succ]
  refine wpG_one (i := 13) rfl (by kernel_rfl) (fun K hK => ?_)
  go_simp
  refine hK _ _ (.inl rfl) ?_
  clear hK K
  try simp only [List.getElem_toArray, List.getElem_cons_zero, List.getElem_cons_succ, Act.put, List.setIfInBounds_toArray, List.set_cons_zero, List.set_cons_succ]
  refine wpG_done (by kernel_rfl) ?_ _
  clear hTT
  have qhS := fun i => Blk.cell hS i
  have qhQ := fun i => Blk.cell hQ i
  have qhXA := fun i => Blk.cell hXA i
  have qhXB := fun i => Blk.cell hXB i
  clear hR1 hR2 hs1 hs2 HEC HED HRC HRD hc11 hc12 hc21 hc22
  go_upto_region 16 with (fail)
  go_upto_region 18 with (first | (go_at_call 35; have hx := hwdone; clear hx; refine (whole_any Wn Hn F L X Y hDA rsD.length hDc rsD _ hld hsd hD).mono ?_; rintro e w1 ⟨rfl, hb⟩; rw [HWD.out]; clear hwdone; (try replace hS := hS.below hb hS.lt); (try replace hQ := hQ.below hb hQ.lt); (try replace hXA := hXA.below hb hXA.lt); (try replace hXB := hXB.below hb hXB.lt); (try replace hP := rdB hP hb); (try replace hC := rdB hC hb); (try replace hD := rdB hD hb); replace hB := hB.trans (hb.mono hB.size); (try clear qhS); (try clear qhQ); (try clear qhXA); (try clear qhXB); clear hb; (try have qhS := fun i => Blk.cell hS i); (try have qhQ := fun i => Blk.cell hQ i); (try have qhXA := fun i => Blk.cell hXA i); (try have qhXB := fun i => Blk.cell hXB i)) | (go_at_call 35; refine (whole_any Wn Hn F L X Y hCA rsC.length hCc rsC _ hlc hsc hC).mono ?_; rintro e w1 ⟨rfl, hb⟩; rw [HWC.out]; have hwdone : (0 : Nat) = 0 := rfl; (try replace hS := hS.below hb hS.lt); (try replace hQ := hQ.below hb hQ.lt); (try replace hXA := hXA.below hb hXA.lt); (try replace hXB := hXB.below hb hXB.lt); (try replace hP := rdB hP hb); (try replace hC := rdB hC hb); (try replace hD := rdB hD hb); replace hB := hB.trans (hb.mono hB.size); (try clear qhS); (try clear qhQ); (try clear qhXA); (try clear qhXB); clear hb; (try have qhS := fun i => Blk.cell hS i); (try have qhQ := fun i => Blk.cell hQ i); (try have qhXA := fun i => Blk.cell hXA i); (try have qhXB := fun i => Blk.cell hXB i)))
  clear HWC HWD
  obtain ⟨ef, hef⟩ : ∃ ef, ef = (i1 == i2) := ⟨_, rfl⟩
  have hfe : ((i1 : Int) == (i2 : Int)) = ef := by rw [hef, Bool.eq_iff_iff, beq_iff_eq, beq_iff_eq]; omega
  have HFE := Lib.hid hef; clear hef
  go_wp2_with (fail)
  have hdone := HFE
  go_loopg [30, 31] pn (fun g mt i wr => ∃ (k : Nat) (mv : Bool), g = pn - k ∧ k ≤ pn ∧ i = .int .i64 k ∧ mt = .bool mv ∧ mv = (ef || (l.take k).any (fun c => clB (zC c) (zD c))) ∧ Rd wr wr.heap.size 1 pA pn ((castL l).map (Value.int .i64)) ∧ Rd wr wr.heap.size 1 hCA rsC.length (rsC.map Value.string) ∧ Rd wr wr.heap.size 1 hDA rsD.length (rsD.map Value.string) ∧ Blk wr w.heap.size 23 #[.int .i64 Wn, .int .i64 Hn, .int .i64 F, .int .i64 L, .int .i64 X, .int .i64 Y] ∧ Below w.heap.size w wr)
  case atStart => exact ⟨0, ef, rfl, Nat.zero_le _, rfl, rfl, by simp, hP, hC, hD, hS, hB⟩
  case round =>
    clear hP hC hD hS hB qhS qhQ qhXA qhXB hQ hXA hXB
    obtain ⟨k, mv, hg, hk, rfl, rfl, hmv, hP, hC, hD, hS, hB⟩ := hrel
    have HG := Lib.hid hg; have HMV := Lib.hid hmv; clear hg hmv
    have hpl := hP.len
    rename World => W4
    by_cases hlt : k < pn
    · have hlti : (k : Int) < pn := by omega
      obtain ⟨bP, oP, hzc, rfl, hbP, hcc⟩ := hP.atm hlt
      have hzl : k < l.length := by unfold castL at hzc; rw [List.length_map] at hzc; exact hzc
      have hce : (castL l)[k] = ((l[k] : Nat) : Int) := (List.getElem?_eq_some_iff.1 (show (castL l)[k]? = some ((l[k] : Nat) : Int) by simp [castL, hzl])).2
      rw [hce] at hcc
      have hts := any_take_succ (fun c => clB (zC c) (zD c)) l k hzl
      obtain ⟨hc10, ⟨ri, ri1, ri2, ri3⟩, rk, rk1, rk2, rk3⟩ := HCC.out _ (List.getElem_mem hzl)
      have hki := fun p : Blw W4.heap.size W4 => Cell_any Wn Hn F L X Y hCA rsC.length hCc rsC ri l[k] (zC l[k]) p.to (by omega) (by omega) hc10 ri1 ri2 ri3 (rdB hC p.h)
      have hkk := fun p : Blw W4.heap.size W4 => Cell_any Wn Hn F L X Y hDA rsD.length hDc rsD rk l[k] (zD l[k]) p.to (by omega) (by omega) hc10 rk1 rk2 rk3 (rdB hD p.h)
      (try dsimp only at hts)
      generalize l[k] = c at *
      generalize hzC : zC c = zi at *
      generalize hzD : zD c = zk at *
      have HTS := Lib.hid hts; clear hts hce hzC hzD hzc
      have hbs := fun p i => blw_blk hS p i
      have q1 := fun p : Blw W4.heap.size W4 => blw_cell (a := ⟨bP, oP + k, none⟩) hbP hcc p
      have HPL2 := Lib.hid hpl; clear hpl
      go_upto_region 22 with (fail)
      cases mv
      rotate_left
      · as_aux_lemma =>
          refine wp_region_blw (by kernel_rfl) (by kernel_rfl) ?_
          repeat (go_big_quiet_step (fail))
          refine wpQuiet_nil ?_
          rintro W5 ⟨⟨_, hb5⟩, rfl⟩
          clear q1 hbs
          go_wp2_with (fail)
          go_roundg (pn - (k + 1))
          case measure => rw [HG.out]; omega
          case rel => exact ⟨k + 1, true, rfl, by omega, by go_num, rfl, by rw [HTS.out, ← Bool.or_assoc, ← HMV.out]; rfl, rdB hP hb5, rdB hC hb5, rdB hD hb5, hS.below hb5 hS.lt, hB.trans (hb5.mono hB.size)⟩
      · cases hcb : clB zi zk
        all_goals
          as_aux_lemma =>
            refine wp_region_blw (by kernel_rfl) (by kernel_rfl) ?_
            repeat (go_big_quiet_step (first | (go_at_call_of 66 (Value.slice hCA rsC.length hCc); exact Calls.blw_of _ (hki _)) | (go_at_call_of 66 (Value.slice hDA rsD.length hDc); exact Calls.blw_of _ (hkk _)) | (go_at_call 81; exact Calls.blw_of_same _ (hcb ▸ Opposed_any _ _ _))))
            refine wpQuiet_nil ?_
            rintro W5 ⟨⟨_, hb5⟩, rfl⟩
            clear q1 hbs
            go_wp2_with (fail)
            go_roundg (pn - (k + 1))
            case measure => rw [HG.out]; omega
            case rel => exact ⟨k + 1, _, rfl, by omega, by go_num, rfl, by rw [HTS.out, ← Bool.or_assoc, ← HMV.out, hcb]; rfl, rdB hP hb5, rdB hC hb5, rdB hD hb5, hS.below hb5 hS.lt, hB.trans (hb5.mono hB.size)⟩
    · obtain rfl : k = pn := by omega
      have hge : ¬ (k : Int) < k := by omega
      have hmt : mv = true := by
        rw [HMV.out, HFE.out, List.take_of_length_le (by unfold castL at hpl; rw [List.length_map] at hpl; omega)]
        exact HFIN.out
      subst hmt
      clear hpl
      go_wp2_with ((go_at_call 24; refine (known_true m _ (known_at hm hB)).mono ?_; rintro e w1 ⟨rfl, hb⟩; replace hB := hB.trans (hb.mono hB.size)))
      go_ret
      exact ⟨rfl, hB⟩
set_option maxRecDepth 100000 in
set_option maxHeartbeats 25600000 in
theorem proof_c (Wn Hn : Nat) (F L X Y nl nh xl xh y n1 x1 y1 n2 x2 y2 : Int) (i1 i2 : Nat) (A : Option Addr) (n cap : Nat) (fs : List Fig) (CA : Option Addr) (kn kcap : Nat) (cs : List Int) (OA : Option Addr) (on ocap : Nat) (os : List Int) (m : Int) (w : World) (hm : w.cell? ⟨0, 0, none⟩ = some (.int .i64 m)) (hcap : n ≤ cap) (hcm : cap ≤ maxLen) (hf : ∀ f ∈ fs, f.ok w w.heap.size) (hr : Rd w w.heap.size 1 A n (fs.map Fig.val)) (hkn : kn ≤ kcap) (hkcm : kcap ≤ maxLen) (hC0 : Rd w w.heap.size 1 CA kn (cs.map (Value.int .i64))) (hon : on ≤ ocap) (hocm : ocap ≤ maxLen) (hO0 : Rd w w.heap.size 1 OA on (os.map (Value.int .i64))) (hfw : fewB fs = true) (hle : kn ≤ 10) (hol : on ≤ 10) (hst : stageB Wn Hn F L X Y = true) (hcel : cellsB Wn Hn cs = true) (hak : askV (askB Wn Hn F L X Y nl nh xl xh y fs && true) = 0) (hocel : cellsB Wn Hn os = true) (hwi : withB cs os = true) (hrx : readB n nl nh xl xh y i1 n1 x1 y1 = true) (hry : readB n nl nh xl xh y i2 n2 x2 y2 = true) (hdm : (1 ≤ Wn ∧ Wn ≤ 100) ∧ (1 ≤ Hn ∧ Hn ≤ 100)) (A1 : Option Addr) (m1 cap1 : Nat) (rows1 : List ByteArray) (A2 : Option Addr) (m2 cap2 : Nat) (rows2 : List ByteArray) (rsC rsD : List ByteArray) (zC zD : Nat → Int) (l : List Nat)
    (g1 : i1 < fs.length) (g2 : i2 < fs.length) (HG1 : Hid (fs[i1] = ⟨A1, m1, cap1, rows1⟩)) (HG2 : Hid (fs[i2] = ⟨A2, m2, cap2, rows2⟩))
    (HEC : Hid (errV (viewB Wn Hn F L X Y n1 x1 y1 rows1) = .int .i64 0)) (HED : Hid (errV (viewB Wn Hn F L X Y n2 x2 y2 rows2) = .int .i64 0)) (HRC : Hid (rsC = shadowRows Wn Hn F L X Y n1 x1 y1 rows1)) (HRD : Hid (rsD = shadowRows Wn Hn F L X Y n2 x2 y2 rows2))
    (hlc : rsC.length ≤ 100000) (hld : rsD.length ≤ 100000) (hsc : ∀ r ∈ rsC, r.size ≤ 100000) (hsd : ∀ r ∈ rsD, r.size ≤ 100000) (HWC : Hid (wholeB Wn Hn rsC = true)) (HWD : Hid (wholeB Wn Hn rsD = true))
    (HCC : Hid (∀ c ∈ l, c ≤ 10000 ∧ (∃ r, rsC[c / Wn]? = some r ∧ (ltr r)[c % Wn]? = some (zC c) ∧ r.size ≤ 10000) ∧ (∃ r, rsD[c / Wn]? = some r ∧ (ltr r)[c % Wn]? = some (zD c) ∧ r.size ≤ 10000)))
    (HFIN : Hid (((i1 == i2) || l.any (fun c => clB (zC c) (zD c))) = true)) (HEB1 : Hid (enoughB Wn Hn F L X Y nl nh xl xh y fs cs = true)) (HEE1 : Hid (enoughE Wn Hn F L X Y nl nh xl xh y fs cs = 0)) (HEB2 : Hid (enoughB Wn Hn F L X Y nl nh xl xh y fs os = true)) (HEE2 : Hid (enoughE Wn Hn F L X Y nl nh xl xh y fs os = 0)) (HPL : Hid ((planL Wn Hn F L X Y nl nh xl xh y fs cs).map natV = (castL l).map (Value.int .i64))) (HPE : Hid (planE Wn Hn F L X Y nl nh xl xh y fs cs = 0)) (HM : Hid (mistR Wn Hn F L X Y nl nh xl xh y fs = #[.int .i64 0, .int .i64 0, .int .i64 5])) (hl8 : l.length ≤ 8) (HPC : Hid (cellsB Wn Hn (castL l) = true)) (HPW : Hid (withB cs (castL l) = true)) (HEB3 : Hid (enoughB Wn Hn F L X Y nl nh xl xh y fs (castL l) = true)) (HEE3 : Hid (enoughE Wn Hn F L X Y nl nh xl xh y fs (castL l) = 0)) (HIS : Hid (true = true → l.length ≤ os.length ∧ (os.length = l.length → befB os (castL l) = false))) (heq : on = l.length) :
    Calls Tryz.prog 17 #[.agg #[.int .i64 Wn, .int .i64 Hn, .int .i64 F, .int .i64 L, .int .i64 X, .int .i64 Y], .slice A n cap, .agg #[.int .i64 nl, .int .i64 nh, .int .i64 xl, .int .i64 xh, .int .i64 y], .slice CA kn kcap, .slice OA on ocap, .agg #[.int .i64 (i1 : Nat), .int .i64 n1, .int .i64 x1, .int .i64 y1], .agg #[.int .i64 (i2 : Nat), .int .i64 n2, .int .i64 x2, .int .i64 y2]] w fun e w' => e = .returned (.bool true) ∧ Below w.heap.size w w' := by
  have HEQ := Lib.hid heq; clear heq
  have hn : n ≤ maxLen := Nat.le_trans hcap hcm
  have hle0 : ¬ (10 : Int) < kn := by omega
  have hol0 : ¬ (10 : Int) < on := by omega
  obtain ⟨⟨d1, d2⟩, d3, d4⟩ := hdm
  go_enter Tryz.func17, Tryz.ntmps17
  go_upto_region 1 with (fail)
  have hS := blk4_0 w (.cells #[.int .i64 nl, .int .i64 nh, .int .i64 xl, .int .i64 xh, .int .i64 y] 71) (.cells #[.int .i64 (i1 : Nat), .int .i64 n1, .int .i64 x1, .int .i64 y1] 86) (.cells #[.int .i64 (i2 : Nat), .int .i64 n2, .int .i64 x2, .int .i64 y2] 86) 23 #[.int .i64 Wn, .int .i64 Hn, .int .i64 F, .int .i64 L, .int .i64 X, .int .i64 Y]
  have hQ := blk4_1 w (.cells #[.int .i64 Wn, .int .i64 Hn, .int .i64 F, .int .i64 L, .int .i64 X, .int .i64 Y] 23) (.cells #[.int .i64 (i1 : Nat), .int .i64 n1, .int .i64 x1, .int .i64 y1] 86) (.cells #[.int .i64 (i2 : Nat), .int .i64 n2, .int .i64 x2, .int .i64 y2] 86) 71 #[.int .i64 nl, .int .i64 nh, .int .i64 xl, .int .i64 xh, .int .i64 y]
  have hXA := blk4_2 w (.cells #[.int .i64 Wn, .int .i64 Hn, .int .i64 F, .int .i64 L, .int .i64 X, .int .i64 Y] 23) (.cells #[.int .i64 nl, .int .i64 nh, .int .i64 xl, .int .i64 xh, .int .i64 y] 71) (.cells #[.int .i64 (i2 : Nat), .int .i64 n2, .int .i64 x2, .int .i64 y2] 86) 86 #[.int .i64 (i1 : Nat), .int .i64 n1, .int .i64 x1, .int .i64 y1]
  have hXB := blk4_3 w (.cells #[.int .i64 Wn, .int .i64 Hn, .int .i64 F, .int .i64 L, .int .i64 X, .int .i64 Y] 23) (.cells #[.int .i64 nl, .int .i64 nh, .int .i64 xl, .int .i64 xh, .int .i64 y] 71) (.cells #[.int .i64 (i1 : Nat), .int .i64 n1, .int .i64 x1, .int .i64 y1] 86) 86 #[.int .i64 (i2 : Nat), .int .i64 n2, .int .i64 x2, .int .i64 y2]
  have hB := pro_4 w (.cells #[.int .i64 Wn, .int .i64 Hn, .int .i64 F, .int .i64 L, .int .i64 X, .int .i64 Y] 23) (.cells #[.int .i64 nl, .int .i64 nh, .int .i64 xl, .int .i64 xh, .int .i64 y] 71) (.cells #[.int .i64 (i1 : Nat), .int .i64 n1, .int .i64 x1, .int .i64 y1] 86) (.cells #[.int .i64 (i2 : Nat), .int .i64 n2, .int .i64 x2, .int .i64 y2] 86)
  generalize (((w.alloc (.cells #[.int .i64 Wn, .int .i64 Hn, .int .i64 F, .int .i64 L, .int .i64 X, .int .i64 Y] 23)).alloc (.cells #[.int .i64 nl, .int .i64 nh, .int .i64 xl, .int .i64 xh, .int .i64 y] 71)).alloc (.cells #[.int .i64 (i1 : Nat), .int .i64 n1, .int .i64 x1, .int .i64 y1] 86)).alloc (.cells #[.int .i64 (i2 : Nat), .int .i64 n2, .int .i64 x2, .int .i64 y2] 86) = W0 at *
  have qhS := fun i => Blk.cell hS i
  have qhQ := fun i => Blk.cell hQ i
  have qhXA := fun i => Blk.cell hXA i
  have qhXB := fun i => Blk.cell hXB i
  have k39 : ∀ p : Blw W0.heap.size W0, Calls Tryz.prog 39 #[.slice A n cap] p.to fun e w' => e = .returned (.bool true) ∧ p.to = w' := fun p => by have h := few_any A n cap fs p.to hn (fun f h => ((hf f h).below (hB.trans (p.h.mono hB.size))).more (Nat.le_trans hB.size p.h.size)) (rdB hr (hB.trans (p.h.mono hB.size))); rw [hfw] at h; exact h
  have k27 : ∀ p : Blw W0.heap.size W0, Calls Tryz.prog 27 #[.agg #[.int .i64 Wn, .int .i64 Hn, .int .i64 F, .int .i64 L, .int .i64 X, .int .i64 Y]] p.to fun e w' => e = .returned (.bool true) ∧ Below p.to.heap.size p.to w' := fun p => by have h := Stage_any Wn Hn F L X Y p.to; rw [hst] at h; exact h
  have k76 : ∀ p : Blw W0.heap.size W0, Calls Tryz.prog 76 #[.agg #[.int .i64 Wn, .int .i64 Hn, .int .i64 F, .int .i64 L, .int .i64 X, .int .i64 Y], .slice CA kn kcap] p.to fun e w' => e = .returned (.bool true) ∧ Below p.to.heap.size p.to w' := fun p => by have h := refCells_any Wn Hn F L X Y CA kn kcap cs p.to (by omega) (rdB hC0 (hB.trans (p.h.mono hB.size))) (by omega) (by omega) (by omega) (by omega); rw [hcel] at h; exact h
  have k54 : ∀ p : Blw W0.heap.size W0, Calls Tryz.prog 54 #[.agg #[.int .i64 Wn, .int .i64 Hn, .int .i64 F, .int .i64 L, .int .i64 X, .int .i64 Y], .slice A n cap, .agg #[.int .i64 nl, .int .i64 nh, .int .i64 xl, .int .i64 xh, .int .i64 y], .bool true] p.to fun e w' => e = .returned (.int .i64 0) ∧ Below p.to.heap.size p.to w' := fun p => by have h := asked_any Wn Hn F L X Y nl nh xl xh y A n cap fs true p.to hn (fun f h => ((hf f h).below (hB.trans (p.h.mono hB.size))).more (Nat.le_trans hB.size p.h.size)) (rdB hr (hB.trans (p.h.mono hB.size))); rw [hak] at h; exact h
  have k76b : ∀ p : Blw W0.heap.size W0, Calls Tryz.prog 76 #[.agg #[.int .i64 Wn, .int .i64 Hn, .int .i64 F, .int .i64 L, .int .i64 X, .int .i64 Y], .slice OA on ocap] p.to fun e w' => e = .returned (.bool true) ∧ Below p.to.heap.size p.to w' := fun p => by have h := refCells_any Wn Hn F L X Y OA on ocap os p.to (by omega) (rdB hO0 (hB.trans (p.h.mono hB.size))) (by omega) (by omega) (by omega) (by omega); rw [hocel] at h; exact h
  have k79 : ∀ p : Blw W0.heap.size W0, Calls Tryz.prog 79 #[.slice CA kn kcap, .slice OA on ocap] p.to fun e w' => e = .returned (.bool true) ∧ p.to = w' := fun p => by have h := withinL_any CA kn kcap cs OA on ocap os p.to (by omega) (by omega) (rdB hC0 (hB.trans (p.h.mono hB.size))) (rdB hO0 (hB.trans (p.h.mono hB.size))); rw [hwi] at h; exact h
  have k60a : ∀ p : Blw W0.heap.size W0, Calls Tryz.prog 60 #[.slice A n cap, .agg #[.int .i64 nl, .int .i64 nh, .int .i64 xl, .int .i64 xh, .int .i64 y], .agg #[.int .i64 (i1 : Nat), .int .i64 n1, .int .i64 x1, .int .i64 y1]] p.to fun e w' => e = .returned (.bool true) ∧ Below p.to.heap.size p.to w' := fun p => by have h := reading_any nl nh xl xh y i1 n1 x1 y1 A n cap p.to; rw [hrx] at h; exact h
  have k60b : ∀ p : Blw W0.heap.size W0, Calls Tryz.prog 60 #[.slice A n cap, .agg #[.int .i64 nl, .int .i64 nh, .int .i64 xl, .int .i64 xh, .int .i64 y], .agg #[.int .i64 (i2 : Nat), .int .i64 n2, .int .i64 x2, .int .i64 y2]] p.to fun e w' => e = .returned (.bool true) ∧ Below p.to.heap.size p.to w' := fun p => by have h := reading_any nl nh xl xh y i2 n2 x2 y2 A n cap p.to; rw [hry] at h; exact h
  have hbS := fun p i => blw_blk hS p i
  have hbQ := fun p i => blw_blk hQ p i
  have hbXA := fun p i => blw_blk hXA p i
  have hbXB := fun p i => blw_blk hXB p i
  refine wp_region_blw (by kernel_rfl) (by kernel_rfl) ?_
  repeat (go_big_quiet_step (first | (go_at_call 39; exact Calls.blw_of_same _ (k39 _)) | (go_at_call 27; exact Calls.blw_of _ (k27 _)) | (go_at_call_of 76 (Value.slice CA kn kcap); exact Calls.blw_of _ (k76 _)) | (go_at_call 54; exact Calls.blw_of _ (k54 _)) | (go_at_call_of 76 (Value.slice OA on ocap); exact Calls.blw_of _ (k76b _)) | (go_at_call 79; exact Calls.blw_of_same _ (k79 _)) | (go_at_call_of 60 (Value.agg #[.int .i64 (i2 : Nat), .int .i64 n2, .int .i64 x2, .int .i64 y2]); exact Calls.blw_of _ (k60b _)) | (go_at_call_of 60 (Value.agg #[.int .i64 (i1 : Nat), .int .i64 n1, .int .i64 x1, .int .i64 y1]); exact Calls.blw_of _ (k60a _))))
  refine wpQuiet_nil ?_
  rintro W3 ⟨⟨_, hb⟩, rfl⟩
  clear qhS qhQ qhXA qhXB hbS hbQ hbXA hbXB k39 k27 k76 k54 k76b k79 k60a k60b
  replace hS := hS.below hb hS.lt; replace hQ := hQ.below hb hQ.lt; replace hXA := hXA.below hb hXA.lt; replace hXB := hXB.below hb hXB.lt; replace hB := hB.trans (hb.mono hB.size); clear hb; have qhS := fun i => Blk.cell hS i; have qhQ := fun i => Blk.cell hQ i; have qhXA := fun i => Blk.cell hXA i; have qhXB := fun i => Blk.cell hXB i
  clear hfw hst hcel hak hocel hwi hrx hry
  go_upto_region 4 with ((go_at_call_of 74 (Value.slice CA kn kcap); refine (Enough_all Wn Hn F L X Y nl nh xl xh y A n cap fs CA kn kcap cs _ hcap hcm (fun f h => ((hf f h).below hB).more hB.size) (rdB hr hB) (by omega) (rdB hC0 hB) (dif_small Wn Hn F L X Y nl nh xl xh y fs cs)).mono ?_; rintro e w1 ⟨rfl, hb⟩; rw [HEB1.out, HEE1.out]; (try replace hS := hS.below hb hS.lt); (try replace hQ := hQ.below hb hQ.lt); (try replace hXA := hXA.below hb hXA.lt); (try replace hXB := hXB.below hb hXB.lt); (try replace hP := rdB hP hb); (try replace hC := rdB hC hb); (try replace hD := rdB hD hb); replace hB := hB.trans (hb.mono hB.size); (try clear qhS); (try clear qhQ); (try clear qhXA); (try clear qhXB); clear hb; (try have qhS := fun i => Blk.cell hS i); (try have qhQ := fun i => Blk.cell hQ i); (try have qhXA := fun i => Blk.cell hXA i); (try have qhXB := fun i => Blk.cell hXB i)))
  clear HEB1 HEE1
  go_upto_region 5 with ((go_at_call_of 74 (Value.slice OA on ocap); refine (Enough_all Wn Hn F L X Y nl nh xl xh y A n cap fs OA on ocap os _ hcap hcm (fun f h => ((hf f h).below hB).more hB.size) (rdB hr hB) (by omega) (rdB hO0 hB) (dif_small Wn Hn F L X Y nl nh xl xh y fs os)).mono ?_; rintro e w1 ⟨rfl, hb⟩; rw [HEB2.out, HEE2.out]; (try replace hS := hS.below hb hS.lt); (try replace hQ := hQ.below hb hQ.lt); (try replace hXA := hXA.below hb hXA.lt); (try replace hXB := hXB.below hb hXB.lt); (try replace hP := rdB hP hb); (try replace hC := rdB hC hb); (try replace hD := rdB hD hb); replace hB := hB.trans (hb.mono hB.size); (try clear qhS); (try clear qhQ); (try clear qhXA); (try clear qhXB); clear hb; (try have qhS := fun i => Blk.cell hS i); (try have qhQ := fun i => Blk.cell hQ i); (try have qhXA := fun i => Blk.cell hXA i); (try have qhXB := fun i => Blk.cell hXB i)))
  clear HEB2 HEE2
  go_upto_region 6 with ((go_at_call 75; refine (Plan_all Wn Hn F L X Y nl nh xl xh y A n cap fs CA kn kcap cs _ hcap hcm (fun f h => ((hf f h).below hB).more hB.size) (rdB hr hB) (by omega) (rdB hC0 hB) (dif_small Wn Hn F L X Y nl nh xl xh y fs cs)).mono ?_; rintro e w1 ⟨v1, rfl, hIs, hb⟩; obtain ⟨pA, pn, pc, rfl, hp1, hp2, hP⟩ := hIs; rw [HPL.out] at hP; rw [HPE.out]; (try replace hS := hS.below hb hS.lt); (try replace hQ := hQ.below hb hQ.lt); (try replace hXA := hXA.below hb hXA.lt); (try replace hXB := hXB.below hb hXB.lt); (try replace hC := rdB hC hb); (try replace hD := rdB hD hb); replace hB := hB.trans (hb.mono hB.size); (try clear qhS); (try clear qhQ); (try clear qhXA); (try clear qhXB); clear hb; (try have qhS := fun i => Blk.cell hS i); (try have qhQ := fun i => Blk.cell hQ i); (try have qhXA := fun i => Blk.cell hXA i); (try have qhXB := fun i => Blk.cell hXB i)))
  clear HPL HPE
  go_upto_region 7 with ((go_at_call 68; refine (Mistaken_any Wn Hn F L X Y nl nh xl xh y A n cap fs _ hcap hcm (fun f h => ((hf f h).below hB).more hB.size) (rdB hr hB)).mono ?_; rintro e w1 ⟨rfl, hb⟩; rw [HM.out]; (try replace hS := hS.below hb hS.lt); (try replace hQ := hQ.below hb hQ.lt); (try replace hXA := hXA.below hb hXA.lt); (try replace hXB := hXB.below hb hXB.lt); (try replace hP := rdB hP hb); (try replace hC := rdB hC hb); (try replace hD := rdB hD hb); replace hB := hB.trans (hb.mono hB.size); (try clear qhS); (try clear qhQ); (try clear qhXA); (try clear qhXB); clear hb; (try have qhS := fun i => Blk.cell hS i); (try have qhQ := fun i => Blk.cell hQ i); (try have qhXA := fun i => Blk.cell hXA i); (try have qhXB := fun i => Blk.cell hXB i)))
  clear HM
  go_upto_region 9 with (fail)
  go_upto_region 11 with (fail)
  have hpn8 : pn ≤ 8 := by have h := hP.len; unfold castL at h; rw [List.length_map] at h; omega
  have hpl := hP.len
  unfold castL at hpl
  rw [List.length_map] at hpl
  have hop : on ≤ pn := by have := HEQ.out; omega
  have hlp : ¬ (on : Int) < pn := by have := HEQ.out; omega
  have hep : ((on : Int) == (pn : Int)) = true := by have := HEQ.out; simp; omega
  have HBF : befB os (castL l) = false := (HIS.out (by trivial)).2 (by have := hO0.len; have := HEQ.out; omega)
  clear hpl
  go_upto_region 13 with (first | (go_at_call 76; refine (refCells_any Wn Hn F L X Y pA pn pc (castL l) _ (by omega) hP (by omega) (by omega) (by omega) (by omega)).mono ?_; rintro e w1 ⟨rfl, hb⟩; rw [HPC.out]; (try replace hS := hS.below hb hS.lt); (try replace hQ := hQ.below hb hQ.lt); (try replace hXA := hXA.below hb hXA.lt); (try replace hXB := hXB.below hb hXB.lt); (try replace hP := rdB hP hb); (try replace hC := rdB hC hb); (try replace hD := rdB hD hb); replace hB := hB.trans (hb.mono hB.size); (try clear qhS); (try clear qhQ); (try clear qhXA); (try clear qhXB); clear hb; (try have qhS := fun i => Blk.cell hS i); (try have qhQ := fun i => Blk.cell hQ i); (try have qhXA := fun i => Blk.cell hXA i); (try have qhXB := fun i => Blk.cell hXB i)) | (go_at_call 79; refine (withinL_any CA kn kcap cs pA pn pc (castL l) _ (by omega) (by omega) (rdB hC0 hB) hP).mono ?_; rintro e w1 ⟨rfl, rfl⟩; rw [HPW.out]) | (go_at_call 80; refine (before_any OA pA on pn ocap pc os (castL l) _ hop (by omega) (rdB hO0 hB) hP).mono ?_; rintro e w1 ⟨rfl, hb⟩; rw [HBF]; (try replace hS := hS.below hb hS.lt); (try replace hQ := hQ.below hb hQ.lt); (try replace hXA := hXA.below hb hXA.lt); (try replace hXB := hXB.below hb hXB.lt); (try replace hP := rdB hP hb); (try replace hC := rdB hC hb); (try replace hD := rdB hD hb); replace hB := hB.trans (hb.mono hB.size); (try clear qhS); (try clear qhQ); (try clear qhXA); (try clear qhXB); clear hb; (try have qhS := fun i => Blk.cell hS i); (try have qhQ := fun i => Blk.cell hQ i); (try have qhXA := fun i => Blk.cell hXA i); (try have qhXB := fun i => Blk.cell hXB i)))
  clear HPC HPW HIS
  go_upto_region 14 with ((go_at_call_of 74 (Value.slice pA pn pc); refine (Enough_all Wn Hn F L X Y nl nh xl xh y A n cap fs pA pn pc (castL l) _ hcap hcm (fun f h => ((hf f h).below hB).more hB.size) (rdB hr hB) (by omega) hP (dif_small Wn Hn F L X Y nl nh xl xh y fs (castL l))).mono ?_; rintro e w1 ⟨rfl, hb⟩; rw [HEB3.out, HEE3.out]; (try replace hS := hS.below hb hS.lt); (try replace hQ := hQ.below hb hQ.lt); (try replace hXA := hXA.below hb hXA.lt); (try replace hXB := hXB.below hb hXB.lt); (try replace hP := rdB hP hb); (try replace hC := rdB hC hb); (try replace hD := rdB hD hb); replace hB := hB.trans (hb.mono hB.size); (try clear qhS); (try clear qhQ); (try clear qhXA); (try clear qhXB); clear hb; (try have qhS := fun i => Blk.cell hS i); (try have qhQ := fun i => Blk.cell hQ i); (try have qhXA := fun i => Blk.cell hXA i); (try have qhXB := fun i => Blk.cell hXB i)))
  clear HEB3 HEE3
  have hlen := hr.len
  have hi1 : (i1 : Int) < n := by omega
  have hi2 : (i2 : Int) < n := by omega
  rename World => WA
  have hrW := rdB hr hB
  obtain ⟨b, off, rfl, hbb, hcf⟩ := hrW.2 (by omega)
  have c1 : WA.cell? ⟨b, off + i1, none⟩ = some (Fig.val fs[i1]) := hcf i1 (Fig.val fs[i1]) (by simp [g1])
  have c2 : WA.cell? ⟨b, off + i2, none⟩ = some (Fig.val fs[i2]) := hcf i2 (Fig.val fs[i2]) (by simp [g2])
  have o1 := hf _ (List.getElem_mem g1)
  have o2 := hf _ (List.getElem_mem g2)
  rw [HG1.out] at c1 o1
  rw [HG2.out] at c2 o2
  simp only [Fig.val] at c1 c2
  obtain ⟨hc11, hc12, hs1, hR1⟩ := o1
  obtain ⟨hc21, hc22, hs2, hR2⟩ := o2
  dsimp only at hc11 hc12 hs1 hR1 hc21 hc22 hs2 hR2
  clear hcf HG1 HG2
  rename World => WR
  refine wp_region_G (fun w' => Below WR.drew.heap.size WR.drew w') 13 (by kernel_rfl) ?_
  replace hS := hS.drew
  replace hQ := hQ.drew
  replace hXA := hXA.drew
  replace hXB := hXB.drew
  replace hP : Rd WR.drew WR.drew.heap.size _ _ _ _ := hP
  replace hB := hB.drew
  (try clear qhS qhQ qhXA qhXB)
  replace hbb : b < WR.drew.heap.size := hbb
  replace c1 : WR.drew.cell? _ = _ := c1
  replace c2 : WR.drew.cell? _ = _ := c2
  generalize WR.drew = WD at *
  have hTT : Below WD.heap.size WD WD := Below.refl _ _
  refine wpG_take (i := 0) (v := ?vz5_0) rfl (by kernel_rfl) (by kernel_rfl) (by kernel_rfl) (by kernel_rfl) (fun _ _ _ h => h) (Or.inl ⟨by rfl, ?hyz5_0⟩) hTT ?restz5_0
  case hyz5_0 => intro wq hSw; have qhS := fun i => (Blk.below hS hSw hS.lt).cell i; have qhQ := fun i => (Blk.below hQ hSw hQ.lt).cell i; have qhXA := fun i => (Blk.below hXA hSw hXA.lt).cell i; have qhXB := fun i => (Blk.below hXB hSw hXB.lt).cell i; have e1 := (hSw.cell (p := ⟨b, off + i1, none⟩) hbb).trans c1; have e2 := (hSw.cell (p := ⟨b, off + i2, none⟩) hbb).trans c2; go_simp <;> with_reducible rfl
  simp only [List.getElem_toArray, List.getElem_cons_zero, List.getElem_cons_succ, Act.put, List.setIfInBounds_toArray, List.set_cons_zero, List.set_cons_succ]
  refine wpG_take (i := 1) (v := ?vz5_1) rfl (by kernel_rfl) (by kernel_rfl) (by kernel_rfl) (by kernel_rfl) (fun _ _ _ h => h) (Or.inl ⟨by rfl, ?hyz5_1⟩) hTT ?restz5_1
  case hyz5_1 => intro wq hSw; have qhS := fun i => (Blk.below hS hSw hS.lt).cell i; have qhQ := fun i => (Blk.below hQ hSw hQ.lt).cell i; have qhXA := fun i => (Blk.below hXA hSw hXA.lt).cell i; have qhXB := fun i => (Blk.below hXB hSw hXB.lt).cell i; have e1 := (hSw.cell (p := ⟨b, off + i1, none⟩) hbb).trans c1; have e2 := (hSw.cell (p := ⟨b, off + i2, none⟩) hbb).trans c2; go_simp <;> with_reducible rfl
  simp only [List.getElem_toArray, List.getElem_cons_zero, List.getElem_cons_succ, Act.put, List.setIfInBounds_toArray, List.set_cons_zero, List.set_cons_succ]
  refine wpG_take (i := 2) (v := ?vz5_2) rfl (by kernel_rfl) (by kernel_rfl) (by kernel_rfl) (by kernel_rfl) (fun _ _ _ h => h) (Or.inl ⟨by rfl, ?hyz5_2⟩) hTT ?restz5_2
  case hyz5_2 => intro wq hSw; have qhS := fun i => (Blk.below hS hSw hS.lt).cell i; have qhQ := fun i => (Blk.below hQ hSw hQ.lt).cell i; have qhXA := fun i => (Blk.below hXA hSw hXA.lt).cell i; have qhXB := fun i => (Blk.below hXB hSw hXB.lt).cell i; have e1 := (hSw.cell (p := ⟨b, off + i1, none⟩) hbb).trans c1; have e2 := (hSw.cell (p := ⟨b, off + i2, none⟩) hbb).trans c2; go_simp <;> with_reducible rfl
  simp only [List.getElem_toArray, List.getElem_cons_zero, List.getElem_cons_succ, Act.put, List.setIfInBounds_toArray, List.set_cons_zero, List.set_cons_succ]
  refine wpG_take (i := 3) (v := ?vz5_3) rfl (by kernel_rfl) (by kernel_rfl) (by kernel_rfl) (by kernel_rfl) (fun _ _ _ h => h) (Or.inl ⟨by rfl, ?hyz5_3⟩) hTT ?restz5_3
  case hyz5_3 => intro wq hSw; have qhS := fun i => (Blk.below hS hSw hS.lt).cell i; have qhQ := fun i => (Blk.below hQ hSw hQ.lt).cell i; have qhXA := fun i => (Blk.below hXA hSw hXA.lt).cell i; have qhXB := fun i => (Blk.below hXB hSw hXB.lt).cell i; have e1 := (hSw.cell (p := ⟨b, off + i1, none⟩) hbb).trans c1; have e2 := (hSw.cell (p := ⟨b, off + i2, none⟩) hbb).trans c2; go_simp <;> with_reducible rfl
  simp only [List.getElem_toArray, List.getElem_cons_zero, List.getElem_cons_succ, Act.put, List.setIfInBounds_toArray, List.set_cons_zero, List.set_cons_succ]
  refine wpG_take (i := 4) (v := ?vz5_4) rfl (by kernel_rfl) (by kernel_rfl) (by kernel_rfl) (by kernel_rfl) (fun _ _ _ h => h) (Or.inl ⟨by rfl, ?hyz5_4⟩) hTT ?restz5_4
  case hyz5_4 => intro wq hSw; have qhS := fun i => (Blk.below hS hSw hS.lt).cell i; have qhQ := fun i => (Blk.below hQ hSw hQ.lt).cell i; have qhXA := fun i => (Blk.below hXA hSw hXA.lt).cell i; have qhXB := fun i => (Blk.below hXB hSw hXB.lt).cell i; have e1 := (hSw.cell (p := ⟨b, off + i1, none⟩) hbb).trans c1; have e2 := (hSw.cell (p := ⟨b, off + i2, none⟩) hbb).trans c2; go_simp <;> with_reducible rfl
  simp only [List.getElem_toArray, List.getElem_cons_zero, List.getElem_cons_succ, Act.put, List.setIfInBounds_toArray, List.set_cons_zero, List.set_cons_succ]
  refine wpG_take (i := 5) (v := ?vz5_5) rfl (by kernel_rfl) (by kernel_rfl) (by kernel_rfl) (by kernel_rfl) (fun _ _ _ h => h) (Or.inl ⟨by rfl, ?hyz5_5⟩) hTT ?restz5_5
  case hyz5_5 => intro wq hSw; have qhS := fun i => (Blk.below hS hSw hS.lt).cell i; have qhQ := fun i => (Blk.below hQ hSw hQ.lt).cell i; have qhXA := fun i => (Blk.below hXA hSw hXA.lt).cell i; have qhXB := fun i => (Blk.below hXB hSw hXB.lt).cell i; have e1 := (hSw.cell (p := ⟨b, off + i1, none⟩) hbb).trans c1; have e2 := (hSw.cell (p := ⟨b, off + i2, none⟩) hbb).trans c2; go_simp <;> with_reducible rfl
  simp only [List.getElem_toArray, List.getElem_cons_zero, List.getElem_cons_succ, Act.put, List.setIfInBounds_toArray, List.set_cons_zero, List.set_cons_succ]
  refine wpG_take (i := 6) (v := ?vz5_6) rfl (by kernel_rfl) (by kernel_rfl) (by kernel_rfl) (by kernel_rfl) (fun _ _ _ h => h) (Or.inl ⟨by rfl, ?hyz5_6⟩) hTT ?restz5_6
  case hyz5_6 => intro wq hSw; have qhS := fun i => (Blk.below hS hSw hS.lt).cell i; have qhQ := fun i => (Blk.below hQ hSw hQ.lt).cell i; have qhXA := fun i => (Blk.below hXA hSw hXA.lt).cell i; have qhXB := fun i => (Blk.below hXB hSw hXB.lt).cell i; have e1 := (hSw.cell (p := ⟨b, off + i1, none⟩) hbb).trans c1; have e2 := (hSw.cell (p := ⟨b, off + i2, none⟩) hbb).trans c2; go_simp <;> with_reducible rfl
  simp only [List.getElem_toArray, List.getElem_cons_zero, List.getElem_cons_succ, Act.put, List.setIfInBounds_toArray, List.set_cons_zero, List.set_cons_succ]
  refine wpG_take (i := 7) (v := ?vz5_7) rfl (by kernel_rfl) (by kernel_rfl) (by kernel_rfl) (by kernel_rfl) (fun _ _ _ h => h) (Or.inl ⟨by rfl, ?hyz5_7⟩) hTT ?restz5_7
  case hyz5_7 => intro wq hSw; have qhS := fun i => (Blk.below hS hSw hS.lt).cell i; have qhQ := fun i => (Blk.below hQ hSw hQ.lt).cell i; have qhXA := fun i => (Blk.below hXA hSw hXA.lt).cell i; have qhXB := fun i => (Blk.below hXB hSw hXB.lt).cell i; have e1 := (hSw.cell (p := ⟨b, off + i1, none⟩) hbb).trans c1; have e2 := (hSw.cell (p := ⟨b, off + i2, none⟩) hbb).trans c2; go_simp <;> with_reducible rfl
  simp only [List.getElem_toArray, List.getElem_cons_zero, List.getElem_cons_succ, Act.put, List.setIfInBounds_toArray, List.set_cons_zero, List.set_cons_succ]
  refine wpG_one (i := 8) rfl (by kernel_rfl) (fun K hK => ?_)
  go_simp
  refine (Shadow_any Wn Hn F L X Y n1 x1 y1 A1 m1 cap1 rows1 _ hc11 hc12 hs1 (rdB hR1 hB)).mono ?_; rintro e w1 ⟨vv, rfl, own, hb⟩; rw [HEC.out]; rw [← HRC.out] at own; obtain ⟨hCA, hCc, rfl⟩ := own_slice own; have hC1 := own_le0 own; have hC2 := own_cap own; have hC := Rd.of_own own; clear own; replace hTT := hTT.trans (hb.mono hTT.size); replace hS := hS.below hb hS.lt; replace hQ := hQ.below hb hQ.lt; replace hXA := hXA.below hb hXA.lt; replace hXB := hXB.below hb hXB.lt; (try replace hP := rdB hP hb); (try replace hD := rdB hD hb); replace hB := hB.trans (hb.mono hB.size); replace c1 := (hb.cell (p := ⟨b, off + i1, none⟩) hbb).trans c1; replace c2 := (hb.cell (p := ⟨b, off + i2, none⟩) hbb).trans c2; replace hbb := Nat.lt_of_lt_of_le hbb hb.size; clear hb; dsimp only
  refine hK _ _ (.inr hTT) ?_
  clear hK K
  try simp only [List.getElem_toArray, List.getElem_cons_zero, List.getElem_cons_succ, Act.put, List.setIfInBounds_toArray, List.set_cons_zero, List.set_cons_succ]
  refine wpG_take (i := 9) (v := ?vz5_9) rfl (by kernel_rfl) (by kernel_rfl) (by kernel_rfl) (by kernel_rfl) (fun _ _ _ h => h) (Or.inl ⟨by rfl, ?hyz5_9⟩) hTT ?restz5_9
  case hyz5_9 => intro wq hSw; skip; go_simp <;> with_reducible rfl
  simp only [List.getElem_toArray, List.getElem_cons_zero, List.getElem_cons_succ, Act.put, List.setIfInBounds_toArray, List.set_cons_zero, List.set_cons_succ]
  refine wpG_take (i := 10) (v := ?vz5_10) rfl (by kernel_rfl) (by kernel_rfl) (by kernel_rfl) (by kernel_rfl) (fun _ _ _ h => h) (Or.inl ⟨by rfl, ?hyz5_10⟩) hTT ?restz5_10
  case hyz5_10 => intro wq hSw; skip; go_simp <;> with_reducible rfl
  simp only [List.getElem_toArray, List.getElem_cons_zero, List.getElem_cons_succ, Act.put, List.setIfInBounds_toArray, List.set_cons_zero, List.set_cons_succ]
  refine wpG_take (i := 11) (v := ?vz5_11) rfl (by kernel_rfl) (by kernel_rfl) (by kernel_rfl) (by kernel_rfl) (fun _ _ _ h => h) (Or.inl ⟨by rfl, ?hyz5_11⟩) hTT ?restz5_11
  case hyz5_11 => intro wq hSw; skip; go_simp <;> with_reducible rfl
  simp only [List.getElem_toArray, List.getElem_cons_zero, List.getElem_cons_succ, Act.put, List.setIfInBounds_toArray, List.set_cons_zero, List.set_cons_succ]
  refine wpG_take (i := 12) (v := ?vz5_12) rfl (by kernel_rfl) (by kernel_rfl) (by kernel_rfl) (by kernel_rfl) (fun _ _ _ h => h) (Or.inl ⟨by rfl, ?hyz5_12⟩) hTT ?restz5_12
  case hyz5_12 => intro wq hSw; skip; go_simp <;> with_reducible rfl
  simp only [List.getElem_toArray, List.getElem_cons_zero, List.getElem_cons_succ, Act.put, List.setIfInBounds_toArray, List.set_cons_zero, List.set_cons_succ]
  refine wpG_one (i := 13) rfl (by kernel_rfl) (fun K hK => ?_)
  go_simp
  refine hK _ _ (.inl rfl) ?_
  clear hK K
  try simp only [List.getElem_toArray, List.getElem_cons_zero, List.getElem_cons_succ, Act.put, List.setIfInBounds_toArray, List.set_cons_zero, List.set_cons_succ]
  refine wpG_done (by kernel_rfl) ?_ _
  clear hTT
  have qhS := fun i => Blk.cell hS i
  have qhQ := fun i => Blk.cell hQ i
  have qhXA := fun i => Blk.cell hXA i
  have qhXB := fun i => Blk.cell hXB i
  go_upto_region 15 with (fail)
  rename World => WR
  refine wp_region_G (fun w' => Below WR.drew.heap.size WR.drew w') 13 (by kernel_rfl) ?_
  replace hS := hS.drew
  replace hQ := hQ.drew
  replace hXA := hXA.drew
  replace hXB := hXB.drew
  replace hP : Rd WR.drew WR.drew.heap.size _ _ _ _ := hP
  replace hC : Rd WR.drew WR.drew.heap.size _ _ _ _ := hC
  replace hB := hB.drew
  (try clear qhS qhQ qhXA qhXB)
  replace hbb : b < WR.drew.heap.size := hbb
  replace c1 : WR.drew.cell? _ = _ := c1
  replace c2 : WR.drew.cell? _ = _ := c2
  generalize WR.drew = WD at *
  have hTT : Below WD.heap.size WD WD := Below.refl _ _
  refine wpG_take (i := 0) (v := ?vz6_0) rfl (by kernel_rfl) (by kernel_rfl) (by kernel_rfl) (by kernel_rfl) (fun _ _ _ h => h) (Or.inl ⟨by rfl, ?hyz6_0⟩) hTT ?restz6_0
  case hyz6_0 => intro wq hSw; have qhS := fun i => (Blk.below hS hSw hS.lt).cell i; have qhQ := fun i => (Blk.below hQ hSw hQ.lt).cell i; have qhXA := fun i => (Blk.below hXA hSw hXA.lt).cell i; have qhXB := fun i => (Blk.below hXB hSw hXB.lt).cell i; have e1 := (hSw.cell (p := ⟨b, off + i1, none⟩) hbb).trans c1; have e2 := (hSw.cell (p := ⟨b, off + i2, none⟩) hbb).trans c2; go_simp <;> with_reducible rfl
  simp only [List.getElem_toArray, List.getElem_cons_zero, List.getElem_cons_succ, Act.put, List.setIfInBounds_toArray, List.set_cons_zero, List.set_cons_succ]
  refine wpG_take (i := 1) (v := ?vz6_1) rfl (by kernel_rfl) (by kernel_rfl) (by kernel_rfl) (by kernel_rfl) (fun _ _ _ h => h) (Or.inl ⟨by rfl, ?hyz6_1⟩) hTT ?restz6_1
  case hyz6_1 => intro wq hSw; have qhS := fun i => (Blk.below hS hSw hS.lt).cell i; have qhQ := fun i => (Blk.below hQ hSw hQ.lt).cell i; have qhXA := fun i => (Blk.below hXA hSw hXA.lt).cell i; have qhXB := fun i => (Blk.below hXB hSw hXB.lt).cell i; have e1 := (hSw.cell (p := ⟨b, off + i1, none⟩) hbb).trans c1; have e2 := (hSw.cell (p := ⟨b, off + i2, none⟩) hbb).trans c2; go_simp <;> with_reducible rfl
  simp only [List.getElem_toArray, List.getElem_cons_zero, List.getElem_cons_succ, Act.put, List.setIfInBounds_toArray, List.set_cons_zero, List.set_cons_succ]
  refine wpG_take (i := 2) (v := ?vz6_2) rfl (by kernel_rfl) (by kernel_rfl) (by kernel_rfl) (by kernel_rfl) (fun _ _ _ h => h) (Or.inl ⟨by rfl, ?hyz6_2⟩) hTT ?restz6_2
  case hyz6_2 => intro wq hSw; have qhS := fun i => (Blk.below hS hSw hS.lt).cell i; have qhQ := fun i => (Blk.below hQ hSw hQ.lt).cell i; have qhXA := fun i => (Blk.below hXA hSw hXA.lt).cell i; have qhXB := fun i => (Blk.below hXB hSw hXB.lt).cell i; have e1 := (hSw.cell (p := ⟨b, off + i1, none⟩) hbb).trans c1; have e2 := (hSw.cell (p := ⟨b, off + i2, none⟩) hbb).trans c2; go_simp <;> with_reducible rfl
  simp only [List.getElem_toArray, List.getElem_cons_zero, List.getElem_cons_succ, Act.put, List.setIfInBounds_toArray, List.set_cons_zero, List.set_cons_succ]
  refine wpG_take (i := 3) (v := ?vz6_3) rfl (by kernel_rfl) (by kernel_rfl) (by kernel_rfl) (by kernel_rfl) (fun _ _ _ h => h) (Or.inl ⟨by rfl, ?hyz6_3⟩) hTT ?restz6_3
  case hyz6_3 => intro wq hSw; have qhS := fun i => (Blk.below hS hSw hS.lt).cell i; have qhQ := fun i => (Blk.below hQ hSw hQ.lt).cell i; have qhXA := fun i => (Blk.below hXA hSw hXA.lt).cell i; have qhXB := fun i => (Blk.below hXB hSw hXB.lt).cell i; have e1 := (hSw.cell (p := ⟨b, off + i1, none⟩) hbb).trans c1; have e2 := (hSw.cell (p := ⟨b, off + i2, none⟩) hbb).trans c2; go_simp <;> with_reducible rfl
  simp only [List.getElem_toArray, List.getElem_cons_zero, List.getElem_cons_succ, Act.put, List.setIfInBounds_toArray, List.set_cons_zero, List.set_cons_succ]
  refine wpG_take (i := 4) (v := ?vz6_4) rfl (by kernel_rfl) (by kernel_rfl) (by kernel_rfl) (by kernel_rfl) (fun _ _ _ h => h) (Or.inl ⟨by rfl, ?hyz6_4⟩) hTT ?restz6_4
  case hyz6_4 => intro wq hSw; have qhS := fun i => (Blk.below hS hSw hS.lt).cell i; have qhQ := fun i => (Blk.below hQ hSw hQ.lt).cell i; have qhXA := fun i => (Blk.below hXA hSw hXA.lt).cell i; have qhXB := fun i => (Blk.below hXB hSw hXB.lt).cell i; have e1 := (hSw.cell (p := ⟨b, off + i1, none⟩) hbb).trans c1; have e2 := (hSw.cell (p := ⟨b, off + i2, none⟩) hbb).trans c2; go_simp <;> with_reducible rfl
  simp only [List.getElem_toArray, List.getElem_cons_zero, List.getElem_cons_succ, Act.put, List.setIfInBounds_toArray, List.set_cons_zero, List.set_cons_succ]
  refine wpG_take (i := 5) (v := ?vz6_5) rfl (by kernel_rfl) (by kernel_rfl) (by kernel_rfl) (by kernel_rfl) (fun _ _ _ h => h) (Or.inl ⟨by rfl, ?hyz6_5⟩) hTT ?restz6_5
  case hyz6_5 => intro wq hSw; have qhS := fun i => (Blk.below hS hSw hS.lt).cell i; have qhQ := fun i => (Blk.below hQ hSw hQ.lt).cell i; have qhXA := fun i => (Blk.below hXA hSw hXA.lt).cell i; have qhXB := fun i => (Blk.below hXB hSw hXB.lt).cell i; have e1 := (hSw.cell (p := ⟨b, off + i1, none⟩) hbb).trans c1; have e2 := (hSw.cell (p := ⟨b, off + i2, none⟩) hbb).trans c2; go_simp <;> with_reducible rfl
  simp only [List.getElem_toArray, List.getElem_cons_zero, List.getElem_cons_succ, Act.put, List.setIfInBounds_toArray, List.set_cons_zero, List.set_cons_succ]
  refine wpG_take (i := 6) (v := ?vz6_6) rfl (by kernel_rfl) (by kernel_rfl) (by kernel_rfl) (by kernel_rfl) (fun _ _ _ h => h) (Or.inl ⟨by rfl, ?hyz6_6⟩) hTT ?restz6_6
  case hyz6_6 => intro wq hSw; have qhS := fun i => (Blk.below hS hSw hS.lt).cell i; have qhQ := fun i => (Blk.below hQ hSw hQ.lt).cell i; have qhXA := fun i => (Blk.below hXA hSw hXA.lt).cell i; have qhXB := fun i => (Blk.below hXB hSw hXB.lt).cell i; have e1 := (hSw.cell (p := ⟨b, off + i1, none⟩) hbb).trans c1; have e2 := (hSw.cell (p := ⟨b, off + i2, none⟩) hbb).trans c2; go_simp <;> with_reducible rfl
  simp only [List.getElem_toArray, List.getElem_cons_zero, List.getElem_cons_succ, Act.put, List.setIfInBounds_toArray, List.set_cons_zero, List.set_cons_succ]
  refine wpG_take (i := 7) (v := ?vz6_7) rfl (by kernel_rfl) (by kernel_rfl) (by kernel_rfl) (by kernel_rfl) (fun _ _ _ h => h) (Or.inl ⟨by rfl, ?hyz6_7⟩) hTT ?restz6_7
  case hyz6_7 => intro wq hSw; have qhS := fun i => (Blk.below hS hSw hS.lt).cell i; have qhQ := fun i => (Blk.below hQ hSw hQ.lt).cell i; have qhXA := fun i => (Blk.below hXA hSw hXA.lt).cell i; have qhXB := fun i => (Blk.below hXB hSw hXB.lt).cell i; have e1 := (hSw.cell (p := ⟨b, off + i1, none⟩) hbb).trans c1; have e2 := (hSw.cell (p := ⟨b, off + i2, none⟩) hbb).trans c2; go_simp <;> with_reducible rfl
  simp only [List.getElem_toArray, List.getElem_cons_zero, List.getElem_cons_succ, Act.put, List.setIfInBounds_toArray, List.set_cons_zero, List.set_cons_succ]
  refine wpG_one (i := 8) rfl (by kernel_rfl) (fun K hK => ?_)
  go_simp
  refine (Shadow_any Wn Hn F L X Y n2 x2 y2 A2 m2 cap2 rows2 _ hc21 hc22 hs2 (rdB hR2 hB)).mono ?_; rintro e w1 ⟨vv, rfl, own, hb⟩; rw [HED.out]; rw [← HRD.out] at own; obtain ⟨hDA, hDc, rfl⟩ := own_slice own; have hD1 := own_le0 own; have hD2 := own_cap own; have hD := Rd.of_own own; clear own; replace hTT := hTT.trans (hb.mono hTT.size); replace hS := hS.below hb hS.lt; replace hQ := hQ.below hb hQ.lt; replace hXA := hXA.below hb hXA.lt; replace hXB := hXB.below hb hXB.lt; (try replace hP := rdB hP hb); (try replace hC := rdB hC hb); replace hB := hB.trans (hb.mono hB.size); clear c1 c2; replace hbb := Nat.lt_of_lt_of_le hbb hb.size; clear hb; dsimp only
  refine hK _ _ (.inr hTT) ?_
  clear hK K
  try simp only [List.getElem_toArray, List.getElem_cons_zero, List.getElem_cons_succ, Act.put, List.setIfInBounds_toArray, List.set_cons_zero, List.set_cons_succ]
  refine wpG_take (i := 9) (v := ?vz6_9) rfl (by kernel_rfl) (by kernel_rfl) (by kernel_rfl) (by kernel_rfl) (fun _ _ _ h => h) (Or.inl ⟨by rfl, ?hyz6_9⟩) hTT ?restz6_9
  case hyz6_9 => intro wq hSw; skip; go_simp <;> with_reducible rfl
  simp only [List.getElem_toArray, List.getElem_cons_zero, List.getElem_cons_succ, Act.put, List.setIfInBounds_toArray, List.set_cons_zero, List.set_cons_succ]
  refine wpG_take (i := 10) (v := ?vz6_10) rfl (by kernel_rfl) (by kernel_rfl) (by kernel_rfl) (by kernel_rfl) (fun _ _ _ h => h) (Or.inl ⟨by rfl, ?hyz6_10⟩) hTT ?restz6_10
  case hyz6_10 => intro wq hSw; skip; go_simp <;> with_reducible rfl
  simp only [List.getElem_toArray, List.getElem_cons_zero, List.getElem_cons_succ, Act.put, List.setIfInBounds_toArray, List.set_cons_zero, List.set_cons_succ]
  refine wpG_take (i := 11) (v := ?vz6_11) rfl (by kernel_rfl) (by kernel_rfl) (by kernel_rfl) (by kernel_rfl) (fun _ _ _ h => h) (Or.inl ⟨by rfl, ?hyz6_11⟩) hTT ?restz6_11
  case hyz6_11 => intro wq hSw; skip; go_simp <;> with_reducible rfl
  simp only [List.getElem_toArray, List.getElem_cons_zero, List.getElem_cons_succ, Act.put, List.setIfInBounds_toArray, List.set_cons_zero, List.set_cons_succ]
  refine wpG_take (i := 12) (v := ?vz6_12) rfl (by kernel_rfl) (by kernel_rfl) (by kernel_rfl) (by kernel_rfl) (fun _ _ _ h => h) (Or.inl ⟨by rfl, ?hyz6_12⟩) hTT ?restz6_12
  case hyz6_12 => intro wq hSw; skip; go_simp <;> with_reducible rfl
  simp only [List.getElem_toArray, List.getElem_cons_zero, List.getElem_cons_succ, Act.put, List.setIfInBounds_toArray, List.set_cons_zero, List.set_cons_succ]
  refine wpG_one (i := 13) rfl (by kernel_rfl) (fun K hK => ?_)
  go_simp
  refine hK _ _ (.inl rfl) ?_
  clear hK K
  try simp only [List.getElem_toArray, List.getElem_cons_zero, List.getElem_cons_succ, Act.put, List.setIfInBounds_toArray, List.set_cons_zero, List.set_cons_succ]
  refine wpG_done (by kernel_rfl) ?_ _
  clear hTT
  have qhS := fun i => Blk.cell hS i
  have qhQ := fun i => Blk.cell hQ i
  have qhXA := fun i => Blk.cell hXA i
  have qhXB := fun i => Blk.cell hXB i
  clear hR1 hR2 hs1 hs2 HEC HED HRC HRD hc11 hc12 hc21 hc22
  go_upto_region 16 with (fail)
  go_upto_region 18 with (first | (go_at_call 35; have hx := hwdone; clear hx; refine (whole_any Wn Hn F L X Y hDA rsD.length hDc rsD _ hld hsd hD).mono ?_; rintro e w1 ⟨rfl, hb⟩; rw [HWD.out]; clear hwdone; (try replace hS := hS.below hb hS.lt); (try replace hQ := hQ.below hb hQ.lt); (try replace hXA := hXA.below hb hXA.lt); (try replace hXB := hXB.below hb hXB.lt); (try replace hP := rdB hP hb); (try replace hC := rdB hC hb); (try replace hD := rdB hD hb); replace hB := hB.trans (hb.mono hB.size); (try clear qhS); (try clear qhQ); (try clear qhXA); (try clear qhXB); clear hb; (try have qhS := fun i => Blk.cell hS i); (try have qhQ := fun i => Blk.cell hQ i); (try have qhXA := fun i => Blk.cell hXA i); (try have qhXB := fun i => Blk.cell hXB i)) | (go_at_call 35; refine (whole_any Wn Hn F L X Y hCA rsC.length hCc rsC _ hlc hsc hC).mono ?_; rintro e w1 ⟨rfl, hb⟩; rw [HWC.out]; have hwdone : (0 : Nat) = 0 := rfl; (try replace hS := hS.below hb hS.lt); (try replace hQ := hQ.below hb hQ.lt); (try replace hXA := hXA.below hb hXA.lt); (try replace hXB := hXB.below hb hXB.lt); (try replace hP := rdB hP hb); (try replace hC := rdB hC hb); (try replace hD := rdB hD hb); replace hB := hB.trans (hb.mono hB.size); (try clear qhS); (try clear qhQ); (try clear qhXA); (try clear qhXB); clear hb; (try have qhS := fun i => Blk.cell hS i); (try have qhQ := fun i => Blk.cell hQ i); (try have qhXA := fun i => Blk.cell hXA i); (try have qhXB := fun i => Blk.cell hXB i)))
  clear HWC HWD
  obtain ⟨ef, hef⟩ : ∃ ef, ef = (i1 == i2) := ⟨_, rfl⟩
  have hfe : ((i1 : Int) == (i2 : Int)) = ef := by rw [hef, Bool.eq_iff_iff, beq_iff_eq, beq_iff_eq]; omega
  have HFE := Lib.hid hef; clear hef
  go_wp2_with (fail)
  have hdone := HFE
  go_loopg [30, 31] pn (fun g mt i wr => ∃ (k : Nat) (mv : Bool), g = pn - k ∧ k ≤ pn ∧ i = .int .i64 k ∧ mt = .bool mv ∧ mv = (ef || (l.take k).any (fun c => clB (zC c) (zD c))) ∧ Rd wr wr.heap.size 1 pA pn ((castL l).map (Value.int .i64)) ∧ Rd wr wr.heap.size 1 hCA rsC.length (rsC.map Value.string) ∧ Rd wr wr.heap.size 1 hDA rsD.length (rsD.map Value.string) ∧ Blk wr w.heap.size 23 #[.int .i64 Wn, .int .i64 Hn, .int .i64 F, .int .i64 L, .int .i64 X, .int .i64 Y] ∧ Below w.heap.size w wr)
  case atStart => exact ⟨0, ef, rfl, Nat.zero_le _, rfl, rfl, by simp, hP, hC, hD, hS, hB⟩
  case round =>
    clear hP hC hD hS hB qhS qhQ qhXA qhXB hQ hXA hXB
    obtain ⟨k, mv, hg, hk, rfl, rfl, hmv, hP, hC, hD, hS, hB⟩ := hrel
    have HG := Lib.hid hg; have HMV := Lib.hid hmv; clear hg hmv
    have hpl := hP.len
    rename World => W4
    by_cases hlt : k < pn
    · have hlti : (k : Int) < pn := by omega
      obtain ⟨bP, oP, hzc, rfl, hbP, hcc⟩ := hP.atm hlt
      have hzl : k < l.length := by unfold castL at hzc; rw [List.length_map] at hzc; exact hzc
      have hce : (castL l)[k] = ((l[k] : Nat) : Int) := (List.getElem?_eq_some_iff.1 (show (castL l)[k]? = some ((l[k] : Nat) : Int) by simp [castL, hzl])).2
      rw [hce] at hcc
      have hts := any_take_succ (fun c => clB (zC c) (zD c)) l k hzl
      obtain ⟨hc10, ⟨ri, ri1, ri2, ri3⟩, rk, rk1, rk2, rk3⟩ := HCC.out _ (List.getElem_mem hzl)
      have hki := fun p : Blw W4.heap.size W4 => Cell_any Wn Hn F L X Y hCA rsC.length hCc rsC ri l[k] (zC l[k]) p.to (by omega) (by omega) hc10 ri1 ri2 ri3 (rdB hC p.h)
      have hkk := fun p : Blw W4.heap.size W4 => Cell_any Wn Hn F L X Y hDA rsD.length hDc rsD rk l[k] (zD l[k]) p.to (by omega) (by omega) hc10 rk1 rk2 rk3 (rdB hD p.h)
      (try dsimp only at hts)
      generalize l[k] = c at *
      generalize hzC : zC c = zi at *
      generalize hzD : zD c = zk at *
      have HTS := Lib.hid hts; clear hts hce hzC hzD hzc
      have hbs := fun p i => blw_blk hS p i
      have q1 := fun p : Blw W4.heap.size W4 => blw_cell (a := ⟨bP, oP + k, none⟩) hbP hcc p
      have HPL2 := Lib.hid hpl; clear hpl
      go_upto_region 22 with (fail)
      cases mv
      rotate_left
      · as_aux_lemma =>
          refine wp_region_blw (by kernel_rfl) (by kernel_rfl) ?_
          repeat (go_big_quiet_step (fail))
          refine wpQuiet_nil ?_
          rintro W5 ⟨⟨_, hb5⟩, rfl⟩
          clear q1 hbs
          go_wp2_with (fail)
          go_roundg (pn - (k + 1))
          case measure => rw [HG.out]; omega
          case rel => exact ⟨k + 1, true, rfl, by omega, by go_num, rfl, by rw [HTS.out, ← Bool.or_assoc, ← HMV.out]; rfl, rdB hP hb5, rdB hC hb5, rdB hD hb5, hS.below hb5 hS.lt, hB.trans (hb5.mono hB.size)⟩
      · cases hcb : clB zi zk
        all_goals
          as_aux_lemma =>
            refine wp_region_blw (by kernel_rfl) (by kernel_rfl) ?_
            repeat (go_big_quiet_step (first | (go_at_call_of 66 (Value.slice hCA rsC.length hCc); exact Calls.blw_of _ (hki _)) | (go_at_call_of 66 (Value.slice hDA rsD.length hDc); exact Calls.blw_of _ (hkk _)) | (go_at_call 81; exact Calls.blw_of_same _ (hcb ▸ Opposed_any _ _ _))))
            refine wpQuiet_nil ?_
            rintro W5 ⟨⟨_, hb5⟩, rfl⟩
            clear q1 hbs
            go_wp2_with (fail)
            go_roundg (pn - (k + 1))
            case measure => rw [HG.out]; omega
            case rel => exact ⟨k + 1, _, rfl, by omega, by go_num, rfl, by rw [HTS.out, ← Bool.or_assoc, ← HMV.out, hcb]; rfl, rdB hP hb5, rdB hC hb5, rdB hD hb5, hS.below hb5 hS.lt, hB.trans (hb5.mono hB.size)⟩
    · obtain rfl : k = pn := by omega
      have hge : ¬ (k : Int) < k := by omega
      have hmt : mv = true := by
        rw [HMV.out, HFE.out, List.take_of_length_le (by unfold castL at hpl; rw [List.length_map] at hpl; omega)]
        exact HFIN.out
      subst hmt
      clear hpl
      go_wp2_with ((go_at_call 24; refine (known_true m _ (known_at hm hB)).mono ?_; rintro e w1 ⟨rfl, hb⟩; replace hB := hB.trans (hb.mono hB.size)))
      go_ret
      exact ⟨rfl, hB⟩
end Go.Proofs.YtifddfchpknkbaaGreatDoor

namespace Go.Proofs.YtifddfchpknkbaaGreatDoor
open Go.RowKit

theorem readB_n2 {n : Nat} {nl nh xl xh y f pn px py : Int} (h : readB n nl nh xl xh y f pn px py = true) : (0 ≤ f ∧ f < n) ∧ (nl ≤ pn ∧ pn ≤ nh) ∧ (xl ≤ px ∧ px ≤ xh) ∧ py = y := by
  simp only [readB, Bool.and_eq_true, decide_eq_true_eq, beq_iff_eq] at h
  obtain ⟨a, b, c, d, e, f, g⟩ := h
  exact ⟨⟨a, b⟩, ⟨c, d⟩, ⟨e, f⟩, g⟩
theorem rows_at (Wn Hn : Nat) (s : ByteArray) (hs : s.size = Wn * Hn) (hW : 1 ≤ Wn) (hW2 : Wn ≤ 100) (c : Nat) (hc : c < Wn * Hn) : ∃ r, (rowsOf s Wn Hn)[c / Wn]? = some r ∧ (ltr r)[c % Wn]? = some (ltAt s c) ∧ r.size ≤ 10000 := by
  have hq : c / Wn < Hn := by rw [Nat.div_lt_iff_lt_mul (by omega), Nat.mul_comm]; exact hc
  have hm := Nat.mod_lt c (show 0 < Wn by omega)
  refine ⟨_, rowsOf_get hq, ?_, by rw [cut_size hs hq]; omega⟩
  rw [cut_at hs hq hm]
  have e : c / Wn * Wn + c % Wn = c := by rw [Nat.mul_comm]; exact Nat.div_add_mod c Wn
  rw [e]
  have hcs : c < s.size := by omega
  rw [List.getElem?_eq_getElem (by rw [ltr_len]; exact hcs), ltr_at s c hcs, ltAt_eq s c hcs]
theorem agree_not {s t : ByteArray} {c : Nat} (h : agreeB s t = true) (h1 : c < s.size) (h2 : c < t.size) : clB (ltAt s c) (ltAt t c) = false := by
  obtain ⟨hz, e⟩ := zip_at s t c h1 h2
  have := List.all_eq_true.1 h _ (List.getElem_mem hz)
  rw [e] at this
  rw [ltAt_eq s c h1, ltAt_eq t c h2]
  simpa using this
theorem castL_nat {cs : List Int} (h : ∀ c ∈ cs, 0 ≤ c) : castL (cs.map Int.toNat) = cs := by
  unfold castL
  rw [List.map_map]
  conv => rhs; rw [← List.map_id cs]
  exact List.map_congr_left fun c hc => by simp only [Function.comp, id]; exact Int.toNat_of_nonneg (h c hc)
theorem castL_to (l : List Nat) : (castL l).map Int.toNat = l := by
  unfold castL
  rw [List.map_map]
  conv => rhs; rw [← List.map_id l]
  exact List.map_congr_left fun c _ => by simp
theorem withB_mem {xs ys : List Int} : withB xs ys = true ↔ ∀ c ∈ ys, c ∈ xs := by
  simp only [withB, hasB, List.all_eq_true, List.any_eq_true, beq_iff_eq]
  constructor
  · intro h c hc
    obtain ⟨x, hx, rfl⟩ := h c hc
    exact hx
  · intro h c hc
    exact ⟨c, h c hc, rfl⟩
theorem enough_val (Wn Hn : Nat) (F L X Y nl nh xl xh y : Int) (fs : List Fig) (cs : List Int) (hask : askB Wn Hn F L X Y nl nh xl xh y fs = true) (hcel : cellsB Wn Hn cs = true) (hW : 1 ≤ Wn) (hH : 1 ≤ Hn) : enoughB Wn Hn F L X Y nl nh xl xh y fs cs = telP (shL Wn Hn F L X Y nl nh xl xh y fs) (cs.map Int.toNat) ∧ enoughE Wn Hn F L X Y nl nh xl xh y fs cs = 0 ∧ planE Wn Hn F L X Y nl nh xl xh y fs cs = (if telP (shL Wn Hn F L X Y nl nh xl xh y fs) (cs.map Int.toNat) then 0 else 5) ∧ planL Wn Hn F L X Y nl nh xl xh y fs cs = (if telP (shL Wn Hn F L X Y nl nh xl xh y fs) (cs.map Int.toNat) then (refS (telP (shL Wn Hn F L X Y nl nh xl xh y fs)) (cs.map Int.toNat) ((cs.map Int.toNat).length + 1)).getD [] else []) ∧ (refS (telP (shL Wn Hn F L X Y nl nh xl xh y fs)) (cs.map Int.toNat) ((cs.map Int.toNat).length + 1)).isSome = telP (shL Wn Hn F L X Y nl nh xl xh y fs) (cs.map Int.toNat) := by
  have hgood : goodP Wn Hn F L X Y nl nh xl xh y fs cs = true := by simp only [goodP, hask, hcel]; rfl
  obtain ⟨_, _, h8⟩ := cells_nat hcel (by omega) (by omega)
  have hl2 : (cs.map Int.toNat).length = cs.length := List.length_map _
  have hdif : difP Wn Hn F L X Y nl nh xl xh y fs cs = diffAll (cs.map Int.toNat) (cs.map Int.toNat).length (shL Wn Hn F L X Y nl nh xl xh y fs) := by unfold difP; rw [hl2]
  have htel : tellB (difP Wn Hn F L X Y nl nh xl xh y fs cs) 18446744073709551615 = telP (shL Wn Hn F L X Y nl nh xl xh y fs) (cs.map Int.toNat) := by rw [hdif, tell_rel (Rel.full (by omega))]; rfl
  have hfs : refS (telP (shL Wn Hn F L X Y nl nh xl xh y fs)) (cs.map Int.toNat) ((cs.map Int.toNat).length + 1) = fewS (difP Wn Hn F L X Y nl nh xl xh y fs cs) (cs.map Int.toNat) ((cs.map Int.toNat).length + 1) := by rw [hdif]; exact fewS_ref _
  have hsome := fewS_some (sl := (shL Wn Hn F L X Y nl nh xl xh y fs)) (cells := cs.map Int.toNat) (by omega)
  rw [← hdif, htel, ← hfs] at hsome
  refine ⟨by unfold enoughB; rw [hgood, htel]; rfl, by unfold enoughE; rw [if_pos hgood], by unfold planE; rw [if_pos hgood, htel], ?_, hsome⟩
  unfold planL
  rw [if_pos hgood, htel, hfs]
  rfl
theorem inc_of {m last : Int} {cs : List Int} (h0 : -1 ≤ last) (h : cellsF last m cs = true) : ∀ i j (hj : j < (cs.map Int.toNat).length) (hij : i < j), (cs.map Int.toNat)[i] < (cs.map Int.toNat)[j] := by
  induction cs generalizing last with
  | nil => intro i j hj; simp at hj
  | cons c cs ih =>
    rw [cellsF, Bool.and_eq_true, inB_iff] at h
    intro i j hj hij
    obtain ⟨j, rfl⟩ : ∃ k, j = k + 1 := ⟨j - 1, by omega⟩
    simp only [List.map_cons, List.getElem_cons_succ]
    rcases i with _ | i
    · simp only [List.getElem_cons_zero, List.getElem_map]
      have := cellsF_gt cs c m h.2 _ (List.getElem_mem (show j < cs.length by simpa using hj))
      omega
    · simp only [List.getElem_cons_succ]
      exact ih (by omega) h.2 i j (by simpa using hj) (by omega)
set_option maxHeartbeats 3200000 in
theorem proof_law (W H F L X Y nl nh xl xh y f1 n1 x1 y1 f2 n2 x2 y2 : Int) (A : Option Addr) (n cap : Nat) (fs : List Fig) (CA : Option Addr) (kn kcap : Nat) (cs : List Int) (OA : Option Addr) (on ocap : Nat) (os : List Int) (m : Int) (w : World) (hm : w.cell? ⟨0, 0, none⟩ = some (.int .i64 m)) (hcap : n ≤ cap) (hcm : cap ≤ maxLen) (hf : ∀ f ∈ fs, f.ok w w.heap.size) (hr : Rd w w.heap.size 1 A n (fs.map Fig.val)) (hkn : kn ≤ kcap) (hkcm : kcap ≤ maxLen) (hC0 : Rd w w.heap.size 1 CA kn (cs.map (Value.int .i64))) (hon : on ≤ ocap) (hocm : ocap ≤ maxLen) (hO0 : Rd w w.heap.size 1 OA on (os.map (Value.int .i64))) :
    Calls Tryz.prog 17 #[.agg #[.int .i64 W, .int .i64 H, .int .i64 F, .int .i64 L, .int .i64 X, .int .i64 Y], .slice A n cap, .agg #[.int .i64 nl, .int .i64 nh, .int .i64 xl, .int .i64 xh, .int .i64 y], .slice CA kn kcap, .slice OA on ocap, .agg #[.int .i64 f1, .int .i64 n1, .int .i64 x1, .int .i64 y1], .agg #[.int .i64 f2, .int .i64 n2, .int .i64 x2, .int .i64 y2]] w fun e w' => e = .returned (.bool true) ∧ Below w.heap.size w w' := by
  have hlen := hr.len
  have hClen := hC0.len
  have hOlen := hO0.len
  cases hfw : fewB fs
  · exact proof_x1 W H F L X Y nl nh xl xh y f1 n1 x1 y1 f2 n2 x2 y2 A n cap fs CA kn kcap cs OA on ocap os m w hm hcap hcm hf hr hkn hkcm hC0 hon hocm hO0 hfw
  by_cases hle : kn ≤ 10
  rotate_left
  · exact proof_x2 W H F L X Y nl nh xl xh y f1 n1 x1 y1 f2 n2 x2 y2 A n cap fs CA kn kcap cs OA on ocap os m w hm hcap hcm hf hr hkn hkcm hC0 hon hocm hO0 hfw (by omega)
  by_cases hol : on ≤ 10
  rotate_left
  · exact proof_x3 W H F L X Y nl nh xl xh y f1 n1 x1 y1 f2 n2 x2 y2 A n cap fs CA kn kcap cs OA on ocap os m w hm hcap hcm hf hr hkn hkcm hC0 hon hocm hO0 hfw hle (by omega)
  cases hst : stageB W H F L X Y
  · exact proof_x4 W H F L X Y nl nh xl xh y f1 n1 x1 y1 f2 n2 x2 y2 A n cap fs CA kn kcap cs OA on ocap os m w hm hcap hcm hf hr hkn hkcm hC0 hon hocm hO0 hfw hle hol hst (by simp [askV])
  have hdm : (1 ≤ W ∧ W ≤ 100) ∧ (1 ≤ H ∧ H ≤ 100) := by have ⟨⟨s1, s2⟩, ⟨s3, s4⟩, _⟩ := stageB_nums hst; omega
  cases hcel : cellsB W H cs
  · exact proof_x5 W H F L X Y nl nh xl xh y f1 n1 x1 y1 f2 n2 x2 y2 A n cap fs CA kn kcap cs OA on ocap os m w hm hcap hcm hf hr hkn hkcm hC0 hon hocm hO0 hdm hfw hle hol hst hcel (by simp [askV])
  rcases askV_two (b := askB W H F L X Y nl nh xl xh y fs) with ⟨hak, hask⟩ | ⟨hak, _⟩
  rotate_left
  · exact proof_x6 W H F L X Y nl nh xl xh y f1 n1 x1 y1 f2 n2 x2 y2 A n cap fs CA kn kcap cs OA on ocap os m w hm hcap hcm hf hr hkn hkcm hC0 hon hocm hO0 hdm hfw hle hol hst hcel hak
  cases hocel : cellsB W H os
  · exact proof_x7 W H F L X Y nl nh xl xh y f1 n1 x1 y1 f2 n2 x2 y2 A n cap fs CA kn kcap cs OA on ocap os m w hm hcap hcm hf hr hkn hkcm hC0 hon hocm hO0 hdm hfw hle hol hst hcel hak hocel
  cases hwi : withB cs os
  · exact proof_x8 W H F L X Y nl nh xl xh y f1 n1 x1 y1 f2 n2 x2 y2 A n cap fs CA kn kcap cs OA on ocap os m w hm hcap hcm hf hr hkn hkcm hC0 hon hocm hO0 hdm hfw hle hol hst hcel hak hocel hwi
  cases hrx : readB n nl nh xl xh y f1 n1 x1 y1
  · exact proof_x9 W H F L X Y nl nh xl xh y f1 n1 x1 y1 f2 n2 x2 y2 A n cap fs CA kn kcap cs OA on ocap os m w hm hcap hcm hf hr hkn hkcm hC0 hon hocm hO0 hdm hfw hle hol hst hcel hak hocel hwi hrx
  cases hry : readB n nl nh xl xh y f2 n2 x2 y2
  · exact proof_x10 W H F L X Y nl nh xl xh y f1 n1 x1 y1 f2 n2 x2 y2 A n cap fs CA kn kcap cs OA on ocap os m w hm hcap hcm hf hr hkn hkcm hC0 hon hocm hO0 hdm hfw hle hol hst hcel hak hocel hwi hrx hry
  obtain ⟨⟨p1, p2⟩, ⟨p3, p4⟩, ⟨p5, p6⟩, hy1⟩ := readB_n2 hrx
  obtain ⟨⟨q1, q2⟩, ⟨q3, q4⟩, ⟨q5, q6⟩, hy2⟩ := readB_n2 hry
  have hy1' := hy1.symm
  subst hy1'
  have hy2' := hy2.symm
  subst hy2'
  clear hy1 hy2
  obtain ⟨i1, rfl⟩ : ∃ k : Nat, f1 = k := ⟨f1.toNat, by omega⟩
  obtain ⟨i2, rfl⟩ : ∃ k : Nat, f2 = k := ⟨f2.toNat, by omega⟩
  obtain ⟨Wn, rfl⟩ : ∃ k : Nat, W = k := ⟨W.toNat, by omega⟩
  obtain ⟨Hn, rfl⟩ : ∃ k : Nat, H = k := ⟨H.toNat, by omega⟩
  have hdn : (1 ≤ Wn ∧ Wn ≤ 100) ∧ (1 ≤ Hn ∧ Hn ≤ 100) := by omega
  obtain ⟨e1, e2, e3, e4, e5⟩ := enough_val Wn Hn F L X Y nl nh xl xh y fs cs hask hcel hdn.1.1 hdn.2.1
  obtain ⟨o1, o2, _⟩ := enough_val Wn Hn F L X Y nl nh xl xh y fs os hask hocel hdn.1.1 hdn.2.1
  obtain ⟨c1, c2, c3⟩ := cells_nat hcel hdm.1.1 hdm.2.1
  rw [Int.toNat_natCast, Int.toNat_natCast] at c1
  have hmem := withB_mem.1 hwi
  have hcel2 := hcel; have hocel2 := hocel
  simp only [cellsB, Bool.and_eq_true, decide_eq_true_eq] at hcel2 hocel2
  have hcpos : ∀ c ∈ cs, 0 ≤ c := fun c hc => (cellsF_mem (-1) _ cs (by omega) hcel2.2 c hc).1
  have hopos : ∀ c ∈ os, 0 ≤ c := fun c hc => hcpos c (hmem c hc)
  have hsub : os.Sublist cs := sub_of cs os (-1) (-1) _ hcel2.2 hocel2.2 hmem
  have hsubN : (os.map Int.toNat).Sublist (cs.map Int.toNat) := hsub.map _
  have hinc := inc_of (by omega) hcel2.2
  have hmono : telP (shL Wn Hn F L X Y nl nh xl xh y fs) (os.map Int.toNat) = true → telP (shL Wn Hn F L X Y nl nh xl xh y fs) (cs.map Int.toNat) = true := telP_mono fun c hc => hsubN.subset hc
  have hmis : ∃ a b me : Int, mistR Wn Hn F L X Y nl nh xl xh y fs = #[.int .i64 a, .int .i64 b, .int .i64 me] ∧ (me = 0 ∨ me = 5) ∧ (telP (shL Wn Hn F L X Y nl nh xl xh y fs) (cs.map Int.toNat) = true → a = 0 ∧ b = 0 ∧ me = 5) := by
    unfold mistR
    rw [if_pos hask]
    rcases misF_spec (shL Wn Hn F L X Y nl nh xl xh y fs) fs.length with ⟨h1, _⟩ | ⟨a, b, h1, h2, h3, h4, _⟩
    · exact ⟨0, 0, 5, by rw [h1]; rfl, .inr rfl, fun _ => ⟨rfl, rfl, rfl⟩⟩
    · refine ⟨a, b, 0, by rw [h3]; rfl, .inl rfl, fun ht => ?_⟩
      obtain ⟨x, hx, z, hz, hxf, hzf, hag⟩ := h4
      obtain ⟨c, hc, hcl⟩ := telP_two ht hx hz (by rw [hxf, hzf]; omega)
      have sx := shL_size hx
      have sz := shL_size hz
      rw [Int.toNat_natCast, Int.toNat_natCast] at sx sz
      have hlt := c1 c hc
      rw [agree_not hag (by omega) (by omega)] at hcl
      cases hcl
  obtain ⟨a, b0, me, hM, hme, hM5⟩ := hmis
  cases hrs : refS (telP (shL Wn Hn F L X Y nl nh xl xh y fs)) (cs.map Int.toNat) ((cs.map Int.toNat).length + 1) with
  | none =>
    rw [hrs] at e5
    have htv : telP (shL Wn Hn F L X Y nl nh xl xh y fs) (cs.map Int.toNat) = false := e5.symm
    have hov : telP (shL Wn Hn F L X Y nl nh xl xh y fs) (os.map Int.toNat) = false := by
      cases h : telP (shL Wn Hn F L X Y nl nh xl xh y fs) (os.map Int.toNat)
      · rfl
      · rw [hmono h] at htv; cases htv
    exact proof_5 Wn Hn F L X Y nl nh xl xh y n1 x1 y n2 x2 y i1 i2 A n cap fs CA kn kcap cs OA on ocap os m w hm hcap hcm hf hr hkn hkcm hC0 hon hocm hO0 hfw hle hol hst hcel hak hocel hwi hrx hry hdn a b0 me (Lib.hid (by rw [e1, htv])) (Lib.hid e2) (Lib.hid (by rw [o1, hov])) (Lib.hid o2) [] (Lib.hid (by rw [e4, htv]; rfl)) (Lib.hid (by rw [e3, htv]; rfl)) (Lib.hid hM) hme
  | some l =>
    rw [hrs] at e5
    have htv : telP (shL Wn Hn F L X Y nl nh xl xh y fs) (cs.map Int.toNat) = true := e5.symm
    obtain ⟨rfl, rfl, rfl⟩ := hM5 htv
    obtain ⟨l1, l2, l3⟩ := refS_spec _ _ _ hinc hrs
    have hcl : castL (cs.map Int.toNat) = cs := castL_nat hcpos
    have hlsub : (castL l).Sublist cs := by
      have h : (castL l).Sublist (castL (cs.map Int.toNat)) := l1.map _
      rw [hcl] at h
      exact h
    have hl8 : l.length ≤ 8 := by have h := l1.length_le; rw [List.length_map] at h; omega
    have hPC : cellsB Wn Hn (castL l) = true := by
      simp only [cellsB, Bool.and_eq_true, decide_eq_true_eq]
      exact ⟨by unfold castL; rw [List.length_map]; exact hl8, cellsF_sub hlsub _ _ hcel2.2⟩
    have hPW : withB cs (castL l) = true := withB_mem.2 fun c hc => hlsub.subset hc
    obtain ⟨g1, g2, _⟩ := enough_val Wn Hn F L X Y nl nh xl xh y fs (castL l) hask hPC hdn.1.1 hdn.2.1
    rw [castL_to, l2] at g1
    have hIS : telP (shL Wn Hn F L X Y nl nh xl xh y fs) (os.map Int.toNat) = true → l.length ≤ os.length ∧ (os.length = l.length → befB os (castL l) = false) := fun h => by
      have h2 := l3 _ hsubN h
      rw [List.length_map, castL_nat hopos] at h2
      exact h2
    have hask3 := hask
    simp only [askB, Bool.and_eq_true] at hask3
    have gg1 : i1 < fs.length := by omega
    have gg2 : i2 < fs.length := by omega
    obtain ⟨k1, hk1, ee1, v1, w1⟩ := view_of hask (t := ((i1 : Int), n1, x1)) (mem_fR.2 ⟨⟨by omega, by omega⟩, ⟨p3, p4⟩, p5, p6⟩)
    obtain ⟨k2, hk2, ee2, v2, w2⟩ := view_of hask (t := ((i2 : Int), n2, x2)) (mem_fR.2 ⟨⟨by omega, by omega⟩, ⟨q3, q4⟩, q5, q6⟩)
    dsimp only at ee1 ee2 v1 v2 w1 w2
    obtain rfl : k1 = i1 := by omega
    obtain rfl : k2 = i2 := by omega
    have m1 := mem_shL (W := Wn) (H := Hn) (F := F) (L := L) (X := X) (Y := Y) (nl := nl) (nh := nh) (xl := xl) (xh := xh) (y := y) (f := (k1 : Int)) (pn := n1) (px := x1) (fs := fs) (by omega) (by omega) p3 p4 p5 p6
    have m2 := mem_shL (W := Wn) (H := Hn) (F := F) (L := L) (X := X) (Y := Y) (nl := nl) (nh := nh) (xl := xl) (xh := xh) (y := y) (f := (k2 : Int)) (pn := n2) (px := x2) (fs := fs) (by omega) (by omega) q3 q4 q5 q6
    unfold shOf at m1 m2
    dsimp only at m1 m2
    rw [v1] at m1
    rw [v2] at m2
    obtain ⟨⟨A1, mm1, cap1, rows1⟩, hg1⟩ : ∃ f, f = fs[k1] := ⟨_, rfl⟩
    obtain ⟨⟨A2, mm2, cap2, rows2⟩, hg2⟩ : ∃ f, f = fs[k2] := ⟨_, rfl⟩
    rw [← hg1] at m1 w1
    rw [← hg2] at m2 w2
    dsimp only at m1 m2 w1 w2
    have z1 := shS_size Wn Hn F L X Y n1 x1 y rows1
    have z2 := shS_size Wn Hn F L X Y n2 x2 y rows2
    have hw1 := whole_sh (W := Wn) (H := Hn) (F := F) (L := L) (X := X) (Y := Y) (N := n1) (PX := x1) (PY := y) (rows := rows1) (by omega) (by omega)
    have hw2 := whole_sh (W := Wn) (H := Hn) (F := F) (L := L) (X := X) (Y := Y) (N := n2) (PX := x2) (PY := y) (rows := rows2) (by omega) (by omega)
    rw [Int.toNat_natCast, Int.toNat_natCast] at z1 z2 hw1 hw2
    have hlr : ∀ (s : ByteArray), s.size = Wn * Hn → (rowsOf s Wn Hn).length ≤ 100000 ∧ ∀ r ∈ rowsOf s Wn Hn, r.size ≤ 100000 := fun s hs => ⟨by rw [rowsOf_len]; omega, fun r hr => by obtain ⟨i, hi, rfl⟩ := rowsOf_mem hr; rw [cut_size hs hi]; omega⟩
    have hCC : ∀ c ∈ l, c ≤ 10000 ∧ (∃ r, (rowsOf (shS Wn Hn F L X Y n1 x1 y rows1) Wn Hn)[c / Wn]? = some r ∧ (ltr r)[c % Wn]? = some (ltAt (shS Wn Hn F L X Y n1 x1 y rows1) c) ∧ r.size ≤ 10000) ∧ (∃ r, (rowsOf (shS Wn Hn F L X Y n2 x2 y rows2) Wn Hn)[c / Wn]? = some r ∧ (ltr r)[c % Wn]? = some (ltAt (shS Wn Hn F L X Y n2 x2 y rows2) c) ∧ r.size ≤ 10000) := fun c hc => by
      have hlt := c1 c (l1.subset hc)
      have hmx : Wn * Hn ≤ 100 * 100 := Nat.mul_le_mul hdn.1.2 hdn.2.2
      exact ⟨by omega, rows_at Wn Hn _ z1 hdn.1.1 hdn.1.2 c hlt, rows_at Wn Hn _ z2 hdn.1.1 hdn.1.2 c hlt⟩
    have hFIN : ((k1 == k2) || l.any (fun c => clB (ltAt (shS Wn Hn F L X Y n1 x1 y rows1) c) (ltAt (shS Wn Hn F L X Y n2 x2 y rows2) c))) = true := by
      by_cases he : k1 = k2
      · rw [he]; simp
      · obtain ⟨c, hc, hcb⟩ := telP_two l2 m1 m2 (by dsimp only; omega)
        rw [Bool.or_eq_true]
        exact .inr (List.any_eq_true.2 ⟨c, hc, hcb⟩)
    have hPL : (planL Wn Hn F L X Y nl nh xl xh y fs cs).map natV = (castL l).map (Value.int .i64) := by
      rw [e4, htv, hrs, if_pos rfl]
      unfold castL
      rw [List.map_map]
      rfl
    have hPE : planE Wn Hn F L X Y nl nh xl xh y fs cs = 0 := by rw [e3, htv]; rfl
    have HH := fun (is : Bool) => (Lib.hid (by rw [e1, htv]) : Hid (enoughB Wn Hn F L X Y nl nh xl xh y fs cs = true))
    cases his : telP (shL Wn Hn F L X Y nl nh xl xh y fs) (os.map Int.toNat)
    · exact proof_a Wn Hn F L X Y nl nh xl xh y n1 x1 y n2 x2 y k1 k2 A n cap fs CA kn kcap cs OA on ocap os m w hm hcap hcm hf hr hkn hkcm hC0 hon hocm hO0 hfw hle hol hst hcel hak hocel hwi hrx hry hdn A1 mm1 cap1 rows1 A2 mm2 cap2 rows2 _ _ _ _ l gg1 gg2 (Lib.hid hg1.symm) (Lib.hid hg2.symm) (Lib.hid (by unfold errV; rw [if_pos w1])) (Lib.hid (by unfold errV; rw [if_pos w2])) (Lib.hid (by unfold shadowRows; rw [if_pos w1, Int.toNat_natCast, Int.toNat_natCast])) (Lib.hid (by unfold shadowRows; rw [if_pos w2, Int.toNat_natCast, Int.toNat_natCast])) (hlr _ z1).1 (hlr _ z2).1 (hlr _ z1).2 (hlr _ z2).2 (Lib.hid hw1) (Lib.hid hw2) (Lib.hid hCC) (Lib.hid hFIN) (Lib.hid (by rw [e1, htv])) (Lib.hid e2) (Lib.hid (by rw [o1, his])) (Lib.hid o2) (Lib.hid hPL) (Lib.hid hPE) (Lib.hid hM) hl8 (Lib.hid hPC) (Lib.hid hPW) (Lib.hid g1) (Lib.hid g2) (Lib.hid (fun h => by cases h))
    · by_cases heq : on = l.length
      · exact proof_c Wn Hn F L X Y nl nh xl xh y n1 x1 y n2 x2 y k1 k2 A n cap fs CA kn kcap cs OA on ocap os m w hm hcap hcm hf hr hkn hkcm hC0 hon hocm hO0 hfw hle hol hst hcel hak hocel hwi hrx hry hdn A1 mm1 cap1 rows1 A2 mm2 cap2 rows2 _ _ _ _ l gg1 gg2 (Lib.hid hg1.symm) (Lib.hid hg2.symm) (Lib.hid (by unfold errV; rw [if_pos w1])) (Lib.hid (by unfold errV; rw [if_pos w2])) (Lib.hid (by unfold shadowRows; rw [if_pos w1, Int.toNat_natCast, Int.toNat_natCast])) (Lib.hid (by unfold shadowRows; rw [if_pos w2, Int.toNat_natCast, Int.toNat_natCast])) (hlr _ z1).1 (hlr _ z2).1 (hlr _ z1).2 (hlr _ z2).2 (Lib.hid hw1) (Lib.hid hw2) (Lib.hid hCC) (Lib.hid hFIN) (Lib.hid (by rw [e1, htv])) (Lib.hid e2) (Lib.hid (by rw [o1, his])) (Lib.hid o2) (Lib.hid hPL) (Lib.hid hPE) (Lib.hid hM) hl8 (Lib.hid hPC) (Lib.hid hPW) (Lib.hid g1) (Lib.hid g2) (Lib.hid (fun _ => hIS his)) heq
      · exact proof_b Wn Hn F L X Y nl nh xl xh y n1 x1 y n2 x2 y k1 k2 A n cap fs CA kn kcap cs OA on ocap os m w hm hcap hcm hf hr hkn hkcm hC0 hon hocm hO0 hfw hle hol hst hcel hak hocel hwi hrx hry hdn A1 mm1 cap1 rows1 A2 mm2 cap2 rows2 _ _ _ _ l gg1 gg2 (Lib.hid hg1.symm) (Lib.hid hg2.symm) (Lib.hid (by unfold errV; rw [if_pos w1])) (Lib.hid (by unfold errV; rw [if_pos w2])) (Lib.hid (by unfold shadowRows; rw [if_pos w1, Int.toNat_natCast, Int.toNat_natCast])) (Lib.hid (by unfold shadowRows; rw [if_pos w2, Int.toNat_natCast, Int.toNat_natCast])) (hlr _ z1).1 (hlr _ z2).1 (hlr _ z1).2 (hlr _ z2).2 (Lib.hid hw1) (Lib.hid hw2) (Lib.hid hCC) (Lib.hid hFIN) (Lib.hid (by rw [e1, htv])) (Lib.hid e2) (Lib.hid (by rw [o1, his])) (Lib.hid o2) (Lib.hid hPL) (Lib.hid hPE) (Lib.hid hM) hl8 (Lib.hid hPC) (Lib.hid hPW) (Lib.hid g1) (Lib.hid g2) (Lib.hid (fun _ => hIS his)) heq
end Go.Proofs.YtifddfchpknkbaaGreatDoor
