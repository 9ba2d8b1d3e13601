import Derived.Test.YtifddfchpknkbaaGreatDoorXg
import Derived.Test.YtifddfchpknkbaaGreatDoorVf
set_option linter.unusedVariables false
set_option linter.unusedSimpArgs false
namespace Go.Proofs.YtifddfchpknkbaaGreatDoor
open Go.RowKit Go.Lib

set_option maxRecDepth 100000 in
set_option maxHeartbeats 6400000 in
theorem spoilt_x1 (W H F L X Y : Int) (A : Option Addr) (n cap : Nat) (fs : List Fig) (m : Int) (w : World) (hE : Env m w) (hn : n ≤ maxLen) (hf : ∀ f ∈ fs, f.ok w w.heap.size) (hr : Rd w w.heap.size 1 A n (fs.map Fig.val)) (i d : Int) (hfw : fewB fs = false) :
    Calls Tryz.prog 22 #[.agg #[.int .i64 W, .int .i64 H, .int .i64 F, .int .i64 L, .int .i64 X, .int .i64 Y, .slice A n cap], .int .i64 i, .int .i64 d] w fun e w' => e = .returned (.bool true) ∧ Below w.heap.size w w' := by
  have hS := Blk.new w 121 #[.int .i64 W, .int .i64 H, .int .i64 F, .int .i64 L, .int .i64 X, .int .i64 Y, .slice A n cap]
  have hB : Below w.heap.size w (w.alloc (.cells #[.int .i64 W, .int .i64 H, .int .i64 F, .int .i64 L, .int .i64 X, .int .i64 Y, .slice A n cap] 121)) := (Below.refl _ w).alloc (Nat.le_refl _) _
  have hE0 := hE.below hB
  go_enter Tryz.func22, Tryz.ntmps22
  go_upto_region 1 with (fail)
  generalize w.alloc (.cells #[.int .i64 W, .int .i64 H, .int .i64 F, .int .i64 L, .int .i64 X, .int .i64 Y, .slice A n cap] 121) = W0 at *
  have qS := fun i => Blk.cell hS i
  go_wp2_with (first
    | (go_at_call 39; refine (few_any A n cap fs _ hn (fun f h => ((hf f h).below hB).more hB.size) (rdB hr hB)).mono ?_; rintro e w1 ⟨rfl, rfl⟩; rw [hfw])
    | (go_at_call 24; refine (known_true m _ (known_at hE.1 hB)).mono ?_; rintro e w1 ⟨rfl, hb⟩; replace hB := hB.trans (hb.mono hB.size)))
  go_ret
  exact ⟨rfl, hB⟩
set_option maxRecDepth 100000 in
set_option maxHeartbeats 6400000 in
theorem spoilt_x2 (W H F L X Y : Int) (A : Option Addr) (n cap : Nat) (fs : List Fig) (m : Int) (w : World) (hE : Env m w) (hn : n ≤ maxLen) (hf : ∀ f ∈ fs, f.ok w w.heap.size) (hr : Rd w w.heap.size 1 A n (fs.map Fig.val)) (i d : Int) (hfw : fewB fs = true) (hg : (stageB W H F L X Y && compB fs) = false) :
    Calls Tryz.prog 22 #[.agg #[.int .i64 W, .int .i64 H, .int .i64 F, .int .i64 L, .int .i64 X, .int .i64 Y, .slice A n cap], .int .i64 i, .int .i64 d] w fun e w' => e = .returned (.bool true) ∧ Below w.heap.size w w' := by
  have hS := Blk.new w 121 #[.int .i64 W, .int .i64 H, .int .i64 F, .int .i64 L, .int .i64 X, .int .i64 Y, .slice A n cap]
  have hB : Below w.heap.size w (w.alloc (.cells #[.int .i64 W, .int .i64 H, .int .i64 F, .int .i64 L, .int .i64 X, .int .i64 Y, .slice A n cap] 121)) := (Below.refl _ w).alloc (Nat.le_refl _) _
  have hE0 := hE.below hB
  go_enter Tryz.func22, Tryz.ntmps22
  go_upto_region 1 with (fail)
  generalize w.alloc (.cells #[.int .i64 W, .int .i64 H, .int .i64 F, .int .i64 L, .int .i64 X, .int .i64 Y, .slice A n cap] 121) = W0 at *
  have qS := fun i => Blk.cell hS i
  go_wp2_with (first
    | (go_at_call 39; refine (few_any A n cap fs _ hn (fun f h => ((hf f h).below hB).more hB.size) (rdB hr hB)).mono ?_; rintro e w1 ⟨rfl, rfl⟩; rw [hfw])
    | (go_at_call 84; refine (refBook_any W H F L X Y A n cap fs _ hn (fun f h => ((hf f h).below hB).more hB.size) (rdB hr hB)).mono ?_; rintro e w1 ⟨rfl, hb⟩; rw [hg]; replace hS := hS.below hb hS.lt; replace hE0 := hE0.below hb; replace hB := hB.trans (hb.mono hB.size); clear qS hb; have qS := fun i => Blk.cell hS i)
    | (go_at_call 24; refine (known_true m _ (known_at hE.1 hB)).mono ?_; rintro e w1 ⟨rfl, hb⟩; replace hB := hB.trans (hb.mono hB.size)))
  go_ret
  exact ⟨rfl, hB⟩
set_option maxRecDepth 100000 in
set_option maxHeartbeats 6400000 in
theorem spoilt_x3 (W H F L X Y : Int) (A : Option Addr) (n cap : Nat) (fs : List Fig) (m : Int) (w : World) (hE : Env m w) (hn : n ≤ maxLen) (hf : ∀ f ∈ fs, f.ok w w.heap.size) (hr : Rd w w.heap.size 1 A n (fs.map Fig.val)) (i d : Int) (hfw : fewB fs = true) (hg : (stageB W H F L X Y && compB fs) = true) (hd : d < 0) :
    Calls Tryz.prog 22 #[.agg #[.int .i64 W, .int .i64 H, .int .i64 F, .int .i64 L, .int .i64 X, .int .i64 Y, .slice A n cap], .int .i64 i, .int .i64 d] w fun e w' => e = .returned (.bool true) ∧ Below w.heap.size w w' := by
  have hS := Blk.new w 121 #[.int .i64 W, .int .i64 H, .int .i64 F, .int .i64 L, .int .i64 X, .int .i64 Y, .slice A n cap]
  have hB : Below w.heap.size w (w.alloc (.cells #[.int .i64 W, .int .i64 H, .int .i64 F, .int .i64 L, .int .i64 X, .int .i64 Y, .slice A n cap] 121)) := (Below.refl _ w).alloc (Nat.le_refl _) _
  have hE0 := hE.below hB
  go_enter Tryz.func22, Tryz.ntmps22
  go_upto_region 1 with (fail)
  generalize w.alloc (.cells #[.int .i64 W, .int .i64 H, .int .i64 F, .int .i64 L, .int .i64 X, .int .i64 Y, .slice A n cap] 121) = W0 at *
  have qS := fun i => Blk.cell hS i
  go_wp2_with (first
    | (go_at_call 39; refine (few_any A n cap fs _ hn (fun f h => ((hf f h).below hB).more hB.size) (rdB hr hB)).mono ?_; rintro e w1 ⟨rfl, rfl⟩; rw [hfw])
    | (go_at_call 84; refine (refBook_any W H F L X Y A n cap fs _ hn (fun f h => ((hf f h).below hB).more hB.size) (rdB hr hB)).mono ?_; rintro e w1 ⟨rfl, hb⟩; rw [hg]; replace hS := hS.below hb hS.lt; replace hE0 := hE0.below hb; replace hB := hB.trans (hb.mono hB.size); clear qS hb; have qS := fun i => Blk.cell hS i)
    | (go_at_call 24; refine (known_true m _ (known_at hE.1 hB)).mono ?_; rintro e w1 ⟨rfl, hb⟩; replace hB := hB.trans (hb.mono hB.size)))
  go_ret
  exact ⟨rfl, hB⟩
set_option maxRecDepth 100000 in
set_option maxHeartbeats 6400000 in
theorem spoilt_x4 (W H F L X Y : Int) (A : Option Addr) (n cap : Nat) (fs : List Fig) (m : Int) (w : World) (hE : Env m w) (hn : n ≤ maxLen) (hf : ∀ f ∈ fs, f.ok w w.heap.size) (hr : Rd w w.heap.size 1 A n (fs.map Fig.val)) (i d : Int) (hfw : fewB fs = true) (hg : (stageB W H F L X Y && compB fs) = true) (hd : ¬ d < 0) (hd2 : 9 < d) :
    Calls Tryz.prog 22 #[.agg #[.int .i64 W, .int .i64 H, .int .i64 F, .int .i64 L, .int .i64 X, .int .i64 Y, .slice A n cap], .int .i64 i, .int .i64 d] w fun e w' => e = .returned (.bool true) ∧ Below w.heap.size w w' := by
  have hS := Blk.new w 121 #[.int .i64 W, .int .i64 H, .int .i64 F, .int .i64 L, .int .i64 X, .int .i64 Y, .slice A n cap]
  have hB : Below w.heap.size w (w.alloc (.cells #[.int .i64 W, .int .i64 H, .int .i64 F, .int .i64 L, .int .i64 X, .int .i64 Y, .slice A n cap] 121)) := (Below.refl _ w).alloc (Nat.le_refl _) _
  have hE0 := hE.below hB
  go_enter Tryz.func22, Tryz.ntmps22
  go_upto_region 1 with (fail)
  generalize w.alloc (.cells #[.int .i64 W, .int .i64 H, .int .i64 F, .int .i64 L, .int .i64 X, .int .i64 Y, .slice A n cap] 121) = W0 at *
  have qS := fun i => Blk.cell hS i
  go_wp2_with (first
    | (go_at_call 39; refine (few_any A n cap fs _ hn (fun f h => ((hf f h).below hB).more hB.size) (rdB hr hB)).mono ?_; rintro e w1 ⟨rfl, rfl⟩; rw [hfw])
    | (go_at_call 84; refine (refBook_any W H F L X Y A n cap fs _ hn (fun f h => ((hf f h).below hB).more hB.size) (rdB hr hB)).mono ?_; rintro e w1 ⟨rfl, hb⟩; rw [hg]; replace hS := hS.below hb hS.lt; replace hE0 := hE0.below hb; replace hB := hB.trans (hb.mono hB.size); clear qS hb; have qS := fun i => Blk.cell hS i)
    | (go_at_call 24; refine (known_true m _ (known_at hE.1 hB)).mono ?_; rintro e w1 ⟨rfl, hb⟩; replace hB := hB.trans (hb.mono hB.size)))
  go_ret
  exact ⟨rfl, hB⟩
set_option maxRecDepth 100000 in
set_option maxHeartbeats 6400000 in
theorem spoilt_c1 (W H F L X Y : Int) (A : Option Addr) (n cap : Nat) (fs : List Fig) (m : Int) (w : World) (hE : Env m w) (hn : n ≤ maxLen) (hf : ∀ f ∈ fs, f.ok w w.heap.size) (hr : Rd w w.heap.size 1 A n (fs.map Fig.val)) (d : Nat) (hd : ¬ (d : Int) < 0) (hd2 : ¬ 9 < (d : Int)) (i : Int) (hfw : fewB fs = true) (hg : (stageB W H F L X Y && compB fs) = true) (T : ByteArray) (HPR : Hid (∀ wx, Env m wx → (∀ f ∈ fs, f.ok wx wx.heap.size) → Rd wx wx.heap.size 1 A n (fs.map Fig.val) → Calls Tryz.prog 83 #[.agg #[.int .i64 W, .int .i64 H, .int .i64 F, .int .i64 L, .int .i64 X, .int .i64 Y, .slice A n cap]] wx fun e w' => e = .returned (.tuple #[.string T, .int .i64 0]) ∧ Below wx.heap.size wx w')) (hi : i < 0) :
    Calls Tryz.prog 22 #[.agg #[.int .i64 W, .int .i64 H, .int .i64 F, .int .i64 L, .int .i64 X, .int .i64 Y, .slice A n cap], .int .i64 i, .int .i64 d] w fun e w' => e = .returned (.bool true) ∧ Below w.heap.size w w' := by
  have hS := Blk.new w 121 #[.int .i64 W, .int .i64 H, .int .i64 F, .int .i64 L, .int .i64 X, .int .i64 Y, .slice A n cap]
  have hB : Below w.heap.size w (w.alloc (.cells #[.int .i64 W, .int .i64 H, .int .i64 F, .int .i64 L, .int .i64 X, .int .i64 Y, .slice A n cap] 121)) := (Below.refl _ w).alloc (Nat.le_refl _) _
  have hE0 := hE.below hB
  go_enter Tryz.func22, Tryz.ntmps22
  go_upto_region 1 with (fail)
  generalize w.alloc (.cells #[.int .i64 W, .int .i64 H, .int .i64 F, .int .i64 L, .int .i64 X, .int .i64 Y, .slice A n cap] 121) = W0 at *
  have qS := fun i => Blk.cell hS i
  go_wp2_with (first
    | (go_at_call 39; refine (few_any A n cap fs _ hn (fun f h => ((hf f h).below hB).more hB.size) (rdB hr hB)).mono ?_; rintro e w1 ⟨rfl, rfl⟩; rw [hfw])
    | (go_at_call 84; refine (refBook_any W H F L X Y A n cap fs _ hn (fun f h => ((hf f h).below hB).more hB.size) (rdB hr hB)).mono ?_; rintro e w1 ⟨rfl, hb⟩; rw [hg]; replace hS := hS.below hb hS.lt; replace hE0 := hE0.below hb; replace hB := hB.trans (hb.mono hB.size); clear qS hb; have qS := fun i => Blk.cell hS i)
    | (go_at_call 83; refine (HPR.out _ hE0 (fun f h => ((hf f h).below hB).more hB.size) (rdB hr hB)).mono ?_; rintro e w1 ⟨rfl, hb⟩; replace hS := hS.below hb hS.lt; replace hE0 := hE0.below hb; replace hB := hB.trans (hb.mono hB.size); clear qS hb; have qS := fun i => Blk.cell hS i)
    | (go_at_call 24; refine (known_true m _ (known_at hE.1 hB)).mono ?_; rintro e w1 ⟨rfl, hb⟩; replace hB := hB.trans (hb.mono hB.size)))
  go_ret
  exact ⟨rfl, hB⟩
set_option maxRecDepth 100000 in
set_option maxHeartbeats 6400000 in
theorem spoilt_c2 (W H F L X Y : Int) (A : Option Addr) (n cap : Nat) (fs : List Fig) (m : Int) (w : World) (hE : Env m w) (hn : n ≤ maxLen) (hf : ∀ f ∈ fs, f.ok w w.heap.size) (hr : Rd w w.heap.size 1 A n (fs.map Fig.val)) (d : Nat) (hd : ¬ (d : Int) < 0) (hd2 : ¬ 9 < (d : Int)) (i : Nat) (hfw : fewB fs = true) (hg : (stageB W H F L X Y && compB fs) = true) (T : ByteArray) (HPR : Hid (∀ wx, Env m wx → (∀ f ∈ fs, f.ok wx wx.heap.size) → Rd wx wx.heap.size 1 A n (fs.map Fig.val) → Calls Tryz.prog 83 #[.agg #[.int .i64 W, .int .i64 H, .int .i64 F, .int .i64 L, .int .i64 X, .int .i64 Y, .slice A n cap]] wx fun e w' => e = .returned (.tuple #[.string T, .int .i64 0]) ∧ Below wx.heap.size wx w')) (hi : ¬ (i : Int) < 0) (hi2 : (T.size : Int) ≤ i) :
    Calls Tryz.prog 22 #[.agg #[.int .i64 W, .int .i64 H, .int .i64 F, .int .i64 L, .int .i64 X, .int .i64 Y, .slice A n cap], .int .i64 i, .int .i64 d] w fun e w' => e = .returned (.bool true) ∧ Below w.heap.size w w' := by
  have hS := Blk.new w 121 #[.int .i64 W, .int .i64 H, .int .i64 F, .int .i64 L, .int .i64 X, .int .i64 Y, .slice A n cap]
  have hB : Below w.heap.size w (w.alloc (.cells #[.int .i64 W, .int .i64 H, .int .i64 F, .int .i64 L, .int .i64 X, .int .i64 Y, .slice A n cap] 121)) := (Below.refl _ w).alloc (Nat.le_refl _) _
  have hE0 := hE.below hB
  go_enter Tryz.func22, Tryz.ntmps22
  go_upto_region 1 with (fail)
  generalize w.alloc (.cells #[.int .i64 W, .int .i64 H, .int .i64 F, .int .i64 L, .int .i64 X, .int .i64 Y, .slice A n cap] 121) = W0 at *
  have qS := fun i => Blk.cell hS i
  go_wp2_with (first
    | (go_at_call 39; refine (few_any A n cap fs _ hn (fun f h => ((hf f h).below hB).more hB.size) (rdB hr hB)).mono ?_; rintro e w1 ⟨rfl, rfl⟩; rw [hfw])
    | (go_at_call 84; refine (refBook_any W H F L X Y A n cap fs _ hn (fun f h => ((hf f h).below hB).more hB.size) (rdB hr hB)).mono ?_; rintro e w1 ⟨rfl, hb⟩; rw [hg]; replace hS := hS.below hb hS.lt; replace hE0 := hE0.below hb; replace hB := hB.trans (hb.mono hB.size); clear qS hb; have qS := fun i => Blk.cell hS i)
    | (go_at_call 83; refine (HPR.out _ hE0 (fun f h => ((hf f h).below hB).more hB.size) (rdB hr hB)).mono ?_; rintro e w1 ⟨rfl, hb⟩; replace hS := hS.below hb hS.lt; replace hE0 := hE0.below hb; replace hB := hB.trans (hb.mono hB.size); clear qS hb; have qS := fun i => Blk.cell hS i)
    | (go_at_call 24; refine (known_true m _ (known_at hE.1 hB)).mono ?_; rintro e w1 ⟨rfl, hb⟩; replace hB := hB.trans (hb.mono hB.size)))
  go_ret
  exact ⟨rfl, hB⟩
set_option maxRecDepth 100000 in
set_option maxHeartbeats 6400000 in
theorem spoilt_c3 (W H F L X Y : Int) (A : Option Addr) (n cap : Nat) (fs : List Fig) (m : Int) (w : World) (hE : Env m w) (hn : n ≤ maxLen) (hf : ∀ f ∈ fs, f.ok w w.heap.size) (hr : Rd w w.heap.size 1 A n (fs.map Fig.val)) (d : Nat) (hd : ¬ (d : Int) < 0) (hd2 : ¬ 9 < (d : Int)) (i : Nat) (hfw : fewB fs = true) (hg : (stageB W H F L X Y && compB fs) = true) (T : ByteArray) (HPR : Hid (∀ wx, Env m wx → (∀ f ∈ fs, f.ok wx wx.heap.size) → Rd wx wx.heap.size 1 A n (fs.map Fig.val) → Calls Tryz.prog 83 #[.agg #[.int .i64 W, .int .i64 H, .int .i64 F, .int .i64 L, .int .i64 X, .int .i64 Y, .slice A n cap]] wx fun e w' => e = .returned (.tuple #[.string T, .int .i64 0]) ∧ Below wx.heap.size wx w')) (hi : ¬ (i : Int) < 0) (hi2 : ¬ (T.size : Int) ≤ i) (hik : i < T.size) (hc : ((T[i]'hik).toNat : Int) < 48) :
    Calls Tryz.prog 22 #[.agg #[.int .i64 W, .int .i64 H, .int .i64 F, .int .i64 L, .int .i64 X, .int .i64 Y, .slice A n cap], .int .i64 i, .int .i64 d] w fun e w' => e = .returned (.bool true) ∧ Below w.heap.size w w' := by
  have hS := Blk.new w 121 #[.int .i64 W, .int .i64 H, .int .i64 F, .int .i64 L, .int .i64 X, .int .i64 Y, .slice A n cap]
  have hB : Below w.heap.size w (w.alloc (.cells #[.int .i64 W, .int .i64 H, .int .i64 F, .int .i64 L, .int .i64 X, .int .i64 Y, .slice A n cap] 121)) := (Below.refl _ w).alloc (Nat.le_refl _) _
  have hE0 := hE.below hB
  go_enter Tryz.func22, Tryz.ntmps22
  go_upto_region 1 with (fail)
  generalize w.alloc (.cells #[.int .i64 W, .int .i64 H, .int .i64 F, .int .i64 L, .int .i64 X, .int .i64 Y, .slice A n cap] 121) = W0 at *
  have qS := fun i => Blk.cell hS i
  go_wp2_with (first
    | (go_at_call 39; refine (few_any A n cap fs _ hn (fun f h => ((hf f h).below hB).more hB.size) (rdB hr hB)).mono ?_; rintro e w1 ⟨rfl, rfl⟩; rw [hfw])
    | (go_at_call 84; refine (refBook_any W H F L X Y A n cap fs _ hn (fun f h => ((hf f h).below hB).more hB.size) (rdB hr hB)).mono ?_; rintro e w1 ⟨rfl, hb⟩; rw [hg]; replace hS := hS.below hb hS.lt; replace hE0 := hE0.below hb; replace hB := hB.trans (hb.mono hB.size); clear qS hb; have qS := fun i => Blk.cell hS i)
    | (go_at_call 83; refine (HPR.out _ hE0 (fun f h => ((hf f h).below hB).more hB.size) (rdB hr hB)).mono ?_; rintro e w1 ⟨rfl, hb⟩; replace hS := hS.below hb hS.lt; replace hE0 := hE0.below hb; replace hB := hB.trans (hb.mono hB.size); clear qS hb; have qS := fun i => Blk.cell hS i)
    | (go_at_call 24; refine (known_true m _ (known_at hE.1 hB)).mono ?_; rintro e w1 ⟨rfl, hb⟩; replace hB := hB.trans (hb.mono hB.size)))
  go_ret
  exact ⟨rfl, hB⟩
set_option maxRecDepth 100000 in
set_option maxHeartbeats 6400000 in
theorem spoilt_c4 (W H F L X Y : Int) (A : Option Addr) (n cap : Nat) (fs : List Fig) (m : Int) (w : World) (hE : Env m w) (hn : n ≤ maxLen) (hf : ∀ f ∈ fs, f.ok w w.heap.size) (hr : Rd w w.heap.size 1 A n (fs.map Fig.val)) (d : Nat) (hd : ¬ (d : Int) < 0) (hd2 : ¬ 9 < (d : Int)) (i : Nat) (hfw : fewB fs = true) (hg : (stageB W H F L X Y && compB fs) = true) (T : ByteArray) (HPR : Hid (∀ wx, Env m wx → (∀ f ∈ fs, f.ok wx wx.heap.size) → Rd wx wx.heap.size 1 A n (fs.map Fig.val) → Calls Tryz.prog 83 #[.agg #[.int .i64 W, .int .i64 H, .int .i64 F, .int .i64 L, .int .i64 X, .int .i64 Y, .slice A n cap]] wx fun e w' => e = .returned (.tuple #[.string T, .int .i64 0]) ∧ Below wx.heap.size wx w')) (hi : ¬ (i : Int) < 0) (hi2 : ¬ (T.size : Int) ≤ i) (hik : i < T.size) (hc : ¬ ((T[i]'hik).toNat : Int) < 48) (hc2 : (57 : Int) < (T[i]'hik).toNat) :
    Calls Tryz.prog 22 #[.agg #[.int .i64 W, .int .i64 H, .int .i64 F, .int .i64 L, .int .i64 X, .int .i64 Y, .slice A n cap], .int .i64 i, .int .i64 d] w fun e w' => e = .returned (.bool true) ∧ Below w.heap.size w w' := by
  have hS := Blk.new w 121 #[.int .i64 W, .int .i64 H, .int .i64 F, .int .i64 L, .int .i64 X, .int .i64 Y, .slice A n cap]
  have hB : Below w.heap.size w (w.alloc (.cells #[.int .i64 W, .int .i64 H, .int .i64 F, .int .i64 L, .int .i64 X, .int .i64 Y, .slice A n cap] 121)) := (Below.refl _ w).alloc (Nat.le_refl _) _
  have hE0 := hE.below hB
  go_enter Tryz.func22, Tryz.ntmps22
  go_upto_region 1 with (fail)
  generalize w.alloc (.cells #[.int .i64 W, .int .i64 H, .int .i64 F, .int .i64 L, .int .i64 X, .int .i64 Y, .slice A n cap] 121) = W0 at *
  have qS := fun i => Blk.cell hS i
  go_wp2_with (first
    | (go_at_call 39; refine (few_any A n cap fs _ hn (fun f h => ((hf f h).below hB).more hB.size) (rdB hr hB)).mono ?_; rintro e w1 ⟨rfl, rfl⟩; rw [hfw])
    | (go_at_call 84; refine (refBook_any W H F L X Y A n cap fs _ hn (fun f h => ((hf f h).below hB).more hB.size) (rdB hr hB)).mono ?_; rintro e w1 ⟨rfl, hb⟩; rw [hg]; replace hS := hS.below hb hS.lt; replace hE0 := hE0.below hb; replace hB := hB.trans (hb.mono hB.size); clear qS hb; have qS := fun i => Blk.cell hS i)
    | (go_at_call 83; refine (HPR.out _ hE0 (fun f h => ((hf f h).below hB).more hB.size) (rdB hr hB)).mono ?_; rintro e w1 ⟨rfl, hb⟩; replace hS := hS.below hb hS.lt; replace hE0 := hE0.below hb; replace hB := hB.trans (hb.mono hB.size); clear qS hb; have qS := fun i => Blk.cell hS i)
    | (go_at_call 24; refine (known_true m _ (known_at hE.1 hB)).mono ?_; rintro e w1 ⟨rfl, hb⟩; replace hB := hB.trans (hb.mono hB.size)))
  go_ret
  exact ⟨rfl, hB⟩
set_option maxRecDepth 100000 in
set_option maxHeartbeats 6400000 in
theorem spoilt_c5 (W H F L X Y : Int) (A : Option Addr) (n cap : Nat) (fs : List Fig) (m : Int) (w : World) (hE : Env m w) (hn : n ≤ maxLen) (hf : ∀ f ∈ fs, f.ok w w.heap.size) (hr : Rd w w.heap.size 1 A n (fs.map Fig.val)) (d : Nat) (hd : ¬ (d : Int) < 0) (hd2 : ¬ 9 < (d : Int)) (i : Nat) (hfw : fewB fs = true) (hg : (stageB W H F L X Y && compB fs) = true) (T : ByteArray) (HPR : Hid (∀ wx, Env m wx → (∀ f ∈ fs, f.ok wx wx.heap.size) → Rd wx wx.heap.size 1 A n (fs.map Fig.val) → Calls Tryz.prog 83 #[.agg #[.int .i64 W, .int .i64 H, .int .i64 F, .int .i64 L, .int .i64 X, .int .i64 Y, .slice A n cap]] wx fun e w' => e = .returned (.tuple #[.string T, .int .i64 0]) ∧ Below wx.heap.size wx w')) (hi : ¬ (i : Int) < 0) (hi2 : ¬ (T.size : Int) ≤ i) (hik : i < T.size) (hb : (T[i]'hik).toNat = 48 + d) :
    Calls Tryz.prog 22 #[.agg #[.int .i64 W, .int .i64 H, .int .i64 F, .int .i64 L, .int .i64 X, .int .i64 Y, .slice A n cap], .int .i64 i, .int .i64 d] w fun e w' => e = .returned (.bool true) ∧ Below w.heap.size w w' := by
  have hS := Blk.new w 121 #[.int .i64 W, .int .i64 H, .int .i64 F, .int .i64 L, .int .i64 X, .int .i64 Y, .slice A n cap]
  have hB : Below w.heap.size w (w.alloc (.cells #[.int .i64 W, .int .i64 H, .int .i64 F, .int .i64 L, .int .i64 X, .int .i64 Y, .slice A n cap] 121)) := (Below.refl _ w).alloc (Nat.le_refl _) _
  have hE0 := hE.below hB
  have hc : ¬ (48 : Int) + (d : Int) < 48 := by omega
  have hc2 : ¬ (57 : Int) < (48 : Int) + (d : Int) := by omega
  have hw8 : IntKind.u8.wrap (d : Int) = d := by simp only [IntKind.wrap, IntKind.signed, IntKind.bits]; simp; omega
  have hw64 := i64_ok (d : Int) (by omega)
  have hs0 : (48 : Int) + (d : Int) - 48 = d := by omega
  go_enter Tryz.func22, Tryz.ntmps22
  go_upto_region 1 with (fail)
  generalize w.alloc (.cells #[.int .i64 W, .int .i64 H, .int .i64 F, .int .i64 L, .int .i64 X, .int .i64 Y, .slice A n cap] 121) = W0 at *
  have qS := fun i => Blk.cell hS i
  go_wp2_with (first
    | (go_at_call 39; refine (few_any A n cap fs _ hn (fun f h => ((hf f h).below hB).more hB.size) (rdB hr hB)).mono ?_; rintro e w1 ⟨rfl, rfl⟩; rw [hfw])
    | (go_at_call 84; refine (refBook_any W H F L X Y A n cap fs _ hn (fun f h => ((hf f h).below hB).more hB.size) (rdB hr hB)).mono ?_; rintro e w1 ⟨rfl, hb⟩; rw [hg]; replace hS := hS.below hb hS.lt; replace hE0 := hE0.below hb; replace hB := hB.trans (hb.mono hB.size); clear qS hb; have qS := fun i => Blk.cell hS i)
    | (go_at_call 83; refine (HPR.out _ hE0 (fun f h => ((hf f h).below hB).more hB.size) (rdB hr hB)).mono ?_; rintro e w1 ⟨rfl, hb⟩; replace hS := hS.below hb hS.lt; replace hE0 := hE0.below hb; replace hB := hB.trans (hb.mono hB.size); clear qS hb; have qS := fun i => Blk.cell hS i)
    | (go_at_call 24; refine (known_true m _ (known_at hE.1 hB)).mono ?_; rintro e w1 ⟨rfl, hb⟩; replace hB := hB.trans (hb.mono hB.size)))
  go_ret
  exact ⟨rfl, hB⟩
end Go.Proofs.YtifddfchpknkbaaGreatDoor
