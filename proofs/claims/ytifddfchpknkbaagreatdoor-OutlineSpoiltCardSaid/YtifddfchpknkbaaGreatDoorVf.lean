import Derived.Test.YtifddfchpknkbaaGreatDoorVd
import Derived.Test.YtifddfchpknkbaaGreatDoorKn
set_option linter.unusedVariables false
set_option linter.unusedSimpArgs false
namespace Go.Proofs.YtifddfchpknkbaaGreatDoor
open Go.RowKit Go.Lib

set_option maxRecDepth 100000 in
set_option maxHeartbeats 3200000 in
theorem prints_x1 (W H F L X Y : Int) (A : Option Addr) (n cap : Nat) (fs : List Fig) (m : Int) (w : World) (hE : Env m w) (hcap : n ≤ cap) (hcm : cap ≤ maxLen) (hf : ∀ f ∈ fs, f.ok w w.heap.size) (hr : Rd w w.heap.size 1 A n (fs.map Fig.val)) (hfw : fewB fs = false) :
    Calls Tryz.prog 20 #[.agg #[.int .i64 W, .int .i64 H, .int .i64 F, .int .i64 L, .int .i64 X, .int .i64 Y, .slice A n cap]] w fun e w' => e = .returned (.bool true) ∧ Below w.heap.size w w' := by
  have hn : n ≤ maxLen := Nat.le_trans hcap hcm
  have hS := Blk.new w 121 #[.int .i64 W, .int .i64 H, .int .i64 F, .int .i64 L, .int .i64 X, .int .i64 Y, .slice A n cap]
  have hB : Below w.heap.size w (w.alloc (.cells #[.int .i64 W, .int .i64 H, .int .i64 F, .int .i64 L, .int .i64 X, .int .i64 Y, .slice A n cap] 121)) := (Below.refl _ w).alloc (Nat.le_refl _) _
  clear hcap hcm
  go_enter Tryz.func20, Tryz.ntmps20
  go_upto_region 1 with (fail)
  generalize w.alloc (.cells #[.int .i64 W, .int .i64 H, .int .i64 F, .int .i64 L, .int .i64 X, .int .i64 Y, .slice A n cap] 121) = W0 at *
  have qS := fun i => Blk.cell hS i
  go_wp2_with (first
    | (go_at_call 39; refine (few_any A n cap fs _ hn (fun f h => ((hf f h).below hB).more hB.size) (rdB hr hB)).mono ?_; rintro e w1 ⟨rfl, rfl⟩; rw [hfw])
    | (go_at_call 24; refine (known_true m _ (known_at hE.1 hB)).mono ?_; rintro e w1 ⟨rfl, hb⟩; replace hB := hB.trans (hb.mono hB.size)))
  go_ret
  exact ⟨rfl, hB⟩
set_option maxRecDepth 100000 in
set_option maxHeartbeats 3200000 in
theorem prints_x2 (W H F L X Y : Int) (A : Option Addr) (n cap : Nat) (fs : List Fig) (m : Int) (w : World) (hE : Env m w) (hcap : n ≤ cap) (hcm : cap ≤ maxLen) (hf : ∀ f ∈ fs, f.ok w w.heap.size) (hr : Rd w w.heap.size 1 A n (fs.map Fig.val)) (hfw : fewB fs = true) (hg : (stageB W H F L X Y && compB fs) = false) :
    Calls Tryz.prog 20 #[.agg #[.int .i64 W, .int .i64 H, .int .i64 F, .int .i64 L, .int .i64 X, .int .i64 Y, .slice A n cap]] w fun e w' => e = .returned (.bool true) ∧ Below w.heap.size w w' := by
  have hn : n ≤ maxLen := Nat.le_trans hcap hcm
  have hS := Blk.new w 121 #[.int .i64 W, .int .i64 H, .int .i64 F, .int .i64 L, .int .i64 X, .int .i64 Y, .slice A n cap]
  have hB : Below w.heap.size w (w.alloc (.cells #[.int .i64 W, .int .i64 H, .int .i64 F, .int .i64 L, .int .i64 X, .int .i64 Y, .slice A n cap] 121)) := (Below.refl _ w).alloc (Nat.le_refl _) _
  clear hcap hcm
  go_enter Tryz.func20, Tryz.ntmps20
  go_upto_region 1 with (fail)
  generalize w.alloc (.cells #[.int .i64 W, .int .i64 H, .int .i64 F, .int .i64 L, .int .i64 X, .int .i64 Y, .slice A n cap] 121) = W0 at *
  have qS := fun i => Blk.cell hS i
  go_wp2_with (first
    | (go_at_call 39; refine (few_any A n cap fs _ hn (fun f h => ((hf f h).below hB).more hB.size) (rdB hr hB)).mono ?_; rintro e w1 ⟨rfl, rfl⟩; rw [hfw])
    | (go_at_call 83; refine (Print_bad W H F L X Y A n cap fs _ hn (fun f h => ((hf f h).below hB).more hB.size) (rdB hr hB) hg).mono ?_; rintro e w1 ⟨rfl, hb⟩; replace hS := hS.below hb hS.lt; replace hB := hB.trans (hb.mono hB.size); clear qS hb; have qS := fun i => Blk.cell hS i)
    | (go_at_call 84; refine (refBook_any W H F L X Y A n cap fs _ hn (fun f h => ((hf f h).below hB).more hB.size) (rdB hr hB)).mono ?_; rintro e w1 ⟨rfl, hb⟩; rw [hg]; replace hS := hS.below hb hS.lt; replace hB := hB.trans (hb.mono hB.size); clear qS hb; have qS := fun i => Blk.cell hS i)
    | (go_at_call 24; refine (known_true m _ (known_at hE.1 hB)).mono ?_; rintro e w1 ⟨rfl, hb⟩; replace hB := hB.trans (hb.mono hB.size)))
  go_ret
  exact ⟨rfl, hB⟩
set_option maxRecDepth 100000 in
set_option maxHeartbeats 6400000 in
theorem prints_main (a0 a1 a2 a3 a4 a5 : Nat) (A : Option Addr) (n cap : Nat) (fs : List Fig) (m : Int) (w : World) (T : ByteArray) (rl : List (List ByteArray)) (hE : Env m w) (hn : n ≤ 100) (hf : ∀ f ∈ fs, f.ok w w.heap.size) (hfn : ∀ f ∈ fs, f.n ≤ 100000) (hrl : rl = fs.map Fig.rows) (hr : Rd w w.heap.size 1 A n (fs.map Fig.val)) (hfw : fewB fs = true) (hg : (stageB a0 a1 a2 a3 a4 a5 && compB fs) = true)
    (HPR : Hid (∀ wx, Env m wx → (∀ f ∈ fs, f.ok wx wx.heap.size) → Rd wx wx.heap.size 1 A n (fs.map Fig.val) → Calls Tryz.prog 83 #[.agg #[.int .i64 a0, .int .i64 a1, .int .i64 a2, .int .i64 a3, .int .i64 a4, .int .i64 a5, .slice A n cap]] wx fun e w' => e = .returned (.tuple #[.string T, .int .i64 0]) ∧ Below wx.heap.size wx w'))
    (HRP : Hid (∀ wx, (∀ f ∈ fs, f.ok wx wx.heap.size) → Rd wx wx.heap.size 1 A n (fs.map Fig.val) → Calls Tryz.prog 86 #[.agg #[.int .i64 a0, .int .i64 a1, .int .i64 a2, .int .i64 a3, .int .i64 a4, .int .i64 a5, .slice A n cap]] wx fun e w' => e = .returned (.string T) ∧ Below wx.heap.size wx w'))
    (HRD : Hid (∀ wx, Env m wx → Calls Tryz.prog 85 #[.string T] wx fun e w' => ∃ (A : Option Addr) (c : Nat) (gs : List Fig), e = .returned (.tuple #[.agg #[.int .i64 a0, .int .i64 a1, .int .i64 a2, .int .i64 a3, .int .i64 a4, .int .i64 a5, .slice A n c], .int .i64 0]) ∧ gs.map Fig.rows = rl ∧ (∀ f ∈ gs, f.ok w' w'.heap.size) ∧ Rd w' w'.heap.size 1 A n (gs.map Fig.val) ∧ Below wx.heap.size wx w'))
    (hgn : ∀ (w : World) (gs : List Fig), gs.map Fig.rows = rl → (∀ f ∈ gs, f.ok w w.heap.size) → ∀ f ∈ gs, f.n ≤ 100000) :
    Calls Tryz.prog 20 #[.agg #[.int .i64 a0, .int .i64 a1, .int .i64 a2, .int .i64 a3, .int .i64 a4, .int .i64 a5, .slice A n cap]] w fun e w' => e = .returned (.bool true) ∧ Below w.heap.size w w' := by
  have hnm : n ≤ maxLen := by unfold maxLen; omega
  have hS := Blk.new w 121 #[.int .i64 a0, .int .i64 a1, .int .i64 a2, .int .i64 a3, .int .i64 a4, .int .i64 a5, .slice A n cap]
  have hB : Below w.heap.size w (w.alloc (.cells #[.int .i64 a0, .int .i64 a1, .int .i64 a2, .int .i64 a3, .int .i64 a4, .int .i64 a5, .slice A n cap] 121)) := (Below.refl _ w).alloc (Nat.le_refl _) _
  have hE0 := hE.below hB
  go_enter Tryz.func20, Tryz.ntmps20
  go_upto_region 1 with (fail)
  generalize w.alloc (.cells #[.int .i64 a0, .int .i64 a1, .int .i64 a2, .int .i64 a3, .int .i64 a4, .int .i64 a5, .slice A n cap] 121) = W0 at *
  have qS := fun i => Blk.cell hS i
  go_upto_region 3 with (go_at_call 39; refine (few_any A n cap fs _ hnm (fun f h => ((hf f h).below hB).more hB.size) (rdB hr hB)).mono ?_; rintro e w1 ⟨rfl, rfl⟩; rw [hfw])
  go_upto_region 4 with (go_at_call 83; refine (HPR.out _ hE0 (fun f h => ((hf f h).below hB).more hB.size) (rdB hr hB)).mono ?_; rintro e w1 ⟨rfl, hb⟩; replace hS := hS.below hb hS.lt; replace hE0 := hE0.below hb; replace hB := hB.trans (hb.mono hB.size); clear qS hb; have qS := fun i => Blk.cell hS i)
  clear HPR
  go_upto_region 6 with (go_at_call 84; refine (refBook_any a0 a1 a2 a3 a4 a5 A n cap fs _ hnm (fun f h => ((hf f h).below hB).more hB.size) (rdB hr hB)).mono ?_; rintro e w1 ⟨rfl, hb⟩; rw [hg]; replace hS := hS.below hb hS.lt; replace hE0 := hE0.below hb; replace hB := hB.trans (hb.mono hB.size); clear qS hb; have qS := fun i => Blk.cell hS i)
  go_upto_region 7 with (go_at_call 85; refine (HRD.out _ hE0).mono ?_; rintro e w1 ⟨A2, c2, gs, rfl, hgs, hgo, hgr, hb⟩; replace hS := hS.below hb hS.lt; replace hE0 := hE0.below hb; replace hB := hB.trans (hb.mono hB.size); clear qS hb; have qS := fun i => Blk.cell hS i)
  clear HRD
  rename World => W1
  have hX := Blk.new W1 121 #[.int .i64 a0, .int .i64 a1, .int .i64 a2, .int .i64 a3, .int .i64 a4, .int .i64 a5, .slice A2 n c2]
  have hbx := (Below.refl W1.heap.size W1).alloc (Nat.le_refl _) (.cells #[.int .i64 a0, .int .i64 a1, .int .i64 a2, .int .i64 a3, .int .i64 a4, .int .i64 a5, .slice A2 n c2] 121)
  have hgf := hgn W1 gs hgs hgo
  obtain ⟨gX, hgX⟩ : ∃ g, g = W1.heap.size := ⟨_, rfl⟩
  replace hgo : ∀ f ∈ gs, f.ok _ _ := fun f h => ((hgo f h).below hbx).more hbx.size
  replace hgr := rdB hgr hbx
  replace hS := hS.below hbx hS.lt
  replace hE0 := hE0.below hbx
  replace hB := hB.trans (hbx.mono hB.size)
  clear qS
  rw [← hgX] at hX ⊢
  clear hgX hbx
  generalize W1.alloc (.cells #[.int .i64 a0, .int .i64 a1, .int .i64 a2, .int .i64 a3, .int .i64 a4, .int .i64 a5, .slice A2 n c2] 121) = W2 at *
  have qS := fun i => Blk.cell hS i
  have qX := fun i => Blk.cell hX i
  have hrwx : fs.map Fig.rows = gs.map Fig.rows := by rw [hgs, hrl]
  go_wp2_with (first
    | (go_at_call 86; refine (HRP.out _ (fun f h => ((hf f h).below hB).more hB.size) (rdB hr hB)).mono ?_; rintro e w1 ⟨rfl, hb⟩; (replace hgo : ∀ f ∈ gs, f.ok _ _ := fun f h => ((hgo f h).below hb).more hb.size); replace hgr := rdB hgr hb; replace hS := hS.below hb hS.lt; replace hX := hX.below hb hX.lt; replace hB := hB.trans (hb.mono hB.size); clear qS qX hb; have qS := fun i => Blk.cell hS i; have qX := fun i => Blk.cell hX i)
    | (go_at_call 87; refine (SameBooks_eq a0 a1 a2 a3 a4 a5 A2 A n c2 cap gs fs _ (by omega) (fun f h => ⟨hgo f h, hgf f h⟩) (fun f h => ((hf f h).below hB).more hB.size) hrwx hgr (rdB hr hB)).mono ?_; rintro e w1 ⟨rfl, hb⟩; replace hB := hB.trans (hb.mono hB.size))
    | (go_at_call 24; refine (known_true m _ (known_at hE.1 hB)).mono ?_; rintro e w1 ⟨rfl, hb⟩; replace hB := hB.trans (hb.mono hB.size)))
  go_ret
  exact ⟨rfl, hB⟩
end Go.Proofs.YtifddfchpknkbaaGreatDoor
