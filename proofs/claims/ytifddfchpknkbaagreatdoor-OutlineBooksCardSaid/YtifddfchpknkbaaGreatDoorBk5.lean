import Derived.Test.YtifddfchpknkbaaGreatDoorProg
import Derived.Test.YtifddfchpknkbaaGreatDoorBk0
import Derived.Test.YtifddfchpknkbaaGreatDoorBk4
import Derived.Maps.OwnOps
import Derived.Maps.OwnSet
import Derived.LoopTactic
import Derived.WalkMore
import Derived.Deep.LoopGhost
set_option linter.unusedVariables false
set_option linter.unusedSimpArgs false
namespace Go.Proofs.YtifddfchpknkbaaGreatDoor
section
open Go.RowKit
def viewB (W H F L X Y N PX PY : Int) (rows : List ByteArray) : Bool := stageB W H F L X Y && (figB rows && placeB F N PX PY)
set_option maxRecDepth 100000 in
set_option maxHeartbeats 1600000 in
theorem viewGood_any (W H F L X Y N PX PY : Int) (A : Option Addr) (n cap : Nat) (rows : List ByteArray) (w : World) (hn : n ≤ maxLen) (hs : ∀ r ∈ rows, r.size ≤ maxLen) (hr : Rd w w.heap.size 1 A n (rows.map Value.string)) :
    Calls Tryz.prog 100 #[.agg #[.int .i64 W, .int .i64 H, .int .i64 F, .int .i64 L, .int .i64 X, .int .i64 Y, .slice A n cap, .int .i64 N, .int .i64 PX, .int .i64 PY]] w fun e w' => e = .returned (.bool (viewB W H F L X Y N PX PY rows)) ∧ Below w.heap.size w w' := by
  obtain ⟨res, hres⟩ : ∃ res, res = viewB W H F L X Y N PX PY rows := ⟨_, rfl⟩
  rw [← hres]
  unfold viewB at hres
  cases h1 : stageB W H F L X Y
  · rw [h1] at hres; simp at hres; subst hres
    go_enter Tryz.func100, Tryz.ntmps100
    go_wp2_with (first | (go_at_call 97; refine (goodStage_any _ _ _ _ _ _ _).mono ?_; rintro e w1 ⟨rfl, hb1⟩; rw [h1]; have hB1 : Below w.heap.size w w1 := ((Below.refl _ w).alloc (Nat.le_refl _) _).trans (hb1.mono (by simp only [World.size_alloc]; omega)); have hbv1 := (Blk.new w 140 #[.int .i64 W, .int .i64 H, .int .i64 F, .int .i64 L, .int .i64 X, .int .i64 Y, .slice A n cap, .int .i64 N, .int .i64 PX, .int .i64 PY]).below hb1 (by simp only [World.size_alloc]; omega); have hcv1 := fun i => hbv1.cell i; have hlt1 := hbv1.lt))
    go_ret
    exact ⟨rfl, hB1⟩
  · have hF : 2 ≤ F ∧ F ≤ 40 := by simp [stageB, inB] at h1; omega
    obtain ⟨hF1, hF2⟩ := hF
    cases h2 : figB rows
    · rw [h1, h2] at hres; simp at hres; subst hres
      go_enter Tryz.func100, Tryz.ntmps100
      go_wp2_with (first | (go_at_call 97; refine (goodStage_any _ _ _ _ _ _ _).mono ?_; rintro e w1 ⟨rfl, hb1⟩; rw [h1]; have hB1 : Below w.heap.size w w1 := ((Below.refl _ w).alloc (Nat.le_refl _) _).trans (hb1.mono (by simp only [World.size_alloc]; omega)); have hbv1 := (Blk.new w 140 #[.int .i64 W, .int .i64 H, .int .i64 F, .int .i64 L, .int .i64 X, .int .i64 Y, .slice A n cap, .int .i64 N, .int .i64 PX, .int .i64 PY]).below hb1 (by simp only [World.size_alloc]; omega); have hcv1 := fun i => hbv1.cell i; have hlt1 := hbv1.lt) | (go_at_call 98; refine (goodFigure_any A n cap rows _ hn hs ((hr.below hB1).more hB1.size)).mono ?_; rintro e w2 ⟨rfl, hb2⟩; rw [h2]; have hB2 := hB1.trans (hb2.mono hB1.size); have hbv2 := hbv1.below hb2 hbv1.lt; have hcv2 := fun i => hbv2.cell i; have hlt2 := hbv2.lt))
      go_ret
      exact ⟨rfl, hB2⟩
    · rw [h1, h2] at hres; simp only [Bool.true_and] at hres; subst hres
      go_enter Tryz.func100, Tryz.ntmps100
      go_wp2_with (first | (go_at_call 97; refine (goodStage_any _ _ _ _ _ _ _).mono ?_; rintro e w1 ⟨rfl, hb1⟩; rw [h1]; have hB1 : Below w.heap.size w w1 := ((Below.refl _ w).alloc (Nat.le_refl _) _).trans (hb1.mono (by simp only [World.size_alloc]; omega)); have hbv1 := (Blk.new w 140 #[.int .i64 W, .int .i64 H, .int .i64 F, .int .i64 L, .int .i64 X, .int .i64 Y, .slice A n cap, .int .i64 N, .int .i64 PX, .int .i64 PY]).below hb1 (by simp only [World.size_alloc]; omega); have hcv1 := fun i => hbv1.cell i; have hlt1 := hbv1.lt) | (go_at_call 98; refine (goodFigure_any A n cap rows _ hn hs ((hr.below hB1).more hB1.size)).mono ?_; rintro e w2 ⟨rfl, hb2⟩; rw [h2]; have hB2 := hB1.trans (hb2.mono hB1.size); have hbv2 := hbv1.below hb2 hbv1.lt; have hcv2 := fun i => hbv2.cell i; have hlt2 := hbv2.lt) | (go_at_call 106; refine (goodPlace_any _ _ _ _ _ _ _ _ _ _ hF1 hF2).mono ?_; rintro e w3 ⟨rfl, hb3⟩))
      go_ret
      exact ⟨rfl, hB2.trans (hb3.mono hB2.size)⟩
/-- What a view that is as defined says of its numbers. -/
theorem stageB_nums {W H F L X Y : Int} (h : stageB W H F L X Y = true) : (1 ≤ W ∧ W ≤ 16) ∧ (1 ≤ H ∧ H ≤ 16) ∧ (2 ≤ F ∧ F ≤ 40) ∧ (0 ≤ L ∧ L ≤ 3) ∧ (0 ≤ X ∧ X ≤ 16) ∧ (0 ≤ Y ∧ Y ≤ 16) := by
  simp [stageB, inB] at h; omega
theorem figB_nums {rows : List ByteArray} (h : figB rows = true) : (0 < rows.length ∧ rows.length ≤ 6) ∧ wdOf rows ≤ 6 ∧ 1 ≤ wdOf rows ∧ ∀ r ∈ rows, r.size = wdOf rows := by
  simp only [figB, Bool.and_eq_true] at h
  obtain ⟨h1, h2, h3, _⟩ := h
  simp [inB] at h1 h2
  refine ⟨by omega, by omega, by omega, fun r hr => ?_⟩
  have := List.all_eq_true.1 h3 r hr
  simp [rowB] at this
  exact this.1
theorem placeB_nums {F N PX PY : Int} (h : placeB F N PX PY = true) : (0 ≤ N ∧ N ≤ F - 1) ∧ (-20 ≤ PX ∧ PX ≤ 20) ∧ (-20 ≤ PY ∧ PY ≤ 20) := by
  simp [placeB, inB] at h; omega
end
section
open Go.RowKit
theorem pro4 (w : World) (o1 o2 o3 o4 : Obj) : Below w.heap.size w ((((w.alloc o1).alloc o2).alloc o3).alloc o4) :=
  ((((Below.refl _ w).alloc (Nat.le_refl _) _).alloc (by simp only [World.size_alloc]; omega) _).alloc (by simp only [World.size_alloc]; omega) _).alloc (by simp only [World.size_alloc]; omega) _
theorem rd4 {w : World} {sz n : Nat} {A : Option Addr} {xs : List Value} (h : Rd w w.heap.size sz A n xs) (o1 o2 o3 o4 : Obj) :
    Rd ((((w.alloc o1).alloc o2).alloc o3).alloc o4) ((((w.alloc o1).alloc o2).alloc o3).alloc o4).heap.size sz A n xs := (h.below (pro4 w o1 o2 o3 o4)).more (by simp only [World.size_alloc]; omega)
theorem blk4 (w : World) (o1 o2 o3 : Obj) (t : TypeId) (cs : Array Value) : Blk ((((w.alloc o1).alloc o2).alloc o3).alloc (.cells cs t)) (w.heap.size + 1 + 1 + 1) t cs := by
  have := Blk.new (((w.alloc o1).alloc o2).alloc o3) t cs
  simpa only [World.size_alloc] using this
theorem blk2 (w : World) (o1 : Obj) (t : TypeId) (cs : Array Value) : Blk ((w.alloc o1).alloc (.cells cs t)) (w.heap.size + 1) t cs := by
  have := Blk.new (w.alloc o1) t cs
  simpa only [World.size_alloc] using this
theorem blk1 (w : World) (o2 o3 o4 : Obj) (t : TypeId) (cs : Array Value) : Blk ((((w.alloc (.cells cs t)).alloc o2).alloc o3).alloc o4) w.heap.size t cs :=
  (((Blk.new w t cs).alloc o2).alloc o3).alloc o4
/-- The shadow as a string of cells. -/
def shS (W H F L X Y N PX PY : Int) (rows : List ByteArray) : ByteArray := strOfNums (shadL W.toNat H.toNat F L X Y N PX PY rows (wdOf rows) rows.length (W.toNat * H.toNat))
theorem shS_size (W H F L X Y N PX PY : Int) (rows : List ByteArray) : (shS W H F L X Y N PX PY rows).size = W.toNat * H.toNat := by
  rw [shS, strOfNums_size]; simp [shadL]
theorem shS_le {W H : Int} (F L X Y N PX PY : Int) (rows : List ByteArray) (h1 : W ≤ 50) (h2 : H ≤ 50) : (shS W H F L X Y N PX PY rows).size ≤ 2500 := by
  rw [shS_size]; exact Nat.mul_le_mul (show W.toNat ≤ 50 by omega) (show H.toNat ≤ 50 by omega)
theorem shadow_int (W H F L X Y N PX PY : Int) (A : Option Addr) (n cap : Nat) (rows : List ByteArray) (w : World) (hcap : n ≤ cap) (hcm : cap ≤ maxLen) (hr : Rd w w.heap.size 1 A n (rows.map Value.string)) (hv : viewB W H F L X Y N PX PY rows = true) :
    Calls Tryz.prog 102 #[.agg #[.int .i64 W, .int .i64 H, .int .i64 F, .int .i64 L, .int .i64 X, .int .i64 Y, .slice A n cap, .int .i64 N, .int .i64 PX, .int .i64 PY]] w fun e w' => e = .returned (.string (shS W H F L X Y N PX PY rows)) ∧ Below w.heap.size w w' := by
  have hlen := hr.len
  have hv2 := hv
  simp only [viewB, Bool.and_eq_true] at hv2
  obtain ⟨hv3, hv4, hv5⟩ := hv2
  obtain ⟨⟨a1, a2⟩, ⟨a3, a4⟩, ⟨a5, a6⟩, ⟨a7, a8⟩, ⟨a9, a10⟩, a11, a12⟩ := stageB_nums hv3
  obtain ⟨⟨b1, b2⟩, b3, b4, b5⟩ := figB_nums hv4
  obtain ⟨⟨c1, c2⟩, ⟨c3, c4⟩, c5, c6⟩ := placeB_nums hv5
  clear hv3 hv4 hv5

  obtain ⟨Wn, rfl⟩ : ∃ k : Nat, W = k := ⟨W.toNat, by omega⟩
  obtain ⟨Hn, rfl⟩ : ∃ k : Nat, H = k := ⟨H.toNat, by omega⟩
  refine (shadow_any Wn Hn F L X Y N PX PY A n cap rows (wdOf rows) w hr (by omega) (by omega) hcap hcm b5 (by omega) (by omega) (by omega) (by omega) (by omega) (by omega) (by omega) (by omega) (by omega) (by omega) (by omega) (by omega) (by omega) (by omega) (by omega) (by omega) (by omega) (by omega) (by omega)).mono ?_
  rintro e w' ⟨rfl, hb⟩
  exact ⟨by subst hlen; rfl, hb⟩
def countsR (W H F L X Y N PX PY : Int) (rows : List ByteArray) : Array Value :=
  if viewB W H F L X Y N PX PY rows then #[.int .i64 (cntL (ltr (shS W H F L X Y N PX PY rows)) [35]), .int .i64 (cntL (ltr (shS W H F L X Y N PX PY rows)) [43]), .int .i64 0] else #[.int .i64 0, .int .i64 0, .int .i64 2]
set_option maxRecDepth 100000 in
set_option maxHeartbeats 1600000 in
theorem Counts_any (W H F L X Y N PX PY : Int) (A : Option Addr) (n cap : Nat) (rows : List ByteArray) (w : World) (hcap : n ≤ cap) (hcm : cap ≤ maxLen) (hs : ∀ r ∈ rows, r.size ≤ maxLen) (hr : Rd w w.heap.size 1 A n (rows.map Value.string)) :
    Calls Tryz.prog 30 #[.agg #[.int .i64 W, .int .i64 H, .int .i64 F, .int .i64 L, .int .i64 X, .int .i64 Y], .agg #[.slice A n cap], .agg #[.int .i64 N, .int .i64 PX, .int .i64 PY]] w fun e w' => e = .returned (.tuple (countsR W H F L X Y N PX PY rows)) ∧ Below w.heap.size w w' := by
  have hn : n ≤ maxLen := Nat.le_trans hcap hcm
  unfold countsR
  cases hv : viewB W H F L X Y N PX PY rows
  · go_enter Tryz.func30, Tryz.ntmps30
    go_wp2_with (first | (go_at_call 100; refine (viewGood_any W H F L X Y N PX PY A n cap rows _ hn hs (rd4 hr _ _ _ _)).mono ?_; rintro e w1 ⟨rfl, hb1⟩; rw [hv]; have hB1 : Below w.heap.size w w1 := (pro4 w _ _ _ _).trans (hb1.mono (by simp only [World.size_alloc]; omega)); have hbv1 := (blk4 w _ _ _ 140 #[.int .i64 W, .int .i64 H, .int .i64 F, .int .i64 L, .int .i64 X, .int .i64 Y, .slice A n cap, .int .i64 N, .int .i64 PX, .int .i64 PY]).below hb1 (by simp only [World.size_alloc]; omega); have hcv1 := fun i => hbv1.cell i; have hlt1 := hbv1.lt; have hbs1 := (blk1 w _ _ _ 23 #[.int .i64 W, .int .i64 H, .int .i64 F, .int .i64 L, .int .i64 X, .int .i64 Y]).below hb1 (by simp only [World.size_alloc]; omega); have hcs1 := fun i => hbs1.cell i; have hlts1 := hbs1.lt))
    go_ret3
    exact ⟨rfl, hB1⟩
  · have hv2 := hv
    simp only [viewB, Bool.and_eq_true] at hv2
    obtain ⟨hv3, hv4, hv5⟩ := hv2
    obtain ⟨⟨a1, a2⟩, ⟨a3, a4⟩, ⟨a5, a6⟩, ⟨a7, a8⟩, ⟨a9, a10⟩, a11, a12⟩ := stageB_nums hv3
    obtain ⟨⟨b1, b2⟩, b3, b4, b5⟩ := figB_nums hv4
    obtain ⟨⟨c1, c2⟩, ⟨c3, c4⟩, c5, c6⟩ := placeB_nums hv5
    clear hv3 hv4 hv5
    have hsz := shS_le F L X Y N PX PY rows (show W ≤ 50 by omega) (show H ≤ 50 by omega)
    obtain ⟨sh, hsh⟩ : ∃ sh, sh = shS W H F L X Y N PX PY rows := ⟨_, rfl⟩
    rw [← hsh] at hsz ⊢
    have HSH := Lib.hid hsh; clear hsh
    have hsm : sh.size ≤ maxLen := by unfold maxLen; omega
    go_enter Tryz.func30, Tryz.ntmps30
    go_wp2_with (first | (go_at_call 100; refine (viewGood_any W H F L X Y N PX PY A n cap rows _ hn hs (rd4 hr _ _ _ _)).mono ?_; rintro e w1 ⟨rfl, hb1⟩; rw [hv]; have hB1 : Below w.heap.size w w1 := (pro4 w _ _ _ _).trans (hb1.mono (by simp only [World.size_alloc]; omega)); have hbv1 := (blk4 w _ _ _ 140 #[.int .i64 W, .int .i64 H, .int .i64 F, .int .i64 L, .int .i64 X, .int .i64 Y, .slice A n cap, .int .i64 N, .int .i64 PX, .int .i64 PY]).below hb1 (by simp only [World.size_alloc]; omega); have hcv1 := fun i => hbv1.cell i; have hlt1 := hbv1.lt; have hbs1 := (blk1 w _ _ _ 23 #[.int .i64 W, .int .i64 H, .int .i64 F, .int .i64 L, .int .i64 X, .int .i64 Y]).below hb1 (by simp only [World.size_alloc]; omega); have hcs1 := fun i => hbs1.cell i; have hlts1 := hbs1.lt) | (go_at_call 102; refine (shadow_int W H F L X Y N PX PY A n cap rows _ hcap hcm ((hr.below hB1).more hB1.size) hv).mono ?_; rintro e w2 ⟨rfl, hb2⟩; rw [← HSH.out]; have hB2 := hB1.trans (hb2.mono hB1.size)))
    refine (count_any sh _ 1 1 [35] _ (w2.heap.size + 1) hsm (by decide) (Rd.blk (Blk.new w2 5 #[.int .u8 35]) rfl (Nat.lt_succ_self _))).mono ?_
    rintro e w3 ⟨rfl, rfl⟩
    go_wp2_with (fail)
    refine (count_any sh _ 1 1 [43] _ (w2.heap.size + 1 + 1) hsm (by decide) (Rd.blk (blk2 w2 _ 5 #[.int .u8 43]) rfl (Nat.lt_succ_self _))).mono ?_
    rintro e w3 ⟨rfl, rfl⟩
    go_wp2_with (fail)
    go_ret3
    exact ⟨rfl, (hB2.alloc hB2.size _).alloc (by have := hB2.size; simp only [World.size_alloc]; omega) _⟩
end
section
open Go.RowKit
theorem pro2 (w : World) (o1 o2 : Obj) : Below w.heap.size w ((w.alloc o1).alloc o2) := ((Below.refl _ w).alloc (Nat.le_refl _) _).alloc (by simp only [World.size_alloc]; omega) _
theorem rd2 {w : World} {sz n : Nat} {A : Option Addr} {xs : List Value} (h : Rd w w.heap.size sz A n xs) (o1 o2 : Obj) :
    Rd ((w.alloc o1).alloc o2) ((w.alloc o1).alloc o2).heap.size sz A n xs := (h.below (pro2 w o1 o2)).more (by simp only [World.size_alloc]; omega)
/-- The greatest number below k of which something is so, or none. -/
def mostFrom (ok : Nat → Bool) : Nat → Array Value
  | 0 => #[.int .i64 0, .int .i64 5]
  | k + 1 => if ok k then #[.int .i64 k, .int .i64 0] else mostFrom ok k
def mostR (W H F L X Y PX PY : Int) (rows : List ByteArray) : Array Value :=
  if viewB W H F L X Y 0 PX PY rows then mostFrom (fun k : Nat => fitsB W H F L X Y k PX PY (wdOf rows) rows.length) F.toNat else #[.int .i64 0, .int .i64 2]
set_option maxRecDepth 100000 in
set_option maxHeartbeats 1600000 in
theorem Most_any (W H F L X Y PX PY : Int) (A : Option Addr) (n cap : Nat) (rows : List ByteArray) (w : World) (hcap : n ≤ cap) (hcm : cap ≤ maxLen) (hs : ∀ r ∈ rows, r.size ≤ maxLen) (hr : Rd w w.heap.size 1 A n (rows.map Value.string)) :
    Calls Tryz.prog 47 #[.agg #[.int .i64 W, .int .i64 H, .int .i64 F, .int .i64 L, .int .i64 X, .int .i64 Y], .agg #[.slice A n cap], .int .i64 PX, .int .i64 PY] w fun e w' => e = .returned (.tuple (mostR W H F L X Y PX PY rows)) ∧ Below w.heap.size w w' := by
  have hn : n ≤ maxLen := Nat.le_trans hcap hcm
  have hlen := hr.len
  unfold mostR
  cases hv : viewB W H F L X Y 0 PX PY rows
  · go_enter Tryz.func47, Tryz.ntmps47
    go_wp2_with (first | (go_at_call 100; refine (viewGood_any W H F L X Y 0 PX PY A n cap rows _ hn hs (rd2 hr _ _)).mono ?_; rintro e w1 ⟨rfl, hb1⟩; rw [hv]; have hB1 : Below w.heap.size w w1 := (pro2 w _ _).trans (hb1.mono (by simp only [World.size_alloc]; omega)); have hbs1 := ((Blk.new w 23 #[.int .i64 W, .int .i64 H, .int .i64 F, .int .i64 L, .int .i64 X, .int .i64 Y]).alloc (.cells #[.slice A n cap] 26)).below hb1 (by simp only [World.size_alloc]; omega); have hcs1 := fun i => hbs1.cell i; have hlts1 := hbs1.lt; have hbf1 := (blk2 w (.cells #[.int .i64 W, .int .i64 H, .int .i64 F, .int .i64 L, .int .i64 X, .int .i64 Y] 23) 26 #[.slice A n cap]).below hb1 (by simp only [World.size_alloc]; omega); have hcf1 := fun i => hbf1.cell i; have hltf1 := hbf1.lt))
    go_ret2
    exact ⟨rfl, hB1⟩
  · have hv2 := hv
    simp only [viewB, Bool.and_eq_true] at hv2
    obtain ⟨hv3, hv4, hv5⟩ := hv2
    obtain ⟨⟨a1, a2⟩, ⟨a3, a4⟩, ⟨a5, a6⟩, ⟨a7, a8⟩, ⟨a9, a10⟩, a11, a12⟩ := stageB_nums hv3
    obtain ⟨⟨b1, b2⟩, b3, b4, b5⟩ := figB_nums hv4
    obtain ⟨⟨c1, c2⟩, ⟨c3, c4⟩, c5, c6⟩ := placeB_nums hv5
    clear hv3 hv4 hv5
    obtain ⟨ok, hok⟩ : ∃ ok : Nat → Bool, ok = fun k : Nat => fitsB W H F L X Y k PX PY (wdOf rows) rows.length := ⟨_, rfl⟩
    obtain ⟨Fn, rfl⟩ : ∃ k : Nat, F = k := ⟨F.toNat, by omega⟩
    rw [← hok]
    have hokk := fun k => congrFun hok k
    have HOK := Lib.hid hokk; clear hok hokk
    have HLEN := Lib.hid hlen; clear hlen
    have hw1 := i64_ok ((Fn : Int) - 1) (by omega)
    have hn50 : n ≤ 6 ∧ 0 < n := by have := HLEN.out; omega
    obtain ⟨n50, n0⟩ := hn50
    go_enter Tryz.func47, Tryz.ntmps47
    go_wp2_with (first | (go_at_call 100; refine (viewGood_any W H Fn L X Y 0 PX PY A n cap rows _ hn hs (rd2 hr _ _)).mono ?_; rintro e w1 ⟨rfl, hb1⟩; rw [hv]; have hB1 : Below w.heap.size w w1 := (pro2 w _ _).trans (hb1.mono (by simp only [World.size_alloc]; omega)); have hbs1 := ((Blk.new w 23 #[.int .i64 W, .int .i64 H, .int .i64 Fn, .int .i64 L, .int .i64 X, .int .i64 Y]).alloc (.cells #[.slice A n cap] 26)).below hb1 (by simp only [World.size_alloc]; omega); have hcs1 := fun i => hbs1.cell i; have hlts1 := hbs1.lt; have hbf1 := (blk2 w (.cells #[.int .i64 W, .int .i64 H, .int .i64 Fn, .int .i64 L, .int .i64 X, .int .i64 Y] 23) 26 #[.slice A n cap]).below hb1 (by simp only [World.size_alloc]; omega); have hcf1 := fun i => hbf1.cell i; have hltf1 := hbf1.lt))
    clear hcs1 hcf1 hw1
    go_loopg [10] Fn (fun g i wr => ∃ k : Nat, g = k ∧ k ≤ Fn ∧ i = .int .i64 ((k : Int) - 1) ∧ mostFrom ok Fn = mostFrom ok k ∧ Blk wr w.heap.size 23 #[.int .i64 W, .int .i64 H, .int .i64 Fn, .int .i64 L, .int .i64 X, .int .i64 Y] ∧ Blk wr (w.heap.size + 1) 26 #[.slice A n cap] ∧ Below w.heap.size w wr)
    case atStart => exact ⟨Fn, rfl, Nat.le_refl _, rfl, rfl, hbs1, hbf1, hB1⟩
    case round =>
      clear hbs1 hbf1 hB1 hlts1 hltf1
      obtain ⟨k, hg, hk, rfl, hm, hbs, hbf, hB⟩ := hrel
      have HG := Lib.hid hg; clear hg
      have HM := Lib.hid hm; clear hm
      have hcs := fun i => hbs.cell i
      have hcf := fun i => hbf.cell i
      have hls := hbs.lt
      have hlf := hbf.lt
      rcases k with _ | k
      · go_wp2
        go_ret2
        exact ⟨by show Ending.returned (.tuple #[.int .i64 0, .int .i64 5]) = .returned (.tuple (mostFrom ok ((Fn : Int).toNat))); rw [Int.toNat_natCast, HM.out]; rfl, hB⟩
      · have hki : ((k + 1 : Nat) : Int) - 1 = (k : Int) := by omega
        rw [hki]
        have hkF : (k : Int) < Fn := by omega
        have hw2 := i64_ok ((k : Int) - 1) (by omega)
        have hstep : mostFrom ok (k + 1) = if ok k then #[.int .i64 k, .int .i64 0] else mostFrom ok k := rfl
        have HST := Lib.hid hstep; clear hstep hki
        cases hf : fitsB W H Fn L X Y k PX PY (wdOf rows) n
        all_goals
          go_wp2_with (first | (go_at_call 110; refine (fits_any W H Fn L X Y k PX PY A n cap rows (wdOf rows) _ ((hr.below hB).more hB.size) (by omega) (by omega) b5 (by omega) (by omega) (by omega) (by omega) (by omega) (by omega) (by omega) (by omega) (by omega) (by omega) (by omega) (by omega) (by omega) (by omega) (by omega) (by omega) (by omega) (by omega) (by omega)).mono ?_; rintro e w2 ⟨rfl, hb2⟩; rw [hf]; have hB2 := hB.trans (hb2.mono hB.size)))
        · go_roundg k
          case measure => rw [HG.out]; omega
          case rel => exact ⟨k, rfl, by omega, rfl, by rw [HM.out, HST.out, HOK.out, HLEN.out, hf]; rfl, hbs.below hb2 hls, hbf.below hb2 hlf, hB2⟩
        · go_ret2
          exact ⟨by show Ending.returned (.tuple #[.int .i64 k, .int .i64 0]) = .returned (.tuple (mostFrom ok ((Fn : Int).toNat))); rw [Int.toNat_natCast, HM.out, HST.out, HOK.out, HLEN.out, hf]; rfl, hB2⟩
end
section
open Go.RowKit
theorem viewB_near {W H F L X Y PX PY : Int} {rows : List ByteArray} (h : viewB W H F L X Y 0 PX PY rows = true) (k : Int) (h0 : 0 ≤ k) (h1 : k ≤ F - 1) : viewB W H F L X Y k PX PY rows = true := by
  simp only [viewB, placeB, Bool.and_eq_true] at h ⊢
  refine ⟨h.1, h.2.1, ⟨?_, h.2.2.1.2⟩, h.2.2.2⟩
  simp [inB]; omega
/-- The least number from k on, below k + m, of which something is so, or none. -/
def fadeFrom (ok : Nat → Bool) : Nat → Nat → Array Value
  | 0, _ => #[.int .i64 0, .int .i64 5]
  | m + 1, k => if ok k then #[.int .i64 k, .int .i64 0] else fadeFrom ok m (k + 1)
def noDark (W H F L X Y PX PY : Int) (rows : List ByteArray) (k : Nat) : Bool := (cntL (ltr (shS W H F L X Y k PX PY rows)) [35] : Int) == 0
def fadesR (W H F L X Y PX PY : Int) (rows : List ByteArray) : Array Value :=
  if viewB W H F L X Y 0 PX PY rows then fadeFrom (noDark W H F L X Y PX PY rows) F.toNat 0 else #[.int .i64 0, .int .i64 2]
set_option maxRecDepth 100000 in
set_option maxHeartbeats 1600000 in
theorem Fades_any (W H F L X Y PX PY : Int) (A : Option Addr) (n cap : Nat) (rows : List ByteArray) (w : World) (hcap : n ≤ cap) (hcm : cap ≤ maxLen) (hs : ∀ r ∈ rows, r.size ≤ maxLen) (hr : Rd w w.heap.size 1 A n (rows.map Value.string)) :
    Calls Tryz.prog 48 #[.agg #[.int .i64 W, .int .i64 H, .int .i64 F, .int .i64 L, .int .i64 X, .int .i64 Y], .agg #[.slice A n cap], .int .i64 PX, .int .i64 PY] w fun e w' => e = .returned (.tuple (fadesR W H F L X Y PX PY rows)) ∧ Below w.heap.size w w' := by
  have hn : n ≤ maxLen := Nat.le_trans hcap hcm
  unfold fadesR
  cases hv : viewB W H F L X Y 0 PX PY rows
  · go_enter Tryz.func48, Tryz.ntmps48
    go_wp2_with (first | (go_at_call 100; refine (viewGood_any W H F L X Y 0 PX PY A n cap rows _ hn hs (rd2 hr _ _)).mono ?_; rintro e w1 ⟨rfl, hb1⟩; rw [hv]; have hB1 : Below w.heap.size w w1 := (pro2 w _ _).trans (hb1.mono (by simp only [World.size_alloc]; omega)); have hbs1 := ((Blk.new w 23 #[.int .i64 W, .int .i64 H, .int .i64 F, .int .i64 L, .int .i64 X, .int .i64 Y]).alloc (.cells #[.slice A n cap] 26)).below hb1 (by simp only [World.size_alloc]; omega); have hcs1 := fun i => hbs1.cell i; have hlts1 := hbs1.lt; have hbf1 := (blk2 w (.cells #[.int .i64 W, .int .i64 H, .int .i64 F, .int .i64 L, .int .i64 X, .int .i64 Y] 23) 26 #[.slice A n cap]).below hb1 (by simp only [World.size_alloc]; omega); have hcf1 := fun i => hbf1.cell i; have hltf1 := hbf1.lt))
    go_ret2
    exact ⟨rfl, hB1⟩
  · have hv2 := hv
    simp only [viewB, Bool.and_eq_true] at hv2
    obtain ⟨hv3, hv4, hv5⟩ := hv2
    obtain ⟨⟨a1, a2⟩, ⟨a3, a4⟩, ⟨a5, a6⟩, ⟨a7, a8⟩, ⟨a9, a10⟩, a11, a12⟩ := stageB_nums hv3
    obtain ⟨⟨b1, b2⟩, b3, b4, b5⟩ := figB_nums hv4
    obtain ⟨⟨c1, c2⟩, ⟨c3, c4⟩, c5, c6⟩ := placeB_nums hv5
    clear hv3 hv4 hv5
    obtain ⟨Fn, rfl⟩ : ∃ k : Nat, F = k := ⟨F.toNat, by omega⟩
    obtain ⟨ok, hok⟩ : ∃ ok : Nat → Bool, ok = noDark W H Fn L X Y PX PY rows := ⟨_, rfl⟩
    rw [← hok]
    have hokk := fun k => congrFun hok k
    have HOK := Lib.hid hokk; clear hok hokk
    go_enter Tryz.func48, Tryz.ntmps48
    go_wp2_with (first | (go_at_call 100; refine (viewGood_any W H Fn L X Y 0 PX PY A n cap rows _ hn hs (rd2 hr _ _)).mono ?_; rintro e w1 ⟨rfl, hb1⟩; rw [hv]; have hB1 : Below w.heap.size w w1 := (pro2 w _ _).trans (hb1.mono (by simp only [World.size_alloc]; omega)); have hbs1 := ((Blk.new w 23 #[.int .i64 W, .int .i64 H, .int .i64 Fn, .int .i64 L, .int .i64 X, .int .i64 Y]).alloc (.cells #[.slice A n cap] 26)).below hb1 (by simp only [World.size_alloc]; omega); have hcs1 := fun i => hbs1.cell i; have hlts1 := hbs1.lt; have hbf1 := (blk2 w (.cells #[.int .i64 W, .int .i64 H, .int .i64 Fn, .int .i64 L, .int .i64 X, .int .i64 Y] 23) 26 #[.slice A n cap]).below hb1 (by simp only [World.size_alloc]; omega); have hcf1 := fun i => hbf1.cell i; have hltf1 := hbf1.lt))
    clear hcs1 hcf1
    go_loopg [22] Fn (fun g i wr => ∃ k : Nat, g = Fn - k ∧ k ≤ Fn ∧ i = .int .i64 k ∧ fadeFrom ok Fn 0 = fadeFrom ok (Fn - k) k ∧ Blk wr w.heap.size 23 #[.int .i64 W, .int .i64 H, .int .i64 Fn, .int .i64 L, .int .i64 X, .int .i64 Y] ∧ Blk wr (w.heap.size + 1) 26 #[.slice A n cap] ∧ Below w.heap.size w wr)
    case atStart => exact ⟨0, rfl, Nat.zero_le _, rfl, rfl, hbs1, hbf1, hB1⟩
    case round =>
      clear hbs1 hbf1 hB1 hlts1 hltf1
      obtain ⟨k, hg, hk, rfl, hm, hbs, hbf, hB⟩ := hrel
      have HG := Lib.hid hg; clear hg
      have HM := Lib.hid hm; clear hm
      have hcs := fun i => hbs.cell i
      have hcf := fun i => hbf.cell i
      have hls := hbs.lt
      have hlf := hbf.lt
      by_cases hlt : k < Fn
      · obtain ⟨m, hmk⟩ : ∃ m, Fn - k = m + 1 := ⟨Fn - k - 1, by omega⟩
        have hstep : fadeFrom ok (Fn - k) k = if ok k then #[.int .i64 k, .int .i64 0] else fadeFrom ok (Fn - (k + 1)) (k + 1) := by
          rw [hmk, show Fn - (k + 1) = m by omega]; rfl
        have HST := Lib.hid hstep; clear hstep hmk
        have hvk := viewB_near hv k (by omega) (by omega)
        obtain ⟨sh, hsh⟩ : ∃ sh, sh = shS W H Fn L X Y k PX PY rows := ⟨_, rfl⟩
        have hsz := shS_le Fn L X Y k PX PY rows (show W ≤ 50 by omega) (show H ≤ 50 by omega)
        rw [← hsh] at hsz
        have hsm : sh.size ≤ maxLen := by unfold maxLen; omega
        obtain ⟨c, hc⟩ : ∃ c, c = cntL (ltr sh) [35] := ⟨_, rfl⟩
        have hokc : ok k = ((c : Int) == 0) := by rw [HOK.out, noDark, ← hsh, ← hc]
        have HOC := Lib.hid hokc; have HSH := Lib.hid hsh; have HC := Lib.hid hc; clear hokc hsh hc
        cases hq : ((c : Int) == 0)
        all_goals
          go_wp2_with (first | (go_at_call 102; refine (shadow_int W H Fn L X Y k PX PY A n cap rows _ hcap hcm ((hr.below hB).more hB.size) hvk).mono ?_; rintro e w2 ⟨rfl, hb2⟩; rw [← HSH.out]; have hB2 := hB.trans (hb2.mono hB.size)) | (go_at_call 103; refine (count_any sh _ 1 1 [35] _ (w2.heap.size + 1) hsm (by decide) (Rd.blk (Blk.new w2 5 #[.int .u8 35]) rfl (Nat.lt_succ_self _))).mono ?_; rintro e w3 ⟨rfl, rfl⟩; rw [← HC.out]))
        · go_roundg (Fn - (k + 1))
          case measure => rw [HG.out]; omega
          case rel => exact ⟨k + 1, rfl, by omega, by go_num, by rw [HM.out, HST.out, HOC.out, hq]; rfl, (hbs.below hb2 hls).alloc _, (hbf.below hb2 hlf).alloc _, hB2.alloc hB2.size _⟩
        · go_ret2
          exact ⟨by show Ending.returned (.tuple #[.int .i64 k, .int .i64 0]) = .returned (.tuple (fadeFrom ok ((Fn : Int).toNat) 0)); rw [Int.toNat_natCast, HM.out, HST.out, HOC.out, hq]; rfl, hB2.alloc hB2.size _⟩
      · have hz : fadeFrom ok (Fn - k) k = #[.int .i64 0, .int .i64 5] := by rw [show Fn - k = 0 by omega]; rfl
        have HZ := Lib.hid hz; clear hz
        go_wp2
        go_ret2
        exact ⟨by show Ending.returned (.tuple #[.int .i64 0, .int .i64 5]) = .returned (.tuple (fadeFrom ok ((Fn : Int).toNat) 0)); rw [Int.toNat_natCast, HM.out, HZ.out], hB⟩
end
section
open Go.RowKit
theorem info9 : (Tryz.prog.info? 9).map (fun i => (i.zero, i.size, i.bytes)) = some (some (.string ByteArray.empty), 1, 16) := by kernel_rfl
/-- A string cut into pieces of W letters. -/
def rowsOf (s : ByteArray) (W : Nat) (q : Nat) : List ByteArray := (List.range q).map fun i => s.extract (i * W) (i * W + W)
theorem rowsOf_succ (s : ByteArray) (W q : Nat) : rowsOf s W (q + 1) = rowsOf s W q ++ [s.extract (q * W) (q * W + W)] := by simp [rowsOf, List.range_succ]
theorem rowsOf_len (s : ByteArray) (W q : Nat) : (rowsOf s W q).length = q := by simp [rowsOf]
set_option maxRecDepth 100000 in
theorem cut_any (s : ByteArray) (W H : Nat) (w : World) (hs : s.size = W * H) (hW : 1 ≤ W) (hs2 : s.size ≤ 2500) :
    Calls Tryz.prog 101 #[.string s, .int .i64 W] w fun e w' => ∃ v, e = .returned v ∧ w'.ownsRow w.heap.size 9 1 v H ((rowsOf s W H).map Value.string) ∧ Below w.heap.size w w' := by
  obtain ⟨i0, hi, hz0, hz1', hz2'⟩ := info_parts info9
  have hHs : H ≤ 2500 := by have := Nat.le_mul_of_pos_left H (show 0 < W by omega); omega
  have HS := Lib.hid hs; clear hs
  go_enter Tryz.func101, Tryz.ntmps101
  go_wp2
  go_loopg [0, 5] H (fun g t v wr => ∃ (k : Nat) (r : ByteArray) (v0 : Value), g = H - k ∧ k ≤ H ∧ t = .string r ∧ v = v0 ∧ r = s.extract (k * W) s.size ∧ wr.ownsRow w.heap.size 9 1 v0 k ((rowsOf s W k).map Value.string) ∧ Below w.heap.size w wr)
  case atStart => exact ⟨0, s, _, rfl, Nat.zero_le _, rfl, rfl, by simp, World.ownsRow_nil _ _ _ _, Below.refl _ _⟩
  case round =>
    obtain ⟨k, r, v, hg, hk, rfl, rfl, hr, hown, hB⟩ := hrel
    obtain ⟨va, vc, rfl⟩ := own_slice hown
    have HG := Lib.hid hg; clear hg
    have hrs : r.size = (H - k) * W := by rw [hr, ByteArray.size_extract, HS.out, Nat.mul_comm W H, Nat.sub_mul]; omega
    by_cases hlt : k < H
    · have hge : W ≤ r.size := by rw [hrs]; exact Nat.le_mul_of_pos_left W (by omega)
      have hpos : (0 : Int) < r.size := by omega
      have hkW : k * W + W ≤ s.size := by
        have := Nat.mul_le_mul_right W (show k + 1 ≤ H by omega)
        rw [HS.out, Nat.mul_comm W H]; rw [Nat.add_mul, Nat.one_mul] at this; exact this
      have hx1 : r.extract 0 W = s.extract (k * W) (k * W + W) := by
        rw [hr, ByteArray.extract_extract]; congr 1; omega
      have hx2 : r.extract W r.size = s.extract ((k + 1) * W) s.size := by
        have e : r.size = s.size - k * W := by rw [hr, ByteArray.size_extract]; omega
        rw [e, hr, ByteArray.extract_extract, Nat.add_mul, Nat.one_mul]; congr 1; omega
      have HX1 := Lib.hid hx1; have HX2 := Lib.hid hx2; have HRS := Lib.hid hrs; have HR := Lib.hid hr; clear hx1 hx2 hrs hr
      go_wp2_with (first
        | (at_builtin; refine wpList_append_any _ rfl _ _ 24 rfl w.heap.size 9 i0 (.string ByteArray.empty) 1 16 Tryz.underlying24 hi hz0 hz1' hz2' rfl (by decide) (.slice va k vc) k ((rowsOf s W k).map Value.string) rfl (hown.alloc _) (wr.heap.size + 1) (some ⟨wr.heap.size, 0, none⟩) 1 1 [.string (r.extract 0 W)] rfl (Rd.blkN (Blk.new _ _ _) rfl (Nat.lt_succ_self _)).reads (by simp [Value.oneCell']) (by unfold maxLen; omega) (by omega) (by have := hB.size; simp only [World.size_alloc]; omega) (fun v' w' hown' hgrow hob => ?_))
        | go_in)
      go_roundg (H - (k + 1))
      case measure => rw [HG.out]; omega
      case rel => exact ⟨k + 1, _, _, rfl, by omega, rfl, rfl, HX2.out, by rw [rowsOf_succ, List.map_append, ← HX1.out]; exact hown', (hB.alloc hB.size _).grown hgrow (by have := hB.size; simp only [World.size_alloc]; omega) (fun g hg => (hown.lt g hg).1)⟩
    · obtain rfl : k = H := by omega
      have hr0 : r.size = 0 := by rw [hrs]; simp
      have hr0i : ¬ (0 : Int) < r.size := by omega
      clear hrs hr
      go_wp2
      go_ret
      exact ⟨_, rfl, hown, hB⟩
end
section
open Go.RowKit
def shadowRows (W H F L X Y N PX PY : Int) (rows : List ByteArray) : List ByteArray := if viewB W H F L X Y N PX PY rows then rowsOf (shS W H F L X Y N PX PY rows) W.toNat H.toNat else []
def errV (b : Bool) : Value := .int .i64 (if b then 0 else 2)
def ShadowPost (w : World) (b : Bool) (rs : List ByteArray) (e : Ending) (w' : World) : Prop := ∃ v, e = .returned (.tuple #[v, errV b]) ∧ w'.ownsRow w.heap.size 9 1 v rs.length (rs.map Value.string) ∧ Below w.heap.size w w'
set_option maxRecDepth 100000 in
set_option maxHeartbeats 1600000 in
theorem Shadow_any (W H F L X Y N PX PY : Int) (A : Option Addr) (n cap : Nat) (rows : List ByteArray) (w : World) (hcap : n ≤ cap) (hcm : cap ≤ maxLen) (hs : ∀ r ∈ rows, r.size ≤ maxLen) (hr : Rd w w.heap.size 1 A n (rows.map Value.string)) :
    Calls Tryz.prog 29 #[.agg #[.int .i64 W, .int .i64 H, .int .i64 F, .int .i64 L, .int .i64 X, .int .i64 Y], .agg #[.slice A n cap], .agg #[.int .i64 N, .int .i64 PX, .int .i64 PY]] w (ShadowPost w (viewB W H F L X Y N PX PY rows) (shadowRows W H F L X Y N PX PY rows)) := by
  have hn : n ≤ maxLen := Nat.le_trans hcap hcm
  unfold shadowRows
  cases hv : viewB W H F L X Y N PX PY rows
  · go_enter Tryz.func29, Tryz.ntmps29
    go_wp2_with (first | (go_at_call 100; refine (viewGood_any W H F L X Y N PX PY A n cap rows _ hn hs (rd4 hr _ _ _ _)).mono ?_; rintro e w1 ⟨rfl, hb1⟩; rw [hv]; have hB1 : Below w.heap.size w w1 := (pro4 w _ _ _ _).trans (hb1.mono (by simp only [World.size_alloc]; omega)); have hbv1 := (blk4 w _ _ _ 140 #[.int .i64 W, .int .i64 H, .int .i64 F, .int .i64 L, .int .i64 X, .int .i64 Y, .slice A n cap, .int .i64 N, .int .i64 PX, .int .i64 PY]).below hb1 (by simp only [World.size_alloc]; omega); have hcv1 := fun i => hbv1.cell i; have hlt1 := hbv1.lt; have hbs1 := (blk1 w _ _ _ 23 #[.int .i64 W, .int .i64 H, .int .i64 F, .int .i64 L, .int .i64 X, .int .i64 Y]).below hb1 (by simp only [World.size_alloc]; omega); have hcs1 := fun i => hbs1.cell i; have hlts1 := hbs1.lt))
    go_ret2
    exact ⟨_, rfl, World.ownsRow_nil _ _ _ _, hB1⟩
  · have hv2 := hv
    simp only [viewB, Bool.and_eq_true] at hv2
    obtain ⟨hv3, hv4, hv5⟩ := hv2
    obtain ⟨⟨a1, a2⟩, ⟨a3, a4⟩, ⟨a5, a6⟩, ⟨a7, a8⟩, ⟨a9, a10⟩, a11, a12⟩ := stageB_nums hv3
    obtain ⟨⟨b1, b2⟩, b3, b4, b5⟩ := figB_nums hv4
    obtain ⟨⟨c1, c2⟩, ⟨c3, c4⟩, c5, c6⟩ := placeB_nums hv5
    clear hv3 hv4 hv5
    have hsz := shS_le F L X Y N PX PY rows (show W ≤ 50 by omega) (show H ≤ 50 by omega)
    have hshsz := shS_size W H F L X Y N PX PY rows
    obtain ⟨sh, hsh⟩ : ∃ sh, sh = shS W H F L X Y N PX PY rows := ⟨_, rfl⟩
    rw [← hsh] at hsz hshsz ⊢
    have HSH := Lib.hid hsh; clear hsh
    have hcut0 : ∀ wq, Calls Tryz.prog 101 #[.string sh, .int .i64 W] wq fun e w' => ∃ v, e = .returned v ∧ w'.ownsRow wq.heap.size 9 1 v H.toNat ((rowsOf sh W.toNat H.toNat).map Value.string) ∧ Below wq.heap.size wq w' := fun wq => by
      have h := cut_any sh W.toNat H.toNat wq hshsz (by omega) (by omega)
      rwa [show ((W.toNat : Nat) : Int) = W by omega] at h
    have hcut := Lib.hid hcut0; clear hcut0
    go_enter Tryz.func29, Tryz.ntmps29
    go_wp2_with (first | (go_at_call 100; refine (viewGood_any W H F L X Y N PX PY A n cap rows _ hn hs (rd4 hr _ _ _ _)).mono ?_; rintro e w1 ⟨rfl, hb1⟩; rw [hv]; have hB1 : Below w.heap.size w w1 := (pro4 w _ _ _ _).trans (hb1.mono (by simp only [World.size_alloc]; omega)); have hbv1 := (blk4 w _ _ _ 140 #[.int .i64 W, .int .i64 H, .int .i64 F, .int .i64 L, .int .i64 X, .int .i64 Y, .slice A n cap, .int .i64 N, .int .i64 PX, .int .i64 PY]).below hb1 (by simp only [World.size_alloc]; omega); have hcv1 := fun i => hbv1.cell i; have hlt1 := hbv1.lt; have hbs1 := (blk1 w _ _ _ 23 #[.int .i64 W, .int .i64 H, .int .i64 F, .int .i64 L, .int .i64 X, .int .i64 Y]).below hb1 (by simp only [World.size_alloc]; omega); have hcs1 := fun i => hbs1.cell i; have hlts1 := hbs1.lt))
    clear hcv1 hcs1
    refine wp_region_G (fun w' => Blk w' (w.heap.size + 1 + 1 + 1) 140 #[.int .i64 W, .int .i64 H, .int .i64 F, .int .i64 L, .int .i64 X, .int .i64 Y, .slice A n cap, .int .i64 N, .int .i64 PX, .int .i64 PY] ∧ Blk w' w.heap.size 23 #[.int .i64 W, .int .i64 H, .int .i64 F, .int .i64 L, .int .i64 X, .int .i64 Y]) 6 (by kernel_rfl) ?_
    have hTT := And.intro hbv1 hbs1
    refine wpG_take (i := 0) (v := ?v0) rfl (by kernel_rfl) (by kernel_rfl) (by kernel_rfl) (by kernel_rfl) (fun _ _ _ h => h) (Or.inl ⟨by rfl, ?hy0⟩) hTT ?rest0
    case hy0 => intro wq hSw; have hq1 := fun i => hSw.1.cell i; have hq2 := fun i => hSw.2.cell i; go_simp <;> with_reducible rfl
    simp only [List.getElem_toArray, List.getElem_cons_zero, List.getElem_cons_succ, Act.put, List.setIfInBounds_toArray, List.set_cons_zero, List.set_cons_succ]
    refine wpG_take (i := 2) (v := ?v2) rfl (by kernel_rfl) (by kernel_rfl) (by kernel_rfl) (by kernel_rfl) (fun _ _ _ h => h) (Or.inl ⟨by rfl, ?hy2⟩) hTT ?rest2
    case hy2 => intro wq hSw; have hq1 := fun i => hSw.1.cell i; have hq2 := fun i => hSw.2.cell i; go_simp <;> with_reducible rfl
    simp only [List.getElem_toArray, List.getElem_cons_zero, List.getElem_cons_succ, Act.put, List.setIfInBounds_toArray, List.set_cons_zero, List.set_cons_succ]
    refine wpG_take (i := 3) (v := ?v3) rfl (by kernel_rfl) (by kernel_rfl) (by kernel_rfl) (by kernel_rfl) (fun _ _ _ h => h) (Or.inl ⟨by rfl, ?hy3⟩) hTT ?rest3
    case hy3 => intro wq hSw; have hq1 := fun i => hSw.1.cell i; have hq2 := fun i => hSw.2.cell i; go_simp <;> with_reducible rfl
    simp only [List.getElem_toArray, List.getElem_cons_zero, List.getElem_cons_succ, Act.put, List.setIfInBounds_toArray, List.set_cons_zero, List.set_cons_succ]
    refine wpG_one (i := 1) rfl (by kernel_rfl) (fun K hK => ?_)
    go_simp
    refine (shadow_int W H F L X Y N PX PY A n cap rows _ hcap hcm (by exact (hr.below hB1).more hB1.size) hv).mono ?_; rintro e w2 ⟨rfl, hb2⟩; rw [← HSH.out]
    have hbv2 := Blk.below (w := w1.drew) hbv1 hb2 hlt1; have hbs2 := Blk.below (w := w1.drew) hbs1 hb2 hlts1; have hB2 : Below w.heap.size w w2 := Below.trans (b := w1.drew) hB1.drew (hb2.mono hB1.size); clear hTT; have hTT := And.intro hbv2 hbs2; dsimp only
    refine hK _ _ (.inr hTT) ?_
    clear hK K
    try simp only [List.getElem_toArray, List.getElem_cons_zero, List.getElem_cons_succ, Act.put, List.setIfInBounds_toArray, List.set_cons_zero, List.set_cons_succ]
    refine wpG_one (i := 4) rfl (by kernel_rfl) (fun K hK => ?_)
    go_simp
    refine (hcut.out _).mono ?_; rintro e w3 ⟨v, rfl, hown, hb3⟩
    have hbv3 := hbv2.below hb3 hbv2.lt; have hbs3 := hbs2.below hb3 hbs2.lt; have hB3 := hB2.trans (hb3.mono hB2.size); clear hTT; have hTT := And.intro hbv3 hbs3; dsimp only
    refine hK _ _ (.inr hTT) ?_
    clear hK K
    try simp only [List.getElem_toArray, List.getElem_cons_zero, List.getElem_cons_succ, Act.put, List.setIfInBounds_toArray, List.set_cons_zero, List.set_cons_succ]
    refine wpG_take (i := 5) (v := ?v5) rfl (by kernel_rfl) (by kernel_rfl) (by kernel_rfl) (by kernel_rfl) (fun _ _ _ h => h) (Or.inl ⟨by rfl, ?hy5⟩) hTT ?rest5
    case hy5 => intro wq hSw; have hq1 := fun i => hSw.1.cell i; have hq2 := fun i => hSw.2.cell i; go_simp <;> with_reducible rfl
    simp only [List.getElem_toArray, List.getElem_cons_zero, List.getElem_cons_succ, Act.put, List.setIfInBounds_toArray, List.set_cons_zero, List.set_cons_succ]
    refine wpG_one (i := 6) rfl (by kernel_rfl) (fun K hK => ?_)
    go_simp
    refine hK _ _ (.inl rfl) ?_
    clear hK K
    try simp only [List.getElem_toArray, List.getElem_cons_zero, List.getElem_cons_succ, Act.put, List.setIfInBounds_toArray, List.set_cons_zero, List.set_cons_succ]
    refine wpG_done (by kernel_rfl) ?_ _
    go_wp2_with (fail)
    go_ret2
    exact ⟨v, rfl, by rw [rowsOf_len]; exact own_mono hown hB2.size, hB3⟩
end
section
open Go.RowKit
theorem ascii4 : asciiL [35, 43, 46, 63] := by intro z hz; simp at hz; omega
def sightRow (W : Int) (r : ByteArray) : Bool := decide ((r.size : Int) = W) && onlyB r [35, 43, 46, 63]
/-- A sight is as defined for a stage. -/
def sightB (W H : Int) (rs : List ByteArray) : Bool := decide ((rs.length : Int) = H) && rs.all (sightRow W)
set_option maxRecDepth 100000 in
theorem goodSight_any (W H F L X Y : Int) (A : Option Addr) (n cap : Nat) (rs : List ByteArray) (w : World) (hn : n ≤ maxLen) (hs : ∀ r ∈ rs, r.size ≤ maxLen) (hr : Rd w w.heap.size 1 A n (rs.map Value.string)) :
    Calls Tryz.prog 113 #[.agg #[.int .i64 W, .int .i64 H, .int .i64 F, .int .i64 L, .int .i64 X, .int .i64 Y], .slice A n cap] w fun e w' => e = .returned (.bool (sightB W H rs)) ∧ Below w.heap.size w w' := by
  have hlen := hr.len
  unfold maxLen at hn
  have hsb : sightB W H rs = (decide ((n : Int) = H) && rs.all (sightRow W)) := by rw [sightB, hlen]
  have HF := Lib.hid hsb; clear hsb
  have HL := Lib.hid hlen; clear hlen
  by_cases h1 : (n : Int) = H
  · have HH := Lib.hid h1; clear h1
    have hne : ((n : Int) != H) = false := by have := HH.out; simp; omega
    go_enter Tryz.func113, Tryz.ntmps113
    go_wp2
    have hbs := Blk.new w 23 #[.int .i64 W, .int .i64 H, .int .i64 F, .int .i64 L, .int .i64 X, .int .i64 Y]
    have hB := (Below.refl w.heap.size w).alloc (Nat.le_refl _) (.cells #[.int .i64 W, .int .i64 H, .int .i64 F, .int .i64 L, .int .i64 X, .int .i64 Y] 23)
    go_loopg [14] n (fun g i wr => ∃ k : Nat, g = n - k ∧ k ≤ n ∧ i = .int .i64 k ∧ (rs.take k).all (sightRow W) = true ∧ Below w.heap.size w wr ∧ Blk wr w.heap.size 23 #[.int .i64 W, .int .i64 H, .int .i64 F, .int .i64 L, .int .i64 X, .int .i64 Y])
    case atStart => exact ⟨0, rfl, Nat.zero_le _, rfl, rfl, hB, hbs⟩
    case round =>
      clear hB hbs
      obtain ⟨k, hg, hk, rfl, hall, hB, hbs⟩ := hrel
      have HG := Lib.hid hg; clear hg
      have HALL := Lib.hid hall; clear hall
      have hcs := fun i => hbs.cell i
      have hls := hbs.lt
      by_cases hlt : k < n
      · obtain ⟨b, off, hzk, rfl, hb, hc⟩ := (hr.below hB).atm hlt
        have ha := all_take (sightRow W) rs k hzk
        have hstop := all_stop (sightRow W) rs k hzk
        have hsk := hs _ (List.getElem_mem hzk)
        generalize rs[k] = r at *
        have HA := Lib.hid ha; have HST := Lib.hid hstop; have HSK := Lib.hid hsk; clear ha hstop hsk
        by_cases hq : (r.size : Int) = W
        · have hqq : ((r.size : Int) != W) = false := by simp; omega
          have hw : decide ((r.size : Int) = W) = true := by simpa using hq
          have HW := Lib.hid hw; clear hw hq
          cases ho : onlyB r [35, 43, 46, 63]
          · have hrf : sightRow W r = false := by simp [sightRow, ho]
            have HRF := Lib.hid hrf; clear hrf
            go_wp2_with (go_at_call 146; refine (only_rd r _ 4 4 [35, 43, 46, 63] _ HSK.out ascii4 (by decide) (by decide) (Rd.blk (Blk.new _ _ _) rfl (by simp))).mono ?_; rintro e w1 ⟨rfl, hb1⟩; rw [ho])
            go_ret
            exact ⟨ret_bool (by rw [HF.out, HST.out HRF.out]; simp), (hB.alloc hB.size _).trans (hb1.mono (by have := hB.size; simp; omega))⟩
          · have hrt : sightRow W r = true := by rw [sightRow, HW.out, ho]; rfl
            have HRT := Lib.hid hrt; clear hrt
            go_wp2_with (go_at_call 146; refine (only_rd r _ 4 4 [35, 43, 46, 63] _ HSK.out ascii4 (by decide) (by decide) (Rd.blk (Blk.new _ _ _) rfl (by simp))).mono ?_; rintro e w1 ⟨rfl, hb1⟩; rw [ho])
            go_roundg (n - (k + 1))
            case measure => rw [HG.out]; omega
            case rel => exact ⟨k + 1, rfl, by omega, by go_num, by rw [HA.out, HALL.out, HRT.out]; rfl, (hB.alloc hB.size _).trans (hb1.mono (by have := hB.size; simp; omega)), (hbs.alloc _).below hb1 (hbs.alloc _).lt⟩
        · have hqq : ((r.size : Int) != W) = true := by simp; omega
          have hrf : sightRow W r = false := by simp [sightRow]; intro h; omega
          have HRF := Lib.hid hrf; clear hrf
          go_wp2
          go_ret
          exact ⟨ret_bool (by rw [HF.out, HST.out HRF.out]; simp), hB⟩
      · have hta : rs.take k = rs := List.take_of_length_le (by have := HL.out; omega)
        rw [hta] at HALL
        go_wp2
        go_ret
        exact ⟨ret_bool (by rw [HF.out, HALL.out, decide_eq_true HH.out]; rfl), hB⟩
  · have hne : ((n : Int) != H) = true := by simp; omega
    go_enter Tryz.func113, Tryz.ntmps113
    go_wp2
    go_ret
    exact ⟨ret_bool (by rw [HF.out, decide_eq_false h1]; rfl), (Below.refl _ _).alloc (Nat.le_refl _) _⟩
end
section
open Go.RowKit
/-- A reading with its shadow. -/
structure Sh where
  f : Int
  n : Int
  x : Int
  y : Int
  s : ByteArray
def shC (h : Sh) : List Value := [.int .i64 h.f, .int .i64 h.n, .int .i64 h.x, .int .i64 h.y, .string h.s]
theorem flat5_len : ∀ l : List Sh, (l.flatMap shC).length = l.length * 5
  | [] => rfl
  | h :: l => by rw [List.flatMap_cons, List.length_append, flat5_len l]; simp [shC]; omega
theorem flat5 : ∀ (l : List Sh) (k j : Nat) (hk : k < l.length), j < 5 → (l.flatMap shC)[k * 5 + j]? = (shC l[k])[j]?
  | [], k, j, hk, _ => by simp at hk
  | h :: l, 0, j, _, hj => by
    rw [List.flatMap_cons, List.getElem?_append_left (by simp [shC]; omega)]; simp
  | h :: l, k + 1, j, hk, hj => by
    rw [List.flatMap_cons, List.getElem?_append_right (by simp [shC]; omega)]
    have e : (k + 1) * 5 + j - (shC h).length = k * 5 + j := by simp [shC]; omega
    rw [e]
    exact flat5 l k j (by simpa using hk) hj
theorem Rd.at5 {w : World} {B : Nat} {A : Option Addr} {n k : Nat} {l : List Sh} (h : Rd w B 5 A n (l.flatMap shC)) (hk : k < n) :
    ∃ b off, ∃ hz : k < l.length, A = some ⟨b, off, none⟩ ∧ b < B ∧ w.cell? ⟨b, off + k * 5, none⟩ = some (.int .i64 l[k].f) ∧ w.cell? ⟨b, off + k * 5 + 1, none⟩ = some (.int .i64 l[k].n) ∧ w.cell? ⟨b, off + k * 5 + 2, none⟩ = some (.int .i64 l[k].x) ∧ w.cell? ⟨b, off + k * 5 + 3, none⟩ = some (.int .i64 l[k].y) ∧ w.cell? ⟨b, off + k * 5 + 4, none⟩ = some (.string l[k].s) := by
  have hl : k < l.length := by have := h.1; rw [flat5_len] at this; omega
  obtain ⟨b, off, e, hb, hc⟩ := h.2 (by omega)
  exact ⟨b, off, hl, e, hb, hc (k * 5 + 0) _ (flat5 l k 0 hl (by omega)), hc (k * 5 + 1) _ (flat5 l k 1 hl (by omega)), hc (k * 5 + 2) _ (flat5 l k 2 hl (by omega)), hc (k * 5 + 3) _ (flat5 l k 3 hl (by omega)), hc (k * 5 + 4) _ (flat5 l k 4 hl (by omega))⟩
theorem Rd.len5 {w : World} {B : Nat} {A : Option Addr} {n : Nat} {l : List Sh} (h : Rd w B 5 A n (l.flatMap shC)) : l.length = n := by have := h.1; rw [flat5_len] at this; omega
theorem info156 : (Tryz.prog.info? 156).map (fun i => (i.zero, i.size, i.bytes)) = some (some (.agg #[.int .i64 0, .int .i64 0, .int .i64 0, .int .i64 0, .string ByteArray.empty]), 5, 48) := by kernel_rfl
theorem filter_take {α : Type} (p : α → Bool) (l : List α) (k : Nat) (h : k < l.length) : (l.take (k + 1)).filter p = (l.take k).filter p ++ (if p l[k] then [l[k]] else []) := by
  rw [List.take_succ_eq_append_getElem h, List.filter_append]; cases hp : p l[k] <;> simp [hp]
end
section
open Go.RowKit
set_option maxRecDepth 100000 in
theorem shadesOf_any (A : Option Addr) (n cap : Nat) (l : List Sh) (fig : Int) (w : World) (hn : n ≤ 100000) (hr : Rd w w.heap.size 5 A n (l.flatMap shC)) :
    Calls Tryz.prog 166 #[.slice A n cap, .int .i64 fig] w fun e w' => ∃ v, e = .returned v ∧ w'.ownsRow w.heap.size 156 5 v (l.filter fun h => h.f == fig).length ((l.filter fun h => h.f == fig).flatMap shC) ∧ Below w.heap.size w w' := by
  obtain ⟨i0, hi, hz0, hz1', hz2'⟩ := info_parts info156
  have hlen := hr.len5
  go_enter Tryz.func166, Tryz.ntmps166
  go_wp2
  go_loopg [5, 10] n (fun g u i wr => ∃ (k : Nat) (m : Nat) (v0 : Value), g = n - k ∧ k ≤ n ∧ i = .int .i64 k ∧ u = v0 ∧ m = ((l.take k).filter fun h => h.f == fig).length ∧ wr.ownsRow w.heap.size 156 5 v0 m (((l.take k).filter fun h => h.f == fig).flatMap shC) ∧ Below w.heap.size w wr)
  case atStart => exact ⟨0, 0, _, rfl, Nat.zero_le _, rfl, rfl, rfl, World.ownsRow_nil _ _ _ _, Below.refl _ _⟩
  case round =>
    obtain ⟨k, m, v, hg, hk, rfl, rfl, hm, hown, hB⟩ := hrel
    obtain ⟨va, vc, rfl⟩ := own_slice hown
    have HG := Lib.hid hg; clear hg
    have hm2 : m ≤ 100000 := by have h1 := List.length_filter_le (fun h : Sh => h.f == fig) (l.take k); have h2 := List.length_take_le k l; omega
    have HM := Lib.hid hm; clear hm
    have HLEN := Lib.hid hlen; clear hlen
    by_cases hlt : k < n
    · obtain ⟨b, off, hz, rfl, hb, c0, c1, c2, c3, c4⟩ := (hr.below hB).at5 hlt
      have hft := filter_take (fun h : Sh => h.f == fig) l k hz
      generalize l[k] = h at *
      obtain ⟨f, hn0, x, y, s⟩ := h
      have HFT := Lib.hid hft; clear hft
      dsimp only at c0 c1 c2 c3 c4
      cases hq : (f == fig)
      · go_wp2
        go_roundg (n - (k + 1))
        case measure => rw [HG.out]; omega
        case rel => exact ⟨k + 1, m, _, rfl, by omega, by go_num, rfl, by rw [HFT.out, HM.out]; simp [hq], by rw [HFT.out]; simpa [hq] using hown.alloc _, hB.alloc hB.size _⟩
      · go_wp2_with (first
          | (at_builtin; refine wpList_append_any _ rfl _ _ 151 rfl w.heap.size 156 i0 (.agg #[.int .i64 0, .int .i64 0, .int .i64 0, .int .i64 0, .string ByteArray.empty]) 5 48 Tryz.underlying151 hi hz0 hz1' hz2' rfl (by decide) (.slice va m vc) m (((l.take k).filter fun h => h.f == fig).flatMap shC) rfl ((hown.alloc _).alloc _) (wr.heap.size + 1 + 1) (some ⟨wr.heap.size + 1, 0, none⟩) 1 1 (shC ⟨f, hn0, x, y, s⟩) rfl (Rd.blkN (blk2 wr _ 156 #[.int .i64 f, .int .i64 hn0, .int .i64 x, .int .i64 y, .string s]) rfl (Nat.lt_succ_self _)).reads (by simp [shC, Value.oneCell']) (by unfold maxLen; omega) (by omega) (by have := hB.size; simp only [World.size_alloc]; omega) (fun v' w' hown' hgrow hob => ?_))
          | go_in)
        go_roundg (n - (k + 1))
        case measure => rw [HG.out]; omega
        case rel => exact ⟨k + 1, m + 1, _, rfl, by omega, by go_num, rfl, by rw [HFT.out, HM.out]; simp [hq], by rw [HFT.out]; simpa [hq] using hown', ((hB.alloc hB.size _).alloc (by have := hB.size; simp only [World.size_alloc]; omega) _).grown hgrow (by have := hB.size; simp only [World.size_alloc]; omega) (fun g hg => (hown.lt g hg).1)⟩
    · have hta : l.take k = l := List.take_of_length_le (by have := HLEN.out; omega)
      rw [hta] at hown HM
      go_wp2
      go_ret
      exact ⟨_, rfl, by rw [← HM.out]; exact hown, hB⟩
end
section
open Go.RowKit Go.Maps
theorem plainElem_bool_inv {H : Type} {P : Program} {e : TypeId} (he : P.underlying e = some .bool) {v : Value} {z : DataW H × List MemPlace} (h : plainElem P e v = some z) : ∃ x, v = .bool x ∧ z = (.lit (.bool x), []) := by
  unfold plainElem at h
  rw [he] at h
  cases v <;> simp at h
  exact ⟨_, rfl, h.symm⟩
/-- A look-up in a map whose elements are bools. -/
theorem wpList_lookup_own_bool {H : Type} {P : Program} (w : World) {ops : Array Oper} {rest : List Oper} {o : Oper} {a : Act} {Q : Exit → Act → World → Prop}
    (hg : o.guard = none) (m x : Operand) (t : TypeId) (hop : o.op = Op.lookup t m x false)
    (k e : TypeId) (K : Keyed P k) (ht : P.underlying t = some (.map k e)) (he : P.underlying e = some .bool) (hz : (zeroValue e).run P w = .ok (.bool false) w) (b n : Nat) (D : DataW H)
    (hm : a.eval m = .map (some b)) (hown : w.ownsMap P k (plainElem P e) b n D) (key : Value) (kl : Lit) (hx : a.eval x = key) (hkey : keyOf P k key = some kl) (c : Bool) (hat : D.atKey kl (.lit (.bool false)) = .lit (.bool c))
    (hK : wpList P ops Q rest (a.put o.dst (.bool c)) w) : wpList P ops Q (o :: rest) a w := by
  refine wpList_plain hg fun K' hK' => ?_
  obtain ⟨v, ps, hrun, hv⟩ := hown.lookup K ht hz (plainElem_bool he false) hkey
  obtain ⟨c', rfl, hc⟩ := plainElem_bool_inv he hv
  rw [hat] at hc
  simp only [Prod.mk.injEq] at hc
  have : c = c' := by simpa using hc.1
  subst this
  unfold Oper.wp
  simp [execOp, hop, hm, hx, hrun, Result.andThen]
  exact hK' _ _ hK
/-- A set of numbers, as a map to true. -/
def iset (fs : List Int) : DataW Unit := setOf (.lit (.bool true)) (fs.map fun f => Lit.int .i64 f)
theorem iset_keys (fs : List Int) : ∀ x ∈ fs.map (fun f => Lit.int .i64 f), WideAt.IsKeyLit x := by
  intro x hx
  obtain ⟨f, _, rfl⟩ := List.mem_map.1 hx
  trivial
theorem iset_snoc (fs : List Int) (f : Int) : iset (fs ++ [f]) = (iset fs).put (.int .i64 f) (.lit (.bool true)) := by
  rw [iset, List.map_append, List.map_cons, List.map_nil, setOf_snoc]; rfl
theorem sameInt (a b : Int) : (Lit.int .i64 a).sameKey (Lit.int .i64 b) = (a == b) := by
  by_cases h : a = b <;> simp [Lit.sameKey, h]
theorem any_same (fs : List Int) (f : Int) : (fs.map (fun f => Lit.int .i64 f)).any (fun x => x.sameKey (.int .i64 f)) = fs.contains f := by
  induction fs with
  | nil => rfl
  | cons x l ih =>
    simp only [List.map_cons, List.any_cons, ih, sameInt, List.contains_cons]
    congr 1
    by_cases h : x = f
    · subst h; rfl
    · have h' : ¬ f = x := fun e => h e.symm
      rw [beq_false_of_ne h, beq_false_of_ne h']
/-- The numbers of a list, each once. -/
def uniq (fs : List Int) : List Int := fs.foldl (fun L x => if L.contains x then L else L ++ [x]) []
theorem addKey_map (xs L : List Int) : (xs.map (fun f => Lit.int .i64 f)).foldl addKey (L.map fun f => Lit.int .i64 f) = (xs.foldl (fun L x => if L.contains x then L else L ++ [x]) L).map fun f => Lit.int .i64 f := by
  induction xs generalizing L with
  | nil => rfl
  | cons x l ih =>
    rw [List.map_cons, List.foldl_cons, List.foldl_cons, ← ih]
    congr 1
    rw [addKey, any_same]
    split <;> simp
theorem iset_size (fs : List Int) : Maps.size (iset fs) = (uniq fs).length := by
  rw [iset, size_setOf _ _ (iset_keys fs)]
  have := addKey_map fs []
  rw [List.map_nil] at this
  rw [this, List.length_map]; rfl
theorem iset_at (fs : List Int) (f : Int) : (iset fs).atKey (.int .i64 f) (.lit (.bool false)) = .lit (.bool (fs.contains f)) := by
  obtain ⟨n, hn⟩ : ∃ n, n = fs.length := ⟨_, rfl⟩
  induction n generalizing fs with
  | zero => obtain rfl : fs = [] := List.eq_nil_of_length_eq_zero hn.symm; rfl
  | succ n ih =>
    obtain ⟨l, x, rfl⟩ : ∃ l x, fs = l ++ [x] := by
      rcases List.eq_nil_or_concat fs with rfl | ⟨l, x, rfl⟩
      · simp at hn
      · exact ⟨l, x, by simp⟩
    rw [iset_snoc]
    by_cases h : f = x
    · subst h
      rw [atKey_put_same (k := .int .i64 f) (show IsMap (iset l) from (tidy_setOf _ _ (iset_keys l)).isMap) (by trivial)]
      simp
    · rw [atKey_put_other (by intro e; injection e with _ e; exact h e), ih l (by simp at hn; omega)]
      simp [h]
end
section
open Go.RowKit Go.Maps
theorem zero4 (w : World) : (zeroValue 4).run Tryz.prog w = .ok (.bool false) w := by kernel_rfl
/-- What a map of figures is, in block b: the figures of the shades, each to true. -/
abbrev FMap (w : World) (b n : Nat) (fs : List Int) : Prop := w.ownsMap Tryz.prog 3 (plainElem Tryz.prog 4) b n (iset fs)
set_option maxRecDepth 100000 in
theorem figures_any (A : Option Addr) (n cap : Nat) (l : List Sh) (w : World) (hn : n ≤ 100000) (hwf : ∀ h ∈ l, (Lit.int .i64 h.f).wf = true) (hr : Rd w w.heap.size 5 A n (l.flatMap shC)) :
    Calls Tryz.prog 117 #[.slice A n cap] w fun e w' => e = .returned (.map (some w.heap.size)) ∧ FMap w' w.heap.size n (l.map Sh.f) ∧ Below w.heap.size w w' := by
  have hlen := hr.len5
  have hmm := @run_makeMap Tryz.prog
  go_enter Tryz.func117, Tryz.ntmps117
  go_wp2
  go_loopg [9] n (fun g i wr => ∃ k : Nat, g = n - k ∧ k ≤ n ∧ i = .int .i64 k ∧ FMap wr w.heap.size k ((l.take k).map Sh.f) ∧ Below w.heap.size w wr)
  case atStart => exact ⟨0, rfl, Nat.zero_le _, rfl, World.ownsMap_made _ _ _ _, (Below.refl _ _).alloc (Nat.le_refl _) _⟩
  case round =>
    obtain ⟨k, hg, hk, rfl, hown, hB⟩ := hrel
    have HG := Lib.hid hg; clear hg
    have HLEN := Lib.hid hlen; clear hlen
    by_cases hlt : k < n
    · obtain ⟨b, off, hz, rfl, hb, c0, c1, c2, c3, c4⟩ := (hr.below hB).at5 hlt
      have htk : (l.take (k + 1)).map Sh.f = (l.take k).map Sh.f ++ [l[k].f] := by rw [List.take_succ_eq_append_getElem hz, List.map_append]; rfl
      have hwk := hwf _ (List.getElem_mem hz)
      generalize l[k] = h at *
      obtain ⟨f, hn0, x, y, s⟩ := h
      have HTK := Lib.hid htk; clear htk
      dsimp only at c0 c1 c2 c3 c4 hwk
      go_wp2_with (first
        | (at_mapUpdate; refine wpList_mapUpdate_own _ rfl _ _ _ 157 rfl 3 4 (int_keyed Tryz.underlying3) Tryz.underlying157 _ w.heap.size k _ rfl (hown.alloc _) (by unfold maxLen; omega) _ _ _ rfl rfl (keyOf_int_mk Tryz.underlying3 hwk) _ [] (plainElem_bool Tryz.underlying4 true) ?_; intro w1 hown1 hgrow1)
        | go_in)
      go_roundg (n - (k + 1))
      case measure => rw [HG.out]; omega
      case rel => exact ⟨k + 1, rfl, by omega, by go_num, by unfold FMap; rw [HTK.out, iset_snoc]; exact hown1, (hB.alloc hB.size _).grown hgrow1 (by have := hB.size; simp only [World.size_alloc]; omega) (fun g hg => by cases hg; exact Nat.le_refl _)⟩
    · obtain rfl : k = n := by omega
      have hta : l.take k = l := List.take_of_length_le (by have := HLEN.out; omega)
      rw [hta] at hown
      go_wp2
      go_ret
      exact ⟨rfl, hown, hB⟩
end
end Go.Proofs.YtifddfchpknkbaaGreatDoor
