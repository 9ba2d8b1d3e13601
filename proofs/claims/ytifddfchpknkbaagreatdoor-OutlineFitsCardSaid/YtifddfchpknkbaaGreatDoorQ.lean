import Derived.Test.YtifddfchpknkbaaGreatDoorP
set_option linter.unusedVariables false
set_option linter.unusedSimpArgs false
namespace Go.Proofs.YtifddfchpknkbaaGreatDoor
open Go.RowKit

def viewB (W H F L X Y N PX PY : Int) (rows : List ByteArray) : Bool := stageB W H F L X Y && (figB rows && placeB F N PX PY)
set_option maxRecDepth 100000 in
set_option maxHeartbeats 1600000 in
theorem viewGood_any (W H F L X Y N PX PY : Int) (A : Option Addr) (n cap : Nat) (rows : List ByteArray) (w : World) (hn : n ≤ maxLen) (hs : ∀ r ∈ rows, r.size ≤ maxLen) (hr : Rd w w.heap.size 1 A n (rows.map Value.string)) :
    Calls Tryz.prog 100 #[.agg #[.int .i64 W, .int .i64 H, .int .i64 F, .int .i64 L, .int .i64 X, .int .i64 Y, .slice A n cap, .int .i64 N, .int .i64 PX, .int .i64 PY]] w fun e w' => e = .returned (.bool (viewB W H F L X Y N PX PY rows)) ∧ Below w.heap.size w w' := by
  obtain ⟨res, hres⟩ : ∃ res, res = viewB W H F L X Y N PX PY rows := ⟨_, rfl⟩
  rw [← hres]
  unfold viewB at hres
  cases h1 : stageB W H F L X Y
  · rw [h1] at hres; simp at hres; subst hres
    go_enter Tryz.func100, Tryz.ntmps100
    go_wp2_with (first | (go_at_call 97; refine (goodStage_any _ _ _ _ _ _ _).mono ?_; rintro e w1 ⟨rfl, hb1⟩; rw [h1]; have hB1 : Below w.heap.size w w1 := ((Below.refl _ w).alloc (Nat.le_refl _) _).trans (hb1.mono (by simp only [World.size_alloc]; omega)); have hbv1 := (Blk.new w 140 #[.int .i64 W, .int .i64 H, .int .i64 F, .int .i64 L, .int .i64 X, .int .i64 Y, .slice A n cap, .int .i64 N, .int .i64 PX, .int .i64 PY]).below hb1 (by simp only [World.size_alloc]; omega); have hcv1 := fun i => hbv1.cell i; have hlt1 := hbv1.lt))
    go_ret
    exact ⟨rfl, hB1⟩
  · have hF : 2 ≤ F ∧ F ≤ 40 := by simp [stageB, inB] at h1; omega
    obtain ⟨hF1, hF2⟩ := hF
    cases h2 : figB rows
    · rw [h1, h2] at hres; simp at hres; subst hres
      go_enter Tryz.func100, Tryz.ntmps100
      go_wp2_with (first | (go_at_call 97; refine (goodStage_any _ _ _ _ _ _ _).mono ?_; rintro e w1 ⟨rfl, hb1⟩; rw [h1]; have hB1 : Below w.heap.size w w1 := ((Below.refl _ w).alloc (Nat.le_refl _) _).trans (hb1.mono (by simp only [World.size_alloc]; omega)); have hbv1 := (Blk.new w 140 #[.int .i64 W, .int .i64 H, .int .i64 F, .int .i64 L, .int .i64 X, .int .i64 Y, .slice A n cap, .int .i64 N, .int .i64 PX, .int .i64 PY]).below hb1 (by simp only [World.size_alloc]; omega); have hcv1 := fun i => hbv1.cell i; have hlt1 := hbv1.lt) | (go_at_call 98; refine (goodFigure_any A n cap rows _ hn hs ((hr.below hB1).more hB1.size)).mono ?_; rintro e w2 ⟨rfl, hb2⟩; rw [h2]; have hB2 := hB1.trans (hb2.mono hB1.size); have hbv2 := hbv1.below hb2 hbv1.lt; have hcv2 := fun i => hbv2.cell i; have hlt2 := hbv2.lt))
      go_ret
      exact ⟨rfl, hB2⟩
    · rw [h1, h2] at hres; simp only [Bool.true_and] at hres; subst hres
      go_enter Tryz.func100, Tryz.ntmps100
      go_wp2_with (first | (go_at_call 97; refine (goodStage_any _ _ _ _ _ _ _).mono ?_; rintro e w1 ⟨rfl, hb1⟩; rw [h1]; have hB1 : Below w.heap.size w w1 := ((Below.refl _ w).alloc (Nat.le_refl _) _).trans (hb1.mono (by simp only [World.size_alloc]; omega)); have hbv1 := (Blk.new w 140 #[.int .i64 W, .int .i64 H, .int .i64 F, .int .i64 L, .int .i64 X, .int .i64 Y, .slice A n cap, .int .i64 N, .int .i64 PX, .int .i64 PY]).below hb1 (by simp only [World.size_alloc]; omega); have hcv1 := fun i => hbv1.cell i; have hlt1 := hbv1.lt) | (go_at_call 98; refine (goodFigure_any A n cap rows _ hn hs ((hr.below hB1).more hB1.size)).mono ?_; rintro e w2 ⟨rfl, hb2⟩; rw [h2]; have hB2 := hB1.trans (hb2.mono hB1.size); have hbv2 := hbv1.below hb2 hbv1.lt; have hcv2 := fun i => hbv2.cell i; have hlt2 := hbv2.lt) | (go_at_call 106; refine (goodPlace_any _ _ _ _ _ _ _ _ _ _ hF1 hF2).mono ?_; rintro e w3 ⟨rfl, hb3⟩))
      go_ret
      exact ⟨rfl, hB2.trans (hb3.mono hB2.size)⟩

/-- What a view that is as defined says of its numbers. -/
theorem stageB_nums {W H F L X Y : Int} (h : stageB W H F L X Y = true) : (1 ≤ W ∧ W ≤ 16) ∧ (1 ≤ H ∧ H ≤ 16) ∧ (2 ≤ F ∧ F ≤ 40) ∧ (0 ≤ L ∧ L ≤ 3) ∧ (0 ≤ X ∧ X ≤ 16) ∧ (0 ≤ Y ∧ Y ≤ 16) := by
  simp [stageB, inB] at h; omega
theorem figB_nums {rows : List ByteArray} (h : figB rows = true) : (0 < rows.length ∧ rows.length ≤ 6) ∧ wdOf rows ≤ 6 ∧ 1 ≤ wdOf rows ∧ ∀ r ∈ rows, r.size = wdOf rows := by
  simp only [figB, Bool.and_eq_true] at h
  obtain ⟨h1, h2, h3, _⟩ := h
  simp [inB] at h1 h2
  refine ⟨by omega, by omega, by omega, fun r hr => ?_⟩
  have := List.all_eq_true.1 h3 r hr
  simp [rowB] at this
  exact this.1
theorem placeB_nums {F N PX PY : Int} (h : placeB F N PX PY = true) : (0 ≤ N ∧ N ≤ F - 1) ∧ (-20 ≤ PX ∧ PX ≤ 20) ∧ (-20 ≤ PY ∧ PY ≤ 20) := by
  simp [placeB, inB] at h; omega
end Go.Proofs.YtifddfchpknkbaaGreatDoor

namespace Go.Proofs.YtifddfchpknkbaaGreatDoor
open Go.RowKit

theorem pro4 (w : World) (o1 o2 o3 o4 : Obj) : Below w.heap.size w ((((w.alloc o1).alloc o2).alloc o3).alloc o4) :=
  ((((Below.refl _ w).alloc (Nat.le_refl _) _).alloc (by simp only [World.size_alloc]; omega) _).alloc (by simp only [World.size_alloc]; omega) _).alloc (by simp only [World.size_alloc]; omega) _
theorem rd4 {w : World} {sz n : Nat} {A : Option Addr} {xs : List Value} (h : Rd w w.heap.size sz A n xs) (o1 o2 o3 o4 : Obj) :
    Rd ((((w.alloc o1).alloc o2).alloc o3).alloc o4) ((((w.alloc o1).alloc o2).alloc o3).alloc o4).heap.size sz A n xs := (h.below (pro4 w o1 o2 o3 o4)).more (by simp only [World.size_alloc]; omega)
theorem blk4 (w : World) (o1 o2 o3 : Obj) (t : TypeId) (cs : Array Value) : Blk ((((w.alloc o1).alloc o2).alloc o3).alloc (.cells cs t)) (w.heap.size + 1 + 1 + 1) t cs := by
  have := Blk.new (((w.alloc o1).alloc o2).alloc o3) t cs
  simpa only [World.size_alloc] using this
theorem blk2 (w : World) (o1 : Obj) (t : TypeId) (cs : Array Value) : Blk ((w.alloc o1).alloc (.cells cs t)) (w.heap.size + 1) t cs := by
  have := Blk.new (w.alloc o1) t cs
  simpa only [World.size_alloc] using this
theorem blk1 (w : World) (o2 o3 o4 : Obj) (t : TypeId) (cs : Array Value) : Blk ((((w.alloc (.cells cs t)).alloc o2).alloc o3).alloc o4) w.heap.size t cs :=
  (((Blk.new w t cs).alloc o2).alloc o3).alloc o4

def fitsR (W H F L X Y N PX PY : Int) (rows : List ByteArray) : Array Value :=
  if viewB W H F L X Y N PX PY rows then #[.bool (fitsB W H F L X Y N PX PY (wdOf rows) rows.length), .int .i64 0] else #[.bool false, .int .i64 2]
set_option maxRecDepth 100000 in
set_option maxHeartbeats 1600000 in
theorem Fits_any (W H F L X Y N PX PY : Int) (A : Option Addr) (n cap : Nat) (rows : List ByteArray) (w : World) (hcap : n ≤ cap) (hcm : cap ≤ maxLen) (hs : ∀ r ∈ rows, r.size ≤ maxLen) (hr : Rd w w.heap.size 1 A n (rows.map Value.string)) :
    Calls Tryz.prog 46 #[.agg #[.int .i64 W, .int .i64 H, .int .i64 F, .int .i64 L, .int .i64 X, .int .i64 Y], .agg #[.slice A n cap], .agg #[.int .i64 N, .int .i64 PX, .int .i64 PY]] w fun e w' => e = .returned (.tuple (fitsR W H F L X Y N PX PY rows)) ∧ Below w.heap.size w w' := by
  have hn : n ≤ maxLen := Nat.le_trans hcap hcm
  have hlen := hr.len
  unfold fitsR
  cases hv : viewB W H F L X Y N PX PY rows
  · go_enter Tryz.func46, Tryz.ntmps46
    go_wp2_with (first | (go_at_call 100; refine (viewGood_any W H F L X Y N PX PY A n cap rows _ hn hs (rd4 hr _ _ _ _)).mono ?_; rintro e w1 ⟨rfl, hb1⟩; rw [hv]; have hB1 : Below w.heap.size w w1 := (pro4 w _ _ _ _).trans (hb1.mono (by simp only [World.size_alloc]; omega)); have hbv1 := (blk4 w _ _ _ 140 #[.int .i64 W, .int .i64 H, .int .i64 F, .int .i64 L, .int .i64 X, .int .i64 Y, .slice A n cap, .int .i64 N, .int .i64 PX, .int .i64 PY]).below hb1 (by simp only [World.size_alloc]; omega); have hcv1 := fun i => hbv1.cell i; have hlt1 := hbv1.lt; have hbs1 := (blk1 w _ _ _ 23 #[.int .i64 W, .int .i64 H, .int .i64 F, .int .i64 L, .int .i64 X, .int .i64 Y]).below hb1 (by simp only [World.size_alloc]; omega); have hcs1 := fun i => hbs1.cell i; have hlts1 := hbs1.lt))
    go_ret2
    exact ⟨rfl, hB1⟩
  · have hv2 := hv
    simp only [viewB, Bool.and_eq_true] at hv2
    obtain ⟨hv3, hv4, hv5⟩ := hv2
    obtain ⟨⟨a1, a2⟩, ⟨a3, a4⟩, ⟨a5, a6⟩, ⟨a7, a8⟩, ⟨a9, a10⟩, a11, a12⟩ := stageB_nums hv3
    obtain ⟨⟨b1, b2⟩, b3, b4, b5⟩ := figB_nums hv4
    obtain ⟨⟨c1, c2⟩, ⟨c3, c4⟩, c5, c6⟩ := placeB_nums hv5
    clear hv3 hv4 hv5
    go_enter Tryz.func46, Tryz.ntmps46
    go_wp2_with (first | (go_at_call 100; refine (viewGood_any W H F L X Y N PX PY A n cap rows _ hn hs (rd4 hr _ _ _ _)).mono ?_; rintro e w1 ⟨rfl, hb1⟩; rw [hv]; have hB1 : Below w.heap.size w w1 := (pro4 w _ _ _ _).trans (hb1.mono (by simp only [World.size_alloc]; omega)); have hbv1 := (blk4 w _ _ _ 140 #[.int .i64 W, .int .i64 H, .int .i64 F, .int .i64 L, .int .i64 X, .int .i64 Y, .slice A n cap, .int .i64 N, .int .i64 PX, .int .i64 PY]).below hb1 (by simp only [World.size_alloc]; omega); have hcv1 := fun i => hbv1.cell i; have hlt1 := hbv1.lt; have hbs1 := (blk1 w _ _ _ 23 #[.int .i64 W, .int .i64 H, .int .i64 F, .int .i64 L, .int .i64 X, .int .i64 Y]).below hb1 (by simp only [World.size_alloc]; omega); have hcs1 := fun i => hbs1.cell i; have hlts1 := hbs1.lt) | (go_at_call 110; refine (fits_any W H F L X Y N PX PY A n cap rows (wdOf rows) _ ((hr.below hB1).more hB1.size) (by omega) (by omega) b5 (by omega) (by omega) (by omega) (by omega) (by omega) (by omega) (by omega) (by omega) (by omega) (by omega) (by omega) (by omega) (by omega) (by omega) (by omega) (by omega) (by omega) (by omega) (by omega)).mono ?_; rintro e w2 ⟨rfl, hb2⟩))
    go_ret2
    refine ⟨?_, hB1.trans (hb2.mono hB1.size)⟩
    rfl

def darkN (W H : Nat) (F L X Y N PX PY : Int) (rows : List ByteArray) (c : Int) : Nat := cntL (ltr (strOfNums (shadL W H F L X Y N PX PY rows (wdOf rows) rows.length (W * H)))) [c]

/-- The shadow as a string of cells. -/
def shS (W H F L X Y N PX PY : Int) (rows : List ByteArray) : ByteArray := strOfNums (shadL W.toNat H.toNat F L X Y N PX PY rows (wdOf rows) rows.length (W.toNat * H.toNat))
theorem shS_size (W H F L X Y N PX PY : Int) (rows : List ByteArray) : (shS W H F L X Y N PX PY rows).size = W.toNat * H.toNat := by
  rw [shS, strOfNums_size]; simp [shadL]
theorem shS_le {W H : Int} (F L X Y N PX PY : Int) (rows : List ByteArray) (h1 : W ≤ 50) (h2 : H ≤ 50) : (shS W H F L X Y N PX PY rows).size ≤ 2500 := by
  rw [shS_size]; exact Nat.mul_le_mul (show W.toNat ≤ 50 by omega) (show H.toNat ≤ 50 by omega)
theorem shadow_int (W H F L X Y N PX PY : Int) (A : Option Addr) (n cap : Nat) (rows : List ByteArray) (w : World) (hcap : n ≤ cap) (hcm : cap ≤ maxLen) (hr : Rd w w.heap.size 1 A n (rows.map Value.string)) (hv : viewB W H F L X Y N PX PY rows = true) :
    Calls Tryz.prog 102 #[.agg #[.int .i64 W, .int .i64 H, .int .i64 F, .int .i64 L, .int .i64 X, .int .i64 Y, .slice A n cap, .int .i64 N, .int .i64 PX, .int .i64 PY]] w fun e w' => e = .returned (.string (shS W H F L X Y N PX PY rows)) ∧ Below w.heap.size w w' := by
  have hlen := hr.len
  have hv2 := hv
  simp only [viewB, Bool.and_eq_true] at hv2
  obtain ⟨hv3, hv4, hv5⟩ := hv2
  obtain ⟨⟨a1, a2⟩, ⟨a3, a4⟩, ⟨a5, a6⟩, ⟨a7, a8⟩, ⟨a9, a10⟩, a11, a12⟩ := stageB_nums hv3
  obtain ⟨⟨b1, b2⟩, b3, b4, b5⟩ := figB_nums hv4
  obtain ⟨⟨c1, c2⟩, ⟨c3, c4⟩, c5, c6⟩ := placeB_nums hv5
  clear hv3 hv4 hv5

  obtain ⟨Wn, rfl⟩ : ∃ k : Nat, W = k := ⟨W.toNat, by omega⟩
  obtain ⟨Hn, rfl⟩ : ∃ k : Nat, H = k := ⟨H.toNat, by omega⟩
  refine (shadow_any Wn Hn F L X Y N PX PY A n cap rows (wdOf rows) w hr (by omega) (by omega) hcap hcm b5 (by omega) (by omega) (by omega) (by omega) (by omega) (by omega) (by omega) (by omega) (by omega) (by omega) (by omega) (by omega) (by omega) (by omega) (by omega) (by omega) (by omega) (by omega) (by omega)).mono ?_
  rintro e w' ⟨rfl, hb⟩
  exact ⟨by subst hlen; rfl, hb⟩

def countsR (W H F L X Y N PX PY : Int) (rows : List ByteArray) : Array Value :=
  if viewB W H F L X Y N PX PY rows then #[.int .i64 (cntL (ltr (shS W H F L X Y N PX PY rows)) [35]), .int .i64 (cntL (ltr (shS W H F L X Y N PX PY rows)) [43]), .int .i64 0] else #[.int .i64 0, .int .i64 0, .int .i64 2]
set_option maxRecDepth 100000 in
set_option maxHeartbeats 1600000 in
theorem Counts_any (W H F L X Y N PX PY : Int) (A : Option Addr) (n cap : Nat) (rows : List ByteArray) (w : World) (hcap : n ≤ cap) (hcm : cap ≤ maxLen) (hs : ∀ r ∈ rows, r.size ≤ maxLen) (hr : Rd w w.heap.size 1 A n (rows.map Value.string)) :
    Calls Tryz.prog 30 #[.agg #[.int .i64 W, .int .i64 H, .int .i64 F, .int .i64 L, .int .i64 X, .int .i64 Y], .agg #[.slice A n cap], .agg #[.int .i64 N, .int .i64 PX, .int .i64 PY]] w fun e w' => e = .returned (.tuple (countsR W H F L X Y N PX PY rows)) ∧ Below w.heap.size w w' := by
  have hn : n ≤ maxLen := Nat.le_trans hcap hcm
  unfold countsR
  cases hv : viewB W H F L X Y N PX PY rows
  · go_enter Tryz.func30, Tryz.ntmps30
    go_wp2_with (first | (go_at_call 100; refine (viewGood_any W H F L X Y N PX PY A n cap rows _ hn hs (rd4 hr _ _ _ _)).mono ?_; rintro e w1 ⟨rfl, hb1⟩; rw [hv]; have hB1 : Below w.heap.size w w1 := (pro4 w _ _ _ _).trans (hb1.mono (by simp only [World.size_alloc]; omega)); have hbv1 := (blk4 w _ _ _ 140 #[.int .i64 W, .int .i64 H, .int .i64 F, .int .i64 L, .int .i64 X, .int .i64 Y, .slice A n cap, .int .i64 N, .int .i64 PX, .int .i64 PY]).below hb1 (by simp only [World.size_alloc]; omega); have hcv1 := fun i => hbv1.cell i; have hlt1 := hbv1.lt; have hbs1 := (blk1 w _ _ _ 23 #[.int .i64 W, .int .i64 H, .int .i64 F, .int .i64 L, .int .i64 X, .int .i64 Y]).below hb1 (by simp only [World.size_alloc]; omega); have hcs1 := fun i => hbs1.cell i; have hlts1 := hbs1.lt))
    go_ret3
    exact ⟨rfl, hB1⟩
  · have hv2 := hv
    simp only [viewB, Bool.and_eq_true] at hv2
    obtain ⟨hv3, hv4, hv5⟩ := hv2
    obtain ⟨⟨a1, a2⟩, ⟨a3, a4⟩, ⟨a5, a6⟩, ⟨a7, a8⟩, ⟨a9, a10⟩, a11, a12⟩ := stageB_nums hv3
    obtain ⟨⟨b1, b2⟩, b3, b4, b5⟩ := figB_nums hv4
    obtain ⟨⟨c1, c2⟩, ⟨c3, c4⟩, c5, c6⟩ := placeB_nums hv5
    clear hv3 hv4 hv5
    have hsz := shS_le F L X Y N PX PY rows (show W ≤ 50 by omega) (show H ≤ 50 by omega)
    obtain ⟨sh, hsh⟩ : ∃ sh, sh = shS W H F L X Y N PX PY rows := ⟨_, rfl⟩
    rw [← hsh] at hsz ⊢
    have HSH := Lib.hid hsh; clear hsh
    have hsm : sh.size ≤ maxLen := by unfold maxLen; omega
    go_enter Tryz.func30, Tryz.ntmps30
    go_wp2_with (first | (go_at_call 100; refine (viewGood_any W H F L X Y N PX PY A n cap rows _ hn hs (rd4 hr _ _ _ _)).mono ?_; rintro e w1 ⟨rfl, hb1⟩; rw [hv]; have hB1 : Below w.heap.size w w1 := (pro4 w _ _ _ _).trans (hb1.mono (by simp only [World.size_alloc]; omega)); have hbv1 := (blk4 w _ _ _ 140 #[.int .i64 W, .int .i64 H, .int .i64 F, .int .i64 L, .int .i64 X, .int .i64 Y, .slice A n cap, .int .i64 N, .int .i64 PX, .int .i64 PY]).below hb1 (by simp only [World.size_alloc]; omega); have hcv1 := fun i => hbv1.cell i; have hlt1 := hbv1.lt; have hbs1 := (blk1 w _ _ _ 23 #[.int .i64 W, .int .i64 H, .int .i64 F, .int .i64 L, .int .i64 X, .int .i64 Y]).below hb1 (by simp only [World.size_alloc]; omega); have hcs1 := fun i => hbs1.cell i; have hlts1 := hbs1.lt) | (go_at_call 102; refine (shadow_int W H F L X Y N PX PY A n cap rows _ hcap hcm ((hr.below hB1).more hB1.size) hv).mono ?_; rintro e w2 ⟨rfl, hb2⟩; rw [← HSH.out]; have hB2 := hB1.trans (hb2.mono hB1.size)))
    refine (count_any sh _ 1 1 [35] _ (w2.heap.size + 1) hsm (by decide) (Rd.blk (Blk.new w2 5 #[.int .u8 35]) rfl (Nat.lt_succ_self _))).mono ?_
    rintro e w3 ⟨rfl, rfl⟩
    go_wp2_with (fail)
    refine (count_any sh _ 1 1 [43] _ (w2.heap.size + 1 + 1) hsm (by decide) (Rd.blk (blk2 w2 _ 5 #[.int .u8 43]) rfl (Nat.lt_succ_self _))).mono ?_
    rintro e w3 ⟨rfl, rfl⟩
    go_wp2_with (fail)
    go_ret3
    exact ⟨rfl, (hB2.alloc hB2.size _).alloc (by have := hB2.size; simp only [World.size_alloc]; omega) _⟩
end Go.Proofs.YtifddfchpknkbaaGreatDoor
