import Derived.Test.YtifddfchpknkbaaGreatDoorQ
set_option linter.unusedVariables false
set_option linter.unusedSimpArgs false
namespace Go.Proofs.YtifddfchpknkbaaGreatDoor
open Go.RowKit

theorem pro2 (w : World) (o1 o2 : Obj) : Below w.heap.size w ((w.alloc o1).alloc o2) := ((Below.refl _ w).alloc (Nat.le_refl _) _).alloc (by simp only [World.size_alloc]; omega) _
theorem rd2 {w : World} {sz n : Nat} {A : Option Addr} {xs : List Value} (h : Rd w w.heap.size sz A n xs) (o1 o2 : Obj) :
    Rd ((w.alloc o1).alloc o2) ((w.alloc o1).alloc o2).heap.size sz A n xs := (h.below (pro2 w o1 o2)).more (by simp only [World.size_alloc]; omega)

/-- The greatest number below k of which something is so, or none. -/
def mostFrom (ok : Nat → Bool) : Nat → Array Value
  | 0 => #[.int .i64 0, .int .i64 5]
  | k + 1 => if ok k then #[.int .i64 k, .int .i64 0] else mostFrom ok k
def mostR (W H F L X Y PX PY : Int) (rows : List ByteArray) : Array Value :=
  if viewB W H F L X Y 0 PX PY rows then mostFrom (fun k : Nat => fitsB W H F L X Y k PX PY (wdOf rows) rows.length) F.toNat else #[.int .i64 0, .int .i64 2]
set_option maxRecDepth 100000 in
set_option maxHeartbeats 1600000 in
theorem Most_any (W H F L X Y PX PY : Int) (A : Option Addr) (n cap : Nat) (rows : List ByteArray) (w : World) (hcap : n ≤ cap) (hcm : cap ≤ maxLen) (hs : ∀ r ∈ rows, r.size ≤ maxLen) (hr : Rd w w.heap.size 1 A n (rows.map Value.string)) :
    Calls Tryz.prog 47 #[.agg #[.int .i64 W, .int .i64 H, .int .i64 F, .int .i64 L, .int .i64 X, .int .i64 Y], .agg #[.slice A n cap], .int .i64 PX, .int .i64 PY] w fun e w' => e = .returned (.tuple (mostR W H F L X Y PX PY rows)) ∧ Below w.heap.size w w' := by
  have hn : n ≤ maxLen := Nat.le_trans hcap hcm
  have hlen := hr.len
  unfold mostR
  cases hv : viewB W H F L X Y 0 PX PY rows
  · go_enter Tryz.func47, Tryz.ntmps47
    go_wp2_with (first | (go_at_call 100; refine (viewGood_any W H F L X Y 0 PX PY A n cap rows _ hn hs (rd2 hr _ _)).mono ?_; rintro e w1 ⟨rfl, hb1⟩; rw [hv]; have hB1 : Below w.heap.size w w1 := (pro2 w _ _).trans (hb1.mono (by simp only [World.size_alloc]; omega)); have hbs1 := ((Blk.new w 23 #[.int .i64 W, .int .i64 H, .int .i64 F, .int .i64 L, .int .i64 X, .int .i64 Y]).alloc (.cells #[.slice A n cap] 26)).below hb1 (by simp only [World.size_alloc]; omega); have hcs1 := fun i => hbs1.cell i; have hlts1 := hbs1.lt; have hbf1 := (blk2 w (.cells #[.int .i64 W, .int .i64 H, .int .i64 F, .int .i64 L, .int .i64 X, .int .i64 Y] 23) 26 #[.slice A n cap]).below hb1 (by simp only [World.size_alloc]; omega); have hcf1 := fun i => hbf1.cell i; have hltf1 := hbf1.lt))
    go_ret2
    exact ⟨rfl, hB1⟩
  · have hv2 := hv
    simp only [viewB, Bool.and_eq_true] at hv2
    obtain ⟨hv3, hv4, hv5⟩ := hv2
    obtain ⟨⟨a1, a2⟩, ⟨a3, a4⟩, ⟨a5, a6⟩, ⟨a7, a8⟩, ⟨a9, a10⟩, a11, a12⟩ := stageB_nums hv3
    obtain ⟨⟨b1, b2⟩, b3, b4, b5⟩ := figB_nums hv4
    obtain ⟨⟨c1, c2⟩, ⟨c3, c4⟩, c5, c6⟩ := placeB_nums hv5
    clear hv3 hv4 hv5
    obtain ⟨ok, hok⟩ : ∃ ok : Nat → Bool, ok = fun k : Nat => fitsB W H F L X Y k PX PY (wdOf rows) rows.length := ⟨_, rfl⟩
    obtain ⟨Fn, rfl⟩ : ∃ k : Nat, F = k := ⟨F.toNat, by omega⟩
    rw [← hok]
    have hokk := fun k => congrFun hok k
    have HOK := Lib.hid hokk; clear hok hokk
    have HLEN := Lib.hid hlen; clear hlen
    have hw1 := i64_ok ((Fn : Int) - 1) (by omega)
    have hn50 : n ≤ 6 ∧ 0 < n := by have := HLEN.out; omega
    obtain ⟨n50, n0⟩ := hn50
    go_enter Tryz.func47, Tryz.ntmps47
    go_wp2_with (first | (go_at_call 100; refine (viewGood_any W H Fn L X Y 0 PX PY A n cap rows _ hn hs (rd2 hr _ _)).mono ?_; rintro e w1 ⟨rfl, hb1⟩; rw [hv]; have hB1 : Below w.heap.size w w1 := (pro2 w _ _).trans (hb1.mono (by simp only [World.size_alloc]; omega)); have hbs1 := ((Blk.new w 23 #[.int .i64 W, .int .i64 H, .int .i64 Fn, .int .i64 L, .int .i64 X, .int .i64 Y]).alloc (.cells #[.slice A n cap] 26)).below hb1 (by simp only [World.size_alloc]; omega); have hcs1 := fun i => hbs1.cell i; have hlts1 := hbs1.lt; have hbf1 := (blk2 w (.cells #[.int .i64 W, .int .i64 H, .int .i64 Fn, .int .i64 L, .int .i64 X, .int .i64 Y] 23) 26 #[.slice A n cap]).below hb1 (by simp only [World.size_alloc]; omega); have hcf1 := fun i => hbf1.cell i; have hltf1 := hbf1.lt))
    clear hcs1 hcf1 hw1
    go_loopg [10] Fn (fun g i wr => ∃ k : Nat, g = k ∧ k ≤ Fn ∧ i = .int .i64 ((k : Int) - 1) ∧ mostFrom ok Fn = mostFrom ok k ∧ Blk wr w.heap.size 23 #[.int .i64 W, .int .i64 H, .int .i64 Fn, .int .i64 L, .int .i64 X, .int .i64 Y] ∧ Blk wr (w.heap.size + 1) 26 #[.slice A n cap] ∧ Below w.heap.size w wr)
    case atStart => exact ⟨Fn, rfl, Nat.le_refl _, rfl, rfl, hbs1, hbf1, hB1⟩
    case round =>
      clear hbs1 hbf1 hB1 hlts1 hltf1
      obtain ⟨k, hg, hk, rfl, hm, hbs, hbf, hB⟩ := hrel
      have HG := Lib.hid hg; clear hg
      have HM := Lib.hid hm; clear hm
      have hcs := fun i => hbs.cell i
      have hcf := fun i => hbf.cell i
      have hls := hbs.lt
      have hlf := hbf.lt
      rcases k with _ | k
      · go_wp2
        go_ret2
        exact ⟨by show Ending.returned (.tuple #[.int .i64 0, .int .i64 5]) = .returned (.tuple (mostFrom ok ((Fn : Int).toNat))); rw [Int.toNat_natCast, HM.out]; rfl, hB⟩
      · have hki : ((k + 1 : Nat) : Int) - 1 = (k : Int) := by omega
        rw [hki]
        have hkF : (k : Int) < Fn := by omega
        have hw2 := i64_ok ((k : Int) - 1) (by omega)
        have hstep : mostFrom ok (k + 1) = if ok k then #[.int .i64 k, .int .i64 0] else mostFrom ok k := rfl
        have HST := Lib.hid hstep; clear hstep hki
        cases hf : fitsB W H Fn L X Y k PX PY (wdOf rows) n
        all_goals
          go_wp2_with (first | (go_at_call 110; refine (fits_any W H Fn L X Y k PX PY A n cap rows (wdOf rows) _ ((hr.below hB).more hB.size) (by omega) (by omega) b5 (by omega) (by omega) (by omega) (by omega) (by omega) (by omega) (by omega) (by omega) (by omega) (by omega) (by omega) (by omega) (by omega) (by omega) (by omega) (by omega) (by omega) (by omega) (by omega)).mono ?_; rintro e w2 ⟨rfl, hb2⟩; rw [hf]; have hB2 := hB.trans (hb2.mono hB.size)))
        · go_roundg k
          case measure => rw [HG.out]; omega
          case rel => exact ⟨k, rfl, by omega, rfl, by rw [HM.out, HST.out, HOK.out, HLEN.out, hf]; rfl, hbs.below hb2 hls, hbf.below hb2 hlf, hB2⟩
        · go_ret2
          exact ⟨by show Ending.returned (.tuple #[.int .i64 k, .int .i64 0]) = .returned (.tuple (mostFrom ok ((Fn : Int).toNat))); rw [Int.toNat_natCast, HM.out, HST.out, HOK.out, HLEN.out, hf]; rfl, hB2⟩
end Go.Proofs.YtifddfchpknkbaaGreatDoor
