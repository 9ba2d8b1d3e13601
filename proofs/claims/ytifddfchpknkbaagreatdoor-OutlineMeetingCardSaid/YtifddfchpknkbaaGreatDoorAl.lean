import Derived.Test.YtifddfchpknkbaaGreatDoorK
import Derived.Test.YtifddfchpknkbaaGreatDoorPf
import Derived.Test.YtifddfchpknkbaaGreatDoorJm
import Derived.Test.YtifddfchpknkbaaGreatDoorCo
import Derived.Test.YtifddfchpknkbaaGreatDoorOa
set_option linter.unusedVariables false
set_option linter.unusedSimpArgs false
namespace Go.Proofs.YtifddfchpknkbaaGreatDoor
open Go.RowKit

/-! Variables that are made in whatever order. -/
theorem put_comm (a : Act) {i j : Nat} (h : i ≠ j) (u v : Value) : (a.put (some i) u).put (some j) v = (a.put (some j) v).put (some i) u := by
  simp only [Act.put]
  congr 1
  exact Array.setIfInBounds_comm _ _ h

section
variable {P : Program} {ops : Array Oper} {md : Region.Mode} {Q : Exit → Act → World → Prop} {T : World → Prop} {L : Nat}

/-- Operation i makes a variable of type t whose pointer goes to slot d. -/
def Makes (P : Program) (ops : Array Oper) (Q : Exit → Act → World → Prop) (i d : Nat) (t : TypeId) (z : Array Value) : Prop :=
  ∃ o, ops[i]? = some o ∧ ∀ (a : Act) (w : World) (K : Act → World → Prop), K (a.put (some d) (.pointer (some ⟨w.heap.size, 0, none⟩))) (w.alloc (.cells z t)) →
    if Region.wanted o (yielded ops a.tmps) = true then Oper.wp P o a w K Q else K (a.put o.dst undef) w

theorem below_new (w : World) (o : Obj) : Below w.heap.size w (w.alloc o) := (Below.refl _ w).alloc (Nat.le_refl _) o

theorem makes1 {i d : Nat} {t : TypeId} {z : Array Value} {fuel : Nat} {l : Array Bool} {a : Act} {w : World} (hi : Makes P ops Q i d t z) (r : Region.ready md ops l = [i])
    (hT : ∀ w', Below w.heap.size w w' → T w')
    (H : ∀ g w', Below w.heap.size w w' → w.heap.size ≤ g → Blk w' g t z → wpG P md ops Q T L fuel (l.setIfInBounds i true) (a.put (some d) (.pointer (some ⟨g, 0, none⟩))) w') : wpG P md ops Q T L (fuel + 1) l a w := by
  obtain ⟨o, ho, hm⟩ := hi
  exact wpG_one ho r fun K hK => hm a w K (hK _ _ (.inr (hT _ (below_new w _))) (H _ _ (below_new w _) (Nat.le_refl _) (Blk.new w t z)))

/-- What is ready behind each choice out of a list. -/
def readyAll (md : Region.Mode) (ops : Array Oper) : Nat → Array Bool → List Nat → Bool
  | 0, _, _ => true
  | n + 1, l, is => (Region.ready md ops l == is) && is.all fun i => readyAll md ops n (l.setIfInBounds i true) (is.filter fun j => j != i)
theorem readyAll_now {n : Nat} {l : Array Bool} {is : List Nat} (h : readyAll md ops (n + 1) l is = true) : Region.ready md ops l = is := by
  unfold readyAll at h; rw [Bool.and_eq_true] at h; exact eq_of_beq h.1
theorem readyAll_next {n : Nat} {l : Array Bool} {is : List Nat} (h : readyAll md ops (n + 1) l is = true) {i : Nat} (hi : i ∈ is) : readyAll md ops n (l.setIfInBounds i true) (is.filter fun j => j != i) = true := by
  unfold readyAll at h; rw [Bool.and_eq_true] at h; exact List.all_eq_true.1 h.2 i hi

theorem makes2 {i0 i1 d0 d1 : Nat} {t0 t1 : TypeId} {z0 z1 : Array Value} {fuel : Nat} {l : Array Bool} {a : Act} {w : World} (m0 : Makes P ops Q i0 d0 t0 z0) (m1 : Makes P ops Q i1 d1 t1 z1)
    (nd01 : d0 ≠ d1) (ni01 : i0 ≠ i1)
    (r : readyAll md ops 2 l [i0, i1] = true) (hT : ∀ w', Below w.heap.size w w' → T w')
    (H : ∀ g0 g1 w', Below w.heap.size w w' → w.heap.size ≤ g0 → w.heap.size ≤ g1 → g0 ≠ g1 → Blk w' g0 t0 z0 → Blk w' g1 t1 z1 → wpG P md ops Q T L fuel ((l.setIfInBounds i0 true).setIfInBounds i1 true) ((a.put (some d0) (.pointer (some ⟨g0, 0, none⟩))).put (some d1) (.pointer (some ⟨g1, 0, none⟩))) w') : wpG P md ops Q T L (fuel + 1 + 1) l a w := by
  obtain ⟨o0, ho0, hm0⟩ := id m0
  obtain ⟨o1, ho1, hm1⟩ := id m1
  have hs : ∀ o : Obj, w.heap.size ≤ (w.alloc o).heap.size := fun o => by simp
  refine ⟨fun h0 => (by rw [readyAll_now r] at h0; cases h0), fun q hq => ?_⟩
  rw [readyAll_now r] at hq
  have hq2 : q = i0 ∨ q = i1 := by simpa using hq
  rcases hq2 with rfl | rfl
  · refine wpOp_step ho0 fun K hK => hm0 a w K (hK _ _ ⟨.inr (hT _ (below_new w _)), ?_⟩)
    have rr := readyAll_next r (i := q) (by simp)
    have ef : ([q, i1].filter fun j => j != q) = [i1] := by simp [ni01.symm]
    rw [ef] at rr
    refine makes1 m1  (readyAll_now rr) (fun w' hb => hT _ ((below_new w _).trans (hb.mono (hs _)))) (fun g1 w' hb hg1  hb1 => ?_)
    have hn := Blk.new w t0 z0
    have hnl := hn.lt
    exact H _ g1 w' ((below_new w _).trans (hb.mono (hs _))) (Nat.le_refl _) (Nat.le_trans (hs _) hg1) (by have := hg1; omega) (hn.below hb hnl) hb1
  · refine wpOp_step ho1 fun K hK => hm1 a w K (hK _ _ ⟨.inr (hT _ (below_new w _)), ?_⟩)
    have rr := readyAll_next r (i := q) (by simp)
    have ef : ([i0, q].filter fun j => j != q) = [i0] := by simp [ni01]
    rw [ef] at rr
    refine makes1 m0  (readyAll_now rr) (fun w' hb => hT _ ((below_new w _).trans (hb.mono (hs _)))) (fun g0 w' hb hg0  hb0 => ?_)
    have hn := Blk.new w t1 z1
    have hnl := hn.lt
    rw [put_comm a (i := d1) (j := d0) nd01.symm]
    rw [Array.setIfInBounds_comm _ _ ni01.symm]
    exact H g0 _ w' ((below_new w _).trans (hb.mono (hs _))) (Nat.le_trans (hs _) hg0) (Nat.le_refl _) (by have := hg0; omega) hb0 (hn.below hb hnl)
theorem makes3 {i0 i1 i2 d0 d1 d2 : Nat} {t0 t1 t2 : TypeId} {z0 z1 z2 : Array Value} {fuel : Nat} {l : Array Bool} {a : Act} {w : World} (m0 : Makes P ops Q i0 d0 t0 z0) (m1 : Makes P ops Q i1 d1 t1 z1) (m2 : Makes P ops Q i2 d2 t2 z2)
    (nd01 : d0 ≠ d1) (ni01 : i0 ≠ i1) (nd02 : d0 ≠ d2) (ni02 : i0 ≠ i2) (nd12 : d1 ≠ d2) (ni12 : i1 ≠ i2)
    (r : readyAll md ops 3 l [i0, i1, i2] = true) (hT : ∀ w', Below w.heap.size w w' → T w')
    (H : ∀ g0 g1 g2 w', Below w.heap.size w w' → w.heap.size ≤ g0 → w.heap.size ≤ g1 → w.heap.size ≤ g2 → g0 ≠ g1 → g0 ≠ g2 → g1 ≠ g2 → Blk w' g0 t0 z0 → Blk w' g1 t1 z1 → Blk w' g2 t2 z2 → wpG P md ops Q T L fuel (((l.setIfInBounds i0 true).setIfInBounds i1 true).setIfInBounds i2 true) (((a.put (some d0) (.pointer (some ⟨g0, 0, none⟩))).put (some d1) (.pointer (some ⟨g1, 0, none⟩))).put (some d2) (.pointer (some ⟨g2, 0, none⟩))) w') : wpG P md ops Q T L (fuel + 1 + 1 + 1) l a w := by
  obtain ⟨o0, ho0, hm0⟩ := id m0
  obtain ⟨o1, ho1, hm1⟩ := id m1
  obtain ⟨o2, ho2, hm2⟩ := id m2
  have hs : ∀ o : Obj, w.heap.size ≤ (w.alloc o).heap.size := fun o => by simp
  refine ⟨fun h0 => (by rw [readyAll_now r] at h0; cases h0), fun q hq => ?_⟩
  rw [readyAll_now r] at hq
  have hq2 : q = i0 ∨ q = i1 ∨ q = i2 := by simpa using hq
  rcases hq2 with rfl | rfl | rfl
  · refine wpOp_step ho0 fun K hK => hm0 a w K (hK _ _ ⟨.inr (hT _ (below_new w _)), ?_⟩)
    have rr := readyAll_next r (i := q) (by simp)
    have ef : ([q, i1, i2].filter fun j => j != q) = [i1, i2] := by simp [ni01.symm, ni02.symm]
    rw [ef] at rr
    refine makes2 m1 m2 nd12 ni12 rr (fun w' hb => hT _ ((below_new w _).trans (hb.mono (hs _)))) (fun g1 g2 w' hb hg1 hg2 hn12 hb1 hb2 => ?_)
    have hn := Blk.new w t0 z0
    have hnl := hn.lt
    exact H _ g1 g2 w' ((below_new w _).trans (hb.mono (hs _))) (Nat.le_refl _) (Nat.le_trans (hs _) hg1) (Nat.le_trans (hs _) hg2) (by have := hg1; omega) (by have := hg2; omega) hn12 (hn.below hb hnl) hb1 hb2
  · refine wpOp_step ho1 fun K hK => hm1 a w K (hK _ _ ⟨.inr (hT _ (below_new w _)), ?_⟩)
    have rr := readyAll_next r (i := q) (by simp)
    have ef : ([i0, q, i2].filter fun j => j != q) = [i0, i2] := by simp [ni01, ni12.symm]
    rw [ef] at rr
    refine makes2 m0 m2 nd02 ni02 rr (fun w' hb => hT _ ((below_new w _).trans (hb.mono (hs _)))) (fun g0 g2 w' hb hg0 hg2 hn02 hb0 hb2 => ?_)
    have hn := Blk.new w t1 z1
    have hnl := hn.lt
    rw [put_comm a (i := d1) (j := d0) nd01.symm]
    rw [Array.setIfInBounds_comm _ _ ni01.symm]
    exact H g0 _ g2 w' ((below_new w _).trans (hb.mono (hs _))) (Nat.le_trans (hs _) hg0) (Nat.le_refl _) (Nat.le_trans (hs _) hg2) (by have := hg0; omega) hn02 (by have := hg2; omega) hb0 (hn.below hb hnl) hb2
  · refine wpOp_step ho2 fun K hK => hm2 a w K (hK _ _ ⟨.inr (hT _ (below_new w _)), ?_⟩)
    have rr := readyAll_next r (i := q) (by simp)
    have ef : ([i0, i1, q].filter fun j => j != q) = [i0, i1] := by simp [ni02, ni12]
    rw [ef] at rr
    refine makes2 m0 m1 nd01 ni01 rr (fun w' hb => hT _ ((below_new w _).trans (hb.mono (hs _)))) (fun g0 g1 w' hb hg0 hg1 hn01 hb0 hb1 => ?_)
    have hn := Blk.new w t2 z2
    have hnl := hn.lt
    rw [put_comm a (i := d2) (j := d0) nd02.symm]
    rw [Array.setIfInBounds_comm _ _ ni02.symm]
    rw [put_comm (a.put (some d0) (.pointer (some ⟨g0, 0, none⟩))) (i := d2) (j := d1) nd12.symm]
    rw [Array.setIfInBounds_comm (i := q) (j := i1) _ _ ni12.symm]
    exact H g0 g1 _ w' ((below_new w _).trans (hb.mono (hs _))) (Nat.le_trans (hs _) hg0) (Nat.le_trans (hs _) hg1) (Nat.le_refl _) hn01 (by have := hg0; omega) (by have := hg1; omega) hb0 hb1 (hn.below hb hnl)
theorem makes4 {i0 i1 i2 i3 d0 d1 d2 d3 : Nat} {t0 t1 t2 t3 : TypeId} {z0 z1 z2 z3 : Array Value} {fuel : Nat} {l : Array Bool} {a : Act} {w : World} (m0 : Makes P ops Q i0 d0 t0 z0) (m1 : Makes P ops Q i1 d1 t1 z1) (m2 : Makes P ops Q i2 d2 t2 z2) (m3 : Makes P ops Q i3 d3 t3 z3)
    (nd01 : d0 ≠ d1) (ni01 : i0 ≠ i1) (nd02 : d0 ≠ d2) (ni02 : i0 ≠ i2) (nd03 : d0 ≠ d3) (ni03 : i0 ≠ i3) (nd12 : d1 ≠ d2) (ni12 : i1 ≠ i2) (nd13 : d1 ≠ d3) (ni13 : i1 ≠ i3) (nd23 : d2 ≠ d3) (ni23 : i2 ≠ i3)
    (r : readyAll md ops 4 l [i0, i1, i2, i3] = true) (hT : ∀ w', Below w.heap.size w w' → T w')
    (H : ∀ g0 g1 g2 g3 w', Below w.heap.size w w' → w.heap.size ≤ g0 → w.heap.size ≤ g1 → w.heap.size ≤ g2 → w.heap.size ≤ g3 → g0 ≠ g1 → g0 ≠ g2 → g0 ≠ g3 → g1 ≠ g2 → g1 ≠ g3 → g2 ≠ g3 → Blk w' g0 t0 z0 → Blk w' g1 t1 z1 → Blk w' g2 t2 z2 → Blk w' g3 t3 z3 → wpG P md ops Q T L fuel ((((l.setIfInBounds i0 true).setIfInBounds i1 true).setIfInBounds i2 true).setIfInBounds i3 true) ((((a.put (some d0) (.pointer (some ⟨g0, 0, none⟩))).put (some d1) (.pointer (some ⟨g1, 0, none⟩))).put (some d2) (.pointer (some ⟨g2, 0, none⟩))).put (some d3) (.pointer (some ⟨g3, 0, none⟩))) w') : wpG P md ops Q T L (fuel + 1 + 1 + 1 + 1) l a w := by
  obtain ⟨o0, ho0, hm0⟩ := id m0
  obtain ⟨o1, ho1, hm1⟩ := id m1
  obtain ⟨o2, ho2, hm2⟩ := id m2
  obtain ⟨o3, ho3, hm3⟩ := id m3
  have hs : ∀ o : Obj, w.heap.size ≤ (w.alloc o).heap.size := fun o => by simp
  refine ⟨fun h0 => (by rw [readyAll_now r] at h0; cases h0), fun q hq => ?_⟩
  rw [readyAll_now r] at hq
  have hq2 : q = i0 ∨ q = i1 ∨ q = i2 ∨ q = i3 := by simpa using hq
  rcases hq2 with rfl | rfl | rfl | rfl
  · refine wpOp_step ho0 fun K hK => hm0 a w K (hK _ _ ⟨.inr (hT _ (below_new w _)), ?_⟩)
    have rr := readyAll_next r (i := q) (by simp)
    have ef : ([q, i1, i2, i3].filter fun j => j != q) = [i1, i2, i3] := by simp [ni01.symm, ni02.symm, ni03.symm]
    rw [ef] at rr
    refine makes3 m1 m2 m3 nd12 ni12 nd13 ni13 nd23 ni23 rr (fun w' hb => hT _ ((below_new w _).trans (hb.mono (hs _)))) (fun g1 g2 g3 w' hb hg1 hg2 hg3 hn12 hn13 hn23 hb1 hb2 hb3 => ?_)
    have hn := Blk.new w t0 z0
    have hnl := hn.lt
    exact H _ g1 g2 g3 w' ((below_new w _).trans (hb.mono (hs _))) (Nat.le_refl _) (Nat.le_trans (hs _) hg1) (Nat.le_trans (hs _) hg2) (Nat.le_trans (hs _) hg3) (by have := hg1; omega) (by have := hg2; omega) (by have := hg3; omega) hn12 hn13 hn23 (hn.below hb hnl) hb1 hb2 hb3
  · refine wpOp_step ho1 fun K hK => hm1 a w K (hK _ _ ⟨.inr (hT _ (below_new w _)), ?_⟩)
    have rr := readyAll_next r (i := q) (by simp)
    have ef : ([i0, q, i2, i3].filter fun j => j != q) = [i0, i2, i3] := by simp [ni01, ni12.symm, ni13.symm]
    rw [ef] at rr
    refine makes3 m0 m2 m3 nd02 ni02 nd03 ni03 nd23 ni23 rr (fun w' hb => hT _ ((below_new w _).trans (hb.mono (hs _)))) (fun g0 g2 g3 w' hb hg0 hg2 hg3 hn02 hn03 hn23 hb0 hb2 hb3 => ?_)
    have hn := Blk.new w t1 z1
    have hnl := hn.lt
    rw [put_comm a (i := d1) (j := d0) nd01.symm]
    rw [Array.setIfInBounds_comm _ _ ni01.symm]
    exact H g0 _ g2 g3 w' ((below_new w _).trans (hb.mono (hs _))) (Nat.le_trans (hs _) hg0) (Nat.le_refl _) (Nat.le_trans (hs _) hg2) (Nat.le_trans (hs _) hg3) (by have := hg0; omega) hn02 hn03 (by have := hg2; omega) (by have := hg3; omega) hn23 hb0 (hn.below hb hnl) hb2 hb3
  · refine wpOp_step ho2 fun K hK => hm2 a w K (hK _ _ ⟨.inr (hT _ (below_new w _)), ?_⟩)
    have rr := readyAll_next r (i := q) (by simp)
    have ef : ([i0, i1, q, i3].filter fun j => j != q) = [i0, i1, i3] := by simp [ni02, ni12, ni23.symm]
    rw [ef] at rr
    refine makes3 m0 m1 m3 nd01 ni01 nd03 ni03 nd13 ni13 rr (fun w' hb => hT _ ((below_new w _).trans (hb.mono (hs _)))) (fun g0 g1 g3 w' hb hg0 hg1 hg3 hn01 hn03 hn13 hb0 hb1 hb3 => ?_)
    have hn := Blk.new w t2 z2
    have hnl := hn.lt
    rw [put_comm a (i := d2) (j := d0) nd02.symm]
    rw [Array.setIfInBounds_comm _ _ ni02.symm]
    rw [put_comm (a.put (some d0) (.pointer (some ⟨g0, 0, none⟩))) (i := d2) (j := d1) nd12.symm]
    rw [Array.setIfInBounds_comm (i := q) (j := i1) _ _ ni12.symm]
    exact H g0 g1 _ g3 w' ((below_new w _).trans (hb.mono (hs _))) (Nat.le_trans (hs _) hg0) (Nat.le_trans (hs _) hg1) (Nat.le_refl _) (Nat.le_trans (hs _) hg3) hn01 (by have := hg0; omega) hn03 (by have := hg1; omega) hn13 (by have := hg3; omega) hb0 hb1 (hn.below hb hnl) hb3
  · refine wpOp_step ho3 fun K hK => hm3 a w K (hK _ _ ⟨.inr (hT _ (below_new w _)), ?_⟩)
    have rr := readyAll_next r (i := q) (by simp)
    have ef : ([i0, i1, i2, q].filter fun j => j != q) = [i0, i1, i2] := by simp [ni03, ni13, ni23]
    rw [ef] at rr
    refine makes3 m0 m1 m2 nd01 ni01 nd02 ni02 nd12 ni12 rr (fun w' hb => hT _ ((below_new w _).trans (hb.mono (hs _)))) (fun g0 g1 g2 w' hb hg0 hg1 hg2 hn01 hn02 hn12 hb0 hb1 hb2 => ?_)
    have hn := Blk.new w t3 z3
    have hnl := hn.lt
    rw [put_comm a (i := d3) (j := d0) nd03.symm]
    rw [Array.setIfInBounds_comm _ _ ni03.symm]
    rw [put_comm (a.put (some d0) (.pointer (some ⟨g0, 0, none⟩))) (i := d3) (j := d1) nd13.symm]
    rw [Array.setIfInBounds_comm (i := q) (j := i1) _ _ ni13.symm]
    rw [put_comm ((a.put (some d0) (.pointer (some ⟨g0, 0, none⟩))).put (some d1) (.pointer (some ⟨g1, 0, none⟩))) (i := d3) (j := d2) nd23.symm]
    rw [Array.setIfInBounds_comm (i := q) (j := i2) _ _ ni23.symm]
    exact H g0 g1 g2 _ w' ((below_new w _).trans (hb.mono (hs _))) (Nat.le_trans (hs _) hg0) (Nat.le_trans (hs _) hg1) (Nat.le_trans (hs _) hg2) (Nat.le_refl _) hn01 hn02 (by have := hg0; omega) hn12 (by have := hg1; omega) (by have := hg2; omega) hb0 hb1 hb2 (hn.below hb hnl)
end
end Go.Proofs.YtifddfchpknkbaaGreatDoor

namespace Go.Proofs.YtifddfchpknkbaaGreatDoor
open Go.RowKit

theorem blk1s {w : World} {g : Nat} {t : TypeId} {z : Value} (h : Blk w g t #[z]) (v : Value) : Blk (w.setCell ⟨g, 0, none⟩ v) g t #[v] := by
  have h := h.set_ 0 v
  simpa using h
theorem blk3s {w : World} {g : Nat} {t : TypeId} {z0 z1 z2 : Value} (h : Blk w g t #[z0, z1, z2]) (v0 v1 v2 : Value) : Blk (((w.setCell ⟨g, 0, none⟩ v0).setCell ⟨g, 1, none⟩ v1).setCell ⟨g, 2, none⟩ v2) g t #[v0, v1, v2] := by
  have h := ((h.set_ 0 v0).set_ 1 v1).set_ 2 v2
  simpa using h
theorem far3s {w : World} {g g' : Nat} {t : TypeId} {cs : Array Value} (h : Blk w g' t cs) (hn : g' ≠ g) (v0 v1 v2 : Value) : Blk (((w.setCell ⟨g, 0, none⟩ v0).setCell ⟨g, 1, none⟩ v1).setCell ⟨g, 2, none⟩ v2) g' t cs :=
  ((h.far (p := ⟨g, 0, none⟩) hn v0).far (p := ⟨g, 1, none⟩) hn v1).far (p := ⟨g, 2, none⟩) hn v2
theorem below3s {w0 w : World} {B g : Nat} (h : Below B w0 w) (hB : B ≤ g) (v0 v1 v2 : Value) : Below B w0 (((w.setCell ⟨g, 0, none⟩ v0).setCell ⟨g, 1, none⟩ v1).setCell ⟨g, 2, none⟩ v2) :=
  ((h.setCell (p := ⟨g, 0, none⟩) hB v0).setCell (p := ⟨g, 1, none⟩) hB v1).setCell (p := ⟨g, 2, none⟩) hB v2

theorem Joined_any (W H F L X Y : Int) (A : Option Addr) (n cap : Nat) (fs : List Fig) (PA : Option Addr) (pn pcap : Nat) (ps : List Pl) (w : World) (hcap : n ≤ cap) (hcm : cap ≤ maxLen) (hf : ∀ f ∈ fs, f.ok w w.heap.size) (hr : Rd w w.heap.size 1 A n (fs.map Fig.val)) (hpr : Rd w w.heap.size 3 PA pn (ps.flatMap plC)) :
    Calls Tryz.prog 40 #[.agg #[.int .i64 W, .int .i64 H, .int .i64 F, .int .i64 L, .int .i64 X, .int .i64 Y], .slice A n cap, .slice PA pn pcap] w fun e w' => ∃ v, e = .returned (.tuple #[v, .int .i64 (joinedE W H F L X Y fs ps)]) ∧ IsL w' v ((joinedL W H F L X Y fs ps).map Value.string) ∧ Below w.heap.size w w' := by
  have hpl := hpr.lenc (by decide) plC_len
  by_cases hb : stageB W H F L X Y = false ∨ 6 < n ∨ pn ≠ n
  · exact Joined_bad W H F L X Y A n cap fs PA pn pcap ps w hr.len hpl hb
  · have hst : stageB W H F L X Y = true := by
      cases h : stageB W H F L X Y
      · exact absurd (.inl h) hb
      · rfl
    obtain rfl : pn = n := by omega
    have ⟨⟨a1, a2⟩, ⟨a3, a4⟩, _⟩ := stageB_nums hst
    obtain ⟨Wn, rfl⟩ : ∃ k : Nat, W = k := ⟨W.toNat, by omega⟩
    obtain ⟨Hn, rfl⟩ : ∃ k : Nat, H = k := ⟨H.toNat, by omega⟩
    exact Joined_good Wn Hn F L X Y A pn cap fs PA pcap ps w hcap hcm hf hr hpr hst (by omega)
theorem zip_zok {F : Int} : ∀ {fs : List Fig} {ps : List Pl}, ps.length = fs.length → ((fs.zip ps).all (zok F) = ((fs.all fun f => figB f.rows) && placesB F ps))
  | [], [], _ => rfl
  | [], _ :: _, h => by simp at h
  | _ :: _, [], h => by simp at h
  | f :: fs, p :: ps, h => by
    have ih := zip_zok (F := F) (fs := fs) (ps := ps) (by simpa using h)
    simp only [List.zip_cons_cons, List.all_cons, ih, placesB, zok]
    cases figB f.rows <;> cases placeB F p.n p.x p.y <;> cases (fs.all fun f => figB f.rows) <;> rfl
theorem joinedB_eq (W H F L X Y : Int) (fs : List Fig) (ps : List Pl) : joinedB W H F L X Y fs ps = (stageB W H F L X Y && (figsB fs && (decide (ps.length = fs.length) && placesB F ps))) := by
  unfold joinedB figsB
  by_cases h : ps.length = fs.length
  · rw [zip_zok h, decide_eq_true h]
    cases stageB W H F L X Y <;> cases decide (fs.length ≤ 6) <;> cases (fs.all fun f => figB f.rows) <;> rfl
  · rw [decide_eq_false h]; simp

set_option maxRecDepth 100000 in
set_option maxHeartbeats 25600000 in
theorem joins_x0 (W H F L X Y one two : Int) (A : Option Addr) (n cap : Nat) (fs : List Fig) (PA : Option Addr) (pn pcap : Nat) (ps : List Pl) (m : Int) (w : World) (hm : w.cell? ⟨0, 0, none⟩ = some (.int .i64 m)) (hcap : n ≤ cap) (hcm : cap ≤ maxLen) (hf : ∀ f ∈ fs, f.ok w w.heap.size) (hr : Rd w w.heap.size 1 A n (fs.map Fig.val)) (hpn : pn ≤ maxLen) (hpr : Rd w w.heap.size 3 PA pn (ps.flatMap plC)) (hfw : fewB fs = false) :
    Calls Tryz.prog 6 #[.agg #[.int .i64 W, .int .i64 H, .int .i64 F, .int .i64 L, .int .i64 X, .int .i64 Y], .slice A n cap, .slice PA pn pcap, .int .i64 one, .int .i64 two] w fun e w' => e = .returned (.bool true) ∧ Below w.heap.size w w' := by
  have hn : n ≤ maxLen := Nat.le_trans hcap hcm
  go_enter Tryz.func6, Tryz.ntmps6
  go_upto_region 1 with (fail)
  have hS := Blk.new w 23 #[.int .i64 W, .int .i64 H, .int .i64 F, .int .i64 L, .int .i64 X, .int .i64 Y]
  have hB : Below w.heap.size w (w.alloc (.cells #[.int .i64 W, .int .i64 H, .int .i64 F, .int .i64 L, .int .i64 X, .int .i64 Y] 23)) := (Below.refl _ w).alloc (Nat.le_refl _) _
  generalize w.alloc (.cells #[.int .i64 W, .int .i64 H, .int .i64 F, .int .i64 L, .int .i64 X, .int .i64 Y] 23) = W0 at *
  have qhS := fun i => Blk.cell hS i
  go_wp2_with (first | (go_at_call 39; refine (few_any A n cap fs _ hn (fun f h => ((hf f h).below hB).more hB.size) (rdB hr hB)).mono ?_; rintro e w1 ⟨rfl, rfl⟩; rw [hfw]) | (go_at_call 24; refine (known_true m _ (known_at hm hB)).mono ?_; rintro e w1 ⟨rfl, hb⟩; replace hB := hB.trans (hb.mono hB.size); clear hb))
  go_ret
  exact ⟨rfl, hB⟩
set_option maxRecDepth 100000 in
set_option maxHeartbeats 25600000 in
theorem joins_x1 (W H F L X Y one two : Int) (A : Option Addr) (n cap : Nat) (fs : List Fig) (PA : Option Addr) (pn pcap : Nat) (ps : List Pl) (m : Int) (w : World) (hm : w.cell? ⟨0, 0, none⟩ = some (.int .i64 m)) (hcap : n ≤ cap) (hcm : cap ≤ maxLen) (hf : ∀ f ∈ fs, f.ok w w.heap.size) (hr : Rd w w.heap.size 1 A n (fs.map Fig.val)) (hpn : pn ≤ maxLen) (hpr : Rd w w.heap.size 3 PA pn (ps.flatMap plC)) (hfw : fewB fs = true) (h8 : (8 : Int) < pn) :
    Calls Tryz.prog 6 #[.agg #[.int .i64 W, .int .i64 H, .int .i64 F, .int .i64 L, .int .i64 X, .int .i64 Y], .slice A n cap, .slice PA pn pcap, .int .i64 one, .int .i64 two] w fun e w' => e = .returned (.bool true) ∧ Below w.heap.size w w' := by
  have hn : n ≤ maxLen := Nat.le_trans hcap hcm
  go_enter Tryz.func6, Tryz.ntmps6
  go_upto_region 1 with (fail)
  have hS := Blk.new w 23 #[.int .i64 W, .int .i64 H, .int .i64 F, .int .i64 L, .int .i64 X, .int .i64 Y]
  have hB : Below w.heap.size w (w.alloc (.cells #[.int .i64 W, .int .i64 H, .int .i64 F, .int .i64 L, .int .i64 X, .int .i64 Y] 23)) := (Below.refl _ w).alloc (Nat.le_refl _) _
  generalize w.alloc (.cells #[.int .i64 W, .int .i64 H, .int .i64 F, .int .i64 L, .int .i64 X, .int .i64 Y] 23) = W0 at *
  have qhS := fun i => Blk.cell hS i
  go_wp2_with (first | (go_at_call 39; refine (few_any A n cap fs _ hn (fun f h => ((hf f h).below hB).more hB.size) (rdB hr hB)).mono ?_; rintro e w1 ⟨rfl, rfl⟩; rw [hfw]) | (go_at_call 24; refine (known_true m _ (known_at hm hB)).mono ?_; rintro e w1 ⟨rfl, hb⟩; replace hB := hB.trans (hb.mono hB.size); clear hb))
  go_ret
  exact ⟨rfl, hB⟩
set_option maxRecDepth 100000 in
set_option maxHeartbeats 25600000 in
theorem joins_mid (W H F L X Y one two : Int) (A : Option Addr) (n cap : Nat) (fs : List Fig) (PA : Option Addr) (pn pcap : Nat) (ps : List Pl) (m : Int) (w : World) (hm : w.cell? ⟨0, 0, none⟩ = some (.int .i64 m)) (hcap : n ≤ cap) (hcm : cap ≤ maxLen) (hf : ∀ f ∈ fs, f.ok w w.heap.size) (hr : Rd w w.heap.size 1 A n (fs.map Fig.val)) (hpn : pn ≤ maxLen) (hpr : Rd w w.heap.size 3 PA pn (ps.flatMap plC)) (hfw : fewB fs = true) (h8 : ¬ (8 : Int) < pn) :
    Calls Tryz.prog 6 #[.agg #[.int .i64 W, .int .i64 H, .int .i64 F, .int .i64 L, .int .i64 X, .int .i64 Y], .slice A n cap, .slice PA pn pcap, .int .i64 one, .int .i64 two] w fun e w' => e = .returned (.bool true) ∧ Below w.heap.size w w' := by
  have hn : n ≤ maxLen := Nat.le_trans hcap hcm
  obtain ⟨je, hje⟩ : ∃ x, x = joinedE W H F L X Y fs ps := ⟨_, rfl⟩
  obtain ⟨jl, hjl⟩ : ∃ x, x = joinedL W H F L X Y fs ps := ⟨_, rfl⟩
  have HJE := Lib.hid hje; have HJL := Lib.hid hjl; clear hje hjl
  go_enter Tryz.func6, Tryz.ntmps6
  go_upto_region 1 with (fail)
  have hS := Blk.new w 23 #[.int .i64 W, .int .i64 H, .int .i64 F, .int .i64 L, .int .i64 X, .int .i64 Y]
  have hB : Below w.heap.size w (w.alloc (.cells #[.int .i64 W, .int .i64 H, .int .i64 F, .int .i64 L, .int .i64 X, .int .i64 Y] 23)) := (Below.refl _ w).alloc (Nat.le_refl _) _
  generalize w.alloc (.cells #[.int .i64 W, .int .i64 H, .int .i64 F, .int .i64 L, .int .i64 X, .int .i64 Y] 23) = W0 at *
  have qhS := fun i => Blk.cell hS i
  go_upto_region 4 with (first | (go_at_call 39; refine (few_any A n cap fs _ hn (fun f h => ((hf f h).below hB).more hB.size) (rdB hr hB)).mono ?_; rintro e w1 ⟨rfl, rfl⟩; rw [hfw]) | (go_at_call 40; refine (Joined_any W H F L X Y A n cap fs PA pn pcap ps _ hcap hcm (fun f h => ((hf f h).below hB).more hB.size) (rdB hr hB) (rdB hpr hB)).mono ?_; rintro e w1 ⟨v1, rfl, hIs, hb⟩; obtain ⟨A1, n1, c1, rfl, hn1, hc1, hA⟩ := hIs; rw [← HJL.out] at hA; rw [← HJE.out]; replace hS := hS.below hb hS.lt; replace hB := hB.trans (hb.mono hB.size); (try clear qhS); clear hb; have qhS := fun i => Blk.cell hS i))
  obtain ⟨jb, hjb⟩ : ∃ x, x = joinedB W H F L X Y fs ps := ⟨_, rfl⟩
  have HJB := Lib.hid hjb; clear hjb
  go_cut [55] (fun c wx => c = .bool (!jb) ∧ Blk wx w.heap.size 23 #[.int .i64 W, .int .i64 H, .int .i64 F, .int .i64 L, .int .i64 X, .int .i64 Y] ∧ Rd wx wx.heap.size 1 A1 n1 (jl.map Value.string) ∧ Below w.heap.size w wx)
  case first =>
    cases hst : stageB W H F L X Y
    · as_aux_lemma =>
        have hj : jb = false := by rw [HJB.out, joinedB_eq, hst]; rfl
        subst hj
        clear HJB HJE HJL
        go_wp2_with (first | (go_at_call 27; refine (Stage_any W H F L X Y _).mono ?_; rintro e w1 ⟨rfl, hb⟩; rw [hst]; (try replace hA := rdB hA hb); replace hS := hS.below hb hS.lt; replace hB := hB.trans (hb.mono hB.size); (try clear qhS); clear hb; have qhS := fun i => Blk.cell hS i))
        go_meet
        exact ⟨rfl, hS, hA, hB⟩
    have ⟨⟨a1, a2⟩, ⟨a3, a4⟩, ⟨a5, a6⟩, _⟩ := stageB_nums hst
    cases hfg : figsB fs
    · as_aux_lemma =>
        have hj : jb = false := by rw [HJB.out, joinedB_eq, hst, hfg]; rfl
        subst hj
        clear HJB HJE HJL
        go_wp2_with (first | (go_at_call 27; refine (Stage_any W H F L X Y _).mono ?_; rintro e w1 ⟨rfl, hb⟩; rw [hst]; (try replace hA := rdB hA hb); replace hS := hS.below hb hS.lt; replace hB := hB.trans (hb.mono hB.size); (try clear qhS); clear hb; have qhS := fun i => Blk.cell hS i) | (go_at_call 41; refine (refFigures_any A n cap fs _ hn (fun f h => ((hf f h).below hB).more hB.size) (rdB hr hB)).mono ?_; rintro e w1 ⟨rfl, hb⟩; rw [hfg]; (try replace hA := rdB hA hb); replace hS := hS.below hb hS.lt; replace hB := hB.trans (hb.mono hB.size); (try clear qhS); clear hb; have qhS := fun i => Blk.cell hS i))
        go_meet
        exact ⟨rfl, hS, hA, hB⟩
    have hn6 : n ≤ 6 := by have h := hr.len; rw [← h]; simp [figsB] at hfg; exact hfg.2
    by_cases hne : ¬ pn = n
    · as_aux_lemma =>
        have hj : jb = false := by rw [HJB.out, joinedB_eq, hst, hfg, decide_eq_false (show ¬ ps.length = fs.length by have h1 := hr.len; have h2 := hpr.lenc (by decide) plC_len; omega)]; rfl
        subst hj
        clear HJB HJE HJL
        have hneb : ((pn : Int) != n) = true := by simp; omega
        go_wp2_with (first | (go_at_call 27; refine (Stage_any W H F L X Y _).mono ?_; rintro e w1 ⟨rfl, hb⟩; rw [hst]; (try replace hA := rdB hA hb); replace hS := hS.below hb hS.lt; replace hB := hB.trans (hb.mono hB.size); (try clear qhS); clear hb; have qhS := fun i => Blk.cell hS i) | (go_at_call 41; refine (refFigures_any A n cap fs _ hn (fun f h => ((hf f h).below hB).more hB.size) (rdB hr hB)).mono ?_; rintro e w1 ⟨rfl, hb⟩; rw [hfg]; (try replace hA := rdB hA hb); replace hS := hS.below hb hS.lt; replace hB := hB.trans (hb.mono hB.size); (try clear qhS); clear hb; have qhS := fun i => Blk.cell hS i))
        go_meet
        exact ⟨rfl, hS, hA, hB⟩
    have hneb : ((pn : Int) != n) = false := by simp; omega
    have HX := Lib.hid (show ps.length = fs.length by have h1 := hr.len; have h2 := hpr.lenc (by decide) plC_len; omega)
    have hpn6 : pn ≤ 6 := by omega
    clear hne
    cases hpl : placesB F ps
    all_goals
      as_aux_lemma =>
        have hj := HJB.out
        rw [joinedB_eq, hst, hfg, hpl, decide_eq_true HX.out] at hj
        subst hj
        clear HJB HJE HJL HX
        go_wp2_with (first | (go_at_call 27; refine (Stage_any W H F L X Y _).mono ?_; rintro e w1 ⟨rfl, hb⟩; rw [hst]; (try replace hA := rdB hA hb); replace hS := hS.below hb hS.lt; replace hB := hB.trans (hb.mono hB.size); (try clear qhS); clear hb; have qhS := fun i => Blk.cell hS i) | (go_at_call 41; refine (refFigures_any A n cap fs _ hn (fun f h => ((hf f h).below hB).more hB.size) (rdB hr hB)).mono ?_; rintro e w1 ⟨rfl, hb⟩; rw [hfg]; (try replace hA := rdB hA hb); replace hS := hS.below hb hS.lt; replace hB := hB.trans (hb.mono hB.size); (try clear qhS); clear hb; have qhS := fun i => Blk.cell hS i) | (go_at_call 42; refine (refPlaces_any W H F L X Y PA pn pcap ps _ hpn6 a5 a6 (rdB hpr hB)).mono ?_; rintro e w1 ⟨rfl, hb⟩; rw [hpl]; (try replace hA := rdB hA hb); replace hS := hS.below hb hS.lt; replace hB := hB.trans (hb.mono hB.size); (try clear qhS); clear hb; have qhS := fun i => Blk.cell hS i))
        go_meet
        exact ⟨rfl, hS, hA, hB⟩
  case rest =>
  obtain ⟨rfl, hS, hA, hB⟩ := hcut
  go_upto_if 55 with (fail)
  go_cut [] (fun wx => Blk wx w.heap.size 23 #[.int .i64 W, .int .i64 H, .int .i64 F, .int .i64 L, .int .i64 X, .int .i64 Y] ∧ Below w.heap.size w wx)
  case first =>
    have qhS := fun i => Blk.cell hS i
    cases jb
    · as_aux_lemma =>
        have hje2 : je = 2 := by rw [HJE.out, joinedE, ← HJB.out]; rfl
        have hl0 : n1 = 0 := by have h := hA.len; rw [HJL.out, joinedL, ← HJB.out] at h; exact h.symm
        subst hje2 hl0
        clear HJB HJE HJL hA
        go_wp2_with (fail)
        go_meet
        exact ⟨hS, hB⟩
    · as_aux_lemma =>
        have hje0 : je = 0 := by rw [HJE.out, joinedE, ← HJB.out]; rfl
        have hjb := HJB.out
        rw [joinedB_eq] at hjb
        have hjb2 := hjb.symm
        simp only [Bool.and_eq_true, decide_eq_true_eq] at hjb2
        obtain ⟨hst, hfg, hlen2, hpl⟩ := hjb2
        have ⟨⟨a1, a2⟩, ⟨a3, a4⟩, ⟨a5, a6⟩, _⟩ := stageB_nums hst
        obtain ⟨Wn, rfl⟩ : ∃ k : Nat, W = k := ⟨W.toNat, by omega⟩
        obtain ⟨Hn, rfl⟩ : ∃ k : Nat, H = k := ⟨H.toNat, by omega⟩
        have hjl2 : jl = rowsOf (jS Wn Hn F L X Y (fs.zip ps)) Wn Hn := by rw [HJL.out, joinedL, ← HJB.out, if_pos rfl, Int.toNat_natCast, Int.toNat_natCast]
        have hall := zip_zok (F := F) hlen2
        rw [hpl, show (fs.all fun f => figB f.rows) = true by simp only [figsB, Bool.and_eq_true] at hfg; exact hfg.1] at hall
        have hn6 : n ≤ 6 := by have h := hr.len; rw [← h]; simp [figsB] at hfg; exact hfg.2
        have hne2 : n = pn := by have h1 := hr.len; have h2 := hpr.lenc (by decide) plC_len; omega
        subst hje0 hne2
        have HJL2 := Lib.hid hjl2; have HAL := Lib.hid hall; clear hjl2 hall HJE HJL HJB hjb hlen2 hpl hfg
        have HN1 := Lib.hid hA.len
        have hn1m : n1 ≤ 100000 := by rw [← HN1.out, HJL2.out, rowsOf_len]; omega
        go_wp2_with (first | (go_at_call 43; refine (refJoined_any Wn Hn F L X Y A n cap fs PA pcap ps _ (fun f h => ((hf f h).below hB).more hB.size) (rdB hr hB) (rdB hpr hB) hst hn6 HAL.out).mono ?_; rintro e w1 ⟨v2, rfl, own2, hb⟩; rw [← HJL2.out] at own2; obtain ⟨A2, c2, rfl⟩ := own_slice own2; have hC := Rd.of_own own2; clear own2; replace hA := rdB hA hb; replace hS := hS.below hb hS.lt; replace hB := hB.trans (hb.mono hB.size); (try clear qhS); clear hb; have qhS := fun i => Blk.cell hS i) | (go_at_call 33; refine (sameCloths_eq A1 A2 n1 c1 Hn c2 jl _ hn1m hA hC).mono ?_; rintro e w1 ⟨rfl, hb⟩; replace hS := hS.below hb hS.lt; replace hB := hB.trans (hb.mono hB.size); (try clear qhS); clear hb; have qhS := fun i => Blk.cell hS i))
        go_meet
        exact ⟨hS, hB⟩
  case rest =>
    obtain ⟨hS, hB⟩ := hcut
    clear HJE HJL HJB hA
    have qhS := fun i => Blk.cell hS i
    by_cases q1 : one < 0
    · as_aux_lemma =>
        go_wp2_with (first | (go_at_call 24; refine (known_true m _ (known_at hm hB)).mono ?_; rintro e w1 ⟨rfl, hb⟩; replace hB := hB.trans (hb.mono hB.size); clear hb))
        go_ret
        exact ⟨rfl, hB⟩
    by_cases q2 : (n : Int) ≤ one
    · as_aux_lemma =>
        go_wp2_with (first | (go_at_call 24; refine (known_true m _ (known_at hm hB)).mono ?_; rintro e w1 ⟨rfl, hb⟩; replace hB := hB.trans (hb.mono hB.size); clear hb))
        go_ret
        exact ⟨rfl, hB⟩
    by_cases q3 : (pn : Int) ≤ one
    · as_aux_lemma =>
        go_wp2_with (first | (go_at_call 24; refine (known_true m _ (known_at hm hB)).mono ?_; rintro e w1 ⟨rfl, hb⟩; replace hB := hB.trans (hb.mono hB.size); clear hb))
        go_ret
        exact ⟨rfl, hB⟩
    by_cases q4 : two < 0
    · as_aux_lemma =>
        go_wp2_with (first | (go_at_call 24; refine (known_true m _ (known_at hm hB)).mono ?_; rintro e w1 ⟨rfl, hb⟩; replace hB := hB.trans (hb.mono hB.size); clear hb))
        go_ret
        exact ⟨rfl, hB⟩
    by_cases q5 : (n : Int) ≤ two
    · as_aux_lemma =>
        go_wp2_with (first | (go_at_call 24; refine (known_true m _ (known_at hm hB)).mono ?_; rintro e w1 ⟨rfl, hb⟩; replace hB := hB.trans (hb.mono hB.size); clear hb))
        go_ret
        exact ⟨rfl, hB⟩
    by_cases q6 : (pn : Int) ≤ two
    · as_aux_lemma =>
        go_wp2_with (first | (go_at_call 24; refine (known_true m _ (known_at hm hB)).mono ?_; rintro e w1 ⟨rfl, hb⟩; replace hB := hB.trans (hb.mono hB.size); clear hb))
        go_ret
        exact ⟨rfl, hB⟩
    obtain ⟨i1, rfl⟩ : ∃ k : Nat, one = k := ⟨one.toNat, by omega⟩
    obtain ⟨i2, rfl⟩ : ∃ k : Nat, two = k := ⟨two.toNat, by omega⟩
    have hlen := hr.len
    have hpl := hpr.lenc (by decide) plC_len
    have g1 : i1 < fs.length := by omega
    have g2 : i2 < fs.length := by omega
    have g3 : i1 < ps.length := by omega
    have g4 : i2 < ps.length := by omega
    go_upto_region 11 with (fail)
    obtain ⟨b, off, rfl, hb, hcf⟩ := (rdB hr hB).2 (by omega)
    obtain ⟨b2, off2, rfl, hb2, hcp⟩ := (rdB hpr hB).2 (by omega)
    have c1 := hcf i1 (Fig.val fs[i1]) (by simp [g1])
    have c2 := hcf i2 (Fig.val fs[i2]) (by simp [g2])
    have c3 : wc.cell? ⟨b2, off2 + i1 * 3, none⟩ = some (.int .i64 (ps[i1]).n) := hcp (i1 * 3 + 0) _ (flatc_at plC 3 plC_len ps i1 0 g3 (by decide))
    have c4 : wc.cell? ⟨b2, off2 + i1 * 3 + 1, none⟩ = some (.int .i64 (ps[i1]).x) := hcp (i1 * 3 + 1) _ (flatc_at plC 3 plC_len ps i1 1 g3 (by decide))
    have c5 : wc.cell? ⟨b2, off2 + i1 * 3 + 2, none⟩ = some (.int .i64 (ps[i1]).y) := hcp (i1 * 3 + 2) _ (flatc_at plC 3 plC_len ps i1 2 g3 (by decide))
    have c6 : wc.cell? ⟨b2, off2 + i2 * 3, none⟩ = some (.int .i64 (ps[i2]).n) := hcp (i2 * 3 + 0) _ (flatc_at plC 3 plC_len ps i2 0 g4 (by decide))
    have c7 : wc.cell? ⟨b2, off2 + i2 * 3 + 1, none⟩ = some (.int .i64 (ps[i2]).x) := hcp (i2 * 3 + 1) _ (flatc_at plC 3 plC_len ps i2 1 g4 (by decide))
    have c8 : wc.cell? ⟨b2, off2 + i2 * 3 + 2, none⟩ = some (.int .i64 (ps[i2]).y) := hcp (i2 * 3 + 2) _ (flatc_at plC 3 plC_len ps i2 2 g4 (by decide))
    have hf1 := hf _ (List.getElem_mem g1)
    have hf2 := hf _ (List.getElem_mem g2)
    have hi1 : (i1 : Int) < n := by omega
    have hi2 : (i2 : Int) < n := by omega
    have hi3 : (i1 : Int) < pn := by omega
    have hi4 : (i2 : Int) < pn := by omega
    clear hcf hcp qhS q1 q2 q3 q4 q5 q6 hlen hpl hr hpr
    generalize fs[i1] = f1 at *
    generalize fs[i2] = f2 at *
    generalize ps[i1] = p1 at *
    generalize ps[i2] = p2 at *
    clear g1 g2 g3 g4 hf
    obtain ⟨A1, n1, cap1, rows1⟩ := f1
    obtain ⟨A2, n2, cap2, rows2⟩ := f2
    obtain ⟨N1, PX1, PY1⟩ := p1
    obtain ⟨N2, PX2, PY2⟩ := p2
    simp only [Fig.val] at c1 c2
    dsimp only at c3 c4 c5 c6 c7 c8
    obtain ⟨hc11, hc12, hs1, hR1⟩ := hf1
    obtain ⟨hc21, hc22, hs2, hR2⟩ := hf2
    dsimp only at hc11 hc12 hs1 hR1 hc21 hc22 hs2 hR2
    have hnf1 : n1 ≤ maxLen := Nat.le_trans hc11 hc12
    have hnf2 : n2 ≤ maxLen := Nat.le_trans hc21 hc22
    refine wp_region_G (fun w' => Below wc.heap.size wc w') 23 (by kernel_rfl) ?_
    have hTT : Below wc.heap.size wc wc.drew := (Below.refl _ _).drew
    refine wpG_take (i := 0) (v := ?v0) rfl (by kernel_rfl) (by kernel_rfl) (by kernel_rfl) (by kernel_rfl) (fun _ _ _ h => h) (Or.inl ⟨by rfl, ?hy0⟩) hTT ?rest0
    case hy0 => intro wq hSw; have e1 := (hSw.cell (p := ⟨b, off + i1, none⟩) hb).trans c1; have e2 := (hSw.cell (p := ⟨b, off + i2, none⟩) hb).trans c2; have e3 := (hSw.cell (p := ⟨b2, off2 + i1 * 3, none⟩) hb2).trans c3; have e4 := (hSw.cell (p := ⟨b2, off2 + i1 * 3 + 1, none⟩) hb2).trans c4; have e5 := (hSw.cell (p := ⟨b2, off2 + i1 * 3 + 2, none⟩) hb2).trans c5; have e6 := (hSw.cell (p := ⟨b2, off2 + i2 * 3, none⟩) hb2).trans c6; have e7 := (hSw.cell (p := ⟨b2, off2 + i2 * 3 + 1, none⟩) hb2).trans c7; have e8 := (hSw.cell (p := ⟨b2, off2 + i2 * 3 + 2, none⟩) hb2).trans c8; go_simp <;> with_reducible rfl
    simp only [List.getElem_toArray, List.getElem_cons_zero, List.getElem_cons_succ, Act.put, List.setIfInBounds_toArray, List.set_cons_zero, List.set_cons_succ]
    refine wpG_take (i := 1) (v := ?v1) rfl (by kernel_rfl) (by kernel_rfl) (by kernel_rfl) (by kernel_rfl) (fun _ _ _ h => h) (Or.inl ⟨by rfl, ?hy1⟩) hTT ?rest1
    case hy1 => intro wq hSw; have e1 := (hSw.cell (p := ⟨b, off + i1, none⟩) hb).trans c1; have e2 := (hSw.cell (p := ⟨b, off + i2, none⟩) hb).trans c2; have e3 := (hSw.cell (p := ⟨b2, off2 + i1 * 3, none⟩) hb2).trans c3; have e4 := (hSw.cell (p := ⟨b2, off2 + i1 * 3 + 1, none⟩) hb2).trans c4; have e5 := (hSw.cell (p := ⟨b2, off2 + i1 * 3 + 2, none⟩) hb2).trans c5; have e6 := (hSw.cell (p := ⟨b2, off2 + i2 * 3, none⟩) hb2).trans c6; have e7 := (hSw.cell (p := ⟨b2, off2 + i2 * 3 + 1, none⟩) hb2).trans c7; have e8 := (hSw.cell (p := ⟨b2, off2 + i2 * 3 + 2, none⟩) hb2).trans c8; go_simp <;> with_reducible rfl
    simp only [List.getElem_toArray, List.getElem_cons_zero, List.getElem_cons_succ, Act.put, List.setIfInBounds_toArray, List.set_cons_zero, List.set_cons_succ]
    refine wpG_take (i := 2) (v := ?v2) rfl (by kernel_rfl) (by kernel_rfl) (by kernel_rfl) (by kernel_rfl) (fun _ _ _ h => h) (Or.inl ⟨by rfl, ?hy2⟩) hTT ?rest2
    case hy2 => intro wq hSw; have e1 := (hSw.cell (p := ⟨b, off + i1, none⟩) hb).trans c1; have e2 := (hSw.cell (p := ⟨b, off + i2, none⟩) hb).trans c2; have e3 := (hSw.cell (p := ⟨b2, off2 + i1 * 3, none⟩) hb2).trans c3; have e4 := (hSw.cell (p := ⟨b2, off2 + i1 * 3 + 1, none⟩) hb2).trans c4; have e5 := (hSw.cell (p := ⟨b2, off2 + i1 * 3 + 2, none⟩) hb2).trans c5; have e6 := (hSw.cell (p := ⟨b2, off2 + i2 * 3, none⟩) hb2).trans c6; have e7 := (hSw.cell (p := ⟨b2, off2 + i2 * 3 + 1, none⟩) hb2).trans c7; have e8 := (hSw.cell (p := ⟨b2, off2 + i2 * 3 + 2, none⟩) hb2).trans c8; go_simp <;> with_reducible rfl
    simp only [List.getElem_toArray, List.getElem_cons_zero, List.getElem_cons_succ, Act.put, List.setIfInBounds_toArray, List.set_cons_zero, List.set_cons_succ]
    refine wpG_take (i := 3) (v := ?v3) rfl (by kernel_rfl) (by kernel_rfl) (by kernel_rfl) (by kernel_rfl) (fun _ _ _ h => h) (Or.inl ⟨by rfl, ?hy3⟩) hTT ?rest3
    case hy3 => intro wq hSw; have e1 := (hSw.cell (p := ⟨b, off + i1, none⟩) hb).trans c1; have e2 := (hSw.cell (p := ⟨b, off + i2, none⟩) hb).trans c2; have e3 := (hSw.cell (p := ⟨b2, off2 + i1 * 3, none⟩) hb2).trans c3; have e4 := (hSw.cell (p := ⟨b2, off2 + i1 * 3 + 1, none⟩) hb2).trans c4; have e5 := (hSw.cell (p := ⟨b2, off2 + i1 * 3 + 2, none⟩) hb2).trans c5; have e6 := (hSw.cell (p := ⟨b2, off2 + i2 * 3, none⟩) hb2).trans c6; have e7 := (hSw.cell (p := ⟨b2, off2 + i2 * 3 + 1, none⟩) hb2).trans c7; have e8 := (hSw.cell (p := ⟨b2, off2 + i2 * 3 + 2, none⟩) hb2).trans c8; go_simp <;> with_reducible rfl
    simp only [List.getElem_toArray, List.getElem_cons_zero, List.getElem_cons_succ, Act.put, List.setIfInBounds_toArray, List.set_cons_zero, List.set_cons_succ]
    refine wpG_take (i := 4) (v := ?v4) rfl (by kernel_rfl) (by kernel_rfl) (by kernel_rfl) (by kernel_rfl) (fun _ _ _ h => h) (Or.inl ⟨by rfl, ?hy4⟩) hTT ?rest4
    case hy4 => intro wq hSw; have e1 := (hSw.cell (p := ⟨b, off + i1, none⟩) hb).trans c1; have e2 := (hSw.cell (p := ⟨b, off + i2, none⟩) hb).trans c2; have e3 := (hSw.cell (p := ⟨b2, off2 + i1 * 3, none⟩) hb2).trans c3; have e4 := (hSw.cell (p := ⟨b2, off2 + i1 * 3 + 1, none⟩) hb2).trans c4; have e5 := (hSw.cell (p := ⟨b2, off2 + i1 * 3 + 2, none⟩) hb2).trans c5; have e6 := (hSw.cell (p := ⟨b2, off2 + i2 * 3, none⟩) hb2).trans c6; have e7 := (hSw.cell (p := ⟨b2, off2 + i2 * 3 + 1, none⟩) hb2).trans c7; have e8 := (hSw.cell (p := ⟨b2, off2 + i2 * 3 + 2, none⟩) hb2).trans c8; go_simp <;> with_reducible rfl
    simp only [List.getElem_toArray, List.getElem_cons_zero, List.getElem_cons_succ, Act.put, List.setIfInBounds_toArray, List.set_cons_zero, List.set_cons_succ]
    refine wpG_take (i := 5) (v := ?v5) rfl (by kernel_rfl) (by kernel_rfl) (by kernel_rfl) (by kernel_rfl) (fun _ _ _ h => h) (Or.inl ⟨by rfl, ?hy5⟩) hTT ?rest5
    case hy5 => intro wq hSw; have e1 := (hSw.cell (p := ⟨b, off + i1, none⟩) hb).trans c1; have e2 := (hSw.cell (p := ⟨b, off + i2, none⟩) hb).trans c2; have e3 := (hSw.cell (p := ⟨b2, off2 + i1 * 3, none⟩) hb2).trans c3; have e4 := (hSw.cell (p := ⟨b2, off2 + i1 * 3 + 1, none⟩) hb2).trans c4; have e5 := (hSw.cell (p := ⟨b2, off2 + i1 * 3 + 2, none⟩) hb2).trans c5; have e6 := (hSw.cell (p := ⟨b2, off2 + i2 * 3, none⟩) hb2).trans c6; have e7 := (hSw.cell (p := ⟨b2, off2 + i2 * 3 + 1, none⟩) hb2).trans c7; have e8 := (hSw.cell (p := ⟨b2, off2 + i2 * 3 + 2, none⟩) hb2).trans c8; go_simp <;> with_reducible rfl
    simp only [List.getElem_toArray, List.getElem_cons_zero, List.getElem_cons_succ, Act.put, List.setIfInBounds_toArray, List.set_cons_zero, List.set_cons_succ]
    refine wpG_take (i := 6) (v := ?v6) rfl (by kernel_rfl) (by kernel_rfl) (by kernel_rfl) (by kernel_rfl) (fun _ _ _ h => h) (Or.inl ⟨by rfl, ?hy6⟩) hTT ?rest6
    case hy6 => intro wq hSw; have e1 := (hSw.cell (p := ⟨b, off + i1, none⟩) hb).trans c1; have e2 := (hSw.cell (p := ⟨b, off + i2, none⟩) hb).trans c2; have e3 := (hSw.cell (p := ⟨b2, off2 + i1 * 3, none⟩) hb2).trans c3; have e4 := (hSw.cell (p := ⟨b2, off2 + i1 * 3 + 1, none⟩) hb2).trans c4; have e5 := (hSw.cell (p := ⟨b2, off2 + i1 * 3 + 2, none⟩) hb2).trans c5; have e6 := (hSw.cell (p := ⟨b2, off2 + i2 * 3, none⟩) hb2).trans c6; have e7 := (hSw.cell (p := ⟨b2, off2 + i2 * 3 + 1, none⟩) hb2).trans c7; have e8 := (hSw.cell (p := ⟨b2, off2 + i2 * 3 + 2, none⟩) hb2).trans c8; go_simp <;> with_reducible rfl
    simp only [List.getElem_toArray, List.getElem_cons_zero, List.getElem_cons_succ, Act.put, List.setIfInBounds_toArray, List.set_cons_zero, List.set_cons_succ]
    refine wpG_take (i := 7) (v := ?v7) rfl (by kernel_rfl) (by kernel_rfl) (by kernel_rfl) (by kernel_rfl) (fun _ _ _ h => h) (Or.inl ⟨by rfl, ?hy7⟩) hTT ?rest7
    case hy7 => intro wq hSw; have e1 := (hSw.cell (p := ⟨b, off + i1, none⟩) hb).trans c1; have e2 := (hSw.cell (p := ⟨b, off + i2, none⟩) hb).trans c2; have e3 := (hSw.cell (p := ⟨b2, off2 + i1 * 3, none⟩) hb2).trans c3; have e4 := (hSw.cell (p := ⟨b2, off2 + i1 * 3 + 1, none⟩) hb2).trans c4; have e5 := (hSw.cell (p := ⟨b2, off2 + i1 * 3 + 2, none⟩) hb2).trans c5; have e6 := (hSw.cell (p := ⟨b2, off2 + i2 * 3, none⟩) hb2).trans c6; have e7 := (hSw.cell (p := ⟨b2, off2 + i2 * 3 + 1, none⟩) hb2).trans c7; have e8 := (hSw.cell (p := ⟨b2, off2 + i2 * 3 + 2, none⟩) hb2).trans c8; go_simp <;> with_reducible rfl
    simp only [List.getElem_toArray, List.getElem_cons_zero, List.getElem_cons_succ, Act.put, List.setIfInBounds_toArray, List.set_cons_zero, List.set_cons_succ]
    refine wpG_take (i := 8) (v := ?v8) rfl (by kernel_rfl) (by kernel_rfl) (by kernel_rfl) (by kernel_rfl) (fun _ _ _ h => h) (Or.inl ⟨by rfl, ?hy8⟩) hTT ?rest8
    case hy8 => intro wq hSw; have e1 := (hSw.cell (p := ⟨b, off + i1, none⟩) hb).trans c1; have e2 := (hSw.cell (p := ⟨b, off + i2, none⟩) hb).trans c2; have e3 := (hSw.cell (p := ⟨b2, off2 + i1 * 3, none⟩) hb2).trans c3; have e4 := (hSw.cell (p := ⟨b2, off2 + i1 * 3 + 1, none⟩) hb2).trans c4; have e5 := (hSw.cell (p := ⟨b2, off2 + i1 * 3 + 2, none⟩) hb2).trans c5; have e6 := (hSw.cell (p := ⟨b2, off2 + i2 * 3, none⟩) hb2).trans c6; have e7 := (hSw.cell (p := ⟨b2, off2 + i2 * 3 + 1, none⟩) hb2).trans c7; have e8 := (hSw.cell (p := ⟨b2, off2 + i2 * 3 + 2, none⟩) hb2).trans c8; go_simp <;> with_reducible rfl
    simp only [List.getElem_toArray, List.getElem_cons_zero, List.getElem_cons_succ, Act.put, List.setIfInBounds_toArray, List.set_cons_zero, List.set_cons_succ]
    refine wpG_take (i := 9) (v := ?v9) rfl (by kernel_rfl) (by kernel_rfl) (by kernel_rfl) (by kernel_rfl) (fun _ _ _ h => h) (Or.inl ⟨by rfl, ?hy9⟩) hTT ?rest9
    case hy9 => intro wq hSw; have e1 := (hSw.cell (p := ⟨b, off + i1, none⟩) hb).trans c1; have e2 := (hSw.cell (p := ⟨b, off + i2, none⟩) hb).trans c2; have e3 := (hSw.cell (p := ⟨b2, off2 + i1 * 3, none⟩) hb2).trans c3; have e4 := (hSw.cell (p := ⟨b2, off2 + i1 * 3 + 1, none⟩) hb2).trans c4; have e5 := (hSw.cell (p := ⟨b2, off2 + i1 * 3 + 2, none⟩) hb2).trans c5; have e6 := (hSw.cell (p := ⟨b2, off2 + i2 * 3, none⟩) hb2).trans c6; have e7 := (hSw.cell (p := ⟨b2, off2 + i2 * 3 + 1, none⟩) hb2).trans c7; have e8 := (hSw.cell (p := ⟨b2, off2 + i2 * 3 + 2, none⟩) hb2).trans c8; go_simp <;> with_reducible rfl
    simp only [List.getElem_toArray, List.getElem_cons_zero, List.getElem_cons_succ, Act.put, List.setIfInBounds_toArray, List.set_cons_zero, List.set_cons_succ]
    refine wpG_take (i := 10) (v := ?v10) rfl (by kernel_rfl) (by kernel_rfl) (by kernel_rfl) (by kernel_rfl) (fun _ _ _ h => h) (Or.inl ⟨by rfl, ?hy10⟩) hTT ?rest10
    case hy10 => intro wq hSw; have e1 := (hSw.cell (p := ⟨b, off + i1, none⟩) hb).trans c1; have e2 := (hSw.cell (p := ⟨b, off + i2, none⟩) hb).trans c2; have e3 := (hSw.cell (p := ⟨b2, off2 + i1 * 3, none⟩) hb2).trans c3; have e4 := (hSw.cell (p := ⟨b2, off2 + i1 * 3 + 1, none⟩) hb2).trans c4; have e5 := (hSw.cell (p := ⟨b2, off2 + i1 * 3 + 2, none⟩) hb2).trans c5; have e6 := (hSw.cell (p := ⟨b2, off2 + i2 * 3, none⟩) hb2).trans c6; have e7 := (hSw.cell (p := ⟨b2, off2 + i2 * 3 + 1, none⟩) hb2).trans c7; have e8 := (hSw.cell (p := ⟨b2, off2 + i2 * 3 + 2, none⟩) hb2).trans c8; go_simp <;> with_reducible rfl
    simp only [List.getElem_toArray, List.getElem_cons_zero, List.getElem_cons_succ, Act.put, List.setIfInBounds_toArray, List.set_cons_zero, List.set_cons_succ]
    refine wpG_take (i := 11) (v := ?v11) rfl (by kernel_rfl) (by kernel_rfl) (by kernel_rfl) (by kernel_rfl) (fun _ _ _ h => h) (Or.inl ⟨by rfl, ?hy11⟩) hTT ?rest11
    case hy11 => intro wq hSw; have e1 := (hSw.cell (p := ⟨b, off + i1, none⟩) hb).trans c1; have e2 := (hSw.cell (p := ⟨b, off + i2, none⟩) hb).trans c2; have e3 := (hSw.cell (p := ⟨b2, off2 + i1 * 3, none⟩) hb2).trans c3; have e4 := (hSw.cell (p := ⟨b2, off2 + i1 * 3 + 1, none⟩) hb2).trans c4; have e5 := (hSw.cell (p := ⟨b2, off2 + i1 * 3 + 2, none⟩) hb2).trans c5; have e6 := (hSw.cell (p := ⟨b2, off2 + i2 * 3, none⟩) hb2).trans c6; have e7 := (hSw.cell (p := ⟨b2, off2 + i2 * 3 + 1, none⟩) hb2).trans c7; have e8 := (hSw.cell (p := ⟨b2, off2 + i2 * 3 + 2, none⟩) hb2).trans c8; go_simp <;> with_reducible rfl
    simp only [List.getElem_toArray, List.getElem_cons_zero, List.getElem_cons_succ, Act.put, List.setIfInBounds_toArray, List.set_cons_zero, List.set_cons_succ]
    refine wpG_take (i := 12) (v := ?v12) rfl (by kernel_rfl) (by kernel_rfl) (by kernel_rfl) (by kernel_rfl) (fun _ _ _ h => h) (Or.inl ⟨by rfl, ?hy12⟩) hTT ?rest12
    case hy12 => intro wq hSw; have e1 := (hSw.cell (p := ⟨b, off + i1, none⟩) hb).trans c1; have e2 := (hSw.cell (p := ⟨b, off + i2, none⟩) hb).trans c2; have e3 := (hSw.cell (p := ⟨b2, off2 + i1 * 3, none⟩) hb2).trans c3; have e4 := (hSw.cell (p := ⟨b2, off2 + i1 * 3 + 1, none⟩) hb2).trans c4; have e5 := (hSw.cell (p := ⟨b2, off2 + i1 * 3 + 2, none⟩) hb2).trans c5; have e6 := (hSw.cell (p := ⟨b2, off2 + i2 * 3, none⟩) hb2).trans c6; have e7 := (hSw.cell (p := ⟨b2, off2 + i2 * 3 + 1, none⟩) hb2).trans c7; have e8 := (hSw.cell (p := ⟨b2, off2 + i2 * 3 + 2, none⟩) hb2).trans c8; go_simp <;> with_reducible rfl
    simp only [List.getElem_toArray, List.getElem_cons_zero, List.getElem_cons_succ, Act.put, List.setIfInBounds_toArray, List.set_cons_zero, List.set_cons_succ]
    refine wpG_take (i := 13) (v := ?v13) rfl (by kernel_rfl) (by kernel_rfl) (by kernel_rfl) (by kernel_rfl) (fun _ _ _ h => h) (Or.inl ⟨by rfl, ?hy13⟩) hTT ?rest13
    case hy13 => intro wq hSw; have e1 := (hSw.cell (p := ⟨b, off + i1, none⟩) hb).trans c1; have e2 := (hSw.cell (p := ⟨b, off + i2, none⟩) hb).trans c2; have e3 := (hSw.cell (p := ⟨b2, off2 + i1 * 3, none⟩) hb2).trans c3; have e4 := (hSw.cell (p := ⟨b2, off2 + i1 * 3 + 1, none⟩) hb2).trans c4; have e5 := (hSw.cell (p := ⟨b2, off2 + i1 * 3 + 2, none⟩) hb2).trans c5; have e6 := (hSw.cell (p := ⟨b2, off2 + i2 * 3, none⟩) hb2).trans c6; have e7 := (hSw.cell (p := ⟨b2, off2 + i2 * 3 + 1, none⟩) hb2).trans c7; have e8 := (hSw.cell (p := ⟨b2, off2 + i2 * 3 + 2, none⟩) hb2).trans c8; go_simp <;> with_reducible rfl
    simp only [List.getElem_toArray, List.getElem_cons_zero, List.getElem_cons_succ, Act.put, List.setIfInBounds_toArray, List.set_cons_zero, List.set_cons_succ]
    refine wpG_take (i := 14) (v := ?v14) rfl (by kernel_rfl) (by kernel_rfl) (by kernel_rfl) (by kernel_rfl) (fun _ _ _ h => h) (Or.inl ⟨by rfl, ?hy14⟩) hTT ?rest14
    case hy14 => intro wq hSw; have e1 := (hSw.cell (p := ⟨b, off + i1, none⟩) hb).trans c1; have e2 := (hSw.cell (p := ⟨b, off + i2, none⟩) hb).trans c2; have e3 := (hSw.cell (p := ⟨b2, off2 + i1 * 3, none⟩) hb2).trans c3; have e4 := (hSw.cell (p := ⟨b2, off2 + i1 * 3 + 1, none⟩) hb2).trans c4; have e5 := (hSw.cell (p := ⟨b2, off2 + i1 * 3 + 2, none⟩) hb2).trans c5; have e6 := (hSw.cell (p := ⟨b2, off2 + i2 * 3, none⟩) hb2).trans c6; have e7 := (hSw.cell (p := ⟨b2, off2 + i2 * 3 + 1, none⟩) hb2).trans c7; have e8 := (hSw.cell (p := ⟨b2, off2 + i2 * 3 + 2, none⟩) hb2).trans c8; go_simp <;> with_reducible rfl
    simp only [List.getElem_toArray, List.getElem_cons_zero, List.getElem_cons_succ, Act.put, List.setIfInBounds_toArray, List.set_cons_zero, List.set_cons_succ]
    refine wpG_take (i := 15) (v := ?v15) rfl (by kernel_rfl) (by kernel_rfl) (by kernel_rfl) (by kernel_rfl) (fun _ _ _ h => h) (Or.inl ⟨by rfl, ?hy15⟩) hTT ?rest15
    case hy15 => intro wq hSw; have e1 := (hSw.cell (p := ⟨b, off + i1, none⟩) hb).trans c1; have e2 := (hSw.cell (p := ⟨b, off + i2, none⟩) hb).trans c2; have e3 := (hSw.cell (p := ⟨b2, off2 + i1 * 3, none⟩) hb2).trans c3; have e4 := (hSw.cell (p := ⟨b2, off2 + i1 * 3 + 1, none⟩) hb2).trans c4; have e5 := (hSw.cell (p := ⟨b2, off2 + i1 * 3 + 2, none⟩) hb2).trans c5; have e6 := (hSw.cell (p := ⟨b2, off2 + i2 * 3, none⟩) hb2).trans c6; have e7 := (hSw.cell (p := ⟨b2, off2 + i2 * 3 + 1, none⟩) hb2).trans c7; have e8 := (hSw.cell (p := ⟨b2, off2 + i2 * 3 + 2, none⟩) hb2).trans c8; go_simp <;> with_reducible rfl
    simp only [List.getElem_toArray, List.getElem_cons_zero, List.getElem_cons_succ, Act.put, List.setIfInBounds_toArray, List.set_cons_zero, List.set_cons_succ]
    refine makes4 (i0 := 16) (i1 := 17) (i2 := 18) (i3 := 19) (d0 := 13) (d1 := 14) (d2 := 15) (d3 := 16) (t0 := 26) (t1 := 28) (t2 := 26) (t3 := 28) (z0 := #[.slice none 0 0]) (z1 := #[.int .i64 0, .int .i64 0, .int .i64 0]) (z2 := #[.slice none 0 0]) (z3 := #[.int .i64 0, .int .i64 0, .int .i64 0]) ⟨_, rfl, fun a w K hK => by go_simp; exact hK⟩ ⟨_, rfl, fun a w K hK => by go_simp; exact hK⟩ ⟨_, rfl, fun a w K hK => by go_simp; exact hK⟩ ⟨_, rfl, fun a w K hK => by go_simp; exact hK⟩ (by decide) (by decide) (by decide) (by decide) (by decide) (by decide) (by decide) (by decide) (by decide) (by decide) (by decide) (by decide) (by kernel_rfl) (fun w' hb => hTT.trans (hb.mono (Nat.le_refl _))) (fun G1 G2 G3 G4 W2 hb3 l1 l2 l3 l4 n12 n13 n14 n23 n24 n34 b1 bb2 b3 b4 => ?_)
    simp only [List.getElem_toArray, List.getElem_cons_zero, List.getElem_cons_succ, Act.put, List.setIfInBounds_toArray, List.set_cons_zero, List.set_cons_succ]
    replace hTT : Below wc.heap.size wc W2 := hTT.trans (hb3.mono (Nat.le_refl _))
    replace l1 : wc.heap.size ≤ G1 := l1
    replace l2 : wc.heap.size ≤ G2 := l2
    replace l3 : wc.heap.size ≤ G3 := l3
    replace l4 : wc.heap.size ≤ G4 := l4
    clear hb3
    have qa := b1.lt; have qb := fun i => b1.cell i; have qc := fun i => b1.frozen i
    refine wpG_one (i := 20) rfl (by kernel_rfl) (fun K hK => ?_)
    go_simp
    replace bb2 := bb2.far (p := ⟨G1, 0, none⟩) n12.symm (.slice A1 n1 cap1)
    replace b3 := b3.far (p := ⟨G1, 0, none⟩) n13.symm (.slice A1 n1 cap1)
    replace b4 := b4.far (p := ⟨G1, 0, none⟩) n14.symm (.slice A1 n1 cap1)
    replace b1 := blk1s b1 (.slice A1 n1 cap1)
    replace hTT := hTT.setCell (p := ⟨G1, 0, none⟩) l1 (.slice A1 n1 cap1)
    refine hK _ _ (.inr hTT) ?_
    clear hK K qa qb qc
    try simp only [List.getElem_toArray, List.getElem_cons_zero, List.getElem_cons_succ, Act.put, List.setIfInBounds_toArray, List.set_cons_zero, List.set_cons_succ]
    have qa := bb2.lt; have qb := fun i => bb2.cell i; have qc := fun i => bb2.frozen i
    refine wpG_one (i := 21) rfl (by kernel_rfl) (fun K hK => ?_)
    go_simp
    replace b1 := far3s b1 n12 (.int .i64 N1) (.int .i64 PX1) (.int .i64 PY1)
    replace b3 := far3s b3 n23.symm (.int .i64 N1) (.int .i64 PX1) (.int .i64 PY1)
    replace b4 := far3s b4 n24.symm (.int .i64 N1) (.int .i64 PX1) (.int .i64 PY1)
    replace bb2 := blk3s bb2 (.int .i64 N1) (.int .i64 PX1) (.int .i64 PY1)
    replace hTT := below3s hTT l2 (.int .i64 N1) (.int .i64 PX1) (.int .i64 PY1)
    refine hK _ _ (.inr hTT) ?_
    clear hK K qa qb qc
    try simp only [List.getElem_toArray, List.getElem_cons_zero, List.getElem_cons_succ, Act.put, List.setIfInBounds_toArray, List.set_cons_zero, List.set_cons_succ]
    have qa := b3.lt; have qb := fun i => b3.cell i; have qc := fun i => b3.frozen i
    refine wpG_one (i := 22) rfl (by kernel_rfl) (fun K hK => ?_)
    go_simp
    replace b1 := b1.far (p := ⟨G3, 0, none⟩) n13 (.slice A2 n2 cap2)
    replace bb2 := bb2.far (p := ⟨G3, 0, none⟩) n23 (.slice A2 n2 cap2)
    replace b4 := b4.far (p := ⟨G3, 0, none⟩) n34.symm (.slice A2 n2 cap2)
    replace b3 := blk1s b3 (.slice A2 n2 cap2)
    replace hTT := hTT.setCell (p := ⟨G3, 0, none⟩) l3 (.slice A2 n2 cap2)
    refine hK _ _ (.inr hTT) ?_
    clear hK K qa qb qc
    try simp only [List.getElem_toArray, List.getElem_cons_zero, List.getElem_cons_succ, Act.put, List.setIfInBounds_toArray, List.set_cons_zero, List.set_cons_succ]
    have qa := b4.lt; have qb := fun i => b4.cell i; have qc := fun i => b4.frozen i
    refine wpG_one (i := 23) rfl (by kernel_rfl) (fun K hK => ?_)
    go_simp
    replace b1 := far3s b1 n14 (.int .i64 N2) (.int .i64 PX2) (.int .i64 PY2)
    replace bb2 := far3s bb2 n24 (.int .i64 N2) (.int .i64 PX2) (.int .i64 PY2)
    replace b3 := far3s b3 n34 (.int .i64 N2) (.int .i64 PX2) (.int .i64 PY2)
    replace b4 := blk3s b4 (.int .i64 N2) (.int .i64 PX2) (.int .i64 PY2)
    replace hTT := below3s hTT l4 (.int .i64 N2) (.int .i64 PX2) (.int .i64 PY2)
    refine hK _ _ (.inl rfl) ?_
    clear hK K qa qb qc
    try simp only [List.getElem_toArray, List.getElem_cons_zero, List.getElem_cons_succ, Act.put, List.setIfInBounds_toArray, List.set_cons_zero, List.set_cons_succ]
    refine wpG_done (by kernel_rfl) ?_ _
    generalize (((((((W2.setCell ⟨G1, 0, none⟩ (.slice A1 n1 cap1)).setCell ⟨G2, 0, none⟩ (.int .i64 N1)).setCell ⟨G2, 1, none⟩ (.int .i64 PX1)).setCell ⟨G2, 2, none⟩ (.int .i64 PY1)).setCell ⟨G3, 0, none⟩ (.slice A2 n2 cap2)).setCell ⟨G4, 0, none⟩ (.int .i64 N2)).setCell ⟨G4, 1, none⟩ (.int .i64 PX2)).setCell ⟨G4, 2, none⟩ (.int .i64 PY2) = W3 at *
    replace hS := hS.below hTT hS.lt
    have hb5 : Below w.heap.size w W3 := hB.trans (hTT.mono hB.size)
    clear hTT hB l1 l2 l3 l4 n12 n13 n14 n23 n24 n34 c1 c2 c3 c4 c5 c6 c7 c8 hb hb2
    have qhS := fun i => Blk.cell hS i; have q1 := fun i => Blk.cell b1 i; have q2 := fun i => Blk.cell bb2 i; have q3 := fun i => Blk.cell b3 i; have q4 := fun i => Blk.cell b4 i
    obtain ⟨me, hme⟩ : ∃ x, x = meetV (shS W H F L X Y N1 PX1 PY1 rows1) (shS W H F L X Y N2 PX2 PY2 rows2) := ⟨_, rfl⟩
    have HME := Lib.hid hme; clear hme
    cases hst : stageB W H F L X Y
    ·
      as_aux_lemma =>
        have HMR := Lib.hid (show meetsR W H F L X Y N1 PX1 PY1 N2 PX2 PY2 rows1 rows2 = #[.int .i64 0, .int .i64 2] by rw [meetsR, if_neg (by rw [viewB, viewB, hst]; simp)])
        clear HME
        go_wp2_with (first | (go_at_call 44; refine (Meets_any W H F L X Y N1 PX1 PY1 A1 n1 cap1 rows1 N2 PX2 PY2 A2 n2 cap2 rows2 _ hc11 hc12 hs1 (rdB hR1 hb5) hc21 hc22 hs2 (rdB hR2 hb5)).mono ?_; rintro e w1 ⟨rfl, hb⟩; rw [HMR.out]; replace hS := hS.below hb hS.lt; replace b1 := b1.below hb b1.lt; replace bb2 := bb2.below hb bb2.lt; replace b3 := b3.below hb b3.lt; replace b4 := b4.below hb b4.lt; replace hb5 := hb5.trans (hb.mono hb5.size); clear qhS q1 q2 q3 q4 hb; have qhS := fun i => Blk.cell hS i; have q1 := fun i => Blk.cell b1 i; have q2 := fun i => Blk.cell bb2 i; have q3 := fun i => Blk.cell b3 i; have q4 := fun i => Blk.cell b4 i) | (go_at_call 27; refine (Stage_any W H F L X Y _).mono ?_; rintro e w1 ⟨rfl, hb⟩; rw [hst]; replace hS := hS.below hb hS.lt; replace b1 := b1.below hb b1.lt; replace bb2 := bb2.below hb bb2.lt; replace b3 := b3.below hb b3.lt; replace b4 := b4.below hb b4.lt; replace hb5 := hb5.trans (hb.mono hb5.size); clear qhS q1 q2 q3 q4 hb; have qhS := fun i => Blk.cell hS i; have q1 := fun i => Blk.cell b1 i; have q2 := fun i => Blk.cell bb2 i; have q3 := fun i => Blk.cell b3 i; have q4 := fun i => Blk.cell b4 i) | (go_at_call 24; refine (known_true m _ (known_at hm hb5)).mono ?_; rintro e w1 ⟨rfl, hb⟩; replace hb5 := hb5.trans (hb.mono hb5.size); clear hb))
        go_ret
        exact ⟨rfl, hb5⟩
    have ⟨⟨a1, a2⟩, ⟨a3, a4⟩, ⟨a5, a6⟩, _⟩ := stageB_nums hst
    cases hfg1 : figB rows1
    ·
      as_aux_lemma =>
        have HMR := Lib.hid (show meetsR W H F L X Y N1 PX1 PY1 N2 PX2 PY2 rows1 rows2 = #[.int .i64 0, .int .i64 2] by rw [meetsR, if_neg (by rw [viewB, viewB, hst, hfg1]; simp)])
        clear HME
        go_wp2_with (first | (go_at_call 44; refine (Meets_any W H F L X Y N1 PX1 PY1 A1 n1 cap1 rows1 N2 PX2 PY2 A2 n2 cap2 rows2 _ hc11 hc12 hs1 (rdB hR1 hb5) hc21 hc22 hs2 (rdB hR2 hb5)).mono ?_; rintro e w1 ⟨rfl, hb⟩; rw [HMR.out]; replace hS := hS.below hb hS.lt; replace b1 := b1.below hb b1.lt; replace bb2 := bb2.below hb bb2.lt; replace b3 := b3.below hb b3.lt; replace b4 := b4.below hb b4.lt; replace hb5 := hb5.trans (hb.mono hb5.size); clear qhS q1 q2 q3 q4 hb; have qhS := fun i => Blk.cell hS i; have q1 := fun i => Blk.cell b1 i; have q2 := fun i => Blk.cell bb2 i; have q3 := fun i => Blk.cell b3 i; have q4 := fun i => Blk.cell b4 i) | (go_at_call 27; refine (Stage_any W H F L X Y _).mono ?_; rintro e w1 ⟨rfl, hb⟩; rw [hst]; replace hS := hS.below hb hS.lt; replace b1 := b1.below hb b1.lt; replace bb2 := bb2.below hb bb2.lt; replace b3 := b3.below hb b3.lt; replace b4 := b4.below hb b4.lt; replace hb5 := hb5.trans (hb.mono hb5.size); clear qhS q1 q2 q3 q4 hb; have qhS := fun i => Blk.cell hS i; have q1 := fun i => Blk.cell b1 i; have q2 := fun i => Blk.cell bb2 i; have q3 := fun i => Blk.cell b3 i; have q4 := fun i => Blk.cell b4 i) | (go_at_call 28; refine (refFigure_any A1 n1 cap1 rows1 _ hnf1 hs1 (rdB hR1 hb5)).mono ?_; rintro e w1 ⟨rfl, hb⟩; rw [hfg1]; have hd1 : (0 : Nat) = 0 := rfl; replace hS := hS.below hb hS.lt; replace b1 := b1.below hb b1.lt; replace bb2 := bb2.below hb bb2.lt; replace b3 := b3.below hb b3.lt; replace b4 := b4.below hb b4.lt; replace hb5 := hb5.trans (hb.mono hb5.size); clear qhS q1 q2 q3 q4 hb; have qhS := fun i => Blk.cell hS i; have q1 := fun i => Blk.cell b1 i; have q2 := fun i => Blk.cell bb2 i; have q3 := fun i => Blk.cell b3 i; have q4 := fun i => Blk.cell b4 i) | (go_at_call 24; refine (known_true m _ (known_at hm hb5)).mono ?_; rintro e w1 ⟨rfl, hb⟩; replace hb5 := hb5.trans (hb.mono hb5.size); clear hb))
        go_ret
        exact ⟨rfl, hb5⟩
    cases hpl1 : placeB F N1 PX1 PY1
    ·
      as_aux_lemma =>
        have HMR := Lib.hid (show meetsR W H F L X Y N1 PX1 PY1 N2 PX2 PY2 rows1 rows2 = #[.int .i64 0, .int .i64 2] by rw [meetsR, if_neg (by rw [viewB, viewB, hst, hfg1, hpl1]; simp)])
        clear HME
        go_wp2_with (first | (go_at_call 44; refine (Meets_any W H F L X Y N1 PX1 PY1 A1 n1 cap1 rows1 N2 PX2 PY2 A2 n2 cap2 rows2 _ hc11 hc12 hs1 (rdB hR1 hb5) hc21 hc22 hs2 (rdB hR2 hb5)).mono ?_; rintro e w1 ⟨rfl, hb⟩; rw [HMR.out]; replace hS := hS.below hb hS.lt; replace b1 := b1.below hb b1.lt; replace bb2 := bb2.below hb bb2.lt; replace b3 := b3.below hb b3.lt; replace b4 := b4.below hb b4.lt; replace hb5 := hb5.trans (hb.mono hb5.size); clear qhS q1 q2 q3 q4 hb; have qhS := fun i => Blk.cell hS i; have q1 := fun i => Blk.cell b1 i; have q2 := fun i => Blk.cell bb2 i; have q3 := fun i => Blk.cell b3 i; have q4 := fun i => Blk.cell b4 i) | (go_at_call 27; refine (Stage_any W H F L X Y _).mono ?_; rintro e w1 ⟨rfl, hb⟩; rw [hst]; replace hS := hS.below hb hS.lt; replace b1 := b1.below hb b1.lt; replace bb2 := bb2.below hb bb2.lt; replace b3 := b3.below hb b3.lt; replace b4 := b4.below hb b4.lt; replace hb5 := hb5.trans (hb.mono hb5.size); clear qhS q1 q2 q3 q4 hb; have qhS := fun i => Blk.cell hS i; have q1 := fun i => Blk.cell b1 i; have q2 := fun i => Blk.cell bb2 i; have q3 := fun i => Blk.cell b3 i; have q4 := fun i => Blk.cell b4 i) | (go_at_call 31; have hx := hd1; clear hx; refine (Place_any W H F L X Y N1 PX1 PY1 _ a5 a6).mono ?_; rintro e w1 ⟨rfl, hb⟩; rw [hpl1]; clear hd1; have hd2 : (0 : Nat) = 0 := rfl; replace hS := hS.below hb hS.lt; replace b1 := b1.below hb b1.lt; replace bb2 := bb2.below hb bb2.lt; replace b3 := b3.below hb b3.lt; replace b4 := b4.below hb b4.lt; replace hb5 := hb5.trans (hb.mono hb5.size); clear qhS q1 q2 q3 q4 hb; have qhS := fun i => Blk.cell hS i; have q1 := fun i => Blk.cell b1 i; have q2 := fun i => Blk.cell bb2 i; have q3 := fun i => Blk.cell b3 i; have q4 := fun i => Blk.cell b4 i) | (go_at_call 28; refine (refFigure_any A1 n1 cap1 rows1 _ hnf1 hs1 (rdB hR1 hb5)).mono ?_; rintro e w1 ⟨rfl, hb⟩; rw [hfg1]; have hd1 : (0 : Nat) = 0 := rfl; replace hS := hS.below hb hS.lt; replace b1 := b1.below hb b1.lt; replace bb2 := bb2.below hb bb2.lt; replace b3 := b3.below hb b3.lt; replace b4 := b4.below hb b4.lt; replace hb5 := hb5.trans (hb.mono hb5.size); clear qhS q1 q2 q3 q4 hb; have qhS := fun i => Blk.cell hS i; have q1 := fun i => Blk.cell b1 i; have q2 := fun i => Blk.cell bb2 i; have q3 := fun i => Blk.cell b3 i; have q4 := fun i => Blk.cell b4 i) | (go_at_call 24; refine (known_true m _ (known_at hm hb5)).mono ?_; rintro e w1 ⟨rfl, hb⟩; replace hb5 := hb5.trans (hb.mono hb5.size); clear hb))
        go_ret
        exact ⟨rfl, hb5⟩
    cases hfg2 : figB rows2
    ·
      as_aux_lemma =>
        have HMR := Lib.hid (show meetsR W H F L X Y N1 PX1 PY1 N2 PX2 PY2 rows1 rows2 = #[.int .i64 0, .int .i64 2] by rw [meetsR, if_neg (by rw [viewB, viewB, hst, hfg1, hpl1, hfg2]; simp)])
        clear HME
        go_wp2_with (first | (go_at_call 44; refine (Meets_any W H F L X Y N1 PX1 PY1 A1 n1 cap1 rows1 N2 PX2 PY2 A2 n2 cap2 rows2 _ hc11 hc12 hs1 (rdB hR1 hb5) hc21 hc22 hs2 (rdB hR2 hb5)).mono ?_; rintro e w1 ⟨rfl, hb⟩; rw [HMR.out]; replace hS := hS.below hb hS.lt; replace b1 := b1.below hb b1.lt; replace bb2 := bb2.below hb bb2.lt; replace b3 := b3.below hb b3.lt; replace b4 := b4.below hb b4.lt; replace hb5 := hb5.trans (hb.mono hb5.size); clear qhS q1 q2 q3 q4 hb; have qhS := fun i => Blk.cell hS i; have q1 := fun i => Blk.cell b1 i; have q2 := fun i => Blk.cell bb2 i; have q3 := fun i => Blk.cell b3 i; have q4 := fun i => Blk.cell b4 i) | (go_at_call 27; refine (Stage_any W H F L X Y _).mono ?_; rintro e w1 ⟨rfl, hb⟩; rw [hst]; replace hS := hS.below hb hS.lt; replace b1 := b1.below hb b1.lt; replace bb2 := bb2.below hb bb2.lt; replace b3 := b3.below hb b3.lt; replace b4 := b4.below hb b4.lt; replace hb5 := hb5.trans (hb.mono hb5.size); clear qhS q1 q2 q3 q4 hb; have qhS := fun i => Blk.cell hS i; have q1 := fun i => Blk.cell b1 i; have q2 := fun i => Blk.cell bb2 i; have q3 := fun i => Blk.cell b3 i; have q4 := fun i => Blk.cell b4 i) | (go_at_call 31; have hx := hd1; clear hx; refine (Place_any W H F L X Y N1 PX1 PY1 _ a5 a6).mono ?_; rintro e w1 ⟨rfl, hb⟩; rw [hpl1]; clear hd1; have hd2 : (0 : Nat) = 0 := rfl; replace hS := hS.below hb hS.lt; replace b1 := b1.below hb b1.lt; replace bb2 := bb2.below hb bb2.lt; replace b3 := b3.below hb b3.lt; replace b4 := b4.below hb b4.lt; replace hb5 := hb5.trans (hb.mono hb5.size); clear qhS q1 q2 q3 q4 hb; have qhS := fun i => Blk.cell hS i; have q1 := fun i => Blk.cell b1 i; have q2 := fun i => Blk.cell bb2 i; have q3 := fun i => Blk.cell b3 i; have q4 := fun i => Blk.cell b4 i) | (go_at_call 28; have hx := hd2; clear hx; refine (refFigure_any A2 n2 cap2 rows2 _ hnf2 hs2 (rdB hR2 hb5)).mono ?_; rintro e w1 ⟨rfl, hb⟩; rw [hfg2]; replace hS := hS.below hb hS.lt; replace b1 := b1.below hb b1.lt; replace bb2 := bb2.below hb bb2.lt; replace b3 := b3.below hb b3.lt; replace b4 := b4.below hb b4.lt; replace hb5 := hb5.trans (hb.mono hb5.size); clear qhS q1 q2 q3 q4 hb; have qhS := fun i => Blk.cell hS i; have q1 := fun i => Blk.cell b1 i; have q2 := fun i => Blk.cell bb2 i; have q3 := fun i => Blk.cell b3 i; have q4 := fun i => Blk.cell b4 i) | (go_at_call 28; refine (refFigure_any A1 n1 cap1 rows1 _ hnf1 hs1 (rdB hR1 hb5)).mono ?_; rintro e w1 ⟨rfl, hb⟩; rw [hfg1]; have hd1 : (0 : Nat) = 0 := rfl; replace hS := hS.below hb hS.lt; replace b1 := b1.below hb b1.lt; replace bb2 := bb2.below hb bb2.lt; replace b3 := b3.below hb b3.lt; replace b4 := b4.below hb b4.lt; replace hb5 := hb5.trans (hb.mono hb5.size); clear qhS q1 q2 q3 q4 hb; have qhS := fun i => Blk.cell hS i; have q1 := fun i => Blk.cell b1 i; have q2 := fun i => Blk.cell bb2 i; have q3 := fun i => Blk.cell b3 i; have q4 := fun i => Blk.cell b4 i) | (go_at_call 24; refine (known_true m _ (known_at hm hb5)).mono ?_; rintro e w1 ⟨rfl, hb⟩; replace hb5 := hb5.trans (hb.mono hb5.size); clear hb))
        go_ret
        exact ⟨rfl, hb5⟩
    cases hpl2 : placeB F N2 PX2 PY2
    ·
      as_aux_lemma =>
        have HMR := Lib.hid (show meetsR W H F L X Y N1 PX1 PY1 N2 PX2 PY2 rows1 rows2 = #[.int .i64 0, .int .i64 2] by rw [meetsR, if_neg (by rw [viewB, viewB, hst, hfg1, hpl1, hfg2, hpl2]; simp)])
        clear HME
        go_wp2_with (first | (go_at_call 44; refine (Meets_any W H F L X Y N1 PX1 PY1 A1 n1 cap1 rows1 N2 PX2 PY2 A2 n2 cap2 rows2 _ hc11 hc12 hs1 (rdB hR1 hb5) hc21 hc22 hs2 (rdB hR2 hb5)).mono ?_; rintro e w1 ⟨rfl, hb⟩; rw [HMR.out]; replace hS := hS.below hb hS.lt; replace b1 := b1.below hb b1.lt; replace bb2 := bb2.below hb bb2.lt; replace b3 := b3.below hb b3.lt; replace b4 := b4.below hb b4.lt; replace hb5 := hb5.trans (hb.mono hb5.size); clear qhS q1 q2 q3 q4 hb; have qhS := fun i => Blk.cell hS i; have q1 := fun i => Blk.cell b1 i; have q2 := fun i => Blk.cell bb2 i; have q3 := fun i => Blk.cell b3 i; have q4 := fun i => Blk.cell b4 i) | (go_at_call 27; refine (Stage_any W H F L X Y _).mono ?_; rintro e w1 ⟨rfl, hb⟩; rw [hst]; replace hS := hS.below hb hS.lt; replace b1 := b1.below hb b1.lt; replace bb2 := bb2.below hb bb2.lt; replace b3 := b3.below hb b3.lt; replace b4 := b4.below hb b4.lt; replace hb5 := hb5.trans (hb.mono hb5.size); clear qhS q1 q2 q3 q4 hb; have qhS := fun i => Blk.cell hS i; have q1 := fun i => Blk.cell b1 i; have q2 := fun i => Blk.cell bb2 i; have q3 := fun i => Blk.cell b3 i; have q4 := fun i => Blk.cell b4 i) | (go_at_call 31; have hx := hd1; clear hx; refine (Place_any W H F L X Y N1 PX1 PY1 _ a5 a6).mono ?_; rintro e w1 ⟨rfl, hb⟩; rw [hpl1]; clear hd1; have hd2 : (0 : Nat) = 0 := rfl; replace hS := hS.below hb hS.lt; replace b1 := b1.below hb b1.lt; replace bb2 := bb2.below hb bb2.lt; replace b3 := b3.below hb b3.lt; replace b4 := b4.below hb b4.lt; replace hb5 := hb5.trans (hb.mono hb5.size); clear qhS q1 q2 q3 q4 hb; have qhS := fun i => Blk.cell hS i; have q1 := fun i => Blk.cell b1 i; have q2 := fun i => Blk.cell bb2 i; have q3 := fun i => Blk.cell b3 i; have q4 := fun i => Blk.cell b4 i) | (go_at_call 31; refine (Place_any W H F L X Y N2 PX2 PY2 _ a5 a6).mono ?_; rintro e w1 ⟨rfl, hb⟩; rw [hpl2]; replace hS := hS.below hb hS.lt; replace b1 := b1.below hb b1.lt; replace bb2 := bb2.below hb bb2.lt; replace b3 := b3.below hb b3.lt; replace b4 := b4.below hb b4.lt; replace hb5 := hb5.trans (hb.mono hb5.size); clear qhS q1 q2 q3 q4 hb; have qhS := fun i => Blk.cell hS i; have q1 := fun i => Blk.cell b1 i; have q2 := fun i => Blk.cell bb2 i; have q3 := fun i => Blk.cell b3 i; have q4 := fun i => Blk.cell b4 i) | (go_at_call 28; have hx := hd2; clear hx; refine (refFigure_any A2 n2 cap2 rows2 _ hnf2 hs2 (rdB hR2 hb5)).mono ?_; rintro e w1 ⟨rfl, hb⟩; rw [hfg2]; replace hS := hS.below hb hS.lt; replace b1 := b1.below hb b1.lt; replace bb2 := bb2.below hb bb2.lt; replace b3 := b3.below hb b3.lt; replace b4 := b4.below hb b4.lt; replace hb5 := hb5.trans (hb.mono hb5.size); clear qhS q1 q2 q3 q4 hb; have qhS := fun i => Blk.cell hS i; have q1 := fun i => Blk.cell b1 i; have q2 := fun i => Blk.cell bb2 i; have q3 := fun i => Blk.cell b3 i; have q4 := fun i => Blk.cell b4 i) | (go_at_call 28; refine (refFigure_any A1 n1 cap1 rows1 _ hnf1 hs1 (rdB hR1 hb5)).mono ?_; rintro e w1 ⟨rfl, hb⟩; rw [hfg1]; have hd1 : (0 : Nat) = 0 := rfl; replace hS := hS.below hb hS.lt; replace b1 := b1.below hb b1.lt; replace bb2 := bb2.below hb bb2.lt; replace b3 := b3.below hb b3.lt; replace b4 := b4.below hb b4.lt; replace hb5 := hb5.trans (hb.mono hb5.size); clear qhS q1 q2 q3 q4 hb; have qhS := fun i => Blk.cell hS i; have q1 := fun i => Blk.cell b1 i; have q2 := fun i => Blk.cell bb2 i; have q3 := fun i => Blk.cell b3 i; have q4 := fun i => Blk.cell b4 i) | (go_at_call 24; refine (known_true m _ (known_at hm hb5)).mono ?_; rintro e w1 ⟨rfl, hb⟩; replace hb5 := hb5.trans (hb.mono hb5.size); clear hb))
        go_ret
        exact ⟨rfl, hb5⟩
    obtain ⟨Wn, rfl⟩ : ∃ k : Nat, W = k := ⟨W.toNat, by omega⟩
    obtain ⟨Hn, rfl⟩ : ∃ k : Nat, H = k := ⟨H.toNat, by omega⟩
    have hv1 : viewB Wn Hn F L X Y N1 PX1 PY1 rows1 = true := viewB_of hst hfg1 hpl1
    have hv2 : viewB Wn Hn F L X Y N2 PX2 PY2 rows2 = true := viewB_of hst hfg2 hpl2
    have HMR := Lib.hid (show meetsR Wn Hn F L X Y N1 PX1 PY1 N2 PX2 PY2 rows1 rows2 = #[.int .i64 me, .int .i64 0] by rw [meetsR, hv1, hv2, HME.out]; rfl)
    go_wp2_with (first | (go_at_call 44; refine (Meets_any Wn Hn F L X Y N1 PX1 PY1 A1 n1 cap1 rows1 N2 PX2 PY2 A2 n2 cap2 rows2 _ hc11 hc12 hs1 (rdB hR1 hb5) hc21 hc22 hs2 (rdB hR2 hb5)).mono ?_; rintro e w1 ⟨rfl, hb⟩; rw [HMR.out]; replace hS := hS.below hb hS.lt; replace b1 := b1.below hb b1.lt; replace bb2 := bb2.below hb bb2.lt; replace b3 := b3.below hb b3.lt; replace b4 := b4.below hb b4.lt; replace hb5 := hb5.trans (hb.mono hb5.size); clear qhS q1 q2 q3 q4 hb; have qhS := fun i => Blk.cell hS i; have q1 := fun i => Blk.cell b1 i; have q2 := fun i => Blk.cell bb2 i; have q3 := fun i => Blk.cell b3 i; have q4 := fun i => Blk.cell b4 i) | (go_at_call 27; refine (Stage_any Wn Hn F L X Y _).mono ?_; rintro e w1 ⟨rfl, hb⟩; rw [hst]; replace hS := hS.below hb hS.lt; replace b1 := b1.below hb b1.lt; replace bb2 := bb2.below hb bb2.lt; replace b3 := b3.below hb b3.lt; replace b4 := b4.below hb b4.lt; replace hb5 := hb5.trans (hb.mono hb5.size); clear qhS q1 q2 q3 q4 hb; have qhS := fun i => Blk.cell hS i; have q1 := fun i => Blk.cell b1 i; have q2 := fun i => Blk.cell bb2 i; have q3 := fun i => Blk.cell b3 i; have q4 := fun i => Blk.cell b4 i) | (go_at_call 31; have hx := hd1; clear hx; refine (Place_any Wn Hn F L X Y N1 PX1 PY1 _ a5 a6).mono ?_; rintro e w1 ⟨rfl, hb⟩; rw [hpl1]; clear hd1; have hd2 : (0 : Nat) = 0 := rfl; replace hS := hS.below hb hS.lt; replace b1 := b1.below hb b1.lt; replace bb2 := bb2.below hb bb2.lt; replace b3 := b3.below hb b3.lt; replace b4 := b4.below hb b4.lt; replace hb5 := hb5.trans (hb.mono hb5.size); clear qhS q1 q2 q3 q4 hb; have qhS := fun i => Blk.cell hS i; have q1 := fun i => Blk.cell b1 i; have q2 := fun i => Blk.cell bb2 i; have q3 := fun i => Blk.cell b3 i; have q4 := fun i => Blk.cell b4 i) | (go_at_call 31; refine (Place_any Wn Hn F L X Y N2 PX2 PY2 _ a5 a6).mono ?_; rintro e w1 ⟨rfl, hb⟩; rw [hpl2]; replace hS := hS.below hb hS.lt; replace b1 := b1.below hb b1.lt; replace bb2 := bb2.below hb bb2.lt; replace b3 := b3.below hb b3.lt; replace b4 := b4.below hb b4.lt; replace hb5 := hb5.trans (hb.mono hb5.size); clear qhS q1 q2 q3 q4 hb; have qhS := fun i => Blk.cell hS i; have q1 := fun i => Blk.cell b1 i; have q2 := fun i => Blk.cell bb2 i; have q3 := fun i => Blk.cell b3 i; have q4 := fun i => Blk.cell b4 i) | (go_at_call 28; have hx := hd2; clear hx; refine (refFigure_any A2 n2 cap2 rows2 _ hnf2 hs2 (rdB hR2 hb5)).mono ?_; rintro e w1 ⟨rfl, hb⟩; rw [hfg2]; replace hS := hS.below hb hS.lt; replace b1 := b1.below hb b1.lt; replace bb2 := bb2.below hb bb2.lt; replace b3 := b3.below hb b3.lt; replace b4 := b4.below hb b4.lt; replace hb5 := hb5.trans (hb.mono hb5.size); clear qhS q1 q2 q3 q4 hb; have qhS := fun i => Blk.cell hS i; have q1 := fun i => Blk.cell b1 i; have q2 := fun i => Blk.cell bb2 i; have q3 := fun i => Blk.cell b3 i; have q4 := fun i => Blk.cell b4 i) | (go_at_call 28; refine (refFigure_any A1 n1 cap1 rows1 _ hnf1 hs1 (rdB hR1 hb5)).mono ?_; rintro e w1 ⟨rfl, hb⟩; rw [hfg1]; have hd1 : (0 : Nat) = 0 := rfl; replace hS := hS.below hb hS.lt; replace b1 := b1.below hb b1.lt; replace bb2 := bb2.below hb bb2.lt; replace b3 := b3.below hb b3.lt; replace b4 := b4.below hb b4.lt; replace hb5 := hb5.trans (hb.mono hb5.size); clear qhS q1 q2 q3 q4 hb; have qhS := fun i => Blk.cell hS i; have q1 := fun i => Blk.cell b1 i; have q2 := fun i => Blk.cell bb2 i; have q3 := fun i => Blk.cell b3 i; have q4 := fun i => Blk.cell b4 i) | (go_at_call 45; refine (refMeets_any Wn Hn F L X Y N1 PX1 PY1 A1 n1 cap1 rows1 N2 PX2 PY2 A2 n2 cap2 rows2 _ hv1 hv2 (rdB hR1 hb5) (rdB hR2 hb5)).mono ?_; rintro e w1 ⟨rfl, hb⟩; rw [← HME.out]; replace hS := hS.below hb hS.lt; replace b1 := b1.below hb b1.lt; replace bb2 := bb2.below hb bb2.lt; replace b3 := b3.below hb b3.lt; replace b4 := b4.below hb b4.lt; replace hb5 := hb5.trans (hb.mono hb5.size); clear qhS q1 q2 q3 q4 hb; have qhS := fun i => Blk.cell hS i; have q1 := fun i => Blk.cell b1 i; have q2 := fun i => Blk.cell bb2 i; have q3 := fun i => Blk.cell b3 i; have q4 := fun i => Blk.cell b4 i) | (go_at_call 24; refine (known_true m _ (known_at hm hb5)).mono ?_; rintro e w1 ⟨rfl, hb⟩; replace hb5 := hb5.trans (hb.mono hb5.size); clear hb))
    go_ret
    exact ⟨rfl, hb5⟩
theorem joins_law (W H F L X Y one two : Int) (A : Option Addr) (n cap : Nat) (fs : List Fig) (PA : Option Addr) (pn pcap : Nat) (ps : List Pl) (m : Int) (w : World) (hm : w.cell? ⟨0, 0, none⟩ = some (.int .i64 m)) (hcap : n ≤ cap) (hcm : cap ≤ maxLen) (hf : ∀ f ∈ fs, f.ok w w.heap.size) (hr : Rd w w.heap.size 1 A n (fs.map Fig.val)) (hpn : pn ≤ maxLen) (hpr : Rd w w.heap.size 3 PA pn (ps.flatMap plC)) :
    Calls Tryz.prog 6 #[.agg #[.int .i64 W, .int .i64 H, .int .i64 F, .int .i64 L, .int .i64 X, .int .i64 Y], .slice A n cap, .slice PA pn pcap, .int .i64 one, .int .i64 two] w fun e w' => e = .returned (.bool true) ∧ Below w.heap.size w w' := by
  cases hfw : fewB fs
  · exact joins_x0 W H F L X Y one two A n cap fs PA pn pcap ps m w hm hcap hcm hf hr hpn hpr hfw
  · by_cases h8 : (8 : Int) < pn
    · exact joins_x1 W H F L X Y one two A n cap fs PA pn pcap ps m w hm hcap hcm hf hr hpn hpr hfw h8
    · exact joins_mid W H F L X Y one two A n cap fs PA pn pcap ps m w hm hcap hcm hf hr hpn hpr hfw h8
end Go.Proofs.YtifddfchpknkbaaGreatDoor
