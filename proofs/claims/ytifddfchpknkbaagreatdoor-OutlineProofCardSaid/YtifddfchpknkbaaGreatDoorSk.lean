import Derived.Test.YtifddfchpknkbaaGreatDoorSj
set_option linter.unusedVariables false
set_option linter.unusedSimpArgs false
namespace Go.Proofs.YtifddfchpknkbaaGreatDoor
open Go.RowKit

def PivPost (a b : Nat) (w : World) (e : Ending) (w' : World) : Prop :=
  ∃ (p : Nat) (h : Int), e = .returned (.tuple #[.int .i64 p, .int .i64 h]) ∧ a ≤ p ∧ p < b ∧ Below w.heap.size w w'

set_option maxRecDepth 100000 in
set_option maxHeartbeats 3200000 in
theorem pivot_any (g cap n a b : Nat) (w : World) (hab : a + 12 < b) (hbn : b ≤ n) (hn : n ≤ 1000000) (hg : g < w.heap.size) (hR : RowU g n w) :
    Calls Tryz.prog 212 #[srow g n cap, .int .i64 a, .int .i64 b] w (PivPost a b w) := by
  obtain ⟨d, hd⟩ : ∃ d : Nat, b = a + d := ⟨b - a, by omega⟩
  obtain ⟨e, f, hef, hf⟩ : ∃ e f : Nat, d = 4 * e + f ∧ f < 4 := ⟨d / 4, d % 4, by omega, by omega⟩
  obtain ⟨i, hi⟩ : ∃ i : Nat, i = a + e := ⟨_, rfl⟩
  obtain ⟨j, hj⟩ : ∃ i : Nat, i = a + e * 2 := ⟨_, rfl⟩
  obtain ⟨k, hk⟩ : ∃ i : Nat, i = a + e * 3 := ⟨_, rfl⟩
  have hdI : (b : Int) - (a : Int) = (d : Int) := by omega
  have heI : (d : Int) / 4 = (e : Int) := by omega
  have hiI : (a : Int) + (e : Int) = (i : Int) := by omega
  have hjI : (a : Int) + (e : Int) * 2 = (j : Int) := by omega
  have hkI : (a : Int) + (e : Int) * 3 = (k : Int) := by omega
  have hd8 : 8 ≤ d := by omega
  have hdn : d ≤ 1000000 := by omega
  have hen : e ≤ 1000000 := by omega
  have b1 : a < i ∧ i + 1 < b := by omega
  have b2 : a < j ∧ j + 1 < b := by omega
  have b3 : a < k ∧ k + 1 < b := by omega
  clear hd hef hf hi hj hk
  have q0 := Blk.new w 3 #[.int .i64 0]
  have hB : Below w.heap.size w (w.alloc (.cells #[.int .i64 0] 3)) := (Below.refl _ w).alloc (Nat.le_refl _) _
  have hR1 := hR.below hB hg
  have M := fun (x : Nat) (s : Int) (W : World) a1 a2 a3 a4 => medianAdj_any g cap n w.heap.size a b x s W hbn hn hg a1 a2 a3 a4
  have D := fun (x y z : Nat) (s : Int) (W : World) a1 a2 a3 a4 a5 a6 a7 a8 => median_any g cap n w.heap.size a b x y z s W hbn hn hg a1 a2 a3 a4 a5 a6 a7 a8
  by_cases h50 : 50 ≤ d
  · have hB0 := Lib.hid hB; have hR0 := Lib.hid hR1; have Q0 := Lib.hid q0
    clear hB hR1 q0 hR
    go_enter Tryz.func212, Tryz.ntmps212
    go_wp2_with (first
      | (go_at_call 234; have hx := hc; clear hx; refine (D _ _ _ _ _ m1 m2 m3 m4 m5 m6 ((hR0.out.below ((hb1.trans hb2).trans hb3) hg)) hS3).mono ?_; rintro e w4 ⟨p9, s9, rfl, hp1, hp2, hb4, hS9⟩; have hb9 := (((hB0.out.trans hb1).trans hb2).trans hb3).trans hb4; have k9 := hS9.cell 0)
      | (go_at_call 233; have hx := hb; clear hx; refine (M _ _ _ b3.1 b3.2 (hR0.out.below (hb1.trans hb2) hg) hS2).mono ?_; rintro e w3 ⟨p3, s3, rfl, m5, m6, hb3, hS3⟩; have hc : (0 : Nat) = 0 := rfl)
      | (go_at_call 233; have hx := ha; clear hx; refine (M _ _ _ b2.1 b2.2 (hR0.out.below hb1 hg) hS1).mono ?_; rintro e w2 ⟨p2, s2, rfl, m3, m4, hb2, hS2⟩; have hb : (0 : Nat) = 0 := rfl)
      | (go_at_call 233; refine (M _ _ _ b1.1 b1.2 hR0.out Q0.out).mono ?_; rintro e w1 ⟨p1, s1, rfl, m1, m2, hb1, hS1⟩; have ha : (0 : Nat) = 0 := rfl))
    all_goals (go_ret2; exact ⟨p9, _, rfl, hp1, hp2, hb9⟩)

  · have h50' : d < 50 := by omega
    have hB0 := Lib.hid hB; have hR0 := Lib.hid hR1; have Q0 := Lib.hid q0
    clear hB hR1 q0 hR
    go_enter Tryz.func212, Tryz.ntmps212
    go_wp2_with (first
      | (go_at_call 234; refine (D _ _ _ _ _ (by omega) (by omega) (by omega) (by omega) (by omega) (by omega) hR0.out Q0.out).mono ?_; rintro e w4 ⟨p9, s9, rfl, hp1, hp2, hb4, hS9⟩; have hb9 := hB0.out.trans hb4; have k9 := hS9.cell 0))
    all_goals (go_ret2; exact ⟨p9, _, rfl, hp1, hp2, hb9⟩)

end Go.Proofs.YtifddfchpknkbaaGreatDoor
