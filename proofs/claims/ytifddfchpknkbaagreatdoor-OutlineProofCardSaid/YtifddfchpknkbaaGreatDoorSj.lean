import Derived.Test.YtifddfchpknkbaaGreatDoorSc
set_option linter.unusedVariables false
set_option linter.unusedSimpArgs false
namespace Go.Proofs.YtifddfchpknkbaaGreatDoor
open Go.RowKit

def RowU (g n : Nat) (w : World) : Prop := ∀ j, j < n → ∃ u : Nat, w.cell? ⟨g, j, none⟩ = some (.int .u64 (u : Int))

theorem RowU.below {g n B : Nat} {w w' : World} (h : RowU g n w) (hb : Below B w w') (hg : g < B) : RowU g n w' := fun j hj => by
  obtain ⟨u, hu⟩ := h j hj
  exact ⟨u, (hb.cell (p := ⟨g, j, none⟩) hg).trans hu⟩

def OrdPost (g sb lo hi : Nat) (w : World) (e : Ending) (w' : World) : Prop :=
  ∃ (p q : Nat) (s : Int), e = .returned (.tuple #[.int .i64 p, .int .i64 q]) ∧ lo ≤ p ∧ p < hi ∧ lo ≤ q ∧ q < hi ∧ Below sb w w' ∧ Blk w' sb 3 #[.int .i64 s]

def OnePost (g sb lo hi : Nat) (w : World) (e : Ending) (w' : World) : Prop :=
  ∃ (p : Nat) (s : Int), e = .returned (.int .i64 p) ∧ lo ≤ p ∧ p < hi ∧ Below sb w w' ∧ Blk w' sb 3 #[.int .i64 s]

set_option maxRecDepth 100000 in
set_option maxHeartbeats 3200000 in
theorem order2_any (g cap n sb lo hi x y : Nat) (s : Int) (w : World) (hhi : hi ≤ n) (hn : n ≤ 1000000) (hg : g < sb) (hx1 : lo ≤ x) (hx : x < hi) (hy1 : lo ≤ y) (hy : y < hi) (hR : RowU g n w) (hS : Blk w sb 3 #[.int .i64 s]) :
    Calls Tryz.prog 242 #[srow g n cap, .int .i64 x, .int .i64 y, .pointer (some ⟨sb, 0, none⟩)] w (OrdPost g sb lo hi w) := by
  go_enter Tryz.func242, Tryz.ntmps242
  have hxn : x < n := by omega
  have hyn : y < n := by omega
  have hgl : g < w.heap.size := by have := hS.lt; omega
  obtain ⟨va, c2⟩ := hR y hyn
  obtain ⟨vb, e2⟩ := hR x hxn
  have dc := fun (pz : Blw w.heap.size w) => blw_cell (a := ⟨g, y, none⟩) hgl c2 pz
  have de := fun (pz : Blw w.heap.size w) => blw_cell (a := ⟨g, x, none⟩) hgl e2 pz
  by_cases h2 : va < vb
  · have HU := Lib.hid (decide_eq_true h2)
    go_wp2
    refine wp_region_blw (by kernel_rfl) (by kernel_rfl) ?_
    repeat (go_big_quiet_step (first | (go_at_call 215; exact Calls.blw_of_same _ (less_any _ _ _))))
    refine wpQuiet_nil ?_
    rintro W3 ⟨⟨_, hb3⟩, rfl⟩
    rw [HU.out]
    have hS3 := hS.below hb3 hS.lt
    have hbx := (hb3.mono (show sb ≤ w.heap.size by have := hS.lt; omega))
    clear c2 e2 dc de hR hb3
    have k1 := hS3.cell 0
    have k2 := hS3.frozen 0
    go_wp2
    go_ret2
    exact ⟨y, x, _, rfl, hy1, hy, hx1, hx, hbx.setCell (p := ⟨sb, 0, none⟩) (Nat.le_refl _) _, hS3.set_ 0 _⟩
  · have HU := Lib.hid (decide_eq_false h2)
    go_wp2
    refine wp_region_blw (by kernel_rfl) (by kernel_rfl) ?_
    repeat (go_big_quiet_step (first | (go_at_call 215; exact Calls.blw_of_same _ (less_any _ _ _))))
    refine wpQuiet_nil ?_
    rintro W3 ⟨⟨_, hb3⟩, rfl⟩
    rw [HU.out]
    have hS3 := hS.below hb3 hS.lt
    have hbx := (hb3.mono (show sb ≤ w.heap.size by have := hS.lt; omega))
    clear c2 e2 dc de hR hb3
    go_wp2
    go_ret2
    exact ⟨x, y, _, rfl, hx1, hx, hy1, hy, hbx, hS3⟩

set_option maxRecDepth 100000 in
set_option maxHeartbeats 3200000 in
theorem median_any (g cap n sb lo hi x y z : Nat) (s : Int) (w : World) (hhi : hi ≤ n) (hn : n ≤ 1000000) (hg : g < sb) (hx1 : lo ≤ x) (hx : x < hi) (hy1 : lo ≤ y) (hy : y < hi) (hz1 : lo ≤ z) (hz : z < hi) (hR : RowU g n w) (hS : Blk w sb 3 #[.int .i64 s]) :
    Calls Tryz.prog 234 #[srow g n cap, .int .i64 x, .int .i64 y, .int .i64 z, .pointer (some ⟨sb, 0, none⟩)] w (OnePost g sb lo hi w) := by
  go_enter Tryz.func234, Tryz.ntmps234
  have H1 := order2_any g cap n sb lo hi x y s w hhi hn hg hx1 hx hy1 hy hR hS
  have H2 := fun (q : Nat) (s : Int) (W : World) a b c d => order2_any g cap n sb lo hi q z s W hhi hn hg a b hz1 hz c d
  have H3 := fun (p q : Nat) (s : Int) (W : World) a b c d e f => order2_any g cap n sb lo hi p q s W hhi hn hg a b c d e f
  clear hS
  go_wp2_with (first | (go_at_call 242; have hx := hlast; clear hx; refine (H3 _ _ _ _ hp1 hp2 hp3 hp4 (hR.below (hb1.trans hb2) hg) hS2).mono ?_; rintro e w3 ⟨p5, q5, s3, rfl, hp5, hp6, hq5, hq6, hb3, hS3⟩) | (go_at_call 242; have hx := hdone; clear hx; refine (H2 _ _ _ hq1 hq2 (hR.below hb1 hg) hS1).mono ?_; rintro e w2 ⟨p3, q3, s2, rfl, hp3, hp4, hq3, hq4, hb2, hS2⟩; have hlast : (0 : Nat) = 0 := rfl) | (go_at_call 242; refine H1.mono ?_; rintro e w1 ⟨p1, q1, s1, rfl, hp1, hp2, hq1, hq2, hb1, hS1⟩; have hdone : (0 : Nat) = 0 := rfl))
  go_ret
  exact ⟨q5, s3, rfl, hq5, hq6, (hb1.trans hb2).trans hb3, hS3⟩

set_option maxRecDepth 100000 in
set_option maxHeartbeats 3200000 in
theorem medianAdj_any (g cap n sb lo hi x : Nat) (s : Int) (w : World) (hhi : hi ≤ n) (hn : n ≤ 1000000) (hg : g < sb) (hx1 : lo < x) (hx : x + 1 < hi) (hR : RowU g n w) (hS : Blk w sb 3 #[.int .i64 s]) :
    Calls Tryz.prog 233 #[srow g n cap, .int .i64 x, .pointer (some ⟨sb, 0, none⟩)] w (OnePost g sb lo hi w) := by
  obtain ⟨y, rfl⟩ : ∃ y, x = y + 1 := ⟨x - 1, by omega⟩
  have H := median_any g cap n sb lo hi y (y + 1) (y + 2) s w hhi hn hg (by omega) (by omega) (by omega) (by omega) (by omega) (by omega) hR hS
  have hI : ((y + 1 : Nat) : Int) - 1 = (y : Int) := by omega
  have hI2 : ((y + 1 : Nat) : Int) + 1 = ((y + 2 : Nat) : Int) := by omega
  go_enter Tryz.func233, Tryz.ntmps233
  generalize y + 1 = a at *
  generalize y + 2 = c at *
  go_wp2_with (first | (go_at_call 234; refine H.mono ?_; rintro e w1 ⟨p, s1, rfl, hp1, hp2, hb1, hS1⟩))
  go_ret
  exact ⟨p, s1, rfl, hp1, hp2, hb1, hS1⟩
end Go.Proofs.YtifddfchpknkbaaGreatDoor
