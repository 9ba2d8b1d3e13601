import Derived.Test.YtifddfchpknkbaaGreatDoorK2
set_option linter.unusedVariables false
set_option linter.unusedSimpArgs false
namespace Go.Proofs.YtifddfchpknkbaaGreatDoor
open Go.RowKit

theorem mulB {x y : Int} {a b : Nat} (h1 : -(a : Int) ≤ x) (h2 : x ≤ a) (h3 : -(b : Int) ≤ y) (h4 : y ≤ b) : -((a * b : Nat) : Int) ≤ x * y ∧ x * y ≤ ((a * b : Nat) : Int) := by
  have h : (x * y).natAbs ≤ a * b := by rw [Int.natAbs_mul]; exact Nat.mul_le_mul (by omega) (by omega)
  omega

theorem bytesContains_any (A : Option Addr) (n cap : Nat) (zs : List Int) (c : Int) (w : World) (B : Nat) (hn : n ≤ maxLen) (hr : Rd w B 1 A n (zs.map (Value.int .u8))) :
    Calls Tryz.prog 149 #[.slice A n cap, .int .u8 c] w fun e w' => e = .returned (.bool (decide (0 ≤ idxOf c zs 0))) ∧ w = w' := by
  go_enter Tryz.func149, Tryz.ntmps149
  go_wp2_with (go_at_call 183; refine (bytesIndex_any _ _ _ _ _ _ _ hn hr).mono ?_; rintro e w' ⟨rfl, rfl⟩)
  go_ret
  simp

theorem idxOf_ge (c : Int) : ∀ (zs : List Int) (k : Nat), (0 ≤ idxOf c zs k) ↔ c ∈ zs
  | [], k => by simp [idxOf]
  | z :: zs, k => by
    simp only [idxOf]
    by_cases h : c = z
    · subst h; simp
    · have h1 : (c == z) = false := by simpa using h
      rw [h1]; simp [idxOf_ge c zs (k + 1), h]

/-- How many letters of a string are one of some. -/
def cntL (l : List Int) (zs : List Int) : Nat := (l.filter fun b => decide (0 ≤ idxOf b zs 0)).length
theorem cntL_snoc (l : List Int) (b : Int) (zs : List Int) : cntL (l ++ [b]) zs = cntL l zs + (if decide (0 ≤ idxOf b zs 0) = true then 1 else 0) := by
  unfold cntL; rw [List.filter_append, List.length_append]; by_cases h : 0 ≤ idxOf b zs 0 <;> simp [h]
theorem cntL_le (l : List Int) (zs : List Int) : cntL l zs ≤ l.length := List.length_filter_le _ _

theorem count_any (s : ByteArray) (A : Option Addr) (n cap : Nat) (zs : List Int) (w : World) (B : Nat) (hs : s.size ≤ maxLen) (hn : n ≤ maxLen) (hr : Rd w B 1 A n (zs.map (Value.int .u8))) :
    Calls Tryz.prog 103 #[.string s, .slice A n cap] w fun e w' => e = .returned (.int .i64 (cntL (ltr s) zs)) ∧ w = w' := by
  unfold maxLen at hs
  go_enter Tryz.func103, Tryz.ntmps103
  go_wp2
  go_loop [5, 9] (fun t i => ∃ k : Nat, k ≤ s.size ∧ i = .int .i64 k ∧ t = .int .i64 (cntL ((ltr s).take k) zs)) (fun _ i => s.size - (intOf i).toNat)
  case atStart => exact ⟨0, Nat.zero_le _, rfl, rfl⟩
  case round =>
    obtain ⟨k, hk, rfl, rfl⟩ := hrel
    have hle := cntL_le ((ltr s).take k) zs
    have hl : ((ltr s).take k).length ≤ k := List.length_take_le _ _
    by_cases hlt : k < s.size
    · have hsn := cntL_snoc ((ltr s).take k) s[k].toNat zs
      rw [← ltr_take s k hlt] at hsn
      have HS := Lib.hid hsn; clear hsn
      cases he : decide (0 ≤ idxOf (s[k].toNat : Int) zs 0)
      all_goals
        go_wp2_with (go_at_call 149; refine (bytesContains_any _ _ _ _ _ _ _ hn hr).mono ?_; rintro e w' ⟨rfl, rfl⟩)
        go_round
        case rel => exact ⟨k + 1, by omega, by go_num, by rw [HS.out, he]; go_num⟩
        case measure => simp [intOf]; omega
    · go_wp2
      go_ret
      exact ⟨ret_int (by rw [ltr_all s k (by omega)]), rfl⟩

theorem Stage_any (W H F L X Y : Int) (w : World) :
    Calls Tryz.prog 27 #[.agg #[.int .i64 W, .int .i64 H, .int .i64 F, .int .i64 L, .int .i64 X, .int .i64 Y]] w fun e w' => e = .returned (.bool (stageB W H F L X Y)) ∧ Below w.heap.size w w' := by
  unfold stageB
  cases h1 : inB W 1 16
  case' true => cases h2 : inB H 1 16
  case' true.true => cases h3 : inB F 2 40
  case' true.true.true => cases h4 : inB L 0 3
  case' true.true.true.true => cases h5 : inB X 0 W
  all_goals
    go_enter Tryz.func27, Tryz.ntmps27
    go_wp2_with (go_at_call 99; refine (in_any _ _ _ _).mono ?_; rintro e w' ⟨rfl, rfl⟩)
    go_ret
    refine ⟨by simp, (Below.refl _ _).alloc (Nat.le_refl _) _⟩

def placeB (F N X Y : Int) : Bool := inB N 0 (F - 1) && inB X (-20) 20 && inB Y (-20) 20
theorem goodPlace_any (W H F L X Y N PX PY : Int) (w : World) (hF : 2 ≤ F) (hF2 : F ≤ 40) :
    Calls Tryz.prog 106 #[.agg #[.int .i64 W, .int .i64 H, .int .i64 F, .int .i64 L, .int .i64 X, .int .i64 Y], .agg #[.int .i64 N, .int .i64 PX, .int .i64 PY]] w fun e w' => e = .returned (.bool (placeB F N PX PY)) ∧ Below w.heap.size w w' := by
  unfold placeB
  cases h1 : inB N 0 (F - 1)
  case' true => cases h2 : inB PX (-20) 20
  all_goals
    go_enter Tryz.func106, Tryz.ntmps106
    go_wp2_with (first | (go_at_call 130; refine (within_any _ _ _ _).mono ?_; rintro e w' ⟨rfl, rfl⟩) | (go_at_call 150; refine (goodAway_any _ _).mono ?_; rintro e w' ⟨rfl, rfl⟩))
    go_ret
    refine ⟨by simp, ((Below.refl _ _).alloc (Nat.le_refl _) _).alloc (by simp) _⟩
theorem Place_any (W H F L X Y N PX PY : Int) (w : World) (hF : 2 ≤ F) (hF2 : F ≤ 40) :
    Calls Tryz.prog 31 #[.agg #[.int .i64 W, .int .i64 H, .int .i64 F, .int .i64 L, .int .i64 X, .int .i64 Y], .agg #[.int .i64 N, .int .i64 PX, .int .i64 PY]] w fun e w' => e = .returned (.bool (placeB F N PX PY)) ∧ Below w.heap.size w w' := by
  unfold placeB
  cases h1 : inB N 0 (F - 1)
  all_goals
    go_enter Tryz.func31, Tryz.ntmps31
    go_wp2_with (first | (go_at_call 99; refine (in_any _ _ _ _).mono ?_; rintro e w' ⟨rfl, rfl⟩) | (go_at_call 37; refine (at_any _ _ _).mono ?_; rintro e w' ⟨rfl, rfl⟩))
    go_ret
    refine ⟨by simp, ((Below.refl _ _).alloc (Nat.le_refl _) _).alloc (by simp) _⟩

theorem argument_any (b : Bool) (w : World) : Calls Tryz.prog 96 #[.bool b] w fun e w' => e = .returned (.int .i64 (if b then 0 else 2)) ∧ w = w' := by
  cases b
  all_goals
    go_enter Tryz.func96, Tryz.ntmps96
    go_wp2
    go_ret
    simp

def clB (a b : Int) : Bool := (a == 35 && b == 46) || (a == 46 && b == 35)
theorem clash_any (a b : Int) (w : World) : Calls Tryz.prog 163 #[.int .u8 a, .int .u8 b] w fun e w' => e = .returned (.bool (clB a b)) ∧ w = w' := by
  unfold clB
  cases h1 : (a == 35) <;> cases h2 : (b == 46) <;> cases h3 : (a == 46)
  all_goals
    go_enter Tryz.func163, Tryz.ntmps163
    go_wp2
    go_ret
    simp
theorem Opposed_any (a b : Int) (w : World) : Calls Tryz.prog 81 #[.int .u8 a, .int .u8 b] w fun e w' => e = .returned (.bool (clB a b)) ∧ w = w' := by
  unfold clB
  cases h1 : (a == 35) <;> cases h2 : (b == 46) <;> cases h3 : (a == 46)
  all_goals
    go_enter Tryz.func81, Tryz.ntmps81
    go_wp2
    go_ret
    simp

/-- Where the shadow of a line is. -/
def lineV (ax F N x : Int) : Int := ax * (F - N) + (x - ax) * F
theorem line_any (ax F N x : Int) (w : World) (a1 : -100 ≤ ax) (a2 : ax ≤ 100) (b1 : -100 ≤ F) (b2 : F ≤ 100) (c1 : -100 ≤ N) (c2 : N ≤ 100) (d1 : -100 ≤ x) (d2 : x ≤ 100) :
    Calls Tryz.prog 111 #[.int .i64 ax, .int .i64 F, .int .i64 N, .int .i64 x] w fun e w' => e = .returned (.int .i64 (lineV ax F N x)) ∧ w = w' := by
  obtain ⟨p1, p2⟩ := mulB (x := ax) (y := F - N) (a := 100) (b := 200) (by omega) (by omega) (by omega) (by omega)
  obtain ⟨q1, q2⟩ := mulB (x := x - ax) (y := F) (a := 200) (b := 100) (by omega) (by omega) (by omega) (by omega)
  go_enter Tryz.func111, Tryz.ntmps111
  go_wp2
  go_ret
  simp [lineV]
end Go.Proofs.YtifddfchpknkbaaGreatDoor

namespace Go.Proofs.YtifddfchpknkbaaGreatDoor
open Go.RowKit

theorem i64_ok (n : Int) (h : -9223372036854775808 ≤ n ∧ n ≤ 9223372036854775807) : IntKind.i64.wrap n = n := IntWalk.i64_in n h
theorem long_any (f e : Int) (b : Bool) (w : World) (h1 : 0 ≤ f) (h2 : f ≤ 100) (h3 : 0 ≤ e) (h4 : e ≤ 100) :
    Calls Tryz.prog 182 #[.agg #[.int .i64 f, .int .i64 e, .bool b]] w fun r w' => r = .returned (.int .i64 (e - f)) ∧ Below w.heap.size w w' := by
  go_enter Tryz.func182, Tryz.ntmps182
  go_wp2
  go_ret
  exact ⟨rfl, (Below.refl _ _).alloc (Nat.le_refl _) _⟩
theorem parts_any (W H F L X Y N PX PY : Int) (R : Value) (w : World) (h1 : 0 ≤ F) (h2 : F ≤ 100) (h3 : 0 ≤ N) (h4 : N ≤ 100) :
    Calls Tryz.prog 156 #[.agg #[.int .i64 W, .int .i64 H, .int .i64 F, .int .i64 L, .int .i64 X, .int .i64 Y, R, .int .i64 N, .int .i64 PX, .int .i64 PY]] w fun r w' => r = .returned (.int .i64 (F - N)) ∧ Below w.heap.size w w' := by
  go_enter Tryz.func156, Tryz.ntmps156
  go_wp2
  go_ret
  exact ⟨rfl, (Below.refl _ _).alloc (Nat.le_refl _) _⟩
theorem blur_any (W H F L X Y N PX PY : Int) (R : Value) (w : World) (h1 : 0 ≤ L) (h2 : L ≤ 100) (h3 : 0 ≤ N) (h4 : N ≤ 100) :
    Calls Tryz.prog 153 #[.agg #[.int .i64 W, .int .i64 H, .int .i64 F, .int .i64 L, .int .i64 X, .int .i64 Y, R, .int .i64 N, .int .i64 PX, .int .i64 PY]] w fun r w' => r = .returned (.int .i64 (L * N)) ∧ Below w.heap.size w w' := by
  obtain ⟨p1, p2⟩ := mulB (x := L) (y := N) (a := 100) (b := 100) (by omega) (by omega) (by omega) (by omega)
  go_enter Tryz.func153, Tryz.ntmps153
  go_wp2
  go_ret
  exact ⟨rfl, (Below.refl _ _).alloc (Nat.le_refl _) _⟩
theorem cloth_any (W H F L X Y N PX PY : Int) (R : Value) (w : World) :
    Calls Tryz.prog 155 #[.agg #[.int .i64 W, .int .i64 H, .int .i64 F, .int .i64 L, .int .i64 X, .int .i64 Y, R, .int .i64 N, .int .i64 PX, .int .i64 PY]] w fun r w' => r = .returned (.agg #[.int .i64 W, .int .i64 H]) ∧ Below w.heap.size w w' := by
  go_enter Tryz.func155, Tryz.ntmps155
  go_wp2
  refine bodyPost_ret (v := .agg #[.int .i64 W, .int .i64 H]) (by simp [results, Tryz.results155, go_sem]) rfl ⟨rfl, ?_⟩
  exact ((Below.refl _ _).alloc (Nat.le_refl _) _).alloc (by simp) _
theorem directions_any (w : World) :
    Calls Tryz.prog 152 #[] w fun r w' => r = .returned (.agg #[.func (.func 190) #[] #[], .func (.func 191) #[] #[]]) ∧ Below w.heap.size w w' := by
  go_enter Tryz.func152, Tryz.ntmps152
  go_wp2
  refine bodyPost_ret (v := .agg #[.func (.func 190) #[] #[], .func (.func 191) #[] #[]]) (by simp [results, Tryz.results152, go_sem]) rfl ⟨rfl, ?_⟩
  exact ((Below.refl _ _).alloc (Nat.le_refl _) _)
set_option maxHeartbeats 400000 in
theorem across_any (W H F L X Y N PX PY c : Int) (R : Value) (hR : R.oneCell' = true) (w : World) (x1 : 0 ≤ X) (x2 : X ≤ 100) (h1 : 0 ≤ F) (h2 : F ≤ 100) (h3 : 0 ≤ N) (h4 : N ≤ 100) (p1 : -100 ≤ PX) (p2 : PX ≤ 100) (c1 : 0 ≤ c) (c2 : c ≤ 100) :
    Calls Tryz.prog 190 #[.agg #[.int .i64 W, .int .i64 H, .int .i64 F, .int .i64 L, .int .i64 X, .int .i64 Y, R, .int .i64 N, .int .i64 PX, .int .i64 PY], .int .i64 c] w fun r w' => r = .returned (.int .i64 (lineV X F N (PX + c))) ∧ Below w.heap.size w w' := by
  obtain ⟨s1, s2⟩ := mulB (x := X) (y := F - N) (a := 100) (b := 200) (by omega) (by omega) (by omega) (by omega)
  obtain ⟨q1, q2⟩ := mulB (x := PX + c - X) (y := F) (a := 400) (b := 100) (by omega) (by omega) (by omega) (by omega)
  go_enter Tryz.func190, Tryz.ntmps190
  go_wp2
  obtain ⟨W1, hW1⟩ : ∃ W1 : World, W1 = w.alloc (.cells #[.int .i64 W, .int .i64 H, .int .i64 F, .int .i64 L, .int .i64 X, .int .i64 Y, R, .int .i64 N, .int .i64 PX, .int .i64 PY] 140) := ⟨_, rfl⟩
  rw [← hW1]
  have hblk : Blk W1 w.heap.size 140 #[.int .i64 W, .int .i64 H, .int .i64 F, .int .i64 L, .int .i64 X, .int .i64 Y, R, .int .i64 N, .int .i64 PX, .int .i64 PY] := by rw [hW1]; exact Blk.new _ _ _
  have hB : Below w.heap.size w W1 := by rw [hW1]; exact (Below.refl _ _).alloc (Nat.le_refl _) _
  clear hW1
  have hc := fun p i => blw_blk hblk p i
  have e1 := i64_ok (X * (F - N)) (by omega)
  have e2 := i64_ok (PX + c) (by omega)
  have e3 := i64_ok (PX + c - X) (by omega)
  have e4 := i64_ok ((PX + c - X) * F) (by omega)
  have e5 := i64_ok (X * (F - N) + (PX + c - X) * F) (by omega)
  refine wp_region_blw (by kernel_rfl) (by kernel_rfl) ?_
  repeat (quiet_step ((go_at_call 156; exact Calls.blw_of _ (parts_any _ _ _ _ _ _ _ _ _ _ _ h1 h2 h3 h4))))
  refine wpQuiet_nil ?_
  clear e1 e2 e3 e4 e5
  rintro _ ⟨p, rfl⟩
  go_wp2
  go_ret
  exact ⟨rfl, hB.trans (p.h.mono hB.size)⟩
set_option maxHeartbeats 400000 in
theorem down_any (W H F L X Y N PX PY c : Int) (R : Value) (hR : R.oneCell' = true) (w : World) (x1 : 0 ≤ Y) (x2 : Y ≤ 100) (h1 : 0 ≤ F) (h2 : F ≤ 100) (h3 : 0 ≤ N) (h4 : N ≤ 100) (p1 : -100 ≤ PY) (p2 : PY ≤ 100) (c1 : 0 ≤ c) (c2 : c ≤ 100) :
    Calls Tryz.prog 191 #[.agg #[.int .i64 W, .int .i64 H, .int .i64 F, .int .i64 L, .int .i64 X, .int .i64 Y, R, .int .i64 N, .int .i64 PX, .int .i64 PY], .int .i64 c] w fun r w' => r = .returned (.int .i64 (lineV Y F N (PY + c))) ∧ Below w.heap.size w w' := by
  obtain ⟨s1, s2⟩ := mulB (x := Y) (y := F - N) (a := 100) (b := 200) (by omega) (by omega) (by omega) (by omega)
  obtain ⟨q1, q2⟩ := mulB (x := PY + c - Y) (y := F) (a := 400) (b := 100) (by omega) (by omega) (by omega) (by omega)
  go_enter Tryz.func191, Tryz.ntmps191
  go_wp2
  obtain ⟨W1, hW1⟩ : ∃ W1 : World, W1 = w.alloc (.cells #[.int .i64 W, .int .i64 H, .int .i64 F, .int .i64 L, .int .i64 X, .int .i64 Y, R, .int .i64 N, .int .i64 PX, .int .i64 PY] 140) := ⟨_, rfl⟩
  rw [← hW1]
  have hblk : Blk W1 w.heap.size 140 #[.int .i64 W, .int .i64 H, .int .i64 F, .int .i64 L, .int .i64 X, .int .i64 Y, R, .int .i64 N, .int .i64 PX, .int .i64 PY] := by rw [hW1]; exact Blk.new _ _ _
  have hB : Below w.heap.size w W1 := by rw [hW1]; exact (Below.refl _ _).alloc (Nat.le_refl _) _
  clear hW1
  have hc := fun p i => blw_blk hblk p i
  have e1 := i64_ok (Y * (F - N)) (by omega)
  have e2 := i64_ok (PY + c) (by omega)
  have e3 := i64_ok (PY + c - Y) (by omega)
  have e4 := i64_ok ((PY + c - Y) * F) (by omega)
  have e5 := i64_ok (Y * (F - N) + (PY + c - Y) * F) (by omega)
  refine wp_region_blw (by kernel_rfl) (by kernel_rfl) ?_
  repeat (quiet_step ((go_at_call 156; exact Calls.blw_of _ (parts_any _ _ _ _ _ _ _ _ _ _ _ h1 h2 h3 h4))))
  refine wpQuiet_nil ?_
  clear e1 e2 e3 e4 e5
  rintro _ ⟨p, rfl⟩
  go_wp2
  go_ret
  exact ⟨rfl, hB.trans (p.h.mono hB.size)⟩
end Go.Proofs.YtifddfchpknkbaaGreatDoor
