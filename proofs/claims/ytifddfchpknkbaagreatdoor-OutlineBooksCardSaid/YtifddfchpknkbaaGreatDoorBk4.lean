import Derived.Test.YtifddfchpknkbaaGreatDoorProg
import Derived.Test.YtifddfchpknkbaaGreatDoorBk3
set_option linter.unusedVariables false
set_option linter.unusedSimpArgs false
namespace Go.Proofs.YtifddfchpknkbaaGreatDoor
section
open Go.RowKit
def fitLo (ax F L N P : Int) : Int := lineV ax F N P - L * N
def fitHi (ax F L N P : Int) (sz : Nat) : Int := lineV ax F N (P + sz) + L * N
def fitsB (W H F L X Y N PX PY : Int) (wd n : Nat) : Bool :=
  !(decide (fitLo X F L N PX < 0)) && (!(decide (W * (F - N) < fitHi X F L N PX wd)) && (!(decide (fitLo Y F L N PY < 0)) && !(decide (H * (F - N) < fitHi Y F L N PY n))))
def fitsFrom (W H F L X Y N PX PY : Int) (wd n : Nat) : Nat → Bool
  | 0 => !(decide (fitLo X F L N PX < 0)) && (!(decide (W * (F - N) < fitHi X F L N PX wd)) && (!(decide (fitLo Y F L N PY < 0)) && !(decide (H * (F - N) < fitHi Y F L N PY n))))
  | 1 => !(decide (fitLo Y F L N PY < 0)) && !(decide (H * (F - N) < fitHi Y F L N PY n))
  | _ => true
theorem rd_blw {w : World} {sz n : Nat} {A : Option Addr} {xs : List Value} (h : Rd w w.heap.size sz A n xs) (p : Blw w.heap.size w) : Rd p.toW p.toW.heap.size sz A n xs := (h.below p.h).more p.h.size
theorem lineB (ax F N x : Int) (a1 : -100 ≤ ax) (a2 : ax ≤ 100) (b1 : -100 ≤ F) (b2 : F ≤ 100) (c1 : -100 ≤ N) (c2 : N ≤ 100) (d1 : -200 ≤ x) (d2 : x ≤ 200) : -50000 ≤ lineV ax F N x ∧ lineV ax F N x ≤ 50000 := by
  obtain ⟨p1, p2⟩ := mulB (x := ax) (y := F - N) (a := 100) (b := 200) (by omega) (by omega) (by omega) (by omega)
  obtain ⟨q1, q2⟩ := mulB (x := x - ax) (y := F) (a := 300) (b := 100) (by omega) (by omega) (by omega) (by omega)
  unfold lineV; omega
set_option maxRecDepth 100000 in
set_option maxHeartbeats 4000000 in
theorem fits_any (W H F L X Y N PX PY : Int) (A : Option Addr) (n cap : Nat) (rows : List ByteArray) (wd : Nat) (w : World) (hr : Rd w w.heap.size 1 A n (rows.map Value.string)) (hn : 0 < n) (hn2 : n ≤ 50) (hw : ∀ r ∈ rows, r.size = wd) (hwd : wd ≤ 50)
    (w1 : 0 ≤ W) (w2 : W ≤ 50) (w3 : 0 ≤ H) (w4 : H ≤ 50) (x1 : 0 ≤ X) (x2 : X ≤ 100) (y1 : 0 ≤ Y) (y2 : Y ≤ 100) (h1 : 0 ≤ F) (h2 : F ≤ 100) (h3 : 0 ≤ N) (h4 : N ≤ 100) (h5 : 0 ≤ L) (h6 : L ≤ 100) (p1 : -50 ≤ PX) (p2 : PX ≤ 50) (p3 : -50 ≤ PY) (p4 : PY ≤ 50) :
    Calls Tryz.prog 110 #[.agg #[.int .i64 W, .int .i64 H, .int .i64 F, .int .i64 L, .int .i64 X, .int .i64 Y, .slice A n cap, .int .i64 N, .int .i64 PX, .int .i64 PY]] w fun e w' => e = .returned (.bool (fitsB W H F L X Y N PX PY wd n)) ∧ Below w.heap.size w w' := by
  obtain ⟨la1, la2⟩ := lineB X F N PX (by omega) (by omega) (by omega) (by omega) (by omega) (by omega) (by omega) (by omega)
  obtain ⟨lb1, lb2⟩ := lineB X F N (PX + (wd : Int)) (by omega) (by omega) (by omega) (by omega) (by omega) (by omega) (by omega) (by omega)
  obtain ⟨lc1, lc2⟩ := lineB Y F N PY (by omega) (by omega) (by omega) (by omega) (by omega) (by omega) (by omega) (by omega)
  obtain ⟨ld1, ld2⟩ := lineB Y F N (PY + (n : Int)) (by omega) (by omega) (by omega) (by omega) (by omega) (by omega) (by omega) (by omega)
  obtain ⟨b1, b2⟩ := mulB (x := L) (y := N) (a := 100) (b := 100) (by omega) (by omega) (by omega) (by omega)
  obtain ⟨m1, m2⟩ := mulB (x := W) (y := F - N) (a := 100) (b := 200) (by omega) (by omega) (by omega) (by omega)
  obtain ⟨k1, k2⟩ := mulB (x := H) (y := F - N) (a := 100) (b := 200) (by omega) (by omega) (by omega) (by omega)

  have ix0 : ∀ w, (Instr.index 196 (.agg #[.func (.func 190) #[] #[], .func (.func 191) #[] #[]]) (.int .i64 0)).run Tryz.prog w = .ok (.func (.func 190) #[] #[]) w := fun _ => by kernel_rfl
  have ix1 : ∀ w, (Instr.index 196 (.agg #[.func (.func 190) #[] #[], .func (.func 191) #[] #[]]) (.int .i64 1)).run Tryz.prog w = .ok (.func (.func 191) #[] #[]) w := fun _ => by kernel_rfl
  have iy0 : ∀ a b w, (Instr.index 199 (.agg #[.int .i64 a, .int .i64 b]) (.int .i64 0)).run Tryz.prog w = .ok (.int .i64 a) w := fun _ _ _ => by kernel_rfl
  have iy1 : ∀ a b w, (Instr.index 199 (.agg #[.int .i64 a, .int .i64 b]) (.int .i64 1)).run Tryz.prog w = .ok (.int .i64 b) w := fun _ _ _ => by kernel_rfl
  go_enter Tryz.func110, Tryz.ntmps110
  go_wp2_with (go_at_call 152; refine (directions_any _).mono ?_; rintro e ws ⟨rfl, hbs⟩)
  have hblk := (Blk.new w 140 #[.int .i64 W, .int .i64 H, .int .i64 F, .int .i64 L, .int .i64 X, .int .i64 Y, .slice A n cap, .int .i64 N, .int .i64 PX, .int .i64 PY]).below hbs (by simp only [World.size_alloc]; omega)
  have hB := ((Below.refl w.heap.size w).alloc (Nat.le_refl _) (.cells #[.int .i64 W, .int .i64 H, .int .i64 F, .int .i64 L, .int .i64 X, .int .i64 Y, .slice A n cap, .int .i64 N, .int .i64 PX, .int .i64 PY] 140)).trans (hbs.mono (by simp only [World.size_alloc]; omega))
  clear hbs
  go_loopg [8] 2 (fun g i wr => ∃ d : Nat, g = 2 - d ∧ d ≤ 2 ∧ i = .int .i64 d ∧ fitsB W H F L X Y N PX PY wd n = fitsFrom W H F L X Y N PX PY wd n d ∧ Blk wr w.heap.size 140 #[.int .i64 W, .int .i64 H, .int .i64 F, .int .i64 L, .int .i64 X, .int .i64 Y, .slice A n cap, .int .i64 N, .int .i64 PX, .int .i64 PY] ∧ Below w.heap.size w wr)
  case atStart => exact ⟨0, rfl, by omega, rfl, rfl, hblk, hB⟩
  case round =>
    clear hB hblk
    obtain ⟨d, hg, hd, rfl, hres, hblk, hB⟩ := hrel
    have HG := Lib.hid hg; clear hg
    have hlv := hblk.lt
    have hd3 : d = 0 ∨ d = 1 ∨ d = 2 := by omega
    rcases hd3 with rfl | rfl | rfl
    · simp only [fitsFrom] at hres
      have HR := Lib.hid hres; clear hres
      have hz1 := i64_ok (lineV X F N PX - L * N) (by omega)
      have hz2 := i64_ok (lineV X F N (PX + (wd : Int)) + L * N) (by omega)
      have hz3 := i64_ok (W * (F - N)) (by omega)
      go_wp2_with (fail)
      have hc := fun p i => blw_blk hblk p i
      have hrw : Rd _ _ 1 A n (rows.map Value.string) := (hr.below hB).more hB.size
      refine wp_region_blw (by kernel_rfl) (by kernel_rfl) ?_
      repeat (go_big_quiet_step (first | (go_at_call 190; exact Calls.blw_of _ (across_any _ _ _ _ _ _ _ _ _ _ _ rfl _ x1 x2 h1 h2 h3 h4 (by omega) (by omega) (by omega) (by omega))) | (go_at_call 153; exact Calls.blw_of _ (blur_any _ _ _ _ _ _ _ _ _ _ _ h5 h6 h3 h4))))
      refine wpQuiet_nil ?_
      rintro V0 ⟨⟨_, hb2⟩, rfl⟩
      replace hblk := hblk.below hb2 hblk.lt
      replace hB := hB.trans (hb2.mono hB.size)
      clear hb2 hc hrw
      go_wp2_with (fail)
      have hc := fun p i => blw_blk hblk p i
      have hrw : Rd _ _ 1 A n (rows.map Value.string) := (hr.below hB).more hB.size
      refine wp_region_blw (by kernel_rfl) (by kernel_rfl) ?_
      repeat (go_big_quiet_step (first | (go_at_call 190; exact Calls.blw_of _ (across_any _ _ _ _ _ _ _ _ _ _ _ rfl _ x1 x2 h1 h2 h3 h4 (by omega) (by omega) (by omega) (by omega))) | (go_at_call 153; exact Calls.blw_of _ (blur_any _ _ _ _ _ _ _ _ _ _ _ h5 h6 h3 h4)) | (go_at_call 154; exact Calls.blw_of _ (size_any W H F L X Y N PX PY A n cap rows _ (rd_blw hrw _) hn hn2 wd hw))))
      refine wpQuiet_nil ?_
      rintro V1 ⟨⟨_, hb2⟩, rfl⟩
      replace hblk := hblk.below hb2 hblk.lt
      replace hB := hB.trans (hb2.mono hB.size)
      clear hb2 hc hrw
      go_wp2_with (fail)
      clear hz1 hz2
      by_cases q1 : lineV X F N PX - L * N < 0
      · have q1b : decide (fitLo X F L N PX < 0) = true := decide_eq_true (show fitLo X F L N PX < 0 from q1)
        have Q1 := Lib.hid q1b; clear q1b
        have hc := fun p i => blw_blk hblk p i
        have hrw : Rd _ _ 1 A n (rows.map Value.string) := (hr.below hB).more hB.size
        refine wp_region_blw (by kernel_rfl) (by kernel_rfl) ?_
        repeat (go_big_quiet_step (first | (go_at_call 156; exact Calls.blw_of _ (parts_any _ _ _ _ _ _ _ _ _ _ _ h1 h2 h3 h4)) | (go_at_call 155; exact Calls.blw_of _ (cloth_any _ _ _ _ _ _ _ _ _ _ _))))
        refine wpQuiet_nil ?_
        rintro V2 ⟨⟨_, hb2⟩, rfl⟩
        replace hblk := hblk.below hb2 hblk.lt
        replace hB := hB.trans (hb2.mono hB.size)
        clear hb2 hc hrw
        go_wp2_with (fail)
        go_ret
        exact ⟨ret_bool (by rw [HR.out, Q1.out]; simp), hB⟩
      · have q1b : decide (fitLo X F L N PX < 0) = false := decide_eq_false (show ¬ fitLo X F L N PX < 0 from q1)
        have Q1 := Lib.hid q1b; clear q1b
        by_cases q2 : W * (F - N) < lineV X F N (PX + (wd : Int)) + L * N
        · have q2b : decide (W * (F - N) < fitHi X F L N PX wd) = true := decide_eq_true (show W * (F - N) < fitHi X F L N PX wd from q2)
          have Q2 := Lib.hid q2b; clear q2b
          have hc := fun p i => blw_blk hblk p i
          have hrw : Rd _ _ 1 A n (rows.map Value.string) := (hr.below hB).more hB.size
          refine wp_region_blw (by kernel_rfl) (by kernel_rfl) ?_
          repeat (go_big_quiet_step (first | (go_at_call 156; exact Calls.blw_of _ (parts_any _ _ _ _ _ _ _ _ _ _ _ h1 h2 h3 h4)) | (go_at_call 155; exact Calls.blw_of _ (cloth_any _ _ _ _ _ _ _ _ _ _ _))))
          refine wpQuiet_nil ?_
          rintro V3 ⟨⟨_, hb2⟩, rfl⟩
          replace hblk := hblk.below hb2 hblk.lt
          replace hB := hB.trans (hb2.mono hB.size)
          clear hb2 hc hrw
          go_wp2_with (fail)
          go_ret
          exact ⟨ret_bool (by rw [HR.out, Q1.out, Q2.out]; simp), hB⟩
        · have q2b : decide (W * (F - N) < fitHi X F L N PX wd) = false := decide_eq_false (show ¬ W * (F - N) < fitHi X F L N PX wd from q2)
          have Q2 := Lib.hid q2b; clear q2b
          have hc := fun p i => blw_blk hblk p i
          have hrw : Rd _ _ 1 A n (rows.map Value.string) := (hr.below hB).more hB.size
          refine wp_region_blw (by kernel_rfl) (by kernel_rfl) ?_
          repeat (go_big_quiet_step (first | (go_at_call 156; exact Calls.blw_of _ (parts_any _ _ _ _ _ _ _ _ _ _ _ h1 h2 h3 h4)) | (go_at_call 155; exact Calls.blw_of _ (cloth_any _ _ _ _ _ _ _ _ _ _ _))))
          refine wpQuiet_nil ?_
          rintro V4 ⟨⟨_, hb2⟩, rfl⟩
          replace hblk := hblk.below hb2 hblk.lt
          replace hB := hB.trans (hb2.mono hB.size)
          clear hb2 hc hrw
          go_wp2_with (fail)
          go_roundg 1
          case measure => rw [HG.out]; omega
          case rel => exact ⟨1, rfl, by omega, rfl, by rw [HR.out, Q1.out, Q2.out]; rfl, hblk, hB⟩
    · simp only [fitsFrom] at hres
      have HR := Lib.hid hres; clear hres
      have hz1 := i64_ok (lineV Y F N PY - L * N) (by omega)
      have hz2 := i64_ok (lineV Y F N (PY + (n : Int)) + L * N) (by omega)
      have hz3 := i64_ok (H * (F - N)) (by omega)
      go_wp2_with (fail)
      have hc := fun p i => blw_blk hblk p i
      have hrw : Rd _ _ 1 A n (rows.map Value.string) := (hr.below hB).more hB.size
      refine wp_region_blw (by kernel_rfl) (by kernel_rfl) ?_
      repeat (go_big_quiet_step (first | (go_at_call 191; exact Calls.blw_of _ (down_any _ _ _ _ _ _ _ _ _ _ _ rfl _ y1 y2 h1 h2 h3 h4 (by omega) (by omega) (by omega) (by omega))) | (go_at_call 153; exact Calls.blw_of _ (blur_any _ _ _ _ _ _ _ _ _ _ _ h5 h6 h3 h4))))
      refine wpQuiet_nil ?_
      rintro V0 ⟨⟨_, hb2⟩, rfl⟩
      replace hblk := hblk.below hb2 hblk.lt
      replace hB := hB.trans (hb2.mono hB.size)
      clear hb2 hc hrw
      go_wp2_with (fail)
      have hc := fun p i => blw_blk hblk p i
      have hrw : Rd _ _ 1 A n (rows.map Value.string) := (hr.below hB).more hB.size
      refine wp_region_blw (by kernel_rfl) (by kernel_rfl) ?_
      repeat (go_big_quiet_step (first | (go_at_call 191; exact Calls.blw_of _ (down_any _ _ _ _ _ _ _ _ _ _ _ rfl _ y1 y2 h1 h2 h3 h4 (by omega) (by omega) (by omega) (by omega))) | (go_at_call 153; exact Calls.blw_of _ (blur_any _ _ _ _ _ _ _ _ _ _ _ h5 h6 h3 h4)) | (go_at_call 154; exact Calls.blw_of _ (size_any W H F L X Y N PX PY A n cap rows _ (rd_blw hrw _) hn hn2 wd hw))))
      refine wpQuiet_nil ?_
      rintro V1 ⟨⟨_, hb2⟩, rfl⟩
      replace hblk := hblk.below hb2 hblk.lt
      replace hB := hB.trans (hb2.mono hB.size)
      clear hb2 hc hrw
      go_wp2_with (fail)
      clear hz1 hz2
      by_cases q1 : lineV Y F N PY - L * N < 0
      · have q1b : decide (fitLo Y F L N PY < 0) = true := decide_eq_true (show fitLo Y F L N PY < 0 from q1)
        have Q1 := Lib.hid q1b; clear q1b
        have hc := fun p i => blw_blk hblk p i
        have hrw : Rd _ _ 1 A n (rows.map Value.string) := (hr.below hB).more hB.size
        refine wp_region_blw (by kernel_rfl) (by kernel_rfl) ?_
        repeat (go_big_quiet_step (first | (go_at_call 156; exact Calls.blw_of _ (parts_any _ _ _ _ _ _ _ _ _ _ _ h1 h2 h3 h4)) | (go_at_call 155; exact Calls.blw_of _ (cloth_any _ _ _ _ _ _ _ _ _ _ _))))
        refine wpQuiet_nil ?_
        rintro V2 ⟨⟨_, hb2⟩, rfl⟩
        replace hblk := hblk.below hb2 hblk.lt
        replace hB := hB.trans (hb2.mono hB.size)
        clear hb2 hc hrw
        go_wp2_with (fail)
        go_ret
        exact ⟨ret_bool (by rw [HR.out, Q1.out]; simp), hB⟩
      · have q1b : decide (fitLo Y F L N PY < 0) = false := decide_eq_false (show ¬ fitLo Y F L N PY < 0 from q1)
        have Q1 := Lib.hid q1b; clear q1b
        by_cases q2 : H * (F - N) < lineV Y F N (PY + (n : Int)) + L * N
        · have q2b : decide (H * (F - N) < fitHi Y F L N PY n) = true := decide_eq_true (show H * (F - N) < fitHi Y F L N PY n from q2)
          have Q2 := Lib.hid q2b; clear q2b
          have hc := fun p i => blw_blk hblk p i
          have hrw : Rd _ _ 1 A n (rows.map Value.string) := (hr.below hB).more hB.size
          refine wp_region_blw (by kernel_rfl) (by kernel_rfl) ?_
          repeat (go_big_quiet_step (first | (go_at_call 156; exact Calls.blw_of _ (parts_any _ _ _ _ _ _ _ _ _ _ _ h1 h2 h3 h4)) | (go_at_call 155; exact Calls.blw_of _ (cloth_any _ _ _ _ _ _ _ _ _ _ _))))
          refine wpQuiet_nil ?_
          rintro V3 ⟨⟨_, hb2⟩, rfl⟩
          replace hblk := hblk.below hb2 hblk.lt
          replace hB := hB.trans (hb2.mono hB.size)
          clear hb2 hc hrw
          go_wp2_with (fail)
          go_ret
          exact ⟨ret_bool (by rw [HR.out, Q1.out, Q2.out]; simp), hB⟩
        · have q2b : decide (H * (F - N) < fitHi Y F L N PY n) = false := decide_eq_false (show ¬ H * (F - N) < fitHi Y F L N PY n from q2)
          have Q2 := Lib.hid q2b; clear q2b
          have hc := fun p i => blw_blk hblk p i
          have hrw : Rd _ _ 1 A n (rows.map Value.string) := (hr.below hB).more hB.size
          refine wp_region_blw (by kernel_rfl) (by kernel_rfl) ?_
          repeat (go_big_quiet_step (first | (go_at_call 156; exact Calls.blw_of _ (parts_any _ _ _ _ _ _ _ _ _ _ _ h1 h2 h3 h4)) | (go_at_call 155; exact Calls.blw_of _ (cloth_any _ _ _ _ _ _ _ _ _ _ _))))
          refine wpQuiet_nil ?_
          rintro V4 ⟨⟨_, hb2⟩, rfl⟩
          replace hblk := hblk.below hb2 hblk.lt
          replace hB := hB.trans (hb2.mono hB.size)
          clear hb2 hc hrw
          go_wp2_with (fail)
          go_roundg 0
          case measure => rw [HG.out]; omega
          case rel => exact ⟨2, rfl, by omega, rfl, by rw [HR.out, Q1.out, Q2.out]; rfl, hblk, hB⟩
    · simp only [fitsFrom] at hres
      have HR := Lib.hid hres; clear hres
      go_wp2
      go_ret
      exact ⟨ret_bool (by rw [HR.out]), hB⟩
end
end Go.Proofs.YtifddfchpknkbaaGreatDoor
