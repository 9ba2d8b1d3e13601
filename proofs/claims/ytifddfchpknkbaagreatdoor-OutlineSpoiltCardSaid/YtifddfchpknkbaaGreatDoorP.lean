import Derived.Test.YtifddfchpknkbaaGreatDoorN
set_option linter.unusedVariables false
set_option linter.unusedSimpArgs false
namespace Go.Proofs.YtifddfchpknkbaaGreatDoor
open Go.RowKit

def fitLo (ax F L N P : Int) : Int := lineV ax F N P - L * N
def fitHi (ax F L N P : Int) (sz : Nat) : Int := lineV ax F N (P + sz) + L * N
def fitsB (W H F L X Y N PX PY : Int) (wd n : Nat) : Bool :=
  !(decide (fitLo X F L N PX < 0)) && (!(decide (W * (F - N) < fitHi X F L N PX wd)) && (!(decide (fitLo Y F L N PY < 0)) && !(decide (H * (F - N) < fitHi Y F L N PY n))))
def fitsFrom (W H F L X Y N PX PY : Int) (wd n : Nat) : Nat → Bool
  | 0 => !(decide (fitLo X F L N PX < 0)) && (!(decide (W * (F - N) < fitHi X F L N PX wd)) && (!(decide (fitLo Y F L N PY < 0)) && !(decide (H * (F - N) < fitHi Y F L N PY n))))
  | 1 => !(decide (fitLo Y F L N PY < 0)) && !(decide (H * (F - N) < fitHi Y F L N PY n))
  | _ => true
theorem rd_blw {w : World} {sz n : Nat} {A : Option Addr} {xs : List Value} (h : Rd w w.heap.size sz A n xs) (p : Blw w.heap.size w) : Rd p.to p.to.heap.size sz A n xs := (h.below p.h).more p.h.size
theorem lineB (ax F N x : Int) (a1 : -100 ≤ ax) (a2 : ax ≤ 100) (b1 : -100 ≤ F) (b2 : F ≤ 100) (c1 : -100 ≤ N) (c2 : N ≤ 100) (d1 : -200 ≤ x) (d2 : x ≤ 200) : -50000 ≤ lineV ax F N x ∧ lineV ax F N x ≤ 50000 := by
  obtain ⟨p1, p2⟩ := mulB (x := ax) (y := F - N) (a := 100) (b := 200) (by omega) (by omega) (by omega) (by omega)
  obtain ⟨q1, q2⟩ := mulB (x := x - ax) (y := F) (a := 300) (b := 100) (by omega) (by omega) (by omega) (by omega)
  unfold lineV; omega

set_option maxRecDepth 100000 in
set_option maxHeartbeats 4000000 in
theorem fits_any (W H F L X Y N PX PY : Int) (A : Option Addr) (n cap : Nat) (rows : List ByteArray) (wd : Nat) (w : World) (hr : Rd w w.heap.size 1 A n (rows.map Value.string)) (hn : 0 < n) (hn2 : n ≤ 50) (hw : ∀ r ∈ rows, r.size = wd) (hwd : wd ≤ 50)
    (w1 : 0 ≤ W) (w2 : W ≤ 50) (w3 : 0 ≤ H) (w4 : H ≤ 50) (x1 : 0 ≤ X) (x2 : X ≤ 100) (y1 : 0 ≤ Y) (y2 : Y ≤ 100) (h1 : 0 ≤ F) (h2 : F ≤ 100) (h3 : 0 ≤ N) (h4 : N ≤ 100) (h5 : 0 ≤ L) (h6 : L ≤ 100) (p1 : -50 ≤ PX) (p2 : PX ≤ 50) (p3 : -50 ≤ PY) (p4 : PY ≤ 50) :
    Calls Tryz.prog 110 #[.agg #[.int .i64 W, .int .i64 H, .int .i64 F, .int .i64 L, .int .i64 X, .int .i64 Y, .slice A n cap, .int .i64 N, .int .i64 PX, .int .i64 PY]] w fun e w' => e = .returned (.bool (fitsB W H F L X Y N PX PY wd n)) ∧ Below w.heap.size w w' := by
  obtain ⟨la1, la2⟩ := lineB X F N PX (by omega) (by omega) (by omega) (by omega) (by omega) (by omega) (by omega) (by omega)
  obtain ⟨lb1, lb2⟩ := lineB X F N (PX + (wd : Int)) (by omega) (by omega) (by omega) (by omega) (by omega) (by omega) (by omega) (by omega)
  obtain ⟨lc1, lc2⟩ := lineB Y F N PY (by omega) (by omega) (by omega) (by omega) (by omega) (by omega) (by omega) (by omega)
  obtain ⟨ld1, ld2⟩ := lineB Y F N (PY + (n : Int)) (by omega) (by omega) (by omega) (by omega) (by omega) (by omega) (by omega) (by omega)
  obtain ⟨b1, b2⟩ := mulB (x := L) (y := N) (a := 100) (b := 100) (by omega) (by omega) (by omega) (by omega)
  obtain ⟨m1, m2⟩ := mulB (x := W) (y := F - N) (a := 100) (b := 200) (by omega) (by omega) (by omega) (by omega)
  obtain ⟨k1, k2⟩ := mulB (x := H) (y := F - N) (a := 100) (b := 200) (by omega) (by omega) (by omega) (by omega)

  have ix0 : ∀ w, (Instr.index 196 (.agg #[.func (.func 190) #[] #[], .func (.func 191) #[] #[]]) (.int .i64 0)).run Tryz.prog w = .ok (.func (.func 190) #[] #[]) w := fun _ => by kernel_rfl
  have ix1 : ∀ w, (Instr.index 196 (.agg #[.func (.func 190) #[] #[], .func (.func 191) #[] #[]]) (.int .i64 1)).run Tryz.prog w = .ok (.func (.func 191) #[] #[]) w := fun _ => by kernel_rfl
  have iy0 : ∀ a b w, (Instr.index 199 (.agg #[.int .i64 a, .int .i64 b]) (.int .i64 0)).run Tryz.prog w = .ok (.int .i64 a) w := fun _ _ _ => by kernel_rfl
  have iy1 : ∀ a b w, (Instr.index 199 (.agg #[.int .i64 a, .int .i64 b]) (.int .i64 1)).run Tryz.prog w = .ok (.int .i64 b) w := fun _ _ _ => by kernel_rfl
  go_enter Tryz.func110, Tryz.ntmps110
  go_wp2_with (go_at_call 152; refine (directions_any _).mono ?_; rintro e ws ⟨rfl, hbs⟩)
  have hblk := (Blk.new w 140 #[.int .i64 W, .int .i64 H, .int .i64 F, .int .i64 L, .int .i64 X, .int .i64 Y, .slice A n cap, .int .i64 N, .int .i64 PX, .int .i64 PY]).below hbs (by simp only [World.size_alloc]; omega)
  have hB := ((Below.refl w.heap.size w).alloc (Nat.le_refl _) (.cells #[.int .i64 W, .int .i64 H, .int .i64 F, .int .i64 L, .int .i64 X, .int .i64 Y, .slice A n cap, .int .i64 N, .int .i64 PX, .int .i64 PY] 140)).trans (hbs.mono (by simp only [World.size_alloc]; omega))
  clear hbs
  go_loopg [8] 2 (fun g i wr => ∃ d : Nat, g = 2 - d ∧ d ≤ 2 ∧ i = .int .i64 d ∧ fitsB W H F L X Y N PX PY wd n = fitsFrom W H F L X Y N PX PY wd n d ∧ Blk wr w.heap.size 140 #[.int .i64 W, .int .i64 H, .int .i64 F, .int .i64 L, .int .i64 X, .int .i64 Y, .slice A n cap, .int .i64 N, .int .i64 PX, .int .i64 PY] ∧ Below w.heap.size w wr)
  case atStart => exact ⟨0, rfl, by omega, rfl, rfl, hblk, hB⟩
  case round =>
    clear hB hblk
    obtain ⟨d, hg, hd, rfl, hres, hblk, hB⟩ := hrel
    have HG := Lib.hid hg; clear hg
    have hlv := hblk.lt
    have hd3 : d = 0 ∨ d = 1 ∨ d = 2 := by omega
    rcases hd3 with rfl | rfl | rfl
    · simp only [fitsFrom] at hres
      have HR := Lib.hid hres; clear hres
      have hz1 := i64_ok (lineV X F N PX - L * N) (by omega)
      have hz2 := i64_ok (lineV X F N (PX + (wd : Int)) + L * N) (by omega)
      have hz3 := i64_ok (W * (F - N)) (by omega)
      go_wp2_with (fail)
      have hc := fun p i => blw_blk hblk p i
      have hrw : Rd _ _ 1 A n (rows.map Value.string) := (hr.below hB).more hB.size
      refine wp_region_blw (by kernel_rfl) (by kernel_rfl) ?_
      repeat (go_big_quiet_step (first | (go_at_call 190; exact Calls.blw_of _ (across_any _ _ _ _ _ _ _ _ _ _ _ rfl _ x1 x2 h1 h2 h3 h4 (by omega) (by omega) (by omega) (by omega))) | (go_at_call 153; exact Calls.blw_of _ (blur_any _ _ _ _ _ _ _ _ _ _ _ h5 h6 h3 h4))))
      refine wpQuiet_nil ?_
      rintro V0 ⟨⟨_, hb2⟩, rfl⟩
      replace hblk := hblk.below hb2 hblk.lt
      replace hB := hB.trans (hb2.mono hB.size)
      clear hb2 hc hrw
      go_wp2_with (fail)
      have hc := fun p i => blw_blk hblk p i
      have hrw : Rd _ _ 1 A n (rows.map Value.string) := (hr.below hB).more hB.size
      refine wp_region_blw (by kernel_rfl) (by kernel_rfl) ?_
      repeat (go_big_quiet_step (first | (go_at_call 190; exact Calls.blw_of _ (across_any _ _ _ _ _ _ _ _ _ _ _ rfl _ x1 x2 h1 h2 h3 h4 (by omega) (by omega) (by omega) (by omega))) | (go_at_call 153; exact Calls.blw_of _ (blur_any _ _ _ _ _ _ _ _ _ _ _ h5 h6 h3 h4)) | (go_at_call 154; exact Calls.blw_of _ (size_any W H F L X Y N PX PY A n cap rows _ (rd_blw hrw _) hn hn2 wd hw))))
      refine wpQuiet_nil ?_
      rintro V1 ⟨⟨_, hb2⟩, rfl⟩
      replace hblk := hblk.below hb2 hblk.lt
      replace hB := hB.trans (hb2.mono hB.size)
      clear hb2 hc hrw
      go_wp2_with (fail)
      clear hz1 hz2
      by_cases q1 : lineV X F N PX - L * N < 0
      · have q1b : decide (fitLo X F L N PX < 0) = true := decide_eq_true (show fitLo X F L N PX < 0 from q1)
        have Q1 := Lib.hid q1b; clear q1b
        have hc := fun p i => blw_blk hblk p i
        have hrw : Rd _ _ 1 A n (rows.map Value.string) := (hr.below hB).more hB.size
        refine wp_region_blw (by kernel_rfl) (by kernel_rfl) ?_
        repeat (go_big_quiet_step (first | (go_at_call 156; exact Calls.blw_of _ (parts_any _ _ _ _ _ _ _ _ _ _ _ h1 h2 h3 h4)) | (go_at_call 155; exact Calls.blw_of _ (cloth_any _ _ _ _ _ _ _ _ _ _ _))))
        refine wpQuiet_nil ?_
        rintro V2 ⟨⟨_, hb2⟩, rfl⟩
        replace hblk := hblk.below hb2 hblk.lt
        replace hB := hB.trans (hb2.mono hB.size)
        clear hb2 hc hrw
        go_wp2_with (fail)
        go_ret
        exact ⟨ret_bool (by rw [HR.out, Q1.out]; simp), hB⟩
      · have q1b : decide (fitLo X F L N PX < 0) = false := decide_eq_false (show ¬ fitLo X F L N PX < 0 from q1)
        have Q1 := Lib.hid q1b; clear q1b
        by_cases q2 : W * (F - N) < lineV X F N (PX + (wd : Int)) + L * N
        · have q2b : decide (W * (F - N) < fitHi X F L N PX wd) = true := decide_eq_true (show W * (F - N) < fitHi X F L N PX wd from q2)
          have Q2 := Lib.hid q2b; clear q2b
          have hc := fun p i => blw_blk hblk p i
          have hrw : Rd _ _ 1 A n (rows.map Value.string) := (hr.below hB).more hB.size
          refine wp_region_blw (by kernel_rfl) (by kernel_rfl) ?_
          repeat (go_big_quiet_step (first | (go_at_call 156; exact Calls.blw_of _ (parts_any _ _ _ _ _ _ _ _ _ _ _ h1 h2 h3 h4)) | (go_at_call 155; exact Calls.blw_of _ (cloth_any _ _ _ _ _ _ _ _ _ _ _))))
          refine wpQuiet_nil ?_
          rintro V3 ⟨⟨_, hb2⟩, rfl⟩
          replace hblk := hblk.below hb2 hblk.lt
          replace hB := hB.trans (hb2.mono hB.size)
          clear hb2 hc hrw
          go_wp2_with (fail)
          go_ret
          exact ⟨ret_bool (by rw [HR.out, Q1.out, Q2.out]; simp), hB⟩
        · have q2b : decide (W * (F - N) < fitHi X F L N PX wd) = false := decide_eq_false (show ¬ W * (F - N) < fitHi X F L N PX wd from q2)
          have Q2 := Lib.hid q2b; clear q2b
          have hc := fun p i => blw_blk hblk p i
          have hrw : Rd _ _ 1 A n (rows.map Value.string) := (hr.below hB).more hB.size
          refine wp_region_blw (by kernel_rfl) (by kernel_rfl) ?_
          repeat (go_big_quiet_step (first | (go_at_call 156; exact Calls.blw_of _ (parts_any _ _ _ _ _ _ _ _ _ _ _ h1 h2 h3 h4)) | (go_at_call 155; exact Calls.blw_of _ (cloth_any _ _ _ _ _ _ _ _ _ _ _))))
          refine wpQuiet_nil ?_
          rintro V4 ⟨⟨_, hb2⟩, rfl⟩
          replace hblk := hblk.below hb2 hblk.lt
          replace hB := hB.trans (hb2.mono hB.size)
          clear hb2 hc hrw
          go_wp2_with (fail)
          go_roundg 1
          case measure => rw [HG.out]; omega
          case rel => exact ⟨1, rfl, by omega, rfl, by rw [HR.out, Q1.out, Q2.out]; rfl, hblk, hB⟩
    · simp only [fitsFrom] at hres
      have HR := Lib.hid hres; clear hres
      have hz1 := i64_ok (lineV Y F N PY - L * N) (by omega)
      have hz2 := i64_ok (lineV Y F N (PY + (n : Int)) + L * N) (by omega)
      have hz3 := i64_ok (H * (F - N)) (by omega)
      go_wp2_with (fail)
      have hc := fun p i => blw_blk hblk p i
      have hrw : Rd _ _ 1 A n (rows.map Value.string) := (hr.below hB).more hB.size
      refine wp_region_blw (by kernel_rfl) (by kernel_rfl) ?_
      repeat (go_big_quiet_step (first | (go_at_call 191; exact Calls.blw_of _ (down_any _ _ _ _ _ _ _ _ _ _ _ rfl _ y1 y2 h1 h2 h3 h4 (by omega) (by omega) (by omega) (by omega))) | (go_at_call 153; exact Calls.blw_of _ (blur_any _ _ _ _ _ _ _ _ _ _ _ h5 h6 h3 h4))))
      refine wpQuiet_nil ?_
      rintro V0 ⟨⟨_, hb2⟩, rfl⟩
      replace hblk := hblk.below hb2 hblk.lt
      replace hB := hB.trans (hb2.mono hB.size)
      clear hb2 hc hrw
      go_wp2_with (fail)
      have hc := fun p i => blw_blk hblk p i
      have hrw : Rd _ _ 1 A n (rows.map Value.string) := (hr.below hB).more hB.size
      refine wp_region_blw (by kernel_rfl) (by kernel_rfl) ?_
      repeat (go_big_quiet_step (first | (go_at_call 191; exact Calls.blw_of _ (down_any _ _ _ _ _ _ _ _ _ _ _ rfl _ y1 y2 h1 h2 h3 h4 (by omega) (by omega) (by omega) (by omega))) | (go_at_call 153; exact Calls.blw_of _ (blur_any _ _ _ _ _ _ _ _ _ _ _ h5 h6 h3 h4)) | (go_at_call 154; exact Calls.blw_of _ (size_any W H F L X Y N PX PY A n cap rows _ (rd_blw hrw _) hn hn2 wd hw))))
      refine wpQuiet_nil ?_
      rintro V1 ⟨⟨_, hb2⟩, rfl⟩
      replace hblk := hblk.below hb2 hblk.lt
      replace hB := hB.trans (hb2.mono hB.size)
      clear hb2 hc hrw
      go_wp2_with (fail)
      clear hz1 hz2
      by_cases q1 : lineV Y F N PY - L * N < 0
      · have q1b : decide (fitLo Y F L N PY < 0) = true := decide_eq_true (show fitLo Y F L N PY < 0 from q1)
        have Q1 := Lib.hid q1b; clear q1b
        have hc := fun p i => blw_blk hblk p i
        have hrw : Rd _ _ 1 A n (rows.map Value.string) := (hr.below hB).more hB.size
        refine wp_region_blw (by kernel_rfl) (by kernel_rfl) ?_
        repeat (go_big_quiet_step (first | (go_at_call 156; exact Calls.blw_of _ (parts_any _ _ _ _ _ _ _ _ _ _ _ h1 h2 h3 h4)) | (go_at_call 155; exact Calls.blw_of _ (cloth_any _ _ _ _ _ _ _ _ _ _ _))))
        refine wpQuiet_nil ?_
        rintro V2 ⟨⟨_, hb2⟩, rfl⟩
        replace hblk := hblk.below hb2 hblk.lt
        replace hB := hB.trans (hb2.mono hB.size)
        clear hb2 hc hrw
        go_wp2_with (fail)
        go_ret
        exact ⟨ret_bool (by rw [HR.out, Q1.out]; simp), hB⟩
      · have q1b : decide (fitLo Y F L N PY < 0) = false := decide_eq_false (show ¬ fitLo Y F L N PY < 0 from q1)
        have Q1 := Lib.hid q1b; clear q1b
        by_cases q2 : H * (F - N) < lineV Y F N (PY + (n : Int)) + L * N
        · have q2b : decide (H * (F - N) < fitHi Y F L N PY n) = true := decide_eq_true (show H * (F - N) < fitHi Y F L N PY n from q2)
          have Q2 := Lib.hid q2b; clear q2b
          have hc := fun p i => blw_blk hblk p i
          have hrw : Rd _ _ 1 A n (rows.map Value.string) := (hr.below hB).more hB.size
          refine wp_region_blw (by kernel_rfl) (by kernel_rfl) ?_
          repeat (go_big_quiet_step (first | (go_at_call 156; exact Calls.blw_of _ (parts_any _ _ _ _ _ _ _ _ _ _ _ h1 h2 h3 h4)) | (go_at_call 155; exact Calls.blw_of _ (cloth_any _ _ _ _ _ _ _ _ _ _ _))))
          refine wpQuiet_nil ?_
          rintro V3 ⟨⟨_, hb2⟩, rfl⟩
          replace hblk := hblk.below hb2 hblk.lt
          replace hB := hB.trans (hb2.mono hB.size)
          clear hb2 hc hrw
          go_wp2_with (fail)
          go_ret
          exact ⟨ret_bool (by rw [HR.out, Q1.out, Q2.out]; simp), hB⟩
        · have q2b : decide (H * (F - N) < fitHi Y F L N PY n) = false := decide_eq_false (show ¬ H * (F - N) < fitHi Y F L N PY n from q2)
          have Q2 := Lib.hid q2b; clear q2b
          have hc := fun p i => blw_blk hblk p i
          have hrw : Rd _ _ 1 A n (rows.map Value.string) := (hr.below hB).more hB.size
          refine wp_region_blw (by kernel_rfl) (by kernel_rfl) ?_
          repeat (go_big_quiet_step (first | (go_at_call 156; exact Calls.blw_of _ (parts_any _ _ _ _ _ _ _ _ _ _ _ h1 h2 h3 h4)) | (go_at_call 155; exact Calls.blw_of _ (cloth_any _ _ _ _ _ _ _ _ _ _ _))))
          refine wpQuiet_nil ?_
          rintro V4 ⟨⟨_, hb2⟩, rfl⟩
          replace hblk := hblk.below hb2 hblk.lt
          replace hB := hB.trans (hb2.mono hB.size)
          clear hb2 hc hrw
          go_wp2_with (fail)
          go_roundg 0
          case measure => rw [HG.out]; omega
          case rel => exact ⟨2, rfl, by omega, rfl, by rw [HR.out, Q1.out, Q2.out]; rfl, hblk, hB⟩
    · simp only [fitsFrom] at hres
      have HR := Lib.hid hres; clear hres
      go_wp2
      go_ret
      exact ⟨ret_bool (by rw [HR.out]), hB⟩
end Go.Proofs.YtifddfchpknkbaaGreatDoor

namespace Go.Proofs.YtifddfchpknkbaaGreatDoor
open Go.RowKit

def viewB (W H F L X Y N PX PY : Int) (rows : List ByteArray) : Bool := stageB W H F L X Y && (figB rows && placeB F N PX PY)
set_option maxRecDepth 100000 in
set_option maxHeartbeats 1600000 in
theorem viewGood_any (W H F L X Y N PX PY : Int) (A : Option Addr) (n cap : Nat) (rows : List ByteArray) (w : World) (hn : n ≤ maxLen) (hs : ∀ r ∈ rows, r.size ≤ maxLen) (hr : Rd w w.heap.size 1 A n (rows.map Value.string)) :
    Calls Tryz.prog 100 #[.agg #[.int .i64 W, .int .i64 H, .int .i64 F, .int .i64 L, .int .i64 X, .int .i64 Y, .slice A n cap, .int .i64 N, .int .i64 PX, .int .i64 PY]] w fun e w' => e = .returned (.bool (viewB W H F L X Y N PX PY rows)) ∧ Below w.heap.size w w' := by
  obtain ⟨res, hres⟩ : ∃ res, res = viewB W H F L X Y N PX PY rows := ⟨_, rfl⟩
  rw [← hres]
  unfold viewB at hres
  cases h1 : stageB W H F L X Y
  · rw [h1] at hres; simp at hres; subst hres
    go_enter Tryz.func100, Tryz.ntmps100
    go_wp2_with (first | (go_at_call 97; refine (goodStage_any _ _ _ _ _ _ _).mono ?_; rintro e w1 ⟨rfl, hb1⟩; rw [h1]; have hB1 : Below w.heap.size w w1 := ((Below.refl _ w).alloc (Nat.le_refl _) _).trans (hb1.mono (by simp only [World.size_alloc]; omega)); have hbv1 := (Blk.new w 140 #[.int .i64 W, .int .i64 H, .int .i64 F, .int .i64 L, .int .i64 X, .int .i64 Y, .slice A n cap, .int .i64 N, .int .i64 PX, .int .i64 PY]).below hb1 (by simp only [World.size_alloc]; omega); have hcv1 := fun i => hbv1.cell i; have hlt1 := hbv1.lt))
    go_ret
    exact ⟨rfl, hB1⟩
  · have hF : 2 ≤ F ∧ F ≤ 40 := by simp [stageB, inB] at h1; omega
    obtain ⟨hF1, hF2⟩ := hF
    cases h2 : figB rows
    · rw [h1, h2] at hres; simp at hres; subst hres
      go_enter Tryz.func100, Tryz.ntmps100
      go_wp2_with (first | (go_at_call 97; refine (goodStage_any _ _ _ _ _ _ _).mono ?_; rintro e w1 ⟨rfl, hb1⟩; rw [h1]; have hB1 : Below w.heap.size w w1 := ((Below.refl _ w).alloc (Nat.le_refl _) _).trans (hb1.mono (by simp only [World.size_alloc]; omega)); have hbv1 := (Blk.new w 140 #[.int .i64 W, .int .i64 H, .int .i64 F, .int .i64 L, .int .i64 X, .int .i64 Y, .slice A n cap, .int .i64 N, .int .i64 PX, .int .i64 PY]).below hb1 (by simp only [World.size_alloc]; omega); have hcv1 := fun i => hbv1.cell i; have hlt1 := hbv1.lt) | (go_at_call 98; refine (goodFigure_any A n cap rows _ hn hs ((hr.below hB1).more hB1.size)).mono ?_; rintro e w2 ⟨rfl, hb2⟩; rw [h2]; have hB2 := hB1.trans (hb2.mono hB1.size); have hbv2 := hbv1.below hb2 hbv1.lt; have hcv2 := fun i => hbv2.cell i; have hlt2 := hbv2.lt))
      go_ret
      exact ⟨rfl, hB2⟩
    · rw [h1, h2] at hres; simp only [Bool.true_and] at hres; subst hres
      go_enter Tryz.func100, Tryz.ntmps100
      go_wp2_with (first | (go_at_call 97; refine (goodStage_any _ _ _ _ _ _ _).mono ?_; rintro e w1 ⟨rfl, hb1⟩; rw [h1]; have hB1 : Below w.heap.size w w1 := ((Below.refl _ w).alloc (Nat.le_refl _) _).trans (hb1.mono (by simp only [World.size_alloc]; omega)); have hbv1 := (Blk.new w 140 #[.int .i64 W, .int .i64 H, .int .i64 F, .int .i64 L, .int .i64 X, .int .i64 Y, .slice A n cap, .int .i64 N, .int .i64 PX, .int .i64 PY]).below hb1 (by simp only [World.size_alloc]; omega); have hcv1 := fun i => hbv1.cell i; have hlt1 := hbv1.lt) | (go_at_call 98; refine (goodFigure_any A n cap rows _ hn hs ((hr.below hB1).more hB1.size)).mono ?_; rintro e w2 ⟨rfl, hb2⟩; rw [h2]; have hB2 := hB1.trans (hb2.mono hB1.size); have hbv2 := hbv1.below hb2 hbv1.lt; have hcv2 := fun i => hbv2.cell i; have hlt2 := hbv2.lt) | (go_at_call 106; refine (goodPlace_any _ _ _ _ _ _ _ _ _ _ hF1 hF2).mono ?_; rintro e w3 ⟨rfl, hb3⟩))
      go_ret
      exact ⟨rfl, hB2.trans (hb3.mono hB2.size)⟩

/-- What a view that is as defined says of its numbers. -/
theorem stageB_nums {W H F L X Y : Int} (h : stageB W H F L X Y = true) : (1 ≤ W ∧ W ≤ 16) ∧ (1 ≤ H ∧ H ≤ 16) ∧ (2 ≤ F ∧ F ≤ 40) ∧ (0 ≤ L ∧ L ≤ 3) ∧ (0 ≤ X ∧ X ≤ 16) ∧ (0 ≤ Y ∧ Y ≤ 16) := by
  simp [stageB, inB] at h; omega
theorem figB_nums {rows : List ByteArray} (h : figB rows = true) : (0 < rows.length ∧ rows.length ≤ 6) ∧ wdOf rows ≤ 6 ∧ 1 ≤ wdOf rows ∧ ∀ r ∈ rows, r.size = wdOf rows := by
  simp only [figB, Bool.and_eq_true] at h
  obtain ⟨h1, h2, h3, _⟩ := h
  simp [inB] at h1 h2
  refine ⟨by omega, by omega, by omega, fun r hr => ?_⟩
  have := List.all_eq_true.1 h3 r hr
  simp [rowB] at this
  exact this.1
theorem placeB_nums {F N PX PY : Int} (h : placeB F N PX PY = true) : (0 ≤ N ∧ N ≤ F - 1) ∧ (-20 ≤ PX ∧ PX ≤ 20) ∧ (-20 ≤ PY ∧ PY ≤ 20) := by
  simp [placeB, inB] at h; omega
end Go.Proofs.YtifddfchpknkbaaGreatDoor

namespace Go.Proofs.YtifddfchpknkbaaGreatDoor
open Go.RowKit

theorem pro4 (w : World) (o1 o2 o3 o4 : Obj) : Below w.heap.size w ((((w.alloc o1).alloc o2).alloc o3).alloc o4) :=
  ((((Below.refl _ w).alloc (Nat.le_refl _) _).alloc (by simp only [World.size_alloc]; omega) _).alloc (by simp only [World.size_alloc]; omega) _).alloc (by simp only [World.size_alloc]; omega) _
theorem rd4 {w : World} {sz n : Nat} {A : Option Addr} {xs : List Value} (h : Rd w w.heap.size sz A n xs) (o1 o2 o3 o4 : Obj) :
    Rd ((((w.alloc o1).alloc o2).alloc o3).alloc o4) ((((w.alloc o1).alloc o2).alloc o3).alloc o4).heap.size sz A n xs := (h.below (pro4 w o1 o2 o3 o4)).more (by simp only [World.size_alloc]; omega)
theorem blk4 (w : World) (o1 o2 o3 : Obj) (t : TypeId) (cs : Array Value) : Blk ((((w.alloc o1).alloc o2).alloc o3).alloc (.cells cs t)) (w.heap.size + 1 + 1 + 1) t cs := by
  have := Blk.new (((w.alloc o1).alloc o2).alloc o3) t cs
  simpa only [World.size_alloc] using this
theorem blk2 (w : World) (o1 : Obj) (t : TypeId) (cs : Array Value) : Blk ((w.alloc o1).alloc (.cells cs t)) (w.heap.size + 1) t cs := by
  have := Blk.new (w.alloc o1) t cs
  simpa only [World.size_alloc] using this
theorem blk1 (w : World) (o2 o3 o4 : Obj) (t : TypeId) (cs : Array Value) : Blk ((((w.alloc (.cells cs t)).alloc o2).alloc o3).alloc o4) w.heap.size t cs :=
  (((Blk.new w t cs).alloc o2).alloc o3).alloc o4

def fitsR (W H F L X Y N PX PY : Int) (rows : List ByteArray) : Array Value :=
  if viewB W H F L X Y N PX PY rows then #[.bool (fitsB W H F L X Y N PX PY (wdOf rows) rows.length), .int .i64 0] else #[.bool false, .int .i64 2]
set_option maxRecDepth 100000 in
set_option maxHeartbeats 1600000 in
theorem Fits_any (W H F L X Y N PX PY : Int) (A : Option Addr) (n cap : Nat) (rows : List ByteArray) (w : World) (hcap : n ≤ cap) (hcm : cap ≤ maxLen) (hs : ∀ r ∈ rows, r.size ≤ maxLen) (hr : Rd w w.heap.size 1 A n (rows.map Value.string)) :
    Calls Tryz.prog 46 #[.agg #[.int .i64 W, .int .i64 H, .int .i64 F, .int .i64 L, .int .i64 X, .int .i64 Y], .agg #[.slice A n cap], .agg #[.int .i64 N, .int .i64 PX, .int .i64 PY]] w fun e w' => e = .returned (.tuple (fitsR W H F L X Y N PX PY rows)) ∧ Below w.heap.size w w' := by
  have hn : n ≤ maxLen := Nat.le_trans hcap hcm
  have hlen := hr.len
  unfold fitsR
  cases hv : viewB W H F L X Y N PX PY rows
  · go_enter Tryz.func46, Tryz.ntmps46
    go_wp2_with (first | (go_at_call 100; refine (viewGood_any W H F L X Y N PX PY A n cap rows _ hn hs (rd4 hr _ _ _ _)).mono ?_; rintro e w1 ⟨rfl, hb1⟩; rw [hv]; have hB1 : Below w.heap.size w w1 := (pro4 w _ _ _ _).trans (hb1.mono (by simp only [World.size_alloc]; omega)); have hbv1 := (blk4 w _ _ _ 140 #[.int .i64 W, .int .i64 H, .int .i64 F, .int .i64 L, .int .i64 X, .int .i64 Y, .slice A n cap, .int .i64 N, .int .i64 PX, .int .i64 PY]).below hb1 (by simp only [World.size_alloc]; omega); have hcv1 := fun i => hbv1.cell i; have hlt1 := hbv1.lt; have hbs1 := (blk1 w _ _ _ 23 #[.int .i64 W, .int .i64 H, .int .i64 F, .int .i64 L, .int .i64 X, .int .i64 Y]).below hb1 (by simp only [World.size_alloc]; omega); have hcs1 := fun i => hbs1.cell i; have hlts1 := hbs1.lt))
    go_ret2
    exact ⟨rfl, hB1⟩
  · have hv2 := hv
    simp only [viewB, Bool.and_eq_true] at hv2
    obtain ⟨hv3, hv4, hv5⟩ := hv2
    obtain ⟨⟨a1, a2⟩, ⟨a3, a4⟩, ⟨a5, a6⟩, ⟨a7, a8⟩, ⟨a9, a10⟩, a11, a12⟩ := stageB_nums hv3
    obtain ⟨⟨b1, b2⟩, b3, b4, b5⟩ := figB_nums hv4
    obtain ⟨⟨c1, c2⟩, ⟨c3, c4⟩, c5, c6⟩ := placeB_nums hv5
    clear hv3 hv4 hv5
    go_enter Tryz.func46, Tryz.ntmps46
    go_wp2_with (first | (go_at_call 100; refine (viewGood_any W H F L X Y N PX PY A n cap rows _ hn hs (rd4 hr _ _ _ _)).mono ?_; rintro e w1 ⟨rfl, hb1⟩; rw [hv]; have hB1 : Below w.heap.size w w1 := (pro4 w _ _ _ _).trans (hb1.mono (by simp only [World.size_alloc]; omega)); have hbv1 := (blk4 w _ _ _ 140 #[.int .i64 W, .int .i64 H, .int .i64 F, .int .i64 L, .int .i64 X, .int .i64 Y, .slice A n cap, .int .i64 N, .int .i64 PX, .int .i64 PY]).below hb1 (by simp only [World.size_alloc]; omega); have hcv1 := fun i => hbv1.cell i; have hlt1 := hbv1.lt; have hbs1 := (blk1 w _ _ _ 23 #[.int .i64 W, .int .i64 H, .int .i64 F, .int .i64 L, .int .i64 X, .int .i64 Y]).below hb1 (by simp only [World.size_alloc]; omega); have hcs1 := fun i => hbs1.cell i; have hlts1 := hbs1.lt) | (go_at_call 110; refine (fits_any W H F L X Y N PX PY A n cap rows (wdOf rows) _ ((hr.below hB1).more hB1.size) (by omega) (by omega) b5 (by omega) (by omega) (by omega) (by omega) (by omega) (by omega) (by omega) (by omega) (by omega) (by omega) (by omega) (by omega) (by omega) (by omega) (by omega) (by omega) (by omega) (by omega) (by omega)).mono ?_; rintro e w2 ⟨rfl, hb2⟩))
    go_ret2
    refine ⟨?_, hB1.trans (hb2.mono hB1.size)⟩
    rfl

def darkN (W H : Nat) (F L X Y N PX PY : Int) (rows : List ByteArray) (c : Int) : Nat := cntL (ltr (strOfNums (shadL W H F L X Y N PX PY rows (wdOf rows) rows.length (W * H)))) [c]

/-- The shadow as a string of cells. -/
def shS (W H F L X Y N PX PY : Int) (rows : List ByteArray) : ByteArray := strOfNums (shadL W.toNat H.toNat F L X Y N PX PY rows (wdOf rows) rows.length (W.toNat * H.toNat))
theorem shS_size (W H F L X Y N PX PY : Int) (rows : List ByteArray) : (shS W H F L X Y N PX PY rows).size = W.toNat * H.toNat := by
  rw [shS, strOfNums_size]; simp [shadL]
theorem shS_le {W H : Int} (F L X Y N PX PY : Int) (rows : List ByteArray) (h1 : W ≤ 50) (h2 : H ≤ 50) : (shS W H F L X Y N PX PY rows).size ≤ 2500 := by
  rw [shS_size]; exact Nat.mul_le_mul (show W.toNat ≤ 50 by omega) (show H.toNat ≤ 50 by omega)
theorem shadow_int (W H F L X Y N PX PY : Int) (A : Option Addr) (n cap : Nat) (rows : List ByteArray) (w : World) (hcap : n ≤ cap) (hcm : cap ≤ maxLen) (hr : Rd w w.heap.size 1 A n (rows.map Value.string)) (hv : viewB W H F L X Y N PX PY rows = true) :
    Calls Tryz.prog 102 #[.agg #[.int .i64 W, .int .i64 H, .int .i64 F, .int .i64 L, .int .i64 X, .int .i64 Y, .slice A n cap, .int .i64 N, .int .i64 PX, .int .i64 PY]] w fun e w' => e = .returned (.string (shS W H F L X Y N PX PY rows)) ∧ Below w.heap.size w w' := by
  have hlen := hr.len
  have hv2 := hv
  simp only [viewB, Bool.and_eq_true] at hv2
  obtain ⟨hv3, hv4, hv5⟩ := hv2
  obtain ⟨⟨a1, a2⟩, ⟨a3, a4⟩, ⟨a5, a6⟩, ⟨a7, a8⟩, ⟨a9, a10⟩, a11, a12⟩ := stageB_nums hv3
  obtain ⟨⟨b1, b2⟩, b3, b4, b5⟩ := figB_nums hv4
  obtain ⟨⟨c1, c2⟩, ⟨c3, c4⟩, c5, c6⟩ := placeB_nums hv5
  clear hv3 hv4 hv5

  obtain ⟨Wn, rfl⟩ : ∃ k : Nat, W = k := ⟨W.toNat, by omega⟩
  obtain ⟨Hn, rfl⟩ : ∃ k : Nat, H = k := ⟨H.toNat, by omega⟩
  refine (shadow_any Wn Hn F L X Y N PX PY A n cap rows (wdOf rows) w hr (by omega) (by omega) hcap hcm b5 (by omega) (by omega) (by omega) (by omega) (by omega) (by omega) (by omega) (by omega) (by omega) (by omega) (by omega) (by omega) (by omega) (by omega) (by omega) (by omega) (by omega) (by omega) (by omega)).mono ?_
  rintro e w' ⟨rfl, hb⟩
  exact ⟨by subst hlen; rfl, hb⟩

def countsR (W H F L X Y N PX PY : Int) (rows : List ByteArray) : Array Value :=
  if viewB W H F L X Y N PX PY rows then #[.int .i64 (cntL (ltr (shS W H F L X Y N PX PY rows)) [35]), .int .i64 (cntL (ltr (shS W H F L X Y N PX PY rows)) [43]), .int .i64 0] else #[.int .i64 0, .int .i64 0, .int .i64 2]
set_option maxRecDepth 100000 in
set_option maxHeartbeats 1600000 in
theorem Counts_any (W H F L X Y N PX PY : Int) (A : Option Addr) (n cap : Nat) (rows : List ByteArray) (w : World) (hcap : n ≤ cap) (hcm : cap ≤ maxLen) (hs : ∀ r ∈ rows, r.size ≤ maxLen) (hr : Rd w w.heap.size 1 A n (rows.map Value.string)) :
    Calls Tryz.prog 30 #[.agg #[.int .i64 W, .int .i64 H, .int .i64 F, .int .i64 L, .int .i64 X, .int .i64 Y], .agg #[.slice A n cap], .agg #[.int .i64 N, .int .i64 PX, .int .i64 PY]] w fun e w' => e = .returned (.tuple (countsR W H F L X Y N PX PY rows)) ∧ Below w.heap.size w w' := by
  have hn : n ≤ maxLen := Nat.le_trans hcap hcm
  unfold countsR
  cases hv : viewB W H F L X Y N PX PY rows
  · go_enter Tryz.func30, Tryz.ntmps30
    go_wp2_with (first | (go_at_call 100; refine (viewGood_any W H F L X Y N PX PY A n cap rows _ hn hs (rd4 hr _ _ _ _)).mono ?_; rintro e w1 ⟨rfl, hb1⟩; rw [hv]; have hB1 : Below w.heap.size w w1 := (pro4 w _ _ _ _).trans (hb1.mono (by simp only [World.size_alloc]; omega)); have hbv1 := (blk4 w _ _ _ 140 #[.int .i64 W, .int .i64 H, .int .i64 F, .int .i64 L, .int .i64 X, .int .i64 Y, .slice A n cap, .int .i64 N, .int .i64 PX, .int .i64 PY]).below hb1 (by simp only [World.size_alloc]; omega); have hcv1 := fun i => hbv1.cell i; have hlt1 := hbv1.lt; have hbs1 := (blk1 w _ _ _ 23 #[.int .i64 W, .int .i64 H, .int .i64 F, .int .i64 L, .int .i64 X, .int .i64 Y]).below hb1 (by simp only [World.size_alloc]; omega); have hcs1 := fun i => hbs1.cell i; have hlts1 := hbs1.lt))
    go_ret3
    exact ⟨rfl, hB1⟩
  · have hv2 := hv
    simp only [viewB, Bool.and_eq_true] at hv2
    obtain ⟨hv3, hv4, hv5⟩ := hv2
    obtain ⟨⟨a1, a2⟩, ⟨a3, a4⟩, ⟨a5, a6⟩, ⟨a7, a8⟩, ⟨a9, a10⟩, a11, a12⟩ := stageB_nums hv3
    obtain ⟨⟨b1, b2⟩, b3, b4, b5⟩ := figB_nums hv4
    obtain ⟨⟨c1, c2⟩, ⟨c3, c4⟩, c5, c6⟩ := placeB_nums hv5
    clear hv3 hv4 hv5
    have hsz := shS_le F L X Y N PX PY rows (show W ≤ 50 by omega) (show H ≤ 50 by omega)
    obtain ⟨sh, hsh⟩ : ∃ sh, sh = shS W H F L X Y N PX PY rows := ⟨_, rfl⟩
    rw [← hsh] at hsz ⊢
    have HSH := Lib.hid hsh; clear hsh
    have hsm : sh.size ≤ maxLen := by unfold maxLen; omega
    go_enter Tryz.func30, Tryz.ntmps30
    go_wp2_with (first | (go_at_call 100; refine (viewGood_any W H F L X Y N PX PY A n cap rows _ hn hs (rd4 hr _ _ _ _)).mono ?_; rintro e w1 ⟨rfl, hb1⟩; rw [hv]; have hB1 : Below w.heap.size w w1 := (pro4 w _ _ _ _).trans (hb1.mono (by simp only [World.size_alloc]; omega)); have hbv1 := (blk4 w _ _ _ 140 #[.int .i64 W, .int .i64 H, .int .i64 F, .int .i64 L, .int .i64 X, .int .i64 Y, .slice A n cap, .int .i64 N, .int .i64 PX, .int .i64 PY]).below hb1 (by simp only [World.size_alloc]; omega); have hcv1 := fun i => hbv1.cell i; have hlt1 := hbv1.lt; have hbs1 := (blk1 w _ _ _ 23 #[.int .i64 W, .int .i64 H, .int .i64 F, .int .i64 L, .int .i64 X, .int .i64 Y]).below hb1 (by simp only [World.size_alloc]; omega); have hcs1 := fun i => hbs1.cell i; have hlts1 := hbs1.lt) | (go_at_call 102; refine (shadow_int W H F L X Y N PX PY A n cap rows _ hcap hcm ((hr.below hB1).more hB1.size) hv).mono ?_; rintro e w2 ⟨rfl, hb2⟩; rw [← HSH.out]; have hB2 := hB1.trans (hb2.mono hB1.size)))
    refine (count_any sh _ 1 1 [35] _ (w2.heap.size + 1) hsm (by decide) (Rd.blk (Blk.new w2 5 #[.int .u8 35]) rfl (Nat.lt_succ_self _))).mono ?_
    rintro e w3 ⟨rfl, rfl⟩
    go_wp2_with (fail)
    refine (count_any sh _ 1 1 [43] _ (w2.heap.size + 1 + 1) hsm (by decide) (Rd.blk (blk2 w2 _ 5 #[.int .u8 43]) rfl (Nat.lt_succ_self _))).mono ?_
    rintro e w3 ⟨rfl, rfl⟩
    go_wp2_with (fail)
    go_ret3
    exact ⟨rfl, (hB2.alloc hB2.size _).alloc (by have := hB2.size; simp only [World.size_alloc]; omega) _⟩
end Go.Proofs.YtifddfchpknkbaaGreatDoor

namespace Go.Proofs.YtifddfchpknkbaaGreatDoor
open Go.RowKit

theorem pro2 (w : World) (o1 o2 : Obj) : Below w.heap.size w ((w.alloc o1).alloc o2) := ((Below.refl _ w).alloc (Nat.le_refl _) _).alloc (by simp only [World.size_alloc]; omega) _
theorem rd2 {w : World} {sz n : Nat} {A : Option Addr} {xs : List Value} (h : Rd w w.heap.size sz A n xs) (o1 o2 : Obj) :
    Rd ((w.alloc o1).alloc o2) ((w.alloc o1).alloc o2).heap.size sz A n xs := (h.below (pro2 w o1 o2)).more (by simp only [World.size_alloc]; omega)

/-- The greatest number below k of which something is so, or none. -/
def mostFrom (ok : Nat → Bool) : Nat → Array Value
  | 0 => #[.int .i64 0, .int .i64 5]
  | k + 1 => if ok k then #[.int .i64 k, .int .i64 0] else mostFrom ok k
def mostR (W H F L X Y PX PY : Int) (rows : List ByteArray) : Array Value :=
  if viewB W H F L X Y 0 PX PY rows then mostFrom (fun k : Nat => fitsB W H F L X Y k PX PY (wdOf rows) rows.length) F.toNat else #[.int .i64 0, .int .i64 2]
set_option maxRecDepth 100000 in
set_option maxHeartbeats 1600000 in
theorem Most_any (W H F L X Y PX PY : Int) (A : Option Addr) (n cap : Nat) (rows : List ByteArray) (w : World) (hcap : n ≤ cap) (hcm : cap ≤ maxLen) (hs : ∀ r ∈ rows, r.size ≤ maxLen) (hr : Rd w w.heap.size 1 A n (rows.map Value.string)) :
    Calls Tryz.prog 47 #[.agg #[.int .i64 W, .int .i64 H, .int .i64 F, .int .i64 L, .int .i64 X, .int .i64 Y], .agg #[.slice A n cap], .int .i64 PX, .int .i64 PY] w fun e w' => e = .returned (.tuple (mostR W H F L X Y PX PY rows)) ∧ Below w.heap.size w w' := by
  have hn : n ≤ maxLen := Nat.le_trans hcap hcm
  have hlen := hr.len
  unfold mostR
  cases hv : viewB W H F L X Y 0 PX PY rows
  · go_enter Tryz.func47, Tryz.ntmps47
    go_wp2_with (first | (go_at_call 100; refine (viewGood_any W H F L X Y 0 PX PY A n cap rows _ hn hs (rd2 hr _ _)).mono ?_; rintro e w1 ⟨rfl, hb1⟩; rw [hv]; have hB1 : Below w.heap.size w w1 := (pro2 w _ _).trans (hb1.mono (by simp only [World.size_alloc]; omega)); have hbs1 := ((Blk.new w 23 #[.int .i64 W, .int .i64 H, .int .i64 F, .int .i64 L, .int .i64 X, .int .i64 Y]).alloc (.cells #[.slice A n cap] 26)).below hb1 (by simp only [World.size_alloc]; omega); have hcs1 := fun i => hbs1.cell i; have hlts1 := hbs1.lt; have hbf1 := (blk2 w (.cells #[.int .i64 W, .int .i64 H, .int .i64 F, .int .i64 L, .int .i64 X, .int .i64 Y] 23) 26 #[.slice A n cap]).below hb1 (by simp only [World.size_alloc]; omega); have hcf1 := fun i => hbf1.cell i; have hltf1 := hbf1.lt))
    go_ret2
    exact ⟨rfl, hB1⟩
  · have hv2 := hv
    simp only [viewB, Bool.and_eq_true] at hv2
    obtain ⟨hv3, hv4, hv5⟩ := hv2
    obtain ⟨⟨a1, a2⟩, ⟨a3, a4⟩, ⟨a5, a6⟩, ⟨a7, a8⟩, ⟨a9, a10⟩, a11, a12⟩ := stageB_nums hv3
    obtain ⟨⟨b1, b2⟩, b3, b4, b5⟩ := figB_nums hv4
    obtain ⟨⟨c1, c2⟩, ⟨c3, c4⟩, c5, c6⟩ := placeB_nums hv5
    clear hv3 hv4 hv5
    obtain ⟨ok, hok⟩ : ∃ ok : Nat → Bool, ok = fun k : Nat => fitsB W H F L X Y k PX PY (wdOf rows) rows.length := ⟨_, rfl⟩
    obtain ⟨Fn, rfl⟩ : ∃ k : Nat, F = k := ⟨F.toNat, by omega⟩
    rw [← hok]
    have hokk := fun k => congrFun hok k
    have HOK := Lib.hid hokk; clear hok hokk
    have HLEN := Lib.hid hlen; clear hlen
    have hw1 := i64_ok ((Fn : Int) - 1) (by omega)
    have hn50 : n ≤ 6 ∧ 0 < n := by have := HLEN.out; omega
    obtain ⟨n50, n0⟩ := hn50
    go_enter Tryz.func47, Tryz.ntmps47
    go_wp2_with (first | (go_at_call 100; refine (viewGood_any W H Fn L X Y 0 PX PY A n cap rows _ hn hs (rd2 hr _ _)).mono ?_; rintro e w1 ⟨rfl, hb1⟩; rw [hv]; have hB1 : Below w.heap.size w w1 := (pro2 w _ _).trans (hb1.mono (by simp only [World.size_alloc]; omega)); have hbs1 := ((Blk.new w 23 #[.int .i64 W, .int .i64 H, .int .i64 Fn, .int .i64 L, .int .i64 X, .int .i64 Y]).alloc (.cells #[.slice A n cap] 26)).below hb1 (by simp only [World.size_alloc]; omega); have hcs1 := fun i => hbs1.cell i; have hlts1 := hbs1.lt; have hbf1 := (blk2 w (.cells #[.int .i64 W, .int .i64 H, .int .i64 Fn, .int .i64 L, .int .i64 X, .int .i64 Y] 23) 26 #[.slice A n cap]).below hb1 (by simp only [World.size_alloc]; omega); have hcf1 := fun i => hbf1.cell i; have hltf1 := hbf1.lt))
    clear hcs1 hcf1 hw1
    go_loopg [10] Fn (fun g i wr => ∃ k : Nat, g = k ∧ k ≤ Fn ∧ i = .int .i64 ((k : Int) - 1) ∧ mostFrom ok Fn = mostFrom ok k ∧ Blk wr w.heap.size 23 #[.int .i64 W, .int .i64 H, .int .i64 Fn, .int .i64 L, .int .i64 X, .int .i64 Y] ∧ Blk wr (w.heap.size + 1) 26 #[.slice A n cap] ∧ Below w.heap.size w wr)
    case atStart => exact ⟨Fn, rfl, Nat.le_refl _, rfl, rfl, hbs1, hbf1, hB1⟩
    case round =>
      clear hbs1 hbf1 hB1 hlts1 hltf1
      obtain ⟨k, hg, hk, rfl, hm, hbs, hbf, hB⟩ := hrel
      have HG := Lib.hid hg; clear hg
      have HM := Lib.hid hm; clear hm
      have hcs := fun i => hbs.cell i
      have hcf := fun i => hbf.cell i
      have hls := hbs.lt
      have hlf := hbf.lt
      rcases k with _ | k
      · go_wp2
        go_ret2
        exact ⟨by show Ending.returned (.tuple #[.int .i64 0, .int .i64 5]) = .returned (.tuple (mostFrom ok ((Fn : Int).toNat))); rw [Int.toNat_natCast, HM.out]; rfl, hB⟩
      · have hki : ((k + 1 : Nat) : Int) - 1 = (k : Int) := by omega
        rw [hki]
        have hkF : (k : Int) < Fn := by omega
        have hw2 := i64_ok ((k : Int) - 1) (by omega)
        have hstep : mostFrom ok (k + 1) = if ok k then #[.int .i64 k, .int .i64 0] else mostFrom ok k := rfl
        have HST := Lib.hid hstep; clear hstep hki
        cases hf : fitsB W H Fn L X Y k PX PY (wdOf rows) n
        all_goals
          go_wp2_with (first | (go_at_call 110; refine (fits_any W H Fn L X Y k PX PY A n cap rows (wdOf rows) _ ((hr.below hB).more hB.size) (by omega) (by omega) b5 (by omega) (by omega) (by omega) (by omega) (by omega) (by omega) (by omega) (by omega) (by omega) (by omega) (by omega) (by omega) (by omega) (by omega) (by omega) (by omega) (by omega) (by omega) (by omega)).mono ?_; rintro e w2 ⟨rfl, hb2⟩; rw [hf]; have hB2 := hB.trans (hb2.mono hB.size)))
        · go_roundg k
          case measure => rw [HG.out]; omega
          case rel => exact ⟨k, rfl, by omega, rfl, by rw [HM.out, HST.out, HOK.out, HLEN.out, hf]; rfl, hbs.below hb2 hls, hbf.below hb2 hlf, hB2⟩
        · go_ret2
          exact ⟨by show Ending.returned (.tuple #[.int .i64 k, .int .i64 0]) = .returned (.tuple (mostFrom ok ((Fn : Int).toNat))); rw [Int.toNat_natCast, HM.out, HST.out, HOK.out, HLEN.out, hf]; rfl, hB2⟩
end Go.Proofs.YtifddfchpknkbaaGreatDoor

namespace Go.Proofs.YtifddfchpknkbaaGreatDoor
open Go.RowKit

theorem viewB_near {W H F L X Y PX PY : Int} {rows : List ByteArray} (h : viewB W H F L X Y 0 PX PY rows = true) (k : Int) (h0 : 0 ≤ k) (h1 : k ≤ F - 1) : viewB W H F L X Y k PX PY rows = true := by
  simp only [viewB, placeB, Bool.and_eq_true] at h ⊢
  refine ⟨h.1, h.2.1, ⟨?_, h.2.2.1.2⟩, h.2.2.2⟩
  simp [inB]; omega
/-- The least number from k on, below k + m, of which something is so, or none. -/
def fadeFrom (ok : Nat → Bool) : Nat → Nat → Array Value
  | 0, _ => #[.int .i64 0, .int .i64 5]
  | m + 1, k => if ok k then #[.int .i64 k, .int .i64 0] else fadeFrom ok m (k + 1)
def noDark (W H F L X Y PX PY : Int) (rows : List ByteArray) (k : Nat) : Bool := (cntL (ltr (shS W H F L X Y k PX PY rows)) [35] : Int) == 0
def fadesR (W H F L X Y PX PY : Int) (rows : List ByteArray) : Array Value :=
  if viewB W H F L X Y 0 PX PY rows then fadeFrom (noDark W H F L X Y PX PY rows) F.toNat 0 else #[.int .i64 0, .int .i64 2]
set_option maxRecDepth 100000 in
set_option maxHeartbeats 1600000 in
theorem Fades_any (W H F L X Y PX PY : Int) (A : Option Addr) (n cap : Nat) (rows : List ByteArray) (w : World) (hcap : n ≤ cap) (hcm : cap ≤ maxLen) (hs : ∀ r ∈ rows, r.size ≤ maxLen) (hr : Rd w w.heap.size 1 A n (rows.map Value.string)) :
    Calls Tryz.prog 48 #[.agg #[.int .i64 W, .int .i64 H, .int .i64 F, .int .i64 L, .int .i64 X, .int .i64 Y], .agg #[.slice A n cap], .int .i64 PX, .int .i64 PY] w fun e w' => e = .returned (.tuple (fadesR W H F L X Y PX PY rows)) ∧ Below w.heap.size w w' := by
  have hn : n ≤ maxLen := Nat.le_trans hcap hcm
  unfold fadesR
  cases hv : viewB W H F L X Y 0 PX PY rows
  · go_enter Tryz.func48, Tryz.ntmps48
    go_wp2_with (first | (go_at_call 100; refine (viewGood_any W H F L X Y 0 PX PY A n cap rows _ hn hs (rd2 hr _ _)).mono ?_; rintro e w1 ⟨rfl, hb1⟩; rw [hv]; have hB1 : Below w.heap.size w w1 := (pro2 w _ _).trans (hb1.mono (by simp only [World.size_alloc]; omega)); have hbs1 := ((Blk.new w 23 #[.int .i64 W, .int .i64 H, .int .i64 F, .int .i64 L, .int .i64 X, .int .i64 Y]).alloc (.cells #[.slice A n cap] 26)).below hb1 (by simp only [World.size_alloc]; omega); have hcs1 := fun i => hbs1.cell i; have hlts1 := hbs1.lt; have hbf1 := (blk2 w (.cells #[.int .i64 W, .int .i64 H, .int .i64 F, .int .i64 L, .int .i64 X, .int .i64 Y] 23) 26 #[.slice A n cap]).below hb1 (by simp only [World.size_alloc]; omega); have hcf1 := fun i => hbf1.cell i; have hltf1 := hbf1.lt))
    go_ret2
    exact ⟨rfl, hB1⟩
  · have hv2 := hv
    simp only [viewB, Bool.and_eq_true] at hv2
    obtain ⟨hv3, hv4, hv5⟩ := hv2
    obtain ⟨⟨a1, a2⟩, ⟨a3, a4⟩, ⟨a5, a6⟩, ⟨a7, a8⟩, ⟨a9, a10⟩, a11, a12⟩ := stageB_nums hv3
    obtain ⟨⟨b1, b2⟩, b3, b4, b5⟩ := figB_nums hv4
    obtain ⟨⟨c1, c2⟩, ⟨c3, c4⟩, c5, c6⟩ := placeB_nums hv5
    clear hv3 hv4 hv5
    obtain ⟨Fn, rfl⟩ : ∃ k : Nat, F = k := ⟨F.toNat, by omega⟩
    obtain ⟨ok, hok⟩ : ∃ ok : Nat → Bool, ok = noDark W H Fn L X Y PX PY rows := ⟨_, rfl⟩
    rw [← hok]
    have hokk := fun k => congrFun hok k
    have HOK := Lib.hid hokk; clear hok hokk
    go_enter Tryz.func48, Tryz.ntmps48
    go_wp2_with (first | (go_at_call 100; refine (viewGood_any W H Fn L X Y 0 PX PY A n cap rows _ hn hs (rd2 hr _ _)).mono ?_; rintro e w1 ⟨rfl, hb1⟩; rw [hv]; have hB1 : Below w.heap.size w w1 := (pro2 w _ _).trans (hb1.mono (by simp only [World.size_alloc]; omega)); have hbs1 := ((Blk.new w 23 #[.int .i64 W, .int .i64 H, .int .i64 Fn, .int .i64 L, .int .i64 X, .int .i64 Y]).alloc (.cells #[.slice A n cap] 26)).below hb1 (by simp only [World.size_alloc]; omega); have hcs1 := fun i => hbs1.cell i; have hlts1 := hbs1.lt; have hbf1 := (blk2 w (.cells #[.int .i64 W, .int .i64 H, .int .i64 Fn, .int .i64 L, .int .i64 X, .int .i64 Y] 23) 26 #[.slice A n cap]).below hb1 (by simp only [World.size_alloc]; omega); have hcf1 := fun i => hbf1.cell i; have hltf1 := hbf1.lt))
    clear hcs1 hcf1
    go_loopg [22] Fn (fun g i wr => ∃ k : Nat, g = Fn - k ∧ k ≤ Fn ∧ i = .int .i64 k ∧ fadeFrom ok Fn 0 = fadeFrom ok (Fn - k) k ∧ Blk wr w.heap.size 23 #[.int .i64 W, .int .i64 H, .int .i64 Fn, .int .i64 L, .int .i64 X, .int .i64 Y] ∧ Blk wr (w.heap.size + 1) 26 #[.slice A n cap] ∧ Below w.heap.size w wr)
    case atStart => exact ⟨0, rfl, Nat.zero_le _, rfl, rfl, hbs1, hbf1, hB1⟩
    case round =>
      clear hbs1 hbf1 hB1 hlts1 hltf1
      obtain ⟨k, hg, hk, rfl, hm, hbs, hbf, hB⟩ := hrel
      have HG := Lib.hid hg; clear hg
      have HM := Lib.hid hm; clear hm
      have hcs := fun i => hbs.cell i
      have hcf := fun i => hbf.cell i
      have hls := hbs.lt
      have hlf := hbf.lt
      by_cases hlt : k < Fn
      · obtain ⟨m, hmk⟩ : ∃ m, Fn - k = m + 1 := ⟨Fn - k - 1, by omega⟩
        have hstep : fadeFrom ok (Fn - k) k = if ok k then #[.int .i64 k, .int .i64 0] else fadeFrom ok (Fn - (k + 1)) (k + 1) := by
          rw [hmk, show Fn - (k + 1) = m by omega]; rfl
        have HST := Lib.hid hstep; clear hstep hmk
        have hvk := viewB_near hv k (by omega) (by omega)
        obtain ⟨sh, hsh⟩ : ∃ sh, sh = shS W H Fn L X Y k PX PY rows := ⟨_, rfl⟩
        have hsz := shS_le Fn L X Y k PX PY rows (show W ≤ 50 by omega) (show H ≤ 50 by omega)
        rw [← hsh] at hsz
        have hsm : sh.size ≤ maxLen := by unfold maxLen; omega
        obtain ⟨c, hc⟩ : ∃ c, c = cntL (ltr sh) [35] := ⟨_, rfl⟩
        have hokc : ok k = ((c : Int) == 0) := by rw [HOK.out, noDark, ← hsh, ← hc]
        have HOC := Lib.hid hokc; have HSH := Lib.hid hsh; have HC := Lib.hid hc; clear hokc hsh hc
        cases hq : ((c : Int) == 0)
        all_goals
          go_wp2_with (first | (go_at_call 102; refine (shadow_int W H Fn L X Y k PX PY A n cap rows _ hcap hcm ((hr.below hB).more hB.size) hvk).mono ?_; rintro e w2 ⟨rfl, hb2⟩; rw [← HSH.out]; have hB2 := hB.trans (hb2.mono hB.size)) | (go_at_call 103; refine (count_any sh _ 1 1 [35] _ (w2.heap.size + 1) hsm (by decide) (Rd.blk (Blk.new w2 5 #[.int .u8 35]) rfl (Nat.lt_succ_self _))).mono ?_; rintro e w3 ⟨rfl, rfl⟩; rw [← HC.out]))
        · go_roundg (Fn - (k + 1))
          case measure => rw [HG.out]; omega
          case rel => exact ⟨k + 1, rfl, by omega, by go_num, by rw [HM.out, HST.out, HOC.out, hq]; rfl, (hbs.below hb2 hls).alloc _, (hbf.below hb2 hlf).alloc _, hB2.alloc hB2.size _⟩
        · go_ret2
          exact ⟨by show Ending.returned (.tuple #[.int .i64 k, .int .i64 0]) = .returned (.tuple (fadeFrom ok ((Fn : Int).toNat) 0)); rw [Int.toNat_natCast, HM.out, HST.out, HOC.out, hq]; rfl, hB2.alloc hB2.size _⟩
      · have hz : fadeFrom ok (Fn - k) k = #[.int .i64 0, .int .i64 5] := by rw [show Fn - k = 0 by omega]; rfl
        have HZ := Lib.hid hz; clear hz
        go_wp2
        go_ret2
        exact ⟨by show Ending.returned (.tuple #[.int .i64 0, .int .i64 5]) = .returned (.tuple (fadeFrom ok ((Fn : Int).toNat) 0)); rw [Int.toNat_natCast, HM.out, HZ.out], hB⟩
end Go.Proofs.YtifddfchpknkbaaGreatDoor

namespace Go.Proofs.YtifddfchpknkbaaGreatDoor
open Go.RowKit

theorem info9 : (Tryz.prog.info? 9).map (fun i => (i.zero, i.size, i.bytes)) = some (some (.string ByteArray.empty), 1, 16) := by kernel_rfl
/-- A string cut into pieces of W letters. -/
def rowsOf (s : ByteArray) (W : Nat) (q : Nat) : List ByteArray := (List.range q).map fun i => s.extract (i * W) (i * W + W)
theorem rowsOf_succ (s : ByteArray) (W q : Nat) : rowsOf s W (q + 1) = rowsOf s W q ++ [s.extract (q * W) (q * W + W)] := by simp [rowsOf, List.range_succ]
theorem rowsOf_len (s : ByteArray) (W q : Nat) : (rowsOf s W q).length = q := by simp [rowsOf]

set_option maxRecDepth 100000 in
theorem cut_any (s : ByteArray) (W H : Nat) (w : World) (hs : s.size = W * H) (hW : 1 ≤ W) (hs2 : s.size ≤ 2500) :
    Calls Tryz.prog 101 #[.string s, .int .i64 W] w fun e w' => ∃ v, e = .returned v ∧ w'.ownsRow w.heap.size 9 1 v H ((rowsOf s W H).map Value.string) ∧ Below w.heap.size w w' := by
  obtain ⟨i0, hi, hz0, hz1', hz2'⟩ := info_parts info9
  have hHs : H ≤ 2500 := by have := Nat.le_mul_of_pos_left H (show 0 < W by omega); omega
  have HS := Lib.hid hs; clear hs
  go_enter Tryz.func101, Tryz.ntmps101
  go_wp2
  go_loopg [0, 5] H (fun g t v wr => ∃ (k : Nat) (r : ByteArray) (v0 : Value), g = H - k ∧ k ≤ H ∧ t = .string r ∧ v = v0 ∧ r = s.extract (k * W) s.size ∧ wr.ownsRow w.heap.size 9 1 v0 k ((rowsOf s W k).map Value.string) ∧ Below w.heap.size w wr)
  case atStart => exact ⟨0, s, _, rfl, Nat.zero_le _, rfl, rfl, by simp, World.ownsRow_nil _ _ _ _, Below.refl _ _⟩
  case round =>
    obtain ⟨k, r, v, hg, hk, rfl, rfl, hr, hown, hB⟩ := hrel
    obtain ⟨va, vc, rfl⟩ := own_slice hown
    have HG := Lib.hid hg; clear hg
    have hrs : r.size = (H - k) * W := by rw [hr, ByteArray.size_extract, HS.out, Nat.mul_comm W H, Nat.sub_mul]; omega
    by_cases hlt : k < H
    · have hge : W ≤ r.size := by rw [hrs]; exact Nat.le_mul_of_pos_left W (by omega)
      have hpos : (0 : Int) < r.size := by omega
      have hkW : k * W + W ≤ s.size := by
        have := Nat.mul_le_mul_right W (show k + 1 ≤ H by omega)
        rw [HS.out, Nat.mul_comm W H]; rw [Nat.add_mul, Nat.one_mul] at this; exact this
      have hx1 : r.extract 0 W = s.extract (k * W) (k * W + W) := by
        rw [hr, ByteArray.extract_extract]; congr 1; omega
      have hx2 : r.extract W r.size = s.extract ((k + 1) * W) s.size := by
        have e : r.size = s.size - k * W := by rw [hr, ByteArray.size_extract]; omega
        rw [e, hr, ByteArray.extract_extract, Nat.add_mul, Nat.one_mul]; congr 1; omega
      have HX1 := Lib.hid hx1; have HX2 := Lib.hid hx2; have HRS := Lib.hid hrs; have HR := Lib.hid hr; clear hx1 hx2 hrs hr
      go_wp2_with (first
        | (at_builtin; refine wpList_append_any _ rfl _ _ 24 rfl w.heap.size 9 i0 (.string ByteArray.empty) 1 16 Tryz.underlying24 hi hz0 hz1' hz2' rfl (by decide) (.slice va k vc) k ((rowsOf s W k).map Value.string) rfl (hown.alloc _) (wr.heap.size + 1) (some ⟨wr.heap.size, 0, none⟩) 1 1 [.string (r.extract 0 W)] rfl (Rd.blkN (Blk.new _ _ _) rfl (Nat.lt_succ_self _)).reads (by simp [Value.oneCell']) (by unfold maxLen; omega) (by omega) (by have := hB.size; simp only [World.size_alloc]; omega) (fun v' w' hown' hgrow hob => ?_))
        | go_in)
      go_roundg (H - (k + 1))
      case measure => rw [HG.out]; omega
      case rel => exact ⟨k + 1, _, _, rfl, by omega, rfl, rfl, HX2.out, by rw [rowsOf_succ, List.map_append, ← HX1.out]; exact hown', (hB.alloc hB.size _).grown hgrow (by have := hB.size; simp only [World.size_alloc]; omega) (fun g hg => (hown.lt g hg).1)⟩
    · obtain rfl : k = H := by omega
      have hr0 : r.size = 0 := by rw [hrs]; simp
      have hr0i : ¬ (0 : Int) < r.size := by omega
      clear hrs hr
      go_wp2
      go_ret
      exact ⟨_, rfl, hown, hB⟩
end Go.Proofs.YtifddfchpknkbaaGreatDoor
