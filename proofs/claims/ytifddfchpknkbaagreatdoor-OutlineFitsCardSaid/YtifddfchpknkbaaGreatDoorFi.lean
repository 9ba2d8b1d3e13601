import Derived.Test.YtifddfchpknkbaaGreatDoorHe
import Derived.Test.YtifddfchpknkbaaGreatDoorMa
import Derived.Test.YtifddfchpknkbaaGreatDoorOc
set_option linter.unusedVariables false
set_option linter.unusedSimpArgs false
namespace Go.Proofs.YtifddfchpknkbaaGreatDoor
open Go.RowKit

set_option maxRecDepth 100000 in
set_option maxHeartbeats 12800000 in
theorem refFits_any (W H F L X Y N PX PY : Int) (A : Option Addr) (n cap : Nat) (rows : List ByteArray) (w : World) (hv : viewB W H F L X Y N PX PY rows = true) (hr : Rd w w.heap.size 1 A n (rows.map Value.string)) :
    Calls Tryz.prog 51 #[.agg #[.int .i64 W, .int .i64 H, .int .i64 F, .int .i64 L, .int .i64 X, .int .i64 Y], .agg #[.slice A n cap], .agg #[.int .i64 N, .int .i64 PX, .int .i64 PY]] w fun e w' => e = .returned (.bool (fitsB W H F L X Y N PX PY (wdOf rows) rows.length)) ∧ Below w.heap.size w w' := by
  have hlen := hr.len
  simp only [viewB, Bool.and_eq_true] at hv
  obtain ⟨hv3, hv4, hv5⟩ := hv
  have ⟨⟨a1, a2⟩, ⟨a3, a4⟩, ⟨a5, a6⟩, ⟨a7, a8⟩, ⟨a9, a10⟩, a11, a12⟩ := stageB_nums hv3
  have ⟨⟨f1, f2⟩, f3, f4, f5⟩ := figB_nums hv4
  have ⟨⟨b1, b2⟩, ⟨b3, b4⟩, b5, b6⟩ := placeB_nums hv5
  have h0 : 0 < n := by omega
  obtain ⟨bA, offA, hz0, rfl, hbA, hc0⟩ := hr.atm (k := 0) h0
  have hwd : (wdOf rows) = rows[0].size := by cases rows with | nil => simp at hz0 | cons a l => rfl
  obtain ⟨r0, hr0⟩ : ∃ r, r = rows[0] := ⟨_, rfl⟩
  rw [← hr0, Nat.add_zero] at hc0
  rw [← hr0] at hwd
  clear hr0 hv3 hv4 hv5 hr
  have e5 := mulB (x := L) (y := N) (a := 3) (b := 40) (by omega) (by omega) (by omega) (by omega)
  have e6 := mulB (x := W) (y := F - N) (a := 16) (b := 40) (by omega) (by omega) (by omega) (by omega)
  have e7 := mulB (x := H) (y := F - N) (a := 16) (b := 40) (by omega) (by omega) (by omega) (by omega)
  have lb : ∀ ax P : Int, 0 ≤ ax → ax ≤ 16 → -30 ≤ P → P ≤ 30 → -10000 ≤ lineV ax F N P ∧ lineV ax F N P ≤ 10000 := by
    intro ax P h1 h2 h3 h4
    have g1 := mulB (x := ax) (y := F - N) (a := 16) (b := 40) (by omega) (by omega) (by omega) (by omega)
    have g2 := mulB (x := P - ax) (y := F) (a := 50) (b := 40) (by omega) (by omega) (by omega) (by omega)
    unfold lineV; omega
  have l1 := lb X PX a9 a10 (by omega) (by omega)
  have l2 := lb X (PX + r0.size) a9 a10 (by omega) (by omega)
  have l3 := lb Y PY a11 a12 (by omega) (by omega)
  have l4 := lb Y (PY + n) a11 a12 (by omega) (by omega)
  have hfb : fitsB W H F L X Y N PX PY (wdOf rows) rows.length = ((decide (0 ≤ lineV X F N PX - L * N) && decide (lineV X F N (PX + r0.size) + L * N ≤ W * (F - N))) && (decide (0 ≤ lineV Y F N PY - L * N) && decide (lineV Y F N (PY + n) + L * N ≤ H * (F - N)))) := by
    rw [Bool.eq_iff_iff, fitsB_iff, hwd, hlen]
    simp only [Bool.and_eq_true, decide_eq_true_eq]
    rfl
  have k1 : -30 ≤ PX + (r0.size : Int) ∧ PX + (r0.size : Int) ≤ 30 := by constructor <;> omega
  have k2 : -30 ≤ PY + (n : Int) ∧ PY + (n : Int) ≤ 30 := by constructor <;> omega
  have HFB := Lib.hid hfb; clear hfb hwd hlen lb
  have o0 := i64_ok (F - N) (by omega)
  have o1 := i64_ok (L * N) (by omega)
  go_enter Tryz.func51, Tryz.ntmps51
  go_upto_region 1 with (fail)
  have hS := blk3_0 w (.cells #[.slice (some ⟨bA, offA, none⟩) n cap] 26) (.cells #[.int .i64 N, .int .i64 PX, .int .i64 PY] 28) 23 #[.int .i64 W, .int .i64 H, .int .i64 F, .int .i64 L, .int .i64 X, .int .i64 Y]
  have hF := blk3_1 w (.cells #[.int .i64 W, .int .i64 H, .int .i64 F, .int .i64 L, .int .i64 X, .int .i64 Y] 23) (.cells #[.int .i64 N, .int .i64 PX, .int .i64 PY] 28) 26 #[.slice (some ⟨bA, offA, none⟩) n cap]
  have hP := blk3_2 w (.cells #[.int .i64 W, .int .i64 H, .int .i64 F, .int .i64 L, .int .i64 X, .int .i64 Y] 23) (.cells #[.slice (some ⟨bA, offA, none⟩) n cap] 26) 28 #[.int .i64 N, .int .i64 PX, .int .i64 PY]
  have hB := pro_3 w (.cells #[.int .i64 W, .int .i64 H, .int .i64 F, .int .i64 L, .int .i64 X, .int .i64 Y] 23) (.cells #[.slice (some ⟨bA, offA, none⟩) n cap] 26) (.cells #[.int .i64 N, .int .i64 PX, .int .i64 PY] 28)
  generalize ((w.alloc (.cells #[.int .i64 W, .int .i64 H, .int .i64 F, .int .i64 L, .int .i64 X, .int .i64 Y] 23)).alloc (.cells #[.slice (some ⟨bA, offA, none⟩) n cap] 26)).alloc (.cells #[.int .i64 N, .int .i64 PX, .int .i64 PY] 28) = W0 at *
  have hbs := fun p i => blw_blk hS p i
  have hbp := fun p i => blw_blk hP p i
  refine wp_region_blw (by kernel_rfl) (by kernel_rfl) ?_
  repeat (go_big_quiet_step (fail))
  refine wpQuiet_nil ?_
  rintro W1 ⟨⟨_, hb⟩, rfl⟩
  clear hbs hbp
  replace hS := hS.below hb hS.lt; replace hF := hF.below hb hF.lt; replace hP := hP.below hb hP.lt; replace hB := hB.trans (hb.mono hB.size)
  clear hb o0 o1
  rename World => V0
  go_upto_region 2 with (fail)
  have hbs := fun p i => blw_blk hS p i
  have hbf := fun p i => blw_blk hF p i
  have hbp := fun p i => blw_blk hP p i
  have hcr : ∀ p : Blw V0.heap.size V0, p.to.cell? ⟨bA, offA, none⟩ = some (.string r0) := fun p => (p.h.cell (p := ⟨bA, offA, none⟩) (Nat.lt_of_lt_of_le hbA hB.size)).trans ((hB.cell (p := ⟨bA, offA, none⟩) hbA).trans hc0)
  have w1 := i64_ok (PX + (r0.size : Int)) (by omega)
  refine wp_region_blw (by kernel_rfl) (by kernel_rfl) ?_
  repeat (go_big_quiet_step (first | (go_at_call 111; exact Calls.blw_of_same _ (line_any _ _ _ _ _ (by omega) (by omega) (by omega) (by omega) (by omega) (by omega) (by omega) (by omega)))))
  refine wpQuiet_nil ?_
  rintro W1 ⟨⟨_, hb⟩, rfl⟩
  clear hbs hbp hbf hcr w1
  replace hS := hS.below hb hS.lt; replace hF := hF.below hb hF.lt; replace hP := hP.below hb hP.lt; replace hB := hB.trans (hb.mono hB.size)
  clear hb
  go_upto_region 3 with (fail)
  have hbs := fun p i => blw_blk hS p i
  have hbf := fun p i => blw_blk hF p i
  have hbp := fun p i => blw_blk hP p i
  have w2 := i64_ok (PY + (n : Int)) (by omega)
  refine wp_region_blw (by kernel_rfl) (by kernel_rfl) ?_
  repeat (go_big_quiet_step (first | (go_at_call 111; exact Calls.blw_of_same _ (line_any _ _ _ _ _ (by omega) (by omega) (by omega) (by omega) (by omega) (by omega) (by omega) (by omega)))))
  refine wpQuiet_nil ?_
  rintro W1 ⟨⟨_, hb⟩, rfl⟩
  clear hbs hbp hbf w2
  replace hS := hS.below hb hS.lt; replace hB := hB.trans (hb.mono hB.size)
  clear hb hF hP hc0 hbA
  have qhS := fun i => Blk.cell hS i
  have p1 := i64_ok (lineV X F N PX - L * N) (by omega)
  have p2 := i64_ok (lineV X F N (PX + r0.size) + L * N) (by omega)
  have p3 := i64_ok (lineV Y F N PY - L * N) (by omega)
  have p4 := i64_ok (lineV Y F N (PY + n) + L * N) (by omega)
  have p5 := i64_ok (W * (F - N)) (by omega)
  have p6 := i64_ok (H * (F - N)) (by omega)
  clear l1 l2 l3 l4 e5 e6 e7 a1 a2 a3 a4 a5 a6 a7 a8 a9 a10 a11 a12 b1 b2 b3 b4 b5 b6 f1 f2 f3 f4
  by_cases t1 : 0 ≤ lineV X F N PX - L * N
  case neg =>
    go_wp2_with (fail)
    go_ret
    exact ⟨ret_bool (by rw [HFB.out, decide_eq_false (show ¬ 0 ≤ lineV X F N PX - L * N by omega)]; simp), hB⟩
  by_cases t2 : lineV X F N (PX + r0.size) + L * N ≤ W * (F - N)
  case neg =>
    go_wp2_with (fail)
    go_ret
    exact ⟨ret_bool (by rw [HFB.out, decide_eq_false (show ¬ lineV X F N (PX + r0.size) + L * N ≤ W * (F - N) by omega)]; simp), hB⟩
  by_cases t3 : 0 ≤ lineV Y F N PY - L * N
  case neg =>
    go_wp2_with (fail)
    go_ret
    exact ⟨ret_bool (by rw [HFB.out, decide_eq_false (show ¬ 0 ≤ lineV Y F N PY - L * N by omega)]; simp), hB⟩
  by_cases t4 : lineV Y F N (PY + n) + L * N ≤ H * (F - N)
  case neg =>
    go_wp2_with (fail)
    go_ret
    exact ⟨ret_bool (by rw [HFB.out, decide_eq_false (show ¬ lineV Y F N (PY + n) + L * N ≤ H * (F - N) by omega)]; simp), hB⟩
  go_wp2_with (fail)
  go_ret
  exact ⟨ret_bool (by rw [HFB.out, decide_eq_true t1, decide_eq_true t2, decide_eq_true t3, decide_eq_true t4]; rfl), hB⟩
end Go.Proofs.YtifddfchpknkbaaGreatDoor
