import Derived.Test.YtifddfchpknkbaaGreatDoorMa
import Derived.Test.YtifddfchpknkbaaGreatDoorKn
set_option linter.unusedVariables false
set_option linter.unusedSimpArgs false
namespace Go.Proofs.YtifddfchpknkbaaGreatDoor
open Go.RowKit

set_option maxRecDepth 100000 in
set_option maxHeartbeats 25600000 in
theorem shade_any (W H F L X Y N PX PY : Int) (k q : Nat) (A : Option Addr) (n cap : Nat) (rows : List ByteArray) (w : World) (hv : viewB W H F L X Y N PX PY rows = true) (hk : k ≤ 16) (hq : q ≤ 16) (hr : Rd w w.heap.size 1 A n (rows.map Value.string)) :
    Calls Tryz.prog 104 #[.agg #[.int .i64 W, .int .i64 H, .int .i64 F, .int .i64 L, .int .i64 X, .int .i64 Y], .agg #[.slice A n cap], .agg #[.int .i64 N, .int .i64 PX, .int .i64 PY], .int .i64 k, .int .i64 q] w fun e w' => e = .returned (.int .u8 (cellS F L X Y N PX PY rows (wdOf rows) rows.length k q)) ∧ Below w.heap.size w w' := by
  have hlen := hr.len
  simp only [viewB, Bool.and_eq_true] at hv
  obtain ⟨hv3, hv4, hv5⟩ := hv
  have ⟨⟨a1, a2⟩, ⟨a3, a4⟩, ⟨a5, a6⟩, ⟨a7, a8⟩, ⟨a9, a10⟩, a11, a12⟩ := stageB_nums hv3
  have ⟨⟨f1, f2⟩, f3, f4, f5⟩ := figB_nums hv4
  have ⟨⟨b1, b2⟩, ⟨b3, b4⟩, b5, b6⟩ := placeB_nums hv5
  have htone : ∀ dk lt, SoFar F L X Y N PX PY rows k q (insideS X F N PX (lowV F N L k) (highV F N L k) (wdOf rows) && insideS Y F N PY (lowV F N L q) (highV F N L q) rows.length) rows.length 0 dk lt → cellS F L X Y N PX PY rows (wdOf rows) rows.length k q = if dk then 35 else if lt then 46 else 43 := fun dk lt h => h.tone (by omega) (by omega) b1 a7 f5
  have HTONE := Lib.hid htone
  have h0 : 0 < n := by omega
  obtain ⟨bA, offA, hz0, rfl, hbA, hc0⟩ := hr.atm (k := 0) h0
  have hwd : (wdOf rows) = rows[0].size := by cases rows with | nil => simp at hz0 | cons a l => rfl
  obtain ⟨r0, hr0⟩ : ∃ r, r = rows[0] := ⟨_, rfl⟩
  rw [← hr0, Nat.add_zero] at hc0
  rw [← hr0] at hwd
  clear hr0 htone hv3 hv4 hv5
  have e1 := mulB (x := (k : Int)) (y := F - N) (a := 20) (b := 40) (by omega) (by omega) (by omega) (by omega)
  have e2 := mulB (x := (k : Int) + 1) (y := F - N) (a := 20) (b := 40) (by omega) (by omega) (by omega) (by omega)
  have e3 := mulB (x := (q : Int)) (y := F - N) (a := 20) (b := 40) (by omega) (by omega) (by omega) (by omega)
  have e4 := mulB (x := (q : Int) + 1) (y := F - N) (a := 20) (b := 40) (by omega) (by omega) (by omega) (by omega)
  have e5 := mulB (x := L) (y := N) (a := 3) (b := 40) (by omega) (by omega) (by omega) (by omega)
  have o0 := i64_ok (F - N) (by omega)
  have o1 := i64_ok (L * N) (by omega)
  have o2 := i64_ok ((k : Int) * (F - N)) (by omega)
  have o3 := i64_ok ((k : Int) * (F - N) - L * N) (by omega)
  have o4 := i64_ok (((k : Int) + 1) * (F - N)) (by omega)
  have o5 := i64_ok (((k : Int) + 1) * (F - N) + L * N) (by omega)
  have o6 := i64_ok ((q : Int) * (F - N)) (by omega)
  have o7 := i64_ok ((q : Int) * (F - N) - L * N) (by omega)
  have o8 := i64_ok (((q : Int) + 1) * (F - N)) (by omega)
  have o9 := i64_ok (((q : Int) + 1) * (F - N) + L * N) (by omega)
  obtain ⟨lo, hlo⟩ : ∃ lo, lo = (k : Int) * (F - N) - L * N := ⟨_, rfl⟩
  obtain ⟨hi, hhi⟩ : ∃ hi, hi = ((k : Int) + 1) * (F - N) + L * N := ⟨_, rfl⟩
  obtain ⟨tp, hto⟩ : ∃ tp, tp = (q : Int) * (F - N) - L * N := ⟨_, rfl⟩
  obtain ⟨lw, hlw⟩ : ∃ lw, lw = ((q : Int) + 1) * (F - N) + L * N := ⟨_, rfl⟩
  have HLO := Lib.hid hlo; have HHI := Lib.hid hhi; have HTO := Lib.hid hto; have HLW := Lib.hid hlw
  have VLO := Lib.hid (show lowV F N L k = lo from hlo.symm); have VHI := Lib.hid (show highV F N L k = hi from hhi.symm); have VTO := Lib.hid (show lowV F N L q = tp from hto.symm); have VLW := Lib.hid (show highV F N L q = lw from hlw.symm)
  have HO := Lib.hid (And.intro o2 (And.intro o3 (And.intro o4 (And.intro o5 (And.intro o6 (And.intro o7 (And.intro o8 o9)))))))
  clear hlo hhi hto hlw e1 e2 e3 e4 e5 o2 o3 o4 o5 o6 o7 o8 o9
  go_enter Tryz.func104, Tryz.ntmps104
  go_upto_region 1 with (fail)
  have hS := blk3_0 w (.cells #[.slice (some ⟨bA, offA, none⟩) n cap] 26) (.cells #[.int .i64 N, .int .i64 PX, .int .i64 PY] 28) 23 #[.int .i64 W, .int .i64 H, .int .i64 F, .int .i64 L, .int .i64 X, .int .i64 Y]
  have hF := blk3_1 w (.cells #[.int .i64 W, .int .i64 H, .int .i64 F, .int .i64 L, .int .i64 X, .int .i64 Y] 23) (.cells #[.int .i64 N, .int .i64 PX, .int .i64 PY] 28) 26 #[.slice (some ⟨bA, offA, none⟩) n cap]
  have hP := blk3_2 w (.cells #[.int .i64 W, .int .i64 H, .int .i64 F, .int .i64 L, .int .i64 X, .int .i64 Y] 23) (.cells #[.slice (some ⟨bA, offA, none⟩) n cap] 26) 28 #[.int .i64 N, .int .i64 PX, .int .i64 PY]
  have hB := pro_3 w (.cells #[.int .i64 W, .int .i64 H, .int .i64 F, .int .i64 L, .int .i64 X, .int .i64 Y] 23) (.cells #[.slice (some ⟨bA, offA, none⟩) n cap] 26) (.cells #[.int .i64 N, .int .i64 PX, .int .i64 PY] 28)
  generalize ((w.alloc (.cells #[.int .i64 W, .int .i64 H, .int .i64 F, .int .i64 L, .int .i64 X, .int .i64 Y] 23)).alloc (.cells #[.slice (some ⟨bA, offA, none⟩) n cap] 26)).alloc (.cells #[.int .i64 N, .int .i64 PX, .int .i64 PY] 28) = W0 at *
  have qhS := fun i => Blk.cell hS i
  have qhF := fun i => Blk.cell hF i
  have qhP := fun i => Blk.cell hP i
  have hrr := rdB hr hB
  clear hr
  have hbb := fun p i => blw_blk hS p i
  have hbp := fun p i => blw_blk hP p i
  refine wp_region_blw (by kernel_rfl) (by kernel_rfl) ?_
  repeat (go_big_quiet_step (fail))
  refine wpQuiet_nil ?_
  rintro W1 ⟨⟨_, hb⟩, rfl⟩
  clear hbb hbp qhS qhF qhP
  replace hS := hS.below hb hS.lt; replace hF := hF.below hb hF.lt; replace hP := hP.below hb hP.lt; replace hrr := rdB hrr hb; replace hB := hB.trans (hb.mono hB.size)
  clear hb o0 o1
  obtain ⟨o2, o3, o4, o5, o6, o7, o8, o9⟩ := HO.out
  go_upto_region 3 with (fail)
  rw [← HLO.out, ← HHI.out]
  clear o2 o3 o4 o5
  go_upto_region 4 with (fail)
  rw [← HTO.out, ← HLW.out]
  clear o6 o7 o8 o9 HO HLO HHI HTO HLW
  have hbf := fun p i => blw_blk hF p i
  rename World => V0
  have hcr : ∀ p : Blw V0.heap.size V0, p.to.cell? ⟨bA, offA, none⟩ = some (.string r0) := fun p => (p.h.cell (p := ⟨bA, offA, none⟩) (Nat.lt_of_lt_of_le hbA hB.size)).trans ((hB.cell (p := ⟨bA, offA, none⟩) hbA).trans hc0)
  refine wp_region_blw (by kernel_rfl) (by kernel_rfl) ?_
  repeat (go_big_quiet_step (fail))
  refine wpQuiet_nil ?_
  rintro W1 ⟨⟨_, hb⟩, rfl⟩
  clear hbf hcr
  replace hS := hS.below hb hS.lt; replace hF := hF.below hb hF.lt; replace hP := hP.below hb hP.lt; replace hrr := rdB hrr hb; replace hB := hB.trans (hb.mono hB.size)
  clear hb hc0
  rename World => V1
  have qhS := fun i => Blk.cell hS i; have qhF := fun i => Blk.cell hF i; have qhP := fun i => Blk.cell hP i
  have hwdn : r0.size ≤ 6 := by omega
  have hwd0 := hwd
  rw [hwd] at HTONE
  have hf5 : ∀ r ∈ rows, r.size = r0.size := fun r h => by rw [f5 r h, hwd]
  clear f5 hwd f3 f4 hz0 h0 hbA a1 a2 a3 a4 a7 a8
  go_upto_region 5 with (fail)
  obtain ⟨D, hD⟩ : ∃ D, D = (insideS X F N PX (lowV F N L k) (highV F N L k) r0.size && insideS Y F N PY (lowV F N L q) (highV F N L q) rows.length) := ⟨_, rfl⟩
  rw [← hD] at HTONE
  have hD2 : D = ((decide (lineV X F N PX ≤ lo) && decide (hi ≤ lineV X F N (PX + r0.size))) && (decide (lineV Y F N PY ≤ tp) && decide (lw ≤ lineV Y F N (PY + n)))) := by
    rw [hD, insideS, insideS, VLO.out, VHI.out, VTO.out, VLW.out, hlen]
  have HD := Lib.hid hD2
  clear hD hD2
  have hn6 : n ≤ 6 := by omega
  have HLEN := Lib.hid hlen; clear hlen
  go_cut [19] (fun v wx => v = .bool D ∧ wx = V1)
  case first =>
    have w1 := i64_ok (PX + (r0.size : Int)) (by omega)
    have w2 := i64_ok (PY + (n : Int)) (by omega)
    by_cases t1 : lineV X F N PX ≤ lo
    case neg =>
      go_wp2_with (first | (go_at_call 111; refine (line_any _ _ _ _ _ (by omega) (by omega) (by omega) (by omega) (by omega) (by omega) (by omega) (by omega)).mono ?_; rintro e w1 ⟨rfl, rfl⟩))
      go_meet
      exact ⟨by rw [HD.out, decide_eq_false (show ¬ lineV X F N PX ≤ lo by omega)]; rfl, rfl⟩
    by_cases t2 : hi ≤ lineV X F N (PX + r0.size)
    case neg =>
      go_wp2_with (first | (go_at_call 111; refine (line_any _ _ _ _ _ (by omega) (by omega) (by omega) (by omega) (by omega) (by omega) (by omega) (by omega)).mono ?_; rintro e w1 ⟨rfl, rfl⟩))
      go_meet
      exact ⟨by rw [HD.out, decide_eq_false (show ¬ hi ≤ lineV X F N (PX + r0.size) by omega)]; simp, rfl⟩
    by_cases t3 : lineV Y F N PY ≤ tp
    case neg =>
      go_wp2_with (first | (go_at_call 111; refine (line_any _ _ _ _ _ (by omega) (by omega) (by omega) (by omega) (by omega) (by omega) (by omega) (by omega)).mono ?_; rintro e w1 ⟨rfl, rfl⟩))
      go_meet
      exact ⟨by rw [HD.out, decide_eq_false (show ¬ lineV Y F N PY ≤ tp by omega)]; simp, rfl⟩
    by_cases t4 : lw ≤ lineV Y F N (PY + n)
    case neg =>
      go_wp2_with (first | (go_at_call 111; refine (line_any _ _ _ _ _ (by omega) (by omega) (by omega) (by omega) (by omega) (by omega) (by omega) (by omega)).mono ?_; rintro e w1 ⟨rfl, rfl⟩))
      go_meet
      exact ⟨by rw [HD.out, decide_eq_false (show ¬ lw ≤ lineV Y F N (PY + n) by omega)]; simp, rfl⟩
    go_wp2_with (first | (go_at_call 111; refine (line_any _ _ _ _ _ (by omega) (by omega) (by omega) (by omega) (by omega) (by omega) (by omega) (by omega)).mono ?_; rintro e w1 ⟨rfl, rfl⟩))
    go_meet
    exact ⟨by rw [HD.out, decide_eq_true (show lineV X F N PX ≤ lo by omega), decide_eq_true (show hi ≤ lineV X F N (PX + r0.size) by omega), decide_eq_true (show lineV Y F N PY ≤ tp by omega), decide_eq_true (show lw ≤ lineV Y F N (PY + n) by omega)]; rfl, rfl⟩
  case rest =>
    obtain ⟨rfl, rfl⟩ := hcut
    go_wp2_with (fail)
    go_loop [19, 20, 21] (fun d l j => ∃ (J : Nat) (dk lt : Bool), J ≤ n ∧ d = .bool dk ∧ l = .bool lt ∧ j = .int .i64 J ∧ Hid (SoFar F L X Y N PX PY rows k q D J 0 dk lt)) (fun _ _ j => n - (intOf j).toNat)
    case atStart => exact ⟨0, D, true, Nat.zero_le _, rfl, rfl, rfl, Lib.hid SoFar.start⟩
    case round =>
      obtain ⟨J, dk, lt, hJ, rfl, rfl, rfl, HSF⟩ := hrel
      by_cases hJn : J < n
      · obtain ⟨bJ, offJ, hzJ, hAJ, hbJ, hcJ⟩ := hrr.atm hJn
        injection hAJ with hAJ2
        injection hAJ2 with hAJ3 hAJ4
        subst hAJ3 hAJ4
        obtain ⟨rJ, hrJ⟩ : ∃ r, r = rows[J] := ⟨_, rfl⟩
        have hgJ : rows[J]? = some rJ := by rw [hrJ]; exact List.getElem?_eq_getElem hzJ
        have hszJ : rJ.size = r0.size := by rw [hrJ]; exact hf5 _ (List.getElem_mem hzJ)
        rw [← hrJ] at hcJ
        have HGJ := Lib.hid hgJ
        clear hrJ hgJ hzJ hbJ
        go_wp2_with (fail)
        go_loop [19, 20, 22] (fun d l i => ∃ (I : Nat) (dk lt : Bool), I ≤ r0.size ∧ d = .bool dk ∧ l = .bool lt ∧ i = .int .i64 I ∧ Hid (SoFar F L X Y N PX PY rows k q D J I dk lt)) (fun _ _ i => r0.size - (intOf i).toNat)
        case atStart => exact ⟨0, dk, lt, Nat.zero_le _, rfl, rfl, rfl, HSF⟩
        case round =>
          clear HSF
          obtain ⟨I, dk, lt, hI, rfl, rfl, rfl, HSF⟩ := hrel
          by_cases hIn : I < r0.size
          · have w1 := i64_ok (PX + (I : Int)) (by omega)
            have w2 := i64_ok (PX + (I : Int) + 1) (by omega)
            have w3 := i64_ok (PY + (J : Int)) (by omega)
            have w4 := i64_ok (PY + (J : Int) + 1) (by omega)
            by_cases c1 : hi ≤ lineV X F N (PX + I)
            case pos =>
              go_wp2_with (first | (go_at_call 111; refine (line_any _ _ _ _ _ (by omega) (by omega) (by omega) (by omega) (by omega) (by omega) (by omega) (by omega)).mono ?_; rintro e w1 ⟨rfl, rfl⟩))
              go_round
              case rel => exact ⟨I + 1, dk, lt, by omega, rfl, rfl, by go_num, Lib.hid (HSF.out.skip (by rintro ⟨_, h1, h2⟩; rw [VHI.out] at h1; omega))⟩
              case measure => simp [intOf]; omega
            by_cases c2 : lineV X F N (PX + I + 1) ≤ lo
            case pos =>
              go_wp2_with (first | (go_at_call 111; refine (line_any _ _ _ _ _ (by omega) (by omega) (by omega) (by omega) (by omega) (by omega) (by omega) (by omega)).mono ?_; rintro e w1 ⟨rfl, rfl⟩))
              go_round
              case rel => exact ⟨I + 1, dk, lt, by omega, rfl, rfl, by go_num, Lib.hid (HSF.out.skip (by rintro ⟨_, h1, h2⟩; rw [VLO.out, show PX + ((I : Int) + 1) = PX + I + 1 by omega] at h2; omega))⟩
              case measure => simp [intOf]; omega
            by_cases c3 : lw ≤ lineV Y F N (PY + J)
            case pos =>
              go_wp2_with (first | (go_at_call 111; refine (line_any _ _ _ _ _ (by omega) (by omega) (by omega) (by omega) (by omega) (by omega) (by omega) (by omega)).mono ?_; rintro e w1 ⟨rfl, rfl⟩))
              go_round
              case rel => exact ⟨I + 1, dk, lt, by omega, rfl, rfl, by go_num, Lib.hid (HSF.out.skip (by rintro ⟨⟨h1, h2⟩, _⟩; rw [VLW.out] at h1; omega))⟩
              case measure => simp [intOf]; omega
            by_cases c4 : lineV Y F N (PY + J + 1) ≤ tp
            case pos =>
              go_wp2_with (first | (go_at_call 111; refine (line_any _ _ _ _ _ (by omega) (by omega) (by omega) (by omega) (by omega) (by omega) (by omega) (by omega)).mono ?_; rintro e w1 ⟨rfl, rfl⟩))
              go_round
              case rel => exact ⟨I + 1, dk, lt, by omega, rfl, rfl, by go_num, Lib.hid (HSF.out.skip (by rintro ⟨⟨h1, h2⟩, _⟩; rw [VTO.out, show PY + ((J : Int) + 1) = PY + J + 1 by omega] at h2; omega))⟩
              case measure => simp [intOf]; omega
            have ov1 : OvS X F N PX (lowV F N L k) (highV F N L k) I := ⟨by rw [VHI.out]; omega, by rw [VLO.out, show PX + ((I : Int) + 1) = PX + I + 1 by omega]; omega⟩
            have ov2 : OvS Y F N PY (lowV F N L q) (highV F N L q) J := ⟨by rw [VLW.out]; omega, by rw [VTO.out, show PY + ((J : Int) + 1) = PY + J + 1 by omega]; omega⟩
            have hIJ : I < rJ.size := by omega
            have hIi : (I : Int) < rJ.size := by omega
            have hJi : (J : Int) < n := by omega
            have hat : AtB rows J I ((rJ[I].toNat : Nat) : Int) := ⟨rJ, HGJ.out, by rw [List.getElem?_eq_getElem (by rw [ltr_len]; exact hIJ), ltr_at rJ I hIJ]⟩
            have HOV := Lib.hid (And.intro ov1 ov2); have HAT := Lib.hid hat
            clear ov1 ov2 hat
            by_cases z35 : ((rJ[I].toNat : Nat) : Int) = 35
            · have hzz : (((rJ[I].toNat : Nat) : Int) == 35) = true := by simp [z35]
              have HZ := Lib.hid z35; clear z35
              go_wp2_with (first | (go_at_call 111; refine (line_any _ _ _ _ _ (by omega) (by omega) (by omega) (by omega) (by omega) (by omega) (by omega) (by omega)).mono ?_; rintro e w1 ⟨rfl, rfl⟩))
              go_round
              case rel => exact ⟨I + 1, dk, false, by omega, rfl, rfl, by go_num, Lib.hid (HSF.out.hide (by have h := HAT.out; rw [HZ.out] at h; exact h) HOV.out.2 HOV.out.1)⟩
              case measure => simp [intOf]; omega
            · have hzz : (((rJ[I].toNat : Nat) : Int) == 35) = false := by simp [z35]
              have HZ := Lib.hid z35; clear z35
              go_wp2_with (first | (go_at_call 111; refine (line_any _ _ _ _ _ (by omega) (by omega) (by omega) (by omega) (by omega) (by omega) (by omega) (by omega)).mono ?_; rintro e w1 ⟨rfl, rfl⟩))
              go_round
              case rel => exact ⟨I + 1, false, lt, by omega, rfl, rfl, by go_num, Lib.hid (HSF.out.pierced HAT.out HZ.out HOV.out.2 HOV.out.1)⟩
              case measure => simp [intOf]; omega
          · have hIe : I = r0.size := by omega
            go_wp2_with (fail)
            go_round
            case rel => exact ⟨J + 1, dk, lt, by omega, rfl, rfl, by go_num, Lib.hid (HSF.out.row (by
              rintro j z ⟨r, hr, hz⟩
              have h1 := HGJ.out
              rw [hr] at h1; cases h1
              have h2 := (List.getElem?_eq_some_iff.1 hz).1
              rw [ltr_len] at h2; omega))⟩
            case measure => simp [intOf]; omega
      · have hJe : J = n := by omega
        have hfin := HTONE.out dk lt (by rw [HLEN.out, ← hJe]; exact HSF.out)
        have HFIN := Lib.hid hfin; clear hfin
        cases dk
        case false =>
          cases lt
          all_goals
            go_wp2_with (fail)
            go_ret
            exact ⟨by rw [HFIN.out]; (first | rfl | simp), hB⟩
        case true =>
          go_wp2_with (fail)
          go_ret
          exact ⟨by rw [HFIN.out]; (first | rfl | simp), hB⟩
end Go.Proofs.YtifddfchpknkbaaGreatDoor
