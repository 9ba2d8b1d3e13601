import Derived.Test.YtifddfchpknkbaaGreatDoorKn
import Derived.Test.YtifddfchpknkbaaGreatDoorMl
set_option linter.unusedVariables false
set_option linter.unusedSimpArgs false
namespace Go.Proofs.YtifddfchpknkbaaGreatDoor
open Go.RowKit

theorem sightRow_eq (W : Int) (r : ByteArray) : sightRow W r = (decide ((r.size : Int) = W) && (ltr r).all (fun b => decide (b ∈ [(35 : Int), 43, 46, 63]))) := rfl

set_option maxRecDepth 1000000 in
set_option maxHeartbeats 1600000 in
theorem refSight_any (W H F L X Y : Int) (A : Option Addr) (n cap : Nat) (rs : List ByteArray) (w : World) (hn : n ≤ maxLen) (hs : ∀ r ∈ rs, r.size ≤ maxLen) (hr : Rd w w.heap.size 1 A n (rs.map Value.string)) :
    Calls Tryz.prog 55 #[.agg #[.int .i64 W, .int .i64 H, .int .i64 F, .int .i64 L, .int .i64 X, .int .i64 Y], .slice A n cap] w fun e w' => e = .returned (.bool (sightB W H rs)) ∧ Below w.heap.size w w' := by
  have hlen := hr.len
  unfold maxLen at hn
  have hsb : sightB W H rs = (decide ((n : Int) = H) && rs.all (sightRow W)) := by rw [sightB, hlen]
  have HF := Lib.hid hsb; clear hsb
  have HL := Lib.hid hlen; clear hlen
  by_cases h1 : (n : Int) = H
  · have HH := Lib.hid h1; clear h1
    have hne : ((n : Int) != H) = false := by have := HH.out; simp; omega
    go_enter Tryz.func55, Tryz.ntmps55
    go_wp2
    have hbs := Blk.new w 23 #[.int .i64 W, .int .i64 H, .int .i64 F, .int .i64 L, .int .i64 X, .int .i64 Y]
    have hB := (Below.refl w.heap.size w).alloc (Nat.le_refl _) (.cells #[.int .i64 W, .int .i64 H, .int .i64 F, .int .i64 L, .int .i64 X, .int .i64 Y] 23)
    go_loopg [5] n (fun g i wr => ∃ k : Nat, g = n - k ∧ k ≤ n ∧ i = .int .i64 k ∧ (rs.take k).all (sightRow W) = true ∧ Below w.heap.size w wr ∧ Blk wr w.heap.size 23 #[.int .i64 W, .int .i64 H, .int .i64 F, .int .i64 L, .int .i64 X, .int .i64 Y])
    case atStart => exact ⟨0, rfl, Nat.zero_le _, rfl, rfl, hB, hbs⟩
    case round =>
      clear hB hbs
      obtain ⟨k, hg, hk, rfl, hall, hB, hbf⟩ := hrel
      have HG := Lib.hid hg; clear hg
      have HALL := Lib.hid hall; clear hall
      have hcf := fun i => hbf.cell i
      have hlf := hbf.lt
      by_cases hlt : k < n
      · obtain ⟨b, off, hzk, rfl, hb, hc⟩ := (hr.below hB).atm hlt
        have ha := all_take (sightRow W) rs k hzk
        have hstop := all_stop (sightRow W) rs k hzk
        have hsk := hs _ (List.getElem_mem hzk)
        generalize rs[k] = rk at *
        unfold maxLen at hsk
        have HA := Lib.hid ha; have HST := Lib.hid hstop; clear ha hstop
        by_cases hq : (rk.size : Int) = W
        · have hqq : ((rk.size : Int) != W) = false := by simp; omega
          have hw : decide ((rk.size : Int) = W) = true := by simpa using hq
          have HW := Lib.hid hw; clear hw
          have hbb := fun p i => blw_blk hbf p i
          have hbc : ∀ p : Blw wr.heap.size wr, p.to.cell? ⟨b, off + k, none⟩ = some (.string rk) := fun p => (p.h.cell (p := ⟨b, off + k, none⟩) (Nat.lt_of_lt_of_le hb hB.size)).trans hc
          go_upto_region 6 with (fail)
          refine wp_region_blw (by kernel_rfl) (by kernel_rfl) ?_
          repeat (go_big_quiet_step (fail))
          refine wpQuiet_nil ?_
          rintro W3 ⟨⟨_, hb3⟩, rfl⟩
          clear hbb hbc hcf
          have hck3 := (hb3.cell (p := ⟨b, off + k, none⟩) (Nat.lt_of_lt_of_le hb hB.size)).trans hc
          replace hbf := hbf.below hb3 hlf
          replace hB := hB.trans (hb3.mono hB.size)
          clear hb3 hlf hc
          have hcf := fun i => hbf.cell i
          have hlf := hbf.lt
          go_wp2_with (fail)
          go_loop [6] (fun i => ∃ q : Nat, q ≤ rk.size ∧ i = .int .i64 q ∧ ((ltr rk).drop q).all (fun b => decide (b ∈ [(35 : Int), 43, 46, 63])) = (ltr rk).all (fun b => decide (b ∈ [(35 : Int), 43, 46, 63]))) (fun i => rk.size - (intOf i).toNat)
          case atStart => exact ⟨0, Nat.zero_le _, rfl, rfl⟩
          case round =>
            obtain ⟨q, hq2, rfl, hal⟩ := hrel
            by_cases hqt : q < rk.size
            · have hd := all_drop (fun b : Int => decide (b ∈ [(35 : Int), 43, 46, 63])) (ltr rk) q (by rw [ltr_len]; exact hqt)
              rw [hal, ltr_at rk q hqt] at hd
              generalize hbb : rk[q].toNat = bb at *
              have HBB := Lib.hid hbb
              have HDD := Lib.hid hd; clear hd hal
              by_cases hin : bb = 35 ∨ bb = 43 ∨ bb = 46 ∨ bb = 63
              · rcases hin with h | h | h | h
                all_goals
                  subst h
                  go_wp2_with (fail)
                  go_round
                  case rel => exact ⟨q + 1, by omega, by go_num, by rw [HDD.out]; simp⟩
                  case measure => simp [intOf]; omega
              · have hno : decide ((bb : Int) ∈ [(35 : Int), 43, 46, 63]) = false := by simp; omega
                have HNO := Lib.hid hno; clear hno
                have e1 : ((bb : Int) != 35) = true := by simp; omega
                have e2 : ((bb : Int) != 43) = true := by simp; omega
                have e3 : ((bb : Int) != 46) = true := by simp; omega
                have e4 : ((bb : Int) != 63) = true := by simp; omega
                go_wp2_with (fail)
                go_ret
                exact ⟨ret_bool (by rw [HF.out, HST.out (by rw [sightRow_eq, HDD.out, HNO.out]; simp)]; simp), hB⟩
            · have hdr : (ltr rk).drop q = [] := List.drop_of_length_le (by rw [ltr_len]; omega)
              rw [hdr] at hal
              have HAL := Lib.hid hal; clear hal hdr
              go_wp2_with (fail)
              go_roundg (n - (k + 1))
              case measure => rw [HG.out]; omega
              case rel => exact ⟨k + 1, rfl, by omega, by go_num, by rw [HA.out, HALL.out, sightRow_eq, HW.out, ← HAL.out]; rfl, hB, hbf⟩
        · have hqq : ((rk.size : Int) != W) = true := by simp; omega
          have hrf : sightRow W rk = false := by simp [sightRow]; intro h; omega
          have HRF := Lib.hid hrf; clear hrf
          have hbb := fun p i => blw_blk hbf p i
          have hbc : ∀ p : Blw wr.heap.size wr, p.to.cell? ⟨b, off + k, none⟩ = some (.string rk) := fun p => (p.h.cell (p := ⟨b, off + k, none⟩) (Nat.lt_of_lt_of_le hb hB.size)).trans hc
          go_upto_region 6 with (fail)
          refine wp_region_blw (by kernel_rfl) (by kernel_rfl) ?_
          repeat (go_big_quiet_step (fail))
          refine wpQuiet_nil ?_
          rintro W3 ⟨⟨_, hb3⟩, rfl⟩
          replace hB := hB.trans (hb3.mono hB.size)
          clear hbb hbc
          go_wp2_with (fail)
          go_ret
          exact ⟨ret_bool (by rw [HF.out, HST.out HRF.out]; simp), hB⟩
      · have hta : rs.take k = rs := List.take_of_length_le (by have := HL.out; omega)
        rw [hta] at HALL
        go_wp2
        go_ret
        exact ⟨ret_bool (by rw [HF.out, HALL.out, decide_eq_true HH.out]; rfl), hB⟩
  · have hne : ((n : Int) != H) = true := by simp; omega
    go_enter Tryz.func55, Tryz.ntmps55
    go_wp2
    go_ret
    exact ⟨ret_bool (by rw [HF.out, decide_eq_false h1]; rfl), (Below.refl _ _).alloc (Nat.le_refl _) _⟩

/-- A whole cloth: a sight in which no cell is unseen. -/
def wholeB (W H : Int) (rs : List ByteArray) : Bool := sightB W H rs && (((countR rs 63 : Nat) : Int) == 0)
set_option maxRecDepth 100000 in
set_option maxHeartbeats 800000 in
theorem whole_any (W H F L X Y : Int) (A : Option Addr) (n cap : Nat) (rs : List ByteArray) (w : World) (hn : n ≤ 100000) (hs : ∀ r ∈ rs, r.size ≤ 100000) (hr : Rd w w.heap.size 1 A n (rs.map Value.string)) :
    Calls Tryz.prog 35 #[.agg #[.int .i64 W, .int .i64 H, .int .i64 F, .int .i64 L, .int .i64 X, .int .i64 Y], .slice A n cap] w fun e w' => e = .returned (.bool (wholeB W H rs)) ∧ Below w.heap.size w w' := by
  have hB : Below w.heap.size w (w.alloc (.cells #[.int .i64 W, .int .i64 H, .int .i64 F, .int .i64 L, .int .i64 X, .int .i64 Y] 23)) := (Below.refl _ w).alloc (Nat.le_refl _) _
  have hwb : wholeB W H rs = (sightB W H rs && (((countR rs 63 : Nat) : Int) == 0)) := rfl
  have HW := Lib.hid hwb; clear hwb
  cases hq : sightB W H rs
  case' true => cases hc : (((countR rs 63 : Nat) : Int) == 0)
  all_goals
    go_enter Tryz.func35, Tryz.ntmps35
    go_wp2_with (first
      | (go_at_call 55; refine (refSight_any W H F L X Y A n cap rs _ (by unfold maxLen; omega) (fun r h => by have := hs r h; unfold maxLen; omega) ((hr.below hB).more hB.size)).mono ?_; rintro e w1 ⟨rfl, hb⟩; rw [hq]; replace hB := hB.trans (hb.mono hB.size); clear hb)
      | (go_at_call 34; refine (refCount_any A n cap rs 63 _ hn (by omega) hs ((hr.below hB).more hB.size)).mono ?_; rintro e w2 ⟨rfl, rfl⟩))
    go_ret
    exact ⟨ret_bool (by rw [HW.out, hq]; first | rfl | rw [hc]; rfl), hB⟩
end Go.Proofs.YtifddfchpknkbaaGreatDoor
