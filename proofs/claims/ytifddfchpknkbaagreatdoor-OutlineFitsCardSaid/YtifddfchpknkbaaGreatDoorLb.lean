import Derived.Test.YtifddfchpknkbaaGreatDoorKn
set_option linter.unusedVariables false
set_option linter.unusedSimpArgs false
namespace Go.Proofs.YtifddfchpknkbaaGreatDoor
open Go.RowKit

theorem hash_any (r : ByteArray) : hashB r = (ltr r).any (fun b => decide (b = 35)) := by
  have hp : (fun b : Int => decide (0 ≤ idxOf b [35] 0)) = fun b => decide (b = 35) := by
    funext b
    by_cases h : b = 35
    · subst h; rfl
    · simp [idxOf, h, Ne.symm h]
  unfold hashB cntL
  rw [hp, Bool.eq_iff_iff, decide_eq_true_eq, List.any_eq_true, List.length_pos_iff_exists_mem]
  simp only [List.mem_filter]

set_option maxRecDepth 1000000 in
set_option maxHeartbeats 1600000 in
theorem refFigure_any (A : Option Addr) (n cap : Nat) (rows : List ByteArray) (w : World) (hn : n ≤ maxLen) (hs : ∀ r ∈ rows, r.size ≤ maxLen) (hr : Rd w w.heap.size 1 A n (rows.map Value.string)) :
    Calls Tryz.prog 28 #[.agg #[.slice A n cap]] w fun e w' => e = .returned (.bool (figB rows)) ∧ Below w.heap.size w w' := by
  have hlen := hr.len
  unfold maxLen at hn
  have hfig : figB rows = (inB n 1 6 && (inB (wdOf rows) 1 6 && (rows.all (rowB (wdOf rows)) && rows.any hashB))) := by rw [figB, hlen]
  have HF := Lib.hid hfig; clear hfig
  cases h1 : inB n 1 6
  · go_enter Tryz.func28, Tryz.ntmps28
    go_wp2_with (go_at_call 99; refine (in_any _ _ _ _).mono ?_; rintro e w' ⟨rfl, rfl⟩; rw [h1])
    go_ret
    exact ⟨ret_bool (by rw [HF.out, h1]; rfl), (Below.refl _ _).alloc (Nat.le_refl _) _⟩
  · have hn0 : 0 < n ∧ n ≤ 6 := by simp [inB] at h1; omega
    obtain ⟨hn1, hn6⟩ := hn0
    have hlt0 : 0 < rows.length := by omega
    obtain ⟨b, off, rfl, hb, hc⟩ := hr.2 hn1
    have hc0 := hc 0 (.string rows[0]) (by simp [hlt0])
    rw [Nat.add_zero] at hc0
    have hwd : wdOf rows = rows[0].size := by cases rows with | nil => simp at hlt0 | cons a l => rfl
    have hs0 := hs _ (List.getElem_mem hlt0)
    obtain ⟨r0, hr0⟩ : ∃ r0, r0 = rows[0] := ⟨_, rfl⟩
    rw [← hr0] at hc0 hwd hs0
    unfold maxLen at hs0
    rw [hwd] at HF
    clear hr0 hwd
    cases h2 : inB r0.size 1 6
    · go_enter Tryz.func28, Tryz.ntmps28
      go_wp2_with (go_at_call 99; refine (in_any _ _ _ _).mono ?_; rintro e w' ⟨rfl, rfl⟩; (first | rw [h1] | rw [h2]))
      go_ret
      exact ⟨ret_bool (by rw [HF.out, h1, h2]; rfl), (Below.refl _ _).alloc (Nat.le_refl _) _⟩
    · go_enter Tryz.func28, Tryz.ntmps28
      go_wp2_with (go_at_call 99; refine (in_any _ _ _ _).mono ?_; rintro e w' ⟨rfl, rfl⟩; (first | rw [h1] | rw [h2]))
      have hbf := Blk.new w 26 #[.slice (some ⟨b, off, none⟩) n cap]
      go_loopg [3, 4] n (fun g t i wr => ∃ k : Nat, g = n - k ∧ k ≤ n ∧ i = .int .i64 k ∧ t = .bool ((rows.take k).any hashB) ∧ (rows.drop k).all (rowB r0.size) = rows.all (rowB r0.size) ∧ Below w.heap.size w wr ∧ Blk wr w.heap.size 26 #[.slice (some ⟨b, off, none⟩) n cap])
      case atStart => exact ⟨0, rfl, Nat.zero_le _, rfl, rfl, rfl, (Below.refl _ _).alloc (Nat.le_refl _) _, hbf⟩
      case round =>
        clear hbf
        obtain ⟨k, hg, hk, rfl, rfl, hall, hB, hbf⟩ := hrel
        have HG := Lib.hid hg; clear hg
        have hcf := fun i => hbf.cell i
        have hlf := hbf.lt
        have hcr0 := (hB.cell (p := ⟨b, off, none⟩) hb).trans hc0
        by_cases hlt : k < n
        · have hkr : k < rows.length := by omega
          have hck := (hB.cell (p := ⟨b, off + k, none⟩) hb).trans (hc k (.string rows[k]) (by simp [hkr]))
          have hsk := hs _ (List.getElem_mem hkr)
          have hd := all_drop (rowB r0.size) rows k hkr
          rw [hall] at hd
          have hy := any_take hashB rows k hkr
          generalize rows[k] = rk at *
          unfold maxLen at hsk
          have HD := Lib.hid hd; have HY := Lib.hid hy; clear hd hy hall
          generalize hacc : (rows.take k).any hashB = acc at *
          have HACC := Lib.hid hacc; clear hacc
          by_cases hq : (rk.size : Int) = r0.size
          · have hne : ((rk.size : Int) != r0.size) = false := by simp [hq]
            have hbb := fun p i => blw_blk hbf p i
            have hbc : ∀ p : Blw wr.heap.size wr, p.to.cell? ⟨b, off + k, none⟩ = some (.string rk) := fun p => (p.h.cell (p := ⟨b, off + k, none⟩) (Nat.lt_of_lt_of_le hb hB.size)).trans hck
            have hb0 : ∀ p : Blw wr.heap.size wr, p.to.cell? ⟨b, off, none⟩ = some (.string r0) := fun p => (p.h.cell (p := ⟨b, off, none⟩) (Nat.lt_of_lt_of_le hb hB.size)).trans hcr0
            go_upto_region 7 with (fail)
            refine wp_region_blw (by kernel_rfl) (by kernel_rfl) ?_
            repeat (go_big_quiet_step (fail))
            refine wpQuiet_nil ?_
            rintro W3 ⟨⟨_, hb3⟩, rfl⟩
            clear hbb hbc hb0 hcf hcr0
            have hck3 := (hb3.cell (p := ⟨b, off + k, none⟩) (Nat.lt_of_lt_of_le hb hB.size)).trans hck
            replace hbf := hbf.below hb3 hlf
            replace hB := hB.trans (hb3.mono hB.size)
            clear hb3 hlf hck
            have hcf := fun i => hbf.cell i
            have hlf := hbf.lt
            go_wp2_with (fail)
            go_loop [3, 5] (fun t i => ∃ q : Nat, q ≤ rk.size ∧ i = .int .i64 q ∧ t = .bool (acc || ((ltr rk).take q).any (fun b => decide (b = 35))) ∧ ((ltr rk).drop q).all (fun b => decide (b ∈ [(35 : Int), 46])) = onlyB rk [35, 46]) (fun _ i => rk.size - (intOf i).toNat)
            case atStart => exact ⟨0, Nat.zero_le _, rfl, by simp, rfl⟩
            case round =>
              obtain ⟨q, hq2, rfl, rfl, hal⟩ := hrel
              by_cases hqt : q < rk.size
              · have hd := all_drop (fun b : Int => decide (b ∈ [(35 : Int), 46])) (ltr rk) q (by rw [ltr_len]; exact hqt)
                rw [hal, ltr_at rk q hqt] at hd
                have hy := any_take (fun b : Int => decide (b = 35)) (ltr rk) q (by rw [ltr_len]; exact hqt)
                rw [ltr_at rk q hqt] at hy
                generalize hm : ((ltr rk).take q).any (fun b => decide (b = 35)) = met at *
                have HM := Lib.hid hm; clear hm
                generalize hbb : rk[q].toNat = bb at *
                have HBB := Lib.hid hbb
                have HDD := Lib.hid hd; have HYY := Lib.hid hy; clear hd hy hal
                cases acc <;> cases met
                all_goals
                  by_cases h35 : bb = 35
                  · subst h35
                    go_wp2_with (fail)
                    go_round
                    case rel => exact ⟨q + 1, by omega, by go_num, by rw [HYY.out]; simp, by rw [HDD.out]; simp⟩
                    case measure => simp [intOf]; omega
                  · by_cases h46 : bb = 46
                    · subst h46
                      go_wp2_with (fail)
                      go_round
                      case rel => exact ⟨q + 1, by omega, by go_num, by rw [HYY.out]; simp, by rw [HDD.out]; simp⟩
                      case measure => simp [intOf]; omega
                    · have hno : decide ((bb : Int) ∈ [(35 : Int), 46]) = false := by simp; omega
                      have HNO := Lib.hid hno; clear hno
                      have e1 : ((bb : Int) == 35) = false := by simp; omega
                      have e2 : ((bb : Int) != 35) = true := by simp; omega
                      have e3 : ((bb : Int) != 46) = true := by simp; omega
                      go_wp2_with (fail)
                      go_ret
                      exact ⟨ret_bool (by rw [HF.out, HD.out, rowB, HDD.out, HNO.out]; simp), hB⟩
              · have hqe : q = rk.size := by omega
                have hdr : (ltr rk).drop q = [] := List.drop_of_length_le (by rw [ltr_len]; omega)
                have htk : (ltr rk).take q = ltr rk := List.take_of_length_le (by rw [ltr_len]; omega)
                rw [hdr] at hal
                rw [htk, ← hash_any]
                have HAL := Lib.hid hal; clear hal hdr htk
                go_wp2_with (fail)
                go_roundg (n - (k + 1))
                case measure => rw [HG.out]; omega
                case rel =>
                  have hrt : rowB r0.size rk = true := by rw [rowB, ← HAL.out]; simp; omega
                  exact ⟨k + 1, rfl, by omega, by go_num, by rw [HY.out], by rw [HD.out, hrt]; rfl, hB, hbf⟩
          · have hne : ((rk.size : Int) != r0.size) = true := by simp; omega
            have hrf : rowB r0.size rk = false := by rw [rowB, decide_eq_false (by omega)]; rfl
            have HRF := Lib.hid hrf; clear hrf
            have hbb := fun p i => blw_blk hbf p i
            have hbc : ∀ p : Blw wr.heap.size wr, p.to.cell? ⟨b, off + k, none⟩ = some (.string rk) := fun p => (p.h.cell (p := ⟨b, off + k, none⟩) (Nat.lt_of_lt_of_le hb hB.size)).trans hck
            have hb0 : ∀ p : Blw wr.heap.size wr, p.to.cell? ⟨b, off, none⟩ = some (.string r0) := fun p => (p.h.cell (p := ⟨b, off, none⟩) (Nat.lt_of_lt_of_le hb hB.size)).trans hcr0
            go_upto_region 7 with (fail)
            refine wp_region_blw (by kernel_rfl) (by kernel_rfl) ?_
            repeat (go_big_quiet_step (fail))
            refine wpQuiet_nil ?_
            rintro W3 ⟨⟨_, hb3⟩, rfl⟩
            replace hB := hB.trans (hb3.mono hB.size)
            clear hbb hbc hb0
            go_wp2_with (fail)
            go_ret
            exact ⟨ret_bool (by rw [HF.out, HD.out, HRF.out]; simp), hB⟩
        · have hkn : k = n := by omega
          subst hkn
          have hd : rows.drop k = [] := List.drop_of_length_le (by omega)
          have ht : rows.take k = rows := List.take_of_length_le (by omega)
          rw [hd] at hall
          rw [ht]
          have HALL := Lib.hid hall; clear hall hd ht
          go_wp2_with (fail)
          go_ret
          exact ⟨ret_bool (by rw [HF.out, h1, h2, ← HALL.out]; rfl), hB⟩
end Go.Proofs.YtifddfchpknkbaaGreatDoor
