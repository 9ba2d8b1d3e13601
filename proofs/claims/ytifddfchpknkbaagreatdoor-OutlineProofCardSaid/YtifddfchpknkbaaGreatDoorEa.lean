import Derived.Test.YtifddfchpknkbaaGreatDoorAs
import Derived.Test.YtifddfchpknkbaaGreatDoorN
set_option linter.unusedVariables false
set_option linter.unusedSimpArgs false
namespace Go.Proofs.YtifddfchpknkbaaGreatDoor
open Go.RowKit

theorem inB_iff {c lo hi : Int} : inB c lo hi = true ↔ lo ≤ c ∧ c ≤ hi := by simp [inB]
theorem cellsF_step (last m c : Int) (cs : List Int) (h : 0 ≤ last) : cellsF last m (c :: cs) = (inB c 0 (m - 1) && (decide (last < c) && cellsF c m cs)) := by
  rw [cellsF, Bool.eq_iff_iff]
  simp only [Bool.and_eq_true, inB_iff, decide_eq_true_eq]
  constructor
  · rintro ⟨⟨a, b⟩, d⟩; exact ⟨⟨by omega, b⟩, by omega, d⟩
  · rintro ⟨⟨a, b⟩, e, d⟩; exact ⟨⟨by omega, b⟩, d⟩
set_option maxRecDepth 100000 in
set_option maxHeartbeats 1600000 in
theorem refCells_any (W H F L X Y : Int) (A : Option Addr) (n cap : Nat) (cs : List Int) (w : World) (hn : n ≤ 100000) (hr : Rd w w.heap.size 1 A n (cs.map (Value.int .i64))) (w1 : 1 ≤ W) (w2 : W ≤ 100) (w3 : 1 ≤ H) (w4 : H ≤ 100) :
    Calls Tryz.prog 76 #[.agg #[.int .i64 W, .int .i64 H, .int .i64 F, .int .i64 L, .int .i64 X, .int .i64 Y], .slice A n cap] w fun e w' => e = .returned (.bool (cellsB W H cs)) ∧ Below w.heap.size w w' := by
  have hlen := hr.len
  obtain ⟨q1, q2⟩ := mulB (x := W) (y := H) (a := 100) (b := 100) (by omega) (by omega) (by omega) (by omega)
  have hcb : cellsB W H cs = (decide (n ≤ 8) && cellsF (-1) (W * H) cs) := by rw [cellsB, hlen]
  have HC := Lib.hid hcb; clear hcb
  have hbs := Blk.new w 23 #[.int .i64 W, .int .i64 H, .int .i64 F, .int .i64 L, .int .i64 X, .int .i64 Y]
  have hrw := hr.alloc (Nat.le_refl _) (.cells #[.int .i64 W, .int .i64 H, .int .i64 F, .int .i64 L, .int .i64 X, .int .i64 Y] 23)
  have hBw := (Below.refl w.heap.size w).alloc (Nat.le_refl _) (.cells #[.int .i64 W, .int .i64 H, .int .i64 F, .int .i64 L, .int .i64 X, .int .i64 Y] 23)
  have HLEN := Lib.hid hlen; clear hlen
  go_enter Tryz.func76, Tryz.ntmps76
  go_upto_region 1 with (fail)
  generalize w.alloc (.cells #[.int .i64 W, .int .i64 H, .int .i64 F, .int .i64 L, .int .i64 X, .int .i64 Y] 23) = W0 at *
  go_wp2_with (fail)
  go_loopg [5] n (fun g i wr => ∃ (k : Nat) (last : Int), g = n - k ∧ k ≤ n ∧ i = .int .i64 k ∧ (k = 0 ∧ last = -1 ∨ 0 < k ∧ 0 ≤ last ∧ cs[k - 1]? = some last) ∧ cellsF last (W * H) (cs.drop k) = cellsF (-1) (W * H) cs ∧ Below w.heap.size w wr ∧ Blk wr w.heap.size 23 #[.int .i64 W, .int .i64 H, .int .i64 F, .int .i64 L, .int .i64 X, .int .i64 Y])
  case atStart => exact ⟨0, -1, rfl, Nat.zero_le _, rfl, .inl ⟨rfl, rfl⟩, rfl, hBw, hbs⟩
  case round =>
    clear hBw hbs hrw
    obtain ⟨k, last, hg, hk, rfl, hlast, hi, hB, hS⟩ := hrel
    have HG := Lib.hid hg; have HI := Lib.hid hi; clear hg hi
    have hw4 := i64_ok (W * H - 1) (by omega)
    have hw5 := i64_ok (W * H) (by omega)
    rename World => W1
    by_cases hlt : k < n
    · have hlti : (k : Int) < n := by omega
      obtain ⟨b, off, hzk, rfl, hb, hc⟩ := (rdB hr hB).atm hlt
      have hdrop := List.drop_eq_getElem_cons hzk
      have hgk : cs[k]? = some cs[k] := List.getElem?_eq_getElem hzk
      have hbs := fun p i => blw_blk hS p i
      have hq := fun p : Blw W1.heap.size W1 => blw_cell (a := ⟨b, off + k, none⟩) hb hc p
      have HRD := Lib.hid (rdB hr hB)
      obtain ⟨c, hce⟩ : ∃ c, c = cs[k] := ⟨_, rfl⟩
      rw [← hce] at hdrop hgk hc hq
      rcases hlast with ⟨hk0, hl0⟩ | ⟨hk0, hl0, hlz⟩
      · subst hl0
        have hkpos : ¬ 0 < k := by omega
        have HK0 := Lib.hid hk0; clear hk0
        have hstep : cellsF (-1) (W * H) (cs.drop k) = (inB c 0 (W * H - 1) && cellsF c (W * H) (cs.drop (k + 1))) := by rw [hdrop, cellsF]; rfl
        have HST := Lib.hid hstep; have HGK := Lib.hid hgk; clear hstep hdrop hgk hce
        go_upto_region 4 with (fail)
        cases hin : inB c 0 (W * H - 1)
        · refine wp_region_blw (by kernel_rfl) (by kernel_rfl) ?_
          repeat (go_big_quiet_step ((go_at_call 99; exact Calls.blw_of_same _ (hin ▸ in_any _ _ _ _))))
          refine wpQuiet_nil ?_
          rintro W3 ⟨⟨_, hb3⟩, rfl⟩
          clear hq hbs
          go_wp2_with (fail)
          go_ret
          exact ⟨ret_bool (by rw [HC.out, ← HI.out, HST.out, hin]; simp), hB.trans (hb3.mono hB.size)⟩
        · refine wp_region_blw (by kernel_rfl) (by kernel_rfl) ?_
          repeat (go_big_quiet_step ((go_at_call 99; exact Calls.blw_of_same _ (hin ▸ in_any _ _ _ _))))
          refine wpQuiet_nil ?_
          rintro W3 ⟨⟨_, hb3⟩, rfl⟩
          clear hq hbs
          go_wp2_with (fail)
          go_roundg (n - (k + 1))
          case measure => rw [HG.out]; omega
          case rel => exact ⟨k + 1, c, rfl, by omega, by go_num, .inr ⟨by omega, by have := inB_iff.1 hin; omega, HGK.out⟩, by rw [← HI.out, HST.out, hin]; rfl, hB.trans (hb3.mono hB.size), hS.below hb3 hS.lt⟩
      · obtain ⟨p, hp⟩ : ∃ p, p = k - 1 := ⟨_, rfl⟩
        have hpn : p < n := by omega
        have hpni : (p : Int) < n := by omega
        have hwp : IntKind.i64.wrap ((k : Int) - 1) = (p : Int) := by rw [i64_ok _ (by omega)]; omega
        have hkpos : (0 : Int) < k := by omega
        have hknn : ¬ (k : Int) ≤ 0 := by omega
        rw [← hp] at hlz
        have hcp : W1.cell? ⟨b, off + p, none⟩ = some (.int .i64 last) := by
          obtain ⟨b', off', hzp, e', _, hc'⟩ := HRD.out.atm hpn
          cases e'
          have := List.getElem?_eq_some_iff.1 hlz
          obtain ⟨_, e2⟩ := this
          rw [e2] at hc'
          exact hc'
        have hq2 := fun p' : Blw W1.heap.size W1 => blw_cell (a := ⟨b, off + p, none⟩) hb hcp p'
        have hstep : cellsF last (W * H) (cs.drop k) = (inB c 0 (W * H - 1) && (decide (last < c) && cellsF c (W * H) (cs.drop (k + 1)))) := by rw [hdrop, cellsF_step _ _ _ _ hl0]
        have HST := Lib.hid hstep; have HGK := Lib.hid hgk; have HLZ := Lib.hid hlz
        clear hstep hdrop hgk hce hp hlz HRD
        go_upto_region 4 with (fail)
        cases hin : inB c 0 (W * H - 1)
        · refine wp_region_blw (by kernel_rfl) (by kernel_rfl) ?_
          repeat (go_big_quiet_step ((go_at_call 99; exact Calls.blw_of_same _ (hin ▸ in_any _ _ _ _))))
          refine wpQuiet_nil ?_
          rintro W3 ⟨⟨_, hb3⟩, rfl⟩
          clear hq hbs hq2
          go_wp2_with (fail)
          go_ret
          exact ⟨ret_bool (by rw [HC.out, ← HI.out, HST.out, hin]; simp), hB.trans (hb3.mono hB.size)⟩
        · by_cases hle : c ≤ last
          · refine wp_region_blw (by kernel_rfl) (by kernel_rfl) ?_
            repeat (go_big_quiet_step ((go_at_call 99; exact Calls.blw_of_same _ (hin ▸ in_any _ _ _ _))))
            refine wpQuiet_nil ?_
            rintro W3 ⟨⟨_, hb3⟩, rfl⟩
            clear hq hbs hq2
            go_wp2_with (fail)
            go_ret
            exact ⟨ret_bool (by rw [HC.out, ← HI.out, HST.out, hin, (show decide (last < c) = false from decide_eq_false (by omega))]; simp), hB.trans (hb3.mono hB.size)⟩
          · refine wp_region_blw (by kernel_rfl) (by kernel_rfl) ?_
            repeat (go_big_quiet_step ((go_at_call 99; exact Calls.blw_of_same _ (hin ▸ in_any _ _ _ _))))
            refine wpQuiet_nil ?_
            rintro W3 ⟨⟨_, hb3⟩, rfl⟩
            clear hq hbs hq2
            go_wp2_with (fail)
            go_roundg (n - (k + 1))
            case measure => rw [HG.out]; omega
            case rel => exact ⟨k + 1, c, rfl, by omega, by go_num, .inr ⟨by omega, by have := inB_iff.1 hin; omega, HGK.out⟩, by rw [← HI.out, HST.out, hin, decide_eq_true (by omega)]; rfl, hB.trans (hb3.mono hB.size), hS.below hb3 hS.lt⟩
    · have hdn : cs.drop k = [] := List.drop_eq_nil_of_le (by have := HLEN.out; omega)
      have HDN := Lib.hid hdn; clear hdn
      go_wp2_with (fail)
      go_ret
      exact ⟨ret_bool (by rw [HC.out, ← HI.out, HDN.out, cellsF, Bool.and_true, decide_eq_decide]; omega), hB⟩

/-- A list comes before another one that is as long. -/
def befB : List Int → List Int → Bool
  | x :: xs, y :: ys => if x != y then decide (x < y) else befB xs ys
  | _, _ => false
set_option maxRecDepth 100000 in
set_option maxHeartbeats 1600000 in
theorem before_any (A A2 : Option Addr) (n n2 cap cap2 : Nat) (xs ys : List Int) (w : World) (hn : n ≤ n2) (hn2 : n2 ≤ 100000) (hr : Rd w w.heap.size 1 A n (xs.map (Value.int .i64))) (hr2 : Rd w w.heap.size 1 A2 n2 (ys.map (Value.int .i64))) :
    Calls Tryz.prog 80 #[.slice A n cap, .slice A2 n2 cap2] w fun e w' => e = .returned (.bool (befB xs ys)) ∧ Below w.heap.size w w' := by
  have hlen := hr.len
  have hlen2 := hr2.len
  have HL := Lib.hid hlen; have HL2 := Lib.hid hlen2; clear hlen hlen2
  go_enter Tryz.func80, Tryz.ntmps80
  go_wp2
  go_loopg [5] n (fun g i wr => ∃ k : Nat, g = n - k ∧ k ≤ n ∧ i = .int .i64 k ∧ befB (xs.drop k) (ys.drop k) = befB xs ys ∧ Below w.heap.size w wr)
  case atStart => exact ⟨0, rfl, Nat.zero_le _, rfl, rfl, Below.refl _ _⟩
  case round =>
    obtain ⟨k, hg, hk, rfl, hi, hB⟩ := hrel
    have HG := Lib.hid hg; have HI := Lib.hid hi; clear hg hi
    by_cases hlt : k < n
    · have hlti : (k : Int) < n := by omega
      have hlti2 : (k : Int) < n2 := by omega
      obtain ⟨b, off, hz, rfl, hb, hc⟩ := (hr.below hB).atm hlt
      obtain ⟨b2, off2, hz2, rfl, hb2, hc2⟩ := (hr2.below hB).atm (Nat.lt_of_lt_of_le hlt hn)
      have hd : befB (xs.drop k) (ys.drop k) = if xs[k] != ys[k] then decide (xs[k] < ys[k]) else befB (xs.drop (k + 1)) (ys.drop (k + 1)) := by
        rw [List.drop_eq_getElem_cons hz, List.drop_eq_getElem_cons hz2, befB]
      generalize xs[k] = x at *
      generalize ys[k] = y at *
      have HD := Lib.hid hd; clear hd
      have hbw := Nat.lt_of_lt_of_le hb hB.size
      have hbw2 := Nat.lt_of_lt_of_le hb2 hB.size
      have hq1 := fun p : Blw wr.heap.size wr => blw_cell (a := ⟨b, off + k, none⟩) hbw hc p
      have hq2 := fun p : Blw wr.heap.size wr => blw_cell (a := ⟨b2, off2 + k, none⟩) hbw2 hc2 p
      cases hxy : (x != y)
      · go_wp2_with (fail)
        refine wp_region_blw (by kernel_rfl) (by kernel_rfl) ?_
        repeat (go_big_quiet_step (fail))
        refine wpQuiet_nil ?_
        rintro W3 ⟨⟨_, hb3⟩, rfl⟩
        clear hq1 hq2
        go_wp2_with (fail)
        go_roundg (n - (k + 1))
        case measure => rw [HG.out]; omega
        case rel => exact ⟨k + 1, rfl, by omega, by go_num, by rw [← HI.out, HD.out, hxy]; rfl, hB.trans (hb3.mono hB.size)⟩
      · go_wp2_with (fail)
        refine wp_region_blw (by kernel_rfl) (by kernel_rfl) ?_
        repeat (go_big_quiet_step (fail))
        refine wpQuiet_nil ?_
        rintro W3 ⟨⟨_, hb3⟩, rfl⟩
        replace hB := hB.trans (hb3.mono hB.size)
        have hc' := (hr.below hB).atm hlt
        clear hq1 hq2
        have hq1 := fun p : Blw W3.heap.size W3 => blw_cell (a := ⟨b, off + k, none⟩) (Nat.lt_of_lt_of_le hb hB.size) ((hb3.cell (p := ⟨b, off + k, none⟩) hbw).trans hc) p
        have hq2 := fun p : Blw W3.heap.size W3 => blw_cell (a := ⟨b2, off2 + k, none⟩) (Nat.lt_of_lt_of_le hb2 hB.size) ((hb3.cell (p := ⟨b2, off2 + k, none⟩) hbw2).trans hc2) p
        clear hc'
        go_wp2_with (fail)
        by_cases hxl : x < y
        · refine wp_region_blw (by kernel_rfl) (by kernel_rfl) ?_
          repeat (go_big_quiet_step (fail))
          refine wpQuiet_nil ?_
          rintro W4 ⟨⟨_, hb4⟩, rfl⟩
          clear hq1 hq2
          go_wp2_with (fail)
          go_ret
          exact ⟨ret_bool (by rw [← HI.out, HD.out, hxy, if_pos rfl, decide_eq_true hxl]), hB.trans (hb4.mono hB.size)⟩
        · refine wp_region_blw (by kernel_rfl) (by kernel_rfl) ?_
          repeat (go_big_quiet_step (fail))
          refine wpQuiet_nil ?_
          rintro W4 ⟨⟨_, hb4⟩, rfl⟩
          clear hq1 hq2
          go_wp2_with (fail)
          go_ret
          exact ⟨ret_bool (by rw [← HI.out, HD.out, hxy, if_pos rfl, decide_eq_false (by omega)]), hB.trans (hb4.mono hB.size)⟩
    · obtain rfl : k = n := by omega
      have hdn : xs.drop k = [] := List.drop_eq_nil_of_le (by have := HL.out; omega)
      have HDN := Lib.hid hdn; clear hdn
      go_wp2_with (fail)
      go_ret
      exact ⟨ret_bool (by rw [← HI.out, HDN.out]; cases ys.drop k <;> rfl), hB⟩
end Go.Proofs.YtifddfchpknkbaaGreatDoor
