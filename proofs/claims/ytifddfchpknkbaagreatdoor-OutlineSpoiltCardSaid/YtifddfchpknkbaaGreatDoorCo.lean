import Derived.Test.YtifddfchpknkbaaGreatDoorKn
import Derived.Test.YtifddfchpknkbaaGreatDoorMa
import Derived.Test.YtifddfchpknkbaaGreatDoorRa
set_option linter.unusedVariables false
set_option linter.unusedSimpArgs false
namespace Go.Proofs.YtifddfchpknkbaaGreatDoor
open Go.RowKit

/-- Figures that are as defined, at most six. -/
def figsB (fs : List Fig) : Bool := (fs.all fun f => figB f.rows) && decide (fs.length ≤ 6)
theorem figsB_long {fs : List Fig} (h : 6 < fs.length) : figsB fs = false := by simp [figsB]; intro _; omega

set_option maxRecDepth 100000 in
set_option maxHeartbeats 1600000 in
theorem refFigures_any (A : Option Addr) (n cap : Nat) (fs : List Fig) (w : World) (hn : n ≤ maxLen) (hf : ∀ f ∈ fs, f.ok w w.heap.size) (hr : Rd w w.heap.size 1 A n (fs.map Fig.val)) :
    Calls Tryz.prog 41 #[.slice A n cap] w fun e w' => e = .returned (.bool (figsB fs)) ∧ Below w.heap.size w w' := by
  have hlen := hr.len
  unfold maxLen at hn
  have HF := Lib.hid (show figsB fs = ((fs.all fun f => figB f.rows) && decide (n ≤ 6)) by rw [figsB, hlen])
  have HLEN := Lib.hid hlen; clear hlen
  go_enter Tryz.func41, Tryz.ntmps41
  go_wp2
  go_loopg [3] n (fun g i wr => ∃ k : Nat, g = n - k ∧ k ≤ n ∧ k ≤ 6 ∧ i = .int .i64 k ∧ (fs.take k).all (fun f => figB f.rows) = true ∧ Below w.heap.size w wr)
  case atStart => exact ⟨0, rfl, Nat.zero_le _, Nat.zero_le _, rfl, rfl, Below.refl _ _⟩
  case round =>
    obtain ⟨k, hg, hk, hk6, rfl, hall, hB⟩ := hrel
    have HG := Lib.hid hg; clear hg
    have HALL := Lib.hid hall; clear hall
    by_cases hlt : k < n
    · by_cases h6 : k < 6
      · obtain ⟨b, off, hzk, rfl, hb, hc⟩ := (hr.below hB).atm hlt
        have ha := all_take (fun f : Fig => figB f.rows) fs k hzk
        have hstop := all_stop (fun f : Fig => figB f.rows) fs k hzk
        have hok := ((hf _ (List.getElem_mem hzk)).below hB).more hB.size
        generalize fs[k] = f at *
        obtain ⟨fA, fn, fcap, frows⟩ := f
        simp only [Fig.val] at hc
        obtain ⟨hf1, hf2, hf3, hfr⟩ := hok
        have hfn : fn ≤ maxLen := Nat.le_trans hf1 hf2
        have HA := Lib.hid ha; have HST := Lib.hid hstop; clear ha hstop
        cases hh : figB frows
        all_goals
          go_wp2_with (go_at_call 28; refine (refFigure_any fA fn fcap frows _ hfn hf3 hfr).mono ?_; rintro e w1 ⟨rfl, hb1⟩; rw [hh])
        · go_ret
          exact ⟨ret_bool (by rw [HF.out, HST.out hh]; simp), hB.trans (hb1.mono hB.size)⟩
        · go_roundg (n - (k + 1))
          case measure => rw [HG.out]; omega
          case rel => exact ⟨k + 1, rfl, by omega, by omega, by go_num, by rw [HA.out, HALL.out]; exact hh, hB.trans (hb1.mono hB.size)⟩
      · have hgt : ¬ (n : Int) ≤ 6 := by omega
        have hgtn : ¬ n ≤ 6 := by omega
        have h6i : ¬ (k : Int) < 6 := by omega
        go_wp2
        go_ret
        exact ⟨ret_bool (by rw [HF.out, decide_eq_false hgtn, Bool.and_false]), hB⟩
    · obtain rfl : k = n := by omega
      have hta : fs.take k = fs := List.take_of_length_le (by have := HLEN.out; omega)
      rw [hta] at HALL
      have hle : (k : Int) ≤ 6 := by omega
      go_wp2
      go_ret
      exact ⟨ret_bool (by rw [HF.out, HALL.out, decide_eq_true hk6]; rfl), hB⟩

theorem compB_figs (fs : List Fig) : compB fs = (decide (0 < fs.length) && figsB fs) := by
  unfold compB figsB
  by_cases h0 : 0 < fs.length <;> by_cases h6 : fs.length ≤ 6
  · have : inB fs.length 1 6 = true := by simp [inB]; omega
    rw [this, decide_eq_true h0, decide_eq_true h6]; simp
  · have : inB fs.length 1 6 = false := by simp [inB]; omega
    rw [this, decide_eq_false h6]; simp
  · have : inB fs.length 1 6 = false := by simp [inB]; omega
    rw [this, decide_eq_false h0]; simp
  · have : inB fs.length 1 6 = false := by simp [inB]; omega
    rw [this, decide_eq_false h0]; simp

set_option maxRecDepth 100000 in
theorem Company_any (A : Option Addr) (n cap : Nat) (fs : List Fig) (w : World) (hn : n ≤ maxLen) (hf : ∀ f ∈ fs, f.ok w w.heap.size) (hr : Rd w w.heap.size 1 A n (fs.map Fig.val)) :
    Calls Tryz.prog 119 #[.slice A n cap] w fun e w' => e = .returned (.bool (compB fs)) ∧ Below w.heap.size w w' := by
  have hlen := hr.len
  have HC := Lib.hid (show compB fs = (decide (0 < n) && figsB fs) by rw [compB_figs, hlen])
  by_cases h0 : 0 < n
  · have h0i : (0 : Int) < n := by omega
    go_enter Tryz.func119, Tryz.ntmps119
    go_wp2_with (go_at_call 41; refine (refFigures_any A n cap fs _ hn hf hr).mono ?_; rintro e w1 ⟨rfl, hb1⟩)
    go_ret
    exact ⟨ret_bool (by rw [HC.out, decide_eq_true h0]; rfl), hb1⟩
  · have h0i : ¬ (0 : Int) < n := by omega
    go_enter Tryz.func119, Tryz.ntmps119
    go_wp2
    go_ret
    exact ⟨ret_bool (by rw [HC.out, decide_eq_false h0]; rfl), Below.refl _ _⟩

theorem span_any (l h : Int) (w : World) (l1 : -1000 ≤ l) (l2 : l ≤ 1000) (h1 : -1000 ≤ h) (h2 : h ≤ 1000) :
    Calls Tryz.prog 162 #[.agg #[.int .i64 l, .int .i64 h]] w fun e w' => e = .returned (.bool (inB (h - l + 1) 1 6)) ∧ Below w.heap.size w w' := by
  have hw1 := i64_ok (h - l) (by omega)
  by_cases hle : l ≤ h
  · by_cases hlt : h - l < 6
    all_goals
      go_enter Tryz.func162, Tryz.ntmps162
      go_wp2
      go_ret
      exact ⟨ret_bool (by simp [inB]; omega), (Below.refl _ _).alloc (Nat.le_refl _) _⟩
  · go_enter Tryz.func162, Tryz.ntmps162
    go_wp2
    go_ret
    exact ⟨ret_bool (by simp [inB]; omega), (Below.refl _ _).alloc (Nat.le_refl _) _⟩

set_option maxRecDepth 100000 in
set_option maxHeartbeats 3200000 in
theorem refReach_any (W H F L X Y nl nh xl xh y : Int) (w : World) (hF : 2 ≤ F) (hF2 : F ≤ 40) :
    Calls Tryz.prog 120 #[.agg #[.int .i64 W, .int .i64 H, .int .i64 F, .int .i64 L, .int .i64 X, .int .i64 Y], .agg #[.int .i64 nl, .int .i64 nh, .int .i64 xl, .int .i64 xh, .int .i64 y]] w fun e w' => e = .returned (.bool (reachB F nl nh xl xh y)) ∧ Below w.heap.size w w' := by
  obtain ⟨res, hres⟩ : ∃ res, res = reachB F nl nh xl xh y := ⟨_, rfl⟩
  rw [← hres]
  have hFw := i64_ok (F - 1) (by omega)
  have hsplit : res = (inB nl 0 (F - 1) && (inB nh 0 (F - 1) && (inB (nh - nl + 1) 1 6 && ((inB xl (-20) 20 && inB y (-20) 20) && ((inB xh (-20) 20 && inB y (-20) 20) && inB (xh - xl + 1) 1 6))))) := by
    rw [hres, reachB]
    cases inB nl 0 (F - 1) <;> cases inB nh 0 (F - 1) <;> cases inB (nh - nl + 1) 1 6 <;> cases inB xl (-20) 20 <;> cases inB xh (-20) 20 <;> cases inB (xh - xl + 1) 1 6 <;> cases inB y (-20) 20 <;> rfl
  clear hres
  have b1 : inB nl 0 (F - 1) = true → -1000 ≤ nl ∧ nl ≤ 1000 := fun h => by simp [inB] at h; omega
  have b2 : inB nh 0 (F - 1) = true → -1000 ≤ nh ∧ nh ≤ 1000 := fun h => by simp [inB] at h; omega
  have b3 : (inB xl (-20) 20 && inB y (-20) 20) = true → -1000 ≤ xl ∧ xl ≤ 1000 := fun h => by simp [inB] at h; omega
  have b4 : (inB xh (-20) 20 && inB y (-20) 20) = true → -1000 ≤ xh ∧ xh ≤ 1000 := fun h => by simp [inB] at h; omega
  have B1 := Lib.hid b1; have B2 := Lib.hid b2; have B3 := Lib.hid b3; have B4 := Lib.hid b4; clear b1 b2 b3 b4
  cases h1 : inB nl 0 (F - 1)
  case' true => cases h2 : inB nh 0 (F - 1)
  case' true.true => cases h3 : inB (nh - nl + 1) 1 6
  case' true.true.true => cases h4 : (inB xl (-20) 20 && inB y (-20) 20)
  case' true.true.true.true => cases h5 : (inB xh (-20) 20 && inB y (-20) 20)
  case' true.true.true.true.true => cases h6 : inB (xh - xl + 1) 1 6
  all_goals
    (try rw [h1] at hsplit); (try rw [h2] at hsplit); (try rw [h3] at hsplit); (try rw [h4] at hsplit); (try rw [h5] at hsplit); (try rw [h6] at hsplit)
    have HR := Lib.hid hsplit; clear hsplit
    go_enter Tryz.func120, Tryz.ntmps120
    go_upto_region 1 with (fail)
    have hS := blk2_0 w (.cells #[.int .i64 nl, .int .i64 nh, .int .i64 xl, .int .i64 xh, .int .i64 y] 71) 23 #[.int .i64 W, .int .i64 H, .int .i64 F, .int .i64 L, .int .i64 X, .int .i64 Y]
    have hQ := blk2_1 w (.cells #[.int .i64 W, .int .i64 H, .int .i64 F, .int .i64 L, .int .i64 X, .int .i64 Y] 23) 71 #[.int .i64 nl, .int .i64 nh, .int .i64 xl, .int .i64 xh, .int .i64 y]
    have hB := pro_2 w (.cells #[.int .i64 W, .int .i64 H, .int .i64 F, .int .i64 L, .int .i64 X, .int .i64 Y] 23) (.cells #[.int .i64 nl, .int .i64 nh, .int .i64 xl, .int .i64 xh, .int .i64 y] 71)
    generalize (w.alloc (.cells #[.int .i64 W, .int .i64 H, .int .i64 F, .int .i64 L, .int .i64 X, .int .i64 Y] 23)).alloc (.cells #[.int .i64 nl, .int .i64 nh, .int .i64 xl, .int .i64 xh, .int .i64 y] 71) = W0 at *
    have qhS := fun i => Blk.cell hS i
    have qhQ := fun i => Blk.cell hQ i
    go_wp2_with (first
      | (go_at_call 99; refine (in_any _ _ _ _).mono ?_; rintro e w1 ⟨rfl, rfl⟩; (first | rw [h1] | rw [h2]))
      | (go_at_call 37; refine (at_any _ _ _).mono ?_; rintro e w1 ⟨rfl, rfl⟩; (first | rw [h4] | rw [h5]))
      | (go_at_call_of 162 (Value.agg #[.int .i64 nl, .int .i64 nh]); refine (span_any nl nh _ (B1.out h1).1 (B1.out h1).2 (B2.out h2).1 (B2.out h2).2).mono ?_; rintro e w1 ⟨rfl, hb⟩; rw [h3]; replace hS := hS.below hb hS.lt; replace hQ := hQ.below hb hQ.lt; replace hB := hB.trans (hb.mono hB.size); clear qhS qhQ hb; have qhS := fun i => Blk.cell hS i; have qhQ := fun i => Blk.cell hQ i)
      | (go_at_call_of 162 (Value.agg #[.int .i64 xl, .int .i64 xh]); refine (span_any xl xh _ (B3.out h4).1 (B3.out h4).2 (B4.out h5).1 (B4.out h5).2).mono ?_; rintro e w1 ⟨rfl, hb⟩; rw [h6]; replace hB := hB.trans (hb.mono hB.size); clear hb))
    go_ret
    exact ⟨ret_bool (by rw [HR.out]; rfl), hB⟩
end Go.Proofs.YtifddfchpknkbaaGreatDoor
