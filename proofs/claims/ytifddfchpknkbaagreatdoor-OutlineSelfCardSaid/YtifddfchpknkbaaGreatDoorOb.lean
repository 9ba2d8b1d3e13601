import Derived.Test.YtifddfchpknkbaaGreatDoorMl
set_option linter.unusedVariables false
set_option linter.unusedSimpArgs false
namespace Go.Proofs.YtifddfchpknkbaaGreatDoor
open Go.RowKit

theorem floor_of {num den q : Int} (hd : 0 < den) (h1 : q * den ≤ num) (h2 : num < q * den + den) : num / den = q := by
  have e : num = q * den + (num - q * den) := by omega
  rw [e, Int.add_comm, Int.add_mul_ediv_right _ _ (by omega), Int.ediv_eq_zero_of_lt (by omega) (by omega), Int.zero_add]

set_option maxRecDepth 100000 in
set_option maxHeartbeats 800000 in
theorem beyond_any (num den : Int) (w : World) (hd : 0 < den) (hd2 : den ≤ 1000000000) (h1 : -1000000000 ≤ num) (h2 : num ≤ 1000000000) :
    Calls Tryz.prog 105 #[.int .i64 num, .int .i64 den] w fun e w' => e = .returned (.int .i64 (num / den)) ∧ w = w' := by
  obtain ⟨q, hq⟩ : ∃ q, q = num.tdiv den := ⟨_, rfl⟩
  have hdm := Int.mul_tdiv_add_tmod num den
  have hm1 := Int.tmod_lt_of_pos num hd
  have hm2 := Int.lt_tmod_of_pos num hd
  rw [← hq, Int.mul_comm] at hdm
  generalize num.tmod den = r at *
  have hq1 : -1000000000 ≤ q ∧ q ≤ 1000000000 := by
    constructor
    · refine Int.not_lt.1 fun h => ?_
      have := Int.mul_le_mul_of_nonneg_right (show q ≤ -1000000001 by omega) (show 0 ≤ den by omega)
      omega
    · refine Int.not_lt.1 fun h => ?_
      have := Int.mul_le_mul_of_nonneg_right (show 1000000001 ≤ q by omega) (show 0 ≤ den by omega)
      omega
  have hd0 : ¬ den = 0 := by omega
  have ew2 := i64_ok (q * den) (by omega)
  have ew3 := i64_ok (q - 1) (by omega)
  have HQ := Lib.hid hq; clear hq
  have ew := i64_ok (num.tdiv den) (by rw [← HQ.out]; omega)
  rw [HQ.out] at ew2 ew3
  by_cases hgt : num < num.tdiv den * den
  · have hgt2 : num < q * den := by rw [HQ.out]; exact hgt
    have hres : num / den = num.tdiv den - 1 := by
      rw [← HQ.out]; exact floor_of hd (by rw [Int.sub_mul, Int.one_mul]; omega) (by rw [Int.sub_mul, Int.one_mul]; omega)
    have HR := Lib.hid hres; clear hres hdm hm1 hm2
    go_enter Tryz.func105, Tryz.ntmps105
    go_wp2
    go_ret
    exact ⟨by rw [HR.out]; rfl, rfl⟩
  · have hgt2 : ¬ num < q * den := by rw [HQ.out]; exact hgt
    have hres : num / den = num.tdiv den := by
      rw [← HQ.out]; exact floor_of hd (by omega) (by omega)
    have HR := Lib.hid hres; clear hres hdm hm1 hm2
    go_enter Tryz.func105, Tryz.ntmps105
    go_wp2
    go_ret
    exact ⟨by rw [HR.out]; rfl, rfl⟩

/-- The byte of a figure's row and column, or a point beside it. -/
def hideV (rows : List ByteArray) (i j : Int) : Int := if 0 ≤ j ∧ 0 ≤ i then (((rows[j.toNat]?).map ltr).getD [])[i.toNat]?.getD 46 else 46
theorem hideV_in {rows : List ByteArray} {i j : Nat} {r : ByteArray} (hj : rows[j]? = some r) (hi : i < r.size) : hideV rows i j = ((r[i]).toNat : Nat) := by
  unfold hideV
  rw [if_pos (by omega)]
  simp only [Int.toNat_natCast]
  rw [hj]
  simp only [Option.map_some, Option.getD_some]
  rw [List.getElem?_eq_getElem (by rw [ltr_len]; exact hi), ltr_at _ _ hi]
  rfl
theorem hideV_out {rows : List ByteArray} {i j : Int} (h : i < 0 ∨ j < 0 ∨ (rows.length : Int) ≤ j ∨ ∃ r, rows[j.toNat]? = some r ∧ (r.size : Int) ≤ i) : hideV rows i j = 46 := by
  unfold hideV
  split
  · rename_i h0
    rcases h with h | h | h | ⟨r, h1, h⟩
    · omega
    · omega
    · have e : rows[j.toNat]? = none := List.getElem?_eq_none (by omega)
      rw [e]; rfl
    · rw [h1]
      simp only [Option.map_some, Option.getD_some]
      have hl := ltr_len r
      have e : (ltr r)[i.toNat]? = none := List.getElem?_eq_none (by omega)
      rw [e]; rfl
  · rfl

set_option maxRecDepth 100000 in
set_option maxHeartbeats 1600000 in
theorem hide_any (A : Option Addr) (n cap : Nat) (rows : List ByteArray) (x y den : Int) (w : World) (hn : n ≤ 100000) (hs : ∀ r ∈ rows, r.size ≤ 100000) (hr : Rd w w.heap.size 1 A n (rows.map Value.string))
    (hd : 0 < den) (hd2 : den ≤ 1000000) (hx : -1000000 ≤ x ∧ x ≤ 1000000) (hy : -1000000 ≤ y ∧ y ≤ 1000000) :
    Calls Tryz.prog 36 #[.agg #[.slice A n cap], .int .i64 x, .int .i64 y, .int .i64 den] w fun e w' => e = .returned (.int .u8 (hideV rows (x / den) (y / den))) ∧ Below w.heap.size w w' := by
  have hlen := hr.len
  have hB : Below w.heap.size w (w.alloc (.cells #[.slice A n cap] 26)) := (Below.refl _ w).alloc (Nat.le_refl _) _
  have hbf := Blk.new w 26 #[.slice A n cap]
  have hcf := fun i => hbf.cell i
  have hrr := (hr.below hB).more hB.size
  obtain ⟨hx1, hx2⟩ := hx
  obtain ⟨hy1, hy2⟩ := hy
  obtain ⟨i, hi⟩ : ∃ i, i = x / den := ⟨_, rfl⟩
  obtain ⟨j, hj⟩ : ∃ j, j = y / den := ⟨_, rfl⟩
  have HI := Lib.hid hi; have HJ := Lib.hid hj
  rw [← hi, ← hj]
  clear hi hj
  have HLEN := Lib.hid hlen; clear hlen
  by_cases hj0 : j < 0
  · have hres := hideV_out (rows := rows) (i := i) (j := j) (.inr (.inl hj0))
    rw [hres]
    go_enter Tryz.func36, Tryz.ntmps36
    go_wp2_with (go_at_call 105; refine (beyond_any _ _ _ hd (by omega) (by omega) (by omega)).mono ?_; rintro e w1 ⟨rfl, rfl⟩; (first | rw [← HI.out] | rw [← HJ.out]))
    go_ret
    exact ⟨rfl, hB⟩
  · by_cases hjn : (n : Int) ≤ j
    · have hres := hideV_out (rows := rows) (i := i) (j := j) (.inr (.inr (.inl (by have := HLEN.out; omega))))
      rw [hres]
      go_enter Tryz.func36, Tryz.ntmps36
      go_wp2_with (go_at_call 105; refine (beyond_any _ _ _ hd (by omega) (by omega) (by omega)).mono ?_; rintro e w1 ⟨rfl, rfl⟩; (first | rw [← HI.out] | rw [← HJ.out]))
      go_ret
      exact ⟨rfl, hB⟩
    · by_cases hi0 : i < 0
      · have hres := hideV_out (rows := rows) (i := i) (j := j) (.inl hi0)
        rw [hres]
        go_enter Tryz.func36, Tryz.ntmps36
        go_wp2_with (go_at_call 105; refine (beyond_any _ _ _ hd (by omega) (by omega) (by omega)).mono ?_; rintro e w1 ⟨rfl, rfl⟩; (first | rw [← HI.out] | rw [← HJ.out]))
        go_ret
        exact ⟨rfl, hB⟩
      · obtain ⟨jn, rfl⟩ : ∃ k : Nat, j = k := ⟨j.toNat, by omega⟩
        obtain ⟨im, rfl⟩ : ∃ k : Nat, i = k := ⟨i.toNat, by omega⟩
        obtain ⟨b, off, hz, rfl, hb, hc⟩ := hrr.atm (k := jn) (by omega)
        have hsj := hs _ (List.getElem_mem hz)
        obtain ⟨rj, hrj⟩ : ∃ r, r = rows[jn] := ⟨_, rfl⟩
        have hget : rows[jn]? = some rj := by rw [hrj]; exact List.getElem?_eq_getElem hz
        rw [← hrj] at hc hsj
        clear hrj
        by_cases hlt : im < rj.size
        · have hres := hideV_in hget hlt
          have HR := Lib.hid hres; clear hres
          go_enter Tryz.func36, Tryz.ntmps36
          go_wp2_with (go_at_call 105; refine (beyond_any _ _ _ hd (by omega) (by omega) (by omega)).mono ?_; rintro e w1 ⟨rfl, rfl⟩; (first | rw [← HI.out] | rw [← HJ.out]))
          go_ret
          exact ⟨by rw [HR.out]; rfl, hB⟩
        · have hres := hideV_out (rows := rows) (i := im) (j := jn) (.inr (.inr (.inr ⟨rj, hget, by omega⟩)))
          rw [hres]
          have hge : (rj.size : Int) ≤ im := by omega
          go_enter Tryz.func36, Tryz.ntmps36
          go_wp2_with (go_at_call 105; refine (beyond_any _ _ _ hd (by omega) (by omega) (by omega)).mono ?_; rintro e w1 ⟨rfl, rfl⟩; (first | rw [← HI.out] | rw [← HJ.out]))
          go_ret
          exact ⟨rfl, hB⟩
end Go.Proofs.YtifddfchpknkbaaGreatDoor
