import Derived.Test.YtifddfchpknkbaaGreatDoorRy
import Derived.Test.YtifddfchpknkbaaGreatDoorLc
set_option linter.unusedVariables false
set_option linter.unusedSimpArgs false
namespace Go.Proofs.YtifddfchpknkbaaGreatDoor
open Go.RowKit

theorem line0 (ax F p : Int) : lineV ax F 0 p = p * F := by unfold lineV; grind
theorem ov0 {ax F L P : Int} {k : Int} {c : Nat} (hF : 0 < F) : OvS ax F 0 P (lowV F 0 L k) (highV F 0 L k) c ↔ P + c = k := by
  unfold OvS lowV highV
  rw [line0, line0, Int.mul_zero, Int.sub_zero, Int.sub_zero, Int.add_zero]
  constructor
  · rintro ⟨h1, h2⟩
    have a1 := Int.lt_of_mul_lt_mul_right h1 (by omega)
    have a2 := Int.lt_of_mul_lt_mul_right h2 (by omega)
    omega
  · rintro rfl
    exact ⟨Int.mul_lt_mul_of_pos_right (by omega) hF, Int.mul_lt_mul_of_pos_right (by omega) hF⟩
theorem inside0 {ax F L P : Int} {k : Int} {sz : Nat} (hF : 0 < F) : insideS ax F 0 P (lowV F 0 L k) (highV F 0 L k) sz = true ↔ P ≤ k ∧ k + 1 ≤ P + sz := by
  unfold insideS lowV highV
  rw [line0, line0, Int.mul_zero, Int.sub_zero, Int.sub_zero, Int.add_zero]
  simp only [Bool.and_eq_true, decide_eq_true_eq]
  constructor
  · rintro ⟨h1, h2⟩
    exact ⟨Int.le_of_mul_le_mul_right h1 hF, Int.le_of_mul_le_mul_right h2 hF⟩
  · rintro ⟨h1, h2⟩
    exact ⟨Int.mul_le_mul_of_nonneg_right h1 (by omega), Int.mul_le_mul_of_nonneg_right h2 (by omega)⟩
/-- At the cloth a shadow is the figure itself. -/
theorem self_cell {F L X Y PX PY : Int} {rows : List ByteArray} {k m : Nat} (hv : figB rows = true) (hF : 0 < F) (hL : 0 ≤ L) :
    cellS F L X Y 0 PX PY rows (wdOf rows) rows.length k m = hideV rows (k - PX) (m - PY) := by
  obtain ⟨_, _, _, hw⟩ := figB_nums hv
  have h2 : ∀ i j z, AtB rows i j z → z = 35 ∨ z = 46 := by
    rintro i j z ⟨r, hr, hz⟩
    simp only [figB, Bool.and_eq_true, List.all_eq_true] at hv
    have := hv.2.2.1 r (List.mem_of_getElem? hr)
    simp only [rowB, onlyB, Bool.and_eq_true, List.all_eq_true, decide_eq_true_eq] at this
    have := this.2 z (List.mem_of_getElem? hz)
    simpa using this
  have huniq : ∀ i j z z', AtB rows i j z → AtB rows i j z' → z = z' := by
    rintro i j z z' ⟨r, hr, hz⟩ ⟨r', hr', hz'⟩
    rw [hr] at hr'; cases hr'
    rw [hz] at hz'; exact Option.some.inj hz'
  by_cases hin : (PX ≤ k ∧ (k : Int) < PX + wdOf rows) ∧ PY ≤ m ∧ (m : Int) < PY + rows.length
  · obtain ⟨⟨p1, p2⟩, q1, q2⟩ := hin
    obtain ⟨i, hi⟩ : ∃ i : Nat, (k : Int) - PX = i := ⟨((k : Int) - PX).toNat, by omega⟩
    obtain ⟨j, hj⟩ : ∃ j : Nat, (m : Int) - PY = j := ⟨((m : Int) - PY).toNat, by omega⟩
    rw [hi, hj]
    have hjl : j < rows.length := by omega
    have hr : rows[j]? = some rows[j] := List.getElem?_eq_getElem hjl
    have hsz : i < (rows[j]).size := by rw [hw _ (List.getElem_mem hjl)]; omega
    have hat := hideV_at hr hsz
    have hov : ∀ i' j' z, AtB rows i' j' z → OvS Y F 0 PY (lowV F 0 L m) (highV F 0 L m) i' → OvS X F 0 PX (lowV F 0 L k) (highV F 0 L k) j' → z = hideV rows i j := by
      intro i' j' z ha o1 o2
      rw [ov0 hF] at o1 o2
      obtain rfl : i' = j := by omega
      obtain rfl : j' = i := by omega
      exact huniq _ _ _ _ ha hat
    rcases h2 _ _ _ hat with e | e
    · rw [e, cellS_dark (by omega) (by omega) (by omega) hL hw, inside0 hF, inside0 hF]
      exact ⟨by omega, by omega, fun i' j' z ha o1 o2 => by rw [hov i' j' z ha o1 o2, e]⟩
    · rw [e, cellS_light (by omega) hw]
      intro i' j' z ha o1 o2
      rw [hov i' j' z ha o1 o2, e]; decide
  · have h46 : hideV rows (k - PX) (m - PY) = 46 := by
      refine hideV_out ?_
      by_cases c1 : (k : Int) - PX < 0
      · exact .inl c1
      · by_cases c2 : (m : Int) - PY < 0
        · exact .inr (.inl c2)
        · by_cases c3 : (rows.length : Int) ≤ m - PY
          · exact .inr (.inr (.inl c3))
          · have hjl : ((m : Int) - PY).toNat < rows.length := by omega
            exact .inr (.inr (.inr ⟨_, List.getElem?_eq_getElem hjl, by rw [hw _ (List.getElem_mem hjl)]; omega⟩))
    rw [h46, cellS_light (by omega) hw]
    rintro i' j' z ⟨r, hr, hz⟩ o1 o2
    rw [ov0 hF] at o1 o2
    have hil : i' < rows.length := (List.getElem?_eq_some_iff.1 hr).1
    have hjl : j' < wdOf rows := by
      have h1 := (List.getElem?_eq_some_iff.1 hz).1
      rw [ltr_len, hw r (List.mem_of_getElem? hr)] at h1
      exact h1
    omega
theorem hideV_two {rows : List ByteArray} {i j : Int} (hv : figB rows = true) : hideV rows i j = 35 ∨ hideV rows i j = 46 := by
  obtain ⟨_, _, _, hw⟩ := figB_nums hv
  unfold hideV
  split
  · rename_i h0
    cases hr : rows[j.toNat]? with
    | none => right; rfl
    | some r =>
      simp only [Option.map_some, Option.getD_some]
      cases hz : (ltr r)[i.toNat]? with
      | none => right; rfl
      | some z =>
        simp only [figB, Bool.and_eq_true, List.all_eq_true] at hv
        have := hv.2.2.1 r (List.mem_of_getElem? hr)
        simp only [rowB, onlyB, Bool.and_eq_true, List.all_eq_true, decide_eq_true_eq] at this
        have := this.2 z (List.mem_of_getElem? hz)
        simpa using this
  · right; rfl
theorem self_nogrey {W H F L X Y PX PY : Int} {rows : List ByteArray} (hv : figB rows = true) (hF : 0 < F) (hL : 0 ≤ L) : cntL (ltr (shS W H F L X Y 0 PX PY rows)) [43] = 0 := by
  refine Nat.eq_zero_of_not_pos fun hp => ?_
  have h := of_cntL_pos hp
  rw [ltr_shS] at h
  obtain ⟨c, _, hc⟩ := List.mem_map.1 h
  rw [self_cell hv hF hL] at hc
  rcases hideV_two (i := ((c % W.toNat : Nat) : Int) - PX) (j := ((c / W.toNat : Nat) : Int) - PY) hv with e | e <;> rw [e] at hc <;> cases hc
end Go.Proofs.YtifddfchpknkbaaGreatDoor
