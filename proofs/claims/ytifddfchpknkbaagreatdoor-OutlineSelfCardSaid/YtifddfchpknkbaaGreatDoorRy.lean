import Derived.Test.YtifddfchpknkbaaGreatDoorFm
import Derived.Test.YtifddfchpknkbaaGreatDoorOb
set_option linter.unusedVariables false
set_option linter.unusedSimpArgs false
namespace Go.Proofs.YtifddfchpknkbaaGreatDoor
open Go.RowKit

theorem sq_mul {a b den : Int} {i : Int} (hd : 0 < den) (h : a / den = i) : i * den ≤ a ∧ a < i * den + den := by
  subst h
  exact ⟨Int.ediv_mul_le a (by omega), Int.lt_ediv_add_one_mul_self a hd |> fun h => by rw [Int.add_mul, Int.one_mul] at h; exact h⟩

/-- Where a point of the cloth is on the hide, in parts of 60 times Far. -/
def rayV (X P F N k u a : Int) : Int := (X - P) * (60 * F) + (60 * (k - X) + u) * (F - N) + a * N
theorem ray_ov {X P F N L k u a : Int} {c : Nat} (hN : 0 ≤ N) (hNF : N < F) (hu : 1 ≤ u ∧ u ≤ 59) (ha : -60 * L ≤ a ∧ a ≤ 60 * L) (hc : rayV X P F N k u a / (60 * F) = c) : OvS X F N P (lowV F N L k) (highV F N L k) c := by
  obtain ⟨h1, h2⟩ := sq_mul (b := 0) (by omega) hc
  obtain ⟨u1, u2⟩ := hu
  obtain ⟨a1, a2⟩ := ha
  have e1 : 0 < u * (F - N) := Int.mul_pos (by omega) (by omega)
  have e2 : u * (F - N) < 60 * (F - N) := Int.mul_lt_mul_of_pos_right (by omega) (by omega)
  have e3 : -60 * L * N ≤ a * N := Int.mul_le_mul_of_nonneg_right a1 hN
  have e4 : a * N ≤ 60 * L * N := Int.mul_le_mul_of_nonneg_right a2 hN
  unfold rayV at h1 h2
  unfold OvS lineV lowV highV
  constructor
  · grind
  · grind
theorem ray_in {X P F N L k u a : Int} {sz : Nat} (hN : 0 ≤ N) (hNF : N < F) (hu : 1 ≤ u ∧ u ≤ 59) (ha : -60 * L ≤ a ∧ a ≤ 60 * L) (hin : insideS X F N P (lowV F N L k) (highV F N L k) sz = true) :
    0 ≤ rayV X P F N k u a / (60 * F) ∧ rayV X P F N k u a / (60 * F) < sz := by
  obtain ⟨h1, h2⟩ := sq_mul (b := 0) (a := rayV X P F N k u a) (den := 60 * F) (by omega) rfl
  obtain ⟨u1, u2⟩ := hu
  obtain ⟨a1, a2⟩ := ha
  have e1 : 0 < u * (F - N) := Int.mul_pos (by omega) (by omega)
  have e2 : u * (F - N) < 60 * (F - N) := Int.mul_lt_mul_of_pos_right (by omega) (by omega)
  have e3 : -60 * L * N ≤ a * N := Int.mul_le_mul_of_nonneg_right a1 hN
  have e4 : a * N ≤ 60 * L * N := Int.mul_le_mul_of_nonneg_right a2 hN
  simp only [insideS, Bool.and_eq_true, decide_eq_true_eq] at hin
  obtain ⟨i1, i2⟩ := hin
  have hge : 0 ≤ rayV X P F N k u a := by
    unfold rayV; unfold lineV lowV at i1; grind
  have hlt : rayV X P F N k u a < sz * (60 * F) := by
    unfold rayV; unfold lineV highV at i2; grind
  exact ⟨Int.ediv_nonneg hge (by omega), Int.ediv_lt_of_lt_mul (by omega) hlt⟩
theorem hideV_at {rows : List ByteArray} {i j : Nat} {r : ByteArray} (hj : rows[j]? = some r) (hi : i < r.size) : AtB rows j i (hideV rows i j) := by
  refine ⟨r, hj, ?_⟩
  rw [hideV_in hj hi, List.getElem?_eq_getElem (by rw [ltr_len]; exact hi), ltr_at r i hi]
/-- THE THEOREM OF RAYS, of a cell and a point within it. -/
theorem ray_cell {F L X Y N PX PY : Int} {rows : List ByteArray} {k m : Nat} {u v a b : Int} (hv : figB rows = true) (hN : 0 ≤ N) (hNF : N < F) (hL : 0 ≤ L) (hu : 1 ≤ u ∧ u ≤ 59) (hv2 : 1 ≤ v ∧ v ≤ 59) (ha : -60 * L ≤ a ∧ a ≤ 60 * L) (hb : -60 * L ≤ b ∧ b ≤ 60 * L) :
    (cellS F L X Y N PX PY rows (wdOf rows) rows.length k m = 35 → hideV rows (rayV X PX F N k u a / (60 * F)) (rayV Y PY F N m v b / (60 * F)) = 35) ∧
    (cellS F L X Y N PX PY rows (wdOf rows) rows.length k m = 46 → hideV rows (rayV X PX F N k u a / (60 * F)) (rayV Y PY F N m v b / (60 * F)) = 46) := by
  obtain ⟨_, _, _, hw⟩ := figB_nums hv
  have h2 : ∀ i j z, AtB rows i j z → z = 35 ∨ z = 46 := by
    rintro i j z ⟨r, hr, hz⟩
    simp only [figB, Bool.and_eq_true, List.all_eq_true] at hv
    have := hv.2.2.1 r (List.mem_of_getElem? hr)
    simp only [rowB, onlyB, Bool.and_eq_true, List.all_eq_true, decide_eq_true_eq] at this
    have := this.2 z (List.mem_of_getElem? hz)
    simpa using this
  constructor
  · intro h
    rw [cellS_dark (by omega) hNF hN hL hw] at h
    obtain ⟨h1, h3, h4⟩ := h
    obtain ⟨p1, p2⟩ := ray_in hN hNF hu ha h1
    obtain ⟨q1, q2⟩ := ray_in hN hNF hv2 hb h3
    obtain ⟨i, hi⟩ : ∃ i : Nat, rayV X PX F N k u a / (60 * F) = i := ⟨_, (Int.toNat_of_nonneg p1).symm⟩
    obtain ⟨j, hj⟩ : ∃ j : Nat, rayV Y PY F N m v b / (60 * F) = j := ⟨_, (Int.toNat_of_nonneg q1).symm⟩
    have o1 := ray_ov hN hNF hu ha hi
    have o2 := ray_ov hN hNF hv2 hb hj
    rw [hi] at p2; rw [hj] at q2
    have hjl : j < rows.length := by omega
    have hr : rows[j]? = some rows[j] := List.getElem?_eq_getElem hjl
    have hsz : i < (rows[j]).size := by rw [hw _ (List.getElem_mem hjl)]; omega
    rw [hi, hj]
    exact h4 j i _ (hideV_at hr hsz) o2 o1
  · intro h
    rw [cellS_light (by omega) hw] at h
    by_cases hout : rayV X PX F N k u a / (60 * F) < 0 ∨ rayV Y PY F N m v b / (60 * F) < 0 ∨ (rows.length : Int) ≤ rayV Y PY F N m v b / (60 * F) ∨ (wdOf rows : Int) ≤ rayV X PX F N k u a / (60 * F)
    · refine hideV_out ?_
      rcases hout with h0 | h0 | h0 | h0
      · exact .inl h0
      · exact .inr (.inl h0)
      · exact .inr (.inr (.inl h0))
      · by_cases q0 : rayV Y PY F N m v b / (60 * F) < 0
        · exact .inr (.inl q0)
        · by_cases q1 : (rows.length : Int) ≤ rayV Y PY F N m v b / (60 * F)
          · exact .inr (.inr (.inl q1))
          · have hjl : (rayV Y PY F N m v b / (60 * F)).toNat < rows.length := by omega
            exact .inr (.inr (.inr ⟨_, List.getElem?_eq_getElem hjl, by rw [hw _ (List.getElem_mem hjl)]; exact h0⟩))
    · have p1 : 0 ≤ rayV X PX F N k u a / (60 * F) := by omega
      have q1 : 0 ≤ rayV Y PY F N m v b / (60 * F) := by omega
      obtain ⟨i, hi⟩ : ∃ i : Nat, rayV X PX F N k u a / (60 * F) = i := ⟨_, (Int.toNat_of_nonneg p1).symm⟩
      obtain ⟨j, hj⟩ : ∃ j : Nat, rayV Y PY F N m v b / (60 * F) = j := ⟨_, (Int.toNat_of_nonneg q1).symm⟩
      have o1 := ray_ov hN hNF hu ha hi
      have o2 := ray_ov hN hNF hv2 hb hj
      have hjl : j < rows.length := by omega
      have hr : rows[j]? = some rows[j] := List.getElem?_eq_getElem hjl
      have hsz : i < (rows[j]).size := by rw [hw _ (List.getElem_mem hjl)]; omega
      have hat := hideV_at hr hsz
      have := h j i _ hat o2 o1
      rw [hi, hj]
      rcases h2 _ _ _ hat with e | e
      · exact absurd e this
      · exact e
end Go.Proofs.YtifddfchpknkbaaGreatDoor
