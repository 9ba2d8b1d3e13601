import Derived.Test.YtifddfchpknkbaaGreatDoorMa
import Derived.Test.YtifddfchpknkbaaGreatDoorOa
set_option linter.unusedVariables false
set_option linter.unusedSimpArgs false
namespace Go.Proofs.YtifddfchpknkbaaGreatDoor
open Go.RowKit

theorem sum_nil_of : ∀ l : List Nat, (∀ x ∈ l, x = 0) → l.sum = 0
  | [], _ => rfl
  | a :: l, h => by rw [List.sum_cons, h a (by simp), sum_nil_of l fun x hx => h x (by simp [hx])]
theorem rowsOf_get {s : ByteArray} {W q i : Nat} (h : i < q) : (rowsOf s W q)[i]? = some (s.extract (i * W) (i * W + W)) := by
  simp [rowsOf, h]
theorem rowsOf_mem {s : ByteArray} {W q : Nat} {r : ByteArray} (h : r ∈ rowsOf s W q) : ∃ i, i < q ∧ r = s.extract (i * W) (i * W + W) := by
  simp only [rowsOf, List.mem_map, List.mem_range] at h
  obtain ⟨i, hi, rfl⟩ := h
  exact ⟨i, hi, rfl⟩
theorem cut_size {s : ByteArray} {W q i : Nat} (hs : s.size = W * q) (h : i < q) : (s.extract (i * W) (i * W + W)).size = W := by
  have h1 := Nat.mul_le_mul_right W (show i + 1 ≤ q by omega)
  rw [Nat.add_mul, Nat.one_mul, Nat.mul_comm q W] at h1
  rw [ByteArray.size_extract]; omega
theorem cut_at {s : ByteArray} {W q i j : Nat} (hs : s.size = W * q) (h : i < q) (hj : j < W) : (ltr (s.extract (i * W) (i * W + W)))[j]? = (ltr s)[i * W + j]? := by
  rw [ltr_extract, List.getElem?_take, if_pos (by omega), List.getElem?_drop]
theorem cut_mem {s : ByteArray} {a b : Nat} {z : Int} (h : z ∈ ltr (s.extract a b)) : z ∈ ltr s := by
  rw [ltr_extract] at h
  exact List.mem_of_mem_drop (List.mem_of_mem_take h)
/-- A shadow is a whole cloth. -/
theorem whole_sh {W H F L X Y N PX PY : Int} {rows : List ByteArray} (hW : 1 ≤ W) (hH : 1 ≤ H) : wholeB W H (rowsOf (shS W H F L X Y N PX PY rows) W.toNat H.toNat) = true := by
  have h3 : ∀ z ∈ ltr (shS W H F L X Y N PX PY rows), z = 46 ∨ z = 35 ∨ z = 43 := by
    rw [ltr_shS]; exact shadL_3
  have hsz := shS_size W H F L X Y N PX PY rows
  generalize shS W H F L X Y N PX PY rows = s at *
  unfold wholeB sightB
  simp only [Bool.and_eq_true, decide_eq_true_eq, List.all_eq_true]
  refine ⟨⟨by rw [rowsOf_len]; omega, fun r hr => ?_⟩, ?_⟩
  · obtain ⟨i, hi, rfl⟩ := rowsOf_mem hr
    rw [sightRow_eq]
    simp only [Bool.and_eq_true, decide_eq_true_eq, List.all_eq_true]
    refine ⟨by rw [cut_size hsz hi]; omega, fun z hz => ?_⟩
    rcases h3 z (cut_mem hz) with h | h | h <;> rw [h] <;> decide
  · have : countR (rowsOf s W.toNat H.toNat) 63 = 0 := by
      unfold countR
      refine sum_nil_of _ fun x hx => ?_
      obtain ⟨r, hr, rfl⟩ := List.mem_map.1 hx
      obtain ⟨i, hi, rfl⟩ := rowsOf_mem hr
      refine Nat.eq_zero_of_not_pos fun hp => ?_
      have := of_cntL_pos hp
      rcases h3 _ (cut_mem this) with h | h | h <;> cases h
    rw [this]; rfl
/-- The byte of a cell of a shadow. -/
theorem sh_cell {W H F L X Y N PX PY : Int} {rows : List ByteArray} {k m : Nat} (hW : 1 ≤ W) (hk : k < W.toNat) (hm : m < H.toNat) :
    ∃ r, (rowsOf (shS W H F L X Y N PX PY rows) W.toNat H.toNat)[m]? = some r ∧ r.size = W.toNat ∧ (ltr r)[k]? = some (cellS F L X Y N PX PY rows (wdOf rows) rows.length k m) := by
  have hsz := shS_size W H F L X Y N PX PY rows
  have hl := ltr_shS W H F L X Y N PX PY rows
  generalize shS W H F L X Y N PX PY rows = s at *
  refine ⟨_, rowsOf_get hm, cut_size hsz hm, ?_⟩
  rw [cut_at hsz hm hk, hl]
  have hlt : m * W.toNat + k < W.toNat * H.toNat := by
    have h1 := Nat.mul_le_mul_right W.toNat (show m + 1 ≤ H.toNat by omega)
    rw [Nat.add_mul, Nat.one_mul, Nat.mul_comm H.toNat W.toNat] at h1
    omega
  have e1 : (m * W.toNat + k) % W.toNat = k := by rw [Nat.mul_add_mod_self_right, Nat.mod_eq_of_lt hk]
  have e2 : (m * W.toNat + k) / W.toNat = m := by rw [Nat.add_comm, Nat.add_mul_div_right _ _ (by omega), Nat.div_eq_of_lt hk, Nat.zero_add]
  unfold shadL
  rw [List.getElem?_map, List.getElem?_range hlt]
  simp only [Option.map_some]
  rw [e1, e2]

theorem ov_wider {ax F N P lo hi lo' hi' : Int} {c : Nat} (h1 : lo' ≤ lo) (h2 : hi ≤ hi') (h : OvS ax F N P lo hi c) : OvS ax F N P lo' hi' c := by
  unfold OvS at *; omega
theorem inside_wider {ax F N P lo hi lo' hi' : Int} {sz : Nat} (h1 : lo' ≤ lo) (h2 : hi ≤ hi') (h : insideS ax F N P lo' hi' sz = true) : insideS ax F N P lo hi sz = true := by
  simp only [insideS, Bool.and_eq_true, decide_eq_true_eq] at *; omega
/-- With a greater flame no grey cell becomes dark or light, nor a dark one light, nor the other way around. -/
theorem cell_flame {F L L' X Y N PX PY : Int} {rows : List ByteArray} {wd k m : Nat} (hNF : N < F) (hN : 0 ≤ N) (hL : 0 ≤ L) (hLL : L ≤ L') (hw : ∀ r ∈ rows, r.size = wd) :
    cellS F L' X Y N PX PY rows wd rows.length k m = 43 ∨ cellS F L' X Y N PX PY rows wd rows.length k m = cellS F L X Y N PX PY rows wd rows.length k m := by
  have hLN := Int.mul_le_mul_of_nonneg_right hLL hN
  have hlo : ∀ q : Int, lowV F N L' q ≤ lowV F N L q := by intro q; unfold lowV; omega
  have hhi : ∀ q : Int, highV F N L q ≤ highV F N L' q := by intro q; unfold highV; omega
  rcases toneS_3 rows (firstS X F N PX (lowV F N L' k) wd) (endS X F N PX (lowV F N L' k) (highV F N L' k) wd) (insideS X F N PX (lowV F N L' k) (highV F N L' k) wd) (firstS Y F N PY (lowV F N L' m) rows.length) (endS Y F N PY (lowV F N L' m) (highV F N L' m) rows.length) (insideS Y F N PY (lowV F N L' m) (highV F N L' m) rows.length) with h | h | h
  · right
    have h' : cellS F L' X Y N PX PY rows wd rows.length k m = 46 := h
    rw [h']
    symm
    rw [cellS_light (by omega) hw] at h' ⊢
    exact fun i j z ha hi hj => h' i j z ha (ov_wider (hlo m) (hhi m) hi) (ov_wider (hlo k) (hhi k) hj)
  · right
    have h' : cellS F L' X Y N PX PY rows wd rows.length k m = 35 := h
    rw [h']
    symm
    rw [cellS_dark (by omega) hNF hN (by omega) hw] at h'
    rw [cellS_dark (by omega) hNF hN hL hw]
    exact ⟨inside_wider (hlo k) (hhi k) h'.1, inside_wider (hlo m) (hhi m) h'.2.1, fun i j z ha hi hj => h'.2.2 i j z ha (ov_wider (hlo m) (hhi m) hi) (ov_wider (hlo k) (hhi k) hj)⟩
  · exact .inl h
theorem fitsB_flame {W H F L L' X Y N PX PY : Int} {wd n : Nat} (hN : 0 ≤ N) (hLL : L ≤ L') (h : fitsB W H F L' X Y N PX PY wd n = true) : fitsB W H F L X Y N PX PY wd n = true := by
  have hLN := Int.mul_le_mul_of_nonneg_right hLL hN
  rw [fitsB_iff] at h ⊢
  unfold fitLo fitHi at *
  omega

theorem meetV_flame {W H F L L' X Y N PX PY N2 PX2 PY2 : Int} {rows rows2 : List ByteArray} (hNF : N < F) (hN : 0 ≤ N) (hNF2 : N2 < F) (hN2 : 0 ≤ N2) (hL : 0 ≤ L) (hLL : L ≤ L') (hw : ∀ r ∈ rows, r.size = wdOf rows) (hw2 : ∀ r ∈ rows2, r.size = wdOf rows2) :
    meetV (shS W H F L' X Y N PX PY rows) (shS W H F L' X Y N2 PX2 PY2 rows2) = 2 ∨ meetV (shS W H F L' X Y N PX PY rows) (shS W H F L' X Y N2 PX2 PY2 rows2) = meetV (shS W H F L X Y N PX PY rows) (shS W H F L X Y N2 PX2 PY2 rows2) := by
  unfold meetV
  rw [ltr_shS, ltr_shS, ltr_shS, ltr_shS]
  unfold shadL
  simp only [List.zip_map', List.any_map]
  generalize List.range (W.toNat * H.toNat) = l
  have hc := fun c : Nat => cell_flame (F := F) (L := L) (L' := L') (X := X) (Y := Y) (N := N) (PX := PX) (PY := PY) (rows := rows) (wd := wdOf rows) (k := c % W.toNat) (m := c / W.toNat) hNF hN hL hLL hw
  have hc2 := fun c : Nat => cell_flame (F := F) (L := L) (L' := L') (X := X) (Y := Y) (N := N2) (PX := PX2) (PY := PY2) (rows := rows2) (wd := wdOf rows2) (k := c % W.toNat) (m := c / W.toNat) hNF2 hN2 hL hLL hw2
  have m1 : ∀ c : Nat, bothD (cellS F L' X Y N PX PY rows (wdOf rows) rows.length (c % W.toNat) (c / W.toNat), cellS F L' X Y N2 PX2 PY2 rows2 (wdOf rows2) rows2.length (c % W.toNat) (c / W.toNat)) = true → bothD (cellS F L X Y N PX PY rows (wdOf rows) rows.length (c % W.toNat) (c / W.toNat), cellS F L X Y N2 PX2 PY2 rows2 (wdOf rows2) rows2.length (c % W.toNat) (c / W.toNat)) = true := by
    intro c h
    rcases hc c with e | e <;> rcases hc2 c with e2 | e2 <;> rw [e, e2] at h
    · simp [bothD] at h
    · simp [bothD] at h
    · simp [bothD] at h
    · exact h
  have m2 : ∀ c : Nat, bothG (cellS F L' X Y N PX PY rows (wdOf rows) rows.length (c % W.toNat) (c / W.toNat), cellS F L' X Y N2 PX2 PY2 rows2 (wdOf rows2) rows2.length (c % W.toNat) (c / W.toNat)) = false → bothG (cellS F L X Y N PX PY rows (wdOf rows) rows.length (c % W.toNat) (c / W.toNat), cellS F L X Y N2 PX2 PY2 rows2 (wdOf rows2) rows2.length (c % W.toNat) (c / W.toNat)) = false := by
    intro c h
    rcases hc c with e | e <;> rcases hc2 c with e2 | e2 <;> rw [e, e2] at h
    · simp [bothG] at h
    · simp [bothG] at h; simp [bothG, h]
    · simp [bothG] at h; simp [bothG, h]
    · exact h
  by_cases hD : l.any (bothD ∘ fun c => (cellS F L' X Y N PX PY rows (wdOf rows) rows.length (c % W.toNat) (c / W.toNat), cellS F L' X Y N2 PX2 PY2 rows2 (wdOf rows2) rows2.length (c % W.toNat) (c / W.toNat))) = true
  · right
    rw [if_pos hD, if_pos]
    rw [List.any_eq_true] at hD ⊢
    obtain ⟨c, hc1, hc2⟩ := hD
    exact ⟨c, hc1, m1 c hc2⟩
  · rw [if_neg hD]
    by_cases hG : l.any (bothG ∘ fun c => (cellS F L' X Y N PX PY rows (wdOf rows) rows.length (c % W.toNat) (c / W.toNat), cellS F L' X Y N2 PX2 PY2 rows2 (wdOf rows2) rows2.length (c % W.toNat) (c / W.toNat))) = true
    · left; rw [if_pos hG]
    · right
      rw [if_neg hG]
      have hG2 : ¬ l.any (bothG ∘ fun c => (cellS F L X Y N PX PY rows (wdOf rows) rows.length (c % W.toNat) (c / W.toNat), cellS F L X Y N2 PX2 PY2 rows2 (wdOf rows2) rows2.length (c % W.toNat) (c / W.toNat))) = true := by
        intro h
        obtain ⟨c, hc1, hc2⟩ := List.any_eq_true.1 h
        refine hG (List.any_eq_true.2 ⟨c, hc1, ?_⟩)
        by_cases hh : bothG (cellS F L' X Y N PX PY rows (wdOf rows) rows.length (c % W.toNat) (c / W.toNat), cellS F L' X Y N2 PX2 PY2 rows2 (wdOf rows2) rows2.length (c % W.toNat) (c / W.toNat)) = true
        · exact hh
        · have := m2 c (by simpa using hh)
          simp only [Function.comp] at hc2
          rw [this] at hc2
          cases hc2
      have hD2 : ¬ l.any (bothD ∘ fun c => (cellS F L X Y N PX PY rows (wdOf rows) rows.length (c % W.toNat) (c / W.toNat), cellS F L X Y N2 PX2 PY2 rows2 (wdOf rows2) rows2.length (c % W.toNat) (c / W.toNat))) = true := by
        intro h
        obtain ⟨c, hc1, hc2⟩ := List.any_eq_true.1 h
        refine hG2 (List.any_eq_true.2 ⟨c, hc1, ?_⟩)
        simp only [Function.comp, bothD, Bool.and_eq_true, beq_iff_eq] at hc2
        simp only [Function.comp, bothG]
        rw [hc2.1, hc2.2]; rfl
      rw [if_neg hD2, if_neg hG2]
end Go.Proofs.YtifddfchpknkbaaGreatDoor
