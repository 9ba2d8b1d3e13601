import Derived.Test.YtifddfchpknkbaaGreatDoorMa
set_option linter.unusedVariables false
set_option linter.unusedSimpArgs false
namespace Go.Proofs.YtifddfchpknkbaaGreatDoor
open Go.RowKit

/-- The figure has this byte in this row and column. -/
def AtB (rows : List ByteArray) (i j : Nat) (z : Int) : Prop := ∃ r, rows[i]? = some r ∧ (ltr r)[j]? = some z
/-- A column's shadow has points within two bounds. -/
def OvS (ax F N P lo hi : Int) (c : Nat) : Prop := lineV ax F N (P + c) < hi ∧ lo < lineV ax F N (P + (c + 1))

theorem strip_iff {ax F N P lo hi : Int} {sz c : Nat} (hF : 0 ≤ F) : (firstS ax F N P lo sz ≤ c ∧ c < endS ax F N P lo hi sz) ↔ (c < sz ∧ OvS ax F N P lo hi c) := by
  constructor
  · rintro ⟨h1, h2⟩
    have hle := scanN_le (fun t => decide (lineV ax F N (P + t) < hi)) (sz - firstS ax F N P lo sz) (firstS ax F N P lo sz)
    have hle1 := scanN_le (fun t => decide (lineV ax F N (P + (t + 1)) ≤ lo)) sz 0
    have s1 := (scanN_spec (fun t => decide (lineV ax F N (P + (t + 1)) ≤ lo)) sz 0).2
    have s2 := (scanN_spec (fun t => decide (lineV ax F N (P + t) < hi)) (sz - firstS ax F N P lo sz) (firstS ax F N P lo sz)).1 c h1 h2
    have hsz : c < sz := by
      have : firstS ax F N P lo sz ≤ 0 + sz := hle1.2
      have h3 : endS ax F N P lo hi sz ≤ firstS ax F N P lo sz + (sz - firstS ax F N P lo sz) := hle.2
      omega
    refine ⟨hsz, by simpa using s2, ?_⟩
    have h4 := s1 (by show firstS ax F N P lo sz < 0 + sz; omega)
    have h5 : lo < lineV ax F N (P + ((firstS ax F N P lo sz : Nat) + 1)) := by
      have : decide (lineV ax F N (P + ((firstS ax F N P lo sz : Nat) + 1)) ≤ lo) = false := h4
      simpa using this
    have h6 := lineV_mono ax N (P + ((firstS ax F N P lo sz : Nat) + 1)) (P + (c + 1)) hF (by omega)
    omega
  · rintro ⟨h1, h2, h3⟩
    have hf := firstS_le_of (sz := sz) h3
    exact ⟨hf, lt_endS_of hF hf h1 h2⟩
theorem strip_le {ax F N P lo hi : Int} {sz : Nat} : firstS ax F N P lo sz ≤ endS ax F N P lo hi sz ∧ endS ax F N P lo hi sz ≤ sz := by
  have hle := scanN_le (fun t => decide (lineV ax F N (P + t) < hi)) (sz - firstS ax F N P lo sz) (firstS ax F N P lo sz)
  have hle1 := scanN_le (fun t => decide (lineV ax F N (P + (t + 1)) ≤ lo)) sz 0
  have h1 : firstS ax F N P lo sz ≤ 0 + sz := hle1.2
  have h2 : firstS ax F N P lo sz ≤ endS ax F N P lo hi sz := hle.1
  have h3 : endS ax F N P lo hi sz ≤ firstS ax F N P lo sz + (sz - firstS ax F N P lo sz) := hle.2
  omega
/-- Within a figure's edges some column's shadow lies. -/
theorem ov_of_inside {ax F N P lo hi : Int} {sz : Nat} (hF : 0 ≤ F) (hlh : lo < hi) (h : insideS ax F N P lo hi sz = true) : ∃ c, c < sz ∧ OvS ax F N P lo hi c := by
  unfold insideS at h
  simp only [Bool.and_eq_true, decide_eq_true_eq] at h
  obtain ⟨h1, h2⟩ := h
  obtain ⟨s1, s2⟩ := scanN_spec (fun t => decide (lineV ax F N (P + (t + 1)) ≤ lo)) sz 0
  have hle1 := scanN_le (fun t => decide (lineV ax F N (P + (t + 1)) ≤ lo)) sz 0
  generalize hf : scanN (fun t => decide (lineV ax F N (P + (t + 1)) ≤ lo)) sz 0 = f at *
  have hfs : f < sz := by
    refine Nat.lt_of_not_le fun hc => ?_
    have hsz : f = sz := by omega
    subst hsz
    rcases f with _ | f
    · simp at h2; omega
    · have := s1 f (Nat.zero_le _) (by omega)
      simp at this
      have e : (P : Int) + ((f + 1 : Nat) : Int) = P + ((f : Int) + 1) := by omega
      rw [e] at h2
      omega
  refine ⟨f, hfs, ?_, ?_⟩
  · rcases f with _ | f
    · simp; omega
    · have := s1 f (Nat.zero_le _) (by omega)
      simp at this
      have e : (P : Int) + ((f + 1 : Nat) : Int) = P + ((f : Int) + 1) := by omega
      rw [e]
      omega
  · have := s2 (by omega)
    simpa using this

theorem cnt35_zero (l : List Int) : cntL l [35] = 0 ↔ ∀ z ∈ l, z ≠ 35 := by
  constructor
  · intro h z hz he
    subst he
    have := cntL_pos hz
    omega
  · intro h
    refine Nat.eq_zero_of_not_pos fun hp => ?_
    exact h 35 (of_cntL_pos hp) rfl
theorem cnt35_full (l : List Int) : cntL l [35] = l.length ↔ ∀ z ∈ l, z = 35 := by
  unfold cntL
  rw [List.length_filter_eq_length_iff]
  constructor
  · intro h z hz
    have h1 := h z hz
    by_cases he : z = 35
    · exact he
    · have : (z == 35) = false := by simpa using he
      simp [idxOf, this] at h1
  · intro h z hz
    rw [h z hz]
    simp [idxOf]
theorem sumL_zero (rs : List ByteArray) (c d : Nat) : sumL rs c d = 0 ↔ ∀ r ∈ rs, ∀ z ∈ ltr (r.extract c d), z ≠ 35 := by
  induction rs with
  | nil => simp [sumL]
  | cons r rs ih =>
    have e : sumL (r :: rs) c d = cntL (ltr (r.extract c d)) [35] + sumL rs c d := by simp [sumL]
    rw [e, Nat.add_eq_zero_iff, ih, cnt35_zero]
    simp only [List.mem_cons, forall_eq_or_imp]
theorem sumL_full (rs : List ByteArray) (c d m : Nat) (h : ∀ r ∈ rs, (ltr (r.extract c d)).length = m) : sumL rs c d = m * rs.length ↔ ∀ r ∈ rs, ∀ z ∈ ltr (r.extract c d), z = 35 := by
  induction rs with
  | nil => simp [sumL]
  | cons r rs ih =>
    have e : sumL (r :: rs) c d = cntL (ltr (r.extract c d)) [35] + sumL rs c d := by simp [sumL]
    have ih' := ih (fun r hr => h r (List.mem_cons_of_mem _ hr))
    have h1 := cntL_le (ltr (r.extract c d)) [35]
    have h0 := h r List.mem_cons_self
    have h2 : sumL rs c d ≤ m * rs.length := by
      clear ih ih' e h1 h0
      induction rs with
      | nil => simp [sumL]
      | cons s rs ih2 =>
        have e : sumL (s :: rs) c d = cntL (ltr (s.extract c d)) [35] + sumL rs c d := by simp [sumL]
        have h3 := cntL_le (ltr (s.extract c d)) [35]
        have h4 := h s (by simp)
        have h5 := ih2 (fun r' hr' => h r' (by simp only [List.mem_cons] at hr' ⊢; rcases hr' with h | h; exact .inl h; exact .inr (.inr h)))
        rw [e, List.length_cons, Nat.mul_succ]
        omega
    simp only [List.mem_cons, forall_eq_or_imp]
    rw [← ih', ← cnt35_full, e, List.length_cons, Nat.mul_succ, h0]
    rw [h0] at h1
    omega
theorem mem_strip {rows : List ByteArray} {c d f e : Nat} {P : Int → Prop} :
    (∀ r ∈ (rows.drop f).take (e - f), ∀ z ∈ ltr (r.extract c d), P z) ↔ ∀ i j z, AtB rows i j z → (f ≤ i ∧ i < e) → (c ≤ j ∧ j < d) → P z := by
  constructor
  · rintro h i j z ⟨r, hr, hz⟩ ⟨i1, i2⟩ ⟨j1, j2⟩
    refine h r ?_ z ?_
    · refine List.mem_iff_getElem?.2 ⟨i - f, ?_⟩
      rw [List.getElem?_take, if_pos (by omega), List.getElem?_drop, show f + (i - f) = i from by omega]
      exact hr
    · rw [ltr_extract]
      refine List.mem_iff_getElem?.2 ⟨j - c, ?_⟩
      rw [List.getElem?_take, if_pos (by omega), List.getElem?_drop, show c + (j - c) = j from by omega]
      exact hz
  · intro h r hr z hz
    obtain ⟨q, hq⟩ := List.mem_iff_getElem?.1 hr
    rw [List.getElem?_take] at hq
    split at hq
    · rename_i hlt
      rw [List.getElem?_drop] at hq
      rw [ltr_extract] at hz
      obtain ⟨t, ht⟩ := List.mem_iff_getElem?.1 hz
      rw [List.getElem?_take] at ht
      split at ht
      · rename_i hlt2
        rw [List.getElem?_drop] at ht
        exact h (f + q) (c + t) z ⟨r, hq, ht⟩ (by omega) (by omega)
      · cases ht
    · cases hq

/-- WHAT A CELL IS: light, dark. -/
theorem cellS_light {F L X Y N PX PY : Int} {rows : List ByteArray} {wd : Nat} {k m : Nat} (hF : 0 ≤ F) (hw : ∀ r ∈ rows, r.size = wd) :
    cellS F L X Y N PX PY rows wd rows.length k m = 46 ↔ ∀ i j z, AtB rows i j z → OvS Y F N PY (lowV F N L m) (highV F N L m) i → OvS X F N PX (lowV F N L k) (highV F N L k) j → z ≠ 35 := by
  have key : cellS F L X Y N PX PY rows wd rows.length k m = 46 ↔ sumL ((rows.drop (firstS Y F N PY (lowV F N L m) rows.length)).take (endS Y F N PY (lowV F N L m) (highV F N L m) rows.length - firstS Y F N PY (lowV F N L m) rows.length)) (firstS X F N PX (lowV F N L k) wd) (endS X F N PX (lowV F N L k) (highV F N L k) wd) = 0 := by
    unfold cellS toneS
    split
    · simp_all
    · split <;> simp_all
  rw [key, sumL_zero, mem_strip]
  constructor
  · intro h i j z ha hi hj
    have ha' := ha
    obtain ⟨r, hr, hz⟩ := ha'
    have hil : i < rows.length := (List.getElem?_eq_some_iff.1 hr).1
    have hjl : j < wd := by
      have h1 := (List.getElem?_eq_some_iff.1 hz).1
      rw [ltr_len, hw r (List.mem_of_getElem? hr)] at h1
      exact h1
    exact h i j z ha ((strip_iff hF).2 ⟨hil, hi⟩) ((strip_iff hF).2 ⟨hjl, hj⟩)
  · intro h i j z ha hi hj
    exact h i j z ha ((strip_iff hF).1 hi).2 ((strip_iff hF).1 hj).2

theorem cellS_dark {F L X Y N PX PY : Int} {rows : List ByteArray} {wd : Nat} {k m : Nat} (hF : 0 ≤ F) (hNF : N < F) (hN : 0 ≤ N) (hL : 0 ≤ L) (hw : ∀ r ∈ rows, r.size = wd) :
    cellS F L X Y N PX PY rows wd rows.length k m = 35 ↔ insideS X F N PX (lowV F N L k) (highV F N L k) wd = true ∧ insideS Y F N PY (lowV F N L m) (highV F N L m) rows.length = true ∧ ∀ i j z, AtB rows i j z → OvS Y F N PY (lowV F N L m) (highV F N L m) i → OvS X F N PX (lowV F N L k) (highV F N L k) j → z = 35 := by
  have hLN : 0 ≤ L * N := Int.mul_nonneg hL hN
  have hlh : ∀ q : Int, lowV F N L q < highV F N L q := by
    intro q; unfold lowV highV; rw [Int.add_mul]; omega
  obtain ⟨c1, c2⟩ := strip_le (ax := X) (F := F) (N := N) (P := PX) (lo := lowV F N L k) (hi := highV F N L k) (sz := wd)
  obtain ⟨r1, r2⟩ := strip_le (ax := Y) (F := F) (N := N) (P := PY) (lo := lowV F N L m) (hi := highV F N L m) (sz := rows.length)
  have hiff := fun i => strip_iff (ax := Y) (F := F) (N := N) (P := PY) (lo := lowV F N L m) (hi := highV F N L m) (sz := rows.length) (c := i) hF
  have hjff := fun j => strip_iff (ax := X) (F := F) (N := N) (P := PX) (lo := lowV F N L k) (hi := highV F N L k) (sz := wd) (c := j) hF
  have hov1 := ov_of_inside (ax := X) (F := F) (N := N) (P := PX) (lo := lowV F N L k) (hi := highV F N L k) (sz := wd) hF (hlh k)
  have hov2 := ov_of_inside (ax := Y) (F := F) (N := N) (P := PY) (lo := lowV F N L m) (hi := highV F N L m) (sz := rows.length) hF (hlh m)
  unfold cellS toneS
  generalize firstS X F N PX (lowV F N L k) wd = c at *
  generalize endS X F N PX (lowV F N L k) (highV F N L k) wd = d at *
  generalize firstS Y F N PY (lowV F N L m) rows.length = f at *
  generalize endS Y F N PY (lowV F N L m) (highV F N L m) rows.length = e at *
  have hlen : ∀ r ∈ (rows.drop f).take (e - f), (ltr (r.extract c d)).length = d - c := by
    intro r hr
    have hmem : r ∈ rows := List.mem_of_mem_drop (List.mem_of_mem_take hr)
    rw [ltr_len, ByteArray.size_extract, hw r hmem]; omega
  have hrl : ((rows.drop f).take (e - f)).length = e - f := by rw [List.length_take, List.length_drop]; omega
  have hfull := sumL_full ((rows.drop f).take (e - f)) c d (d - c) hlen
  rw [hrl] at hfull
  have hall : (∀ r ∈ (rows.drop f).take (e - f), ∀ z ∈ ltr (r.extract c d), z = 35) ↔ ∀ i j z, AtB rows i j z → OvS Y F N PY (lowV F N L m) (highV F N L m) i → OvS X F N PX (lowV F N L k) (highV F N L k) j → z = 35 := by
    rw [mem_strip]
    constructor
    · intro h i j z ha hi hj
      have ha' := ha
      obtain ⟨r, hr, hz⟩ := ha'
      have hil : i < rows.length := (List.getElem?_eq_some_iff.1 hr).1
      have hjl : j < wd := by
        have h1 := (List.getElem?_eq_some_iff.1 hz).1
        rw [ltr_len, hw r (List.mem_of_getElem? hr)] at h1
        exact h1
      exact h i j z ha ((hiff i).2 ⟨hil, hi⟩) ((hjff j).2 ⟨hjl, hj⟩)
    · intro h i j z ha hi hj
      exact h i j z ha ((hiff i).1 hi).2 ((hjff j).1 hj).2
  rw [← hall, ← hfull]
  constructor
  · intro h
    split at h
    · cases h
    · split at h
      · rename_i h2
        simp only [Bool.and_eq_true, decide_eq_true_eq] at h2
        exact ⟨h2.1.1, h2.1.2, h2.2⟩
      · cases h
  · rintro ⟨h1, h2, h3⟩
    obtain ⟨j, hj1, hj2⟩ := hov1 h1
    obtain ⟨i, hi1, hi2⟩ := hov2 h2
    have hj3 := (hjff j).2 ⟨hj1, hj2⟩
    have hi3 := (hiff i).2 ⟨hi1, hi2⟩
    have hpos : 0 < (d - c) * (e - f) := Nat.mul_pos (by omega) (by omega)
    rw [if_neg (by omega), h1, h2, if_pos (by simpa using h3)]
end Go.Proofs.YtifddfchpknkbaaGreatDoor
