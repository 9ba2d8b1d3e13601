import Derived.Test.YtifddfchpknkbaaGreatDoorU
set_option linter.unusedVariables false
set_option linter.unusedSimpArgs false
namespace Go.Proofs.YtifddfchpknkbaaGreatDoor
open Go.RowKit

theorem lineV_mono {F : Int} (ax N x y : Int) (hF : 0 ≤ F) (h : x ≤ y) : lineV ax F N x ≤ lineV ax F N y := by
  have := Int.mul_le_mul_of_nonneg_right (show x - ax ≤ y - ax by omega) hF
  unfold lineV; omega
theorem lineV_succ (ax F N x : Int) : lineV ax F N (x + 1) = lineV ax F N x + F := by
  unfold lineV
  rw [show x + 1 - ax = (x - ax) + 1 from by omega, Int.add_mul]; omega
theorem scanN_spec (p : Nat → Bool) : ∀ (f t : Nat), (∀ j, t ≤ j → j < scanN p f t → p j = true) ∧ (scanN p f t < t + f → p (scanN p f t) = false)
  | 0, t => ⟨fun j h1 h2 => by simp [scanN] at h2; omega, fun h => by simp [scanN] at h⟩
  | f + 1, t => by
    obtain ⟨i1, i2⟩ := scanN_spec p f (t + 1)
    unfold scanN
    by_cases hp : p t = true
    · rw [if_pos hp]
      refine ⟨fun j h1 h2 => ?_, fun h => i2 (by omega)⟩
      by_cases hj : j = t
      · rw [hj]; exact hp
      · exact i1 j (by omega) h2
    · rw [if_neg hp]
      exact ⟨fun j h1 h2 => by omega, fun _ => by simpa using hp⟩
theorem firstS_le_of {ax F N P lo : Int} {sz c : Nat} (h : lo < lineV ax F N (P + (c + 1))) : firstS ax F N P lo sz ≤ c := by
  refine Nat.le_of_not_lt fun hc => ?_
  have := (scanN_spec (fun t => decide (lineV ax F N (P + (t + 1)) ≤ lo)) sz 0).1 c (Nat.zero_le _) hc
  simp at this
  omega
theorem lt_endS_of {ax F N P lo hi : Int} {sz c : Nat} (hF : 0 ≤ F) (h1 : firstS ax F N P lo sz ≤ c) (h2 : c < sz) (h : lineV ax F N (P + c) < hi) : c < endS ax F N P lo hi sz := by
  refine Nat.lt_of_not_le fun hc => ?_
  unfold endS at hc
  have := (scanN_spec (fun t => decide (lineV ax F N (P + t) < hi)) (sz - firstS ax F N P lo sz) (firstS ax F N P lo sz)).2 (by omega)
  have hm := lineV_mono ax N (P + (endS ax F N P lo hi sz : Nat)) (P + c) hF (by unfold endS; omega)
  unfold endS at hm
  simp at this
  omega

/-- A column of a figure that fits has its shadow in some cell of the cloth. -/
theorem cell_of_fit {W F L N ax P : Int} {sz c : Nat} (hN : 0 ≤ N) (hNF : N < F) (hL : 0 ≤ L) (hc : c < sz) (h1 : 0 ≤ fitLo ax F L N P) (h2 : fitHi ax F L N P sz ≤ W * (F - N)) :
    ∃ k : Nat, (k : Int) < W ∧ firstS ax F N P (lowV F N L k) sz ≤ c ∧ c < endS ax F N P (lowV F N L k) (highV F N L k) sz := by
  have hd : 0 < F - N := by omega
  have hLN : 0 ≤ L * N := Int.mul_nonneg hL hN
  have hP := lineV_mono ax N P (P + c) (show 0 ≤ F by omega) (by omega)
  have hS := lineV_succ ax F N (P + c)
  have hE := lineV_mono ax N (P + c + 1) (P + sz) (show 0 ≤ F by omega) (by omega)
  unfold fitLo at h1; unfold fitHi at h2
  have h0 : 0 ≤ lineV ax F N (P + c) := by omega
  have hk0 : 0 ≤ lineV ax F N (P + c) / (F - N) := Int.ediv_nonneg h0 (by omega)
  obtain ⟨k, hk⟩ : ∃ k : Nat, lineV ax F N (P + c) / (F - N) = k := ⟨_, (Int.toNat_of_nonneg hk0).symm⟩
  have hl := Int.ediv_mul_le (lineV ax F N (P + c)) (show F - N ≠ 0 by omega)
  have hu := Int.lt_ediv_add_one_mul_self (lineV ax F N (P + c)) hd
  rw [hk] at hl hu
  refine ⟨k, ?_, ?_⟩
  · refine Int.lt_of_mul_lt_mul_right (a := F - N) ?_ (by omega)
    omega
  · have hf : firstS ax F N P (lowV F N L k) sz ≤ c := by
      refine firstS_le_of ?_
      rw [show P + ((c : Int) + 1) = P + c + 1 from by omega]
      unfold lowV; omega
    refine ⟨hf, lt_endS_of (by omega) hf hc ?_⟩
    unfold highV; omega

theorem ltr_nums (l : List Int) (h : ∀ x ∈ l, 0 ≤ x ∧ x < 256) : ltr (strOfNums l) = l := by
  unfold ltr strOfNums
  simp only [List.map_map]
  conv => rhs; rw [← List.map_id l]
  refine List.map_congr_left fun x hx => ?_
  have := h x hx
  simp only [Function.comp, UInt8.toNat_ofNat', id]
  omega
theorem cntL_pos {l : List Int} {z : Int} (h : z ∈ l) : 0 < cntL l [z] := by
  unfold cntL
  refine List.length_pos_of_mem (a := z) (List.mem_filter.2 ⟨h, ?_⟩)
  simp [idxOf]
theorem of_cntL_pos {l : List Int} {z : Int} (h : 0 < cntL l [z]) : z ∈ l := by
  unfold cntL at h
  obtain ⟨b, hb⟩ := List.exists_mem_of_length_pos h
  obtain ⟨hb1, hb2⟩ := List.mem_filter.1 hb
  by_cases he : b = z
  · rw [← he]; exact hb1
  · have : (b == z) = false := by simpa using he
    simp [idxOf, this] at hb2
theorem toneS_3 (rows : List ByteArray) (c d : Nat) (ci : Bool) (f e : Nat) (ri : Bool) : toneS rows c d ci f e ri = 46 ∨ toneS rows c d ci f e ri = 35 ∨ toneS rows c d ci f e ri = 43 := by
  unfold toneS; split
  · exact .inl rfl
  · split
    · exact .inr (.inl rfl)
    · exact .inr (.inr rfl)
theorem shadL_3 {W H : Nat} {F L X Y N PX PY : Int} {rows : List ByteArray} {wd n q : Nat} : ∀ x ∈ shadL W H F L X Y N PX PY rows wd n q, x = 46 ∨ x = 35 ∨ x = 43 := by
  intro x hx
  obtain ⟨c, _, rfl⟩ := List.mem_map.1 hx
  exact toneS_3 ..
theorem ltr_shS (W H F L X Y N PX PY : Int) (rows : List ByteArray) : ltr (shS W H F L X Y N PX PY rows) = shadL W.toNat H.toNat F L X Y N PX PY rows (wdOf rows) rows.length (W.toNat * H.toNat) :=
  ltr_nums _ fun x hx => by rcases shadL_3 x hx with h | h | h <;> omega
theorem sum_pos_of {l : List Nat} {a : Nat} (h : a ∈ l) (ha : 0 < a) : 0 < l.sum := by
  induction l with
  | nil => cases h
  | cons b l ih =>
    rw [List.sum_cons]
    rcases List.mem_cons.1 h with rfl | h
    · omega
    · have := ih h; omega
theorem ltr_extract (s : ByteArray) (c d : Nat) : ltr (s.extract c d) = ((ltr s).drop c).take (d - c) := by
  unfold ltr
  rw [ByteArray.data_extract, Array.toList_extract, List.extract_eq_take_drop, List.map_take, List.map_drop]
theorem sumL_pos {rows : List ByteArray} {r : ByteArray} {c d j : Nat} (hr : r ∈ rows) (hj : j < (ltr r).length) (h35 : (ltr r)[j] = 35) (h1 : c ≤ j) (h2 : j < d) : 0 < sumL rows c d := by
  refine sum_pos_of (a := cntL (ltr (r.extract c d)) [35]) (List.mem_map.2 ⟨r, hr, rfl⟩) (cntL_pos ?_)
  rw [ltr_extract]
  refine List.mem_iff_getElem.2 ⟨j - c, by simp; omega, ?_⟩
  rw [List.getElem_take, List.getElem_drop]
  simp only [show c + (j - c) = j from by omega]
  exact h35
/-- A # of the figure makes the cells not light that get its shadow. -/
theorem cell_not_light {F L X Y N PX PY : Int} {rows : List ByteArray} {wd n k m i j : Nat} (hi : i < rows.length) (hj : j < (ltr rows[i]).length) (h35 : (ltr rows[i])[j] = 35)
    (c1 : firstS X F N PX (lowV F N L k) wd ≤ j) (c2 : j < endS X F N PX (lowV F N L k) (highV F N L k) wd) (r1 : firstS Y F N PY (lowV F N L m) n ≤ i) (r2 : i < endS Y F N PY (lowV F N L m) (highV F N L m) n) :
    cellS F L X Y N PX PY rows wd n k m = 35 ∨ cellS F L X Y N PX PY rows wd n k m = 43 := by
  have hp := sumL_pos (rows := (rows.drop (firstS Y F N PY (lowV F N L m) n)).take (endS Y F N PY (lowV F N L m) (highV F N L m) n - firstS Y F N PY (lowV F N L m) n)) (r := rows[i]) (List.mem_iff_getElem.2 ⟨i - firstS Y F N PY (lowV F N L m) n, by simp; omega, by
    rw [List.getElem_take, List.getElem_drop]; simp only [show firstS Y F N PY (lowV F N L m) n + (i - firstS Y F N PY (lowV F N L m) n) = i from by omega]⟩) hj h35 c1 c2
  unfold cellS toneS
  rw [if_neg (by omega)]
  split
  · exact .inl rfl
  · exact .inr rfl
theorem shadL_at {W H : Nat} {F L X Y N PX PY : Int} {rows : List ByteArray} {wd n k m : Nat} (hk : k < W) (hm : m < H) : cellS F L X Y N PX PY rows wd n k m ∈ shadL W H F L X Y N PX PY rows wd n (W * H) := by
  refine List.mem_map.2 ⟨m * W + k, List.mem_range.2 ?_, ?_⟩
  · have := Nat.mul_le_mul_right W (show m + 1 ≤ H by omega)
    rw [Nat.add_mul, Nat.one_mul, Nat.mul_comm H W] at this; omega
  · have e1 : (m * W + k) % W = k := by rw [Nat.mul_add_mod_self_right, Nat.mod_eq_of_lt hk]
    have e2 : (m * W + k) / W = m := by rw [Nat.add_comm, Nat.add_mul_div_right _ _ (by omega), Nat.div_eq_of_lt hk, Nat.zero_add]
    rw [e1, e2]

theorem fitsB_iff {W H F L X Y N PX PY : Int} {wd n : Nat} : fitsB W H F L X Y N PX PY wd n = true ↔ (0 ≤ fitLo X F L N PX ∧ fitHi X F L N PX wd ≤ W * (F - N)) ∧ (0 ≤ fitLo Y F L N PY ∧ fitHi Y F L N PY n ≤ H * (F - N)) := by
  unfold fitsB
  simp only [Bool.and_eq_true, Bool.not_eq_true', decide_eq_false_iff_not]
  omega
theorem fitLo_mono {ax F L N P j : Int} (hx : 0 ≤ ax) (hL : 0 ≤ L) (hj : j ≤ N) (h : 0 ≤ fitLo ax F L N P) : 0 ≤ fitLo ax F L j P := by
  have h2 : 0 ≤ (N - j) * (ax + L) := Int.mul_nonneg (by omega) (by omega)
  unfold fitLo lineV at *
  grind
theorem fitHi_mono {W ax F L N P j : Int} {sz : Nat} (hx : ax ≤ W) (hL : 0 ≤ L) (hj : j ≤ N) (h : fitHi ax F L N P sz ≤ W * (F - N)) : fitHi ax F L j P sz ≤ W * (F - j) := by
  have h2 : 0 ≤ (N - j) * (W - ax + L) := Int.mul_nonneg (by omega) (by omega)
  unfold fitHi lineV at *
  grind
theorem fitsB_mono {W H F L X Y N PX PY j : Int} {wd n : Nat} (x1 : 0 ≤ X) (x2 : X ≤ W) (y1 : 0 ≤ Y) (y2 : Y ≤ H) (hL : 0 ≤ L) (hj : j ≤ N) (h : fitsB W H F L X Y N PX PY wd n = true) : fitsB W H F L X Y j PX PY wd n = true := by
  rw [fitsB_iff] at h ⊢
  exact ⟨⟨fitLo_mono x1 hL hj h.1.1, fitHi_mono x2 hL hj h.1.2⟩, fitLo_mono y1 hL hj h.2.1, fitHi_mono y2 hL hj h.2.2⟩

/-- Of a figure that fits some cell is not light. -/
theorem some_of_fit {W H F L X Y N PX PY : Int} {rows : List ByteArray} (hv : viewB W H F L X Y N PX PY rows = true) (h : fitsB W H F L X Y N PX PY (wdOf rows) rows.length = true) :
    0 < cntL (ltr (shS W H F L X Y N PX PY rows)) [35] + cntL (ltr (shS W H F L X Y N PX PY rows)) [43] := by
  simp only [viewB, Bool.and_eq_true] at hv
  obtain ⟨hv3, hv4, hv5⟩ := hv
  obtain ⟨⟨a1, a2⟩, ⟨a3, a4⟩, ⟨a5, a6⟩, ⟨a7, a8⟩, ⟨a9, a10⟩, a11, a12⟩ := stageB_nums hv3
  obtain ⟨⟨b1, b2⟩, b3, b4, b5⟩ := figB_nums hv4
  obtain ⟨⟨c1, c2⟩, ⟨c3, c4⟩, c5, c6⟩ := placeB_nums hv5
  have hany : rows.any hashB = true := by simp only [figB, Bool.and_eq_true] at hv4; exact hv4.2.2.2
  obtain ⟨r, hr, hh⟩ := List.any_eq_true.1 hany
  obtain ⟨i, hi, rfl⟩ := List.mem_iff_getElem.1 hr
  have h35 : (35 : Int) ∈ ltr rows[i] := of_cntL_pos (by simpa [hashB] using hh)
  obtain ⟨j, hj, hj35⟩ := List.mem_iff_getElem.1 h35
  have hjw : j < wdOf rows := by rw [ltr_len, b5 _ hr] at hj; exact hj
  rw [fitsB_iff] at h
  obtain ⟨k, hk, k1, k2⟩ := cell_of_fit (c := j) c1 (by omega) a7 hjw h.1.1 h.1.2
  obtain ⟨m, hm, m1, m2⟩ := cell_of_fit (c := i) c1 (by omega) a7 hi h.2.1 h.2.2
  have hc := cell_not_light hi hj hj35 k1 k2 m1 m2
  have hin := shadL_at (W := W.toNat) (H := H.toNat) (F := F) (L := L) (X := X) (Y := Y) (N := N) (PX := PX) (PY := PY) (rows := rows) (wd := wdOf rows) (n := rows.length) (k := k) (m := m) (by omega) (by omega)
  rw [ltr_shS]
  rcases hc with hc | hc <;> rw [hc] at hin <;> have := cntL_pos hin <;> omega

theorem mostFrom_cases (ok : Nat → Bool) : ∀ n, (mostFrom ok n = #[.int .i64 0, .int .i64 5] ∧ ∀ j, j < n → ok j = false) ∨ ∃ k, k < n ∧ mostFrom ok n = #[.int .i64 k, .int .i64 0] ∧ ok k = true ∧ ∀ j, k < j → j < n → ok j = false
  | 0 => .inl ⟨rfl, fun j hj => absurd hj (by omega)⟩
  | n + 1 => by
    unfold mostFrom
    cases h : ok n
    · rcases mostFrom_cases ok n with ⟨e, h2⟩ | ⟨k, hk, e, h1, h2⟩
      · refine .inl ⟨by simpa using e, fun j hj => ?_⟩
        by_cases hjn : j = n
        · rw [hjn]; exact h
        · exact h2 j (by omega)
      · refine .inr ⟨k, by omega, by simpa using e, h1, fun j hj hj2 => ?_⟩
        by_cases hjn : j = n
        · rw [hjn]; exact h
        · exact h2 j hj (by omega)
    · exact .inr ⟨n, by omega, rfl, h, fun j hj hj2 => absurd hj2 (by omega)⟩
theorem fadeFrom_cases (ok : Nat → Bool) : ∀ m k, (fadeFrom ok m k = #[.int .i64 0, .int .i64 5] ∧ ∀ j, k ≤ j → j < k + m → ok j = false) ∨ ∃ i, k ≤ i ∧ i < k + m ∧ fadeFrom ok m k = #[.int .i64 i, .int .i64 0] ∧ ok i = true ∧ ∀ j, k ≤ j → j < i → ok j = false
  | 0, k => .inl ⟨rfl, fun j hj hj2 => absurd hj2 (by omega)⟩
  | m + 1, k => by
    unfold fadeFrom
    cases h : ok k
    · rcases fadeFrom_cases ok m (k + 1) with ⟨e, h2⟩ | ⟨i, hi, hi2, e, h1, h2⟩
      · refine .inl ⟨by simpa using e, fun j hj hj2 => ?_⟩
        by_cases hjn : j = k
        · rw [hjn]; exact h
        · exact h2 j (by omega) (by omega)
      · refine .inr ⟨i, by omega, by omega, by simpa using e, h1, fun j hj hj2 => ?_⟩
        by_cases hjn : j = k
        · rw [hjn]; exact h
        · exact h2 j (by omega) hj2
    · exact .inr ⟨k, by omega, by omega, rfl, h, fun j hj hj2 => absurd hj2 (by omega)⟩
end Go.Proofs.YtifddfchpknkbaaGreatDoor

namespace Go.Proofs.YtifddfchpknkbaaGreatDoor
open Go.RowKit

theorem viewB_zero {W H F L X Y N PX PY : Int} {rows : List ByteArray} (h : viewB W H F L X Y N PX PY rows = true) : viewB W H F L X Y 0 PX PY rows = true := by
  simp only [viewB, placeB, Bool.and_eq_true] at h ⊢
  refine ⟨h.1, h.2.1, ⟨?_, h.2.2.1.2⟩, h.2.2.2⟩
  have := h.2.2.1.1
  simp [inB] at this ⊢; omega
theorem stageB_xy {W H F L X Y : Int} (h : stageB W H F L X Y = true) : X ≤ W ∧ Y ≤ H := by
  simp [stageB, inB] at h; omega
theorem cnt_le {W H F L X Y N PX PY : Int} {rows : List ByteArray} (z : Int) (hW : 1 ≤ W) (hH : 1 ≤ H) : (cntL (ltr (shS W H F L X Y N PX PY rows)) [z] : Int) ≤ W * H := by
  have h := cntL_le (ltr (shS W H F L X Y N PX PY rows)) [z]
  rw [ltr_len, shS_size] at h
  obtain ⟨a, rfl⟩ : ∃ a : Nat, W = a := ⟨W.toNat, by omega⟩
  obtain ⟨b, rfl⟩ : ∃ b : Nat, H = b := ⟨H.toNat, by omega⟩
  simp only [Int.toNat_natCast] at h
  exact_mod_cast h

/-- What is returned of distances, in cases. -/
theorem near_cases {W H F L X Y N PX PY : Int} {rows : List ByteArray} (hv : viewB W H F L X Y N PX PY rows = true) :
    ((mostR W H F L X Y PX PY rows = #[.int .i64 0, .int .i64 5] ∧ fitsB W H F L X Y N PX PY (wdOf rows) rows.length = false) ∨ ∃ k : Nat, (k : Int) < F ∧ mostR W H F L X Y PX PY rows = #[.int .i64 k, .int .i64 0] ∧ ((N ≤ k ∧ fitsB W H F L X Y N PX PY (wdOf rows) rows.length = true) ∨ (k < N ∧ fitsB W H F L X Y N PX PY (wdOf rows) rows.length = false)))
    ∧ ((fadesR W H F L X Y PX PY rows = #[.int .i64 0, .int .i64 5] ∧ 0 < cntL (ltr (shS W H F L X Y N PX PY rows)) [35]) ∨ ∃ i : Nat, (i : Int) < F ∧ fadesR W H F L X Y PX PY rows = #[.int .i64 i, .int .i64 0] ∧ ((N < i ∧ 0 < cntL (ltr (shS W H F L X Y N PX PY rows)) [35]) ∨ (N = i ∧ cntL (ltr (shS W H F L X Y N PX PY rows)) [35] = 0) ∨ i < N)) := by
  have hv0 := viewB_zero hv
  have hv2 := hv
  simp only [viewB, Bool.and_eq_true] at hv2
  obtain ⟨hv3, hv4, hv5⟩ := hv2
  obtain ⟨⟨a1, a2⟩, ⟨a3, a4⟩, ⟨a5, a6⟩, ⟨a7, a8⟩, ⟨a9, a10⟩, a11, a12⟩ := stageB_nums hv3
  obtain ⟨x2, y2⟩ := stageB_xy hv3
  obtain ⟨⟨c1, c2⟩, _⟩ := placeB_nums hv5
  clear hv3 hv4 hv5
  obtain ⟨Nn, rfl⟩ : ∃ k : Nat, N = k := ⟨N.toNat, by omega⟩
  obtain ⟨Fn, rfl⟩ : ∃ k : Nat, F = k := ⟨F.toNat, by omega⟩
  constructor
  · unfold mostR
    rw [if_pos hv0, Int.toNat_natCast]
    rcases mostFrom_cases (fun k : Nat => fitsB W H Fn L X Y k PX PY (wdOf rows) rows.length) Fn with ⟨e, h⟩ | ⟨k, hk, e, h1, h2⟩
    · exact .inl ⟨e, h Nn (by omega)⟩
    · refine .inr ⟨k, by omega, e, ?_⟩
      by_cases hkn : Nn ≤ k
      · exact .inl ⟨by omega, fitsB_mono a9 x2 a11 y2 a7 (by omega) h1⟩
      · exact .inr ⟨by omega, h2 Nn (by omega) (by omega)⟩
  · unfold fadesR
    rw [if_pos hv0, Int.toNat_natCast]
    have hnd : ∀ j : Nat, noDark W H Fn L X Y PX PY rows j = false → 0 < cntL (ltr (shS W H Fn L X Y j PX PY rows)) [35] := by
      intro j hj
      simp [noDark] at hj; omega
    rcases fadeFrom_cases (noDark W H Fn L X Y PX PY rows) Fn 0 with ⟨e, h⟩ | ⟨i, _, hi, e, h1, h2⟩
    · exact .inl ⟨e, hnd Nn (h Nn (by omega) (by omega))⟩
    · refine .inr ⟨i, by omega, e, ?_⟩
      by_cases hni : Nn < i
      · exact .inl ⟨by omega, hnd Nn (h2 Nn (by omega) hni)⟩
      · by_cases he : Nn = i
        · subst he
          refine .inr (.inl ⟨rfl, ?_⟩)
          simpa [noDark] using h1
        · exact .inr (.inr (by omega))
end Go.Proofs.YtifddfchpknkbaaGreatDoor
