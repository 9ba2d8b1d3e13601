import Derived.Test.YtifddfchpknkbaaGreatDoorP
set_option linter.unusedVariables false
set_option linter.unusedSimpArgs false
namespace Go.Proofs.YtifddfchpknkbaaGreatDoor
open Go.RowKit

theorem lineV_mono {F : Int} (ax N x y : Int) (hF : 0 ≤ F) (h : x ≤ y) : lineV ax F N x ≤ lineV ax F N y := by
  have := Int.mul_le_mul_of_nonneg_right (show x - ax ≤ y - ax by omega) hF
  unfold lineV; omega
theorem lineV_succ (ax F N x : Int) : lineV ax F N (x + 1) = lineV ax F N x + F := by
  unfold lineV
  rw [show x + 1 - ax = (x - ax) + 1 from by omega, Int.add_mul]; omega
theorem scanN_spec (p : Nat → Bool) : ∀ (f t : Nat), (∀ j, t ≤ j → j < scanN p f t → p j = true) ∧ (scanN p f t < t + f → p (scanN p f t) = false)
  | 0, t => ⟨fun j h1 h2 => by simp [scanN] at h2; omega, fun h => by simp [scanN] at h⟩
  | f + 1, t => by
    obtain ⟨i1, i2⟩ := scanN_spec p f (t + 1)
    unfold scanN
    by_cases hp : p t = true
    · rw [if_pos hp]
      refine ⟨fun j h1 h2 => ?_, fun h => i2 (by omega)⟩
      by_cases hj : j = t
      · rw [hj]; exact hp
      · exact i1 j (by omega) h2
    · rw [if_neg hp]
      exact ⟨fun j h1 h2 => by omega, fun _ => by simpa using hp⟩
theorem firstS_le_of {ax F N P lo : Int} {sz c : Nat} (h : lo < lineV ax F N (P + (c + 1))) : firstS ax F N P lo sz ≤ c := by
  refine Nat.le_of_not_lt fun hc => ?_
  have := (scanN_spec (fun t => decide (lineV ax F N (P + (t + 1)) ≤ lo)) sz 0).1 c (Nat.zero_le _) hc
  simp at this
  omega
theorem lt_endS_of {ax F N P lo hi : Int} {sz c : Nat} (hF : 0 ≤ F) (h1 : firstS ax F N P lo sz ≤ c) (h2 : c < sz) (h : lineV ax F N (P + c) < hi) : c < endS ax F N P lo hi sz := by
  refine Nat.lt_of_not_le fun hc => ?_
  unfold endS at hc
  have := (scanN_spec (fun t => decide (lineV ax F N (P + t) < hi)) (sz - firstS ax F N P lo sz) (firstS ax F N P lo sz)).2 (by omega)
  have hm := lineV_mono ax N (P + (endS ax F N P lo hi sz : Nat)) (P + c) hF (by unfold endS; omega)
  unfold endS at hm
  simp at this
  omega

/-- A column of a figure that fits has its shadow in some cell of the cloth. -/
theorem cell_of_fit {W F L N ax P : Int} {sz c : Nat} (hN : 0 ≤ N) (hNF : N < F) (hL : 0 ≤ L) (hc : c < sz) (h1 : 0 ≤ fitLo ax F L N P) (h2 : fitHi ax F L N P sz ≤ W * (F - N)) :
    ∃ k : Nat, (k : Int) < W ∧ firstS ax F N P (lowV F N L k) sz ≤ c ∧ c < endS ax F N P (lowV F N L k) (highV F N L k) sz := by
  have hd : 0 < F - N := by omega
  have hLN : 0 ≤ L * N := Int.mul_nonneg hL hN
  have hP := lineV_mono ax N P (P + c) (show 0 ≤ F by omega) (by omega)
  have hS := lineV_succ ax F N (P + c)
  have hE := lineV_mono ax N (P + c + 1) (P + sz) (show 0 ≤ F by omega) (by omega)
  unfold fitLo at h1; unfold fitHi at h2
  have h0 : 0 ≤ lineV ax F N (P + c) := by omega
  have hk0 : 0 ≤ lineV ax F N (P + c) / (F - N) := Int.ediv_nonneg h0 (by omega)
  obtain ⟨k, hk⟩ : ∃ k : Nat, lineV ax F N (P + c) / (F - N) = k := ⟨_, (Int.toNat_of_nonneg hk0).symm⟩
  have hl := Int.ediv_mul_le (lineV ax F N (P + c)) (show F - N ≠ 0 by omega)
  have hu := Int.lt_ediv_add_one_mul_self (lineV ax F N (P + c)) hd
  rw [hk] at hl hu
  refine ⟨k, ?_, ?_⟩
  · refine Int.lt_of_mul_lt_mul_right (a := F - N) ?_ (by omega)
    omega
  · have hf : firstS ax F N P (lowV F N L k) sz ≤ c := by
      refine firstS_le_of ?_
      rw [show P + ((c : Int) + 1) = P + c + 1 from by omega]
      unfold lowV; omega
    refine ⟨hf, lt_endS_of (by omega) hf hc ?_⟩
    unfold highV; omega

theorem ltr_nums (l : List Int) (h : ∀ x ∈ l, 0 ≤ x ∧ x < 256) : ltr (strOfNums l) = l := by
  unfold ltr strOfNums
  simp only [List.map_map]
  conv => rhs; rw [← List.map_id l]
  refine List.map_congr_left fun x hx => ?_
  have := h x hx
  simp only [Function.comp, UInt8.toNat_ofNat', id]
  omega
theorem cntL_pos {l : List Int} {z : Int} (h : z ∈ l) : 0 < cntL l [z] := by
  unfold cntL
  refine List.length_pos_of_mem (a := z) (List.mem_filter.2 ⟨h, ?_⟩)
  simp [idxOf]
theorem of_cntL_pos {l : List Int} {z : Int} (h : 0 < cntL l [z]) : z ∈ l := by
  unfold cntL at h
  obtain ⟨b, hb⟩ := List.exists_mem_of_length_pos h
  obtain ⟨hb1, hb2⟩ := List.mem_filter.1 hb
  by_cases he : b = z
  · rw [← he]; exact hb1
  · have : (b == z) = false := by simpa using he
    simp [idxOf, this] at hb2
theorem toneS_3 (rows : List ByteArray) (c d : Nat) (ci : Bool) (f e : Nat) (ri : Bool) : toneS rows c d ci f e ri = 46 ∨ toneS rows c d ci f e ri = 35 ∨ toneS rows c d ci f e ri = 43 := by
  unfold toneS; split
  · exact .inl rfl
  · split
    · exact .inr (.inl rfl)
    · exact .inr (.inr rfl)
theorem shadL_3 {W H : Nat} {F L X Y N PX PY : Int} {rows : List ByteArray} {wd n q : Nat} : ∀ x ∈ shadL W H F L X Y N PX PY rows wd n q, x = 46 ∨ x = 35 ∨ x = 43 := by
  intro x hx
  obtain ⟨c, _, rfl⟩ := List.mem_map.1 hx
  exact toneS_3 ..
theorem ltr_shS (W H F L X Y N PX PY : Int) (rows : List ByteArray) : ltr (shS W H F L X Y N PX PY rows) = shadL W.toNat H.toNat F L X Y N PX PY rows (wdOf rows) rows.length (W.toNat * H.toNat) :=
  ltr_nums _ fun x hx => by rcases shadL_3 x hx with h | h | h <;> omega
theorem sum_pos_of {l : List Nat} {a : Nat} (h : a ∈ l) (ha : 0 < a) : 0 < l.sum := by
  induction l with
  | nil => cases h
  | cons b l ih =>
    rw [List.sum_cons]
    rcases List.mem_cons.1 h with rfl | h
    · omega
    · have := ih h; omega
theorem ltr_extract (s : ByteArray) (c d : Nat) : ltr (s.extract c d) = ((ltr s).drop c).take (d - c) := by
  unfold ltr
  rw [ByteArray.data_extract, Array.toList_extract, List.extract_eq_take_drop, List.map_take, List.map_drop]
theorem sumL_pos {rows : List ByteArray} {r : ByteArray} {c d j : Nat} (hr : r ∈ rows) (hj : j < (ltr r).length) (h35 : (ltr r)[j] = 35) (h1 : c ≤ j) (h2 : j < d) : 0 < sumL rows c d := by
  refine sum_pos_of (a := cntL (ltr (r.extract c d)) [35]) (List.mem_map.2 ⟨r, hr, rfl⟩) (cntL_pos ?_)
  rw [ltr_extract]
  refine List.mem_iff_getElem.2 ⟨j - c, by simp; omega, ?_⟩
  rw [List.getElem_take, List.getElem_drop]
  simp only [show c + (j - c) = j from by omega]
  exact h35
/-- A # of the figure makes the cells not light that get its shadow. -/
theorem cell_not_light {F L X Y N PX PY : Int} {rows : List ByteArray} {wd n k m i j : Nat} (hi : i < rows.length) (hj : j < (ltr rows[i]).length) (h35 : (ltr rows[i])[j] = 35)
    (c1 : firstS X F N PX (lowV F N L k) wd ≤ j) (c2 : j < endS X F N PX (lowV F N L k) (highV F N L k) wd) (r1 : firstS Y F N PY (lowV F N L m) n ≤ i) (r2 : i < endS Y F N PY (lowV F N L m) (highV F N L m) n) :
    cellS F L X Y N PX PY rows wd n k m = 35 ∨ cellS F L X Y N PX PY rows wd n k m = 43 := by
  have hp := sumL_pos (rows := (rows.drop (firstS Y F N PY (lowV F N L m) n)).take (endS Y F N PY (lowV F N L m) (highV F N L m) n - firstS Y F N PY (lowV F N L m) n)) (r := rows[i]) (List.mem_iff_getElem.2 ⟨i - firstS Y F N PY (lowV F N L m) n, by simp; omega, by
    rw [List.getElem_take, List.getElem_drop]; simp only [show firstS Y F N PY (lowV F N L m) n + (i - firstS Y F N PY (lowV F N L m) n) = i from by omega]⟩) hj h35 c1 c2
  unfold cellS toneS
  rw [if_neg (by omega)]
  split
  · exact .inl rfl
  · exact .inr rfl
theorem shadL_at {W H : Nat} {F L X Y N PX PY : Int} {rows : List ByteArray} {wd n k m : Nat} (hk : k < W) (hm : m < H) : cellS F L X Y N PX PY rows wd n k m ∈ shadL W H F L X Y N PX PY rows wd n (W * H) := by
  refine List.mem_map.2 ⟨m * W + k, List.mem_range.2 ?_, ?_⟩
  · have := Nat.mul_le_mul_right W (show m + 1 ≤ H by omega)
    rw [Nat.add_mul, Nat.one_mul, Nat.mul_comm H W] at this; omega
  · have e1 : (m * W + k) % W = k := by rw [Nat.mul_add_mod_self_right, Nat.mod_eq_of_lt hk]
    have e2 : (m * W + k) / W = m := by rw [Nat.add_comm, Nat.add_mul_div_right _ _ (by omega), Nat.div_eq_of_lt hk, Nat.zero_add]
    rw [e1, e2]

theorem fitsB_iff {W H F L X Y N PX PY : Int} {wd n : Nat} : fitsB W H F L X Y N PX PY wd n = true ↔ (0 ≤ fitLo X F L N PX ∧ fitHi X F L N PX wd ≤ W * (F - N)) ∧ (0 ≤ fitLo Y F L N PY ∧ fitHi Y F L N PY n ≤ H * (F - N)) := by
  unfold fitsB
  simp only [Bool.and_eq_true, Bool.not_eq_true', decide_eq_false_iff_not]
  omega
theorem fitLo_mono {ax F L N P j : Int} (hx : 0 ≤ ax) (hL : 0 ≤ L) (hj : j ≤ N) (h : 0 ≤ fitLo ax F L N P) : 0 ≤ fitLo ax F L j P := by
  have h2 : 0 ≤ (N - j) * (ax + L) := Int.mul_nonneg (by omega) (by omega)
  unfold fitLo lineV at *
  grind
theorem fitHi_mono {W ax F L N P j : Int} {sz : Nat} (hx : ax ≤ W) (hL : 0 ≤ L) (hj : j ≤ N) (h : fitHi ax F L N P sz ≤ W * (F - N)) : fitHi ax F L j P sz ≤ W * (F - j) := by
  have h2 : 0 ≤ (N - j) * (W - ax + L) := Int.mul_nonneg (by omega) (by omega)
  unfold fitHi lineV at *
  grind
theorem fitsB_mono {W H F L X Y N PX PY j : Int} {wd n : Nat} (x1 : 0 ≤ X) (x2 : X ≤ W) (y1 : 0 ≤ Y) (y2 : Y ≤ H) (hL : 0 ≤ L) (hj : j ≤ N) (h : fitsB W H F L X Y N PX PY wd n = true) : fitsB W H F L X Y j PX PY wd n = true := by
  rw [fitsB_iff] at h ⊢
  exact ⟨⟨fitLo_mono x1 hL hj h.1.1, fitHi_mono x2 hL hj h.1.2⟩, fitLo_mono y1 hL hj h.2.1, fitHi_mono y2 hL hj h.2.2⟩

/-- Of a figure that fits some cell is not light. -/
theorem some_of_fit {W H F L X Y N PX PY : Int} {rows : List ByteArray} (hv : viewB W H F L X Y N PX PY rows = true) (h : fitsB W H F L X Y N PX PY (wdOf rows) rows.length = true) :
    0 < cntL (ltr (shS W H F L X Y N PX PY rows)) [35] + cntL (ltr (shS W H F L X Y N PX PY rows)) [43] := by
  simp only [viewB, Bool.and_eq_true] at hv
  obtain ⟨hv3, hv4, hv5⟩ := hv
  obtain ⟨⟨a1, a2⟩, ⟨a3, a4⟩, ⟨a5, a6⟩, ⟨a7, a8⟩, ⟨a9, a10⟩, a11, a12⟩ := stageB_nums hv3
  obtain ⟨⟨b1, b2⟩, b3, b4, b5⟩ := figB_nums hv4
  obtain ⟨⟨c1, c2⟩, ⟨c3, c4⟩, c5, c6⟩ := placeB_nums hv5
  have hany : rows.any hashB = true := by simp only [figB, Bool.and_eq_true] at hv4; exact hv4.2.2.2
  obtain ⟨r, hr, hh⟩ := List.any_eq_true.1 hany
  obtain ⟨i, hi, rfl⟩ := List.mem_iff_getElem.1 hr
  have h35 : (35 : Int) ∈ ltr rows[i] := of_cntL_pos (by simpa [hashB] using hh)
  obtain ⟨j, hj, hj35⟩ := List.mem_iff_getElem.1 h35
  have hjw : j < wdOf rows := by rw [ltr_len, b5 _ hr] at hj; exact hj
  rw [fitsB_iff] at h
  obtain ⟨k, hk, k1, k2⟩ := cell_of_fit (c := j) c1 (by omega) a7 hjw h.1.1 h.1.2
  obtain ⟨m, hm, m1, m2⟩ := cell_of_fit (c := i) c1 (by omega) a7 hi h.2.1 h.2.2
  have hc := cell_not_light hi hj hj35 k1 k2 m1 m2
  have hin := shadL_at (W := W.toNat) (H := H.toNat) (F := F) (L := L) (X := X) (Y := Y) (N := N) (PX := PX) (PY := PY) (rows := rows) (wd := wdOf rows) (n := rows.length) (k := k) (m := m) (by omega) (by omega)
  rw [ltr_shS]
  rcases hc with hc | hc <;> rw [hc] at hin <;> have := cntL_pos hin <;> omega

theorem mostFrom_cases (ok : Nat → Bool) : ∀ n, (mostFrom ok n = #[.int .i64 0, .int .i64 5] ∧ ∀ j, j < n → ok j = false) ∨ ∃ k, k < n ∧ mostFrom ok n = #[.int .i64 k, .int .i64 0] ∧ ok k = true ∧ ∀ j, k < j → j < n → ok j = false
  | 0 => .inl ⟨rfl, fun j hj => absurd hj (by omega)⟩
  | n + 1 => by
    unfold mostFrom
    cases h : ok n
    · rcases mostFrom_cases ok n with ⟨e, h2⟩ | ⟨k, hk, e, h1, h2⟩
      · refine .inl ⟨by simpa using e, fun j hj => ?_⟩
        by_cases hjn : j = n
        · rw [hjn]; exact h
        · exact h2 j (by omega)
      · refine .inr ⟨k, by omega, by simpa using e, h1, fun j hj hj2 => ?_⟩
        by_cases hjn : j = n
        · rw [hjn]; exact h
        · exact h2 j hj (by omega)
    · exact .inr ⟨n, by omega, rfl, h, fun j hj hj2 => absurd hj2 (by omega)⟩
theorem fadeFrom_cases (ok : Nat → Bool) : ∀ m k, (fadeFrom ok m k = #[.int .i64 0, .int .i64 5] ∧ ∀ j, k ≤ j → j < k + m → ok j = false) ∨ ∃ i, k ≤ i ∧ i < k + m ∧ fadeFrom ok m k = #[.int .i64 i, .int .i64 0] ∧ ok i = true ∧ ∀ j, k ≤ j → j < i → ok j = false
  | 0, k => .inl ⟨rfl, fun j hj hj2 => absurd hj2 (by omega)⟩
  | m + 1, k => by
    unfold fadeFrom
    cases h : ok k
    · rcases fadeFrom_cases ok m (k + 1) with ⟨e, h2⟩ | ⟨i, hi, hi2, e, h1, h2⟩
      · refine .inl ⟨by simpa using e, fun j hj hj2 => ?_⟩
        by_cases hjn : j = k
        · rw [hjn]; exact h
        · exact h2 j (by omega) (by omega)
      · refine .inr ⟨i, by omega, by omega, by simpa using e, h1, fun j hj hj2 => ?_⟩
        by_cases hjn : j = k
        · rw [hjn]; exact h
        · exact h2 j (by omega) hj2
    · exact .inr ⟨k, by omega, by omega, rfl, h, fun j hj hj2 => absurd hj2 (by omega)⟩
end Go.Proofs.YtifddfchpknkbaaGreatDoor

namespace Go.Proofs.YtifddfchpknkbaaGreatDoor
open Go.RowKit

theorem viewB_zero {W H F L X Y N PX PY : Int} {rows : List ByteArray} (h : viewB W H F L X Y N PX PY rows = true) : viewB W H F L X Y 0 PX PY rows = true := by
  simp only [viewB, placeB, Bool.and_eq_true] at h ⊢
  refine ⟨h.1, h.2.1, ⟨?_, h.2.2.1.2⟩, h.2.2.2⟩
  have := h.2.2.1.1
  simp [inB] at this ⊢; omega
theorem stageB_xy {W H F L X Y : Int} (h : stageB W H F L X Y = true) : X ≤ W ∧ Y ≤ H := by
  simp [stageB, inB] at h; omega
theorem cnt_le {W H F L X Y N PX PY : Int} {rows : List ByteArray} (z : Int) (hW : 1 ≤ W) (hH : 1 ≤ H) : (cntL (ltr (shS W H F L X Y N PX PY rows)) [z] : Int) ≤ W * H := by
  have h := cntL_le (ltr (shS W H F L X Y N PX PY rows)) [z]
  rw [ltr_len, shS_size] at h
  obtain ⟨a, rfl⟩ : ∃ a : Nat, W = a := ⟨W.toNat, by omega⟩
  obtain ⟨b, rfl⟩ : ∃ b : Nat, H = b := ⟨H.toNat, by omega⟩
  simp only [Int.toNat_natCast] at h
  exact_mod_cast h

/-- What is returned of distances, in cases. -/
theorem near_cases {W H F L X Y N PX PY : Int} {rows : List ByteArray} (hv : viewB W H F L X Y N PX PY rows = true) :
    ((mostR W H F L X Y PX PY rows = #[.int .i64 0, .int .i64 5] ∧ fitsB W H F L X Y N PX PY (wdOf rows) rows.length = false) ∨ ∃ k : Nat, (k : Int) < F ∧ mostR W H F L X Y PX PY rows = #[.int .i64 k, .int .i64 0] ∧ ((N ≤ k ∧ fitsB W H F L X Y N PX PY (wdOf rows) rows.length = true) ∨ (k < N ∧ fitsB W H F L X Y N PX PY (wdOf rows) rows.length = false)))
    ∧ ((fadesR W H F L X Y PX PY rows = #[.int .i64 0, .int .i64 5] ∧ 0 < cntL (ltr (shS W H F L X Y N PX PY rows)) [35]) ∨ ∃ i : Nat, (i : Int) < F ∧ fadesR W H F L X Y PX PY rows = #[.int .i64 i, .int .i64 0] ∧ ((N < i ∧ 0 < cntL (ltr (shS W H F L X Y N PX PY rows)) [35]) ∨ (N = i ∧ cntL (ltr (shS W H F L X Y N PX PY rows)) [35] = 0) ∨ i < N)) := by
  have hv0 := viewB_zero hv
  have hv2 := hv
  simp only [viewB, Bool.and_eq_true] at hv2
  obtain ⟨hv3, hv4, hv5⟩ := hv2
  obtain ⟨⟨a1, a2⟩, ⟨a3, a4⟩, ⟨a5, a6⟩, ⟨a7, a8⟩, ⟨a9, a10⟩, a11, a12⟩ := stageB_nums hv3
  obtain ⟨x2, y2⟩ := stageB_xy hv3
  obtain ⟨⟨c1, c2⟩, _⟩ := placeB_nums hv5
  clear hv3 hv4 hv5
  obtain ⟨Nn, rfl⟩ : ∃ k : Nat, N = k := ⟨N.toNat, by omega⟩
  obtain ⟨Fn, rfl⟩ : ∃ k : Nat, F = k := ⟨F.toNat, by omega⟩
  constructor
  · unfold mostR
    rw [if_pos hv0, Int.toNat_natCast]
    rcases mostFrom_cases (fun k : Nat => fitsB W H Fn L X Y k PX PY (wdOf rows) rows.length) Fn with ⟨e, h⟩ | ⟨k, hk, e, h1, h2⟩
    · exact .inl ⟨e, h Nn (by omega)⟩
    · refine .inr ⟨k, by omega, e, ?_⟩
      by_cases hkn : Nn ≤ k
      · exact .inl ⟨by omega, fitsB_mono a9 x2 a11 y2 a7 (by omega) h1⟩
      · exact .inr ⟨by omega, h2 Nn (by omega) (by omega)⟩
  · unfold fadesR
    rw [if_pos hv0, Int.toNat_natCast]
    have hnd : ∀ j : Nat, noDark W H Fn L X Y PX PY rows j = false → 0 < cntL (ltr (shS W H Fn L X Y j PX PY rows)) [35] := by
      intro j hj
      simp [noDark] at hj; omega
    rcases fadeFrom_cases (noDark W H Fn L X Y PX PY rows) Fn 0 with ⟨e, h⟩ | ⟨i, _, hi, e, h1, h2⟩
    · exact .inl ⟨e, hnd Nn (h Nn (by omega) (by omega))⟩
    · refine .inr ⟨i, by omega, e, ?_⟩
      by_cases hni : Nn < i
      · exact .inl ⟨by omega, hnd Nn (h2 Nn (by omega) hni)⟩
      · by_cases he : Nn = i
        · subst he
          refine .inr (.inl ⟨rfl, ?_⟩)
          simpa [noDark] using h1
        · exact .inr (.inr (by omega))
end Go.Proofs.YtifddfchpknkbaaGreatDoor

namespace Go.Proofs.YtifddfchpknkbaaGreatDoor
open Go.RowKit

/-- The figure has this byte in this row and column. -/
def AtB (rows : List ByteArray) (i j : Nat) (z : Int) : Prop := ∃ r, rows[i]? = some r ∧ (ltr r)[j]? = some z
/-- A column's shadow has points within two bounds. -/
def OvS (ax F N P lo hi : Int) (c : Nat) : Prop := lineV ax F N (P + c) < hi ∧ lo < lineV ax F N (P + (c + 1))

theorem strip_iff {ax F N P lo hi : Int} {sz c : Nat} (hF : 0 ≤ F) : (firstS ax F N P lo sz ≤ c ∧ c < endS ax F N P lo hi sz) ↔ (c < sz ∧ OvS ax F N P lo hi c) := by
  constructor
  · rintro ⟨h1, h2⟩
    have hle := scanN_le (fun t => decide (lineV ax F N (P + t) < hi)) (sz - firstS ax F N P lo sz) (firstS ax F N P lo sz)
    have hle1 := scanN_le (fun t => decide (lineV ax F N (P + (t + 1)) ≤ lo)) sz 0
    have s1 := (scanN_spec (fun t => decide (lineV ax F N (P + (t + 1)) ≤ lo)) sz 0).2
    have s2 := (scanN_spec (fun t => decide (lineV ax F N (P + t) < hi)) (sz - firstS ax F N P lo sz) (firstS ax F N P lo sz)).1 c h1 h2
    have hsz : c < sz := by
      have : firstS ax F N P lo sz ≤ 0 + sz := hle1.2
      have h3 : endS ax F N P lo hi sz ≤ firstS ax F N P lo sz + (sz - firstS ax F N P lo sz) := hle.2
      omega
    refine ⟨hsz, by simpa using s2, ?_⟩
    have h4 := s1 (by show firstS ax F N P lo sz < 0 + sz; omega)
    have h5 : lo < lineV ax F N (P + ((firstS ax F N P lo sz : Nat) + 1)) := by
      have : decide (lineV ax F N (P + ((firstS ax F N P lo sz : Nat) + 1)) ≤ lo) = false := h4
      simpa using this
    have h6 := lineV_mono ax N (P + ((firstS ax F N P lo sz : Nat) + 1)) (P + (c + 1)) hF (by omega)
    omega
  · rintro ⟨h1, h2, h3⟩
    have hf := firstS_le_of (sz := sz) h3
    exact ⟨hf, lt_endS_of hF hf h1 h2⟩
theorem strip_le {ax F N P lo hi : Int} {sz : Nat} : firstS ax F N P lo sz ≤ endS ax F N P lo hi sz ∧ endS ax F N P lo hi sz ≤ sz := by
  have hle := scanN_le (fun t => decide (lineV ax F N (P + t) < hi)) (sz - firstS ax F N P lo sz) (firstS ax F N P lo sz)
  have hle1 := scanN_le (fun t => decide (lineV ax F N (P + (t + 1)) ≤ lo)) sz 0
  have h1 : firstS ax F N P lo sz ≤ 0 + sz := hle1.2
  have h2 : firstS ax F N P lo sz ≤ endS ax F N P lo hi sz := hle.1
  have h3 : endS ax F N P lo hi sz ≤ firstS ax F N P lo sz + (sz - firstS ax F N P lo sz) := hle.2
  omega
/-- Within a figure's edges some column's shadow lies. -/
theorem ov_of_inside {ax F N P lo hi : Int} {sz : Nat} (hF : 0 ≤ F) (hlh : lo < hi) (h : insideS ax F N P lo hi sz = true) : ∃ c, c < sz ∧ OvS ax F N P lo hi c := by
  unfold insideS at h
  simp only [Bool.and_eq_true, decide_eq_true_eq] at h
  obtain ⟨h1, h2⟩ := h
  obtain ⟨s1, s2⟩ := scanN_spec (fun t => decide (lineV ax F N (P + (t + 1)) ≤ lo)) sz 0
  have hle1 := scanN_le (fun t => decide (lineV ax F N (P + (t + 1)) ≤ lo)) sz 0
  generalize hf : scanN (fun t => decide (lineV ax F N (P + (t + 1)) ≤ lo)) sz 0 = f at *
  have hfs : f < sz := by
    refine Nat.lt_of_not_le fun hc => ?_
    have hsz : f = sz := by omega
    subst hsz
    rcases f with _ | f
    · simp at h2; omega
    · have := s1 f (Nat.zero_le _) (by omega)
      simp at this
      have e : (P : Int) + ((f + 1 : Nat) : Int) = P + ((f : Int) + 1) := by omega
      rw [e] at h2
      omega
  refine ⟨f, hfs, ?_, ?_⟩
  · rcases f with _ | f
    · simp; omega
    · have := s1 f (Nat.zero_le _) (by omega)
      simp at this
      have e : (P : Int) + ((f + 1 : Nat) : Int) = P + ((f : Int) + 1) := by omega
      rw [e]
      omega
  · have := s2 (by omega)
    simpa using this

theorem cnt35_zero (l : List Int) : cntL l [35] = 0 ↔ ∀ z ∈ l, z ≠ 35 := by
  constructor
  · intro h z hz he
    subst he
    have := cntL_pos hz
    omega
  · intro h
    refine Nat.eq_zero_of_not_pos fun hp => ?_
    exact h 35 (of_cntL_pos hp) rfl
theorem cnt35_full (l : List Int) : cntL l [35] = l.length ↔ ∀ z ∈ l, z = 35 := by
  unfold cntL
  rw [List.length_filter_eq_length_iff]
  constructor
  · intro h z hz
    have h1 := h z hz
    by_cases he : z = 35
    · exact he
    · have : (z == 35) = false := by simpa using he
      simp [idxOf, this] at h1
  · intro h z hz
    rw [h z hz]
    simp [idxOf]
theorem sumL_zero (rs : List ByteArray) (c d : Nat) : sumL rs c d = 0 ↔ ∀ r ∈ rs, ∀ z ∈ ltr (r.extract c d), z ≠ 35 := by
  induction rs with
  | nil => simp [sumL]
  | cons r rs ih =>
    have e : sumL (r :: rs) c d = cntL (ltr (r.extract c d)) [35] + sumL rs c d := by simp [sumL]
    rw [e, Nat.add_eq_zero_iff, ih, cnt35_zero]
    simp only [List.mem_cons, forall_eq_or_imp]
theorem sumL_full (rs : List ByteArray) (c d m : Nat) (h : ∀ r ∈ rs, (ltr (r.extract c d)).length = m) : sumL rs c d = m * rs.length ↔ ∀ r ∈ rs, ∀ z ∈ ltr (r.extract c d), z = 35 := by
  induction rs with
  | nil => simp [sumL]
  | cons r rs ih =>
    have e : sumL (r :: rs) c d = cntL (ltr (r.extract c d)) [35] + sumL rs c d := by simp [sumL]
    have ih' := ih (fun r hr => h r (List.mem_cons_of_mem _ hr))
    have h1 := cntL_le (ltr (r.extract c d)) [35]
    have h0 := h r List.mem_cons_self
    have h2 : sumL rs c d ≤ m * rs.length := by
      clear ih ih' e h1 h0
      induction rs with
      | nil => simp [sumL]
      | cons s rs ih2 =>
        have e : sumL (s :: rs) c d = cntL (ltr (s.extract c d)) [35] + sumL rs c d := by simp [sumL]
        have h3 := cntL_le (ltr (s.extract c d)) [35]
        have h4 := h s (by simp)
        have h5 := ih2 (fun r' hr' => h r' (by simp only [List.mem_cons] at hr' ⊢; rcases hr' with h | h; exact .inl h; exact .inr (.inr h)))
        rw [e, List.length_cons, Nat.mul_succ]
        omega
    simp only [List.mem_cons, forall_eq_or_imp]
    rw [← ih', ← cnt35_full, e, List.length_cons, Nat.mul_succ, h0]
    rw [h0] at h1
    omega
theorem mem_strip {rows : List ByteArray} {c d f e : Nat} {P : Int → Prop} :
    (∀ r ∈ (rows.drop f).take (e - f), ∀ z ∈ ltr (r.extract c d), P z) ↔ ∀ i j z, AtB rows i j z → (f ≤ i ∧ i < e) → (c ≤ j ∧ j < d) → P z := by
  constructor
  · rintro h i j z ⟨r, hr, hz⟩ ⟨i1, i2⟩ ⟨j1, j2⟩
    refine h r ?_ z ?_
    · refine List.mem_iff_getElem?.2 ⟨i - f, ?_⟩
      rw [List.getElem?_take, if_pos (by omega), List.getElem?_drop, show f + (i - f) = i from by omega]
      exact hr
    · rw [ltr_extract]
      refine List.mem_iff_getElem?.2 ⟨j - c, ?_⟩
      rw [List.getElem?_take, if_pos (by omega), List.getElem?_drop, show c + (j - c) = j from by omega]
      exact hz
  · intro h r hr z hz
    obtain ⟨q, hq⟩ := List.mem_iff_getElem?.1 hr
    rw [List.getElem?_take] at hq
    split at hq
    · rename_i hlt
      rw [List.getElem?_drop] at hq
      rw [ltr_extract] at hz
      obtain ⟨t, ht⟩ := List.mem_iff_getElem?.1 hz
      rw [List.getElem?_take] at ht
      split at ht
      · rename_i hlt2
        rw [List.getElem?_drop] at ht
        exact h (f + q) (c + t) z ⟨r, hq, ht⟩ (by omega) (by omega)
      · cases ht
    · cases hq

/-- WHAT A CELL IS: light, dark. -/
theorem cellS_light {F L X Y N PX PY : Int} {rows : List ByteArray} {wd : Nat} {k m : Nat} (hF : 0 ≤ F) (hw : ∀ r ∈ rows, r.size = wd) :
    cellS F L X Y N PX PY rows wd rows.length k m = 46 ↔ ∀ i j z, AtB rows i j z → OvS Y F N PY (lowV F N L m) (highV F N L m) i → OvS X F N PX (lowV F N L k) (highV F N L k) j → z ≠ 35 := by
  have key : cellS F L X Y N PX PY rows wd rows.length k m = 46 ↔ sumL ((rows.drop (firstS Y F N PY (lowV F N L m) rows.length)).take (endS Y F N PY (lowV F N L m) (highV F N L m) rows.length - firstS Y F N PY (lowV F N L m) rows.length)) (firstS X F N PX (lowV F N L k) wd) (endS X F N PX (lowV F N L k) (highV F N L k) wd) = 0 := by
    unfold cellS toneS
    split
    · simp_all
    · split <;> simp_all
  rw [key, sumL_zero, mem_strip]
  constructor
  · intro h i j z ha hi hj
    have ha' := ha
    obtain ⟨r, hr, hz⟩ := ha'
    have hil : i < rows.length := (List.getElem?_eq_some_iff.1 hr).1
    have hjl : j < wd := by
      have h1 := (List.getElem?_eq_some_iff.1 hz).1
      rw [ltr_len, hw r (List.mem_of_getElem? hr)] at h1
      exact h1
    exact h i j z ha ((strip_iff hF).2 ⟨hil, hi⟩) ((strip_iff hF).2 ⟨hjl, hj⟩)
  · intro h i j z ha hi hj
    exact h i j z ha ((strip_iff hF).1 hi).2 ((strip_iff hF).1 hj).2

theorem cellS_dark {F L X Y N PX PY : Int} {rows : List ByteArray} {wd : Nat} {k m : Nat} (hF : 0 ≤ F) (hNF : N < F) (hN : 0 ≤ N) (hL : 0 ≤ L) (hw : ∀ r ∈ rows, r.size = wd) :
    cellS F L X Y N PX PY rows wd rows.length k m = 35 ↔ insideS X F N PX (lowV F N L k) (highV F N L k) wd = true ∧ insideS Y F N PY (lowV F N L m) (highV F N L m) rows.length = true ∧ ∀ i j z, AtB rows i j z → OvS Y F N PY (lowV F N L m) (highV F N L m) i → OvS X F N PX (lowV F N L k) (highV F N L k) j → z = 35 := by
  have hLN : 0 ≤ L * N := Int.mul_nonneg hL hN
  have hlh : ∀ q : Int, lowV F N L q < highV F N L q := by
    intro q; unfold lowV highV; rw [Int.add_mul]; omega
  obtain ⟨c1, c2⟩ := strip_le (ax := X) (F := F) (N := N) (P := PX) (lo := lowV F N L k) (hi := highV F N L k) (sz := wd)
  obtain ⟨r1, r2⟩ := strip_le (ax := Y) (F := F) (N := N) (P := PY) (lo := lowV F N L m) (hi := highV F N L m) (sz := rows.length)
  have hiff := fun i => strip_iff (ax := Y) (F := F) (N := N) (P := PY) (lo := lowV F N L m) (hi := highV F N L m) (sz := rows.length) (c := i) hF
  have hjff := fun j => strip_iff (ax := X) (F := F) (N := N) (P := PX) (lo := lowV F N L k) (hi := highV F N L k) (sz := wd) (c := j) hF
  have hov1 := ov_of_inside (ax := X) (F := F) (N := N) (P := PX) (lo := lowV F N L k) (hi := highV F N L k) (sz := wd) hF (hlh k)
  have hov2 := ov_of_inside (ax := Y) (F := F) (N := N) (P := PY) (lo := lowV F N L m) (hi := highV F N L m) (sz := rows.length) hF (hlh m)
  unfold cellS toneS
  generalize firstS X F N PX (lowV F N L k) wd = c at *
  generalize endS X F N PX (lowV F N L k) (highV F N L k) wd = d at *
  generalize firstS Y F N PY (lowV F N L m) rows.length = f at *
  generalize endS Y F N PY (lowV F N L m) (highV F N L m) rows.length = e at *
  have hlen : ∀ r ∈ (rows.drop f).take (e - f), (ltr (r.extract c d)).length = d - c := by
    intro r hr
    have hmem : r ∈ rows := List.mem_of_mem_drop (List.mem_of_mem_take hr)
    rw [ltr_len, ByteArray.size_extract, hw r hmem]; omega
  have hrl : ((rows.drop f).take (e - f)).length = e - f := by rw [List.length_take, List.length_drop]; omega
  have hfull := sumL_full ((rows.drop f).take (e - f)) c d (d - c) hlen
  rw [hrl] at hfull
  have hall : (∀ r ∈ (rows.drop f).take (e - f), ∀ z ∈ ltr (r.extract c d), z = 35) ↔ ∀ i j z, AtB rows i j z → OvS Y F N PY (lowV F N L m) (highV F N L m) i → OvS X F N PX (lowV F N L k) (highV F N L k) j → z = 35 := by
    rw [mem_strip]
    constructor
    · intro h i j z ha hi hj
      have ha' := ha
      obtain ⟨r, hr, hz⟩ := ha'
      have hil : i < rows.length := (List.getElem?_eq_some_iff.1 hr).1
      have hjl : j < wd := by
        have h1 := (List.getElem?_eq_some_iff.1 hz).1
        rw [ltr_len, hw r (List.mem_of_getElem? hr)] at h1
        exact h1
      exact h i j z ha ((hiff i).2 ⟨hil, hi⟩) ((hjff j).2 ⟨hjl, hj⟩)
    · intro h i j z ha hi hj
      exact h i j z ha ((hiff i).1 hi).2 ((hjff j).1 hj).2
  rw [← hall, ← hfull]
  constructor
  · intro h
    split at h
    · cases h
    · split at h
      · rename_i h2
        simp only [Bool.and_eq_true, decide_eq_true_eq] at h2
        exact ⟨h2.1.1, h2.1.2, h2.2⟩
      · cases h
  · rintro ⟨h1, h2, h3⟩
    obtain ⟨j, hj1, hj2⟩ := hov1 h1
    obtain ⟨i, hi1, hi2⟩ := hov2 h2
    have hj3 := (hjff j).2 ⟨hj1, hj2⟩
    have hi3 := (hiff i).2 ⟨hi1, hi2⟩
    have hpos : 0 < (d - c) * (e - f) := Nat.mul_pos (by omega) (by omega)
    rw [if_neg (by omega), h1, h2, if_pos (by simpa using h3)]
end Go.Proofs.YtifddfchpknkbaaGreatDoor

namespace Go.Proofs.YtifddfchpknkbaaGreatDoor
open Go.RowKit

/-- In rows and columns before this one. -/
def Bef (J I i j : Nat) : Prop := i < J ∨ (i = J ∧ j < I)
/-- What the search so far knows of the cells that get shadows: none is hide, all are. -/
structure SoFar (F L X Y N PX PY : Int) (rows : List ByteArray) (k m : Nat) (D : Bool) (J I : Nat) (dk lt : Bool) : Prop where
  lt : lt = true ↔ ∀ i j z, AtB rows i j z → Bef J I i j → OvS Y F N PY (lowV F N L m) (highV F N L m) i → OvS X F N PX (lowV F N L k) (highV F N L k) j → z ≠ 35
  dk : dk = true ↔ D = true ∧ ∀ i j z, AtB rows i j z → Bef J I i j → OvS Y F N PY (lowV F N L m) (highV F N L m) i → OvS X F N PX (lowV F N L k) (highV F N L k) j → z = 35
theorem SoFar.start {F L X Y N PX PY : Int} {rows : List ByteArray} {k m : Nat} {D : Bool} : SoFar F L X Y N PX PY rows k m D 0 0 D true :=
  ⟨⟨fun _ i j z _ hb => by rcases hb with h | ⟨_, h⟩ <;> omega, fun _ => rfl⟩, ⟨fun h => ⟨h, fun i j z _ hb => by rcases hb with h | ⟨_, h⟩ <;> omega⟩, fun h => h.1⟩⟩
theorem SoFar.row {F L X Y N PX PY : Int} {rows : List ByteArray} {k m : Nat} {D dk lt : Bool} {J I : Nat} (h : SoFar F L X Y N PX PY rows k m D J I dk lt) (hw : ∀ j z, AtB rows J j z → j < I) : SoFar F L X Y N PX PY rows k m D (J + 1) 0 dk lt := by
  have hb : ∀ i j z, AtB rows i j z → (Bef (J + 1) 0 i j ↔ Bef J I i j) := by
    intro i j z ha
    unfold Bef
    constructor
    · rintro (h1 | ⟨_, h1⟩)
      · by_cases e : i = J
        · subst e; exact .inr ⟨rfl, hw j z ha⟩
        · exact .inl (by omega)
      · omega
    · rintro (h1 | ⟨h1, _⟩) <;> exact .inl (by omega)
  refine ⟨h.lt.trans ⟨fun g i j z ha hbf => g i j z ha ((hb i j z ha).1 hbf), fun g i j z ha hbf => g i j z ha ((hb i j z ha).2 hbf)⟩, h.dk.trans ⟨fun g => ⟨g.1, fun i j z ha hbf => g.2 i j z ha ((hb i j z ha).1 hbf)⟩, fun g => ⟨g.1, fun i j z ha hbf => g.2 i j z ha ((hb i j z ha).2 hbf)⟩⟩⟩
theorem SoFar.skip {F L X Y N PX PY : Int} {rows : List ByteArray} {k m : Nat} {D dk lt : Bool} {J I : Nat} (h : SoFar F L X Y N PX PY rows k m D J I dk lt) (hno : ¬ (OvS Y F N PY (lowV F N L m) (highV F N L m) J ∧ OvS X F N PX (lowV F N L k) (highV F N L k) I)) : SoFar F L X Y N PX PY rows k m D J (I + 1) dk lt := by
  have hb : ∀ i j, OvS Y F N PY (lowV F N L m) (highV F N L m) i → OvS X F N PX (lowV F N L k) (highV F N L k) j → (Bef J (I + 1) i j ↔ Bef J I i j) := by
    intro i j o1 o2
    unfold Bef
    constructor
    · rintro (h1 | ⟨h1, h2⟩)
      · exact .inl h1
      · by_cases e : j = I
        · subst h1 e; exact absurd ⟨o1, o2⟩ hno
        · exact .inr ⟨h1, by omega⟩
    · rintro (h1 | ⟨h1, h2⟩)
      · exact .inl h1
      · exact .inr ⟨h1, by omega⟩
  exact ⟨h.lt.trans ⟨fun g i j z ha hbf o1 o2 => g i j z ha ((hb i j o1 o2).1 hbf) o1 o2, fun g i j z ha hbf o1 o2 => g i j z ha ((hb i j o1 o2).2 hbf) o1 o2⟩, h.dk.trans ⟨fun g => ⟨g.1, fun i j z ha hbf o1 o2 => g.2 i j z ha ((hb i j o1 o2).1 hbf) o1 o2⟩, fun g => ⟨g.1, fun i j z ha hbf o1 o2 => g.2 i j z ha ((hb i j o1 o2).2 hbf) o1 o2⟩⟩⟩
theorem atB_uniq {rows : List ByteArray} {i j : Nat} {z z' : Int} (h : AtB rows i j z) (h' : AtB rows i j z') : z = z' := by
  obtain ⟨r, hr, hz⟩ := h
  obtain ⟨r', hr', hz'⟩ := h'
  rw [hr] at hr'; cases hr'
  rw [hz] at hz'; exact Option.some.inj hz'
theorem bef_succ {J I i j : Nat} : Bef J (I + 1) i j ↔ Bef J I i j ∨ (i = J ∧ j = I) := by
  unfold Bef; omega
theorem SoFar.hide {F L X Y N PX PY : Int} {rows : List ByteArray} {k m : Nat} {D dk lt : Bool} {J I : Nat} (h : SoFar F L X Y N PX PY rows k m D J I dk lt) (ha : AtB rows J I 35) (o1 : OvS Y F N PY (lowV F N L m) (highV F N L m) J) (o2 : OvS X F N PX (lowV F N L k) (highV F N L k) I) : SoFar F L X Y N PX PY rows k m D J (I + 1) dk false := by
  refine ⟨⟨fun e => (by cases e), fun g => absurd rfl (g J I 35 ha (bef_succ.2 (.inr ⟨rfl, rfl⟩)) o1 o2)⟩, h.dk.trans ⟨fun g => ⟨g.1, fun i j z ha' hbf p1 p2 => ?_⟩, fun g => ⟨g.1, fun i j z ha' hbf p1 p2 => g.2 i j z ha' (bef_succ.2 (.inl hbf)) p1 p2⟩⟩⟩
  rcases bef_succ.1 hbf with hb | ⟨rfl, rfl⟩
  · exact g.2 i j z ha' hb p1 p2
  · exact atB_uniq ha' ha
theorem SoFar.pierced {F L X Y N PX PY : Int} {rows : List ByteArray} {k m : Nat} {D dk lt : Bool} {J I : Nat} {z0 : Int} (h : SoFar F L X Y N PX PY rows k m D J I dk lt) (ha : AtB rows J I z0) (hz : z0 ≠ 35) (o1 : OvS Y F N PY (lowV F N L m) (highV F N L m) J) (o2 : OvS X F N PX (lowV F N L k) (highV F N L k) I) : SoFar F L X Y N PX PY rows k m D J (I + 1) false lt := by
  refine ⟨h.lt.trans ⟨fun g i j z ha' hbf p1 p2 => ?_, fun g i j z ha' hbf p1 p2 => g i j z ha' (bef_succ.2 (.inl hbf)) p1 p2⟩, ⟨fun e => (by cases e), fun g => absurd (g.2 J I z0 ha (bef_succ.2 (.inr ⟨rfl, rfl⟩)) o1 o2) hz⟩⟩
  rcases bef_succ.1 hbf with hb | ⟨rfl, rfl⟩
  · exact g i j z ha' hb p1 p2
  · rw [atB_uniq ha' ha]; exact hz
/-- At the end the search has found the tone. -/
theorem SoFar.tone {F L X Y N PX PY : Int} {rows : List ByteArray} {k m : Nat} {dk lt : Bool} (h : SoFar F L X Y N PX PY rows k m (insideS X F N PX (lowV F N L k) (highV F N L k) (wdOf rows) && insideS Y F N PY (lowV F N L m) (highV F N L m) rows.length) rows.length 0 dk lt)
    (hF : 0 ≤ F) (hNF : N < F) (hN : 0 ≤ N) (hL : 0 ≤ L) (hw : ∀ r ∈ rows, r.size = wdOf rows) : cellS F L X Y N PX PY rows (wdOf rows) rows.length k m = if dk then 35 else if lt then 46 else 43 := by
  have hall : ∀ i j z, AtB rows i j z → Bef rows.length 0 i j := by
    rintro i j z ⟨r, hr, _⟩
    exact .inl (List.getElem?_eq_some_iff.1 hr).1
  have hd := cellS_dark (F := F) (L := L) (X := X) (Y := Y) (N := N) (PX := PX) (PY := PY) (rows := rows) (wd := wdOf rows) (k := k) (m := m) hF hNF hN hL hw
  have hl := cellS_light (F := F) (L := L) (X := X) (Y := Y) (N := N) (PX := PX) (PY := PY) (rows := rows) (wd := wdOf rows) (k := k) (m := m) hF hw
  cases dk
  · have hnd : ¬ cellS F L X Y N PX PY rows (wdOf rows) rows.length k m = 35 := by
      intro e
      obtain ⟨p1, p2, p3⟩ := hd.1 e
      have := h.dk.2 ⟨by rw [p1, p2]; rfl, fun i j z ha _ o1 o2 => p3 i j z ha o1 o2⟩
      cases this
    cases lt
    · have hnl : ¬ cellS F L X Y N PX PY rows (wdOf rows) rows.length k m = 46 := by
        intro e
        have := h.lt.2 (fun i j z ha _ o1 o2 => hl.1 e i j z ha o1 o2)
        cases this
      have h3 : cellS F L X Y N PX PY rows (wdOf rows) rows.length k m = 46 ∨ cellS F L X Y N PX PY rows (wdOf rows) rows.length k m = 35 ∨ cellS F L X Y N PX PY rows (wdOf rows) rows.length k m = 43 := toneS_3 ..
      rcases h3 with e | e | e
      · exact absurd e hnl
      · exact absurd e hnd
      · exact e
    · exact hl.2 fun i j z ha o1 o2 => h.lt.1 rfl i j z ha (hall i j z ha) o1 o2
  · obtain ⟨p1, p2⟩ := h.dk.1 rfl
    simp only [Bool.and_eq_true] at p1
    exact hd.2 ⟨p1.1, p1.2, fun i j z ha o1 o2 => p2 i j z ha (hall i j z ha) o1 o2⟩
end Go.Proofs.YtifddfchpknkbaaGreatDoor
