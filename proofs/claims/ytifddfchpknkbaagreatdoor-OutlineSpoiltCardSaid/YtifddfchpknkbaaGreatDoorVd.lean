import Derived.Test.YtifddfchpknkbaaGreatDoorVc
set_option linter.unusedVariables false
set_option linter.unusedSimpArgs false
namespace Go.Proofs.YtifddfchpknkbaaGreatDoor
open Go.RowKit Go.Lib

theorem w64 (n : Int) (h : -9223372036854775808 ≤ n ∧ n ≤ 9223372036854775807) : wrap64 n = n := by unfold wrap64; omega
theorem sumB_ok (i : Int) (hi0 : 0 ≤ i) (hi : i ≤ 1000) : ∀ (l : List UInt8) (p acc : Int), 0 ≤ p → p + l.length ≤ 1000 → 0 ≤ acc → acc + l.length * 300000000 ≤ 4000000000000000000 → 0 ≤ sumB i l p acc ∧ sumB i l p acc ≤ acc + l.length * 300000000
  | [], _, acc, _, _, h, _ => by simp [sumB]; exact h
  | c :: l, p, acc, hp, hl, h0, h1 => by
    rw [List.length_cons] at hl h1
    have hc : (c.toNat : Int) ≤ 255 := by have := c.toNat_lt; omega
    obtain ⟨_, m1⟩ := mulB (x := (c.toNat : Int)) (y := p + 1) (a := 255) (b := 1000) (by omega) (by omega) (by omega) (by omega)
    have m0 : 0 ≤ (c.toNat : Int) * (p + 1) := Int.mul_nonneg (by omega) (by omega)
    obtain ⟨x, hx⟩ : ∃ x, x = (c.toNat : Int) * (p + 1) := ⟨_, rfl⟩
    rw [← hx] at m0 m1
    obtain ⟨_, n1⟩ := mulB (x := x) (y := i + 1) (a := 255000) (b := 1001) (by omega) (by omega) (by omega) (by omega)
    have n0 : 0 ≤ x * (i + 1) := Int.mul_nonneg m0 (by omega)
    have e : sumB i (c :: l) p acc = sumB i l (p + 1) (acc + x * (i + 1)) := by
      rw [sumB, w64 (c.toNat : Int) (by omega), ← hx, w64 x (by omega), w64 (x * (i + 1)) (by omega), w64 (acc + x * (i + 1)) (by omega)]
    rw [e]
    obtain ⟨y, hy⟩ : ∃ y, y = x * (i + 1) := ⟨_, rfl⟩
    rw [← hy] at n0 n1 ⊢
    obtain ⟨r1, r2⟩ := sumB_ok i hi0 hi l (p + 1) (acc + y) (by omega) (by omega) (by omega) (by omega)
    rw [List.length_cons]
    exact ⟨r1, by omega⟩
theorem sumA_ok : ∀ (rs : List ByteArray) (i acc : Int), 0 ≤ i → i + rs.length ≤ 1000 → (∀ r ∈ rs, r.size ≤ 900) → 0 ≤ acc → acc + rs.length * 300000000000 ≤ 4000000000000000000 → 0 ≤ sumA rs i acc
  | [], _, acc, _, _, _, h, _ => by simpa [sumA] using h
  | r :: rs, i, acc, hi, hl, hs, h0, h1 => by
    rw [List.length_cons] at hl h1
    have hr := hs r (by simp)
    have hrl : r.data.toList.length ≤ 900 := by rw [size_list]; exact hr
    obtain ⟨b1, b2⟩ := sumB_ok i hi (by omega) r.data.toList 0 acc (by omega) (by omega) h0 (by omega)
    rw [sumA]
    exact sumA_ok rs (i + 1) _ (by omega) (by omega) (fun x hx => hs x (by simp [hx])) b1 (by omega)
/-- What was joined and ended by a line feed, in one row. -/
theorem textS_jn (L : List ByteArray) (s : Nat) (h : L ≠ []) : textS L s = jnS (L ++ [lineS wEnd [dgt3 (s % 173)]]) ⟨#[10]⟩ ++ ⟨#[10]⟩ := by
  unfold textS
  rw [jnS_snoc L _ _ h]
theorem suf_end (x : ByteArray) : hasSuffix (x ++ ⟨#[10]⟩).data.toList [10] = true ∧ (⟨(trimSuffix (x ++ ⟨#[10]⟩).data.toList [10]).toArray⟩ : ByteArray) = x := by
  have e : (x ++ ⟨#[10]⟩).data.toList = x.data.toList ++ [10] := by rw [ByteArray.data_append, Array.toList_append]
  have h1 : hasSuffix (x ++ ⟨#[10]⟩).data.toList [10] = true := by
    rw [e, hasSuffix, List.isSuffixOf_iff_suffix]
    exact List.suffix_append _ _
  refine ⟨h1, ?_⟩
  apply ba_list
  show (trimSuffix (x ++ ⟨#[10]⟩).data.toList [10]).toArray.toList = _
  rw [trimSuffix, if_pos h1, e]
  simp
theorem end_word (v : Nat) (hv : v < 1000) : (10 : UInt8) ∉ (lineS wEnd [dgt3 v]).data.toList ∧ (lineS wEnd [dgt3 v]).size ≤ 8 := by
  obtain ⟨h1, h2⟩ := word_dgt3 v hv
  refine ⟨(line_ok wEnd [dgt3 v] word_endW (fun x hx => by obtain rfl : x = dgt3 v := (by simpa using hx); exact h1) (Nat.le_refl 1) (show 1 ≤ 6 by omega) (show 3 ≤ 6 by omega) (fun x hx => by obtain rfl : x = dgt3 v := (by simpa using hx); exact h2)).2.1, ?_⟩
  exact lineS_size wEnd [dgt3 v] 3 (fun x hx => by obtain rfl : x = dgt3 v := (by simpa using hx); exact Nat.le_refl 3)
theorem text_ok (L : List ByteArray) (s : Nat) (h1 : 1 ≤ L.length) (h7 : L.length ≤ 7) (hL : ∀ l ∈ L, (10 : UInt8) ∉ l.data.toList ∧ l.size ≤ 49) :
    (textS L s).size ≤ 400 ∧ hasSuffix (textS L s).data.toList [10] = true ∧ ByteArray.size ⟨(trimSuffix (textS L s).data.toList [10]).toArray⟩ ≤ 1000 ∧ countB ⟨(trimSuffix (textS L s).data.toList [10]).toArray⟩ ⟨#[10]⟩ = L.length ∧ splitB ⟨#[10]⟩ 0 L.length ⟨(trimSuffix (textS L s).data.toList [10]).toArray⟩ = L ++ [lineS wEnd [dgt3 (s % 173)]] := by
  have hne : L ≠ [] := fun e => by rw [e] at h1; simp at h1
  obtain ⟨g1, g2⟩ := end_word (s % 173) (by have := Nat.mod_lt s (show 0 < 173 by omega); omega)
  have e := textS_jn L s hne
  obtain ⟨le, hle⟩ : ∃ le, le = lineS wEnd [dgt3 (s % 173)] := ⟨_, rfl⟩
  rw [← hle] at e g1 g2 ⊢
  have hj := jnS_size (L ++ [le]) ⟨#[10]⟩ 49 (fun x hx => by
    rcases List.mem_append.1 hx with hx | hx
    · exact (hL x hx).2
    · obtain rfl : x = le := (by simpa using hx); omega)
  have hj2 : (L ++ [le]).length * (49 + ByteArray.size ⟨#[10]⟩) ≤ 8 * 49 + 8 := by
    rw [List.length_append]
    have : ByteArray.size ⟨#[10]⟩ = 1 := rfl
    rw [this]
    have h8 : L.length + [le].length ≤ 8 := by simp; omega
    have := Nat.mul_le_mul h8 (Nat.le_refl 50)
    omega
  obtain ⟨s1, s2⟩ := suf_end (jnS (L ++ [le]) ⟨#[10]⟩)
  rw [← e] at s1 s2
  cases L with
  | nil => exact absurd rfl hne
  | cons x r =>
    have hcx := countB_join 10 x (r ++ [le]) (hL x (by simp)).1 (fun y hy => by
      rcases List.mem_append.1 hy with hy | hy
      · exact (hL y (by simp [hy])).1
      · obtain rfl : y = le := (by simpa using hy); exact g1)
    have hsx := splitB_join 10 x (r ++ [le]) (hL x (by simp)).1 (fun y hy => by
      rcases List.mem_append.1 hy with hy | hy
      · exact (hL y (by simp [hy])).1
      · obtain rfl : y = le := (by simpa using hy); exact g1)
    rw [hcx] at hsx
    rw [s2]
    have el : (r ++ [le]).length = (x :: r).length := by simp
    rw [el] at hcx hsx
    refine ⟨?_, s1, by omega, hcx, hsx⟩
    rw [e, size_app]
    have : ByteArray.size ⟨#[10]⟩ = 1 := rfl
    have hz : (jnS ((x :: r) ++ [le]) ⟨#[10]⟩).size ≤ 7 * 50 + 9 := by
      have e2 : jnS ((x :: r) ++ [le]) ⟨#[10]⟩ = jnS (x :: r) ⟨#[10]⟩ ++ ⟨#[10]⟩ ++ le := (jnS_snoc _ _ _ hne).symm
      rw [e2, size_app, size_app, this]
      have h9 := jnS_size (x :: r) ⟨#[10]⟩ 49 (fun y hy => (hL y hy).2)
      have h10 : (x :: r).length * (49 + ByteArray.size ⟨#[10]⟩) ≤ 7 * 50 := Nat.mul_le_mul h7 (Nat.le_refl 50)
      omega
    omega
/-! The reference's text is the same. -/
theorem figS_app : ∀ (l : List ByteArray) (s t : ByteArray), figS l (s ++ t) = s ++ figS l t
  | [], _, _ => rfl
  | r :: l, s, t => by
    rw [figS, figS, ← figS_app l s _]
    congr 1
    rw [ByteArray.append_assoc, ByteArray.append_assoc, ByteArray.append_assoc]
theorem figS_jn : ∀ (l : List ByteArray) (s : ByteArray), figS l s = jnS (s :: l) ⟨#[32]⟩
  | [], s => by apply ba_list; rw [jnS_list, List.map_cons, List.map_nil, join_one]; rfl
  | r :: l, s => by
    rw [figS, figS_jn l]
    apply ba_list
    rw [jnS_list, jnS_list, List.map_cons, List.map_cons, List.map_cons, join_cons, join_cons]
    rw [ByteArray.data_append, ByteArray.data_append, Array.toList_append, Array.toList_append]
    simp [joinTail]
theorem rowS_jn (D : Int → ByteArray) : ∀ (l : List Int) (s : ByteArray), rowS D l s = jnS (s :: l.map D) ⟨#[32]⟩
  | [], s => by apply ba_list; rw [jnS_list, List.map_nil, List.map_cons, List.map_nil, join_one]; rfl
  | r :: l, s => by
    rw [rowS, rowS_jn D l]
    apply ba_list
    rw [jnS_list, jnS_list, List.map_cons, List.map_cons, List.map_cons, List.map_cons, join_cons, join_cons]
    rw [ByteArray.data_append, ByteArray.data_append, Array.toList_append, Array.toList_append]
    simp [joinTail]
theorem linesS_jn : ∀ (l : List ByteArray) (s : ByteArray), l ≠ [] → linesS l s = s ++ jnS l ⟨#[10]⟩ ++ ⟨#[10]⟩
  | [], _, h => absurd rfl h
  | [x], s, _ => by
    rw [linesS, linesS]
    apply ba_list
    simp only [ByteArray.data_append, Array.toList_append, jnS_list, List.map_cons, List.map_nil, join_one]
  | x :: y :: l, s, _ => by
    rw [linesS, linesS_jn (y :: l) _ (by simp)]
    apply ba_list
    simp only [ByteArray.data_append, Array.toList_append, jnS_list, List.map_cons, join_cons]
    simp [joinTail]
def DZ (x : Int) : ByteArray := dS x.toNat
theorem bookR_lines (a0 a1 a2 a3 a4 a5 : Nat) (fs : List Fig) (h : ∀ f ∈ fs, 1 ≤ f.rows.length) : bookR DZ a0 a1 a2 a3 a4 a5 fs = linesL [a0, a1, a2, a3, a4, a5] fs := by
  unfold bookR linesL
  congr 1
  · rw [rowS_jn, lineS_jn _ _ (by simp)]
    rfl
  · refine List.map_congr_left fun f hf => ?_
    have hne : f.rows ≠ [] := fun e => by have := h f hf; rw [e] at this; simp at this
    unfold figW figL
    rw [figS_jn, lineS_jn _ _ hne]
    rfl
theorem refText (L : List ByteArray) (s : Nat) (h : L ≠ []) : linesS L ⟨#[]⟩ ++ ⟨#[101, 110, 100, 32]⟩ ++ strOfNums [48 + ((s : Int) % 173) / 100] ++ strOfNums [48 + ((s : Int) % 173) / 10 % 10] ++ strOfNums [48 + ((s : Int) % 173) % 10] ++ ⟨#[10]⟩ = textS L s := by
  have hm := Nat.mod_lt s (show 0 < 173 by omega)
  have e0 : (s : Int) % 173 = ((s % 173 : Nat) : Int) := rfl
  rw [e0]
  obtain ⟨v, hv⟩ : ∃ v, v = s % 173 := ⟨_, rfl⟩
  rw [← hv] at hm ⊢
  have e1 : ((v : Int)) / 100 = ((v / 100 : Nat) : Int) := rfl
  have e2 : ((v : Int)) / 10 % 10 = ((v / 10 % 10 : Nat) : Int) := rfl
  have e3 : ((v : Int)) % 10 = ((v % 10 : Nat) : Int) := rfl
  rw [e1, e2, e3, nums_dgt _ (by omega), nums_dgt _ (by omega), nums_dgt _ (by omega), linesS_jn L _ h]
  unfold textS
  rw [← hv]
  have e4 : lineS wEnd [dgt3 v] = ⟨#[101, 110, 100, 32]⟩ ++ ⟨#[dgt (v / 100)]⟩ ++ ⟨#[dgt (v / 10 % 10)]⟩ ++ ⟨#[dgt (v % 10)]⟩ := by
    apply ba_list
    show (wEnd ++ ⟨#[32]⟩ ++ jnS [dgt3 v] ⟨#[32]⟩).data.toList = _
    simp only [ByteArray.data_append, Array.toList_append, jnS_list, List.map_cons, List.map_nil, join_one]
    rfl
  rw [e4]
  apply ba_list
  simp only [ByteArray.data_append, Array.toList_append]
  simp
end Go.Proofs.YtifddfchpknkbaaGreatDoor
