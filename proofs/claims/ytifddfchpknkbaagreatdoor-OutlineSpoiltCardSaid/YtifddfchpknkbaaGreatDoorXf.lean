import Derived.Test.YtifddfchpknkbaaGreatDoorVd
set_option linter.unusedVariables false
set_option linter.unusedSimpArgs false
namespace Go.Proofs.YtifddfchpknkbaaGreatDoor
open Go.RowKit Go.Lib

/-- Lines, each ended. -/
def textL (M : List (List UInt8)) : List UInt8 := M.flatMap (· ++ [10])
theorem textL_cons (x : List UInt8) (M : List (List UInt8)) : textL (x :: M) = x ++ 10 :: textL M := by simp [textL]
theorem join_text : ∀ (x : List UInt8) (r : List (List UInt8)), join (x :: r) [10] ++ [10] = textL (x :: r)
  | x, [] => by rw [join_one, textL_cons]; rfl
  | x, y :: r => by
    have e : join (x :: y :: r) [10] = x ++ 10 :: join (y :: r) [10] := by
      rw [join_cons, join_cons]; simp [joinTail]
    rw [e, textL_cons, ← join_text y r]
    simp
theorem set_text (d : UInt8) : ∀ (M : List (List UInt8)) (i : Nat) (c : UInt8), (textL M)[i]? = some c → c ≠ 10 → ∃ j p l, M[j]? = some l ∧ l[p]? = some c ∧ (textL M).set i d = textL (M.set j (l.set p d))
  | [], i, c, h, _ => by simp [textL] at h
  | x :: M, i, c, h, hc => by
    rw [textL_cons] at h ⊢
    rcases Nat.lt_trichotomy i x.length with h1 | h1 | h1
    · rw [List.getElem?_append_left h1] at h
      refine ⟨0, i, x, rfl, h, ?_⟩
      rw [List.set_append_left _ _ h1, List.set_cons_zero, textL_cons]
    · subst h1
      rw [List.getElem?_append_right (Nat.le_refl _)] at h
      simp at h
      exact absurd h.symm hc
    · obtain ⟨k, rfl⟩ : ∃ k, i = x.length + (k + 1) := ⟨i - x.length - 1, by omega⟩
      rw [List.getElem?_append_right (by omega), show x.length + (k + 1) - x.length = k + 1 by omega, List.getElem?_cons_succ] at h
      obtain ⟨j, p, l, e1, e2, e3⟩ := set_text d M k c h hc
      refine ⟨j + 1, p, l, by simpa using e1, e2, ?_⟩
      rw [List.set_append_right _ _ (by omega), show x.length + (k + 1) - x.length = k + 1 by omega, List.set_cons_succ, e3, List.set_cons_succ, textL_cons]
/-- The sums, not wrapped. -/
def nB (i : Nat) : List UInt8 → Nat → Nat
  | [], _ => 0
  | c :: l, p => c.toNat * (p + 1) * (i + 1) + nB i l (p + 1)
def nA : List ByteArray → Nat → Nat
  | [], _ => 0
  | r :: rs, i => nB i r.data.toList 0 + nA rs (i + 1)
theorem sumB_n (i : Nat) (hi : i ≤ 1000) : ∀ (l : List UInt8) (p : Nat) (acc : Int), p + l.length ≤ 1000 → 0 ≤ acc → acc + l.length * 300000000 ≤ 4000000000000000000 → sumB i l p acc = acc + nB i l p ∧ (nB i l p : Int) ≤ l.length * 300000000
  | [], _, acc, _, _, _ => by simp [sumB, nB]
  | c :: l, p, acc, hl, h0, h1 => by
    rw [List.length_cons] at hl h1
    have hc : (c.toNat : Int) ≤ 255 := by have := c.toNat_lt; omega
    obtain ⟨_, m1⟩ := mulB (x := (c.toNat : Int)) (y := (p : Int) + 1) (a := 255) (b := 1000) (by omega) (by omega) (by omega) (by omega)
    have m0 : 0 ≤ (c.toNat : Int) * ((p : Int) + 1) := Int.mul_nonneg (by omega) (by omega)
    obtain ⟨x, hx⟩ : ∃ x, x = (c.toNat : Int) * ((p : Int) + 1) := ⟨_, rfl⟩
    rw [← hx] at m0 m1
    obtain ⟨_, n1⟩ := mulB (x := x) (y := (i : Int) + 1) (a := 255000) (b := 1001) (by omega) (by omega) (by omega) (by omega)
    have n0 : 0 ≤ x * ((i : Int) + 1) := Int.mul_nonneg m0 (by omega)
    have e : sumB i (c :: l) p acc = sumB i l ((p : Int) + 1) (acc + x * ((i : Int) + 1)) := by
      rw [sumB, w64 (c.toNat : Int) (by omega), ← hx, w64 x (by omega), w64 (x * ((i : Int) + 1)) (by omega), w64 (acc + x * ((i : Int) + 1)) (by omega)]
    rw [e, List.length_cons, nB]
    have hy2 : ((c.toNat * (p + 1) * (i + 1) : Nat) : Int) = x * ((i : Int) + 1) := by rw [hx]; push_cast; rfl
    obtain ⟨y, hy⟩ : ∃ y, y = x * ((i : Int) + 1) := ⟨_, rfl⟩
    rw [← hy] at n0 n1 hy2 ⊢
    obtain ⟨r1, r2⟩ := sumB_n i hi l (p + 1) (acc + y) (by omega) (by omega) (by omega)
    rw [show ((p : Int) + 1) = ((p + 1 : Nat) : Int) by omega, r1]
    constructor <;> omega
theorem sumA_n : ∀ (rs : List ByteArray) (i : Nat) (acc : Int), i + rs.length ≤ 1000 → (∀ r ∈ rs, r.size ≤ 900) → 0 ≤ acc → acc + rs.length * 300000000000 ≤ 4000000000000000000 → sumA rs i acc = acc + nA rs i
  | [], _, acc, _, _, _, _ => by simp [sumA, nA]
  | r :: rs, i, acc, hl, hs, h0, h1 => by
    rw [List.length_cons] at hl h1
    have hr := hs r (by simp)
    have hrl : r.data.toList.length ≤ 900 := by rw [size_list]; exact hr
    obtain ⟨b1, b2⟩ := sumB_n i (by omega) r.data.toList 0 acc (by omega) h0 (by omega)
    rw [sumA, show ((i : Int) + 1) = ((i + 1 : Nat) : Int) by omega, show (0 : Int) = ((0 : Nat) : Int) from rfl, b1, sumA_n rs (i + 1) _ (by omega) (fun x hx => hs x (by simp [hx])) (by omega) (by omega), nA]
    omega
theorem nB_set (i : Nat) (c d : UInt8) : ∀ (l : List UInt8) (q p : Nat), l[p]? = some c → nB i (l.set p d) q + c.toNat * (q + p + 1) * (i + 1) = nB i l q + d.toNat * (q + p + 1) * (i + 1)
  | [], q, p, h => by simp at h
  | x :: l, q, 0, h => by
    have e : x = c := by simpa using h
    subst e
    rw [List.set_cons_zero, nB, nB]
    simp only [Nat.add_zero]
    omega
  | x :: l, q, p + 1, h => by
    rw [List.set_cons_succ, nB, nB]
    have ih := nB_set i c d l (q + 1) p (by simpa using h)
    rw [show q + 1 + p + 1 = q + (p + 1) + 1 by omega] at ih
    omega
theorem nA_set (c d : UInt8) (p : Nat) (l l' : ByteArray) (hl : l.data.toList[p]? = some c) (hl' : l'.data.toList = l.data.toList.set p d) : ∀ (rs : List ByteArray) (i j : Nat), rs[j]? = some l → nA (rs.set j l') i + c.toNat * (p + 1) * (i + j + 1) = nA rs i + d.toNat * (p + 1) * (i + j + 1)
  | [], i, j, h => by simp at h
  | x :: rs, i, 0, h => by
    have e : x = l := by simpa using h
    subst e
    have := nB_set i c d x.data.toList 0 p hl
    rw [List.set_cons_zero, nA, nA, hl']
    simp only [Nat.zero_add, Nat.add_zero] at this ⊢
    omega
  | x :: rs, i, j + 1, h => by
    rw [List.set_cons_succ, nA, nA]
    have ih := nA_set c d p l l' hl hl' rs (i + 1) j (by simpa using h)
    rw [show i + 1 + j + 1 = i + (j + 1) + 1 by omega] at ih
    omega
theorem weights : ∀ p < 49, ∀ j < 7, ∀ e < 10, e ≠ 0 → (e * (p + 1) * (j + 1)) % 173 ≠ 0 := by decide +kernel
theorem weight_ne {S T c d p j : Nat} (hp : p < 49) (hj : j < 7) (hc : 48 ≤ c ∧ c ≤ 57) (hd : 48 ≤ d ∧ d ≤ 57) (hne : c ≠ d) (h : T + c * (p + 1) * (j + 1) = S + d * (p + 1) * (j + 1)) : S % 173 ≠ T % 173 := by
  intro hm
  rcases Nat.lt_or_gt_of_ne hne with h1 | h1
  · obtain ⟨e, rfl⟩ : ∃ e, d = c + e := ⟨d - c, by omega⟩
    have w := weights p hp j hj e (by omega) (by omega)
    have x : (c + e) * (p + 1) * (j + 1) = c * (p + 1) * (j + 1) + e * (p + 1) * (j + 1) := by rw [Nat.add_mul, Nat.add_mul]
    rw [x] at h
    generalize e * (p + 1) * (j + 1) = z at *
    omega
  · obtain ⟨e, rfl⟩ : ∃ e, c = d + e := ⟨c - d, by omega⟩
    have w := weights p hp j hj e (by omega) (by omega)
    have x : (d + e) * (p + 1) * (j + 1) = d * (p + 1) * (j + 1) + e * (p + 1) * (j + 1) := by rw [Nat.add_mul, Nat.add_mul]
    rw [x] at h
    generalize e * (p + 1) * (j + 1) = z at *
    omega
theorem dgt_inj {a b : Nat} (ha : a < 10) (hb : b < 10) (h : dgt a = dgt b) : a = b := by
  have := congrArg UInt8.toNat h
  unfold dgt at this
  rw [UInt8.toNat_ofNat', UInt8.toNat_ofNat'] at this
  omega
theorem dgt3_inj {a b : Nat} (ha : a < 1000) (hb : b < 1000) (h : dgt3 a = dgt3 b) : a = b := by
  unfold dgt3 at h
  have e := congrArg (fun x : ByteArray => x.data.toList) h
  simp only [List.cons.injEq, and_true] at e
  obtain ⟨e1, e2, e3⟩ := e
  have h1 := dgt_inj (by omega) (by omega) e1
  have h2 := dgt_inj (by omega) (by omega) e2
  have h3 := dgt_inj (by omega) (by omega) e3
  omega
theorem lineS_one {wd x y : ByteArray} (h : lineS wd [x] = lineS wd [y]) : x = y := by
  apply ba_list
  have e := congrArg (fun x : ByteArray => x.data.toList) h
  simp only [lineS, ByteArray.data_append, Array.toList_append] at e
  have e2 := List.append_cancel_left e
  simpa [jnS, join_one] using e2
end Go.Proofs.YtifddfchpknkbaaGreatDoor
