import Derived.Test.YtifddfchpknkbaaGreatDoorAs
import Derived.Test.YtifddfchpknkbaaGreatDoorTd
import Derived.Test.YtifddfchpknkbaaGreatDoorFm
import Derived.Test.YtifddfchpknkbaaGreatDoorZ
set_option linter.unusedVariables false
set_option linter.unusedSimpArgs false
namespace Go.Proofs.YtifddfchpknkbaaGreatDoor
open Go.RowKit

/-! Cloths that agree, row by row and as strings. -/
theorem ltr_flat (rs : List ByteArray) : ltr (flatS rs) = rs.flatMap ltr := by
  simp only [ltr, flatS]
  induction rs with
  | nil => rfl
  | cons r rs ih => simp only [List.flatMap_cons, List.map_append, ih]; rfl
theorem clB_comm (a b : Int) : clB a b = clB b a := by
  unfold clB
  cases a == 35 <;> cases b == 46 <;> cases a == 46 <;> cases b == 35 <;> rfl
theorem all_swap : ∀ (xs ys : List Int), (xs.zip ys).all (fun p => !clB p.1 p.2) = (ys.zip xs).all (fun p => !clB p.1 p.2)
  | [], ys => by cases ys <;> rfl
  | _ :: _, [] => rfl
  | x :: xs, y :: ys => by
    simp only [List.zip_cons_cons, List.all_cons, all_swap xs ys, clB_comm x y]
theorem agreeB_comm (s t : ByteArray) : agreeB s t = agreeB t s := all_swap _ _
theorem agreeR_flat : ∀ (rs ss : List ByteArray), rs.length = ss.length → (∀ k (h : k < rs.length) (h2 : k < ss.length), rs[k].size = ss[k].size) → agreeR rs ss = agreeB (flatS rs) (flatS ss)
  | [], [], _, _ => rfl
  | [], _ :: _, h, _ => by simp at h
  | _ :: _, [], h, _ => by simp at h
  | r :: rs, s :: ss, h, hs => by
    have ih := agreeR_flat rs ss (by simpa using h) (fun k h1 h2 => hs (k + 1) (by simpa using h1) (by simpa using h2))
    have h0 : r.size = s.size := hs 0 (by simp) (by simp)
    unfold agreeR agreeB at ih ⊢
    rw [ltr_flat, ltr_flat] at ih ⊢
    rw [List.zip_cons_cons, List.all_cons, ih, List.flatMap_cons, List.flatMap_cons, List.zip_append (by rw [ltr_len, ltr_len, h0]), List.all_append]
    rfl
theorem ltr_rows (s : ByteArray) (W : Nat) : ∀ q, ltr (flatS (rowsOf s W q)) = (ltr s).take (q * W)
  | 0 => by simp [rowsOf, flatS, ltr]
  | q + 1 => by
    rw [ltr_flat, rowsOf_succ, List.flatMap_append, ← ltr_flat, ltr_rows s W q]
    simp only [List.flatMap_cons, List.flatMap_nil, List.append_nil]
    rw [ltr_extract, Nat.add_sub_cancel_left, Nat.add_mul, Nat.one_mul, ← List.take_add]
theorem rowsOf_sz {s : ByteArray} {W q k : Nat} (hs : s.size = W * q) (h : k < (rowsOf s W q).length) : (rowsOf s W q)[k].size = W := by
  have hk : k < q := by rwa [rowsOf_len] at h
  obtain ⟨i, hi, he⟩ := rowsOf_mem (List.getElem_mem h)
  rw [he]; exact cut_size hs hi
theorem agree_rows {s : ByteArray} {W H : Nat} {ss : List ByteArray} (hs : s.size = W * H) (hl : ss.length = H) (hz : ∀ r ∈ ss, r.size = W) : agreeR (rowsOf s W H) ss = agreeB s (flatS ss) := by
  rw [agreeR_flat _ _ (by rw [rowsOf_len, hl]) (fun k h h2 => by rw [rowsOf_sz hs h, hz _ (List.getElem_mem h2)])]
  unfold agreeB
  rw [ltr_rows, Nat.mul_comm, ← hs, List.take_of_length_le (by rw [ltr_len]; omega)]
theorem agree_rows2 {s t : ByteArray} {W H : Nat} (hs : s.size = W * H) (ht : t.size = W * H) : agreeR (rowsOf s W H) (rowsOf t W H) = agreeB s t := by
  rw [agree_rows hs (rowsOf_len _ _ _) (fun r hr => by obtain ⟨i, hi, rfl⟩ := rowsOf_mem hr; exact cut_size ht hi)]
  unfold agreeB
  rw [ltr_rows, Nat.mul_comm, ← ht, List.take_of_length_le (by rw [ltr_len]; omega)]

/-! The first pair that can be mistaken. -/
theorem range_first {α : Type} (f : Nat → Option α) : ∀ m, ((List.range m).findSome? f = none ∧ ∀ k, k < m → f k = none) ∨ ∃ k v, k < m ∧ f k = some v ∧ (List.range m).findSome? f = some v ∧ ∀ j, j < k → f j = none
  | 0 => .inl ⟨rfl, fun k h => absurd h (Nat.not_lt_zero k)⟩
  | m + 1 => by
    rw [List.range_succ, List.findSome?_append]
    rcases range_first f m with ⟨h0, hk⟩ | ⟨k, v, hk, hv, h1, h2⟩
    · rw [h0]
      cases hm : f m with
      | none => exact .inl ⟨by simp [hm], fun k h => by rcases Nat.lt_or_ge k m with h3 | h3; exact hk k h3; obtain rfl : k = m := by omega
                                                        exact hm⟩
      | some v => exact .inr ⟨m, v, by omega, hm, by simp [hm], hk⟩
    · exact .inr ⟨k, v, by omega, hv, by rw [h1]; rfl, h2⟩
theorem find_filter {α β : Type} (p : α → Bool) (g : α → Option β) : ∀ l : List α, (l.filter p).findSome? g = l.findSome? fun k => if p k then g k else none
  | [] => rfl
  | x :: l => by
    rw [List.filter_cons, List.findSome?_cons, ← find_filter p g l]
    cases hp : p x
    · simp
    · simp [List.findSome?_cons]

/-- Some shades of the two figures agree. -/
def Pair (l : List Sh) (a b : Int) : Prop := ∃ x ∈ l, ∃ y ∈ l, x.f = a ∧ y.f = b ∧ agreeB x.s y.s = true
theorem misAt_spec (l : List Sh) (a b : Nat) : (misAt l a b = some ((a : Int), (b : Int)) ∧ Pair l a b) ∨ (misAt l a b = none ∧ ¬ Pair l a b) := by
  cases h : misAt l a b with
  | none =>
    refine .inr ⟨rfl, ?_⟩
    rintro ⟨x, hx, y, hy, h1, h2, h3⟩
    unfold misAt agFirst at h
    rw [List.findSome?_eq_none_iff] at h
    have h4 := h x (List.mem_filter.2 ⟨hx, by simp [h1]⟩)
    unfold agIn at h4
    rw [List.findSome?_eq_none_iff] at h4
    have h5 := h4 y (List.mem_filter.2 ⟨hy, by simp [h2]⟩)
    rw [h3] at h5; simp at h5
  | some v =>
    left
    unfold misAt agFirst at h
    obtain ⟨x, hx, h1⟩ := List.exists_of_findSome?_eq_some h
    unfold agIn at h1
    obtain ⟨y, hy, h2⟩ := List.exists_of_findSome?_eq_some h1
    have hxm := List.mem_filter.1 hx
    have hym := List.mem_filter.1 hy
    have e1 : x.f = (a : Int) := by simpa using hxm.2
    have e2 : y.f = (b : Int) := by simpa using hym.2
    cases h3 : agreeB x.s y.s
    · rw [h3] at h2; simp at h2
    · rw [h3] at h2
      simp only [if_true, Option.some.injEq] at h2
      rw [← h2, e1, e2]
      exact ⟨rfl, x, hxm.1, y, hym.1, e1, e2, h3⟩

theorem misRow_spec (l : List Sh) (a m : Nat) : (misRow l a m = none ∧ ∀ b : Nat, a < b → b < m → ¬ Pair l a b) ∨ ∃ b : Nat, a < b ∧ b < m ∧ misRow l a m = some ((a : Int), (b : Int)) ∧ Pair l a b ∧ ∀ b' : Nat, a < b' → b' < m → Pair l a b' → b ≤ b' := by
  unfold misRow
  rw [find_filter]
  rcases range_first (fun k => if decide (a < k) then misAt l a k else none) m with ⟨h0, hk⟩ | ⟨b, v, hb, hv, h1, h2⟩
  · refine .inl ⟨h0, fun b h3 h4 hp => ?_⟩
    have h5 := hk b h4
    simp only [h3, decide_true, if_true] at h5
    rcases misAt_spec l a b with ⟨h6, _⟩ | ⟨_, h6⟩
    · rw [h6] at h5; cases h5
    · exact h6 hp
  · refine .inr ⟨b, ?_⟩
    have hab : a < b := by
      by_cases h : a < b
      · exact h
      · simp [h] at hv
    simp only [hab, decide_true, if_true] at hv
    rcases misAt_spec l a b with ⟨h6, h7⟩ | ⟨h6, _⟩
    · rw [h6] at hv
      cases hv
      refine ⟨hab, hb, h1, h7, fun b' h8 h9 hp => ?_⟩
      rcases Nat.lt_or_ge b' b with h10 | h10
      · have h11 := h2 b' h10
        simp only [h8, decide_true, if_true] at h11
        rcases misAt_spec l a b' with ⟨h12, _⟩ | ⟨_, h12⟩
        · rw [h12] at h11; cases h11
        · exact absurd hp h12
      · exact h10
    · rw [h6] at hv; cases hv

theorem misF_spec (l : List Sh) (m : Nat) : (misF l m = none ∧ ∀ a b : Nat, a < b → b < m → ¬ Pair l a b) ∨ ∃ a b : Nat, a < b ∧ b < m ∧ misF l m = some ((a : Int), (b : Int)) ∧ Pair l a b ∧ ∀ a' b' : Nat, a' < b' → b' < m → Pair l a' b' → a < a' ∨ (a = a' ∧ b ≤ b') := by
  unfold misF
  rcases range_first (fun k => misRow l k m) m with ⟨h0, hk⟩ | ⟨a, v, ha, hv, h1, h2⟩
  · refine .inl ⟨h0, fun a b h3 h4 => ?_⟩
    rcases misRow_spec l a m with ⟨_, h5⟩ | ⟨b', _, _, h5, _⟩
    · exact h5 b h3 h4
    · rw [hk a (by omega)] at h5; cases h5
  · rcases misRow_spec l a m with ⟨h3, _⟩ | ⟨b, h3, h4, h5, h6, h7⟩
    · rw [h3] at hv; cases hv
    · refine .inr ⟨a, b, h3, h4, by rw [h1, ← hv, h5], h6, fun a' b' h8 h9 hp => ?_⟩
      rcases Nat.lt_trichotomy a a' with h10 | h10 | h10
      · exact .inl h10
      · subst h10; exact .inr ⟨rfl, h7 b' h8 h9 hp⟩
      · exfalso
        have h11 := h2 a' h10
        rcases misRow_spec l a' m with ⟨_, h12⟩ | ⟨b'', _, _, h12, _⟩
        · exact h12 b' h8 h9 hp
        · rw [h12] at h11; cases h11

/-! The distances at which a figure is told. -/
theorem nearQ_iff (l : List Sh) (f t : Int) : nearQ l f t = true ↔ ∃ x ∈ l, x.f = f ∧ x.n = t ∧ ∃ y ∈ l, y.f ≠ f ∧ agreeB x.s y.s = true := by
  unfold nearQ oneQ otherQ
  simp only [List.any_eq_true, List.mem_filter, Bool.and_eq_true, beq_iff_eq, bne_iff_ne, ne_eq]
  constructor
  · rintro ⟨x, ⟨h1, h2⟩, h3, y, h4, h5, h6⟩
    exact ⟨x, h1, h2, h3, y, h4, h5, h6⟩
  · rintro ⟨x, h1, h2, h3, y, h4, h5, h6⟩
    exact ⟨x, ⟨h1, h2⟩, h3, y, h4, h5, h6⟩
theorem mem_told {l : List Sh} {f NL NH t : Int} : t ∈ toldL l f NL NH ↔ (NL ≤ t ∧ t ≤ NH) ∧ nearQ l f t = false := by
  unfold toldL
  rw [List.mem_filter, mem_spanL]
  simp
theorem told_all {l : List Sh} {f NL NH : Int} (h : ∀ t, NL ≤ t → t ≤ NH → nearQ l f t = false) : toldL l f NL NH = spanL NL NH := by
  unfold toldL
  rw [List.filter_eq_self]
  intro t ht
  obtain ⟨h1, h2⟩ := mem_spanL.1 ht
  rw [h t h1 h2]; rfl
theorem hasB_false {xs : List Int} {z : Int} (h : z ∉ xs) : hasB xs z = false := by
  unfold hasB
  rw [List.any_eq_false]
  intro x hx he
  have : x = z := by simpa using he
  subst this; exact h hx
theorem hasB_iff {xs : List Int} {z : Int} : hasB xs z = true ↔ z ∈ xs := by
  unfold hasB
  rw [List.any_eq_true]
  constructor
  · rintro ⟨x, hx, he⟩
    have : x = z := by simpa using he
    subst this; exact hx
  · exact fun h => ⟨z, h, by simp⟩

theorem pair_of_ne {l : List Sh} {m : Nat} (hl : ∀ h ∈ l, 0 ≤ h.f ∧ h.f < m) {x y : Sh} (hx : x ∈ l) (hy : y ∈ l) (hne : x.f ≠ y.f) (ha : agreeB x.s y.s = true) : ∃ a b : Nat, a < b ∧ b < m ∧ Pair l a b := by
  have h1 := hl x hx
  have h2 := hl y hy
  rcases Int.lt_or_gt_of_ne hne with h | h
  · exact ⟨x.f.toNat, y.f.toNat, by omega, by omega, x, hx, y, hy, by omega, by omega, ha⟩
  · exact ⟨y.f.toNat, x.f.toNat, by omega, by omega, y, hy, x, hx, by omega, by omega, by rw [agreeB_comm]; exact ha⟩
theorem told_none {l : List Sh} {m : Nat} {NL NH : Int} (hl : ∀ h ∈ l, 0 ≤ h.f ∧ h.f < m) (hno : ∀ a b : Nat, a < b → b < m → ¬ Pair l a b) (f : Int) : toldL l f NL NH = spanL NL NH :=
  told_all fun t _ _ => by
    cases h : nearQ l f t with
    | false => rfl
    | true =>
      obtain ⟨x, hx, h1, h2, y, hy, h3, h4⟩ := (nearQ_iff l f t).1 h
      obtain ⟨a, b, h5, h6, h7⟩ := pair_of_ne hl hx hy (by rw [h1]; exact fun e => h3 e.symm) h4
      exact absurd h7 (hno a b h5 h6)
theorem told_not {l : List Sh} {NL NH : Int} {x y : Sh} (hx : x ∈ l) (hy : y ∈ l) (hne : y.f ≠ x.f) (ha : agreeB x.s y.s = true) : hasB (toldL l x.f NL NH) x.n = false :=
  hasB_false fun h => by
    have h1 := (mem_told.1 h).2
    rw [(nearQ_iff l x.f x.n).2 ⟨x, hx, rfl, rfl, y, hy, hne, ha⟩] at h1
    cases h1
theorem mem_shL {W H F L X Y nl nh xl xh y f pn px : Int} {fs : List Fig} (h0 : 0 ≤ f) (h1 : f < fs.length) (h2 : nl ≤ pn) (h3 : pn ≤ nh) (h4 : xl ≤ px) (h5 : px ≤ xh) : shOf W H F L X Y y fs (f, pn, px) ∈ shL W H F L X Y nl nh xl xh y fs :=
  List.mem_map.2 ⟨(f, pn, px), mem_fR.2 ⟨⟨h0, h1⟩, ⟨h2, h3⟩, h4, h5⟩, rfl⟩
end Go.Proofs.YtifddfchpknkbaaGreatDoor
