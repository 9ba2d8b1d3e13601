import Derived.Test.YtifddfchpknkbaaGreatDoorEk
import Derived.Test.YtifddfchpknkbaaGreatDoorPm
set_option linter.unusedVariables false
set_option linter.unusedSimpArgs false
namespace Go.Proofs.YtifddfchpknkbaaGreatDoor
open Go.RowKit

/-! What tells, by bits and by lists. -/
theorem clB_comm (a b : Int) : clB a b = clB b a := by
  unfold clB
  cases (a == 35) <;> cases (b == 46) <;> cases (a == 46) <;> cases (b == 35) <;> rfl
theorem diffN_bit (s t : ByteArray) (cs : List Nat) (n : Nat) : ∀ k, (diffN s t cs k).testBit n = (decide (n < k) && clB (ltAt s (cs.getD n 0)) (ltAt t (cs.getD n 0)))
  | 0 => by simp [diffN]
  | k + 1 => by
    rw [diffN]
    have ih := diffN_bit s t cs n k
    by_cases hnk : n = k
    · subst hnk
      have h0 : (diffN s t cs n).testBit n = false := by rw [ih]; simp
      cases hc : clB (ltAt s (cs.getD n 0)) (ltAt t (cs.getD n 0))
      · simp [h0]
      · simp [Nat.testBit_or, h0, Nat.testBit_two_pow]
    · cases hc : clB (ltAt s (cs.getD k 0)) (ltAt t (cs.getD k 0))
      · simp only [Bool.false_eq_true, if_false, ih]
        congr 1
        rw [decide_eq_decide]; omega
      · simp only [if_true, Nat.testBit_or, ih, Nat.testBit_two_pow]
        rw [decide_eq_false (show ¬ k = n from fun e => hnk e.symm), Bool.or_false]
        congr 1
        rw [decide_eq_decide]; omega
theorem mem_diffRow {cs : List Nat} {cn : Nat} {a : Sh} {rest : List Sh} {d : Nat} : d ∈ diffRow cs cn a rest ↔ ∃ b ∈ rest, a.f ≠ b.f ∧ d = diffN a.s b.s cs cn := by
  simp only [diffRow, List.mem_map, List.mem_filter, bne_iff_ne]
  constructor
  · rintro ⟨b, ⟨h1, h2⟩, rfl⟩; exact ⟨b, h1, h2, rfl⟩
  · rintro ⟨b, h1, h2, rfl⟩; exact ⟨b, ⟨h1, h2⟩, rfl⟩
theorem mem_diffAll_iff {cs : List Nat} {cn : Nat} {d : Nat} : ∀ {l : List Sh}, d ∈ diffAll cs cn l ↔ ∃ k i, ∃ (hi : i < l.length) (hk : k < i), l[k].f ≠ l[i].f ∧ d = diffN l[k].s l[i].s cs cn
  | [] => by
    constructor
    · intro h; cases h
    · rintro ⟨k, i, hi, _⟩; exact absurd hi (by simp)
  | a :: rest => by
    rw [diffAll, List.mem_append, mem_diffRow, mem_diffAll_iff]
    constructor
    · rintro (⟨b, hb, h1, h2⟩ | ⟨k, i, hi, hk, h1, h2⟩)
      · obtain ⟨i, hi, rfl⟩ := List.getElem_of_mem hb
        exact ⟨0, i + 1, by simpa using hi, by omega, by simpa using h1, by simpa using h2⟩
      · exact ⟨k + 1, i + 1, by simpa using hi, by omega, by simpa using h1, by simpa using h2⟩
    · rintro ⟨k, i, hi, hk, h1, h2⟩
      obtain ⟨i, rfl⟩ : ∃ j, i = j + 1 := ⟨i - 1, by omega⟩
      rcases k with _ | k
      · exact .inl ⟨rest[i]'(by simpa using hi), List.getElem_mem _, by simpa using h1, by simpa using h2⟩
      · exact .inr ⟨k, i, by simpa using hi, by omega, by simpa using h1, by simpa using h2⟩

/-- Character of a cell in the i-th shadow. -/
def zL (sl : List Sh) (i c : Nat) : Int := ((sl[i]?).map fun h => ltAt h.s c).getD 0
def fL (sl : List Sh) (i : Nat) : Int := ((sl[i]?).map Sh.f).getD 0
theorem zL_at {sl : List Sh} {i : Nat} (h : i < sl.length) (c : Nat) : zL sl i c = ltAt sl[i].s c := by simp [zL, h]
theorem fL_at {sl : List Sh} {i : Nat} (h : i < sl.length) : fL sl i = sl[i].f := by simp [fL, h]
theorem telA_iff {fi : Nat → Int} {z : Nat → Nat → Int} {cs : List Nat} {N : Nat} : telA fi z cs N = true ↔ ∀ i, i < N → ∀ k, k < i → fi i = fi k ∨ ∃ c ∈ cs, clB (z i c) (z k c) = true := by
  simp only [telA, telI, telK, telC, List.all_eq_true, List.mem_range, Bool.or_eq_true, beq_iff_eq, List.any_eq_true]
theorem telA_congr {fi fi' : Nat → Int} {z z' : Nat → Nat → Int} {cs : List Nat} {N : Nat} (h1 : ∀ i, i < N → fi i = fi' i) (h2 : ∀ i, i < N → ∀ c ∈ cs, z i c = z' i c) : telA fi z cs N = telA fi' z' cs N := by
  rw [Bool.eq_iff_iff, telA_iff, telA_iff]
  constructor
  · intro h i hi k hk
    rcases h i hi k hk with h | ⟨c, hc, h⟩
    · exact .inl (by rw [← h1 i hi, ← h1 k (by omega)]; exact h)
    · exact .inr ⟨c, hc, by rw [← h2 i hi c hc, ← h2 k (by omega) c hc]; exact h⟩
  · intro h i hi k hk
    rcases h i hi k hk with h | ⟨c, hc, h⟩
    · exact .inl (by rw [h1 i hi, h1 k (by omega)]; exact h)
    · exact .inr ⟨c, hc, by rw [h2 i hi c hc, h2 k (by omega) c hc]; exact h⟩
theorem and_ne {d set : Nat} : (d &&& set) ≠ 0 ↔ ∃ n, d.testBit n = true ∧ set.testBit n = true := by
  constructor
  · intro h
    obtain ⟨n, hn⟩ := Nat.exists_testBit_of_ne_zero h
    rw [Nat.testBit_and, Bool.and_eq_true] at hn
    exact ⟨n, hn⟩
  · rintro ⟨n, h1, h2⟩ h
    have := congrArg (fun x => x.testBit n) h
    simp [Nat.testBit_and, h1, h2] at this
theorem tellB_iff {ds : List Nat} {set : Nat} : tellB ds set = true ↔ ∀ d ∈ ds, ∃ n, d.testBit n = true ∧ set.testBit n = true := by
  simp only [tellB, List.all_eq_true, Bool.not_eq_true', beq_eq_false_iff_ne, ne_eq]
  constructor
  · intro h d hd
    exact and_ne.1 (fun e => h d hd (by rw [e]; rfl))
  · intro h d hd e
    exact and_ne.2 (h d hd) (by omega)
/-- The bits of a set, as the list of its cells. -/
def Rel (cells : List Nat) (set : Nat) (now : List Nat) : Prop := ∀ c, c ∈ now ↔ ∃ n, n < cells.length ∧ set.testBit n = true ∧ cells.getD n 0 = c
theorem tell_rel {sl : List Sh} {cells : List Nat} {set : Nat} {now : List Nat} (h : Rel cells set now) : tellB (diffAll cells cells.length sl) set = telA (fL sl) (zL sl) now sl.length := by
  rw [Bool.eq_iff_iff, tellB_iff, telA_iff]
  constructor
  · intro H i hi k hk
    by_cases hf : fL sl i = fL sl k
    · exact .inl hf
    · right
      have hk2 : k < sl.length := by omega
      obtain ⟨n, h1, h2⟩ := H _ (mem_diffAll_iff.2 ⟨k, i, hi, hk, by rw [fL_at hi, fL_at hk2] at hf; exact fun e => hf e.symm, rfl⟩)
      rw [diffN_bit, Bool.and_eq_true, decide_eq_true_eq] at h1
      exact ⟨cells.getD n 0, (h _).2 ⟨n, h1.1, h2, rfl⟩, by rw [zL_at hi, zL_at hk2, clB_comm]; exact h1.2⟩
  · intro H d hd
    obtain ⟨k, i, hi, hk, hf, rfl⟩ := mem_diffAll_iff.1 hd
    have hk2 : k < sl.length := by omega
    rcases H i hi k hk with h1 | ⟨c, hc, h1⟩
    · rw [fL_at hi, fL_at hk2] at h1; exact absurd h1.symm hf
    · obtain ⟨n, h2, h3, rfl⟩ := (h c).1 hc
      refine ⟨n, ?_, h3⟩
      rw [diffN_bit, decide_eq_true h2, Bool.true_and, clB_comm]
      rw [zL_at hi, zL_at hk2] at h1
      exact h1
theorem Rel.nil (cells : List Nat) : Rel cells 0 [] := fun c => by simp
theorem Rel.snoc {cells : List Nat} {set : Nat} {now : List Nat} {n : Nat} (h : Rel cells set now) (hn : n < cells.length) : Rel cells (set ||| 2 ^ n) (now ++ [cells.getD n 0]) := fun c => by
  rw [List.mem_append, h c]
  constructor
  · rintro (⟨m, h1, h2, h3⟩ | h1)
    · exact ⟨m, h1, by rw [Nat.testBit_or, h2]; rfl, h3⟩
    · exact ⟨n, hn, by rw [Nat.testBit_or, Nat.testBit_two_pow, decide_eq_true rfl, Bool.or_true], (List.mem_singleton.1 h1).symm⟩
  · rintro ⟨m, h1, h2, h3⟩
    rw [Nat.testBit_or, Bool.or_eq_true, Nat.testBit_two_pow, decide_eq_true_eq] at h2
    rcases h2 with h2 | rfl
    · exact .inl ⟨m, h1, h2, h3⟩
    · exact .inr (List.mem_singleton.2 h3.symm)
theorem Rel.full {cells : List Nat} (h : cells.length ≤ 64) : Rel cells 18446744073709551615 cells := fun c => by
  constructor
  · intro hc
    obtain ⟨n, hn, rfl⟩ := List.getElem_of_mem hc
    refine ⟨n, hn, ?_, by rw [List.getD, List.getElem?_eq_getElem hn]; rfl⟩
    rw [show (18446744073709551615 : Nat) = 2 ^ 64 - 1 from rfl, Nat.testBit_two_pow_sub_one]
    exact decide_eq_true (by omega)
  · rintro ⟨n, hn, _, rfl⟩
    rw [List.getD, List.getElem?_eq_getElem hn]
    exact List.getElem_mem hn
theorem refF_far (t : List Nat → Bool) (cells : List Nat) : ∀ (k lo : Nat) (now : List Nat), 1 ≤ k → cells.length < lo + k → refF t cells k lo now = none
  | 0, _, _, h, _ => by omega
  | k + 1, lo, now, _, h => by
    rw [refF, List.findSome?_eq_none_iff]
    intro n hn
    have h1 := List.mem_filter.1 hn
    have h2 := List.mem_range.1 h1.1
    have h3 : lo ≤ n := by simpa using h1.2
    exact refF_far t cells k (n + 1) _ (by omega) (by omega)
theorem range_split (a b : Nat) : List.range (a + b) = List.range a ++ (List.range b).map (a + ·) := List.range_add
theorem findSome_congr {α β : Type} {l : List α} {f g : α → Option β} (h : ∀ x ∈ l, f x = g x) : l.findSome? f = l.findSome? g := by
  induction l with
  | nil => rfl
  | cons a l ih => rw [List.findSome?_cons, List.findSome?_cons, h a (by simp), ih (fun x hx => h x (by simp [hx]))]
theorem findSome_map {α β γ : Type} {l : List α} {f : α → Option β} {g : β → γ} : (l.findSome? f).map g = l.findSome? fun x => (f x).map g := by
  induction l with
  | nil => rfl
  | cons a l ih =>
    rw [List.findSome?_cons, List.findSome?_cons]
    cases f a with
    | none => simpa using ih
    | some b => rfl
theorem few_ref {sl : List Sh} {cells : List Nat} : ∀ (k lo set : Nat) (now : List Nat), Rel cells set now → refF (fun l => telA (fL sl) (zL sl) l sl.length) cells k lo now = (fewR (diffAll cells cells.length sl) cells k lo set).map (now ++ ·)
  | 0, lo, set, now, h => by
    rw [refF, fewR, tell_rel h]
    cases telA (fL sl) (zL sl) now sl.length <;> simp
  | k + 1, lo, set, now, h => by
    rw [refF, fewR, findSome_map]
    have e1 : cells.length + 1 - (k + 1) = cells.length - k := by omega
    rw [e1]
    have key : ∀ n, n < cells.length → refF (fun l => telA (fL sl) (zL sl) l sl.length) cells k (n + 1) (now ++ [cells.getD n 0]) = ((fewR (diffAll cells cells.length sl) cells k (n + 1) (set ||| 2 ^ n)).map fun ext => cells.getD n 0 :: ext).map (now ++ ·) := fun n hn => by
      rw [few_ref k (n + 1) _ _ (h.snoc hn), Option.map_map]
      congr 1
      funext l
      simp
    have hsplit : List.range cells.length = List.range (cells.length - k) ++ ((List.range (cells.length - (cells.length - k))).map ((cells.length - k) + ·)) := by
      rw [← range_split]; congr 1; omega
    rw [hsplit, List.filter_append, List.findSome?_append]
    have hz : ((List.map ((cells.length - k) + ·) (List.range (cells.length - (cells.length - k)))).filter fun n => decide (lo ≤ n)).findSome? (fun n => refF (fun l => telA (fL sl) (zL sl) l sl.length) cells k (n + 1) (now ++ [cells.getD n 0])) = none := by
      rw [List.findSome?_eq_none_iff]
      intro n hn
      obtain ⟨j, hj, rfl⟩ := List.mem_map.1 (List.mem_filter.1 hn).1
      have := List.mem_range.1 hj
      exact refF_far _ _ _ _ _ (by omega) (by omega)
    rw [hz, Option.or_none]
    refine findSome_congr fun n hn => ?_
    have := List.mem_range.1 (List.mem_filter.1 hn).1
    exact key n (by omega)
/-- The reference's plan. -/
def refS (t : List Nat → Bool) (cells : List Nat) (m : Nat) : Option (List Nat) := (List.range m).findSome? fun k => refF t cells k 0 []
theorem refS_succ (t : List Nat → Bool) (cells : List Nat) (q : Nat) (h : refS t cells q = none) : refS t cells (q + 1) = refF t cells q 0 [] := by
  unfold refS at *
  rw [List.range_succ, List.findSome?_append, h]; simp
theorem refS_stop (t : List Nat → Bool) (cells : List Nat) (r : List Nat) : ∀ (q m : Nat), q ≤ m → refS t cells q = some r → refS t cells m = some r := by
  intro q m hqm h
  induction m with
  | zero => obtain rfl : q = 0 := by omega
            exact h
  | succ m ih =>
    rcases Nat.lt_or_ge m q with h1 | h1
    · obtain rfl : q = m + 1 := by omega
      exact h
    · have h2 := ih h1
      unfold refS at h2 ⊢
      rw [List.range_succ, List.findSome?_append, h2]; rfl
theorem fewS_ref {sl : List Sh} {cells : List Nat} (m : Nat) : refS (fun l => telA (fL sl) (zL sl) l sl.length) cells m = fewS (diffAll cells cells.length sl) cells m := by
  unfold refS fewS
  refine findSome_congr fun k _ => ?_
  rw [few_ref k 0 0 [] (Rel.nil cells)]
  cases fewR (diffAll cells cells.length sl) cells k 0 0 <;> simp
theorem fewR_all {ds cells : List Nat} (hd : ∀ d ∈ ds, d < 2 ^ cells.length) (hall : ∀ d ∈ ds, d ≠ 0) : ∀ (k lo set : Nat), lo + k = cells.length → (∀ n, n < lo → set.testBit n = true) → (fewR ds cells k lo set).isSome = true
  | 0, lo, set, hl, hs => by
    have : tellB ds set = true := tellB_iff.2 fun d hd' => by
      obtain ⟨n, hn⟩ := Nat.exists_testBit_of_ne_zero (hall d hd')
      have hlt := hd d hd'
      have hn2 : n < cells.length := by
        rcases Nat.lt_or_ge n cells.length with h | h
        · exact h
        · rw [Nat.testBit_lt_two_pow (Nat.lt_of_lt_of_le hlt (Nat.pow_le_pow_right (by omega) h))] at hn; cases hn
      exact ⟨n, hn, hs n (by omega)⟩
    rw [fewR, this]; rfl
  | k + 1, lo, set, hl, hs => by
    have e : ((List.range (cells.length + 1 - (k + 1))).filter fun n => decide (lo ≤ n)) = [lo] := by
      rw [show cells.length + 1 - (k + 1) = lo + 1 by omega, List.range_succ, List.filter_append]
      have : (List.range lo).filter (fun n => decide (lo ≤ n)) = [] := by
        rw [List.filter_eq_nil_iff]; intro o ho; have := List.mem_range.1 ho; simp; omega
      rw [this]; simp
    rw [fewR, e]
    have ih := fewR_all hd hall k (lo + 1) (set ||| 2 ^ lo) (by omega) (fun n hn => by
      rw [Nat.testBit_or, Nat.testBit_two_pow]
      rcases Nat.lt_or_ge n lo with h | h
      · rw [hs n h]; rfl
      · rw [decide_eq_true (show lo = n by omega), Bool.or_true])
    cases hq : fewR ds cells k (lo + 1) (set ||| 2 ^ lo) with
    | none => rw [hq] at ih; cases ih
    | some l => simp [hq]
theorem fewR_tells {ds cells : List Nat} : ∀ (k lo set : Nat) (l : List Nat), fewR ds cells k lo set = some l → ∃ S, tellB ds S = true
  | 0, lo, set, l, h => by
    rw [fewR] at h
    cases ht : tellB ds set
    · rw [ht] at h; cases h
    · exact ⟨set, ht⟩
  | k + 1, lo, set, l, h => by
    rw [fewR] at h
    obtain ⟨n, _, hn⟩ := List.exists_of_findSome?_eq_some h
    cases hq : fewR ds cells k (n + 1) (set ||| 2 ^ n) with
    | none => rw [hq] at hn; cases hn
    | some r => exact fewR_tells k (n + 1) _ r hq
/-- There is a plan just if all cells tell. -/
theorem fewS_some {sl : List Sh} {cells : List Nat} (h8 : cells.length ≤ 64) : (fewS (diffAll cells cells.length sl) cells (cells.length + 1)).isSome = tellB (diffAll cells cells.length sl) 18446744073709551615 := by
  rw [Bool.eq_iff_iff]
  have hlt := fun d hd => mem_diffAll cells cells.length sl d hd
  constructor
  · intro h
    obtain ⟨l, hl⟩ := Option.isSome_iff_exists.1 h
    obtain ⟨k, _, hk⟩ := List.exists_of_findSome?_eq_some hl
    obtain ⟨S, hS⟩ := fewR_tells k 0 0 l hk
    refine tellB_iff.2 fun d hd => ?_
    obtain ⟨n, h1, _⟩ := tellB_iff.1 hS d hd
    refine ⟨n, h1, ?_⟩
    have hn : n < cells.length := by
      rcases Nat.lt_or_ge n cells.length with h | h
      · exact h
      · rw [Nat.testBit_lt_two_pow (Nat.lt_of_lt_of_le (hlt d hd) (Nat.pow_le_pow_right (by omega) h))] at h1; cases h1
    rw [show (18446744073709551615 : Nat) = 2 ^ 64 - 1 from rfl, Nat.testBit_two_pow_sub_one]
    exact decide_eq_true (by omega)
  · intro h
    have hne : ∀ d ∈ diffAll cells cells.length sl, d ≠ 0 := fun d hd e => by
      obtain ⟨n, h1, _⟩ := tellB_iff.1 h d hd
      rw [e, Nat.zero_testBit] at h1; cases h1
    have hs := fewR_all (cells := cells) hlt hne cells.length 0 0 (by omega) (fun n hn => absurd hn (by omega))
    obtain ⟨l, hl⟩ := Option.isSome_iff_exists.1 hs
    cases hq : fewS (diffAll cells cells.length sl) cells (cells.length + 1) with
    | some r => rfl
    | none =>
      rw [fewS, List.findSome?_eq_none_iff] at hq
      have := hq cells.length (List.mem_range.2 (by omega))
      rw [hl] at this; cases this
end Go.Proofs.YtifddfchpknkbaaGreatDoor
