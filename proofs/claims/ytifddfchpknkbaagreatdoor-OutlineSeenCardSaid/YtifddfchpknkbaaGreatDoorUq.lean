import Derived.Test.YtifddfchpknkbaaGreatDoorAn
import Derived.Test.YtifddfchpknkbaaGreatDoorNx
import Derived.Test.YtifddfchpknkbaaGreatDoorTm
import Derived.Test.YtifddfchpknkbaaGreatDoorTx
import Derived.Test.YtifddfchpknkbaaGreatDoorMl
set_option linter.unusedVariables false
set_option linter.unusedSimpArgs false
namespace Go.Proofs.YtifddfchpknkbaaGreatDoor
open Go.RowKit

/-! Distinct numbers of a list. -/
theorem nodup_sub_len : ∀ {l1 l2 : List Int}, l1.Nodup → (∀ x ∈ l1, x ∈ l2) → l1.length ≤ l2.length
  | [], _, _, _ => Nat.zero_le _
  | a :: l1, l2, hn, hs => by
    have ha : a ∈ l2 := hs a (by simp)
    have hn' := List.nodup_cons.1 hn
    have ih := nodup_sub_len (l1 := l1) (l2 := l2.erase a) hn'.2 (fun x hx => (List.mem_erase_of_ne (fun e => by subst e; exact hn'.1 hx)).2 (hs x (by simp [hx])))
    rw [List.length_erase_of_mem ha] at ih
    have := List.length_pos_of_mem ha
    simp only [List.length_cons]; omega
theorem fold_mem : ∀ (xs L : List Int) (z : Int), z ∈ xs.foldl (fun L x => if L.contains x then L else L ++ [x]) L ↔ z ∈ L ∨ z ∈ xs
  | [], L, z => by simp
  | x :: xs, L, z => by
    rw [List.foldl_cons, fold_mem xs]
    by_cases h : L.contains x = true
    · rw [if_pos h]
      have hx : x ∈ L := by simpa using h
      constructor
      · rintro (h1 | h1)
        · exact .inl h1
        · exact .inr (by simp [h1])
      · rintro (h1 | h1)
        · exact .inl h1
        · rcases List.mem_cons.1 h1 with rfl | h1
          · exact .inl hx
          · exact .inr h1
    · rw [if_neg h]
      simp only [List.mem_append, List.mem_cons, List.not_mem_nil, or_false, or_assoc]
theorem fold_nodup : ∀ (xs L : List Int), L.Nodup → (xs.foldl (fun L x => if L.contains x then L else L ++ [x]) L).Nodup
  | [], _, h => h
  | x :: xs, L, h => by
    rw [List.foldl_cons]
    apply fold_nodup xs
    by_cases hc : L.contains x = true
    · rw [if_pos hc]; exact h
    · rw [if_neg hc]
      have hx : x ∉ L := by simpa using hc
      rw [List.nodup_append]
      refine ⟨h, by simp, ?_⟩
      intro a ha b hb e
      have : b = x := by simpa using hb
      subst this; subst e; exact hx ha
theorem mem_uniq {xs : List Int} {z : Int} : z ∈ uniq xs ↔ z ∈ xs := by
  unfold uniq; rw [fold_mem]; simp
theorem nodup_uniq (xs : List Int) : (uniq xs).Nodup := fold_nodup xs [] List.nodup_nil
theorem uniq_le {xs ys : List Int} (h : ∀ x ∈ xs, x ∈ ys) : (uniq xs).length ≤ (uniq ys).length :=
  nodup_sub_len (nodup_uniq xs) (fun x hx => mem_uniq.2 (h x (mem_uniq.1 hx)))
theorem uniq_zero {xs : List Int} : (uniq xs).length = 0 ↔ xs = [] := by
  constructor
  · intro h
    cases xs with
    | nil => rfl
    | cons x xs =>
      have := List.length_pos_of_mem (mem_uniq.2 (show x ∈ x :: xs by simp))
      omega
  · rintro rfl; rfl
theorem uniq_count {xs : List Int} {m : Nat} (h : ∀ x ∈ xs, 0 ≤ x ∧ x < m) : ((List.range m).filter fun i : Nat => xs.contains (i : Int)).length = (uniq xs).length := by
  apply Nat.le_antisymm
  · have h1 : (((List.range m).filter fun i : Nat => xs.contains (i : Int)).map fun i : Nat => (i : Int)).Nodup := by
      unfold List.Nodup
      exact (List.Pairwise.filter _ List.nodup_range).map _ (fun a b hab e => hab (Int.ofNat.inj e))
    have := nodup_sub_len h1 (l2 := uniq xs) (fun x hx => by
      obtain ⟨i, hi, rfl⟩ := List.mem_map.1 hx
      exact mem_uniq.2 (by simpa using (List.mem_filter.1 hi).2))
    rwa [List.length_map] at this
  · have := nodup_sub_len (nodup_uniq xs) (l2 := ((List.range m).filter fun i : Nat => xs.contains (i : Int)).map fun i : Nat => (i : Int)) (fun x hx => by
      have hx := mem_uniq.1 hx
      have hb := h x hx
      refine List.mem_map.2 ⟨x.toNat, List.mem_filter.2 ⟨List.mem_range.2 (by omega), ?_⟩, by omega⟩
      rw [show ((x.toNat : Nat) : Int) = x by omega]; simpa using hx)
    rwa [List.length_map] at this

/-! How many figures may be seen. -/
theorem words_count (fs : List Int) (m : Nat) : ((wordsL fs m).filter fun z => z != 1).length = ((List.range m).filter fun i : Nat => fs.contains (i : Int)).length := by
  unfold wordsL
  rw [List.filter_map, List.length_map]
  congr 1
  apply List.filter_congr
  intro i _
  simp only [Function.comp, wordV]
  cases h : fs.contains (i : Int)
  · simp
  · simp only [if_true]
    split <;> rfl
theorem whoF_range {W H F L X Y nl nh xl xh y : Int} {fs : List Fig} {rs : List ByteArray} : ∀ x ∈ whoF W H F L X Y nl nh xl xh y fs rs, 0 ≤ x ∧ x < fs.length := by
  intro x hx
  obtain ⟨h, hh, rfl⟩ := List.mem_map.1 hx
  exact shL_f (List.mem_filter.1 hh).1
theorem seenI_good {W H F L X Y nl nh xl xh y : Int} {fs : List Fig} {rs : List ByteArray} (h : goodQ W H F L X Y nl nh xl xh y fs rs = true) : seenI W H F L X Y nl nh xl xh y fs rs = ((uniq (whoF W H F L X Y nl nh xl xh y fs rs)).length : Nat) := by
  unfold seenI whoE whoL
  rw [if_pos h, if_pos h]
  by_cases h0 : (uniq (whoF W H F L X Y nl nh xl xh y fs rs)).length = 0
  · rw [if_pos h0, if_pos rfl, h0]; rfl
  · rw [if_neg h0, if_neg (by decide), if_neg h0, if_pos ⟨rfl, by simp [wordsL]⟩, words_count, uniq_count whoF_range]

/-! A sight in which one cell more is seen. -/
def seenAt (rs : List ByteArray) (W k : Nat) (c : Int) : List ByteArray := rs.set (k / W) (seenRow ((rs[k / W]?).getD ByteArray.empty) c (k % W))
theorem ltr_append (a b : ByteArray) : ltr (a ++ b) = ltr a ++ ltr b := by
  simp [ltr]
theorem ltr_seenRow {row : ByteArray} {c : Int} {i : Nat} (hc : 0 ≤ c ∧ c < 256) (hi : i < row.size) : ltr (seenRow row c i) = (ltr row).set i c := by
  unfold seenRow
  rw [ltr_append, ltr_append, ltr_extract, ltr_extract, ltr_nums [c] (by intro x hx; have e : x = c := (by simpa using hx); rw [e]; exact hc)]
  have hl : i < (ltr row).length := by rw [ltr_len]; exact hi
  rw [List.set_eq_take_append_cons_drop, if_pos hl]
  have e : ((ltr row).drop (i + 1)).take (row.size - (i + 1)) = (ltr row).drop (i + 1) := List.take_of_length_le (by rw [List.length_drop, ltr_len]; omega)
  rw [e, List.drop_zero, Nat.sub_zero]
  simp
theorem flat_set : ∀ (ls : List (List Int)) (W q r : Nat) (c : Int) (l : List Int), (∀ x ∈ ls, x.length = W) → ls[q]? = some l → r < W → (ls.set q (l.set r c)).flatMap id = (ls.flatMap id).set (q * W + r) c
  | [], W, q, r, c, l, _, h, _ => by simp at h
  | x :: ls, W, 0, r, c, l, hw, h, hr => by
    have : x = l := by simpa using h
    subst this
    have hx := hw x (by simp)
    simp only [List.set_cons_zero, List.flatMap_cons, id, Nat.zero_mul, Nat.zero_add]
    rw [List.set_append_left _ _ (by omega)]
  | x :: ls, W, q + 1, r, c, l, hw, h, hr => by
    have hx := hw x (by simp)
    have ih := flat_set ls W q r c l (fun z hz => hw z (by simp [hz])) (by simpa using h) hr
    simp only [List.set_cons_succ, List.flatMap_cons, id]
    rw [ih, List.set_append_right _ _ (by rw [Nat.add_mul]; omega)]
    congr 2
    rw [hx, Nat.add_mul]; omega
theorem flat_seenAt {rs : List ByteArray} {W k : Nat} {c : Int} (hW : 0 < W) (hw : ∀ r ∈ rs, r.size = W) (hk : k < rs.length * W) (hc : 0 ≤ c ∧ c < 256) : ltr (flatS (seenAt rs W k c)) = (ltr (flatS rs)).set k c := by
  have hq : k / W < rs.length := by rw [Nat.div_lt_iff_lt_mul hW]; exact hk
  have hr : k % W < W := Nat.mod_lt _ hW
  rw [ltr_flat, ltr_flat]
  have e1 : ∀ l : List ByteArray, l.flatMap ltr = (l.map ltr).flatMap id := fun l => by rw [List.flatMap_map]; rfl
  rw [e1, e1]
  unfold seenAt
  rw [List.map_set, List.getElem?_eq_getElem hq, Option.getD_some, ltr_seenRow hc (by rw [hw _ (List.getElem_mem hq)]; exact hr)]
  rw [flat_set (rs.map ltr) W (k / W) (k % W) c (ltr rs[k / W]) (by intro x hx; obtain ⟨r, hr, rfl⟩ := List.mem_map.1 hx; rw [ltr_len]; exact hw r hr) (by simp [hq]) hr]
  congr 1
  rw [Nat.mul_comm]; exact Nat.div_add_mod k W
theorem all_set : ∀ (xs ys : List Int) (k : Nat) (c y0 x0 : Int), xs[k]? = some x0 → ys[k]? = some y0 → clB x0 y0 = false → (xs.zip (ys.set k c)).all (fun p => !clB p.1 p.2) = ((xs.zip ys).all (fun p => !clB p.1 p.2) && !clB x0 c)
  | [], _, k, c, y0, x0, h, _, _ => by simp at h
  | _ :: _, [], k, c, y0, x0, _, h, _ => by simp at h
  | x :: xs, y :: ys, 0, c, y0, x0, h1, h2, h3 => by
    have e1 : x = x0 := by simpa using h1
    have e2 : y = y0 := by simpa using h2
    subst e1 e2
    simp only [List.set_cons_zero, List.zip_cons_cons, List.all_cons, h3]
    cases clB x c <;> simp
  | x :: xs, y :: ys, k + 1, c, y0, x0, h1, h2, h3 => by
    have ih := all_set xs ys k c y0 x0 (by simpa using h1) (by simpa using h2) h3
    simp only [List.set_cons_succ, List.zip_cons_cons, List.all_cons, ih, Bool.and_assoc]
theorem clB_63 (x : Int) : clB x 63 = false := by unfold clB; simp
theorem agree_seenAt {s : ByteArray} {rs : List ByteArray} {W k : Nat} {c : Int} (hW : 0 < W) (hw : ∀ r ∈ rs, r.size = W) (hk : k < rs.length * W) (hc : 0 ≤ c ∧ c < 256) (hs : s.size = rs.length * W) (hu : (ltr (flatS rs))[k]? = some 63) : agreeB s (flatS (seenAt rs W k c)) = (agreeB s (flatS rs) && !clB (chr s k) c) := by
  unfold agreeB
  rw [flat_seenAt hW hw hk hc]
  have hk2 : k < (ltr s).length := by rw [ltr_len, hs]; exact hk
  rw [all_set (ltr s) (ltr (flatS rs)) k c 63 (ltr s)[k] (by simp [hk2]) hu (clB_63 _)]
  congr 2
  unfold chr; simp [hk2]
theorem seenAt_sight {W H : Nat} {rs : List ByteArray} {k : Nat} {c : Int} (hW : 0 < W) (h : sightB W H rs = true) (hk : k < rs.length * W) (hc : c = 35 ∨ c = 46) : sightB W H (seenAt rs W k c) = true := by
  have hq : k / W < rs.length := by rw [Nat.div_lt_iff_lt_mul hW]; exact hk
  have hr : k % W < W := Nat.mod_lt _ hW
  simp only [sightB, Bool.and_eq_true, decide_eq_true_eq, List.all_eq_true] at h ⊢
  obtain ⟨h1, h2⟩ := h
  refine ⟨by simp [seenAt, h1], fun r hrm => ?_⟩
  unfold seenAt at hrm
  rcases List.mem_or_eq_of_mem_set hrm with hm | rfl
  · exact h2 r hm
  · have h3 := h2 _ (List.getElem_mem hq)
    rw [List.getElem?_eq_getElem hq, Option.getD_some]
    simp only [sightRow, Bool.and_eq_true, decide_eq_true_eq] at h3 ⊢
    have hsz : k % W < rs[k / W].size := by omega
    have hl := ltr_seenRow (row := rs[k / W]) (c := c) (i := k % W) (by omega) hsz
    refine ⟨?_, ?_⟩
    · have := congrArg List.length hl
      rw [List.length_set, ltr_len, ltr_len] at this
      rw [this]; exact h3.1
    · unfold onlyB at h3 ⊢
      rw [hl, List.all_eq_true]
      intro b hb
      rcases List.mem_or_eq_of_mem_set hb with hm | rfl
      · exact List.all_eq_true.1 h3.2 b hm
      · rcases hc with rfl | rfl <;> decide
theorem sight_rows {W H : Nat} {rs : List ByteArray} (h : sightB W H rs = true) : rs.length = H ∧ ∀ r ∈ rs, r.size = W := by
  simp only [sightB, Bool.and_eq_true, decide_eq_true_eq, List.all_eq_true] at h
  refine ⟨by omega, fun r hr => ?_⟩
  have := h.2 r hr
  simp only [sightRow, Bool.and_eq_true, decide_eq_true_eq] at this
  omega
/-- Seen dark or light at a cell that was not seen: just the shades that do not clash there are left. -/
theorem seen_left {Wn Hn : Nat} {F L X Y nl nh xl xh y : Int} {fs : List Fig} {rs : List ByteArray} {k : Nat} {c : Int} (hg : goodQ Wn Hn F L X Y nl nh xl xh y fs rs = true) (hk : k < Wn * Hn) (hu : (ltr (flatS rs))[k]? = some 63) (hc : c = 35 ∨ c = 46) :
    goodQ Wn Hn F L X Y nl nh xl xh y fs (seenAt rs Wn k c) = true ∧ seenI Wn Hn F L X Y nl nh xl xh y fs (seenAt rs Wn k c) = (leftN (agL Wn Hn F L X Y nl nh xl xh y fs rs) k c : Nat) := by
  have hg0 := hg
  simp only [goodQ, Bool.and_eq_true] at hg
  obtain ⟨ha, hs⟩ := hg
  obtain ⟨hl, hw⟩ := sight_rows hs
  have hd := ask_dims ha
  have hW : 0 < Wn := by omega
  have hk2 : k < rs.length * Wn := by rw [hl, Nat.mul_comm]; exact hk
  have hgood : goodQ Wn Hn F L X Y nl nh xl xh y fs (seenAt rs Wn k c) = true := by
    simp only [goodQ, Bool.and_eq_true]
    exact ⟨ha, seenAt_sight hW hs hk2 hc⟩
  refine ⟨hgood, ?_⟩
  rw [seenI_good hgood]
  unfold leftN leftF whoF agL
  rw [List.filter_filter]
  congr 4
  apply List.filter_congr
  intro h hh
  have hsz := shL_size hh
  rw [Int.toNat_natCast, Int.toNat_natCast] at hsz
  rw [agree_seenAt hW hw hk2 (by omega) (by rw [hsz, hl, Nat.mul_comm]) hu, Bool.and_comm]

/-! The best one of some cells. -/
theorem bestP_go (cost : Int → Int) : ∀ (cs : List Int) (p : Int × Int), p.2 = cost p.1 → (∀ c ∈ cs, p.1 < c) → cs.Pairwise (· < ·) →
    (cs.foldl (fun p c => if cost c < p.2 then (c, cost c) else p) p).2 = cost (cs.foldl (fun p c => if cost c < p.2 then (c, cost c) else p) p).1 ∧ (cs.foldl (fun p c => if cost c < p.2 then (c, cost c) else p) p).1 ∈ p.1 :: cs ∧
    ∀ c ∈ p.1 :: cs, (cs.foldl (fun p c => if cost c < p.2 then (c, cost c) else p) p).2 ≤ cost c ∧ (cost c = (cs.foldl (fun p c => if cost c < p.2 then (c, cost c) else p) p).2 → (cs.foldl (fun p c => if cost c < p.2 then (c, cost c) else p) p).1 ≤ c)
  | [], p, hp, _, _ => ⟨hp, by simp, fun c hc => by obtain rfl : c = p.1 := by simpa using hc
                                                    exact ⟨by simp [hp], fun _ => by simp⟩⟩
  | d :: cs, p, hp, hlt, hs => by
    have hs' := List.pairwise_cons.1 hs
    have hpd := hlt d (by simp)
    simp only [List.foldl_cons]
    by_cases h : cost d < p.2
    · simp only [if_pos h]
      obtain ⟨h1, h2, h3⟩ := bestP_go cost cs (d, cost d) rfl hs'.1 hs'.2
      refine ⟨h1, List.mem_cons_of_mem _ h2, fun c hc => ?_⟩
      rcases List.mem_cons.1 hc with rfl | hc
      · have h4 := (h3 d (by simp)).1
        exact ⟨by omega, fun e => by omega⟩
      · exact h3 c hc
    · simp only [if_neg h]
      obtain ⟨h1, h2, h3⟩ := bestP_go cost cs p hp (fun c hc => hlt c (by simp [hc])) hs'.2
      refine ⟨h1, ?_, fun c hc => ?_⟩
      · rcases List.mem_cons.1 h2 with h4 | h4
        · rw [h4]; simp
        · simp [h4]
      · rcases List.mem_cons.1 hc with rfl | hc
        · exact h3 _ (by simp)
        · rcases List.mem_cons.1 hc with rfl | hc
          · have h4 := h3 p.1 (by simp)
            refine ⟨by omega, fun e => ?_⟩
            have h5 := h4.2 (by omega)
            omega
          · exact h3 c (by simp [hc])
theorem bestP_spec (cost : Int → Int) (c0 : Int) (cs : List Int) (hs : (c0 :: cs).Pairwise (· < ·)) : (bestP cost c0 cs).2 = cost (bestP cost c0 cs).1 ∧ (bestP cost c0 cs).1 ∈ c0 :: cs ∧ ∀ c ∈ c0 :: cs, (bestP cost c0 cs).2 ≤ cost c ∧ (cost c = (bestP cost c0 cs).2 → (bestP cost c0 cs).1 ≤ c) :=
  bestP_go cost cs (c0, cost c0) rfl (List.pairwise_cons.1 hs).1 (List.pairwise_cons.1 hs).2
theorem unseenI_sorted (rs : List ByteArray) : (unseenI rs).Pairwise (· < ·) := by
  unfold unseenI unseenL
  exact (List.Pairwise.filter _ List.pairwise_lt_range).map _ (fun a b h => by omega)
theorem mem_unseenI {rs : List ByteArray} {z : Int} : z ∈ unseenI rs ↔ ∃ k : Nat, z = k ∧ (ltr (flatS rs))[k]? = some 63 := by
  unfold unseenI unseenL
  simp only [List.mem_map, List.mem_filter, List.mem_range, beq_iff_eq]
  constructor
  · rintro ⟨k, ⟨h1, h2⟩, rfl⟩
    have hl : k < (ltr (flatS rs)).length := by rw [ltr_len]; exact h1
    refine ⟨k, rfl, ?_⟩
    rw [List.getElem?_eq_getElem hl]
    rw [List.getD_eq_getElem?_getD, List.getElem?_eq_getElem hl] at h2
    simpa using h2
  · rintro ⟨k, rfl, h⟩
    obtain ⟨hl, he⟩ := List.getElem?_eq_some_iff.1 h
    refine ⟨k, ⟨by rwa [ltr_len] at hl, ?_⟩, rfl⟩
    rw [List.getD_eq_getElem?_getD, h]; rfl
end Go.Proofs.YtifddfchpknkbaaGreatDoor
