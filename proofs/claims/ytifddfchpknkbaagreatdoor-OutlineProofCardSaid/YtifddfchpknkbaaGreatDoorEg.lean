import Derived.Test.YtifddfchpknkbaaGreatDoorEl
set_option linter.unusedVariables false
set_option linter.unusedSimpArgs false
namespace Go.Proofs.YtifddfchpknkbaaGreatDoor
open Go.RowKit

/-! What a plan is: a part of the cells, that tells, and comes first. -/
theorem cellsF_low : ∀ (cs : List Int) (last last' m : Int), last' ≤ last → cellsF last m cs = true → cellsF last' m cs = true
  | [], _, _, _, _, _ => rfl
  | c :: cs, last, last', m, h, hc => by
    rw [cellsF, Bool.and_eq_true, inB_iff] at hc ⊢
    exact ⟨⟨by omega, hc.1.2⟩, hc.2⟩
theorem cellsF_sub {l cs : List Int} (hs : l.Sublist cs) : ∀ (last m : Int), cellsF last m cs = true → cellsF last m l = true := by
  induction hs with
  | slnil => exact fun _ _ h => h
  | cons a _ ih =>
    intro last m h
    rw [cellsF, Bool.and_eq_true, inB_iff] at h
    exact ih last m (cellsF_low _ _ _ _ (by omega) h.2)
  | cons_cons a _ ih =>
    intro last m h
    rw [cellsF, Bool.and_eq_true] at h ⊢
    exact ⟨h.1, ih _ m h.2⟩
theorem cellsF_gt : ∀ (cs : List Int) (last m : Int), cellsF last m cs = true → ∀ c ∈ cs, last < c
  | [], _, _, _, _, h => by cases h
  | a :: cs, last, m, h, c, hc => by
    rw [cellsF, Bool.and_eq_true, inB_iff] at h
    rcases List.mem_cons.1 hc with rfl | hc
    · omega
    · have := cellsF_gt cs a m h.2 c hc; omega
theorem sub_of : ∀ (cs l : List Int) (last last' m : Int), cellsF last m cs = true → cellsF last' m l = true → (∀ c ∈ l, c ∈ cs) → l.Sublist cs
  | cs, [], _, _, _, _, _, _ => List.nil_sublist cs
  | [], y :: _, _, _, _, _, _, h => absurd (h y (by simp)) (by simp)
  | x :: xs, y :: ys, last, last', m, hx, hy, h => by
    rw [cellsF, Bool.and_eq_true] at hx
    have hy2 := hy
    rw [cellsF, Bool.and_eq_true] at hy2
    have gx := cellsF_gt xs x m hx.2
    have gy := cellsF_gt ys y m hy2.2
    by_cases e : y = x
    · subst e
      refine (sub_of xs ys y y m hx.2 hy2.2 fun c hc => ?_).cons_cons y
      rcases List.mem_cons.1 (h c (List.mem_cons_of_mem _ hc)) with rfl | h1
      · exact absurd (gy c hc) (by omega)
      · exact h1
    · refine (sub_of xs (y :: ys) x last' m hx.2 hy fun c hc => ?_).cons x
      rcases List.mem_cons.1 (h c hc) with rfl | h1
      · rcases List.mem_cons.1 hc with rfl | hc
        · exact absurd rfl e
        · have h2 := gy c hc
          rcases List.mem_cons.1 (h y (by simp)) with h3 | h3
          · exact absurd h3 e
          · have := gx y h3; omega
      · exact h1
theorem refF_some (t : List Nat → Bool) (cells : List Nat) : ∀ (k lo : Nat) (now l : List Nat), refF t cells k lo now = some l → ∃ ext, l = now ++ ext ∧ ext.Sublist (cells.drop lo) ∧ ext.length = k ∧ t l = true
  | 0, lo, now, l, h => by
    rw [refF] at h
    cases ht : t now
    · rw [ht] at h; cases h
    · rw [ht] at h
      obtain rfl : now = l := by simpa using h
      exact ⟨[], by simp, List.nil_sublist _, rfl, ht⟩
  | k + 1, lo, now, l, h => by
    rw [refF] at h
    obtain ⟨n, hn, h⟩ := List.exists_of_findSome?_eq_some h
    have h1 := List.mem_filter.1 hn
    have h2 := List.mem_range.1 h1.1
    have h3 : lo ≤ n := by simpa using h1.2
    obtain ⟨ext, e, hs, hl, ht⟩ := refF_some t cells k (n + 1) _ _ h
    have hg : cells.getD n 0 = cells[n] := by rw [List.getD, List.getElem?_eq_getElem h2]; rfl
    refine ⟨cells.getD n 0 :: ext, by rw [e]; simp, ?_, by simp [hl], ht⟩
    have h4 : (cells.drop n).Sublist (cells.drop lo) := by
      have : cells.drop n = (cells.drop lo).drop (n - lo) := by rw [List.drop_drop]; congr 1; omega
      rw [this]; exact List.drop_sublist _ _
    refine List.Sublist.trans ?_ h4
    rw [List.drop_eq_getElem_cons h2, hg]
    exact hs.cons_cons _
theorem sub_head {c : Nat} {rest cells : List Nat} : ∀ {lo : Nat}, (c :: rest).Sublist (cells.drop lo) → ∃ n, lo ≤ n ∧ ∃ h : n < cells.length, cells[n] = c ∧ rest.Sublist (cells.drop (n + 1)) := by
  intro lo
  induction hk : cells.length - lo generalizing lo with
  | zero =>
    intro h
    rw [List.drop_of_length_le (by omega)] at h
    cases h
  | succ k ih =>
    intro h
    have hlt : lo < cells.length := by omega
    rw [List.drop_eq_getElem_cons hlt] at h
    cases h with
    | cons _ h =>
      obtain ⟨n, h1, h2, h3, h4⟩ := ih (by omega) h
      exact ⟨n, by omega, h2, h3, h4⟩
    | cons_cons _ h => exact ⟨lo, Nat.le_refl _, hlt, rfl, h⟩
def castL (l : List Nat) : List Int := l.map fun k : Nat => (k : Int)
theorem refF_min (t : List Nat → Bool) (cells : List Nat) (hinc : ∀ i j (h : j < cells.length) (hij : i < j), cells[i] < cells[j]) : ∀ (k lo : Nat) (now ext : List Nat), ext.Sublist (cells.drop lo) → ext.length = k → t (now ++ ext) = true → ∃ r, refF t cells k lo now = some (now ++ r) ∧ befB (castL ext) (castL r) = false
  | 0, lo, now, ext, hs, hl, ht => by
    obtain rfl : ext = [] := List.length_eq_zero_iff.1 hl
    rw [List.append_nil] at ht
    exact ⟨[], by rw [refF, ht]; simp, rfl⟩
  | k + 1, lo, now, c :: rest, hs, hl, ht => by
    obtain ⟨n, hn1, hn2, rfl, hs2⟩ := sub_head hs
    have hg : ∀ j (h : j < cells.length), cells.getD j 0 = cells[j] := fun j h => by rw [List.getD, List.getElem?_eq_getElem h]; rfl
    obtain ⟨r, hr, hb⟩ := refF_min t cells hinc k (n + 1) (now ++ [cells[n]]) rest hs2 (by simpa using hl) (by simpa using ht)
    have hrf : refF t cells (k + 1) lo now = refU t cells k lo now cells.length := rfl
    cases hq : refU t cells k lo now n with
    | none =>
      have h1 := refU_succ t cells k lo now n hn1 hq
      rw [hg n hn2, hr] at h1
      have h2 := refU_stop t cells k lo now _ (n + 1) cells.length (by omega) h1
      refine ⟨cells[n] :: r, by rw [hrf, h2]; simp, ?_⟩
      simp only [castL, List.map_cons, befB, bne_self_eq_false, Bool.false_eq_true, if_false]
      exact hb
    | some l =>
      have h2 := refU_stop t cells k lo now l n cells.length (by omega) hq
      obtain ⟨n', hn', h3⟩ := List.exists_of_findSome?_eq_some hq
      have h4 := List.mem_range.1 (List.mem_filter.1 hn').1
      have h5 : n' < cells.length := by omega
      obtain ⟨ext2, e, _⟩ := refF_some t cells k (n' + 1) _ _ h3
      rw [hg n' h5] at e
      refine ⟨cells[n'] :: ext2, by rw [hrf, h2, e]; simp, ?_⟩
      have hlt := hinc n' n hn2 h4
      have hne : (((cells[n] : Nat) : Int) != ((cells[n'] : Nat) : Int)) = true := by simp; omega
      simp only [castL, List.map_cons, befB, hne, if_true]
      exact decide_eq_false (by omega)
theorem refS_spec (t : List Nat → Bool) (cells l : List Nat) (hinc : ∀ i j (h : j < cells.length) (hij : i < j), cells[i] < cells[j]) (h : refS t cells (cells.length + 1) = some l) : l.Sublist cells ∧ t l = true ∧ ∀ o, o.Sublist cells → t o = true → l.length ≤ o.length ∧ (o.length = l.length → befB (castL o) (castL l) = false) := by
  obtain ⟨k, hk, hkl⟩ := List.exists_of_findSome?_eq_some h
  obtain ⟨ext, e, hs, hl, ht⟩ := refF_some t cells k 0 [] l hkl
  rw [List.nil_append] at e
  subst e
  rw [List.drop_zero] at hs
  have hfirst : ∀ o, o.Sublist cells → t o = true → ∃ r, refF t cells o.length 0 [] = some r ∧ befB (castL o) (castL r) = false := fun o ho hto => by
    obtain ⟨r, h1, h2⟩ := refF_min t cells hinc o.length 0 [] o (by rw [List.drop_zero]; exact ho) rfl (by simpa using hto)
    exact ⟨r, by simpa using h1, h2⟩
  refine ⟨hs, ht, fun o ho hto => ?_⟩
  obtain ⟨r, h1, h2⟩ := hfirst o ho hto
  have hmin : ∀ k', k' < k → refF t cells k' 0 [] = none := by
    intro k' hk'
    cases hq : refF t cells k' 0 [] with
    | none => rfl
    | some r' =>
      exfalso
      have hex : ∃ r2 q, q ≤ k ∧ refS t cells q = some r2 ∧ r2.length < k := by
        cases hq2 : refS t cells k' with
        | none =>
          refine ⟨r', k' + 1, by omega, by rw [refS_succ t cells k' hq2, hq], ?_⟩
          obtain ⟨e', he, _, hl', _⟩ := refF_some t cells k' 0 [] r' hq
          rw [List.nil_append] at he
          subst he; omega
        | some r2 =>
          obtain ⟨k2, hk2, h3⟩ := List.exists_of_findSome?_eq_some hq2
          have := List.mem_range.1 hk2
          obtain ⟨e', he, _, hl', _⟩ := refF_some t cells k2 0 [] r2 h3
          rw [List.nil_append] at he
          subst he
          exact ⟨r2, k', by omega, hq2, by omega⟩
      obtain ⟨r2, q, hq1, hq2, hq3⟩ := hex
      have := refS_stop t cells r2 q (cells.length + 1) (by have := List.mem_range.1 hk; omega) hq2
      rw [h] at this
      obtain rfl : l = r2 := by simpa using this
      omega
  have hle : l.length ≤ o.length := by
    rcases Nat.lt_or_ge o.length k with h3 | h3
    · rw [hmin _ h3] at h1; cases h1
    · omega
  refine ⟨hle, fun he => ?_⟩
  rw [he, hl, hkl] at h1
  obtain rfl : l = r := by simpa using h1
  exact h2
theorem telP_mono {sl : List Sh} {a b : List Nat} (hab : ∀ c ∈ a, c ∈ b) (h : telP sl a = true) : telP sl b = true := by
  unfold telP at *
  rw [telA_iff] at *
  intro i hi k hk
  rcases h i hi k hk with h | ⟨c, hc, h⟩
  · exact .inl h
  · exact .inr ⟨c, hab c hc, h⟩
/-- Cells that tell a company tell any two readings of different figures. -/
theorem telP_two {sl : List Sh} {l : List Nat} (h : telP sl l = true) {x y : Sh} (hx : x ∈ sl) (hy : y ∈ sl) (hf : x.f ≠ y.f) : ∃ c ∈ l, clB (ltAt x.s c) (ltAt y.s c) = true := by
  unfold telP at h
  rw [telA_iff] at h
  obtain ⟨i, hi, rfl⟩ := List.getElem_of_mem hx
  obtain ⟨k, hk, rfl⟩ := List.getElem_of_mem hy
  rcases Nat.lt_trichotomy i k with h1 | rfl | h1
  · rcases h k hk i h1 with h2 | ⟨c, hc, h2⟩
    · rw [fL_at hi, fL_at hk] at h2; exact absurd h2.symm hf
    · rw [zL_at hi, zL_at hk, clB_comm] at h2; exact ⟨c, hc, h2⟩
  · exact absurd rfl hf
  · rcases h i hi k h1 with h2 | ⟨c, hc, h2⟩
    · rw [fL_at hi, fL_at hk] at h2; exact absurd h2 hf
    · rw [zL_at hi, zL_at hk] at h2; exact ⟨c, hc, h2⟩
end Go.Proofs.YtifddfchpknkbaaGreatDoor
