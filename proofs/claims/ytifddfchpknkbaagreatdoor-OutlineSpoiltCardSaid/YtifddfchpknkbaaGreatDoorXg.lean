import Derived.Test.YtifddfchpknkbaaGreatDoorXe
import Derived.Test.YtifddfchpknkbaaGreatDoorXf
set_option linter.unusedVariables false
set_option linter.unusedSimpArgs false
namespace Go.Proofs.YtifddfchpknkbaaGreatDoor
open Go.RowKit Go.Lib

theorem set_map (M : List ByteArray) (j : Nat) (l' : ByteArray) : (M.set j l').map (·.data.toList) = (M.map (·.data.toList)).set j l'.data.toList := by rw [List.map_set]
theorem textL_jn (M : List ByteArray) (h : M ≠ []) : (jnS M ⟨#[10]⟩ ++ ⟨#[10]⟩).data.toList = textL (M.map (·.data.toList)) := by
  cases M with
  | nil => exact absurd rfl h
  | cons x r =>
    rw [ByteArray.data_append, Array.toList_append, List.map_cons, ← join_text]
    rfl
/-- A text of lines without a line feed is cut into them. -/
theorem cut_text (M : List ByteArray) (N : Nat) (hN : M.length = N + 1) (hM : ∀ l ∈ M, (10 : UInt8) ∉ l.data.toList) :
    hasSuffix (jnS M ⟨#[10]⟩ ++ ⟨#[10]⟩).data.toList [10] = true ∧ (⟨(trimSuffix (jnS M ⟨#[10]⟩ ++ ⟨#[10]⟩).data.toList [10]).toArray⟩ : ByteArray) = jnS M ⟨#[10]⟩ ∧ countB (jnS M ⟨#[10]⟩) ⟨#[10]⟩ = N ∧ splitB ⟨#[10]⟩ 0 N (jnS M ⟨#[10]⟩) = M := by
  obtain ⟨s1, s2⟩ := suf_end (jnS M ⟨#[10]⟩)
  cases M with
  | nil => simp at hN
  | cons x r =>
    have hcx := countB_join 10 x r (hM x (by simp)) (fun y hy => hM y (by simp [hy]))
    have hsx := splitB_join 10 x r (hM x (by simp)) (fun y hy => hM y (by simp [hy]))
    rw [hcx] at hsx
    have el : r.length = N := by simpa using hN
    rw [el] at hcx hsx
    exact ⟨s1, s2, hcx, hsx⟩
/-- A text of which one digit was changed is none. -/
theorem spoilt_none (L : List ByteArray) (S : Nat) (hS : sumA L 0 0 = S) (h1 : 1 ≤ L.length) (h7 : L.length ≤ 7) (hL : ∀ l ∈ L, (10 : UInt8) ∉ l.data.toList ∧ l.size ≤ 49) (i : Nat) (c d : UInt8) (hi : (textS L S).data.toList[i]? = some c)
    (hc : 48 ≤ c.toNat ∧ c.toNat ≤ 57) (hd : 48 ≤ d.toNat ∧ d.toNat ≤ 57) (hne : c ≠ d) (s : ByteArray) (hs : s.data.toList = (textS L S).data.toList.set i d) (m : Int) (w : World) (hE : Env m w) :
    Calls Tryz.prog 85 #[.string s] w fun e w' => e = NONEB ∧ Below w.heap.size w w' := by
  have hLne : L ≠ [] := fun e => by rw [e] at h1; simp at h1
  obtain ⟨g1, g2⟩ := end_word (S % 173) (by have := Nat.mod_lt S (show 0 < 173 by omega); omega)
  have et := textS_jn L S hLne
  have hTs := (text_ok L S h1 h7 hL).1
  have hssz : s.size ≤ 400 := by
    have h := congrArg List.length hs
    rw [List.length_set, size_list, size_list] at h
    omega
  obtain ⟨le, hle⟩ : ∃ le, le = lineS wEnd [dgt3 (S % 173)] := ⟨_, rfl⟩
  rw [← hle] at et g1 g2
  have hM : ∀ l ∈ L ++ [le], (10 : UInt8) ∉ l.data.toList ∧ l.size ≤ 49 := fun l hl => by
    rcases List.mem_append.1 hl with h | h
    · exact hL l h
    · obtain rfl : l = le := by simpa using h
      exact ⟨g1, by omega⟩
  have etl : (textS L S).data.toList = textL ((L ++ [le]).map (·.data.toList)) := by rw [et]; exact textL_jn _ (by simp)
  rw [etl] at hi hs
  have hc10 : c ≠ 10 := fun e => by rw [e] at hc; revert hc; decide
  have hd10 : d ≠ 10 := fun e => by rw [e] at hd; revert hd; decide
  obtain ⟨j, p, b, e1, e2, e3⟩ := set_text d _ i c hi hc10
  rw [e3] at hs
  obtain ⟨l, hl, rfl⟩ : ∃ l, (L ++ [le])[j]? = some l ∧ l.data.toList = b := by
    rw [List.getElem?_map] at e1
    exact Option.map_eq_some_iff.1 e1
  obtain ⟨l', hl'⟩ : ∃ l' : ByteArray, l'.data.toList = l.data.toList.set p d := ⟨⟨(l.data.toList.set p d).toArray⟩, rfl⟩
  rw [← hl', ← set_map] at hs
  have hlm := List.mem_of_getElem? hl
  have hp : p < l.data.toList.length := (List.getElem?_eq_some_iff.1 e2).1
  have hjl : j < L.length + 1 := by
    have := (List.getElem?_eq_some_iff.1 hl).1
    simpa using this
  have hl's : l'.size ≤ 49 := by
    rw [← size_list, hl', List.length_set, size_list]; exact (hM l hlm).2
  have hl'0 : (10 : UInt8) ∉ l'.data.toList := by
    rw [hl']
    intro h
    rcases List.mem_or_eq_of_mem_set h with h | h
    · exact (hM l hlm).1 h
    · exact hd10 h.symm
  have hM' : ∀ x ∈ (L ++ [le]).set j l', (10 : UInt8) ∉ x.data.toList ∧ x.size ≤ 49 := fun x hx => by
    rcases List.mem_or_eq_of_mem_set hx with h | h
    · exact hM x h
    · rw [h]; exact ⟨hl'0, hl's⟩
  have hlen : ((L ++ [le]).set j l').length = L.length + 1 := by simp
  have hsj : s = jnS ((L ++ [le]).set j l') ⟨#[10]⟩ ++ ⟨#[10]⟩ := by
    apply ba_list
    rw [hs, textL_jn]
    intro e
    rw [e] at hlen
    simp at hlen
  obtain ⟨t1, t2, t3, t4⟩ := cut_text _ _ hlen (fun x hx => (hM' x hx).1)
  rw [← hsj] at t1 t2
  have hpl : p < 49 := by
    have := (hM l hlm).2
    rw [size_list] at hp
    omega
  have hmod := Nat.mod_lt S (show 0 < 173 by omega)
  have key : ∃ (S' : Nat) (le' : ByteArray), ((L ++ [le]).set j l')[L.length]? = some le' ∧ sumA (((L ++ [le]).set j l').take L.length) 0 0 = S' ∧ le' ≠ lineS wEnd [dgt3 (S' % 173)] := by
    by_cases hj : j = L.length
    · subst hj
      refine ⟨S, l', ?_, ?_, ?_⟩
      · rw [List.getElem?_set_self (by simp)]
      · rw [List.set_append_right _ _ (Nat.le_refl _), List.take_left]; exact hS
      · rw [← hle]
        have hll : l = le := by
          rw [List.getElem?_append_right (Nat.le_refl _)] at hl
          simpa using hl.symm
        intro e
        rw [hll, ← e] at hl' e2
        have h := congrArg (fun x : List UInt8 => x[p]?) hl'
        rw [e2, List.getElem?_set_self (by rw [hll, ← e] at hp; exact hp)] at h
        exact hne (Option.some.inj h)
    · have hj2 : j < L.length := by omega
      have hlL : L[j]? = some l := by rwa [List.getElem?_append_left hj2] at hl
      have hset : (L ++ [le]).set j l' = L.set j l' ++ [le] := List.set_append_left _ _ hj2
      have n1 := sumA_n L 0 0 (by omega) (fun r hr => by have := (hL r hr).2; omega) (Int.le_refl _) (by omega)
      have hL' : ∀ r ∈ L.set j l', r.size ≤ 900 := fun r hr => by
        rcases List.mem_or_eq_of_mem_set hr with h | h
        · have := (hL r h).2; omega
        · rw [h]; omega
      have n2 := sumA_n (L.set j l') 0 0 (by rw [List.length_set]; omega) hL' (Int.le_refl _) (by rw [List.length_set]; omega)
      have n3 := nA_set c d p l l' e2 hl' L 0 j hlL
      refine ⟨nA (L.set j l') 0, le, ?_, ?_, ?_⟩
      · rw [hset, List.getElem?_append_right (by simp)]; simp
      · rw [hset, show L.length = (L.set j l').length by simp, List.take_left]
        have := n2
        simpa using this
      · rw [hle]
        intro e
        have e9 := dgt3_inj (by omega) (by have := Nat.mod_lt (nA (L.set j l') 0) (show 0 < 173 by omega); omega) (lineS_one e)
        have hSn : S = nA L 0 := by
          have : sumA L 0 0 = (nA L 0 : Int) := by simpa using n1
          omega
        rw [hSn] at e9
        rw [Nat.zero_add] at n3
        exact weight_ne hpl (by omega) hc hd (fun h => hne (UInt8.toNat_inj.1 h)) n3 e9
  obtain ⟨S', le', k1, k2, k3⟩ := key
  refine Read_none s m w hE hssz fun wx hx => ?_
  refine parse_rest s ((L ++ [le]).set j l') L.length m wx hx (by omega) t1 ?_ (by rw [t2]; exact t3) (by rw [t2]; exact t4) (fun x hx => by have := (hM' x hx).2; omega) le' k1 S' k2 (.inr k3)
  have hsz := congrArg ByteArray.size hsj
  rw [size_app] at hsz
  rw [t2]
  omega
end Go.Proofs.YtifddfchpknkbaaGreatDoor
