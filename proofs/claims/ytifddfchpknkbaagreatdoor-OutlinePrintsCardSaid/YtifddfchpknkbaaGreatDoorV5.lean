import Derived.Test.YtifddfchpknkbaaGreatDoorV2
import Derived.Lib.SplitLaws
set_option linter.unusedVariables false
set_option linter.unusedSimpArgs false
namespace Go.Proofs.YtifddfchpknkbaaGreatDoor
open Go.RowKit Go.Lib

/-! Texts cut at a byte, in plain words. -/
def putHead (b : UInt8) : List (List UInt8) → List (List UInt8)
  | [] => [[b]]
  | x :: xs => (b :: x) :: xs
def cutL (c : UInt8) : List UInt8 → List (List UInt8)
  | [] => [[]]
  | b :: l => if b = c then [] :: cutL c l else putHead b (cutL c l)
theorem cutL_ne (c : UInt8) : ∀ l, cutL c l ≠ []
  | [] => by simp [cutL]
  | b :: l => by
    rw [cutL]
    split
    · simp
    · cases h : cutL c l <;> simp [putHead]
theorem splitK_cut (c : UInt8) : ∀ l : List UInt8, splitK [c] 0 (count l [c]) l = cutL c l
  | [] => by rw [count_miss (by simp [index])]; rfl
  | b :: l => by
    have ih := splitK_cut c l
    by_cases h : b = c
    · subst h
      have hix : index (b :: l) [b] = ((0 : Nat) : Int) := by rw [index]; simp [List.isPrefixOf]
      rw [count_cons_eq, Nat.add_comm, splitK, hix, cutL, if_pos rfl, ← ih]
      rfl
    · rw [count_cons_ne b c l h, cutL, if_neg h, ← ih]
      have hp : ([c] : List UInt8).isPrefixOf (b :: l) = false := by simp [List.isPrefixOf, Ne.symm h]
      have hix : index (b :: l) [c] = if index l [c] == -1 then -1 else index l [c] + 1 := by rw [index, hp]; simp
      cases hk : count l [c] with
      | zero => rfl
      | succ k =>
        have hne : index l [c] ≠ -1 := fun e => by rw [count_miss e] at hk; cases hk
        have hge := index_ge l [c]
        obtain ⟨j, hj⟩ : ∃ j : Nat, index l [c] = j := ⟨(index l [c]).toNat, by omega⟩
        have hix' : index (b :: l) [c] = (j : Int) + 1 := by rw [hix, if_neg (by simpa using hne), hj]
        have n1 : ¬ (((j : Int) + 1 == -1) = true) := fun e => by have := beq_iff_eq.1 e; omega
        have n2 : ¬ (((j : Int) == -1) = true) := fun e => by have := beq_iff_eq.1 e; omega
        rw [splitK, splitK, hix', hj, if_neg n1, if_neg n2]
        have e1 : ((j : Int) + 1).toNat + 0 = j + 1 := by omega
        have e2 : ((j : Int)).toNat + 0 = j := by omega
        have e3 : ((j : Int) + 1).toNat + ([c] : List UInt8).length = j + 1 + 1 := by simp
        have e4 : ((j : Int)).toNat + ([c] : List UInt8).length = j + 1 := by simp
        rw [e1, e2, e3, e4]
        rfl
theorem splitB_cut (c : UInt8) (s : ByteArray) : (splitB ⟨#[c]⟩ 0 (countB s ⟨#[c]⟩) s).map (·.data.toList) = cutL c s.data.toList := by
  rw [splitB_data]
  exact splitK_cut c s.data.toList
theorem cutL_end (c : UInt8) : ∀ x : List UInt8, c ∉ x → cutL c x = [x]
  | [], _ => rfl
  | b :: x, h => by
    have h1 : b ≠ c := fun e => h (by simp [e])
    rw [cutL, if_neg h1, cutL_end c x (fun hx => h (by simp [hx]))]
    rfl
theorem cutL_app (c : UInt8) (t : List UInt8) : ∀ x : List UInt8, c ∉ x → cutL c (x ++ c :: t) = x :: cutL c t
  | [], _ => by rw [List.nil_append, cutL, if_pos rfl]
  | b :: x, h => by
    have h1 : b ≠ c := fun e => h (by simp [e])
    rw [List.cons_append, cutL, if_neg h1, cutL_app c t x (fun hx => h (by simp [hx]))]
    rfl
theorem cutL_join (c : UInt8) : ∀ (x : List UInt8) (r : List (List UInt8)), c ∉ x → (∀ y ∈ r, c ∉ y) → cutL c (join (x :: r) [c]) = x :: r
  | x, [], hx, _ => by rw [join_one]; exact cutL_end c x hx
  | x, y :: r, hx, hr => by
    have ih := cutL_join c y r (hr y (by simp)) (fun z hz => hr z (by simp [hz]))
    have e : join (x :: y :: r) [c] = x ++ c :: join (y :: r) [c] := by
      rw [join_cons, join_cons]
      simp [joinTail]
    rw [e, cutL_app c _ x hx, ih]
theorem ba_list {a b : ByteArray} (h : a.data.toList = b.data.toList) : a = b := by
  apply ByteArray.ext
  exact Array.ext' h
theorem map_data_inj : ∀ {a b : List ByteArray}, a.map (·.data.toList) = b.map (·.data.toList) → a = b
  | [], [], _ => rfl
  | [], _ :: _, h => by simp at h
  | _ :: _, [], h => by simp at h
  | x :: a, y :: b, h => by
    simp only [List.map_cons, List.cons.injEq] at h
    rw [ba_list h.1, map_data_inj h.2]
/-- What was joined by a byte that no part holds, is cut into its parts. -/
theorem splitB_join (c : UInt8) (x : ByteArray) (r : List ByteArray) (hx : c ∉ x.data.toList) (hr : ∀ y ∈ r, c ∉ y.data.toList) : splitB ⟨#[c]⟩ 0 (countB (jnS (x :: r) ⟨#[c]⟩) ⟨#[c]⟩) (jnS (x :: r) ⟨#[c]⟩) = x :: r := by
  apply map_data_inj
  rw [splitB_cut]
  show cutL c (join ((x :: r).map (·.data.toList)) [c]).toArray.toList = _
  rw [List.map_cons]
  exact cutL_join c _ _ hx (fun y hy => by obtain ⟨z, hz, rfl⟩ := List.mem_map.1 hy; exact hr z hz)
theorem countB_split (c : UInt8) (s : ByteArray) : (splitB ⟨#[c]⟩ 0 (countB s ⟨#[c]⟩) s).length = countB s ⟨#[c]⟩ + 1 := splitB_all ⟨#[c]⟩ (Nat.le_refl 1) 0 _ s rfl
theorem countB_join (c : UInt8) (x : ByteArray) (r : List ByteArray) (hx : c ∉ x.data.toList) (hr : ∀ y ∈ r, c ∉ y.data.toList) : countB (jnS (x :: r) ⟨#[c]⟩) ⟨#[c]⟩ = r.length := by
  have h := countB_split c (jnS (x :: r) ⟨#[c]⟩)
  rw [splitB_join c x r hx hr, List.length_cons] at h
  omega
/-- Lines behind one another, each ended. -/
theorem jnS_snoc (xs : List ByteArray) (y sep : ByteArray) (h : xs ≠ []) : jnS xs sep ++ sep ++ y = jnS (xs ++ [y]) sep := by
  apply ba_list
  cases xs with
  | nil => exact absurd rfl h
  | cons x r =>
    show (jnS (x :: r) sep ++ sep ++ y).data.toList = (join (((x :: r) ++ [y]).map (·.data.toList)) sep.data.toList).toArray.toList
    have e : (jnS (x :: r) sep).data.toList = join ((x :: r).map (·.data.toList)) sep.data.toList := rfl
    rw [ByteArray.data_append, ByteArray.data_append, Array.toList_append, Array.toList_append, e]
    simp only [List.map_cons, List.cons_append, List.map_append, List.map_nil, join_cons, joinTail, List.map_append, List.flatten_append, List.flatten_cons, List.flatten_nil, List.append_nil]
    simp
end Go.Proofs.YtifddfchpknkbaaGreatDoor
