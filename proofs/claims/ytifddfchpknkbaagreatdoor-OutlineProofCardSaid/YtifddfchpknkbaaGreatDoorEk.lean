import Derived.Test.YtifddfchpknkbaaGreatDoorEn
import Derived.Test.YtifddfchpknkbaaGreatDoorPf
set_option linter.unusedVariables false
set_option linter.unusedSimpArgs false
namespace Go.Proofs.YtifddfchpknkbaaGreatDoor
open Go.RowKit

/-- The reference's search: the first list of so many more cells, behind those that are chosen, that tells. -/
def refF (t : List Nat → Bool) (cells : List Nat) : Nat → Nat → List Nat → Option (List Nat)
  | 0, _, now => if t now then some now else none
  | k + 1, lo, now => ((List.range cells.length).filter fun n => decide (lo ≤ n)).findSome? fun n => refF t cells k (n + 1) (now ++ [cells.getD n 0])
def refU (t : List Nat → Bool) (cells : List Nat) (k lo : Nat) (now : List Nat) (q : Nat) : Option (List Nat) := ((List.range q).filter fun n => decide (lo ≤ n)).findSome? fun n => refF t cells k (n + 1) (now ++ [cells.getD n 0])
theorem refU_succ (t : List Nat → Bool) (cells : List Nat) (k lo : Nat) (now : List Nat) (q : Nat) (h : lo ≤ q) (h0 : refU t cells k lo now q = none) : refU t cells k lo now (q + 1) = refF t cells k (q + 1) (now ++ [cells.getD q 0]) := by
  unfold refU at *
  rw [List.range_succ, List.filter_append, List.findSome?_append, h0]
  simp [h]
theorem refU_start (t : List Nat → Bool) (cells : List Nat) (k lo : Nat) (now : List Nat) : refU t cells k lo now lo = none := by
  unfold refU
  have : (List.range lo).filter (fun n => decide (lo ≤ n)) = [] := by
    rw [List.filter_eq_nil_iff]; intro o ho; have := List.mem_range.1 ho; simp; omega
  rw [this]; rfl
theorem refU_stop (t : List Nat → Bool) (cells : List Nat) (k lo : Nat) (now : List Nat) (r : List Nat) : ∀ (q m : Nat), q ≤ m → refU t cells k lo now q = some r → refU t cells k lo now m = some r := by
  intro q m hqm h
  induction m with
  | zero => obtain rfl : q = 0 := by omega
            exact h
  | succ m ih =>
    rcases Nat.lt_or_ge m q with h1 | h1
    · obtain rfl : q = m + 1 := by omega
      exact h
    · have h2 := ih h1
      unfold refU at h2 ⊢
      rw [List.range_succ, List.filter_append, List.findSome?_append, h2]; rfl
/-- A cell lies in every cloth, and holds there what 'z' says. -/
def okC (Wn : Nat) (cls : List (List ByteArray)) (z : Nat → Nat → Int) (c : Nat) : Prop := c ≤ 10000 ∧ ∀ i (h : i < cls.length), ∃ r, cls[i][c / Wn]? = some r ∧ (ltr r)[c % Wn]? = some (z i c) ∧ r.size ≤ 10000
def RefPost (w : World) (r : Option (List Nat)) (e : Ending) (w' : World) : Prop :=
  match r with
  | some l => ∃ v, e = .returned (.tuple #[v, .bool true]) ∧ IsL w' v (l.map natV) ∧ Below w.heap.size w w'
  | none => ∃ v, e = .returned (.tuple #[v, .bool false]) ∧ Below w.heap.size w w'

end Go.Proofs.YtifddfchpknkbaaGreatDoor
