import Derived.Test.YtifddfchpknkbaaGreatDoorEa
import Derived.Test.YtifddfchpknkbaaGreatDoorRa
set_option linter.unusedVariables false
set_option linter.unusedSimpArgs false
namespace Go.Proofs.YtifddfchpknkbaaGreatDoor
open Go.RowKit

def fiT (tl : List Tr) (p : Nat) : Int := ((tl[p]?).map (·.1)).getD 0
theorem fiT_at {tl : List Tr} {p : Nat} (h : p < tl.length) : fiT tl p = tl[p].1 := by simp [fiT, h]
/-- Some of the cells tell two shadows. -/
def telC (z : Nat → Nat → Int) (cs : List Nat) (i k : Nat) : Bool := cs.any fun c => clB (z i c) (z k c)
def telK (fi : Nat → Int) (z : Nat → Nat → Int) (cs : List Nat) (i k : Nat) : Bool := (fi i == fi k) || telC z cs i k
def telI (fi : Nat → Int) (z : Nat → Nat → Int) (cs : List Nat) (i : Nat) : Bool := (List.range i).all (telK fi z cs i)
def telA (fi : Nat → Int) (z : Nat → Nat → Int) (cs : List Nat) (N : Nat) : Bool := (List.range N).all (telI fi z cs)
theorem all_range_succ (p : Nat → Bool) (k : Nat) : (List.range (k + 1)).all p = ((List.range k).all p && p k) := by
  rw [List.range_succ, List.all_append]; simp
theorem all_range_false {p : Nat → Bool} {k n : Nat} (hk : k < n) (h : p k = false) : (List.range n).all p = false := by
  rw [List.all_eq_false]; exact ⟨k, List.mem_range.2 hk, by rw [h]; decide⟩
theorem any_take_succ {α : Type} (p : α → Bool) (l : List α) (k : Nat) (h : k < l.length) : (l.take (k + 1)).any p = ((l.take k).any p || p l[k]) := by
  rw [List.take_succ_eq_append_getElem h, List.any_append]; simp
end Go.Proofs.YtifddfchpknkbaaGreatDoor
