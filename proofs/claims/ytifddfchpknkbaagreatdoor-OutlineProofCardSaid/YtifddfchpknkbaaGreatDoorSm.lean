import Derived.Test.YtifddfchpknkbaaGreatDoorSl
import Derived.Sort.Walk7a
import Derived.WalkKit
import Derived.Lib.ItoaNum
import Derived.Laws.Bits64b
set_option linter.unusedVariables false
set_option linter.unusedSimpArgs false
namespace Go.Proofs.YtifddfchpknkbaaGreatDoor
open Go.RowKit Go.Lib Go.Sort

def XorPost (sb : Nat) (w : World) (e : Ending) (w' : World) : Prop :=
  ∃ C : Nat, e = .returned (.int .u64 (C : Int)) ∧ C < 18446744073709551616 ∧ Below sb w w' ∧ Blk w' sb 287 #[.int .u64 (C : Int)]

/-- The exclusive or of two words is a word. -/
theorem xorN (x y : Int) (hx0 : 0 ≤ x) (hx : x < 18446744073709551616) (hy0 : 0 ≤ y) (hy : y < 18446744073709551616) :
    ∃ A : Nat, A < 18446744073709551616 ∧ bits .xor .u64 x y = (A : Int) := by
  obtain ⟨a, rfl⟩ : ∃ a : Nat, x = (a : Int) := ⟨x.toNat, by omega⟩
  obtain ⟨b, rfl⟩ : ∃ b : Nat, y = (b : Int) := ⟨y.toNat, by omega⟩
  exact ⟨a ^^^ b, Nat.xor_lt_two_pow (n := 64) (by omega) (by omega), bits_xor_u64_nat a b (by omega) (by omega)⟩

set_option maxRecDepth 100000 in
set_option maxHeartbeats 3200000 in
theorem xor_any (sb X : Nat) (w : World) (hX : X < 18446744073709551616) (hS : Blk w sb 287 #[.int .u64 (X : Int)]) :
    Calls Tryz.prog 232 #[.pointer (some ⟨sb, 0, none⟩)] w (XorPost sb w) := by
  obtain ⟨A, lA, e1⟩ := xorN (X : Int) (IntKind.u64.wrap ((X : Int) * 8192)) (by omega) (by omega) (by rw [IntKind.wrap_u64]; omega) (by rw [IntKind.wrap_u64]; omega)
  obtain ⟨B, lB, e2⟩ := xorN (A : Int) ((A : Int) / 128) (by omega) (by omega) (by omega) (by omega)
  obtain ⟨C, lC, e3⟩ := xorN (B : Int) (IntKind.u64.wrap ((B : Int) * 131072)) (by omega) (by omega) (by rw [IntKind.wrap_u64]; omega) (by rw [IntKind.wrap_u64]; omega)
  have c1 := hS.cell 0
  have f1 := hS.frozen 0
  have S1 := hS.set_ 0 (.int .u64 (A : Int))
  have S2 := S1.set_ 0 (.int .u64 (B : Int))
  have S3 := S2.set_ 0 (.int .u64 (C : Int))
  have c2 := S1.cell 0
  have f2 := S1.frozen 0
  have c3 := S2.cell 0
  have f3 := S2.frozen 0
  have c4 := S3.cell 0
  have HS := Lib.hid S3
  have HB := Lib.hid ((((Below.refl sb w).setCell (p := ⟨sb, 0, none⟩) (Nat.le_refl _) (.int .u64 (A : Int))).setCell (p := ⟨sb, 0, none⟩) (Nat.le_refl _) (.int .u64 (B : Int))).setCell (p := ⟨sb, 0, none⟩) (Nat.le_refl _) (.int .u64 (C : Int)))
  clear S1 S2 S3 hS
  go_enter Tryz.func232, Tryz.ntmps232
  go_wp2
  go_region
  go_wp2
  go_region
  go_wp2
  go_region
  go_wp2
  go_ret
  exact ⟨C, rfl, lC, HB.out.drew.drew.drew, HS.out⟩
def PowPost (d : Nat) (w : World) (e : Ending) (w' : World) : Prop :=
  ∃ M : Nat, e = .returned (.int .u64 ((M + 1 : Nat) : Int)) ∧ M < 2 * d ∧ w = w'

set_option maxRecDepth 100000 in
set_option maxHeartbeats 3200000 in
theorem pow_any (d : Nat) (w : World) (hd1 : 1 ≤ d) (hd : d ≤ 1000000) :
    Calls Tryz.prog 231 #[.int .i64 d] w (PowPost d w) := by
  obtain ⟨h1, h2, h3⟩ := bitLenAux_bounds 64 d (by omega) (by omega)
  have hL : Lib.bitLen ((d : Int)).toNat = bitLenAux 64 d := by rw [Int.toNat_natCast]; rfl
  generalize hk : bitLenAux 64 d = k at *
  have hk20 : k ≤ 20 := by
    have := bitLenAux_le 64 d 20 (by omega)
    omega
  have hp := wrap_two_pow k (by omega)
  have hM : (1 <<< k : Nat) = 2 ^ k := Nat.one_shiftLeft k
  rw [hM] at hp
  have hpos : 1 ≤ 2 ^ k := Nat.one_le_two_pow
  obtain ⟨M, hME⟩ : ∃ M : Nat, 2 ^ k = M + 1 := ⟨2 ^ k - 1, by omega⟩
  have hle : M < 2 * d := by
    have e : 2 ^ k = 2 * 2 ^ (k - 1) := by
      obtain ⟨j, rfl⟩ : ∃ j, k = j + 1 := ⟨k - 1, by omega⟩
      rw [Nat.pow_succ]; simp; omega
    omega
  rw [hME] at hp
  have H := fun W => Tryz.bits_Len (d : Int) W (by omega) (by omega)
  rw [hL] at H
  clear h2 h3 hL hM hpos hME hk
  go_enter Tryz.func231, Tryz.ntmps231
  go_wp2_with (first | (go_at_call 194; refine (H _).mono ?_; rintro e w' ⟨rfl, rfl⟩))
  go_ret
  exact ⟨M, rfl, hle, rfl⟩
end Go.Proofs.YtifddfchpknkbaaGreatDoor
