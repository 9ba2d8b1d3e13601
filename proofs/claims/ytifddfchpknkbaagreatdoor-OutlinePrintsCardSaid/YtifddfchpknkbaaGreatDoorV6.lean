import Derived.Test.YtifddfchpknkbaaGreatDoorV5
import Derived.Test.YtifddfchpknkbaaGreatDoorV3
import Derived.Test.YtifddfchpknkbaaGreatDoorTx
set_option linter.unusedVariables false
set_option linter.unusedSimpArgs false
namespace Go.Proofs.YtifddfchpknkbaaGreatDoor
open Go.RowKit Go.Lib

set_option maxRecDepth 100000 in
set_option maxHeartbeats 800000 in
theorem parseTwo (s : ByteArray) (d1 d2 : Nat) (w : World) (h1 : d1 < 10) (h2 : d2 < 10) (hs : s = ⟨(decDigits (10 * d1 + d2)).toArray⟩) (hsz : s.size = 2) (hb0 : (s[0]'(by omega)).toNat = 48 + d1) (hb1 : (s[1]'(by omega)).toNat = 48 + d2) :
    Calls Tryz.prog 200 #[.string s] w fun e w' => e = .returned (.int .i64 (10 * d1 + d2 : Nat)) ∧ Below w.heap.size w w' := by
  have HS := Lib.hid hs; clear hs
  have hin : inB (2 : Int) 1 2 = true := by decide
  go_enter Tryz.func200, Tryz.ntmps200
  go_wp2_with (first
    | (go_at_call 130; refine (within_any _ _ _ _).mono ?_; rintro e w1 ⟨rfl, rfl⟩; rw [hin])
    | (go_at_call 175; refine (insist_ok _).mono ?_; rintro e w1 ⟨rfl, rfl⟩))
  go_loopw [3] (fun v w' => ∃ pos, w' = w.iter s pos ∧ ((pos = 0 ∧ v = .int .i64 0) ∨ (pos = 1 ∧ v = .int .i64 d1) ∨ (pos = 2 ∧ v = .int .i64 (10 * d1 + d2 : Nat)))) (fun _ w' => 2 - w'.iterPos w.heap.size)
  case atStart => exact ⟨0, rfl, .inl ⟨rfl, rfl⟩⟩
  case round =>
    obtain ⟨pos, rfl, ⟨rfl, rfl⟩ | ⟨rfl, rfl⟩ | ⟨rfl, rfl⟩⟩ := hrel
    · have hnx : ∀ ty, (Instr.next (.pointer (some ⟨w.heap.size, 0, none⟩)) true ty).run Tryz.prog (w.iter s 0) = _ := fun ty => run_next_ascii w s 0 ty (by omega) (by omega)
      rw [hb0] at hnx
      clear hb0 hb1
      have h3 : (48 : Int) ≤ 48 + (d1 : Int) := by omega
      have h4 : (48 : Int) + (d1 : Int) ≤ 57 := by omega
      go_wp2_with (first
        | (go_at_call 175; refine (insist_ok _).mono ?_; rintro e w1 ⟨rfl, rfl⟩))
      go_roundw
      case rel => exact ⟨1, rfl, .inr (.inl ⟨rfl, by go_num⟩)⟩
      case measure => simp
    · have hnx : ∀ ty, (Instr.next (.pointer (some ⟨w.heap.size, 0, none⟩)) true ty).run Tryz.prog (w.iter s 1) = _ := fun ty => run_next_ascii w s 1 ty (by omega) (by omega)
      rw [hb1] at hnx
      clear hb0 hb1
      have h3 : (48 : Int) ≤ 48 + (d2 : Int) := by omega
      have h4 : (48 : Int) + (d2 : Int) ≤ 57 := by omega
      have h5 := i64_ok (10 * (d1 : Int)) (by omega)
      have h6 := i64_ok (10 * (d1 : Int) + (d2 : Int)) (by omega)
      go_wp2_with (first
        | (go_at_call 175; refine (insist_ok _).mono ?_; rintro e w1 ⟨rfl, rfl⟩))
      go_roundw
      case rel => exact ⟨2, rfl, .inr (.inr ⟨rfl, by go_num⟩)⟩
      case measure => simp
    · have hnx : ∀ ty, (Instr.next (.pointer (some ⟨w.heap.size, 0, none⟩)) true ty).run Tryz.prog (w.iter s 2) = _ := fun ty => run_next_end w s 2 ty (by omega)
      have hI := fun wx => Tryz.strconv_Itoa_small (10 * d1 + d2) (by omega) wx
      rw [← HS.out] at hI
      clear hb0 hb1
      go_wp2_with (first
        | (go_at_call 222; refine (hI _).mono ?_; rintro e w1 ⟨rfl, rfl⟩)
        | (go_at_call 175; refine (insist_ok _).mono ?_; rintro e w1 ⟨rfl, rfl⟩))
      go_ret
      exact ⟨rfl, below_iter _ _ _⟩
theorem parseNum_any (a : Nat) (ha : a < 100) (w : World) : Calls Tryz.prog 200 #[.string (dS a)] w fun e w' => e = .returned (.int .i64 a) ∧ Below w.heap.size w w' := by
  by_cases h : a < 10
  · have e : dS a = ⟨#[UInt8.ofNat (48 + a)]⟩ := by unfold dS; rw [decDigits_one h]
    refine parseDigit (dS a) a w h rfl (by rw [e]; rfl) ?_
    simp only [e]
    show (UInt8.ofNat (48 + a)).toNat = 48 + a
    rw [UInt8.toNat_ofNat']
    omega
  · have e : dS a = ⟨#[UInt8.ofNat (48 + a / 10), UInt8.ofNat (48 + a % 10)]⟩ := by unfold dS; rw [decDigits_two h ha]
    have ea : 10 * (a / 10) + a % 10 = a := by omega
    have key := parseTwo (dS a) (a / 10) (a % 10) w (by omega) (by omega) (by rw [ea]; rfl) (by rw [e]; rfl) (by
      simp only [e]
      show (UInt8.ofNat (48 + a / 10)).toNat = 48 + a / 10
      rw [UInt8.toNat_ofNat']
      omega) (by
      simp only [e]
      show (UInt8.ofNat (48 + a % 10)).toNat = 48 + a % 10
      rw [UInt8.toNat_ofNat']
      omega)
    rw [ea] at key
    exact key
end Go.Proofs.YtifddfchpknkbaaGreatDoor
