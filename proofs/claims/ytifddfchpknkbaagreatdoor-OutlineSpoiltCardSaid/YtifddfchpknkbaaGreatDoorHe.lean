import Derived.Test.YtifddfchpknkbaaGreatDoorHd
import Derived.Test.YtifddfchpknkbaaGreatDoorZ
set_option linter.unusedVariables false
set_option linter.unusedSimpArgs false
namespace Go.Proofs.YtifddfchpknkbaaGreatDoor
open Go.RowKit

set_option maxRecDepth 100000 in
set_option maxHeartbeats 3200000 in
/-- Two cloths of the same rows. -/
theorem sameCloths_eq (A A2 : Option Addr) (n cap n2 cap2 : Nat) (rs : List ByteArray) (w : World) (hn : n ≤ 100000) (hr : Rd w w.heap.size 1 A n (rs.map Value.string)) (hr2 : Rd w w.heap.size 1 A2 n2 (rs.map Value.string)) :
    Calls Tryz.prog 33 #[.slice A n cap, .slice A2 n2 cap2] w fun e w' => e = .returned (.bool true) ∧ Below w.heap.size w w' := by
  have hlen := hr.len
  have hlen2 := hr2.len
  obtain rfl : n2 = n := by omega
  have HL := Lib.hid hlen; clear hlen hlen2
  have hne : ((n2 : Int) != n2) = false := by simp
  go_enter Tryz.func33, Tryz.ntmps33
  go_wp2
  go_loopg [5] n2 (fun g i wr => ∃ k : Nat, g = n2 - k ∧ k ≤ n2 ∧ i = .int .i64 k ∧ Below w.heap.size w wr)
  case atStart => exact ⟨0, rfl, Nat.zero_le _, rfl, Below.refl _ _⟩
  case round =>
    obtain ⟨k, hg, hk, rfl, hB⟩ := hrel
    have HG := Lib.hid hg; clear hg
    by_cases hlt : k < n2
    · obtain ⟨b, off, hz, rfl, hb, hc⟩ := (hr.below hB).atm hlt
      obtain ⟨b2, off2, hz2, rfl, hb2, hc2⟩ := (hr2.below hB).atm hlt
      generalize rs[k] = x at *
      have hq1 := fun p : Blw wr.heap.size wr => blw_cell (a := ⟨b, off + k, none⟩) (Nat.lt_of_lt_of_le hb hB.size) hc p
      have hq2 := fun p : Blw wr.heap.size wr => blw_cell (a := ⟨b2, off2 + k, none⟩) (Nat.lt_of_lt_of_le hb2 hB.size) hc2 p
      go_wp2_with (fail)
      refine wp_region_blw (by kernel_rfl) (by kernel_rfl) ?_
      repeat (go_big_quiet_step (fail))
      refine wpQuiet_nil ?_
      rintro W3 ⟨⟨_, hb3⟩, rfl⟩
      clear hq1 hq2
      go_wp2_with (fail)
      go_roundg (n2 - (k + 1))
      case measure => rw [HG.out]; omega
      case rel => exact ⟨k + 1, rfl, by omega, by go_num, hB.trans (hb3.mono hB.size)⟩
    · have hge : ¬ (k : Int) < n2 := by omega
      go_wp2_with (fail)
      go_ret
      exact ⟨rfl, hB⟩
end Go.Proofs.YtifddfchpknkbaaGreatDoor
