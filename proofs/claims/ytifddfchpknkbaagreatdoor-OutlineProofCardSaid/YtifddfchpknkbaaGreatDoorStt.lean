import Derived.Test.YtifddfchpknkbaaGreatDoorSw
import Derived.Test.YtifddfchpknkbaaGreatDoorTd
set_option linter.unusedVariables false
set_option linter.unusedSimpArgs false
namespace Go.Proofs.YtifddfchpknkbaaGreatDoor
open Go.RowKit

theorem pdq0 (base g cap n : Nat) (lim : Int) (ds : List Nat) (w : World) (hn : n ≤ 1000000) (hgb : base ≤ g) (hbase : base ≤ w.heap.size) (hl : ds.length = n) (hown : w.ownsRow base 177 1 (srow g n cap) n (ds.map u64V)) :
    Calls Tryz.prog 193 #[srow g n cap, .int .i64 0, .int .i64 n, .int .i64 lim] w (BrkPost base g n cap ds w) :=
  pdq_any base g cap n hn hgb n 0 n lim ds w (by omega) (Nat.zero_le _) (Nat.le_refl _) hbase hl hown

set_option maxRecDepth 100000 in
set_option maxHeartbeats 1600000 in
theorem sort_any (base n : Nat) (v : Value) (ds : List Nat) (w : World) (hn : n ≤ 1000000) (hbase : base ≤ w.heap.size) (hown : w.ownsRow base 177 1 v n (ds.map u64V)) :
    Calls Tryz.prog 168 #[v] w fun e w' => e = .returned (.tuple #[]) ∧ (∃ ds' : List Nat, ds'.Perm ds ∧ w'.ownsRow base 177 1 v n (ds'.map u64V)) ∧ Below base w w' := by
  by_cases h12 : n ≤ 12
  · exact sort_small base n v ds w h12 hbase hown
  · have hl : ds.length = n := by have := hown.1; rw [List.length_map] at this; omega
    obtain ⟨g, cap, rfl, hgb, hgl⟩ := hown.form (by omega)
    have HQ := fun lim => pdq0 base g cap n lim ds w hn hgb hbase hl hown
    go_enter Tryz.func168, Tryz.ntmps168
    go_wp2_with (first | (go_at_call 194; refine (Tryz.bits_Len n _ (by omega) (by omega)).mono ?_; rintro e w1 ⟨rfl, rfl⟩) | (go_at_call 193; refine (HQ _).mono ?_; rintro e w1 ⟨rfl, ys, h1⟩))
    go_end0
    exact ⟨rfl, ⟨ys, h1.1, h1.2.1⟩, h1.2.2⟩
end Go.Proofs.YtifddfchpknkbaaGreatDoor
