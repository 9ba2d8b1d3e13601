import Derived.Test.YtifddfchpknkbaaGreatDoorSk
set_option linter.unusedVariables false
set_option linter.unusedSimpArgs false
namespace Go.Proofs.YtifddfchpknkbaaGreatDoor
open Go.RowKit

set_option maxRecDepth 100000 in
set_option maxHeartbeats 3200000 in
theorem insr_any (base g cap n a b : Nat) (ds : List Nat) (w : World) (hab : a ≤ b) (hbn : b ≤ n) (hn : n ≤ 1000000) (hgb : base ≤ g) (hbase : base ≤ w.heap.size) (hl : ds.length = n) (hown : w.ownsRow base 177 1 (srow g n cap) n (ds.map u64V)) :
    Calls Tryz.prog 209 #[srow g n cap, .int .i64 a, .int .i64 b] w fun e w' => e = .returned (.tuple #[]) ∧ SortPost base g n cap ds w w' := by
  have H0 : SI base g n cap ds ds w w := ⟨.refl _, hown, Below.refl _ _⟩
  clear hown
  go_enter Tryz.func209, Tryz.ntmps209
  go_wp2
  go_loopg [6] (b + 1 - (a + 1)) (fun gg i wr => ∃ (p : Nat) (xs : List Nat), gg = b + 1 - p ∧ a < p ∧ p ≤ b + 1 ∧ i = .int .i64 p ∧ SI base g n cap ds xs w wr)
  case atStart => exact ⟨a + 1, ds, rfl, by omega, by omega, by go_num, H0⟩
  case round =>
    clear H0
    obtain ⟨p, xs, hg, hp1, hp2, rfl, H1⟩ := hrel
    have HG := Lib.hid hg; clear hg
    rename World => W1
    by_cases h1 : p < b
    · go_wp2
      go_loopg [7] p (fun gg j wr => ∃ (q : Nat) (xs : List Nat), gg = q ∧ a ≤ q ∧ q ≤ p ∧ j = .int .i64 q ∧ SI base g n cap ds xs w wr)
      case atStart => exact ⟨p, xs, rfl, by omega, by omega, rfl, H1⟩
      case round =>
        clear H1
        obtain ⟨q, zs, hg, hq1, hq2, rfl, H2⟩ := hrel
        have HG2 := Lib.hid hg; clear hg
        rename World => W2
        by_cases h2 : a < q
        · obtain ⟨q1, hqE⟩ : ∃ i : Nat, q = i + 1 := ⟨q - 1, by omega⟩
          have hqI : (q : Int) - 1 = (q1 : Int) := by omega
          have hqn : q < n := by omega
          have hq1n : q1 < n := by omega
          have HQE := Lib.hid hqE
          clear hqE
          have gl5 := H2.lt
          obtain ⟨wa, c5⟩ := H2.at hl (j := q) (by omega)
          obtain ⟨wb, e5⟩ := H2.at hl (j := q1) (by omega)
          have dc5 := fun (pz : Blw W2.heap.size W2) => blw_cell (a := ⟨g, q, none⟩) gl5 c5 pz
          have de5 := fun (pz : Blw W2.heap.size W2) => blw_cell (a := ⟨g, q1, none⟩) gl5 e5 pz
          by_cases h6 : wa < wb
          · have HV := Lib.hid (decide_eq_true h6)
            go_wp2
            refine wp_region_blw (by kernel_rfl) (by kernel_rfl) ?_
            repeat (go_big_quiet_step (first | (go_at_call 215; exact Calls.blw_of_same _ (less_any _ _ _))))
            refine wpQuiet_nil ?_
            rintro W6 ⟨⟨_, hb6⟩, rfl⟩
            have H6 := H2.more hbase hb6
            clear hb6
            rw [HV.out]
            clear c5 e5 dc5 de5 gl5
            obtain ⟨sa11, sc11⟩ := H6.at hl (j := q) (by omega)
            obtain ⟨sb11, sd11⟩ := H6.at hl (j := q1) (by omega)
            have sy11 := H6.2.1.frozenAt (q)
            have sz11 := H6.2.1.frozenAt (q1)
            obtain ⟨⟨us, S11⟩, ⟨su11, sv11⟩⟩ := H6.swap hl hgb (p := q) (q := q1) (by omega) (by omega) sc11 sd11
            have hin11 : q < n := by omega
            have hjn11 : q1 < n := by omega
            have S11 := Lib.hid S11
            go_wp2
            go_region
            go_wp2
            go_roundg q1
            case measure => have := HQE.out; rw [HG2.out]; omega
            case rel => exact ⟨q1, us, rfl, by have := HQE.out; omega, by have := HQE.out; omega, by go_num, S11.out⟩
          · have HV := Lib.hid (decide_eq_false h6)
            go_wp2
            refine wp_region_blw (by kernel_rfl) (by kernel_rfl) ?_
            repeat (go_big_quiet_step (first | (go_at_call 215; exact Calls.blw_of_same _ (less_any _ _ _))))
            refine wpQuiet_nil ?_
            rintro W6 ⟨⟨_, hb6⟩, rfl⟩
            have H6 := H2.more hbase hb6
            clear hb6
            rw [HV.out]
            clear c5 e5 dc5 de5 gl5
            go_wp2
            go_roundg (b + 1 - (p + 1))
            case measure => rw [HG.out]; omega
            case rel => exact ⟨p + 1, zs, rfl, by omega, by omega, by go_num, H6⟩
        · obtain rfl : q = a := by omega
          go_wp2
          refine wp_region_blw (by kernel_rfl) (by kernel_rfl) ?_
          repeat (go_big_quiet_step (first | (go_at_call 215; exact Calls.blw_of_same _ (less_any _ _ _))))
          refine wpQuiet_nil ?_
          rintro W6 ⟨⟨_, hb6⟩, rfl⟩
          have H6 := H2.more hbase hb6
          clear hb6
          go_wp2
          go_roundg (b + 1 - (p + 1))
          case measure => rw [HG.out]; omega
          case rel => exact ⟨p + 1, zs, rfl, by omega, by omega, by go_num, H6⟩
    · go_wp2
      go_end0
      exact ⟨rfl, xs, H1⟩
end Go.Proofs.YtifddfchpknkbaaGreatDoor
