import Derived.Test.YtifddfchpknkbaaGreatDoorSq
set_option linter.unusedVariables false
set_option linter.unusedSimpArgs false
namespace Go.Proofs.YtifddfchpknkbaaGreatDoor
open Go.RowKit

set_option maxRecDepth 100000 in
set_option maxHeartbeats 3200000 in
theorem sift_any (base g cap n lo hi first : Nat) (ds : List Nat) (w : World) (hlo : lo ≤ n) (hf : first + hi ≤ n) (hn : n ≤ 1000000) (hgb : base ≤ g) (hbase : base ≤ w.heap.size) (hl : ds.length = n) (hown : w.ownsRow base 177 1 (srow g n cap) n (ds.map u64V)) :
    Calls Tryz.prog 230 #[srow g n cap, .int .i64 lo, .int .i64 hi, .int .i64 first] w fun e w' => e = .returned (.tuple #[]) ∧ SortPost base g n cap ds w w' := by
  go_enter Tryz.func230, Tryz.ntmps230
  go_wp2
  go_loopg [8] (n - lo) (fun gg i wr => ∃ (r : Nat) (xs : List Nat), gg = n - r ∧ r ≤ n ∧ i = .int .i64 r ∧ xs.Perm ds ∧ wr.ownsRow base 177 1 (srow g n cap) n (xs.map u64V) ∧ Below base w wr)
  case atStart => exact ⟨lo, ds, rfl, hlo, rfl, .refl _, hown, Below.refl _ _⟩
  case round =>
    clear hown
    obtain ⟨r, xs, hg, hr, rfl, hp, hown, hB⟩ := hrel
    have HG := Lib.hid hg; clear hg
    have HL := Lib.hid (hp.length_eq.trans hl)
    have HP := Lib.hid hp; clear hp
    obtain ⟨c, hcE⟩ : ∃ c : Nat, c = 2 * r + 1 := ⟨_, rfl⟩
    have hcI : 2 * (r : Int) + 1 = (c : Int) := by omega
    have HCE := Lib.hid hcE
    have hc0 : c ≤ 2000001 := by omega
    clear hcE
    by_cases hlt : c < hi
    · obtain ⟨k, hkE⟩ : ∃ k : Nat, k = first + c := ⟨_, rfl⟩
      obtain ⟨m, hmE⟩ : ∃ m : Nat, m = first + r := ⟨_, rfl⟩
      have hkI : (first : Int) + (c : Int) = (k : Int) := by omega
      have hmI : (first : Int) + (r : Int) = (m : Int) := by omega
      have hkI2 : (first : Int) + ((c : Int) + 1) = (k : Int) + 1 := by omega
      have hkn : k < n := by omega
      have hmn : m < n := by have := HCE.out; omega
      have HKE := Lib.hid hkE; have HME := Lib.hid hmE
      clear hkE hmE
      have hgl : g < wr.heap.size := by have := hown.lt g rfl; omega
      by_cases h1 : c + 1 < hi
      · have hkn1 : k + 1 < n := by have := HKE.out; omega
        have h1I : (c : Int) + 1 < (hi : Int) := by omega
        have hc1 := u64_at hown (j := k) (by rw [HL.out]; omega)
        have hc2 := u64_at hown (j := k + 1) (by rw [HL.out]; omega)
        have hd1 := fun (p : Blw wr.heap.size wr) => blw_cell (a := ⟨g, k, none⟩) hgl hc1 p
        have hd2 := fun (p : Blw wr.heap.size wr) => blw_cell (a := ⟨g, k + 1, none⟩) hgl hc2 p
        by_cases hba : xs[k]'(by rw [HL.out]; omega) < xs[k + 1]'(by rw [HL.out]; omega)
        · have HBA := Lib.hid (decide_eq_true hba)
          generalize xs[k]'_ = va at *
          generalize xs[k + 1]'_ = vb at *
          go_wp2
          refine wp_region_blw (by kernel_rfl) (by kernel_rfl) ?_
          repeat (go_big_quiet_step (first | (go_at_call 215; exact Calls.blw_of_same _ (less_any _ _ _))))
          refine wpQuiet_nil ?_
          rintro W3 ⟨⟨_, hb3⟩, rfl⟩
          rw [HBA.out]
          clear hd1 hd2 hc1 hc2
          have own3 := ownsRow_below' hown hb3
          have hB3 := hB.trans (hb3.mono (show base ≤ wr.heap.size by have := hB.size; omega))
          have hgl3 : g < W3.heap.size := by have := hb3.size; omega
          clear hown hB hb3
          have f1 := u64_at own3 (j := m) (by rw [HL.out]; omega)
          have f2 := u64_at own3 (j := k + 1) (by rw [HL.out]; omega)
          have SW := swapRow (p := m) (q := k + 1) (by rw [HL.out]; omega) (by rw [HL.out]; omega) own3
          have hk1 := fun (p : Blw W3.heap.size W3) => blw_cell (a := ⟨g, m, none⟩) hgl3 f1 p
          have hk2 := fun (p : Blw W3.heap.size W3) => blw_cell (a := ⟨g, k + 1, none⟩) hgl3 f2 p
          generalize hua : xs[m]'_ = ua at *
          generalize hub : xs[k + 1]'_ = ub at *
          clear hua hub
          by_cases hu : ua < ub
          · have HU := Lib.hid (decide_eq_true hu)
            go_wp2
            refine wp_region_blw (by kernel_rfl) (by kernel_rfl) ?_
            repeat (go_big_quiet_step (first | (go_at_call 215; exact Calls.blw_of_same _ (less_any _ _ _))))
            refine wpQuiet_nil ?_
            rintro W5 ⟨⟨_, hb5⟩, rfl⟩
            rw [HU.out]
            obtain ⟨ys, hy, ho⟩ := SW
            have own5 := ownsRow_below' own3 hb5
            have g1 : W5.cell? ⟨g, m, none⟩ = some (.int .u64 (ua : Int)) := (hb5.cell (p := ⟨g, m, none⟩) hgl3).trans f1
            have g2 : W5.cell? ⟨g, k + 1, none⟩ = some (.int .u64 (ub : Int)) := (hb5.cell (p := ⟨g, k + 1, none⟩) hgl3).trans f2
            have z1 := own5.frozenAt m
            have z2 := own5.frozenAt (k + 1)
            have hB5 := hB3.trans (hb5.mono (show base ≤ W3.heap.size by have := hB3.size; omega))
            have SW5 := swapRow2 (p := m) (q := k + 1) (by rw [HL.out]; omega) (by rw [HL.out]; omega) own5 g1 g2
            clear hk1 hk2 f1 f2 ho hy
            go_wp2
            go_region
            go_wp2
            obtain ⟨zs, hz, hoz⟩ := SW5
            go_roundg (n - (c + 1))
            case measure => have := HCE.out; rw [HG.out]; omega
            case rel => exact ⟨c + 1, zs, rfl, by omega, by go_num, hz.trans HP.out, hoz, ((hB5.setCell (p := ⟨g, m, none⟩) hgb _).setCell (p := ⟨g, k + 1, none⟩) hgb _).drew⟩
          · have HU := Lib.hid (decide_eq_false hu)
            go_wp2
            refine wp_region_blw (by kernel_rfl) (by kernel_rfl) ?_
            repeat (go_big_quiet_step (first | (go_at_call 215; exact Calls.blw_of_same _ (less_any _ _ _))))
            refine wpQuiet_nil ?_
            rintro W5 ⟨⟨_, hb5⟩, rfl⟩
            rw [HU.out]
            go_wp2
            refine bodyPost_ret (results_none rfl _ _ _) rfl ?_
            exact ⟨rfl, xs, HP.out, ownsRow_below' own3 hb5, hB3.trans (hb5.mono (by have := hB3.size; omega))⟩
        · have HBA := Lib.hid (decide_eq_false hba)
          generalize xs[k]'_ = va at *
          generalize xs[k + 1]'_ = vb at *
          go_wp2
          refine wp_region_blw (by kernel_rfl) (by kernel_rfl) ?_
          repeat (go_big_quiet_step (first | (go_at_call 215; exact Calls.blw_of_same _ (less_any _ _ _))))
          refine wpQuiet_nil ?_
          rintro W3 ⟨⟨_, hb3⟩, rfl⟩
          rw [HBA.out]
          clear hd1 hd2 hc1 hc2
          have own3 := ownsRow_below' hown hb3
          have hB3 := hB.trans (hb3.mono (show base ≤ wr.heap.size by have := hB.size; omega))
          have hgl3 : g < W3.heap.size := by have := hb3.size; omega
          clear hown hB hb3
          have f1 := u64_at own3 (j := m) (by rw [HL.out]; omega)
          have f2 := u64_at own3 (j := k) (by rw [HL.out]; omega)
          have SW := swapRow (p := m) (q := k) (by rw [HL.out]; omega) (by rw [HL.out]; omega) own3
          have hk1 := fun (p : Blw W3.heap.size W3) => blw_cell (a := ⟨g, m, none⟩) hgl3 f1 p
          have hk2 := fun (p : Blw W3.heap.size W3) => blw_cell (a := ⟨g, k, none⟩) hgl3 f2 p
          generalize hua : xs[m]'_ = ua at *
          generalize hub : xs[k]'_ = ub at *
          clear hua hub
          by_cases hu : ua < ub
          · have HU := Lib.hid (decide_eq_true hu)
            go_wp2
            refine wp_region_blw (by kernel_rfl) (by kernel_rfl) ?_
            repeat (go_big_quiet_step (first | (go_at_call 215; exact Calls.blw_of_same _ (less_any _ _ _))))
            refine wpQuiet_nil ?_
            rintro W5 ⟨⟨_, hb5⟩, rfl⟩
            rw [HU.out]
            obtain ⟨ys, hy, ho⟩ := SW
            have own5 := ownsRow_below' own3 hb5
            have g1 : W5.cell? ⟨g, m, none⟩ = some (.int .u64 (ua : Int)) := (hb5.cell (p := ⟨g, m, none⟩) hgl3).trans f1
            have g2 : W5.cell? ⟨g, k, none⟩ = some (.int .u64 (ub : Int)) := (hb5.cell (p := ⟨g, k, none⟩) hgl3).trans f2
            have z1 := own5.frozenAt m
            have z2 := own5.frozenAt (k)
            have hB5 := hB3.trans (hb5.mono (show base ≤ W3.heap.size by have := hB3.size; omega))
            have SW5 := swapRow2 (p := m) (q := k) (by rw [HL.out]; omega) (by rw [HL.out]; omega) own5 g1 g2
            clear hk1 hk2 f1 f2 ho hy
            go_wp2
            go_region
            go_wp2
            obtain ⟨zs, hz, hoz⟩ := SW5
            go_roundg (n - (c))
            case measure => have := HCE.out; rw [HG.out]; omega
            case rel => exact ⟨c, zs, rfl, by omega, by go_num, hz.trans HP.out, hoz, ((hB5.setCell (p := ⟨g, m, none⟩) hgb _).setCell (p := ⟨g, k, none⟩) hgb _).drew⟩
          · have HU := Lib.hid (decide_eq_false hu)
            go_wp2
            refine wp_region_blw (by kernel_rfl) (by kernel_rfl) ?_
            repeat (go_big_quiet_step (first | (go_at_call 215; exact Calls.blw_of_same _ (less_any _ _ _))))
            refine wpQuiet_nil ?_
            rintro W5 ⟨⟨_, hb5⟩, rfl⟩
            rw [HU.out]
            go_wp2
            refine bodyPost_ret (results_none rfl _ _ _) rfl ?_
            exact ⟨rfl, xs, HP.out, ownsRow_below' own3 hb5, hB3.trans (hb5.mono (by have := hB3.size; omega))⟩
      · obtain rfl : hi = c + 1 := by omega
        go_wp2
        refine wp_region_blw (by kernel_rfl) (by kernel_rfl) ?_
        repeat (go_big_quiet_step (first | (go_at_call 215; exact Calls.blw_of_same _ (less_any _ _ _))))
        refine wpQuiet_nil ?_
        rintro W3 ⟨⟨_, hb3⟩, rfl⟩
        have own3 := ownsRow_below' hown hb3
        have hB3 := hB.trans (hb3.mono (show base ≤ wr.heap.size by have := hB.size; omega))
        have hgl3 : g < W3.heap.size := by have := hb3.size; omega
        clear hown hB hb3
        have f1 := u64_at own3 (j := m) (by rw [HL.out]; omega)
        have f2 := u64_at own3 (j := k) (by rw [HL.out]; omega)
        have SW := swapRow (p := m) (q := k) (by rw [HL.out]; omega) (by rw [HL.out]; omega) own3
        have hk1 := fun (p : Blw W3.heap.size W3) => blw_cell (a := ⟨g, m, none⟩) hgl3 f1 p
        have hk2 := fun (p : Blw W3.heap.size W3) => blw_cell (a := ⟨g, k, none⟩) hgl3 f2 p
        generalize hua : xs[m]'_ = ua at *
        generalize hub : xs[k]'_ = ub at *
        clear hua hub
        by_cases hu : ua < ub
        · have HU := Lib.hid (decide_eq_true hu)
          go_wp2
          refine wp_region_blw (by kernel_rfl) (by kernel_rfl) ?_
          repeat (go_big_quiet_step (first | (go_at_call 215; exact Calls.blw_of_same _ (less_any _ _ _))))
          refine wpQuiet_nil ?_
          rintro W5 ⟨⟨_, hb5⟩, rfl⟩
          rw [HU.out]
          obtain ⟨ys, hy, ho⟩ := SW
          have own5 := ownsRow_below' own3 hb5
          have g1 : W5.cell? ⟨g, m, none⟩ = some (.int .u64 (ua : Int)) := (hb5.cell (p := ⟨g, m, none⟩) hgl3).trans f1
          have g2 : W5.cell? ⟨g, k, none⟩ = some (.int .u64 (ub : Int)) := (hb5.cell (p := ⟨g, k, none⟩) hgl3).trans f2
          have z1 := own5.frozenAt m
          have z2 := own5.frozenAt (k)
          have hB5 := hB3.trans (hb5.mono (show base ≤ W3.heap.size by have := hB3.size; omega))
          have SW5 := swapRow2 (p := m) (q := k) (by rw [HL.out]; omega) (by rw [HL.out]; omega) own5 g1 g2
          clear hk1 hk2 f1 f2 ho hy
          go_wp2
          go_region
          go_wp2
          obtain ⟨zs, hz, hoz⟩ := SW5
          go_roundg (n - (c))
          case measure => have := HCE.out; rw [HG.out]; omega
          case rel => exact ⟨c, zs, rfl, by omega, by go_num, hz.trans HP.out, hoz, ((hB5.setCell (p := ⟨g, m, none⟩) hgb _).setCell (p := ⟨g, k, none⟩) hgb _).drew⟩
        · have HU := Lib.hid (decide_eq_false hu)
          go_wp2
          refine wp_region_blw (by kernel_rfl) (by kernel_rfl) ?_
          repeat (go_big_quiet_step (first | (go_at_call 215; exact Calls.blw_of_same _ (less_any _ _ _))))
          refine wpQuiet_nil ?_
          rintro W5 ⟨⟨_, hb5⟩, rfl⟩
          rw [HU.out]
          go_wp2
          refine bodyPost_ret (results_none rfl _ _ _) rfl ?_
          exact ⟨rfl, xs, HP.out, ownsRow_below' own3 hb5, hB3.trans (hb5.mono (by have := hB3.size; omega))⟩
    · go_wp2
      go_end0
      exact ⟨rfl, xs, HP.out, hown, hB⟩
end Go.Proofs.YtifddfchpknkbaaGreatDoor
