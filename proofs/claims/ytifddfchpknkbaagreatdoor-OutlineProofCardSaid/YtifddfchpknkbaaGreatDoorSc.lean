import Derived.Test.YtifddfchpknkbaaGreatDoorSb
set_option linter.unusedVariables false
set_option linter.unusedSimpArgs false
namespace Go.Proofs.YtifddfchpknkbaaGreatDoor
open Go.RowKit

def BoolPost (base g n cap : Nat) (ds : List Nat) (w : World) (e : Ending) (w' : World) : Prop :=
  ∃ (f : Bool) (xs : List Nat), e = .returned (.bool f) ∧ SI base g n cap ds xs w w'

set_option maxRecDepth 100000 in
set_option maxHeartbeats 6400000 in
theorem partins_any (base g cap n a b : Nat) (ds : List Nat) (w : World) (hab : a < b) (hbn : b ≤ n) (hn : n ≤ 1000000) (hgb : base ≤ g) (hbase : base ≤ w.heap.size) (hl : ds.length = n) (hown : w.ownsRow base 177 1 (srow g n cap) n (ds.map u64V)) :
    Calls Tryz.prog 214 #[srow g n cap, .int .i64 a, .int .i64 b] w (BoolPost base g n cap ds w) := by
  have H0 : SI base g n cap ds ds w w := ⟨.refl _, hown, Below.refl _ _⟩
  clear hown
  go_enter Tryz.func214, Tryz.ntmps214
  go_wp2
  go_loopg [7, 8] 5 (fun gg i j wr => ∃ (p k : Nat) (xs : List Nat), gg = 5 - k ∧ k ≤ 5 ∧ a < p ∧ p ≤ b ∧ i = .int .i64 p ∧ j = .int .i64 k ∧ SI base g n cap ds xs w wr)
  case atStart => exact ⟨a + 1, 0, ds, rfl, by omega, by omega, by omega, by go_num, rfl, H0⟩
  case round =>
    clear H0
    obtain ⟨p, k, xs, hg, hk, hp1, hp2, rfl, rfl, H1⟩ := hrel
    have HG := Lib.hid hg; clear hg
    rename World => W1
    by_cases hk5 : k < 5
    · go_wp2
      go_loopg [7] (b - p) (fun gg i wr => ∃ (p' : Nat), gg = b - p' ∧ a < p' ∧ p' ≤ b ∧ i = .int .i64 p' ∧ SI base g n cap ds xs w wr)
      case atStart => exact ⟨p, rfl, by omega, by omega, rfl, H1⟩
      case round =>
        clear H1 hp1 hp2
        obtain ⟨p', hg, hp1, hp2, rfl, H2⟩ := hrel
        have HG2 := Lib.hid hg; clear hg
        rename World => W2
        obtain ⟨r, hrE⟩ : ∃ r : Nat, p' = r + 1 := ⟨p' - 1, by omega⟩
        have hrI : (p' : Int) - 1 = (r : Int) := by omega
        have HRE := Lib.hid hrE
        have hrn : r < n := by omega
        clear hrE
        by_cases h1 : p' < b
        · have hpn : p' < n := by omega
          have gl2 := H2.lt
          obtain ⟨va, c2⟩ := H2.at hl (j := p') (by omega)
          obtain ⟨vb, e2⟩ := H2.at hl (j := r) (by omega)
          have dc2 := fun (pz : Blw W2.heap.size W2) => blw_cell (a := ⟨g, p', none⟩) gl2 c2 pz
          have de2 := fun (pz : Blw W2.heap.size W2) => blw_cell (a := ⟨g, r, none⟩) gl2 e2 pz
          by_cases h2 : va < vb
          · have HU := Lib.hid (decide_eq_true h2)
            go_wp2
            refine wp_region_blw (by kernel_rfl) (by kernel_rfl) ?_
            repeat (go_big_quiet_step (first | (go_at_call 215; exact Calls.blw_of_same _ (less_any _ _ _))))
            refine wpQuiet_nil ?_
            rintro W3 ⟨⟨_, hb3⟩, rfl⟩
            have H3 := H2.more hbase hb3
            clear hb3
            rw [HU.out]
            clear c2 e2 dc2 de2 gl2 h2 HU H2
            have hne : ((p' : Int) == (b : Int)) = false := by simp; omega
            by_cases h50 : b < a + 50
            · obtain ⟨d, hdE⟩ : ∃ d : Nat, b = a + d := ⟨b - a, by omega⟩
              have hdI : (b : Int) - (a : Int) = (d : Int) := by omega
              have hd : d < 50 := by omega
              clear hdE
              go_wp2
              go_ret
              exact ⟨false, xs, rfl, H3⟩
            · obtain ⟨d, hdE⟩ : ∃ d : Nat, b = a + 50 + d := ⟨b - (a + 50), by omega⟩
              have hdI : (b : Int) - (a : Int) = (d : Int) + 50 := by omega
              clear hdE
              obtain ⟨sa4, sc4⟩ := H3.at hl (j := p') (by omega)
              obtain ⟨sb4, sd4⟩ := H3.at hl (j := r) (by omega)
              have sy4 := H3.2.1.frozenAt (p')
              have sz4 := H3.2.1.frozenAt (r)
              obtain ⟨⟨ys, S4⟩, ⟨su4, sv4⟩⟩ := H3.swap hl hgb (p := p') (q := r) (by omega) (by omega) sc4 sd4
              have hin4 : p' < n := by omega
              have hjn4 : r < n := by omega
              have S4 := Lib.hid S4
              go_wp2
              go_region
              clear H3 sc4 sd4 sy4 sz4 sv4
              have H5 := S4.out
              clear S4
              by_cases ha2 : p' = a + 1
              · have haI : (p' : Int) - (a : Int) = 1 := by omega
                clear ha2
                by_cases hb2 : b = p' + 1
                · have hbI : (b : Int) - (p' : Int) = 1 := by omega
                  clear hb2
                  go_wp2
                  go_roundg (5 - (k + 1))
                  case measure => rw [HG.out]; omega
                  case rel => exact ⟨p', k + 1, ys, rfl, by omega, by omega, by omega, rfl, by go_num, H5⟩
                · obtain ⟨d2, hd2⟩ : ∃ d : Nat, b = p' + 2 + d := ⟨b - (p' + 2), by omega⟩
                  have hbI : (b : Int) - (p' : Int) = (d2 : Int) + 2 := by omega
                  clear hd2
                  go_wp2
                  go_loopg [10] (b - (p' + 1)) (fun gg j wr => ∃ (t : Nat) (zs : List Nat), gg = b - t ∧ p' < t ∧ t ≤ b ∧ j = .int .i64 t ∧ SI base g n cap ds zs w wr)
                  case atStart => exact ⟨p' + 1, ys, rfl, by omega, by omega, by go_num, H5⟩
                  case round =>
                    clear H5
                    obtain ⟨t, zs, hg, ht1, ht2, rfl, H7⟩ := hrel
                    have HG7 := Lib.hid hg; clear hg
                    rename World => W7
                    by_cases h7 : t < b
                    · obtain ⟨t1, htE⟩ : ∃ i : Nat, t = i + 1 := ⟨t - 1, by omega⟩
                      have htI : (t : Int) - 1 = (t1 : Int) := by omega
                      have htn : t < n := by omega
                      have ht1n : t1 < n := by omega
                      clear htE
                      have gl7 := H7.lt
                      obtain ⟨xa, c7⟩ := H7.at hl (j := t) (by omega)
                      obtain ⟨xb, e7⟩ := H7.at hl (j := t1) (by omega)
                      have dc7 := fun (pz : Blw W7.heap.size W7) => blw_cell (a := ⟨g, t, none⟩) gl7 c7 pz
                      have de7 := fun (pz : Blw W7.heap.size W7) => blw_cell (a := ⟨g, t1, none⟩) gl7 e7 pz
                      by_cases h8 : xa < xb
                      · have HX := Lib.hid (decide_eq_true h8)
                        go_wp2
                        refine wp_region_blw (by kernel_rfl) (by kernel_rfl) ?_
                        repeat (go_big_quiet_step (first | (go_at_call 215; exact Calls.blw_of_same _ (less_any _ _ _))))
                        refine wpQuiet_nil ?_
                        rintro W8 ⟨⟨_, hb8⟩, rfl⟩
                        have H8 := H7.more hbase hb8
                        clear hb8
                        rw [HX.out]
                        clear c7 e7 dc7 de7 gl7
                        obtain ⟨sa9, sc9⟩ := H8.at hl (j := t) (by omega)
                        obtain ⟨sb9, sd9⟩ := H8.at hl (j := t1) (by omega)
                        have sy9 := H8.2.1.frozenAt (t)
                        have sz9 := H8.2.1.frozenAt (t1)
                        obtain ⟨⟨us, S9⟩, ⟨su9, sv9⟩⟩ := H8.swap hl hgb (p := t) (q := t1) (by omega) (by omega) sc9 sd9
                        have hin9 : t < n := by omega
                        have hjn9 : t1 < n := by omega
                        have S9 := Lib.hid S9
                        go_wp2
                        go_region
                        go_wp2
                        go_roundg (b - (t + 1))
                        case measure => rw [HG7.out]; omega
                        case rel => exact ⟨t + 1, us, rfl, by omega, by omega, by go_num, S9.out⟩
                      · have HX := Lib.hid (decide_eq_false h8)
                        go_wp2
                        refine wp_region_blw (by kernel_rfl) (by kernel_rfl) ?_
                        repeat (go_big_quiet_step (first | (go_at_call 215; exact Calls.blw_of_same _ (less_any _ _ _))))
                        refine wpQuiet_nil ?_
                        rintro W8 ⟨⟨_, hb8⟩, rfl⟩
                        have H8 := H7.more hbase hb8
                        clear hb8
                        rw [HX.out]
                        clear c7 e7 dc7 de7 gl7
                        go_wp2
                        go_roundg (5 - (k + 1))
                        case measure => rw [HG.out]; omega
                        case rel => exact ⟨p', k + 1, zs, rfl, by omega, by omega, by omega, rfl, by go_num, H8⟩
                    · go_wp2
                      go_roundg (5 - (k + 1))
                      case measure => rw [HG.out]; omega
                      case rel => exact ⟨p', k + 1, zs, rfl, by omega, by omega, by omega, rfl, by go_num, H7⟩
              · obtain ⟨d1, hd1⟩ : ∃ d : Nat, p' = a + 2 + d := ⟨p' - (a + 2), by omega⟩
                have haI : (p' : Int) - (a : Int) = (d1 : Int) + 2 := by omega
                clear hd1
                go_wp2
                go_loopg [9] (r + 1) (fun gg j wr => ∃ (q : Nat) (zs : List Nat), gg = q + 1 ∧ q ≤ r ∧ j = .int .i64 q ∧ SI base g n cap ds zs w wr)
                case atStart => exact ⟨r, ys, rfl, by omega, by go_num, H5⟩
                case round =>
                  clear H5
                  obtain ⟨q, zs, hg, hq, rfl, H5⟩ := hrel
                  have HG5 := Lib.hid hg; clear hg
                  rename World => W5
                  by_cases hq0 : 1 ≤ q
                  · obtain ⟨q1, hqE⟩ : ∃ i : Nat, q = i + 1 := ⟨q - 1, by omega⟩
                    have hqI : (q : Int) - 1 = (q1 : Int) := by omega
                    have hqn : q < n := by omega
                    have hq1n : q1 < n := by omega
                    have HQE := Lib.hid hqE
                    clear hqE
                    have gl5 := H5.lt
                    obtain ⟨wa, c5⟩ := H5.at hl (j := q) (by omega)
                    obtain ⟨wb, e5⟩ := H5.at hl (j := q1) (by omega)
                    have dc5 := fun (pz : Blw W5.heap.size W5) => blw_cell (a := ⟨g, q, none⟩) gl5 c5 pz
                    have de5 := fun (pz : Blw W5.heap.size W5) => blw_cell (a := ⟨g, q1, none⟩) gl5 e5 pz
                    by_cases h6 : wa < wb
                    · have HV := Lib.hid (decide_eq_true h6)
                      go_wp2
                      refine wp_region_blw (by kernel_rfl) (by kernel_rfl) ?_
                      repeat (go_big_quiet_step (first | (go_at_call 215; exact Calls.blw_of_same _ (less_any _ _ _))))
                      refine wpQuiet_nil ?_
                      rintro W6 ⟨⟨_, hb6⟩, rfl⟩
                      have H6 := H5.more hbase hb6
                      clear hb6
                      rw [HV.out]
                      clear c5 e5 dc5 de5 gl5
                      obtain ⟨sa11, sc11⟩ := H6.at hl (j := q) (by omega)
                      obtain ⟨sb11, sd11⟩ := H6.at hl (j := q1) (by omega)
                      have sy11 := H6.2.1.frozenAt (q)
                      have sz11 := H6.2.1.frozenAt (q1)
                      obtain ⟨⟨us, S11⟩, ⟨su11, sv11⟩⟩ := H6.swap hl hgb (p := q) (q := q1) (by omega) (by omega) sc11 sd11
                      have hin11 : q < n := by omega
                      have hjn11 : q1 < n := by omega
                      have S11 := Lib.hid S11
                      go_wp2
                      go_region
                      go_wp2
                      go_roundg (q1 + 1)
                      case measure => have := HQE.out; rw [HG5.out]; omega
                      case rel => exact ⟨q1, us, rfl, by have := HQE.out; omega, by go_num, S11.out⟩
                    · have HV := Lib.hid (decide_eq_false h6)
                      go_wp2
                      refine wp_region_blw (by kernel_rfl) (by kernel_rfl) ?_
                      repeat (go_big_quiet_step (first | (go_at_call 215; exact Calls.blw_of_same _ (less_any _ _ _))))
                      refine wpQuiet_nil ?_
                      rintro W6 ⟨⟨_, hb6⟩, rfl⟩
                      have H6 := H5.more hbase hb6
                      clear hb6
                      rw [HV.out]
                      clear c5 e5 dc5 de5 gl5 H5
                      by_cases hb2 : b = p' + 1
                      · have hbI : (b : Int) - (p' : Int) = 1 := by omega
                        clear hb2
                        go_wp2
                        go_roundg (5 - (k + 1))
                        case measure => rw [HG.out]; omega
                        case rel => exact ⟨p', k + 1, zs, rfl, by omega, by omega, by omega, rfl, by go_num, H6⟩
                      · obtain ⟨d2, hd2⟩ : ∃ d : Nat, b = p' + 2 + d := ⟨b - (p' + 2), by omega⟩
                        have hbI : (b : Int) - (p' : Int) = (d2 : Int) + 2 := by omega
                        clear hd2
                        go_wp2
                        go_loopg [10] (b - (p' + 1)) (fun gg j wr => ∃ (t : Nat) (zs : List Nat), gg = b - t ∧ p' < t ∧ t ≤ b ∧ j = .int .i64 t ∧ SI base g n cap ds zs w wr)
                        case atStart => exact ⟨p' + 1, zs, rfl, by omega, by omega, by go_num, H6⟩
                        case round =>
                          clear H6
                          obtain ⟨t, zs, hg, ht1, ht2, rfl, H7⟩ := hrel
                          have HG7 := Lib.hid hg; clear hg
                          rename World => W7
                          by_cases h7 : t < b
                          · obtain ⟨t1, htE⟩ : ∃ i : Nat, t = i + 1 := ⟨t - 1, by omega⟩
                            have htI : (t : Int) - 1 = (t1 : Int) := by omega
                            have htn : t < n := by omega
                            have ht1n : t1 < n := by omega
                            clear htE
                            have gl7 := H7.lt
                            obtain ⟨xa, c7⟩ := H7.at hl (j := t) (by omega)
                            obtain ⟨xb, e7⟩ := H7.at hl (j := t1) (by omega)
                            have dc7 := fun (pz : Blw W7.heap.size W7) => blw_cell (a := ⟨g, t, none⟩) gl7 c7 pz
                            have de7 := fun (pz : Blw W7.heap.size W7) => blw_cell (a := ⟨g, t1, none⟩) gl7 e7 pz
                            by_cases h8 : xa < xb
                            · have HX := Lib.hid (decide_eq_true h8)
                              go_wp2
                              refine wp_region_blw (by kernel_rfl) (by kernel_rfl) ?_
                              repeat (go_big_quiet_step (first | (go_at_call 215; exact Calls.blw_of_same _ (less_any _ _ _))))
                              refine wpQuiet_nil ?_
                              rintro W8 ⟨⟨_, hb8⟩, rfl⟩
                              have H8 := H7.more hbase hb8
                              clear hb8
                              rw [HX.out]
                              clear c7 e7 dc7 de7 gl7
                              obtain ⟨sa9, sc9⟩ := H8.at hl (j := t) (by omega)
                              obtain ⟨sb9, sd9⟩ := H8.at hl (j := t1) (by omega)
                              have sy9 := H8.2.1.frozenAt (t)
                              have sz9 := H8.2.1.frozenAt (t1)
                              obtain ⟨⟨us, S9⟩, ⟨su9, sv9⟩⟩ := H8.swap hl hgb (p := t) (q := t1) (by omega) (by omega) sc9 sd9
                              have hin9 : t < n := by omega
                              have hjn9 : t1 < n := by omega
                              have S9 := Lib.hid S9
                              go_wp2
                              go_region
                              go_wp2
                              go_roundg (b - (t + 1))
                              case measure => rw [HG7.out]; omega
                              case rel => exact ⟨t + 1, us, rfl, by omega, by omega, by go_num, S9.out⟩
                            · have HX := Lib.hid (decide_eq_false h8)
                              go_wp2
                              refine wp_region_blw (by kernel_rfl) (by kernel_rfl) ?_
                              repeat (go_big_quiet_step (first | (go_at_call 215; exact Calls.blw_of_same _ (less_any _ _ _))))
                              refine wpQuiet_nil ?_
                              rintro W8 ⟨⟨_, hb8⟩, rfl⟩
                              have H8 := H7.more hbase hb8
                              clear hb8
                              rw [HX.out]
                              clear c7 e7 dc7 de7 gl7
                              go_wp2
                              go_roundg (5 - (k + 1))
                              case measure => rw [HG.out]; omega
                              case rel => exact ⟨p', k + 1, zs, rfl, by omega, by omega, by omega, rfl, by go_num, H8⟩
                          · go_wp2
                            go_roundg (5 - (k + 1))
                            case measure => rw [HG.out]; omega
                            case rel => exact ⟨p', k + 1, zs, rfl, by omega, by omega, by omega, rfl, by go_num, H7⟩
                  · obtain rfl : q = 0 := by omega
                    by_cases hb2 : b = p' + 1
                    · have hbI : (b : Int) - (p' : Int) = 1 := by omega
                      clear hb2
                      go_wp2
                      go_roundg (5 - (k + 1))
                      case measure => rw [HG.out]; omega
                      case rel => exact ⟨p', k + 1, zs, rfl, by omega, by omega, by omega, rfl, by go_num, H5⟩
                    · obtain ⟨d2, hd2⟩ : ∃ d : Nat, b = p' + 2 + d := ⟨b - (p' + 2), by omega⟩
                      have hbI : (b : Int) - (p' : Int) = (d2 : Int) + 2 := by omega
                      clear hd2
                      go_wp2
                      go_loopg [10] (b - (p' + 1)) (fun gg j wr => ∃ (t : Nat) (zs : List Nat), gg = b - t ∧ p' < t ∧ t ≤ b ∧ j = .int .i64 t ∧ SI base g n cap ds zs w wr)
                      case atStart => exact ⟨p' + 1, zs, rfl, by omega, by omega, by go_num, H5⟩
                      case round =>
                        clear H5
                        obtain ⟨t, zs, hg, ht1, ht2, rfl, H7⟩ := hrel
                        have HG7 := Lib.hid hg; clear hg
                        rename World => W7
                        by_cases h7 : t < b
                        · obtain ⟨t1, htE⟩ : ∃ i : Nat, t = i + 1 := ⟨t - 1, by omega⟩
                          have htI : (t : Int) - 1 = (t1 : Int) := by omega
                          have htn : t < n := by omega
                          have ht1n : t1 < n := by omega
                          clear htE
                          have gl7 := H7.lt
                          obtain ⟨xa, c7⟩ := H7.at hl (j := t) (by omega)
                          obtain ⟨xb, e7⟩ := H7.at hl (j := t1) (by omega)
                          have dc7 := fun (pz : Blw W7.heap.size W7) => blw_cell (a := ⟨g, t, none⟩) gl7 c7 pz
                          have de7 := fun (pz : Blw W7.heap.size W7) => blw_cell (a := ⟨g, t1, none⟩) gl7 e7 pz
                          by_cases h8 : xa < xb
                          · have HX := Lib.hid (decide_eq_true h8)
                            go_wp2
                            refine wp_region_blw (by kernel_rfl) (by kernel_rfl) ?_
                            repeat (go_big_quiet_step (first | (go_at_call 215; exact Calls.blw_of_same _ (less_any _ _ _))))
                            refine wpQuiet_nil ?_
                            rintro W8 ⟨⟨_, hb8⟩, rfl⟩
                            have H8 := H7.more hbase hb8
                            clear hb8
                            rw [HX.out]
                            clear c7 e7 dc7 de7 gl7
                            obtain ⟨sa9, sc9⟩ := H8.at hl (j := t) (by omega)
                            obtain ⟨sb9, sd9⟩ := H8.at hl (j := t1) (by omega)
                            have sy9 := H8.2.1.frozenAt (t)
                            have sz9 := H8.2.1.frozenAt (t1)
                            obtain ⟨⟨us, S9⟩, ⟨su9, sv9⟩⟩ := H8.swap hl hgb (p := t) (q := t1) (by omega) (by omega) sc9 sd9
                            have hin9 : t < n := by omega
                            have hjn9 : t1 < n := by omega
                            have S9 := Lib.hid S9
                            go_wp2
                            go_region
                            go_wp2
                            go_roundg (b - (t + 1))
                            case measure => rw [HG7.out]; omega
                            case rel => exact ⟨t + 1, us, rfl, by omega, by omega, by go_num, S9.out⟩
                          · have HX := Lib.hid (decide_eq_false h8)
                            go_wp2
                            refine wp_region_blw (by kernel_rfl) (by kernel_rfl) ?_
                            repeat (go_big_quiet_step (first | (go_at_call 215; exact Calls.blw_of_same _ (less_any _ _ _))))
                            refine wpQuiet_nil ?_
                            rintro W8 ⟨⟨_, hb8⟩, rfl⟩
                            have H8 := H7.more hbase hb8
                            clear hb8
                            rw [HX.out]
                            clear c7 e7 dc7 de7 gl7
                            go_wp2
                            go_roundg (5 - (k + 1))
                            case measure => rw [HG.out]; omega
                            case rel => exact ⟨p', k + 1, zs, rfl, by omega, by omega, by omega, rfl, by go_num, H8⟩
                        · go_wp2
                          go_roundg (5 - (k + 1))
                          case measure => rw [HG.out]; omega
                          case rel => exact ⟨p', k + 1, zs, rfl, by omega, by omega, by omega, rfl, by go_num, H7⟩
          · have HU := Lib.hid (decide_eq_false h2)
            go_wp2
            refine wp_region_blw (by kernel_rfl) (by kernel_rfl) ?_
            repeat (go_big_quiet_step (first | (go_at_call 215; exact Calls.blw_of_same _ (less_any _ _ _))))
            refine wpQuiet_nil ?_
            rintro W3 ⟨⟨_, hb3⟩, rfl⟩
            have H3 := H2.more hbase hb3
            clear hb3
            rw [HU.out]
            clear c2 e2 dc2 de2 gl2
            go_wp2
            go_roundg (b - (p' + 1))
            case measure => rw [HG2.out]; omega
            case rel => exact ⟨p' + 1, rfl, by omega, by omega, by go_num, H3⟩
        · obtain rfl : p' = b := by omega
          go_wp2
          refine wp_region_blw (by kernel_rfl) (by kernel_rfl) ?_
          repeat (go_big_quiet_step (first | (go_at_call 215; exact Calls.blw_of_same _ (less_any _ _ _))))
          refine wpQuiet_nil ?_
          rintro W3 ⟨⟨_, hb3⟩, rfl⟩
          have H3 := H2.more hbase hb3
          clear hb3
          go_wp2
          go_ret
          exact ⟨true, xs, rfl, H3⟩
    · go_wp2
      go_ret
      exact ⟨false, xs, rfl, H1⟩
end Go.Proofs.YtifddfchpknkbaaGreatDoor
