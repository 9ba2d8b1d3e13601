import Derived.Test.YtifddfchpknkbaaGreatDoorSu
set_option linter.unusedVariables false
set_option linter.unusedSimpArgs false
namespace Go.Proofs.YtifddfchpknkbaaGreatDoor
open Go.RowKit

def SI (base g n cap : Nat) (ds xs : List Nat) (w W : World) : Prop :=
  xs.Perm ds ∧ W.ownsRow base 177 1 (srow g n cap) n (xs.map u64V) ∧ Below base w W

theorem SI.more {base g n cap : Nat} {ds xs : List Nat} {w W W3 : World} (h : SI base g n cap ds xs w W) (hbase : base ≤ w.heap.size) (hb : Below W.heap.size W W3) : SI base g n cap ds xs w W3 :=
  ⟨h.1, ownsRow_below' h.2.1 hb, h.2.2.trans (hb.mono (by have := h.2.2.size; omega))⟩

theorem SI.lt {base g n cap : Nat} {ds xs : List Nat} {w W : World} (h : SI base g n cap ds xs w W) : g < W.heap.size := by
  have := h.2.1.lt g rfl; omega

theorem SI.at {base g n cap : Nat} {ds xs : List Nat} {w W : World} (h : SI base g n cap ds xs w W) (hl : ds.length = n) {j : Nat} (hj : j < n) :
    ∃ u : Nat, W.cell? ⟨g, j, none⟩ = some (.int .u64 (u : Int)) :=
  ⟨_, u64_at h.2.1 (j := j) (by rw [h.1.length_eq]; omega)⟩

theorem SI.swap {base g n cap p q ua ub : Nat} {ds xs : List Nat} {w W : World} (h : SI base g n cap ds xs w W) (hl : ds.length = n) (hgb : base ≤ g) (hpn : p < n) (hqn : q < n)
    (h1 : W.cell? ⟨g, p, none⟩ = some (.int .u64 (ua : Int))) (h2 : W.cell? ⟨g, q, none⟩ = some (.int .u64 (ub : Int))) :
    (∃ ys : List Nat, SI base g n cap ds ys w ((W.setCell ⟨g, p, none⟩ (.int .u64 (ub : Int))).setCell ⟨g, q, none⟩ (.int .u64 (ua : Int))).drew) ∧
    (∃ u : Value, (W.setCell ⟨g, p, none⟩ (.int .u64 (ub : Int))).cell? ⟨g, q, none⟩ = some u) := by
  have hx : xs.length = n := by rw [h.1.length_eq]; exact hl
  obtain ⟨ys, hy, ho⟩ := swapRow2 (p := p) (q := q) (by omega) (by omega) h.2.1 h1 h2
  exact ⟨⟨ys, hy.trans h.1, ho, ((h.2.2.setCell (p := ⟨g, p, none⟩) hgb _).setCell (p := ⟨g, q, none⟩) hgb _).drew⟩, swapCell (by omega) h.2.1 ub⟩

def MidPost (base g n cap a b : Nat) (ds : List Nat) (w : World) (e : Ending) (w' : World) : Prop :=
  ∃ (m : Nat) (xs : List Nat), e = .returned (.int .i64 m) ∧ a < m ∧ m ≤ b ∧ SI base g n cap ds xs w w'

set_option maxRecDepth 100000 in
set_option maxHeartbeats 3200000 in
theorem parteq_any (base g cap n a b pv : Nat) (ds : List Nat) (w : World) (hap : a ≤ pv) (hpb : pv < b) (hbn : b ≤ n) (hn : n ≤ 1000000) (hgb : base ≤ g) (hbase : base ≤ w.heap.size) (hl : ds.length = n) (hown : w.ownsRow base 177 1 (srow g n cap) n (ds.map u64V)) :
    Calls Tryz.prog 216 #[srow g n cap, .int .i64 a, .int .i64 b, .int .i64 pv] w (MidPost base g n cap a b ds w) := by
  have H0 : SI base g n cap ds ds w w := ⟨.refl _, hown, Below.refl _ _⟩
  clear hown
  go_enter Tryz.func216, Tryz.ntmps216
  obtain ⟨sa0, sc0⟩ := H0.at hl (j := a) (by omega)
  obtain ⟨sb0, sd0⟩ := H0.at hl (j := pv) (by omega)
  have sy0 := H0.2.1.frozenAt (a)
  have sz0 := H0.2.1.frozenAt (pv)
  obtain ⟨⟨xs0, S0⟩, ⟨su0, sv0⟩⟩ := H0.swap hl hgb (p := a) (q := pv) (by omega) (by omega) sc0 sd0
  have hin0 : a < n := by omega
  have hjn0 : pv < n := by omega
  have S0 := Lib.hid S0
  go_wp2
  go_region
  go_wp2
  clear sc0 sd0 sy0 sz0 sv0 H0
  go_loopg [9, 10] (b + 1 - a) (fun gg i j wr => ∃ (p q : Nat) (xs : List Nat), gg = q + 3 - p ∧ a < p ∧ p ≤ b ∧ a ≤ q ∧ q < b ∧ p ≤ q + 2 ∧ i = .int .i64 p ∧ j = .int .i64 q ∧ SI base g n cap ds xs w wr)
  case atStart => exact ⟨a + 1, b - 1, xs0, by omega, by omega, by omega, by omega, by omega, by omega, by go_num, by go_num, S0.out⟩
  case round =>
    clear S0
    obtain ⟨p, q, xs, hg, hp1, hp2, hq1, hq2, hpq, rfl, rfl, H1⟩ := hrel
    have HG := Lib.hid hg; clear hg
    rename World => W1
    go_wp2
    go_loopg [9] (q + 1 - p) (fun gg i wr => ∃ (p' : Nat), gg = q + 1 - p' ∧ p ≤ p' ∧ p' ≤ b ∧ p' ≤ q + 2 ∧ i = .int .i64 p' ∧ SI base g n cap ds xs w wr)
    case atStart => exact ⟨p, rfl, by omega, by omega, by omega, rfl, H1⟩
    case round =>
      clear H1
      obtain ⟨p', hg, hp3, hp4, hp5, rfl, H2⟩ := hrel
      have HG2 := Lib.hid hg; clear hg
      rename World => W2
      by_cases h1 : p' ≤ q
      · have han : a < n := by omega
        have hpn : p' < n := by omega
        have gl2 := H2.lt
        obtain ⟨va, c2⟩ := H2.at hl (j := a) (by omega)
        obtain ⟨vb, e2⟩ := H2.at hl (j := p') (by omega)
        have dc2 := fun (pz : Blw W2.heap.size W2) => blw_cell (a := ⟨g, a, none⟩) gl2 c2 pz
        have de2 := fun (pz : Blw W2.heap.size W2) => blw_cell (a := ⟨g, p', none⟩) gl2 e2 pz
        by_cases h2 : va < vb
        · have HU := Lib.hid (decide_eq_true h2)
          go_wp2
          refine wp_region_blw (by kernel_rfl) (by kernel_rfl) ?_
          repeat (go_big_quiet_step (first | (go_at_call 215; exact Calls.blw_of_same _ (less_any _ _ _))))
          refine wpQuiet_nil ?_
          rintro W3 ⟨⟨_, hb3⟩, rfl⟩
          have H3 := H2.more hbase hb3
          clear hb3
          rw [HU.out]
          clear c2 e2 dc2 de2 gl2
          go_wp2
          go_loopg [10] (q + 1) (fun gg j wr => ∃ (q' : Nat), gg = q' + 1 ∧ q' ≤ q ∧ a ≤ q' ∧ p' ≤ q' + 1 ∧ j = .int .i64 q' ∧ SI base g n cap ds xs w wr)
          case atStart => exact ⟨q, rfl, by omega, by omega, by omega, rfl, H3⟩
          case round =>
            clear H3 H2
            obtain ⟨q', hg, hq3, hq4, hq5, rfl, H4⟩ := hrel
            have HG3 := Lib.hid hg; clear hg
            rename World => W4
            by_cases h3 : p' ≤ q'
            · have hqn : q' < n := by omega
              have gl4 := H4.lt
              obtain ⟨wa, c4⟩ := H4.at hl (j := a) (by omega)
              obtain ⟨wb, e4⟩ := H4.at hl (j := q') (by omega)
              have dc4 := fun (pz : Blw W4.heap.size W4) => blw_cell (a := ⟨g, a, none⟩) gl4 c4 pz
              have de4 := fun (pz : Blw W4.heap.size W4) => blw_cell (a := ⟨g, q', none⟩) gl4 e4 pz
              by_cases h4 : wa < wb
              · have HV := Lib.hid (decide_eq_true h4)
                go_wp2
                refine wp_region_blw (by kernel_rfl) (by kernel_rfl) ?_
                repeat (go_big_quiet_step (first | (go_at_call 215; exact Calls.blw_of_same _ (less_any _ _ _))))
                refine wpQuiet_nil ?_
                rintro W5 ⟨⟨_, hb5⟩, rfl⟩
                have H5 := H4.more hbase hb5
                clear hb5
                rw [HV.out]
                clear c4 e4 dc4 de4 gl4
                obtain ⟨q2, rfl⟩ : ∃ i, q' = i + 1 := ⟨q' - 1, by omega⟩
                go_wp2
                go_roundg (q2 + 1)
                case measure => rw [HG3.out]; omega
                case rel => exact ⟨q2, rfl, by omega, by omega, by omega, by go_num, H5⟩
              · have HV := Lib.hid (decide_eq_false h4)
                go_wp2
                refine wp_region_blw (by kernel_rfl) (by kernel_rfl) ?_
                repeat (go_big_quiet_step (first | (go_at_call 215; exact Calls.blw_of_same _ (less_any _ _ _))))
                refine wpQuiet_nil ?_
                rintro W5 ⟨⟨_, hb5⟩, rfl⟩
                have H5 := H4.more hbase hb5
                clear hb5
                rw [HV.out]
                clear c4 e4 dc4 de4 gl4
                obtain ⟨q2, rfl⟩ : ∃ i, q' = i + 1 := ⟨q' - 1, by omega⟩
                have hgt : ¬ (q2 + 1 < p') := by omega
                obtain ⟨sa6, sc6⟩ := H5.at hl (j := p') (by omega)
                obtain ⟨sb6, sd6⟩ := H5.at hl (j := q2 + 1) (by omega)
                have sy6 := H5.2.1.frozenAt (p')
                have sz6 := H5.2.1.frozenAt (q2 + 1)
                obtain ⟨⟨ys, S6⟩, ⟨su6, sv6⟩⟩ := H5.swap hl hgb (p := p') (q := q2 + 1) (by omega) (by omega) sc6 sd6
                have hin6 : p' < n := by omega
                have hjn6 : q2 + 1 < n := by omega
                have S6 := Lib.hid S6
                go_wp2
                go_region
                go_wp2
                go_roundg (q2 + 3 - (p' + 1))
                case measure => rw [HG.out]; omega
                case rel => exact ⟨p' + 1, q2, ys, rfl, by omega, by omega, by omega, by omega, by omega, by go_num, by go_num, S6.out⟩
            · have hgt : q' < p' := by omega
              go_wp2
              refine wp_region_blw (by kernel_rfl) (by kernel_rfl) ?_
              repeat (go_big_quiet_step (first | (go_at_call 215; exact Calls.blw_of_same _ (less_any _ _ _))))
              refine wpQuiet_nil ?_
              rintro W5 ⟨⟨_, hb5⟩, rfl⟩
              have H5 := H4.more hbase hb5
              clear hb5
              go_wp2
              go_ret
              exact ⟨p', xs, rfl, by omega, by omega, H5⟩
        · have HU := Lib.hid (decide_eq_false h2)
          go_wp2
          refine wp_region_blw (by kernel_rfl) (by kernel_rfl) ?_
          repeat (go_big_quiet_step (first | (go_at_call 215; exact Calls.blw_of_same _ (less_any _ _ _))))
          refine wpQuiet_nil ?_
          rintro W3 ⟨⟨_, hb3⟩, rfl⟩
          have H3 := H2.more hbase hb3
          clear hb3
          rw [HU.out]
          clear c2 e2 dc2 de2 gl2
          go_wp2
          go_roundg (q + 1 - (p' + 1))
          case measure => rw [HG2.out]; omega
          case rel => exact ⟨p' + 1, rfl, by omega, by omega, by omega, by go_num, H3⟩
      · have hgt : q < p' := by omega
        go_wp2
        refine wp_region_blw (by kernel_rfl) (by kernel_rfl) ?_
        repeat (go_big_quiet_step (first | (go_at_call 215; exact Calls.blw_of_same _ (less_any _ _ _))))
        refine wpQuiet_nil ?_
        rintro W3 ⟨⟨_, hb3⟩, rfl⟩
        have H3 := H2.more hbase hb3
        clear hb3
        go_wp2
        go_loop [10] (fun j => j = .int .i64 q) (fun _ => 0)
        case atStart => rfl
        case round =>
          subst hrel
          go_wp2
          refine wp_region_blw (by kernel_rfl) (by kernel_rfl) ?_
          repeat (go_big_quiet_step (first | (go_at_call 215; exact Calls.blw_of_same _ (less_any _ _ _))))
          refine wpQuiet_nil ?_
          rintro W4 ⟨⟨_, hb4⟩, rfl⟩
          have H4 := H3.more hbase hb4
          clear hb4
          go_wp2
          go_ret
          exact ⟨p', xs, rfl, by omega, by omega, H4⟩
end Go.Proofs.YtifddfchpknkbaaGreatDoor
