import Derived.Test.YtifddfchpknkbaaGreatDoorSn2
set_option linter.unusedVariables false
set_option linter.unusedSimpArgs false
namespace Go.Proofs.YtifddfchpknkbaaGreatDoor
open Go.RowKit

theorem SI.len {base g n cap : Nat} {ds xs : List Nat} {w W : World} (h : SI base g n cap ds xs w W) (hl : ds.length = n) : xs.length = n := by rw [h.1.length_eq]; exact hl
theorem SI.siz {base g n cap : Nat} {ds xs : List Nat} {w W : World} (h : SI base g n cap ds xs w W) (hb : base ≤ w.heap.size) : base ≤ W.heap.size := Nat.le_trans hb h.2.2.size
theorem SI.chain {base g n cap : Nat} {ds xs ys : List Nat} {w W W2 : World} (h : SI base g n cap ds xs w W) (k : SI base g n cap xs ys W W2) : SI base g n cap ds ys w W2 := ⟨k.1.trans h.1, k.2.1, h.2.2.trans k.2.2⟩

theorem part0 (base g cap n b pv : Nat) (ds : List Nat) (w : World) (hpb : pv < b) (hbn : b ≤ n) (hn : n ≤ 1000000) (hgb : base ≤ g) (hbase : base ≤ w.heap.size) (hl : ds.length = n) (hown : w.ownsRow base 177 1 (srow g n cap) n (ds.map u64V)) :
    Calls Tryz.prog 217 #[srow g n cap, .int .i64 0, .int .i64 b, .int .i64 pv] w (PartPost base g n cap 0 b ds w) :=
  part_any base g cap n 0 b pv ds w (Nat.zero_le _) hpb hbn hn hgb hbase hl hown

set_option maxRecDepth 100000 in
set_option maxHeartbeats 6400000 in
theorem pdq_any (base g cap n : Nat) (hn : n ≤ 1000000) (hgb : base ≤ g) : ∀ (m a b : Nat) (lim : Int) (ds : List Nat) (w : World), b - a = m → a ≤ b → b ≤ n → base ≤ w.heap.size → ds.length = n → w.ownsRow base 177 1 (srow g n cap) n (ds.map u64V) →
    Calls Tryz.prog 193 #[srow g n cap, .int .i64 a, .int .i64 b, .int .i64 lim] w (BrkPost base g n cap ds w) := by
  intro m
  induction m using Nat.strongRecOn with
  | _ m IH =>
  intro a b lim ds w hm hab hbn hbase hl hown
  have H0 : SI base g n cap ds ds w w := ⟨.refl _, hown, Below.refl _ _⟩
  have IH2 : ∀ (a b : Nat) (lim : Int) (ds : List Nat) (w : World), b - a < m → a ≤ b → b ≤ n → base ≤ w.heap.size → ds.length = n → w.ownsRow base 177 1 (srow g n cap) n (ds.map u64V) →
    Calls Tryz.prog 193 #[srow g n cap, .int .i64 a, .int .i64 b, .int .i64 lim] w (BrkPost base g n cap ds w) := fun a b lim ds w h => IH _ h a b lim ds w rfl
  have HI := Lib.hid IH2
  clear IH IH2 hown
  go_enter Tryz.func193, Tryz.ntmps193
  go_wp2
  go_loopg [1, 2, 3, 8, 9] m (fun gg i j l x y wr => ∃ (a1 b1 : Nat) (lim : Int) (bx bP : Bool) (xs : List Nat), gg = b1 - a1 ∧ b1 - a1 ≤ m ∧ a1 ≤ b1 ∧ b1 ≤ n ∧ i = .int .i64 a1 ∧ j = .int .i64 b1 ∧ l = .int .i64 lim ∧ x = .bool bx ∧ y = .bool bP ∧ SI base g n cap ds xs w wr)
  case atStart => exact ⟨a, b, lim, true, true, ds, by omega, by omega, hab, hbn, rfl, rfl, rfl, rfl, rfl, H0⟩
  case round =>
    clear H0 hab hbn lim
    obtain ⟨a1, b1, lim, bx, bP, xs, hg, hgm, hab, hb1, rfl, rfl, rfl, rfl, rfl, H1⟩ := hrel
    have HG := Lib.hid hg; clear hg
    have HM := Lib.hid hm; clear hm
    rename World => W1
    have HLB := Lib.hid (H1.siz hbase)
    have HLX := Lib.hid (H1.len hl)
    obtain ⟨d, hdE⟩ : ∃ d : Nat, d = b1 - a1 := ⟨_, rfl⟩
    have hdI : (b1 : Int) - (a1 : Int) = (d : Int) := by omega
    have hdn : d ≤ 1000000 := by omega
    have HDE := Lib.hid hdE; clear hdE
    by_cases hs : d ≤ 12
    · go_wp2_with (first | (go_at_call 209; refine (insr_any base g cap n a1 b1 xs _ hab hb1 hn hgb HLB.out HLX.out H1.2.1).mono ?_; rintro e w1 ⟨rfl, h1⟩))
      refine bodyPost_ret (results_none rfl _ _ _) rfl ?_
      obtain ⟨ys, hy⟩ := h1
      exact ⟨rfl, ys, H1.chain hy⟩
    · have hab12 : a1 + 12 < b1 := by have := HDE.out; omega
      have hab1 : a1 < b1 := by omega
      by_cases hz : lim = 0
      · subst hz
        go_wp2_with (first | (go_at_call 210; refine (heap_any base g cap n a1 b1 xs _ hab1 hb1 hn hgb HLB.out HLX.out H1.2.1).mono ?_; rintro e w1 ⟨rfl, h1⟩))
        refine bodyPost_ret (results_none rfl _ _ _) rfl ?_
        obtain ⟨ys, hy⟩ := h1
        exact ⟨rfl, ys, H1.chain hy⟩
      · have hzf : (lim == 0) = false := by simpa using hz
        go_upto_if 35 with fail
        go_cut [3] from 36 to 42 (fun l wx => ∃ (lim' : Int) (ys : List Nat), l = .int .i64 lim' ∧ SI base g n cap ds ys w wx)
        case first =>
          cases bx
          · go_wp2_with (first | (go_at_call 211; refine (break_any base g cap n a1 b1 xs _ hab12 hb1 hn hgb HLB.out HLX.out H1.2.1).mono ?_; rintro e w1 ⟨rfl, ys, h1⟩))
            go_meet
            case rel => exact ⟨_, ys, rfl, H1.chain h1⟩
          · go_wp2
            go_meet
            case rel => exact ⟨lim, xs, rfl, H1⟩
        case rest =>
          obtain ⟨lim', ys, rfl, H2⟩ := hcut
          clear HLB HLX H1
          have HLB := Lib.hid (H2.siz hbase)
          have HLY := Lib.hid (H2.len hl)
          have HPV := Lib.hid (pivot_any g cap n a1 b1 _ hab12 hb1 hn H2.lt (fun j hj => H2.at hl hj))
          go_upto_if 50 with (first | (go_at_call 212; refine HPV.out.mono ?_; rintro e w2 ⟨p, h, rfl, hp1, hp2, hb2⟩; have H3 := H2.more hbase hb2))
          go_cut [11, 12] from 51 to 61 (fun v h wx => ∃ (p' : Nat) (h' : Int) (zs : List Nat), v = .int .i64 p' ∧ h = .int .i64 h' ∧ a1 ≤ p' ∧ p' < b1 ∧ SI base g n cap ds zs w wx)
          case first =>
            by_cases h2 : h = 2
            · subst h2
              obtain ⟨p', hpE⟩ : ∃ p' : Nat, (p' : Int) = (b1 : Int) - 1 - ((p : Int) - (a1 : Int)) := ⟨((b1 : Int) - 1 - ((p : Int) - (a1 : Int))).toNat, by omega⟩
              have hpI : (b1 : Int) - 1 - ((p : Int) - (a1 : Int)) = (p' : Int) := by omega
              have hpn : a1 ≤ p' ∧ p' < b1 := by omega
              clear hpE
              go_wp2_with (first | (go_at_call 213; refine (reverse_any base g cap n a1 b1 ys _ hab1 hb1 hn hgb HLY.out H3.2.1).mono ?_; rintro e w3 ⟨rfl, h1⟩))
              go_meet
              case rel =>
                obtain ⟨zs, hz⟩ := h1
                exact ⟨p', 1, zs, by go_num, rfl, hpn.1, hpn.2, H3.chain hz⟩
            · have h2f : (h == 2) = false := by simpa using h2
              go_wp2
              go_meet
              case rel => exact ⟨p, h, ys, rfl, rfl, hp1, hp2, H3⟩
          case rest =>
            obtain ⟨p, h, ys, rfl, rfl, hp1, hp2, H4⟩ := hcut
            clear HLB HLY H2 H3 HPV
            have HLB := Lib.hid (H4.siz hbase)
            have HLY := Lib.hid (H4.len hl)
            go_upto_region 15 with fail
            go_cut [68] from 61 to 68 (fun c wx => ∃ t : Bool, c = .bool t ∧ SI base g n cap ds ys w wx)
            case first =>
              by_cases h1 : h = 1
              · subst h1
                cases bx <;> cases bP <;> (go_wp2; go_meet; case rel => exact ⟨_, rfl, H4⟩)
              · have h1f : (h == 1) = false := by simpa using h1
                cases bx <;> cases bP <;> (go_wp2; go_meet; case rel => exact ⟨_, rfl, H4⟩)
            case rest =>
              clear HLB HLY H4
              obtain ⟨t, rfl, H4⟩ := hcut
              have HLB := Lib.hid (H4.siz hbase)
              have HLY := Lib.hid (H4.len hl)
              go_upto_if 68 with fail
              go_cut [] from 69 to 73 (fun wx => ∃ zs : List Nat, SI base g n cap ds zs w wx)
              case first =>
                cases t
                · go_wp2
                  go_meet
                  case rel => exact ⟨ys, H4⟩
                · go_wp2_with (first | (go_at_call 214; refine (partins_any base g cap n a1 b1 ys _ hab1 hb1 hn hgb HLB.out HLY.out H4.2.1).mono ?_; rintro e w4 ⟨f, zs, rfl, h5⟩))
                  · refine bodyPost_ret (results_none rfl _ _ _) rfl ?_
                    exact ⟨rfl, zs, H4.chain h5⟩
                  · go_meet
                    case rel => exact ⟨zs, H4.chain h5⟩
              case rest =>
              obtain ⟨zs, H5⟩ := hcut
              clear HLB HLY H4
              rename World => W5
              have HLR : ∀ mid : Nat, a1 ≤ mid → mid < b1 → ∃ L R M1 : Nat, (mid : Int) - (a1 : Int) = (L : Int) ∧ (b1 : Int) - (mid : Int) = (R : Int) ∧ (mid : Int) + 1 = (M1 : Int) ∧ (L = mid - a1 ∧ R = b1 - mid ∧ M1 = mid + 1) := fun mid h1 h2 => ⟨mid - a1, b1 - mid, mid + 1, by omega, by omega, by omega, rfl, rfl, rfl⟩
              go_upto_region 17 with fail
              rcases Nat.eq_zero_or_pos a1 with ha0 | ha0
              · clear hdI
                have HLR0 : ∀ mid : Nat, mid < b1 → ∃ R M1 : Nat, (b1 : Int) - (mid : Int) = (R : Int) ∧ (mid : Int) + 1 = (M1 : Int) ∧ (R = b1 - mid ∧ M1 = mid + 1) := fun mid h2 => ⟨b1 - mid, mid + 1, by omega, by omega, rfl, rfl⟩
                clear HLR
                subst ha0
                go_wp2
                refine wp_region_blw (by kernel_rfl) (by kernel_rfl) ?_
                repeat (go_big_quiet_step (first | (go_at_call 215; exact Calls.blw_of_same _ (less_any _ _ _))))
                refine wpQuiet_nil ?_
                rintro W8 ⟨⟨_, hb8⟩, rfl⟩
                have H8 := H5.more hbase hb8
                clear hb8
                have HLB := Lib.hid (H8.siz hbase)
                have HLZ := Lib.hid (H8.len hl)
                go_upto_if 113 with (first | (go_at_call 217; refine (part0 base g cap n b1 p zs _ hp2 hb1 hn hgb HLB.out HLZ.out H8.2.1).mono ?_; rintro e w6 ⟨mid, f, vs, rfl, hm1, hm2, H6⟩; obtain ⟨R, M1, hRI, hMI, hlE⟩ := HLR0 mid hm2; have H7 := H8.chain H6))
                have HLE := Lib.hid hlE
                clear hlE H6
                have HLB7 := Lib.hid (H7.siz hbase)
                have HLV := Lib.hid (H7.len hl)
                by_cases hlr : mid < R
                · have HR : Calls Tryz.prog 193 #[srow g n cap, .int .i64 0, .int .i64 mid, .int .i64 lim'] w6 (BrkPost base g n cap vs w6) := HI.out 0 mid lim' vs w6 (by have := HM.out; have := HLE.out; have := HDE.out; omega) (by omega) (by omega) HLB7.out HLV.out H7.2.1
                  go_wp2_with (first | (go_at_call 193; refine HR.mono ?_; rintro e w7 ⟨rfl, us, h8⟩))
                  go_roundg (b1 - M1)
                  case measure => have := HLE.out; rw [HG.out]; omega
                  case rel => exact ⟨M1, b1, lim', _, f, us, rfl, by have := HLE.out; omega, by have := HLE.out; omega, hb1, by go_num, rfl, rfl, rfl, rfl, H7.chain h8⟩
                · have HR := HI.out M1 b1 lim' vs w6 (by have := HM.out; have := HLE.out; have := HDE.out; omega) (by have := HLE.out; omega) hb1 HLB7.out HLV.out H7.2.1
                  go_wp2_with (first | (go_at_call 193; refine HR.mono ?_; rintro e w7 ⟨rfl, us, h8⟩))
                  go_roundg mid
                  case measure => have := HLE.out; rw [HG.out]; omega
                  case rel => exact ⟨0, mid, lim', _, f, us, by omega, by have := HLE.out; omega, by omega, by omega, rfl, by go_num, rfl, rfl, rfl, H7.chain h8⟩
              · obtain ⟨k, hkE⟩ : ∃ k : Nat, a1 = k + 1 := ⟨a1 - 1, by omega⟩
                have hkI : (a1 : Int) - 1 = (k : Int) := by omega
                have hkn : k < n := by omega
                have hpn : p < n := by omega
                clear hkE
                have gl5 := H5.lt
                obtain ⟨va, c5⟩ := H5.at hl (j := k) (by omega)
                obtain ⟨vb, e5⟩ := H5.at hl (j := p) (by omega)
                have dc5 := fun (pz : Blw W5.heap.size W5) => blw_cell (a := ⟨g, k, none⟩) gl5 c5 pz
                have de5 := fun (pz : Blw W5.heap.size W5) => blw_cell (a := ⟨g, p, none⟩) gl5 e5 pz
                by_cases h5 : va < vb
                · have HU := Lib.hid (decide_eq_true h5)
                  go_wp2
                  refine wp_region_blw (by kernel_rfl) (by kernel_rfl) ?_
                  repeat (go_big_quiet_step (first | (go_at_call 215; exact Calls.blw_of_same _ (less_any _ _ _))))
                  refine wpQuiet_nil ?_
                  rintro W8 ⟨⟨_, hb8⟩, rfl⟩
                  have H8 := H5.more hbase hb8
                  clear hb8
                  rw [HU.out]
                  clear c5 e5 dc5 de5 gl5
                  have HLB := Lib.hid (H8.siz hbase)
                  have HLZ := Lib.hid (H8.len hl)
                  go_upto_if 113 with (first | (go_at_call 217; refine (part_any base g cap n a1 b1 p zs _ hp1 hp2 hb1 hn hgb HLB.out HLZ.out H8.2.1).mono ?_; rintro e w6 ⟨mid, f, vs, rfl, hm1, hm2, H6⟩; obtain ⟨L, R, M1, hLI, hRI, hMI, hlE⟩ := HLR mid hm1 hm2; have H7 := H8.chain H6))
                  have HLE := Lib.hid hlE
                  clear hlE H6
                  have HLB7 := Lib.hid (H7.siz hbase)
                  have HLV := Lib.hid (H7.len hl)
                  by_cases hlr : L < R
                  · have HR := HI.out a1 mid lim' vs w6 (by have := HM.out; have := HLE.out; have := HDE.out; omega) hm1 (by omega) HLB7.out HLV.out H7.2.1
                    go_wp2_with (first | (go_at_call 193; refine HR.mono ?_; rintro e w7 ⟨rfl, us, h8⟩))
                    go_roundg (b1 - M1)
                    case measure => have := HLE.out; rw [HG.out]; omega
                    case rel => exact ⟨M1, b1, lim', _, f, us, rfl, by have := HLE.out; omega, by have := HLE.out; omega, hb1, by go_num, rfl, rfl, rfl, rfl, H7.chain h8⟩
                  · have HR := HI.out M1 b1 lim' vs w6 (by have := HM.out; have := HLE.out; have := HDE.out; omega) (by have := HLE.out; omega) hb1 HLB7.out HLV.out H7.2.1
                    go_wp2_with (first | (go_at_call 193; refine HR.mono ?_; rintro e w7 ⟨rfl, us, h8⟩))
                    go_roundg (mid - a1)
                    case measure => have := HLE.out; rw [HG.out]; omega
                    case rel => exact ⟨a1, mid, lim', _, f, us, rfl, by have := HLE.out; omega, hm1, by omega, rfl, by go_num, rfl, rfl, rfl, H7.chain h8⟩
                · have HU := Lib.hid (decide_eq_false h5)
                  go_wp2
                  refine wp_region_blw (by kernel_rfl) (by kernel_rfl) ?_
                  repeat (go_big_quiet_step (first | (go_at_call 215; exact Calls.blw_of_same _ (less_any _ _ _))))
                  refine wpQuiet_nil ?_
                  rintro W8 ⟨⟨_, hb8⟩, rfl⟩
                  have H8 := H5.more hbase hb8
                  clear hb8
                  rw [HU.out]
                  clear c5 e5 dc5 de5 gl5
                  have HLB := Lib.hid (H8.siz hbase)
                  have HLZ := Lib.hid (H8.len hl)
                  go_wp2_with (first | (go_at_call 216; refine (parteq_any base g cap n a1 b1 p zs _ hp1 hp2 hb1 hn hgb HLB.out HLZ.out H8.2.1).mono ?_; rintro e w6 ⟨mid, vs, rfl, hm1, hm2, H6⟩))
                  go_roundg (b1 - mid)
                  case measure => rw [HG.out]; omega
                  case rel => exact ⟨mid, b1, lim', _, _, vs, rfl, by omega, hm2, hb1, rfl, rfl, rfl, rfl, rfl, H8.chain H6⟩
end Go.Proofs.YtifddfchpknkbaaGreatDoor
