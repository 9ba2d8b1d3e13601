import Derived.Test.YtifddfchpknkbaaGreatDoorSr
set_option linter.unusedVariables false
set_option linter.unusedSimpArgs false
namespace Go.Proofs.YtifddfchpknkbaaGreatDoor
open Go.RowKit

theorem sift0 (base g cap n hi first : Nat) (ds : List Nat) (w : World) (hf : first + hi ≤ n) (hn : n ≤ 1000000) (hgb : base ≤ g) (hbase : base ≤ w.heap.size) (hl : ds.length = n) (hown : w.ownsRow base 177 1 (srow g n cap) n (ds.map u64V)) :
    Calls Tryz.prog 230 #[srow g n cap, .int .i64 0, .int .i64 hi, .int .i64 first] w fun e w' => e = .returned (.tuple #[]) ∧ SortPost base g n cap ds w w' :=
  sift_any base g cap n 0 hi first ds w (by omega) hf hn hgb hbase hl hown

set_option maxRecDepth 100000 in
set_option maxHeartbeats 3200000 in
theorem heap_any (base g cap n a b : Nat) (ds : List Nat) (w : World) (hab : a < b) (hbn : b ≤ n) (hn : n ≤ 1000000) (hgb : base ≤ g) (hbase : base ≤ w.heap.size) (hl : ds.length = n) (hown : w.ownsRow base 177 1 (srow g n cap) n (ds.map u64V)) :
    Calls Tryz.prog 210 #[srow g n cap, .int .i64 a, .int .i64 b] w fun e w' => e = .returned (.tuple #[]) ∧ SortPost base g n cap ds w w' := by
  obtain ⟨d, hdE⟩ : ∃ d : Nat, b = a + (d + 1) := ⟨b - a - 1, by omega⟩
  have hdI : (b : Int) - (a : Int) = (d : Int) + 1 := by omega
  have hdn : d < n := by omega
  have hdI2 : (d : Int) ≤ 1000000 := by omega
  have HDE := Lib.hid hdE; clear hdE
  go_enter Tryz.func210, Tryz.ntmps210
  go_wp2
  go_loopg [9] ((d : Int) / 2 + 1).toNat (fun gg i wr => ∃ (x : Int) (xs : List Nat), gg = (x + 1).toNat ∧ -1 ≤ x ∧ x ≤ (d : Int) ∧ i = .int .i64 x ∧ xs.Perm ds ∧ wr.ownsRow base 177 1 (srow g n cap) n (xs.map u64V) ∧ Below base w wr)
  case atStart => exact ⟨(d : Int) / 2, ds, rfl, by omega, by omega, by go_num, .refl _, hown, Below.refl _ _⟩
  case round =>
    clear hown
    obtain ⟨x, xs, hg, hx0, hx1, rfl, hp, hown, hB⟩ := hrel
    have HG := Lib.hid hg; clear hg
    have HL := Lib.hid (hp.length_eq.trans hl)
    have HP := Lib.hid hp; clear hp
    have hbr : base ≤ wr.heap.size := by have := hB.size; omega
    by_cases hlt : 0 ≤ x
    · obtain ⟨y, rfl⟩ : ∃ y : Nat, x = (y : Int) := ⟨x.toNat, by omega⟩
      go_wp2_with (first | (go_at_call 230; refine (sift_any base g cap n y (d + 1) a xs _ (by omega) (by have := HDE.out; omega) hn hgb hbr HL.out hown).mono ?_; rintro e w1 ⟨rfl, ys, hy, ho, hb⟩))
      go_roundg y
      case measure => rw [HG.out]; omega
      case rel => exact ⟨(y : Int) - 1, ys, by omega, by omega, by omega, by go_num, hy.trans HP.out, ho, hB.trans hb⟩
    · obtain rfl : x = -1 := by omega
      clear HG hx0 hx1 hlt
      rename World => W0
      go_wp2
      go_loopg [10] (d + 1) (fun gg i wr => ∃ (x : Int) (xs : List Nat), gg = (x + 1).toNat ∧ -1 ≤ x ∧ x ≤ (d : Int) ∧ i = .int .i64 x ∧ xs.Perm ds ∧ wr.ownsRow base 177 1 (srow g n cap) n (xs.map u64V) ∧ Below base w wr)
      case atStart => exact ⟨(d : Int), xs, by omega, by omega, by omega, by go_num, HP.out, hown, hB⟩
      case round =>
        clear hown hB hbr HL HP xs
        obtain ⟨x, xs, hg, hx0, hx1, rfl, hp, hown, hB⟩ := hrel
        have HG := Lib.hid hg; clear hg
        have HL := Lib.hid (hp.length_eq.trans hl)
        have HP := Lib.hid hp; clear hp
        have hbr : base ≤ wr.heap.size := by have := hB.size; omega
        by_cases hlt : 0 ≤ x
        · obtain ⟨y, rfl⟩ : ∃ y : Nat, x = (y : Int) := ⟨x.toNat, by omega⟩
          obtain ⟨k, hkE⟩ : ∃ k : Nat, k = a + y := ⟨_, rfl⟩
          have hkI : (a : Int) + (y : Int) = (k : Int) := by omega
          have hkn : k < n := by have := HDE.out; omega
          have han : a < n := by omega
          clear hkE
          have e1 := u64_at hown (j := a) (by rw [HL.out]; omega)
          have e2 := u64_at hown (j := k) (by rw [HL.out]; omega)
          have z1 := hown.frozenAt a
          have z2 := hown.frozenAt k
          have SW := swapRow (p := a) (q := k) (by rw [HL.out]; omega) (by rw [HL.out]; omega) hown
          generalize xs[a]'_ = va at *
          generalize xs[k]'_ = vb at *
          obtain ⟨ys, hy, ho⟩ := SW
          obtain ⟨uk, huk⟩ := swapCell (p := a) (q := k) (by rw [HL.out]; omega) hown vb
          have hB2 := (hB.setCell (p := ⟨g, a, none⟩) hgb (.int .u64 (vb : Int))).setCell (p := ⟨g, k, none⟩) hgb (.int .u64 (va : Int))
          have HO := Lib.hid ho; have HB2 := Lib.hid hB2; have HY := Lib.hid (hy.length_eq.trans HL.out)
          clear ho hB2
          go_wp2
          go_region
          have HS := fun W h1 h2 => sift0 base g cap n y a ys W (by omega) hn hgb h1 HY.out h2
          go_wp2_with (first | (go_at_call 230; refine (HS _ (Nat.le_trans hbase HB2.out.drew.size) HO.out).mono ?_; rintro e w1 ⟨rfl, zs, hz, hoz, hb⟩))
          go_roundg y
          case measure => rw [HG.out]; omega
          case rel => exact ⟨(y : Int) - 1, zs, by omega, by omega, by omega, by go_num, (hz.trans hy).trans HP.out, hoz, HB2.out.drew.trans hb⟩
        · go_wp2
          go_end0
          exact ⟨rfl, xs, HP.out, hown, hB⟩
end Go.Proofs.YtifddfchpknkbaaGreatDoor
