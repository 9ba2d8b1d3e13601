import Derived.Test.YtifddfchpknkbaaGreatDoorTd
set_option linter.unusedVariables false
set_option linter.unusedSimpArgs false
namespace Go.Proofs.YtifddfchpknkbaaGreatDoor
open Go.RowKit

abbrev srow (g n cap : Nat) : Value := .slice (some ⟨g, 0, none⟩) n cap

def SortPost (base g n cap : Nat) (ds : List Nat) (w w' : World) : Prop :=
  ∃ ys : List Nat, ys.Perm ds ∧ w'.ownsRow base 177 1 (srow g n cap) n (ys.map u64V) ∧ Below base w w'

theorem swapRow {base g n cap p q : Nat} {xs : List Nat} {wr : World} (hpn : p < xs.length) (hqn : q < xs.length) (hown : wr.ownsRow base 177 1 (srow g n cap) n (xs.map u64V)) :
    ∃ ys : List Nat, ys.Perm xs ∧ ((wr.setCell ⟨g, p, none⟩ (.int .u64 (xs[q] : Int))).setCell ⟨g, q, none⟩ (.int .u64 (xs[p] : Int))).ownsRow base 177 1 (srow g n cap) n (ys.map u64V) := by
  refine ⟨(xs.set p xs[q]).set q xs[p], @List.set_set_perm Nat xs p q hpn hqn, ?_⟩
  have k1 := hown.stored p (u64V xs[q])
  have k2 := k1.1.stored q (u64V xs[p])
  have e : ((xs.map u64V).set p (u64V xs[q])).set q (u64V xs[p]) = ((xs.set p xs[q]).set q xs[p]).map u64V := by rw [List.map_set, List.map_set]
  rw [e] at k2
  exact k2.1

set_option maxRecDepth 100000 in
set_option maxHeartbeats 1600000 in
theorem reverse_any (base g cap n a b : Nat) (ds : List Nat) (w : World) (hab : a < b) (hbn : b ≤ n) (hn : n ≤ 1000000) (hgb : base ≤ g) (hl : ds.length = n) (hown : w.ownsRow base 177 1 (srow g n cap) n (ds.map u64V)) :
    Calls Tryz.prog 213 #[srow g n cap, .int .i64 a, .int .i64 b] w fun e w' => e = .returned (.tuple #[]) ∧ SortPost base g n cap ds w w' := by
  go_enter Tryz.func213, Tryz.ntmps213
  go_wp2
  go_loopg [6, 7] (b - a) (fun gg i j wr => ∃ (p q : Nat) (xs : List Nat), gg = q + 1 - p ∧ p ≤ q + 1 ∧ q < b ∧ i = .int .i64 p ∧ j = .int .i64 q ∧ xs.Perm ds ∧ wr.ownsRow base 177 1 (srow g n cap) n (xs.map u64V) ∧ Below base w wr)
  case atStart => exact ⟨a, b - 1, ds, by omega, by omega, by omega, rfl, by go_num, .refl _, hown, Below.refl _ _⟩
  case round =>
    clear hown
    obtain ⟨p, q, xs, hg, hpq, hqb, rfl, rfl, hp, hown, hB⟩ := hrel
    have HG := Lib.hid hg; clear hg
    have HL := Lib.hid (hp.length_eq.trans hl)
    have HP := Lib.hid hp; clear hp
    by_cases hlt : p < q
    · obtain ⟨q, rfl⟩ : ∃ i, q = i + 1 := ⟨q - 1, by omega⟩
      have e1 := u64_at hown (j := p) (by rw [HL.out]; omega)
      have e2 := u64_at hown (j := q + 1) (by rw [HL.out]; omega)
      have z1 := hown.frozenAt p
      have z2 := hown.frozenAt (q + 1)
      have SW := swapRow (p := p) (q := q + 1) (by rw [HL.out]; omega) (by rw [HL.out]; omega) hown
      generalize xs[p]'_ = va at *
      generalize xs[q + 1]'_ = vb at *
      have hin : p < n := by omega
      have hin2 : q + 1 < n := by omega
      go_wp2
      go_region
      go_wp2
      obtain ⟨ys, hy, ho⟩ := SW
      go_roundg (q + 1 - (p + 1))
      case measure => rw [HG.out]; omega
      case rel => exact ⟨p + 1, q, ys, by omega, by omega, by omega, by go_num, by go_num, hy.trans HP.out, ho, ((hB.setCell (p := ⟨g, p, none⟩) hgb _).setCell (p := ⟨g, q + 1, none⟩) hgb _).drew⟩
    · go_wp2
      go_end0
      exact ⟨rfl, xs, HP.out, hown, hB⟩
theorem swapRow2 {base g n cap p q ua ub : Nat} {xs : List Nat} {wr : World} (hpn : p < xs.length) (hqn : q < xs.length) (hown : wr.ownsRow base 177 1 (srow g n cap) n (xs.map u64V)) (h1 : wr.cell? ⟨g, p, none⟩ = some (.int .u64 (ua : Int))) (h2 : wr.cell? ⟨g, q, none⟩ = some (.int .u64 (ub : Int))) :
    ∃ ys : List Nat, ys.Perm xs ∧ ((wr.setCell ⟨g, p, none⟩ (.int .u64 (ub : Int))).setCell ⟨g, q, none⟩ (.int .u64 (ua : Int))).ownsRow base 177 1 (srow g n cap) n (ys.map u64V) := by
  have e1 : (xs[p] : Int) = ua := by
    have := (u64_at hown (j := p) hpn).symm.trans h1
    simpa using this
  have e2 : (xs[q] : Int) = ub := by
    have := (u64_at hown (j := q) hqn).symm.trans h2
    simpa using this
  have := swapRow hpn hqn hown
  rw [e1, e2] at this
  exact this
theorem swapCell {base g cap n p q : Nat} {xs : List Nat} {wr : World} (hqn : q < xs.length) (hown : wr.ownsRow base 177 1 (srow g n cap) n (xs.map u64V)) (v : Nat) :
    ∃ u : Value, (wr.setCell ⟨g, p, none⟩ (.int .u64 (v : Int))).cell? ⟨g, q, none⟩ = some u := by
  have k1 := (hown.stored p (u64V v)).1
  have hl := k1.1
  have hlen : ((xs.map u64V).set p (u64V v)).length = xs.length := by simp
  have h := k1.cellAt q (by omega)
  rw [List.getElem?_eq_getElem (by omega)] at h
  exact ⟨_, h⟩
end Go.Proofs.YtifddfchpknkbaaGreatDoor
