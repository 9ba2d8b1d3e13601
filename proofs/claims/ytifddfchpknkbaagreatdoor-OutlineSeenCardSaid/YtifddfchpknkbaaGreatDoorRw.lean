import Derived.Test.YtifddfchpknkbaaGreatDoorAo
import Derived.Test.YtifddfchpknkbaaGreatDoorUq
set_option linter.unusedVariables false
set_option linter.unusedSimpArgs false
namespace Go.Proofs.YtifddfchpknkbaaGreatDoor
open Go.RowKit

/-- Some reading is of a figure. -/
def hasT (tl : List Tr) (z : Int) : Bool := tl.any fun t => t.1 == z
def figN (tl : List Tr) (m : Nat) : Nat := ((List.range m).filter fun i : Nat => hasT tl (i : Int)).length
set_option maxRecDepth 100000 in
set_option maxHeartbeats 800000 in
theorem refHas_any (A : Option Addr) (n cap : Nat) (tl : List Tr) (y z : Int) (w : World) (hn : n ≤ 100000) (hr : Rd w w.heap.size 4 A n (tl.flatMap (rdC y))) :
    Calls Tryz.prog 123 #[.slice A n cap, .int .i64 z] w fun e w' => e = .returned (.bool (hasT tl z)) ∧ w = w' := by
  have hlen := hr.lenc (by decide) (rdC_len y)
  have HLEN := Lib.hid hlen; clear hlen
  go_enter Tryz.func123, Tryz.ntmps123
  go_wp2
  go_loop [5] (fun i => ∃ (k : Nat), k ≤ n ∧ i = .int .i64 k ∧ (tl.take k).any (fun t => t.1 == z) = false) (fun i => n - (intOf i).toNat)
  case atStart => exact ⟨0, Nat.zero_le _, rfl, rfl⟩
  case round =>
    obtain ⟨k, hk, rfl, ha⟩ := hrel
    by_cases hlt : k < n
    · obtain ⟨cb, coff, hz, rfl, hcb, hcc, _⟩ := hr.at4 hlt
      have hat := any_take (fun t : Tr => t.1 == z) tl k hz
      have hst := any_stop (fun t : Tr => t.1 == z) tl k hz
      rw [ha, Bool.false_or] at hat
      generalize tl[k].1 = x at *
      have HA := Lib.hid ha; have HAT := Lib.hid hat; have HST := Lib.hid hst; clear ha hat hst
      cases hq : (x == z)
      · go_wp2
        go_round
        case rel => exact ⟨k + 1, by omega, by go_num, by rw [HAT.out]; exact hq⟩
        case measure => simp [intOf]; omega
      · go_wp2
        go_ret
        exact ⟨ret_bool (by rw [hasT, HST.out hq]), rfl⟩
    · have htk : tl.take k = tl := List.take_of_length_le (by have := HLEN.out; omega)
      rw [htk] at ha
      have HA := Lib.hid ha; clear ha htk
      go_wp2
      go_ret
      exact ⟨ret_bool (by rw [hasT, HA.out]), rfl⟩

set_option maxRecDepth 100000 in
set_option maxHeartbeats 800000 in
theorem refFigs_any (A : Option Addr) (n cap : Nat) (tl : List Tr) (y : Int) (m : Nat) (w : World) (hn : n ≤ 100000) (hm : m ≤ 1000) (hr : Rd w w.heap.size 4 A n (tl.flatMap (rdC y))) :
    Calls Tryz.prog 122 #[.slice A n cap, .int .i64 m] w fun e w' => e = .returned (.int .i64 (figN tl m : Nat)) ∧ w = w' := by
  go_enter Tryz.func122, Tryz.ntmps122
  go_wp2
  go_loop [5, 6] (fun s i => ∃ (k acc : Nat), k ≤ m ∧ i = .int .i64 k ∧ s = .int .i64 acc ∧ acc = figN tl k ∧ acc ≤ k) (fun _ i => m - (intOf i).toNat)
  case atStart => exact ⟨0, 0, Nat.zero_le _, rfl, rfl, rfl, Nat.zero_le _⟩
  case round =>
    obtain ⟨k, acc, hk, rfl, rfl, hacc, hle⟩ := hrel
    by_cases hlt : k < m
    · have hsn : figN tl (k + 1) = figN tl k + (if hasT tl (k : Int) then 1 else 0) := by
        unfold figN
        rw [List.range_succ, List.filter_append, List.length_append]
        cases h : hasT tl (k : Int) <;> simp [h]
      rw [← hacc] at hsn
      have HSN := Lib.hid hsn; clear hsn hacc
      have hlti : (k : Int) < m := by omega
      cases hq : hasT tl (k : Int)
      · go_wp2_with (go_at_call 123; refine (refHas_any A n cap tl y k _ hn hr).mono ?_; rintro e w1 ⟨rfl, rfl⟩; rw [hq])
        go_round
        case rel => exact ⟨k + 1, acc, by omega, by go_num, rfl, by rw [HSN.out, hq]; simp, by omega⟩
        case measure => simp [intOf]; omega
      · go_wp2_with (go_at_call 123; refine (refHas_any A n cap tl y k _ hn hr).mono ?_; rintro e w1 ⟨rfl, rfl⟩; rw [hq])
        go_round
        case rel => exact ⟨k + 1, acc + 1, by omega, by go_num, by go_num, by rw [HSN.out, hq]; simp, by omega⟩
        case measure => simp [intOf]; omega
    · obtain rfl : k = m := by omega
      have hge : ¬ (k : Int) < k := by omega
      have HACC := Lib.hid hacc; clear hacc
      go_wp2
      go_ret
      exact ⟨by rw [← HACC.out]; rfl, rfl⟩

set_option maxRecDepth 100000 in
set_option maxHeartbeats 1600000 in
theorem sameReads_eq (A A2 : Option Addr) (n cap n2 cap2 : Nat) (tl : List Tr) (y : Int) (w : World) (hn : n ≤ 100000) (hr : Rd w w.heap.size 4 A n (tl.flatMap (rdC y))) (hr2 : Rd w w.heap.size 4 A2 n2 (tl.flatMap (rdC y))) :
    Calls Tryz.prog 56 #[.slice A n cap, .slice A2 n2 cap2] w fun e w' => e = .returned (.bool true) ∧ Below w.heap.size w w' := by
  have hlen := hr.lenc (by decide) (rdC_len y)
  have hlen2 := hr2.lenc (by decide) (rdC_len y)
  obtain rfl : n2 = n := by omega
  have HL := Lib.hid hlen; clear hlen hlen2
  have hne : ((n2 : Int) != n2) = false := by simp
  go_enter Tryz.func56, Tryz.ntmps56
  go_wp2
  go_loopg [5] n2 (fun g i wr => ∃ k : Nat, g = n2 - k ∧ k ≤ n2 ∧ i = .int .i64 k ∧ Below w.heap.size w wr)
  case atStart => exact ⟨0, rfl, Nat.zero_le _, rfl, Below.refl _ _⟩
  case round =>
    obtain ⟨k, hg, hk, rfl, hB⟩ := hrel
    have HG := Lib.hid hg; clear hg
    by_cases hlt : k < n2
    · obtain ⟨b, off, hz, rfl, hb, c0, c1, c2, c3⟩ := (hr.below hB).at4 hlt
      obtain ⟨b2, off2, hz2, rfl, hb2, d0, d1, d2, d3⟩ := (hr2.below hB).at4 hlt
      generalize tl[k].1 = f at *
      generalize tl[k].2.1 = pn at *
      generalize tl[k].2.2 = px at *
      have hbl := Nat.lt_of_lt_of_le hb hB.size
      have hbl2 := Nat.lt_of_lt_of_le hb2 hB.size
      have e0 := fun p : Blw wr.heap.size wr => blw_cell (a := ⟨b, off + k * 4, none⟩) hbl c0 p
      have e1 := fun p : Blw wr.heap.size wr => blw_cell (a := ⟨b, off + k * 4 + 1, none⟩) hbl c1 p
      have e2 := fun p : Blw wr.heap.size wr => blw_cell (a := ⟨b, off + k * 4 + 2, none⟩) hbl c2 p
      have e3 := fun p : Blw wr.heap.size wr => blw_cell (a := ⟨b, off + k * 4 + 3, none⟩) hbl c3 p
      have g0 := fun p : Blw wr.heap.size wr => blw_cell (a := ⟨b2, off2 + k * 4, none⟩) hbl2 d0 p
      have g1 := fun p : Blw wr.heap.size wr => blw_cell (a := ⟨b2, off2 + k * 4 + 1, none⟩) hbl2 d1 p
      have g2 := fun p : Blw wr.heap.size wr => blw_cell (a := ⟨b2, off2 + k * 4 + 2, none⟩) hbl2 d2 p
      have g3 := fun p : Blw wr.heap.size wr => blw_cell (a := ⟨b2, off2 + k * 4 + 3, none⟩) hbl2 d3 p
      go_upto_region 6 with (fail)
      refine wp_region_blw (by kernel_rfl) (by kernel_rfl) ?_
      repeat (go_big_quiet_step (fail))
      refine wpQuiet_nil ?_
      rintro W3 ⟨⟨_, hb3⟩, rfl⟩
      clear e0 e1 e2 e3 g0 g1 g2 g3
      go_wp2_with (fail)
      go_roundg (n2 - (k + 1))
      case measure => rw [HG.out]; omega
      case rel => exact ⟨k + 1, rfl, by omega, by go_num, hB.trans (hb3.mono hB.size)⟩
    · go_wp2
      go_ret
      exact ⟨rfl, hB⟩
end Go.Proofs.YtifddfchpknkbaaGreatDoor
