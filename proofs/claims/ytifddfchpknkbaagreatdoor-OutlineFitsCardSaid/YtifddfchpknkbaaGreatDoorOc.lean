import Derived.Test.YtifddfchpknkbaaGreatDoorMl
set_option linter.unusedVariables false
set_option linter.unusedSimpArgs false
namespace Go.Proofs.YtifddfchpknkbaaGreatDoor
open Go.RowKit

theorem ltr_get {r : ByteArray} {k : Nat} {z : Int} (h : (ltr r)[k]? = some z) : ∃ hk : k < r.size, ((r[k]'hk).toNat : Int) = z := by
  obtain ⟨h1, h2⟩ := List.getElem?_eq_some_iff.1 h
  have hk : k < r.size := by rw [ltr_len] at h1; exact h1
  exact ⟨hk, by rw [← ltr_at r k hk]; exact h2⟩

set_option maxRecDepth 1000000 in
set_option maxHeartbeats 1600000 in
theorem Cell_any (Wn : Nat) (H F L X Y : Int) (A : Option Addr) (n cap : Nat) (rs : List ByteArray) (r : ByteArray) (k : Nat) (z : Int) (w : World) (hW : 1 ≤ Wn) (hW2 : Wn ≤ 100) (hk2 : k ≤ 10000) (hz : rs[k / Wn]? = some r) (hz2 : (ltr r)[k % Wn]? = some z) (hsz : r.size ≤ 10000) (hr : Rd w w.heap.size 1 A n (rs.map Value.string)) :
    Calls Tryz.prog 66 #[.agg #[.int .i64 Wn, .int .i64 H, .int .i64 F, .int .i64 L, .int .i64 X, .int .i64 Y], .slice A n cap, .int .i64 k] w fun e w' => e = .returned (.int .u8 z) ∧ Below w.heap.size w w' := by
  have hlen := hr.len
  obtain ⟨hin, hget⟩ := List.getElem?_eq_some_iff.1 hz
  obtain ⟨b, off, hzz, rfl, hb, hc⟩ := hr.atm (k := k / Wn) (by omega)
  rw [hget] at hc
  obtain ⟨hk, hzv⟩ := ltr_get hz2
  have hkn : k / Wn < n := by omega
  have hq1 : k / Wn ≤ k := Nat.div_le_self _ _
  have HZ := Lib.hid hzv; clear hzv hz hz2 hget hlen
  have ed : (k : Int).tdiv (Wn : Int) = ((k / Wn : Nat) : Int) := rfl
  have em : (k : Int).tmod (Wn : Int) = ((k % Wn : Nat) : Int) := rfl
  have hW0 : ¬ Wn = 0 := by omega
  generalize k % Wn = kc at *
  generalize k / Wn = km at *
  clear hzz hin
  have ed2 := i64_ok (km : Int) (by omega)
  have hB : Below w.heap.size w (w.alloc (.cells #[.int .i64 Wn, .int .i64 H, .int .i64 F, .int .i64 L, .int .i64 X, .int .i64 Y] 23)) := (Below.refl _ w).alloc (Nat.le_refl _) _
  have hbf := Blk.new w 23 #[.int .i64 Wn, .int .i64 H, .int .i64 F, .int .i64 L, .int .i64 X, .int .i64 Y]
  have hcc := (hB.cell (p := ⟨b, off + km, none⟩) hb).trans hc
  have hkn2 : (km : Int) < n := by omega
  have hk3 : (kc : Int) < r.size := by omega
  go_enter Tryz.func66, Tryz.ntmps66
  go_upto_region 1 with (fail)
  generalize w.alloc (.cells #[.int .i64 Wn, .int .i64 H, .int .i64 F, .int .i64 L, .int .i64 X, .int .i64 Y] 23) = W0 at *
  have hbb := fun p i => blw_blk hbf p i
  have hbc : ∀ p : Blw W0.heap.size W0, p.to.cell? ⟨b, off + km, none⟩ = some (.string r) := fun p => (p.h.cell (p := ⟨b, off + km, none⟩) (Nat.lt_of_lt_of_le hb hB.size)).trans hcc
  refine wp_region_blw (by kernel_rfl) (by kernel_rfl) ?_
  repeat (go_big_quiet_step (fail))
  refine wpQuiet_nil ?_
  rintro W3 ⟨⟨_, hb3⟩, rfl⟩
  replace hB := hB.trans (hb3.mono hB.size)
  go_wp2_with (fail)
  go_ret
  exact ⟨by rw [← HZ.out]; rfl, hB⟩
end Go.Proofs.YtifddfchpknkbaaGreatDoor
