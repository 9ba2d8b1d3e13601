import Derived.Test.YtifddfchpknkbaaGreatDoorFi
import Derived.Test.YtifddfchpknkbaaGreatDoorU
import Derived.Test.YtifddfchpknkbaaGreatDoorLc
set_option linter.unusedVariables false
set_option linter.unusedSimpArgs false
namespace Go.Proofs.YtifddfchpknkbaaGreatDoor
open Go.RowKit

/-- The greatest number below k of which something is so, or -1. -/
def lastN (ok : Nat → Bool) : Nat → Int
  | 0 => -1
  | k + 1 => if ok k then (k : Int) else lastN ok k
theorem lastN_most (ok : Nat → Bool) (k : Nat) : (lastN ok k < 0 ∧ mostFrom ok k = #[.int .i64 0, .int .i64 5]) ∨ (0 ≤ lastN ok k ∧ mostFrom ok k = #[.int .i64 (lastN ok k), .int .i64 0]) := by
  induction k with
  | zero => exact .inl ⟨(by decide : (-1 : Int) < 0), rfl⟩
  | succ k ih =>
    unfold lastN mostFrom
    split
    · exact .inr ⟨by omega, rfl⟩
    · exact ih

set_option maxRecDepth 100000 in
set_option maxHeartbeats 12800000 in
theorem refMost_any (W H L X Y PX PY : Int) (Fn : Nat) (A : Option Addr) (n cap : Nat) (rows : List ByteArray) (w : World) (hv : viewB W H Fn L X Y 0 PX PY rows = true) (hr : Rd w w.heap.size 1 A n (rows.map Value.string)) :
    Calls Tryz.prog 49 #[.agg #[.int .i64 W, .int .i64 H, .int .i64 Fn, .int .i64 L, .int .i64 X, .int .i64 Y], .agg #[.slice A n cap], .int .i64 PX, .int .i64 PY] w fun e w' => e = .returned (.int .i64 (lastN (fun k : Nat => fitsB W H Fn L X Y k PX PY (wdOf rows) rows.length) Fn)) ∧ Below w.heap.size w w' := by
  have hFn : Fn ≤ 40 := by
    have h := hv
    simp only [viewB, Bool.and_eq_true] at h
    have ⟨⟨a1, a2⟩, ⟨a3, a4⟩, ⟨a5, a6⟩, _⟩ := stageB_nums h.1
    omega
  have hvk : ∀ k : Nat, k < Fn → viewB W H Fn L X Y k PX PY rows = true := fun k hk => viewB_near hv k (by omega) (by omega)
  obtain ⟨ok, hok⟩ : ∃ ok : Nat → Bool, ok = fun k : Nat => fitsB W H Fn L X Y k PX PY (wdOf rows) rows.length := ⟨_, rfl⟩
  rw [← hok]
  have hokk := fun k => congrFun hok k
  have HOK := Lib.hid hokk; clear hok hokk
  have HVK := Lib.hid hvk; clear hvk hv
  have HRR := Lib.hid hr
  clear hr
  go_enter Tryz.func49, Tryz.ntmps49
  go_upto_region 1 with (fail)
  have hS := blk2_0 w (.cells #[.slice A n cap] 26) 23 #[.int .i64 W, .int .i64 H, .int .i64 Fn, .int .i64 L, .int .i64 X, .int .i64 Y]
  have hF := blk2_1 w (.cells #[.int .i64 W, .int .i64 H, .int .i64 Fn, .int .i64 L, .int .i64 X, .int .i64 Y] 23) 26 #[.slice A n cap]
  have hB := pro_2 w (.cells #[.int .i64 W, .int .i64 H, .int .i64 Fn, .int .i64 L, .int .i64 X, .int .i64 Y] 23) (.cells #[.slice A n cap] 26)
  generalize (w.alloc (.cells #[.int .i64 W, .int .i64 H, .int .i64 Fn, .int .i64 L, .int .i64 X, .int .i64 Y] 23)).alloc (.cells #[.slice A n cap] 26) = W0 at *
  go_wp2_with (fail)
  go_loopg [9, 10] Fn (fun g v i wr => ∃ k : Nat, g = Fn - k ∧ k ≤ Fn ∧ i = .int .i64 k ∧ v = .int .i64 (lastN ok k) ∧ Blk wr w.heap.size 23 #[.int .i64 W, .int .i64 H, .int .i64 Fn, .int .i64 L, .int .i64 X, .int .i64 Y] ∧ Blk wr (w.heap.size + 1) 26 #[.slice A n cap] ∧ Below w.heap.size w wr)
  case atStart => exact ⟨0, rfl, Nat.zero_le _, rfl, rfl, hS, hF, hB⟩
  case round =>
    clear hS hF hB
    obtain ⟨k, hg, hk, rfl, rfl, hS, hF, hB⟩ := hrel
    have HG := Lib.hid hg; clear hg
    have qhS := fun i => Blk.cell hS i
    have qhF := fun i => Blk.cell hF i
    have hst : lastN ok (k + 1) = if ok k then (k : Int) else lastN ok k := rfl
    have HST := Lib.hid hst; clear hst
    by_cases hlt : k < Fn
    · have hlti : (k : Int) < Fn := by omega
      cases hf : ok k
      all_goals
        have HF := Lib.hid hf; clear hf
        go_wp2_with (first
          | (go_at_call 51; refine (refFits_any W H Fn L X Y k PX PY A n cap rows _ (HVK.out k hlt) (rdB HRR.out hB)).mono ?_; rintro e w1 ⟨rfl, hb⟩; rw [← HOK.out k, HF.out]; replace hS := hS.below hb hS.lt; replace hF := hF.below hb hF.lt; replace hB := hB.trans (hb.mono hB.size); clear hb qhS qhF))
        go_roundg (Fn - (k + 1))
        case measure => rw [HG.out]; omega
        case rel => exact ⟨k + 1, rfl, by omega, by go_num, by rw [HST.out, HF.out]; rfl, hS, hF, hB⟩
    · have hke : k = Fn := by omega
      subst hke
      have hge : ¬ (k : Int) < (k : Int) := by omega
      go_wp2_with (fail)
      go_ret
      exact ⟨rfl, hB⟩
end Go.Proofs.YtifddfchpknkbaaGreatDoor
