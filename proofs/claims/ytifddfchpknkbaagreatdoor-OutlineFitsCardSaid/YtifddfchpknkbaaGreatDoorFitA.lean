import Derived.Test.YtifddfchpknkbaaGreatDoorFj
import Derived.Test.YtifddfchpknkbaaGreatDoorHg
set_option linter.unusedVariables false
set_option linter.unusedSimpArgs false
namespace Go.Proofs.YtifddfchpknkbaaGreatDoor
open Go.RowKit

/-- The least number from k on, below k + m, of which something is so, or -1. -/
def firstN (ok : Nat → Bool) : Nat → Nat → Int
  | 0, _ => -1
  | m + 1, k => if ok k then (k : Int) else firstN ok m (k + 1)
theorem firstN_fade (ok : Nat → Bool) (m k : Nat) : (firstN ok m k < 0 ∧ fadeFrom ok m k = #[.int .i64 0, .int .i64 5]) ∨ (0 ≤ firstN ok m k ∧ fadeFrom ok m k = #[.int .i64 (firstN ok m k), .int .i64 0]) := by
  induction m generalizing k with
  | zero => exact .inl ⟨(by decide : (-1 : Int) < 0), rfl⟩
  | succ m ih =>
    unfold firstN fadeFrom
    split
    · exact .inr ⟨by omega, rfl⟩
    · exact ih _

set_option maxRecDepth 100000 in
set_option maxHeartbeats 12800000 in
theorem refFades_any (Wn Hn : Nat) (L X Y PX PY : Int) (Fn : Nat) (A : Option Addr) (n cap : Nat) (rows : List ByteArray) (w : World) (hv : viewB Wn Hn Fn L X Y 0 PX PY rows = true) (hr : Rd w w.heap.size 1 A n (rows.map Value.string)) :
    Calls Tryz.prog 50 #[.agg #[.int .i64 Wn, .int .i64 Hn, .int .i64 Fn, .int .i64 L, .int .i64 X, .int .i64 Y], .agg #[.slice A n cap], .int .i64 PX, .int .i64 PY] w fun e w' => e = .returned (.int .i64 (firstN (noDark Wn Hn Fn L X Y PX PY rows) Fn 0)) ∧ Below w.heap.size w w' := by
  have hb3 : Fn ≤ 40 ∧ Wn ≤ 16 ∧ Hn ≤ 16 := by
    have h := hv
    simp only [viewB, Bool.and_eq_true] at h
    have ⟨⟨a1, a2⟩, ⟨a3, a4⟩, ⟨a5, a6⟩, _⟩ := stageB_nums h.1
    omega
  obtain ⟨hFn, hWn, hHn⟩ := hb3
  have hvk : ∀ k : Nat, k < Fn → viewB Wn Hn Fn L X Y k PX PY rows = true := fun k hk => viewB_near hv k (by omega) (by omega)
  have hsza : ∀ k : Nat, (shS Wn Hn Fn L X Y k PX PY rows).size = Wn * Hn := fun k => by
    have := shS_size Wn Hn Fn L X Y k PX PY rows
    simpa only [Int.toNat_natCast] using this
  have hct : ∀ k : Nat, noDark Wn Hn Fn L X Y PX PY rows k = (((countR (rowsOf (shS Wn Hn Fn L X Y k PX PY rows) Wn Hn) (35 : Nat) : Nat) : Int) == 0) := fun k => by
    unfold noDark; rw [countR_rows (hsza k)]; rfl
  have hsz : ∀ k : Nat, ∀ s ∈ rowsOf (shS Wn Hn Fn L X Y k PX PY rows) Wn Hn, s.size ≤ 100000 := fun k s hs => by
    obtain ⟨i, hi, rfl⟩ := rowsOf_mem hs; rw [cut_size (hsza k) hi]; omega
  obtain ⟨ok, hok⟩ : ∃ ok : Nat → Bool, ok = noDark Wn Hn Fn L X Y PX PY rows := ⟨_, rfl⟩
  rw [← hok] at hct ⊢
  have HCT := Lib.hid hct; have HSZ := Lib.hid hsz; clear hok hct hsz hsza
  have HVK := Lib.hid hvk; clear hvk hv
  have HRR := Lib.hid hr
  clear hr
  go_enter Tryz.func50, Tryz.ntmps50
  go_upto_region 1 with (fail)
  have hS := blk2_0 w (.cells #[.slice A n cap] 26) 23 #[.int .i64 Wn, .int .i64 Hn, .int .i64 Fn, .int .i64 L, .int .i64 X, .int .i64 Y]
  have hF := blk2_1 w (.cells #[.int .i64 Wn, .int .i64 Hn, .int .i64 Fn, .int .i64 L, .int .i64 X, .int .i64 Y] 23) 26 #[.slice A n cap]
  have hB := pro_2 w (.cells #[.int .i64 Wn, .int .i64 Hn, .int .i64 Fn, .int .i64 L, .int .i64 X, .int .i64 Y] 23) (.cells #[.slice A n cap] 26)
  generalize (w.alloc (.cells #[.int .i64 Wn, .int .i64 Hn, .int .i64 Fn, .int .i64 L, .int .i64 X, .int .i64 Y] 23)).alloc (.cells #[.slice A n cap] 26) = W0 at *
  go_wp2_with (fail)
  go_loopg [9] Fn (fun g i wr => ∃ k : Nat, g = Fn - k ∧ k ≤ Fn ∧ i = .int .i64 k ∧ firstN ok Fn 0 = firstN ok (Fn - k) k ∧ Blk wr w.heap.size 23 #[.int .i64 Wn, .int .i64 Hn, .int .i64 Fn, .int .i64 L, .int .i64 X, .int .i64 Y] ∧ Blk wr (w.heap.size + 1) 26 #[.slice A n cap] ∧ Below w.heap.size w wr)
  case atStart => exact ⟨0, rfl, Nat.zero_le _, rfl, rfl, hS, hF, hB⟩
  case round =>
    clear hS hF hB
    obtain ⟨k, hg, hk, rfl, hfn, hS, hF, hB⟩ := hrel
    have HG := Lib.hid hg; clear hg
    have HFN := Lib.hid hfn; clear hfn
    have qhS := fun i => Blk.cell hS i
    have qhF := fun i => Blk.cell hF i
    by_cases hlt : k < Fn
    · have hlti : (k : Int) < Fn := by omega
      have hst : firstN ok (Fn - k) k = if ok k then (k : Int) else firstN ok (Fn - (k + 1)) (k + 1) := by
        rw [show Fn - k = (Fn - (k + 1)) + 1 by omega]; rfl
      have HST := Lib.hid hst; clear hst
      obtain ⟨rs, hrs⟩ : ∃ rs, rs = rowsOf (shS Wn Hn Fn L X Y k PX PY rows) Wn Hn := ⟨_, rfl⟩
      have hct := HCT.out k; have hsz := HSZ.out k
      rw [← hrs] at hct hsz
      obtain ⟨c, hc⟩ : ∃ c, c = countR rs (35 : Nat) := ⟨_, rfl⟩
      rw [← hc] at hct
      have HC := Lib.hid hc; have HRS := Lib.hid hrs; clear hc hrs
      cases hf : (((c : Nat) : Int) == 0)
      all_goals
        rw [hf] at hct
        have HOK := Lib.hid hct; clear hct
        go_wp2_with (first
          | (go_at_call 32; refine (refShadow_any Wn Hn Fn L X Y k PX PY A n cap rows _ (HVK.out k hlt) (rdB HRR.out hB)).mono ?_; rintro e w1 ⟨v2, rfl, own2, hb⟩; rw [← HRS.out] at own2; obtain ⟨A4, c4, rfl⟩ := own_slice own2; have hC := Rd.of_own own2; clear own2; replace hS := hS.below hb hS.lt; replace hF := hF.below hb hF.lt; replace hB := hB.trans (hb.mono hB.size); clear hb qhS qhF)
          | (go_at_call 34; refine (refCount_any A4 Hn c4 rs 35 _ (by omega) (by omega) hsz hC).mono ?_; rintro e w2 ⟨rfl, rfl⟩; rw [← HC.out]))
      · go_roundg (Fn - (k + 1))
        case measure => rw [HG.out]; omega
        case rel => exact ⟨k + 1, rfl, by omega, by go_num, by rw [HFN.out, HST.out, HOK.out]; rfl, hS, hF, hB⟩
      · go_ret
        exact ⟨by rw [HFN.out, HST.out, HOK.out]; rfl, hB⟩
    · have hke : k = Fn := by omega
      subst hke
      have hge : ¬ (k : Int) < (k : Int) := by omega
      go_wp2_with (fail)
      go_ret
      exact ⟨by rw [HFN.out, Nat.sub_self]; rfl, hB⟩
end Go.Proofs.YtifddfchpknkbaaGreatDoor
