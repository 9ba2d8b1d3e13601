import Derived.Test.YtifddfchpknkbaaGreatDoorE
set_option linter.unusedVariables false
set_option linter.unusedSimpArgs false
namespace Go.Proofs.YtifddfchpknkbaaGreatDoor
open Go.RowKit

def cutA (A : Option Addr) (cap k sz : Nat) : Option Addr := if cap = k then A else A.map (·.add (k * sz))
theorem run_slice_cut {P : Program} (t e : TypeId) (sz : Nat) (ht : P.underlying t = some (.slice e)) (hs : ∀ w, (sizeOf e).run P w = .ok sz w) (A : Option Addr) (n cap : Nat) (kl kh : IntKind) (l h : Nat) (h1 : l ≤ h) (h2 : h ≤ cap) (w : World) :
    (Instr.slice t (.slice A n cap) (some (.int kl l)) (some (.int kh h)) none).run P w = .ok (.slice (cutA A cap l sz) (h - l) (cap - l)) w := by
  have e1 : 0 ≤ (h : Int) ∧ (h : Int) ≤ (cap : Int) := by omega
  have e2 : 0 ≤ (l : Int) ∧ (l : Int) ≤ (h : Int) := by omega
  simp [Instr.slice, run_underlying ht, Instr.sliceBounds, Instr.sliceBound, asIntOf, hs, cutA, h1, h2]
theorem Rd.cutA' {w : World} {B sz n : Nat} {A : Option Addr} {xs : List Value} (h : Rd w B sz A n xs) {k m cap : Nat} (hk : k ≤ m) (hm : m ≤ n) (hc : n ≤ cap) :
    Rd w B sz (cutA A cap k sz) (m - k) ((xs.drop (k * sz)).take ((m - k) * sz)) := h.cut hk hm hc

/-- How many # the rows f to e have in the columns c to d. -/
def sumL (rows : List ByteArray) (c d : Nat) : Nat := (rows.map fun r => cntL (ltr (r.extract c d)) [35]).sum
theorem sumL_snoc (rows : List ByteArray) (r : ByteArray) (c d : Nat) : sumL (rows ++ [r]) c d = sumL rows c d + cntL (ltr (r.extract c d)) [35] := by
  simp [sumL]
theorem sumL_le (rows : List ByteArray) (c d m : Nat) (h : ∀ r ∈ rows, r.size ≤ m) : sumL rows c d ≤ rows.length * m := by
  induction rows with
  | nil => simp [sumL]
  | cons r rows ih =>
    have h1 := ih (fun x hx => h x (by simp [hx]))
    have h2 := cntL_le (ltr (r.extract c d)) [35]
    rw [ltr_len, ByteArray.size_extract] at h2
    have h3 := h r (by simp)
    simp only [sumL, List.map_cons, List.sum_cons, List.length_cons] at *
    rw [Nat.succ_mul]
    omega

def toneS (rows : List ByteArray) (c d : Nat) (ci : Bool) (f e : Nat) (ri : Bool) : Int :=
  if sumL ((rows.drop f).take (e - f)) c d = 0 then 46
  else if ci && ri && decide (sumL ((rows.drop f).take (e - f)) c d = (d - c) * (e - f)) then 35 else 43

set_option maxHeartbeats 2000000 in
theorem tone_any (W H F L X Y N PX PY : Int) (A : Option Addr) (n cap : Nat) (rows : List ByteArray) (wd c d f e : Nat) (ci ri : Bool) (w : World) (hr : Rd w w.heap.size 1 A n (rows.map Value.string)) (hcap : n ≤ cap) (hn : n ≤ 50) (hcm : cap ≤ maxLen)
    (hw : ∀ r ∈ rows, r.size = wd) (hwd : wd ≤ 50) (hc : c ≤ d) (hd : d ≤ wd) (hf : f ≤ e) (he : e ≤ n) :
    Calls Tryz.prog 148 #[.agg #[.int .i64 W, .int .i64 H, .int .i64 F, .int .i64 L, .int .i64 X, .int .i64 Y, .slice A n cap, .int .i64 N, .int .i64 PX, .int .i64 PY],
      .agg #[.int .i64 c, .int .i64 d, .bool ci], .agg #[.int .i64 f, .int .i64 e, .bool ri]] w
      fun r w' => r = .returned (.int .u8 (toneS rows c d ci f e ri)) ∧ Below w.heap.size w w' := by
  have hz := hr.len
  unfold maxLen at hcm
  have hsl := run_slice_cut (P := Tryz.prog) 24 9 1 Tryz.underlying24 (fun _ => by kernel_rfl) A n cap .i64 .i64 f e hf (by omega)
  have hr2 := hr.cutA' hf he hcap
  generalize hA2 : cutA A cap f 1 = A2 at hsl hr2
  clear hA2
  rw [Nat.mul_one, Nat.mul_one, ← List.map_drop, ← List.map_take] at hr2
  have hsum : toneS rows c d ci f e ri = if sumL ((rows.drop f).take (e - f)) c d = 0 then 46 else if ci && ri && decide (sumL ((rows.drop f).take (e - f)) c d = (d - c) * (e - f)) then 35 else 43 := rfl
  have hsub : ∀ r ∈ (rows.drop f).take (e - f), r.size = wd := fun r hr => hw r (List.mem_of_mem_drop (List.mem_of_mem_take hr))
  have hz2 := hr2.len
  generalize hrs : (rows.drop f).take (e - f) = rs at hr2 hsum hsub hz2
  have HSUM := Lib.hid hsum; have HZ := Lib.hid hz2; clear hsum hrs hz2 hz hr
  obtain ⟨m, hm⟩ : ∃ m, m = e - f := ⟨_, rfl⟩
  have hme : m ≤ 50 := by omega
  rw [← hm] at hr2 hsl
  have HM := Lib.hid hm; clear hm
  go_enter Tryz.func148, Tryz.ntmps148
  go_wp2
  go_loopg [7, 19] m (fun g t i wr => ∃ k : Nat, g = m - k ∧ k ≤ m ∧ i = .int .i64 k ∧ t = .int .i64 (sumL (rs.take k) c d) ∧ Below w.heap.size w wr ∧
    Blk wr (w.heap.size + 1) 191 #[.int .i64 c, .int .i64 d, .bool ci] ∧ Blk wr (w.heap.size + 1 + 1) 191 #[.int .i64 f, .int .i64 e, .bool ri])
  case atStart =>
    refine ⟨0, rfl, Nat.zero_le _, rfl, rfl, (((Below.refl _ _).alloc (Nat.le_refl _) _).alloc (by simp) _).alloc (by simp; omega) _, ?_, ?_⟩
    · exact ((World.size_alloc w _) ▸ Blk.new (w.alloc _) 191 #[.int .i64 c, .int .i64 d, .bool ci]).alloc _
    · have := Blk.new ((w.alloc (Obj.cells #[.int .i64 W, .int .i64 H, .int .i64 F, .int .i64 L, .int .i64 X, .int .i64 Y, .slice A n cap, .int .i64 N, .int .i64 PX, .int .i64 PY] 140)).alloc (Obj.cells #[.int .i64 c, .int .i64 d, .bool ci] 191)) 191 #[.int .i64 f, .int .i64 e, .bool ri]
      simpa using this
  case round =>
    obtain ⟨k, hg, hk, rfl, rfl, hB, hbc, hbr⟩ := hrel
    have HG := Lib.hid hg; clear hg
    have hcc := fun i => hbc.cell i
    have hcr := fun i => hbr.cell i
    have hlc := hbc.lt
    have hlr := hbr.lt
    have hle := sumL_le (rs.take k) c d 50 (fun r hr => by rw [hsub r (List.mem_of_mem_take hr)]; exact hwd)
    have hlt2 : (rs.take k).length ≤ k := List.length_take_le _ _
    have hle2 : sumL (rs.take k) c d ≤ 2500 := Nat.le_trans hle (Nat.le_trans (Nat.mul_le_mul_right 50 (Nat.le_trans hlt2 (Nat.le_trans hk hme))) (by decide))
    clear hle hlt2
    by_cases hlt : k < m
    · obtain ⟨b, off, hzk, rfl, hb, hcell⟩ := (hr2.below hB).atm hlt
      have hrsz := hsub rs[k] (List.getElem_mem hzk)
      have hin : d ≤ rs[k].size := by omega
      have hcl := cntL_le (ltr (rs[k].extract c d)) [35]
      rw [ltr_len, ByteArray.size_extract] at hcl
      have hcl2 : cntL (ltr (rs[k].extract c d)) [35] ≤ 100 := by omega
      have hsn := sumL_snoc (rs.take k) rs[k] c d
      rw [← List.take_succ_eq_append_getElem hzk] at hsn
      have HS := Lib.hid hsn; have HRS := Lib.hid hrsz; clear hsn hrsz hcl
      have hexs : (rs[k].extract c d).size ≤ maxLen := by rw [ByteArray.size_extract]; unfold maxLen; omega
      go_wp2_with (go_at_call 103; refine (count_any _ _ 1 1 [35] _ (wr.heap.size + 1) hexs (by decide) (Rd.blk (Blk.new _ _ _) rfl (by simp))).mono ?_; rintro e w1 ⟨rfl, rfl⟩)
      go_roundg (m - (k + 1))
      case measure => rw [HG.out]; omega
      case rel => exact ⟨k + 1, rfl, by omega, by go_num, by rw [HS.out]; go_num, hB.alloc hB.size _, hbc.alloc _, hbr.alloc _⟩
    · have hkm : rs.take k = rs := List.take_of_length_le (by rw [HZ.out]; have := HM.out; omega)
      rw [hkm] at hle2 ⊢
      have hprod : (((d - c) * (e - f) : Nat) : Int) = ((d : Int) - c) * ((e : Int) - f) := by rw [Int.natCast_mul, Int.ofNat_sub hc, Int.ofNat_sub hf]
      generalize sumL rs c d = s0 at HSUM hle2 ⊢
      have HP := Lib.hid hprod; clear hprod hkm
      have hlt' : ¬ ((k : Int) < (m : Int)) := by omega
      have h0c : (0 : Int) ≤ c := by omega
      obtain ⟨q1, q2⟩ := mulB (x := (d : Int) - c) (y := (e : Int) - f) (a := 100) (b := 100) (by omega) (by omega) (by omega) (by omega)
      cases hz0 : ((s0 : Int) == 0)
      · have hz1 : ¬ (s0 = 0) := by intro h; subst h; simp at hz0
        clear hr2 hsub hle2 hcc hcr
        cases hq : ((s0 : Int) == ((d : Int) - c) * ((e : Int) - f)) <;> cases ci <;> cases ri
        all_goals
          go_wp2_with (fail)
          have hbb := fun p i => blw_blk hbc p i
          have hbb2 := fun p i => blw_blk hbr p i
          refine wp_region_blw (by kernel_rfl) (by kernel_rfl) ?_
          repeat (go_big_quiet_step ((go_at_call 182; exact Calls.blw_of _ (long_any _ _ _ _ (by omega) (by omega) (by omega) (by omega)))))
          refine wpQuiet_nil ?_
          rintro W3 ⟨⟨_, hb3⟩, rfl⟩
          clear hbb hbb2
          go_wp2_with (fail)
          go_ret
          refine ⟨?_, hB.trans (hb3.mono hB.size)⟩
          rw [HSUM.out, if_neg hz1]
          have HPo := HP.out
          simp only [beq_iff_eq, beq_eq_false_iff_ne, ne_eq] at hq
          first
            | (rw [if_neg (by simp only [Bool.false_and, Bool.and_false, Bool.false_eq_true, not_false_eq_true])]; rfl)
            | (rw [if_neg (by simp only [Bool.true_and, decide_eq_true_eq]; omega)]; rfl)
            | (rw [if_pos (by simp only [Bool.true_and, decide_eq_true_eq]; omega)]; rfl)
      · have hz1 : s0 = 0 := by simpa using hz0
        go_wp2_with (fail)
        go_ret
        exact ⟨by rw [HSUM.out, if_pos hz1]; rfl, hB⟩
end Go.Proofs.YtifddfchpknkbaaGreatDoor
