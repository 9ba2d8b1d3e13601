import Derived.Test.YtifddfchpknkbaaGreatDoorAs
import Derived.Test.YtifddfchpknkbaaGreatDoorRa
set_option linter.unusedVariables false
set_option linter.unusedSimpArgs false
namespace Go.Proofs.YtifddfchpknkbaaGreatDoor
open Go.RowKit

theorem info86 : (Tryz.prog.info? 86).map (fun i => (i.zero, i.size, i.bytes)) = some (some (.agg #[.int .i64 0, .int .i64 0, .int .i64 0, .int .i64 0]), 4, 32) := by kernel_rfl
/-- The cells of a reading. -/
def rdC (y : Int) (t : Tr) : List Value := [.int .i64 t.1, .int .i64 t.2.1, .int .i64 t.2.2, .int .i64 y]

set_option maxRecDepth 100000 in
set_option maxHeartbeats 3200000 in
theorem refReadings_any (nf : Nat) (nl nh xl xh y : Int) (w : World) (hw1 : -1000 ≤ nl) (hw2 : nl ≤ 1000) (hw3 : nh ≤ 1000) (hw4 : -1000 ≤ xl) (hw5 : xl ≤ 1000) (hw6 : xh ≤ 1000) (hnf : nf ≤ 1000) (hsm : (allR nf nl nh xl xh).length ≤ 1000) :
    Calls Tryz.prog 121 #[.int .i64 nf, .agg #[.int .i64 nl, .int .i64 nh, .int .i64 xl, .int .i64 xh, .int .i64 y]] w fun e w' => ∃ v, e = .returned v ∧ w'.ownsRow w.heap.size 86 4 v (allR nf nl nh xl xh).length ((allR nf nl nh xl xh).flatMap (rdC y)) ∧ Below w.heap.size w w' := by
  obtain ⟨i0, hi, hz0, hz1', hz2'⟩ := info_parts info86
  have HALL := Lib.hid (show allR nf nl nh xl xh = fR 0 nf nl nh xl xh from rfl)
  obtain ⟨all, hall⟩ : ∃ all, all = allR nf nl nh xl xh := ⟨_, rfl⟩
  rw [← hall] at hsm HALL ⊢
  clear hall
  go_enter Tryz.func121, Tryz.ntmps121
  go_upto_region 1 with (fail)
  have hQ := Blk.new w 71 #[.int .i64 nl, .int .i64 nh, .int .i64 xl, .int .i64 xh, .int .i64 y]
  have hB : Below w.heap.size w (w.alloc (.cells #[.int .i64 nl, .int .i64 nh, .int .i64 xl, .int .i64 xh, .int .i64 y] 71)) := (Below.refl _ w).alloc (Nat.le_refl _) _
  generalize w.alloc (.cells #[.int .i64 nl, .int .i64 nh, .int .i64 xl, .int .i64 xh, .int .i64 y] 71) = W0 at *
  go_wp2_with (fail)
  go_loopg [5, 6] nf (fun g v i wr => ∃ (f : Int) (pre : List Tr) (v0 : Value), g = (nf - f).toNat ∧ v = v0 ∧ i = .int .i64 f ∧ 0 ≤ f ∧ f ≤ nf ∧ pre ++ fR f nf nl nh xl xh = all ∧ wr.ownsRow w.heap.size 86 4 v0 pre.length (pre.flatMap (rdC y)) ∧ Blk wr w.heap.size 71 #[.int .i64 nl, .int .i64 nh, .int .i64 xl, .int .i64 xh, .int .i64 y] ∧ Below w.heap.size w wr)
  case atStart => exact ⟨0, [], _, by simp, rfl, rfl, by omega, by omega, HALL.out.symm, World.ownsRow_nil _ _ _ _, hQ, hB⟩
  case round =>
    clear hQ hB
    obtain ⟨f, pre, v0, hg, rfl, rfl, hf0, hf1, hpre, hown, hQ, hB⟩ := hrel
    have HG := Lib.hid hg; have HPRE := Lib.hid hpre; clear hg hpre
    have qhQ := fun i => Blk.cell hQ i
    by_cases hlt : f < nf
    · go_wp2_with (fail)
      clear qhQ
      go_loopg [5, 7] (nh + 1 - nl).toNat (fun g v i wr => ∃ (t : Int) (pre : List Tr) (v0 : Value), g = (nh + 1 - t).toNat ∧ v = v0 ∧ i = .int .i64 t ∧ nl ≤ t ∧ t ≤ 1001 ∧ pre ++ (nR f t nh xl xh ++ fR (f + 1) nf nl nh xl xh) = all ∧ wr.ownsRow w.heap.size 86 4 v0 pre.length (pre.flatMap (rdC y)) ∧ Blk wr w.heap.size 71 #[.int .i64 nl, .int .i64 nh, .int .i64 xl, .int .i64 xh, .int .i64 y] ∧ Below w.heap.size w wr)
      case atStart => exact ⟨nl, pre, _, rfl, rfl, rfl, by omega, by omega, by have e := HPRE.out; rw [fR_cons hlt] at e; exact e, hown, hQ, hB⟩
      case round =>
        clear hown hQ hB HPRE
        obtain ⟨t, pre, v0, hg, rfl, rfl, ht0, ht1, hpre, hown, hQ, hB⟩ := hrel
        have HG2 := Lib.hid hg; have HPRE := Lib.hid hpre; clear hg hpre
        have qhQ := fun i => Blk.cell hQ i
        rename World => W1
        by_cases hlt2 : t ≤ nh
        · go_wp2_with (fail)
          clear qhQ
          go_loopg [5, 8] (xh + 1 - xl).toNat (fun g v i wr => ∃ (x : Int) (pre : List Tr) (v0 : Value), g = (xh + 1 - x).toNat ∧ v = v0 ∧ i = .int .i64 x ∧ xl ≤ x ∧ x ≤ 1001 ∧ pre ++ (xR f t x xh ++ (nR f (t + 1) nh xl xh ++ fR (f + 1) nf nl nh xl xh)) = all ∧ wr.ownsRow w.heap.size 86 4 v0 pre.length (pre.flatMap (rdC y)) ∧ Blk wr w.heap.size 71 #[.int .i64 nl, .int .i64 nh, .int .i64 xl, .int .i64 xh, .int .i64 y] ∧ Below w.heap.size w wr)
          case atStart => exact ⟨xl, pre, _, rfl, rfl, rfl, by omega, by omega, by have e := HPRE.out; rw [nR_cons hlt2, List.append_assoc] at e; exact e, hown, hQ, hB⟩
          case round =>
            clear hown hQ hB HPRE
            obtain ⟨x, pre, v0, hg, rfl, rfl, hx0, hx1, hpre, hown, hQ, hB⟩ := hrel
            have HG3 := Lib.hid hg; have HPRE := Lib.hid hpre; clear hg hpre
            have qhQ := fun i => Blk.cell hQ i
            rename World => W2
            by_cases hlt3 : x ≤ xh
            · obtain ⟨va, vc, rfl⟩ := own_slice hown
              have hml : pre.length ≤ 1000 := by have e := congrArg List.length HPRE.out; rw [List.length_append] at e; omega
              obtain ⟨ml, hm⟩ : ∃ ml, ml = pre.length := ⟨_, rfl⟩
              rw [← hm] at hown hml ⊢
              have HM := Lib.hid hm; clear hm
              go_wp2_with (first
                | (at_builtin; refine wpList_append_any _ rfl _ _ 72 rfl w.heap.size 86 i0 (.agg #[.int .i64 0, .int .i64 0, .int .i64 0, .int .i64 0]) 4 32 Tryz.underlying72 hi hz0 hz1' hz2' rfl (by decide) (.slice va ml vc) ml (pre.flatMap (rdC y)) rfl (hown.alloc _) (W2.heap.size + 1) (some ⟨W2.heap.size, 0, none⟩) 1 1 (rdC y (f, t, x)) rfl (Rd.blkN (Blk.new W2 86 #[.int .i64 f, .int .i64 t, .int .i64 x, .int .i64 y]) rfl (Nat.lt_succ_self _)).reads (by simp [rdC, Value.oneCell']) (by unfold maxLen; omega) (by omega) (by have := hB.size; simp only [World.size_alloc]; omega) (fun v' w' hown' hgrow hob => ?_))
                | go_in)
              have hQ2 := (hQ.alloc (.cells #[.int .i64 f, .int .i64 t, .int .i64 x, .int .i64 y] 86)).kept_own (hown.alloc (.cells #[.int .i64 f, .int .i64 t, .int .i64 x, .int .i64 y] 86)) (by decide) hgrow
              have hB2 := (hB.alloc hB.size (.cells #[.int .i64 f, .int .i64 t, .int .i64 x, .int .i64 y] 86)).grown hgrow (by have := hB.size; simp only [World.size_alloc]; omega) (fun g hg => (hown.lt g hg).1)
              go_roundg (xh + 1 - (x + 1)).toNat
              case measure => rw [HG3.out]; omega
              case rel => exact ⟨x + 1, pre ++ [(f, t, x)], _, rfl, rfl, by go_num, by omega, by omega, by have e := HPRE.out; rw [xR_cons hlt3] at e; rw [List.append_assoc]; exact e, by rw [List.length_append, List.flatMap_append, ← HM.out]; simpa using hown', hQ2, hB2⟩
            · have e := HPRE.out
              rw [xR_nil (by omega), List.nil_append] at e
              have HE := Lib.hid e; clear e
              go_wp2_with (fail)
              go_roundg (nh + 1 - (t + 1)).toNat
              case measure => rw [HG2.out]; omega
              case rel => exact ⟨t + 1, pre, _, rfl, rfl, by go_num, by omega, by omega, HE.out, hown, hQ, hB⟩
        · have e := HPRE.out
          rw [nR_nil (by omega), List.nil_append] at e
          have HE := Lib.hid e; clear e
          go_wp2_with (fail)
          go_roundg (nf - (f + 1)).toNat
          case measure => rw [HG.out]; omega
          case rel => exact ⟨f + 1, pre, _, rfl, rfl, by go_num, by omega, by omega, HE.out, hown, hQ, hB⟩
    · have e := HPRE.out
      rw [fR_nil (by omega), List.append_nil] at e
      subst e
      go_wp2_with (fail)
      go_ret
      exact ⟨_, rfl, hown, hB⟩
end Go.Proofs.YtifddfchpknkbaaGreatDoor
