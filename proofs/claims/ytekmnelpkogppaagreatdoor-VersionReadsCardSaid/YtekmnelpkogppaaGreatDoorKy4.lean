import Derived.Test.YtekmnelpkogppaaGreatDoorProg
import Derived.Test.YtekmnelpkogppaaGreatDoorKy1
import Derived.Test.YtekmnelpkogppaaGreatDoorKy3
import Derived.Laws.RangeAny
set_option linter.unusedVariables false
set_option linter.unusedSimpArgs false
set_option maxRecDepth 100000
set_option maxHeartbeats 40000000
namespace Go.Proofs.YtekmnelpkogppaaGreatDoor
section
open Go.RowKit Go.Lib Go.Maps
theorem flatST : ∀ (l : List (Int × UInt8)) (k j : Nat) (hk : k < l.length), j < 2 → (l.flatMap stC)[k * 2 + j]? = (stC l[k])[j]?
 | x :: l, 0, j, _, hj => by
  simp only [List.flatMap_cons, List.getElem_cons_zero, Nat.zero_mul, Nat.zero_add]
  rw [List.getElem?_append_left (by simp [stC]; omega)]
 | x :: l, k + 1, j, hk, hj => by
  simp only [List.flatMap_cons, List.getElem_cons_succ]
  rw [List.getElem?_append_right (by simp [stC]; omega), show (k + 1) * 2 + j - (stC x).length = k * 2 + j by simp [stC]; omega]
  exact flatST l k j (by simpa using hk) hj
theorem Rd.lenST {w : World} {B : Nat} {A : Option Addr} {n : Nat} {l : List (Int × UInt8)} (h : Rd w B 2 A n (l.flatMap stC)) : l.length = n := by have := h.1; rw [stC_len] at this; omega
theorem Rd.elST {w : World} {B : Nat} {A : Option Addr} {n k : Nat} {l : List (Int × UInt8)} (h : Rd w B 2 A n (l.flatMap stC)) (hk : k < n) : ∃ b off, ∃ hz : k < l.length, A = some ⟨b, off, none⟩ ∧ b < B ∧ w.cell? ⟨b, off + k * 2, none⟩ = some (.int .i64 l[k].1) ∧ w.cell? ⟨b, off + k * 2 + 1, none⟩ = some (.int .i64 (l[k].2.toNat : Int)) := by
 have hl := h.lenST
 obtain ⟨b, off, rfl, hb, hc⟩ := h.2 (by omega)
 refine ⟨b, off, by omega, rfl, hb, ?_, ?_⟩
 ·exact hc (k * 2) _ (by have := flatST l k 0 (by omega) (by omega); rw [Nat.add_zero] at this; rw [this]; rfl)
 ·exact hc (k * 2 + 1) _ (by rw [flatST l k 1 (by omega) (by omega)]; rfl)
theorem sameSteps_any (A : Option Addr) (n cap : Nat) (xs : List (Int × UInt8)) (A2 : Option Addr) (n2 cap2 : Nat) (ys : List (Int × UInt8)) (w : World) (hn : n ≤ 1000000) (hn2 : n2 ≤ 1000000) (hr : Rd w w.heap.size 2 A n (xs.flatMap stC)) (hr2 : Rd w w.heap.size 2 A2 n2 (ys.flatMap stC)) :
  Calls Tryz.prog 34 #[.slice A n cap, .slice A2 n2 cap2] w fun e w' => e = .returned (.bool (decide (xs = ys))) ∧ Below w.heap.size w w' := by
 have hl1 := hr.lenST
 have hl2 := hr2.lenST
 have HL1 := Lib.hid hl1; have HL2 := Lib.hid hl2; clear hl1 hl2
 by_cases hne : n = n2
 ·subst hne
  obtain ⟨R, hR⟩ : ∃ R, R = decide (xs = ys) := ⟨_, rfl⟩
  rw [← hR]
  have HR := Lib.hid hR; clear hR
  go_enter Tryz.func34, Tryz.ntmps34
  go_wp2_with fail
  go_loopg [5] n (fun g i wr => ∃ k : Nat, g = n - k ∧ k ≤ n ∧ i = .int .i64 k ∧ Hid (xs.take k = ys.take k) ∧ Below w.heap.size w wr)
  case atStart => exact ⟨0, rfl, Nat.zero_le _, rfl, Lib.hid rfl, Below.refl _ _⟩
  case round =>
   obtain ⟨k, hg, hk, rfl, hpre, hB⟩ := hrel
   rename World => wr
   have HG := Lib.hid hg; clear hg
   by_cases hlt : k < n
   ·have hlti : (k : Int) < n := by omega
    have hlt2 : k < n := hlt
    obtain ⟨b, off, hz, rfl, hb, hc1, hc1b⟩ := (hr.below hB).elST hlt
    obtain ⟨b2, off2, hz2, rfl, hb2, hc2, hc2b⟩ := (hr2.below hB).elST hlt
    have hsu := fun he => take_eq_succ hz hz2 hpre.out he
    have hno : xs[k] ≠ ys[k] → R = false := fun h => by
     rw [HR.out, decide_eq_false_iff_not]
     intro e
     exact h (List.getElem_of_eq e hz)
    have HSU := Lib.hid hsu; have HNO := Lib.hid hno; clear hsu hno
    generalize xs[k] = x at *
    generalize ys[k] = y at *
    obtain ⟨x0, x1⟩ := x
    obtain ⟨y0, y1⟩ := y
    dsimp only at hc1 hc1b hc2 hc2b
    clear hz hz2
    by_cases he0 : x0 = y0
    ·by_cases he1 : x1 = y1
     ·subst he0 he1
      go_upto_region 6 with fail
      rename World => WR
      refine wp_region_G (fun w' => w'.cell? ⟨b, off + k * 2, none⟩ = some (.int .i64 x0) ∧ w'.cell? ⟨b, off + k * 2 + 1, none⟩ = some (.int .i64 (x1.toNat : Int)) ∧ w'.cell? ⟨b2, off2 + k * 2, none⟩ = some (.int .i64 x0) ∧ w'.cell? ⟨b2, off2 + k * 2 + 1, none⟩ = some (.int .i64 (x1.toNat : Int))) 9 (by kernel_rfl) ?_
      replace hB := hB.drew; replace hc1 : WR.drew.cell? ⟨b, off + k * 2, none⟩ = _ := hc1; replace hc1b : WR.drew.cell? ⟨b, off + k * 2 + 1, none⟩ = _ := hc1b; replace hc2 : WR.drew.cell? ⟨b2, off2 + k * 2, none⟩ = _ := hc2; replace hc2b : WR.drew.cell? ⟨b2, off2 + k * 2 + 1, none⟩ = _ := hc2b
      generalize WR.drew = WD at *
      have hTT : WD.cell? ⟨b, off + k * 2, none⟩ = some (.int .i64 x0) ∧ WD.cell? ⟨b, off + k * 2 + 1, none⟩ = some (.int .i64 (x1.toNat : Int)) ∧ WD.cell? ⟨b2, off2 + k * 2, none⟩ = some (.int .i64 x0) ∧ WD.cell? ⟨b2, off2 + k * 2 + 1, none⟩ = some (.int .i64 (x1.toNat : Int)) := ⟨hc1, hc1b, hc2, hc2b⟩
      refine tk2 0 (v := ?_) rfl rfl (Or.inl ⟨by rfl, ?h⟩) hTT ?_
      case h => intro wq hSw; have q1 := hSw.1; have q1b := hSw.2.1; have q2 := hSw.2.2.1; have q2b := hSw.2.2.2; have e1 := hlti; have e2 := hlt2; go_simp <;> with_reducible rfl
      simp only [LS, Act.put]
      refine tk2 1 (v := ?_) rfl rfl (Or.inl ⟨by rfl, ?h⟩) hTT ?_
      case h => intro wq hSw; have q1 := hSw.1; have q1b := hSw.2.1; have q2 := hSw.2.2.1; have q2b := hSw.2.2.2; have e1 := hlti; have e2 := hlt2; go_simp <;> with_reducible rfl
      simp only [LS, Act.put]
      refine tk2 2 (v := ?_) rfl rfl (Or.inl ⟨by rfl, ?h⟩) hTT ?_
      case h => intro wq hSw; have q1 := hSw.1; have q1b := hSw.2.1; have q2 := hSw.2.2.1; have q2b := hSw.2.2.2; have e1 := hlti; have e2 := hlt2; go_simp <;> with_reducible rfl
      simp only [LS, Act.put]
      refine tk2 3 (v := ?_) rfl rfl (Or.inl ⟨by rfl, ?h⟩) hTT ?_
      case h => intro wq hSw; have q1 := hSw.1; have q1b := hSw.2.1; have q2 := hSw.2.2.1; have q2b := hSw.2.2.2; have e1 := hlti; have e2 := hlt2; go_simp <;> with_reducible rfl
      simp only [LS, Act.put]
      refine tk2 4 (v := ?_) rfl rfl (Or.inl ⟨by rfl, ?h⟩) hTT ?_
      case h => intro wq hSw; have q1 := hSw.1; have q1b := hSw.2.1; have q2 := hSw.2.2.1; have q2b := hSw.2.2.2; have e1 := hlti; have e2 := hlt2; go_simp <;> with_reducible rfl
      simp only [LS, Act.put]
      refine tk2 5 (v := ?_) rfl rfl (Or.inl ⟨by rfl, ?h⟩) hTT ?_
      case h => intro wq hSw; have q1 := hSw.1; have q1b := hSw.2.1; have q2 := hSw.2.2.1; have q2b := hSw.2.2.2; have e1 := hlti; have e2 := hlt2; go_simp <;> with_reducible rfl
      simp only [LS, Act.put]
      refine tk2 6 (v := ?_) rfl rfl (Or.inl ⟨by rfl, ?h⟩) hTT ?_
      case h => intro wq hSw; have q1 := hSw.1; have q1b := hSw.2.1; have q2 := hSw.2.2.1; have q2b := hSw.2.2.2; have e1 := hlti; have e2 := hlt2; go_simp <;> with_reducible rfl
      simp only [LS, Act.put]
      refine tk2 7 (v := ?_) rfl rfl (Or.inl ⟨by rfl, ?h⟩) hTT ?_
      case h => intro wq hSw; have q1 := hSw.1; have q1b := hSw.2.1; have q2 := hSw.2.2.1; have q2b := hSw.2.2.2; have e1 := hlti; have e2 := hlt2; go_simp <;> with_reducible rfl
      simp only [LS, Act.put]
      refine o1 8 rfl fun K hK => ?_
      go_simp
      refine hK _ _ (.inr hTT) ?_
      clear hK K
      try simp only [LS, Act.put]
      refine wpG_done (by kernel_rfl) ?_ _
      clear hTT
      clear hc1 hc2 hc1b hc2b
      go_wp2_with fail
      go_roundg (n - (k + 1))
      case measure => rw [HG.out]; omega
      case rel => exact ⟨k + 1, rfl, by omega, by go_num, Lib.hid (HSU.out trivial), hB⟩
     ·subst he0
      have h1 : ¬ (x1.toNat : Int) = (y1.toNat : Int) := fun e => he1 (UInt8.toNat_inj.1 (by omega))
      have HE := Lib.hid (show ((x0, x1) : Int × UInt8) ≠ (x0, y1) from fun e => he1 (Prod.ext_iff.1 e).2); clear he1
      go_upto_region 6 with fail
      rename World => WR
      refine wp_region_G (fun w' => w'.cell? ⟨b, off + k * 2, none⟩ = some (.int .i64 x0) ∧ w'.cell? ⟨b, off + k * 2 + 1, none⟩ = some (.int .i64 (x1.toNat : Int)) ∧ w'.cell? ⟨b2, off2 + k * 2, none⟩ = some (.int .i64 x0) ∧ w'.cell? ⟨b2, off2 + k * 2 + 1, none⟩ = some (.int .i64 (y1.toNat : Int))) 9 (by kernel_rfl) ?_
      replace hB := hB.drew; replace hc1 : WR.drew.cell? ⟨b, off + k * 2, none⟩ = _ := hc1; replace hc1b : WR.drew.cell? ⟨b, off + k * 2 + 1, none⟩ = _ := hc1b; replace hc2 : WR.drew.cell? ⟨b2, off2 + k * 2, none⟩ = _ := hc2; replace hc2b : WR.drew.cell? ⟨b2, off2 + k * 2 + 1, none⟩ = _ := hc2b
      generalize WR.drew = WD at *
      have hTT : WD.cell? ⟨b, off + k * 2, none⟩ = some (.int .i64 x0) ∧ WD.cell? ⟨b, off + k * 2 + 1, none⟩ = some (.int .i64 (x1.toNat : Int)) ∧ WD.cell? ⟨b2, off2 + k * 2, none⟩ = some (.int .i64 x0) ∧ WD.cell? ⟨b2, off2 + k * 2 + 1, none⟩ = some (.int .i64 (y1.toNat : Int)) := ⟨hc1, hc1b, hc2, hc2b⟩
      refine tk2 0 (v := ?_) rfl rfl (Or.inl ⟨by rfl, ?h⟩) hTT ?_
      case h => intro wq hSw; have q1 := hSw.1; have q1b := hSw.2.1; have q2 := hSw.2.2.1; have q2b := hSw.2.2.2; have e1 := hlti; have e2 := hlt2; go_simp <;> with_reducible rfl
      simp only [LS, Act.put]
      refine tk2 1 (v := ?_) rfl rfl (Or.inl ⟨by rfl, ?h⟩) hTT ?_
      case h => intro wq hSw; have q1 := hSw.1; have q1b := hSw.2.1; have q2 := hSw.2.2.1; have q2b := hSw.2.2.2; have e1 := hlti; have e2 := hlt2; go_simp <;> with_reducible rfl
      simp only [LS, Act.put]
      refine tk2 2 (v := ?_) rfl rfl (Or.inl ⟨by rfl, ?h⟩) hTT ?_
      case h => intro wq hSw; have q1 := hSw.1; have q1b := hSw.2.1; have q2 := hSw.2.2.1; have q2b := hSw.2.2.2; have e1 := hlti; have e2 := hlt2; go_simp <;> with_reducible rfl
      simp only [LS, Act.put]
      refine tk2 3 (v := ?_) rfl rfl (Or.inl ⟨by rfl, ?h⟩) hTT ?_
      case h => intro wq hSw; have q1 := hSw.1; have q1b := hSw.2.1; have q2 := hSw.2.2.1; have q2b := hSw.2.2.2; have e1 := hlti; have e2 := hlt2; go_simp <;> with_reducible rfl
      simp only [LS, Act.put]
      refine tk2 4 (v := ?_) rfl rfl (Or.inl ⟨by rfl, ?h⟩) hTT ?_
      case h => intro wq hSw; have q1 := hSw.1; have q1b := hSw.2.1; have q2 := hSw.2.2.1; have q2b := hSw.2.2.2; have e1 := hlti; have e2 := hlt2; go_simp <;> with_reducible rfl
      simp only [LS, Act.put]
      refine tk2 5 (v := ?_) rfl rfl (Or.inl ⟨by rfl, ?h⟩) hTT ?_
      case h => intro wq hSw; have q1 := hSw.1; have q1b := hSw.2.1; have q2 := hSw.2.2.1; have q2b := hSw.2.2.2; have e1 := hlti; have e2 := hlt2; go_simp <;> with_reducible rfl
      simp only [LS, Act.put]
      refine tk2 6 (v := ?_) rfl rfl (Or.inl ⟨by rfl, ?h⟩) hTT ?_
      case h => intro wq hSw; have q1 := hSw.1; have q1b := hSw.2.1; have q2 := hSw.2.2.1; have q2b := hSw.2.2.2; have e1 := hlti; have e2 := hlt2; go_simp <;> with_reducible rfl
      simp only [LS, Act.put]
      refine tk2 7 (v := ?_) rfl rfl (Or.inl ⟨by rfl, ?h⟩) hTT ?_
      case h => intro wq hSw; have q1 := hSw.1; have q1b := hSw.2.1; have q2 := hSw.2.2.1; have q2b := hSw.2.2.2; have e1 := hlti; have e2 := hlt2; go_simp <;> with_reducible rfl
      simp only [LS, Act.put]
      refine o1 8 rfl fun K hK => ?_
      go_simp
      refine hK _ _ (.inr hTT) ?_
      clear hK K
      try simp only [LS, Act.put]
      refine wpG_done (by kernel_rfl) ?_ _
      clear hTT
      clear hc1 hc2 hc1b hc2b
      go_wp2_with fail
      go_ret
      exact ⟨by rw [HNO.out HE.out]; rfl, hB⟩
    ·have HE := Lib.hid (show ((x0, x1) : Int × UInt8) ≠ (y0, y1) from fun e => he0 (Prod.ext_iff.1 e).1)
     go_upto_region 6 with fail
     rename World => WR
     refine wp_region_G (fun w' => w'.cell? ⟨b, off + k * 2, none⟩ = some (.int .i64 x0) ∧ w'.cell? ⟨b, off + k * 2 + 1, none⟩ = some (.int .i64 (x1.toNat : Int)) ∧ w'.cell? ⟨b2, off2 + k * 2, none⟩ = some (.int .i64 y0) ∧ w'.cell? ⟨b2, off2 + k * 2 + 1, none⟩ = some (.int .i64 (y1.toNat : Int))) 9 (by kernel_rfl) ?_
     replace hB := hB.drew; replace hc1 : WR.drew.cell? ⟨b, off + k * 2, none⟩ = _ := hc1; replace hc1b : WR.drew.cell? ⟨b, off + k * 2 + 1, none⟩ = _ := hc1b; replace hc2 : WR.drew.cell? ⟨b2, off2 + k * 2, none⟩ = _ := hc2; replace hc2b : WR.drew.cell? ⟨b2, off2 + k * 2 + 1, none⟩ = _ := hc2b
     generalize WR.drew = WD at *
     have hTT : WD.cell? ⟨b, off + k * 2, none⟩ = some (.int .i64 x0) ∧ WD.cell? ⟨b, off + k * 2 + 1, none⟩ = some (.int .i64 (x1.toNat : Int)) ∧ WD.cell? ⟨b2, off2 + k * 2, none⟩ = some (.int .i64 y0) ∧ WD.cell? ⟨b2, off2 + k * 2 + 1, none⟩ = some (.int .i64 (y1.toNat : Int)) := ⟨hc1, hc1b, hc2, hc2b⟩
     refine tk2 0 (v := ?_) rfl rfl (Or.inl ⟨by rfl, ?h⟩) hTT ?_
     case h => intro wq hSw; have q1 := hSw.1; have q1b := hSw.2.1; have q2 := hSw.2.2.1; have q2b := hSw.2.2.2; have e1 := hlti; have e2 := hlt2; go_simp <;> with_reducible rfl
     simp only [LS, Act.put]
     refine tk2 1 (v := ?_) rfl rfl (Or.inl ⟨by rfl, ?h⟩) hTT ?_
     case h => intro wq hSw; have q1 := hSw.1; have q1b := hSw.2.1; have q2 := hSw.2.2.1; have q2b := hSw.2.2.2; have e1 := hlti; have e2 := hlt2; go_simp <;> with_reducible rfl
     simp only [LS, Act.put]
     refine tk2 2 (v := ?_) rfl rfl (Or.inl ⟨by rfl, ?h⟩) hTT ?_
     case h => intro wq hSw; have q1 := hSw.1; have q1b := hSw.2.1; have q2 := hSw.2.2.1; have q2b := hSw.2.2.2; have e1 := hlti; have e2 := hlt2; go_simp <;> with_reducible rfl
     simp only [LS, Act.put]
     refine tk2 3 (v := ?_) rfl rfl (Or.inl ⟨by rfl, ?h⟩) hTT ?_
     case h => intro wq hSw; have q1 := hSw.1; have q1b := hSw.2.1; have q2 := hSw.2.2.1; have q2b := hSw.2.2.2; have e1 := hlti; have e2 := hlt2; go_simp <;> with_reducible rfl
     simp only [LS, Act.put]
     refine tk2 4 (v := ?_) rfl rfl (Or.inl ⟨by rfl, ?h⟩) hTT ?_
     case h => intro wq hSw; have q1 := hSw.1; have q1b := hSw.2.1; have q2 := hSw.2.2.1; have q2b := hSw.2.2.2; have e1 := hlti; have e2 := hlt2; go_simp <;> with_reducible rfl
     simp only [LS, Act.put]
     refine tk2 5 (v := ?_) rfl rfl (Or.inl ⟨by rfl, ?h⟩) hTT ?_
     case h => intro wq hSw; have q1 := hSw.1; have q1b := hSw.2.1; have q2 := hSw.2.2.1; have q2b := hSw.2.2.2; have e1 := hlti; have e2 := hlt2; go_simp <;> with_reducible rfl
     simp only [LS, Act.put]
     refine tk2 6 (v := ?_) rfl rfl (Or.inl ⟨by rfl, ?h⟩) hTT ?_
     case h => intro wq hSw; have q1 := hSw.1; have q1b := hSw.2.1; have q2 := hSw.2.2.1; have q2b := hSw.2.2.2; have e1 := hlti; have e2 := hlt2; go_simp <;> with_reducible rfl
     simp only [LS, Act.put]
     refine tk2 7 (v := ?_) rfl rfl (Or.inl ⟨by rfl, ?h⟩) hTT ?_
     case h => intro wq hSw; have q1 := hSw.1; have q1b := hSw.2.1; have q2 := hSw.2.2.1; have q2b := hSw.2.2.2; have e1 := hlti; have e2 := hlt2; go_simp <;> with_reducible rfl
     simp only [LS, Act.put]
     refine o1 8 rfl fun K hK => ?_
     go_simp
     refine hK _ _ (.inr hTT) ?_
     clear hK K
     try simp only [LS, Act.put]
     refine wpG_done (by kernel_rfl) ?_ _
     clear hTT
     clear hc1 hc2 hc1b hc2b
     go_wp2_with fail
     go_ret
     exact ⟨by rw [HNO.out HE.out]; rfl, hB⟩
   ·obtain rfl : k = n := by omega
    have hge : ¬ (k : Int) < k := by omega
    have hf : R = true := by
     rw [HR.out, decide_eq_true_eq]
     have := hpre.out
     rwa [List.take_of_length_le (by rw [HL1.out]; exact Nat.le_refl _), List.take_of_length_le (by rw [HL2.out]; exact Nat.le_refl _)] at this
    have HF := Lib.hid hf; clear hf
    go_wp2_with fail
    go_ret
    exact ⟨by rw [HF.out]; rfl, hB⟩
 ·have hf : decide (xs = ys) = false := by
   rw [decide_eq_false_iff_not]
   intro e
   have := congrArg List.length e
   rw [HL1.out, HL2.out] at this
   exact hne this
  rw [hf]
  have hni : ((n : Int) != n2) = true := by rw [bne_iff_ne]; omega
  clear hf
  go_enter Tryz.func34, Tryz.ntmps34
  go_wp2_with fail
  go_ret
  exact ⟨rfl, Below.refl _ _⟩
end
section
open Go.RowKit Go.Lib
def dfsL (lim : Nat) : Nat → List Int → List (List Int)
 | 0, pre => [pre]
 | r + 1, pre => (List.range lim).flatMap fun (n : Nat) => dfsL lim r (pre ++ [Int.ofNat n])
def allLs (many lim : Nat) : List (List Int) := dfsL lim many []
def allLn (words : Nat) : List ByteArray := (List.range 5).flatMap fun k => (allLs k words).map lbS
theorem dfsL_mem (lim : Nat) : ∀ (r : Nat) (pre l : List Int), l ∈ dfsL lim r pre → l.length = pre.length + r ∧ ((∀ x ∈ pre, 0 ≤ x ∧ x < (lim : Int)) → ∀ x ∈ l, 0 ≤ x ∧ x < (lim : Int))
 | 0, pre, l, h => by
  rw [dfsL, List.mem_singleton] at h
  subst h
  exact ⟨rfl, fun h => h⟩
 | r + 1, pre, l, h => by
  rw [dfsL, List.mem_flatMap] at h
  obtain ⟨n, hn, h⟩ := h
  obtain ⟨h1, h2⟩ := dfsL_mem lim r _ l h
  rw [List.length_append, List.length_singleton] at h1
  refine ⟨by omega, fun hp => h2 fun x hx => ?_⟩
  rcases List.mem_append.1 hx with hx | hx
  ·exact hp x hx
  ·rw [List.mem_singleton.1 hx]
   have := List.mem_range.1 hn
   rw [Int.ofNat_eq_natCast]
   omega
theorem allLs_mem {many lim : Nat} {l : List Int} (h : l ∈ allLs many lim) : l.length = many ∧ ∀ x ∈ l, 0 ≤ x ∧ x < (lim : Int) := by
 obtain ⟨h1, h2⟩ := dfsL_mem lim many [] l h
 exact ⟨by simpa using h1, h2 (fun x hx => absurd hx List.not_mem_nil)⟩
theorem flatMap_len_const {α β : Type} (c : Nat) (f : α → List β) : ∀ l : List α, (∀ x ∈ l, (f x).length = c) → (l.flatMap f).length = l.length * c
 | [], _ => by simp
 | x :: l, h => by
  rw [List.flatMap_cons, List.length_append, flatMap_len_const c f l (fun y hy => h y (List.mem_cons_of_mem _ hy)), h x List.mem_cons_self, List.length_cons, Nat.add_mul, Nat.one_mul, Nat.add_comm]
theorem dfsL_len (lim : Nat) : ∀ (r : Nat) (pre : List Int), (dfsL lim r pre).length = lim ^ r
 | 0, pre => rfl
 | r + 1, pre => by
  rw [dfsL, flatMap_len_const (lim ^ r) _ _ (fun n _ => dfsL_len lim r _), List.length_range, Nat.pow_succ, Nat.mul_comm]
theorem allLn_mem {words : Nat} {s : ByteArray} (h : s ∈ allLn words) : s.size ≤ 4 ∧ ∃ l : List Int, s = lbS l ∧ l.length ≤ 4 ∧ ∀ x ∈ l, 0 ≤ x ∧ x < (words : Int) := by
 unfold allLn at h
 rw [List.mem_flatMap] at h
 obtain ⟨k, hk, h⟩ := h
 obtain ⟨l, hl, rfl⟩ := List.mem_map.1 h
 obtain ⟨h1, h2⟩ := allLs_mem hl
 have := List.mem_range.1 hk
 refine ⟨?_, l, rfl, by omega, h2⟩
 unfold lbS lbL
 simp [ByteArray.size]
 omega
theorem allLn_len (words : Nat) : (allLn words).length = 1 + words + words ^ 2 + words ^ 3 + words ^ 4 := by
 have h : ∀ k, ((allLs k words).map lbS).length = words ^ k := fun k => by rw [List.length_map, allLs, dfsL_len]
 unfold allLn
 simp [List.range_succ, h]
 omega
end
section
open Go.RowKit Go.Lib
theorem lists_any (many limit : Int) (w : World) :
  Calls Tryz.prog 137 #[.int .i64 many, .int .i64 limit] w fun e w' => e = .returned (.func (.func 182) #[] #[.pointer (some ⟨w.heap.size, 0, none⟩), .pointer (some ⟨w.heap.size + 1, 0, none⟩)]) ∧ w' = (w.alloc (.cells #[.int .i64 many] 3)).alloc (.cells #[.int .i64 limit] 3) := by
 have hmf : ∀ (fn : Fn) (first cap : Array Value) (w : World), (Instr.makeFunc fn first cap).run Tryz.prog w = .ok (.func fn first cap) w := fun _ _ _ _ => rfl
 go_enter Tryz.func137, Tryz.ntmps137
 go_wp2_with fail
 go_ret
 exact ⟨rfl, rfl⟩
theorem lines_any (words : Int) (w : World) :
  Calls Tryz.prog 134 #[.int .i64 words] w fun e w' => e = .returned (.func (.func 175) #[] #[.pointer (some ⟨w.heap.size, 0, none⟩)]) ∧ w' = w.alloc (.cells #[.int .i64 words] 3) := by
 have hmf : ∀ (fn : Fn) (first cap : Array Value) (w : World), (Instr.makeFunc fn first cap).run Tryz.prog w = .ok (.func fn first cap) w := fun _ _ _ _ => rfl
 go_enter Tryz.func134, Tryz.ntmps134
 go_wp2_with fail
 go_ret
 exact ⟨rfl, rfl⟩
end
section
open Go.RowKit Go.Lib Go.Shelf
attribute [local go_sem] Oper.semAt_some
theorem RoundIn.wide {m m' : Nat} {P : Program} {l : Nat} {f : FuncId} {tmps : Array Value} {assign body : Code} {w : World} {R : Ending → World → Prop}
  (h : RoundIn Fence.wide m P l f tmps assign body w R) : RoundIn Fence.wide m' P l f tmps assign body w R := ⟨h.1, fun c cs _ => h.2 c cs (room_wide _)⟩
theorem wideF : ∀ f, Fence.wide.fn f := fun _ => trivial
def SrI (l bM bY bL bS : Nat) (many lim : Nat) (O : Nat → Prop) (W : World) : Prop :=
 (O bM ∧ O bY ∧ O bL ∧ O bS) ∧ Blk W bM 3 #[.int .i64 (many : Int)] ∧ Blk W bL 3 #[.int .i64 (lim : Int)] ∧ Blk W bY 202 #[.func (.yield l) #[] #[]] ∧
  Blk W bS 202 #[.func (.func 183) #[] #[.pointer (some ⟨bM, 0, none⟩), .pointer (some ⟨bY, 0, none⟩), .pointer (some ⟨bL, 0, none⟩), .pointer (some ⟨bS, 0, none⟩)]]
theorem SrI.held {l bM bY bL bS many lim : Nat} {O O' Z : Nat → Prop} {A B : World} (h : SrI l bM bY bL bS many lim O A) (hh : Held Z A B) (hz : Z bM ∧ Z bY ∧ Z bL ∧ Z bS) (ho : ∀ k, O k → O' k) : SrI l bM bY bL bS many lim O' B :=
 ⟨⟨ho _ h.1.1, ho _ h.1.2.1, ho _ h.1.2.2.1, ho _ h.1.2.2.2⟩, hh.blk h.2.1 hz.1, hh.blk h.2.2.1 hz.2.2.1, hh.blk h.2.2.2.1 hz.2.1, hh.blk h.2.2.2.2 hz.2.2.2⟩
abbrev LV := List Int × Value
def SPost (J Jx : List LV → (Nat → Prop) → World → Prop) (ls : List (List Int)) (base k : Nat) (xs : List Value) (v : Value) (done : List LV) (O : Nat → Prop) (W : World) (e : Ending) (W' : World) : Prop :=
 (e = .returned (.bool true) ∧ ∃ O' done', done'.map Prod.fst = done.map Prod.fst ++ ls ∧ J done' O' W' ∧ (∀ k, O k → O' k) ∧ Held (fun k => O k ∧ some k ≠ v.ownBlock) W W' ∧ W'.ownsRow base 3 1 v k xs) ∨
 (e = .returned (.bool false) ∧ Held (fun k => O k ∧ some k ≠ v.ownBlock) W W' ∧ ∃ O' done', Jx done' O' W')
def YR (J Jx : List LV → (Nat → Prop) → World → Prop) (pre : List LV) (x : LV) (O : Nat → Prop) (W1 : World) (e : Ending) (W' : World) : Prop :=
 (e = .returned (.bool true) ∧ J (pre ++ [x]) O W' ∧ Held O W1 W') ∨ (e = .returned (.bool false) ∧ Jx (pre ++ [x]) O W' ∧ Held O W1 W')
abbrev intsV (l : List Int) : List Value := l.map (Value.int .i64)
def upTo (lim r : Nat) (pre : List Int) (q : Nat) : List (List Int) := (List.range q).flatMap fun (n : Nat) => dfsL lim r (pre ++ [Int.ofNat n])
theorem upTo_succ (lim r : Nat) (pre : List Int) (q : Nat) : upTo lim r pre (q + 1) = upTo lim r pre q ++ dfsL lim r (pre ++ [(q : Int)]) := by
 unfold upTo; rw [List.range_succ, List.flatMap_append]; simp
theorem upTo_pre (lim r : Nat) (pre : List Int) {q m : Nat} (h : q ≤ m) : upTo lim r pre q <+: upTo lim r pre m := by
 obtain ⟨d, rfl⟩ := Nat.exists_eq_add_of_le h
 unfold upTo
 rw [List.range_add, List.flatMap_append]
 exact List.prefix_append _ _
theorem search_in (l bM bY bL bS base many lim : Nat) (hmany : many ≤ 5) (hlim : lim ≤ 6) (hbb : bM < base ∧ bY < base ∧ bL < base ∧ bS < base)
  (J Jx : List LV → (Nat → Prop) → World → Prop) (ALL : List (List Int))
  (hJ : ∀ s O O' A B, J s O A → Off O A B → (∀ k, O' k → O k ∨ (A.heap.size ≤ k ∧ k < B.heap.size)) → J s O' B)
  (hY : ∀ pre (x : LV) O W0 W1, J pre O W0 → Off O W0 W1 → W1.ownsRow W0.heap.size 3 1 x.2 many (intsV x.1) → (∀ y ∈ x.1, 0 ≤ y ∧ y < (lim : Int)) → (pre ++ [x]).map Prod.fst <+: ALL → YieldAt Fence.wide 0 Tryz.prog l #[x.2] W1 (YR J Jx pre x O W1)) :
  ∀ (r : Nat) (pre : List Int) (v : Value) (done : List LV) (O : Nat → Prop) (n : Nat) (W : World), pre.length + r = many → (∀ y ∈ pre, 0 ≤ y ∧ y < (lim : Int)) → done.map Prod.fst ++ dfsL lim r pre <+: ALL → base ≤ W.heap.size → J done O W → SrI l bM bY bL bS many lim O W →
   W.ownsRow base 3 1 v pre.length (intsV pre) → (∀ g, v.ownBlock = some g → O g) →
   CallsIn Fence.wide n Tryz.prog 183 #[v, .pointer (some ⟨bM, 0, none⟩), .pointer (some ⟨bY, 0, none⟩), .pointer (some ⟨bL, 0, none⟩), .pointer (some ⟨bS, 0, none⟩)] W
    (SPost J Jx (dfsL lim r pre) base pre.length (intsV pre) v done O W) := by
 obtain ⟨i3, hi, hz0, hz1', hz2'⟩ := info_parts info3
 intro r
 induction r with
 | zero =>
  intro pre v done O n W hk hpb hal hbs hJd hSI hown hvO
  obtain ⟨hOO, hM, hL, hYb, hS⟩ := hSI
  obtain ⟨vA, vc, rfl⟩ := own_slice hown
  have hkm : pre.length = many := by omega
  have qM := fun i => hM.cell i
  have qY := fun i => hYb.cell i
  have hlM := hM.lt
  have hb0 : ((pre.length : Int) == (many : Int)) = true := by rw [hkm]; simp
  have hnil : vA = none → pre.length = 0 := fun e => by subst e; rcases hown.2 with ⟨_, h⟩ | ⟨_, _, _, h, _⟩; exact h; cases h
  have hrd := Rd.of_own hown
  obtain ⟨k, hk'⟩ : ∃ k, k = pre.length := ⟨_, rfl⟩
  rw [← hk'] at hb0 hown hrd hnil hvO ⊢
  rw [← hk'] at hkm
  have hk5 : k ≤ 5 := by omega
  have HPB := Lib.hid hpb; have HAL := Lib.hid hal; clear hpb hal
  have HK := Lib.hid hk'; have HKM := Lib.hid hkm; have HN := Lib.hid hnil; have HVO := Lib.hid hvO
  clear hk hk' hkm hnil hvO
  refine callsIn_of_wp Tryz.func183 rfl trivial ?_ rfl
  simp only [Tryz.ntmps183, List.size_toArray, List.length_cons, List.length_nil, Nat.reduceAdd, Nat.reduceSub, Array.replicate_succ, Array.replicate_zero, List.push_toArray, List.append_toArray, List.nil_append, List.cons_append]
  gi_wp2
  have hT : ∀ w', (Blk w' bY 202 #[.func (.yield l) #[] #[]]) → w'.cell? ⟨bY, 0, none⟩ = some (.func (.yield l) #[] #[]) := fun w' h => by have := h.cell 0; simpa using this
  rename World => WR
  refine wpIn_region_R (fun w' => Blk w' bY 202 #[.func (.yield l) #[] #[]]) 5 (by kernel_rfl) ?_
  replace hYb := hYb.drew; replace hrd : Rd WR.drew WR.drew.heap.size 1 vA k (intsV pre) := hrd.drew; have hownD : WR.drew.ownsRow base 3 1 (.slice vA k vc) k (intsV pre) := hown; have hJD := hJ _ _ O _ _ hJd (Off.drew O WR) (fun k h => .inl h); have hheldD := Held.drew O WR
  generalize WR.drew = WD at *
  have hTT : Blk WD bY 202 #[.func (.yield l) #[] #[]] := hYb
  refine wpR_take (i := 0) (v := ?vy1_0) wideF (by kernel_rfl) rfl (by kernel_rfl) (by kernel_rfl) (by kernel_rfl) rfl (fun _ _ _ h => h) (Or.inl ⟨by rfl, ?hyy1_0⟩) hTT ?resty1_0
  case hyy1_0 => intro wq hSw; have hq := hT wq hSw; go_simp <;> with_reducible rfl
  simp only [LS, Act.put]
  refine wpR_take (i := 1) (v := ?vy1_1) wideF (by kernel_rfl) rfl (by kernel_rfl) (by kernel_rfl) (by kernel_rfl) rfl (fun _ _ _ h => h) (Or.inl ⟨by rfl, ?hyy1_1⟩) hTT ?resty1_1
  case hyy1_1 => intro wq hSw; have hq := hT wq hSw; go_simp <;> with_reducible rfl
  simp only [LS, Act.put]
  refine wpR_one (i := 2) wideF rfl (by kernel_rfl) (fun K hK => ?_)
  go_simp
  refine ⟨trivial, fun h => (by cases h), (callsIn_wide.2 (clone_int vA k vc (pre) WD (by omega) HN.out hrd)).mono ?_⟩
  rintro e w1 ⟨v', rfl, hown', hb⟩
  have hYb1 := hYb.below hb hYb.lt
  have hown1 := ownsRow_below' hownD hb
  have hh1 : Held O WR w1 := hheldD.trans (Held.of_below hb)
  replace hTT := hYb1
  obtain ⟨fn, tmps, assign, body, hy, hR⟩ := hY done (pre, v') O WD w1 hJD (Off.of_below hb) (by rw [← HKM.out]; exact hown') HPB.out (by simpa [dfsL] using HAL.out)
  refine hK _ _ (.inr hTT) ?_
  clear hK K
  try simp only [LS, Act.put]
  refine wpR_one (i := 3) wideF rfl (by kernel_rfl) (fun K hK => ?_)
  go_simp
  refine ⟨fun h => (by cases h), (RoundIn.wide hR).mono ?_⟩
  clear hR hy
  rintro e W3 (⟨rfl, hJ3, hh3⟩ | ⟨rfl, hJ3, hh3⟩)
  ·have hTT3 := hh3.blk hYb1 hOO.2.1
   refine hK _ _ (.inr hTT3) ?_
   clear hK K
   try simp only [LS, Act.put]
   refine wpR_one (i := 4) wideF rfl (by kernel_rfl) (fun K hK => ?_)
   go_simp
   refine hK _ _ (.inr hTT3) ?_
   clear hK K
   try simp only [LS, Act.put]
   refine wpR_done (by kernel_rfl) ?_ _
   clear hTT hTT3 qM qY
   gi_wp2
   go_ret
   exact .inl ⟨rfl, O, done ++ [(pre, v')], by simp [dfsL], hJ3, fun _ h => h, (hh1.trans hh3).slim (fun _ h => h.1), hh3.own hown1 HVO.out⟩
  ·have hTT3 := hh3.blk hYb1 hOO.2.1
   refine hK _ _ (.inr hTT3) ?_
   clear hK K
   try simp only [LS, Act.put]
   refine wpR_one (i := 4) wideF rfl (by kernel_rfl) (fun K hK => ?_)
   go_simp
   refine hK _ _ (.inr hTT3) ?_
   clear hK K
   try simp only [LS, Act.put]
   refine wpR_done (by kernel_rfl) ?_ _
   clear hTT hTT3 qM qY
   gi_wp2
   go_ret
   exact .inr ⟨rfl, (hh1.trans hh3).slim (fun _ h => h.1), _, _, hJ3⟩
  
 | succ r ih =>
  intro pre v done O n W hk hpb hal hbs hJd hSI hown hvO
  obtain ⟨vA, vc, rfl⟩ := own_slice hown
  have hOO := hSI.1
  have hb0 : ((pre.length : Int) == (many : Int)) = false := by rw [beq_eq_false_iff_ne]; omega
  obtain ⟨k, hk'⟩ : ∃ k, k = pre.length := ⟨_, rfl⟩
  rw [← hk'] at hb0 hown hvO ⊢
  rw [← hk'] at hk
  have hk5 : k ≤ 5 := by omega
  have HPB := Lib.hid hpb; have HAL := Lib.hid hal; clear hpb hal
  have HK := Lib.hid hk'; have HKM := Lib.hid hk; have HVO := Lib.hid hvO
  have qM := fun i => hSI.2.1.cell i
  have qL := fun i => hSI.2.2.1.cell i
  have hlM := hSI.2.1.lt
  have hlL := hSI.2.2.1.lt
  have hlr : ∀ g, (Value.slice vA k vc).ownBlock = some g → base ≤ g := fun g hg => (hown.lt g hg).1
  have HLR := Lib.hid hlr
  clear hk hk' hvO hlr
  have hTS : ∀ w', Blk w' bS 202 #[.func (.func 183) #[] #[.pointer (some ⟨bM, 0, none⟩), .pointer (some ⟨bY, 0, none⟩), .pointer (some ⟨bL, 0, none⟩), .pointer (some ⟨bS, 0, none⟩)]] → w'.cell? ⟨bS, 0, none⟩ = some (.func (.func 183) #[] #[.pointer (some ⟨bM, 0, none⟩), .pointer (some ⟨bY, 0, none⟩), .pointer (some ⟨bL, 0, none⟩), .pointer (some ⟨bS, 0, none⟩)]) := fun w' h => by have := h.cell 0; simpa using this
  obtain ⟨Z, hZd⟩ : ∃ Z : Nat → Prop, Z = fun j => (O j ∧ some j ≠ (Value.slice vA k vc).ownBlock) ∧ j < W.heap.size := ⟨_, rfl⟩
  have hZ : Z bM ∧ Z bY ∧ Z bL ∧ Z bS := by
   rw [hZd]
   have a := hSI.2.1.lt; have b := hSI.2.2.1.lt; have c := hSI.2.2.2.1.lt; have d := hSI.2.2.2.2.lt
   exact ⟨⟨⟨hOO.1, fun e => by have := HLR.out _ e.symm; omega⟩, a⟩, ⟨⟨hOO.2.1, fun e => by have := HLR.out _ e.symm; omega⟩, c⟩, ⟨⟨hOO.2.2.1, fun e => by have := HLR.out _ e.symm; omega⟩, b⟩, ⟨⟨hOO.2.2.2, fun e => by have := HLR.out _ e.symm; omega⟩, d⟩⟩
  have hZr : ∀ g, (Value.slice vA k vc).ownBlock = some g → ¬ Z g := fun g hg hz => by rw [hZd] at hz; exact hz.1.2 hg.symm
  have hZl : ∀ j, Z j → j < W.heap.size := fun j hz => by rw [hZd] at hz; exact hz.2
  have hZo : ∀ j, Z j → O j := fun j hz => by rw [hZd] at hz; exact hz.1.1
  have hZb : ∀ j, O j → some j ≠ (Value.slice vA k vc).ownBlock → j < W.heap.size → Z j := fun j h1 h2 h3 => by rw [hZd]; exact ⟨⟨h1, h2⟩, h3⟩
  clear hZd
  have HZB := Lib.hid hZb; have HZr := Lib.hid hZr; have HZl := Lib.hid hZl; have HZo := Lib.hid hZo; have HJ := Lib.hid hJ; have HIH := Lib.hid ih; have HHY := Lib.hid hY; have HTS := Lib.hid hTS
  clear hZb hZr hZl hZo hJ ih hY hTS
  refine callsIn_of_wp Tryz.func183 rfl trivial ?_ rfl
  simp only [Tryz.ntmps183, List.size_toArray, List.length_cons, List.length_nil, Nat.reduceAdd, Nat.reduceSub, Array.replicate_succ, Array.replicate_zero, List.push_toArray, List.append_toArray, List.nil_append, List.cons_append]
  gi_wp2
  gi_loopg [17] lim (fun g i wr => ∃ (q : Nat) (O' : Nat → Prop) (done' : List LV), g = lim - q ∧ q ≤ lim ∧ i = .int .i64 q ∧ done'.map Prod.fst = done.map Prod.fst ++ upTo lim r pre q ∧ J done' O' wr ∧ (∀ j, O j → O' j) ∧ Held Z W wr ∧ wr.ownsRow base 3 1 (.slice vA k vc) k (intsV pre) ∧ SrI l bM bY bL bS many lim O' wr ∧ W.heap.size ≤ wr.heap.size)
  case atStart => exact ⟨0, O, done, rfl, Nat.zero_le _, rfl, by simp [upTo], hJd, fun _ h => h, Held.refl _ _, hown, hSI, Nat.le_refl _⟩
  case round =>
   clear hSI hown hJd qM qL hlM hlL hOO
   obtain ⟨q, O', done', hg, hq, rfl, hd, hJd, hO', hHZ, hown, hsr, hszr⟩ := hrel
   have HG := Lib.hid hg; have HD := Lib.hid hd; have HR := Lib.hid hHZ
   clear hg hd hHZ
   have qM := fun i => hsr.2.1.cell i
   have qL := fun i => hsr.2.2.1.cell i
   have hlL := hsr.2.2.1.lt
   have HO' := Lib.hid hO'; clear hO'
   by_cases hlt : q < lim
   ·have hlti : (q : Int) < lim := by omega
    gi_wp2
    have hTS := HTS.out; have hJ := HJ.out; have ih := HIH.out; have hZr := HZr.out; have hZl := HZl.out; have hO' := HO'.out
    have hZO : ∀ j, Z j → O' j := fun j hj => hO' j (HZo.out j hj)
    clear qM qL
    rename World => WR
    refine wpIn_region_R (fun w' => Blk w' bS 202 #[.func (.func 183) #[] #[.pointer (some ⟨bM, 0, none⟩), .pointer (some ⟨bY, 0, none⟩), .pointer (some ⟨bL, 0, none⟩), .pointer (some ⟨bS, 0, none⟩)]]) 7 (by kernel_rfl) ?_
    replace hsr : SrI l bM bY bL bS many lim O' WR.drew := hsr; have hownD : WR.drew.ownsRow base 3 1 (.slice vA k vc) k (intsV pre) := hown; have hJD := hJ _ _ O' _ _ hJd (Off.drew O' WR) (fun k h => .inl h); have hheldD := Held.drew Z WR; have HSD : Hid (WR.drew.heap.size = WR.heap.size) := Lib.hid rfl
    generalize WR.drew = WD at *
    have hTT : Blk WD bS 202 #[.func (.func 183) #[] #[.pointer (some ⟨bM, 0, none⟩), .pointer (some ⟨bY, 0, none⟩), .pointer (some ⟨bL, 0, none⟩), .pointer (some ⟨bS, 0, none⟩)]] := hsr.2.2.2.2
    refine wpR_take (i := 0) (v := ?vy2_0) wideF (by kernel_rfl) rfl (by kernel_rfl) (by kernel_rfl) (by kernel_rfl) rfl (fun _ _ _ h => h) (Or.inl ⟨by rfl, ?hyy2_0⟩) hTT ?resty2_0
    case hyy2_0 => intro wq hSw; have hq := hTS wq hSw; go_simp <;> with_reducible rfl
    simp only [LS, Act.put]
    refine wpR_take (i := 1) (v := ?vy2_1) wideF (by kernel_rfl) rfl (by kernel_rfl) (by kernel_rfl) (by kernel_rfl) rfl (fun _ _ _ h => h) (Or.inl ⟨by rfl, ?hyy2_1⟩) hTT ?resty2_1
    case hyy2_1 => intro wq hSw; have hq := hTS wq hSw; go_simp <;> with_reducible rfl
    simp only [LS, Act.put]
    refine wpR_take (i := 2) (v := ?vy2_2) wideF (by kernel_rfl) rfl (by kernel_rfl) (by kernel_rfl) (by kernel_rfl) rfl (fun _ _ _ h => h) (Or.inl ⟨by rfl, ?hyy2_2⟩) hTT ?resty2_2
    case hyy2_2 => intro wq hSw; have hq := hTS wq hSw; go_simp <;> with_reducible rfl
    simp only [LS, Act.put]
    refine wpR_one (i := 3) wideF rfl (by kernel_rfl) (fun K hK => ?_)
    go_simp
    have hsr1 := hsr.held (Held.alloc Z WD (.cells #[.int .i64 (q : Int)] 3)) hZ (fun _ h => h)
    have hown1 := hownD.alloc (.cells #[.int .i64 (q : Int)] 3)
    have hoff1 : Off O' WD (WD.alloc (.cells #[.int .i64 (q : Int)] 3)) := Off.alloc _ _ _
    have hbs1 : base ≤ (WD.alloc (.cells #[.int .i64 (q : Int)] 3)).heap.size := by rw [World.size_alloc]; have := HSD.out; omega
    replace hTT := hsr1.2.2.2.2
    refine hK _ _ (.inr hTT) ?_
    clear hK K
    try simp only [LS, Act.put]
    refine wpR_one (i := 4) wideF rfl (by kernel_rfl) (fun K hK => ?_)
    rw [if_pos (by rfl)]
    refine wpIn_append_keep wideF _ _ 25 rfl _ base 3 i3 (.int .i64 0) 8 Tryz.underlying25 hi hz0 hz1' hz2' rfl (.slice vA k vc) k (intsV pre) rfl hown1 ⟨WD.heap.size, 0, none⟩ 1 (.int .i64 (q : Int)) rfl (cell_one_new _ _ _) (by simp [Value.oneCell']) (by unfold maxLen; omega) (by omega) hbs1 (fun v2 w2 hown2 hold2 hgrow hob => ?_)
    obtain ⟨a2, c2, rfl⟩ := own_slice hown2
    have hsz2 : w2.heap.size ≥ WD.heap.size + 1 := by have := hgrow.size; rw [World.size_alloc] at this; exact this
    have hoff2 : Off O' WD w2 := hoff1.trans (Off.of_grown hgrow (fun g hg => hO' _ (HVO.out g hg)))
    have hh2 : Held Z (WD.alloc (.cells #[.int .i64 (q : Int)] 3)) w2 := Held.of_grown hgrow (fun g hg hz => hZr g hg hz)
    have hsr2 := hsr1.held hh2 hZ (O' := fun j => O' j ∨ some j = (Value.slice a2 (k + 1) c2).ownBlock) (fun _ h => .inl h)
    have hJ2 := hJ _ _ (fun j => O' j ∨ some j = (Value.slice a2 (k + 1) c2).ownBlock) _ _ hJD hoff2 (by
      rintro j (h | h)
      · exact .inl h
      · rcases hob with h1 | h1
        · exact .inl (hO' _ (HVO.out j (by rw [← h1, h])))
        · rw [h1] at h
          injection h with h
          have h9 := (hown2.lt j (by rw [h1, h])).2
          rw [World.size_alloc] at h
          exact .inr ⟨by omega, h9⟩)
    replace hTT := hsr2.2.2.2.2
    have hl1 : (pre ++ [(q : Int)]).length = k + 1 := by rw [List.length_append, ← HK.out]; rfl
    have hi1 : intsV (pre ++ [(q : Int)]) = intsV pre ++ [.int .i64 (q : Int)] := by simp [intsV]
    have ihq := ih (pre ++ [(q : Int)]) (.slice a2 (k + 1) c2) done' (fun j => O' j ∨ some j = (Value.slice a2 (k + 1) c2).ownBlock) (n - 1) w2 (by rw [hl1]; have := HKM.out; omega) (fun y hy => by rcases List.mem_append.1 hy with h | h; exact HPB.out y h; rw [List.mem_singleton.1 h]; omega) (by rw [HD.out, List.append_assoc, ← upTo_succ]; exact ((List.prefix_append_right_inj _).2 (upTo_pre lim r pre (show q + 1 ≤ lim by omega))).trans HAL.out) (by have := HSD.out; omega) hJ2 hsr2 (by rw [hl1, hi1]; exact hown2) (fun g hg => .inr hg.symm)
    rw [hl1, hi1] at ihq
    clear hl1 hi1
    refine hK _ _ (.inr hTT) ?_
    clear hK K
    try simp only [LS, Act.put]
    refine wpR_one (i := 5) wideF rfl (by kernel_rfl) (fun K hK => ?_)
    go_simp
    refine ⟨trivial, fun h => (by cases h), ihq.mono ?_⟩
    clear ihq ih
    rintro e W3 (⟨rfl, O3, done3, hd3, hJ3, hO3, hh3, hown3⟩ | ⟨rfl, hh3, O3, done3, hJ3⟩)
    ·have hK2 : Held Z WR W3 := ((hheldD.trans (Held.alloc Z WD (.cells #[.int .i64 (q : Int)] 3))).trans hh2).trans (hh3.slim (fun j hj => ⟨.inl (hZO j hj), fun e => by
       rcases hob with h1 | h1
       · exact hZr j (by rw [← h1, e]) hj
       · rw [h1] at e
         injection e with e
         rw [World.size_alloc] at e
         have := hZl j hj
         have := HSD.out
         omega⟩))
     have hown4 : W3.ownsRow base 3 1 (.slice vA k vc) k (intsV pre) := by
      rcases hob with h1 | h1
      ·exact own_back hold2 hown2 h1 hown3
      ·refine ownsRow_at hold2 (fun g hg => hh3.block g (hold2.lt g hg).2 ⟨.inl (hO' _ (HVO.out g hg)), fun e => ?_⟩)
       rw [h1] at e
       injection e with e
       have h9 := (hown1.lt g hg).2
       rw [World.size_alloc] at e h9
       omega
     have hsr3 := hsr2.held (Held.slim (O' := Z) hh3 (fun j hj => ⟨.inl (hZO j hj), fun e => by
       rcases hob with h1 | h1
       · exact hZr j (by rw [← h1, e]) hj
       · rw [h1] at e
         injection e with e
         rw [World.size_alloc] at e
         have := hZl j hj
         have := HSD.out
         omega⟩)) hZ hO3
     have hTT3 := hsr3.2.2.2.2
     refine hK _ _ (.inr hTT3) ?_
     clear hK K
     try simp only [LS, Act.put]
     refine wpR_one (i := 6) wideF rfl (by kernel_rfl) (fun K hK => ?_)
     go_simp
     refine hK _ _ (.inr hTT3) ?_
     clear hK K
     try simp only [LS, Act.put]
     refine wpR_done (by kernel_rfl) ?_ _
     clear hTT hTT3
     gi_wp2
     gi_roundg (lim - (q + 1))
     case measure => rw [HG.out]; omega
     case rel => exact ⟨q + 1, O3, done3, rfl, by omega, by go_num, by rw [hd3, HD.out, List.append_assoc, upTo_succ], hJ3, fun j hj => hO3 j (.inl (hO' j hj)), HR.out.trans hK2, hown4, hsr3, by have := hK2.size; omega⟩
    ·have hK2 : Held Z WR W3 := ((hheldD.trans (Held.alloc Z WD (.cells #[.int .i64 (q : Int)] 3))).trans hh2).trans (hh3.slim (fun j hj => ⟨.inl (hZO j hj), fun e => by
       rcases hob with h1 | h1
       · exact hZr j (by rw [← h1, e]) hj
       · rw [h1] at e
         injection e with e
         rw [World.size_alloc] at e
         have := hZl j hj
         have := HSD.out
         omega⟩))
     have hsr3 := hsr2.held (Held.slim (O' := Z) hh3 (fun j hj => ⟨.inl (hZO j hj), fun e => by
       rcases hob with h1 | h1
       · exact hZr j (by rw [← h1, e]) hj
       · rw [h1] at e
         injection e with e
         rw [World.size_alloc] at e
         have := hZl j hj
         have := HSD.out
         omega⟩)) hZ (fun _ h => h)
     have hTT3 := hsr3.2.2.2.2
     refine hK _ _ (.inr hTT3) ?_
     clear hK K
     try simp only [LS, Act.put]
     refine wpR_one (i := 6) wideF rfl (by kernel_rfl) (fun K hK => ?_)
     go_simp
     refine hK _ _ (.inr hTT3) ?_
     clear hK K
     try simp only [LS, Act.put]
     refine wpR_done (by kernel_rfl) ?_ _
     clear hTT hTT3
     gi_wp2
     go_ret
     exact .inr ⟨rfl, ⟨(HR.out.trans hK2).size, fun j hj hn => (HR.out.trans hK2).block j hj (HZB.out j hn.1 hn.2 hj)⟩, O3, done3, hJ3⟩
    
   ·obtain rfl : q = lim := by omega
    have hge : ¬ (q : Int) < q := by omega
    gi_wp2
    go_ret
    exact .inl ⟨rfl, O', done', by rw [HD.out]; rfl, hJd, HO'.out, ⟨HR.out.size, fun j hj hn => HR.out.block j hj (HZB.out j hn.1 hn.2 hj)⟩, hown⟩
end
section
open Go.RowKit Go.Lib Go.Shelf
attribute [local go_sem] Oper.semAt_some
def GoodL (many lim : Nat) (x : LV) (m : Nat) (W : World) : Prop := W.ownsRow m 3 1 x.2 many (intsV x.1) ∧ ∀ y ∈ x.1, 0 ≤ y ∧ y < (lim : Int)
theorem lists_seq (many lim bM bL n : Nat) (hmany : many ≤ 5) (hlim : lim ≤ 6) (w : World) (hM : Blk w bM 3 #[.int .i64 (many : Int)]) (hL : Blk w bL 3 #[.int .i64 (lim : Int)]) :
  SeqO Fence.wide n Tryz.prog 182 #[.pointer (some ⟨bM, 0, none⟩), .pointer (some ⟨bL, 0, none⟩)] (fun x : LV => #[x.2]) (GoodL many lim) (fun ys => ys.map Prod.fst <+: allLs many lim) (fun ys => ys.map Prod.fst = allLs many lim) (fun k => k = bM ∨ k = bL) w := by
 intro l J Jx W hW hJ _ hY h0
 replace hM := hM.below hW hM.lt
 replace hL := hL.below hW hL.lt
 have hmf : ∀ (fn : Fn) (first cap : Array Value) (w : World), (Instr.makeFunc fn first cap).run Tryz.prog w = .ok (.func fn first cap) w := fun _ _ _ _ => rfl
 refine callsIn_of_wp Tryz.func182 rfl trivial ?_ rfl
 simp only [Tryz.ntmps182, List.size_toArray, List.length_cons, List.length_nil, Nat.reduceAdd, Nat.reduceSub, Array.replicate_succ, Array.replicate_zero, List.push_toArray, List.append_toArray, List.nil_append, List.cons_append]
 gi_wp2
 have hM2 := (hM.alloc (.cells #[.func (.yield l) #[] #[]] 202)).alloc (.cells #[.func (.func 183) #[] #[.pointer (some ⟨bM, 0, none⟩), .pointer (some ⟨W.heap.size, 0, none⟩), .pointer (some ⟨bL, 0, none⟩), .pointer (some ⟨W.heap.size + 1, 0, none⟩)]] 202)
 have hL2 := (hL.alloc (.cells #[.func (.yield l) #[] #[]] 202)).alloc (.cells #[.func (.func 183) #[] #[.pointer (some ⟨bM, 0, none⟩), .pointer (some ⟨W.heap.size, 0, none⟩), .pointer (some ⟨bL, 0, none⟩), .pointer (some ⟨W.heap.size + 1, 0, none⟩)]] 202)
 have hY2 := (Blk.new W 202 #[.func (.yield l) #[] #[]]).alloc (.cells #[.func (.func 183) #[] #[.pointer (some ⟨bM, 0, none⟩), .pointer (some ⟨W.heap.size, 0, none⟩), .pointer (some ⟨bL, 0, none⟩), .pointer (some ⟨W.heap.size + 1, 0, none⟩)]] 202)
 have hS2 := blk2_1 W (.cells #[.func (.yield l) #[] #[]] 202) 202 #[.func (.func 183) #[] #[.pointer (some ⟨bM, 0, none⟩), .pointer (some ⟨W.heap.size, 0, none⟩), .pointer (some ⟨bL, 0, none⟩), .pointer (some ⟨W.heap.size + 1, 0, none⟩)]]
 have hoff : Off (fun k => k = bM ∨ k = bL) W ((W.alloc (.cells #[.func (.yield l) #[] #[]] 202)).alloc (.cells #[.func (.func 183) #[] #[.pointer (some ⟨bM, 0, none⟩), .pointer (some ⟨W.heap.size, 0, none⟩), .pointer (some ⟨bL, 0, none⟩), .pointer (some ⟨W.heap.size + 1, 0, none⟩)]] 202)) := (Off.alloc _ _ _).trans (Off.alloc _ _ _)
 have hl1 := hM.lt
 have hl2 := hL.lt
 have hsz : ((W.alloc (.cells #[.func (.yield l) #[] #[]] 202)).alloc (.cells #[.func (.func 183) #[] #[.pointer (some ⟨bM, 0, none⟩), .pointer (some ⟨W.heap.size, 0, none⟩), .pointer (some ⟨bL, 0, none⟩), .pointer (some ⟨W.heap.size + 1, 0, none⟩)]] 202)).heap.size = W.heap.size + 1 + 1 := by simp only [World.size_alloc]
 generalize ((W.alloc (.cells #[.func (.yield l) #[] #[]] 202)).alloc (.cells #[.func (.func 183) #[] #[.pointer (some ⟨bM, 0, none⟩), .pointer (some ⟨W.heap.size, 0, none⟩), .pointer (some ⟨bL, 0, none⟩), .pointer (some ⟨W.heap.size + 1, 0, none⟩)]] 202)) = W2 at *
 have hJ2 := hJ _ _ (fun k => k = bM ∨ k = bL ∨ k = W.heap.size ∨ k = W.heap.size + 1) _ _ h0 hoff (by rintro k (h | h | h | h) <;> omega)
 have hs := search_in l bM W.heap.size bL (W.heap.size + 1) (W.heap.size + 1 + 1) many lim hmany hlim (by omega) J Jx (allLs many lim) hJ (fun pre x O W0 W1 h1 h2 h3 h4 h5 => hY pre x O W0 W1 h1 h2 ⟨h3, h4⟩ h5 |> fun ⟨fn, tmps, assign, body, hy, hR⟩ => ⟨fn, tmps, assign, body, hy, RoundIn.wide hR⟩) many [] (.slice none 0 0) [] _ (n - 1) W2 (by simp) (fun y h => by cases h) (by simp [allLs]) (by omega) hJ2 ⟨⟨.inl rfl, .inr (.inr (.inl rfl)), .inr (.inl rfl), .inr (.inr (.inr rfl))⟩, hM2, hL2, hY2, hS2⟩ (World.ownsRow_nil _ _ _ _) (fun g h => by cases h)
 refine ⟨trivial, fun h => (by cases h), hs.mono ?_⟩
 rintro e W3 (⟨rfl, O', done', hd, hJ3, _⟩ | ⟨rfl, _, O', done', hJ3⟩)
 ·gi_wp2
  go_end0
  exact ⟨⟨_, rfl⟩, .inl ⟨done', O', by simpa [allLs] using hd, hJ3⟩⟩
 ·gi_wp2
  go_end0
  exact ⟨⟨_, rfl⟩, .inr ⟨done', O', hJ3⟩⟩
end
section
open Go.RowKit Go.Lib Go.Shelf
attribute [local go_sem] Oper.semAt_some
theorem RoundIn.inRound {F : Fence} {m : Nat} {P : Program} {l : Nat} (l' : Nat) {f : FuncId} {tmps : Array Value} {assign body : Code} {w : World} {R : Ending → World → Prop}
  (h : RoundIn F m P l f tmps assign body w R) : RoundIn (F.inRound l') m P l f tmps assign body w R := h
def mkD (D : Nat) : Deferred := { target := .collected D, args := #[] }
theorem leaves_marks {F : Fence} {n : Nat} {P : Program} {fn : Func} {tmps : Array Value} {R : Ending → World → Prop} : ∀ (Dl : List Nat) (w : World), Dl.Nodup → (∀ D ∈ Dl, w.heap[D]? = some (.deferred (some []))) →
  (∀ w', Off (fun k => k ∈ Dl) w w' → LeavesIn F n P fn tmps R [] .returning w') → LeavesInM F n P fn tmps R (Dl.map mkD) .returning w
 | [], w, _, _, h => h w (Off.refl _ _)
 | D :: Dl, w, hn, hd, h => by
  refine ⟨by simp, .inl ⟨D, _, rfl, run_takeDeferred (hd D (List.mem_cons_self ..)), ?_⟩⟩
  refine leaves_marks Dl _ (List.nodup_cons.1 hn).2 (fun E hE => (World.putObj_heap_other (fun e => (List.nodup_cons.1 hn).1 (by rw [← e]; exact hE))).trans (hd E (List.mem_cons_of_mem _ hE))) (fun w' hw' => h w' ?_)
  exact (Off.putObj (List.mem_cons_self ..) _).trans (hw'.wide (fun k hk => List.mem_cons_of_mem _ hk))
def LnS (l bW bY words : Nat) (Dl : List Nat) (Oo : Nat → Prop) (W : World) : Prop :=
 Oo bW ∧ Oo bY ∧ Blk W bW 3 #[.int .i64 (words : Int)] ∧ Blk W bY 198 #[.func (.yield l) #[] #[]] ∧ ∀ D ∈ Dl, Oo D ∧ W.heap[D]? = some (.deferred (some []))
theorem LnS.held {l bW bY words : Nat} {Dl : List Nat} {Oo : Nat → Prop} {A B : World} (h : LnS l bW bY words Dl Oo A) (hh : Held Oo A B) : LnS l bW bY words Dl Oo B :=
 ⟨h.1, h.2.1, hh.blk h.2.2.1 h.1, hh.blk h.2.2.2.1 h.2.1, fun D hD => ⟨(h.2.2.2.2 D hD).1, (hh.block D (Array.getElem?_eq_some_iff.1 (h.2.2.2.2 D hD).2).1 (h.2.2.2.2 D hD).1).trans (h.2.2.2.2 D hD).2⟩⟩
theorem LnS.off {l bW bY words S : Nat} {Dl : List Nat} {O Oo : Nat → Prop} {A B : World} (h : LnS l bW bY words Dl Oo A) (hh : Off O A B) (hO : ∀ k, O k → S ≤ k) (hOo : ∀ k, Oo k → k < S) : LnS l bW bY words Dl Oo B :=
 h.held ⟨hh.size, fun k hk ho => hh.block k hk (fun hk' => by have := hO k hk'; have := hOo k ho; omega)⟩
def uptoL (words q : Nat) : List ByteArray := (List.range q).flatMap fun k => (allLs k words).map lbS
theorem uptoL_pre (words : Nat) {q m : Nat} (h : q ≤ m) : uptoL words q <+: uptoL words m := by
 obtain ⟨d, rfl⟩ := Nat.exists_eq_add_of_le h
 unfold uptoL
 rw [List.range_add, List.flatMap_append]
 exact List.prefix_append _ _
theorem uptoL_succ (words q : Nat) : uptoL words (q + 1) = uptoL words q ++ (allLs q words).map lbS := by unfold uptoL; rw [List.range_succ, List.flatMap_append]; simp
theorem lines_seq (words bW n : Nat) (hw3 : words ≤ 3) (w : World) (hW0 : Blk w bW 3 #[.int .i64 (words : Int)]) :
  SeqO Fence.wide n Tryz.prog 175 #[.pointer (some ⟨bW, 0, none⟩)] (fun s : ByteArray => #[.string s]) (fun _ _ _ => True) (fun ys => ys <+: allLn words) (fun ys => ys = allLn words) (fun k => k = bW) w := by
 intro l J Jx W hW hJ hJx hY h0
 replace hW0 := hW0.below hW hW0.lt
 refine callsIn_wide.2 ((callsIn_wide (n := 9)).1 ?_)
 refine callsIn_of_wp_marks Tryz.func175 rfl trivial ?_ rfl
 simp only [Tryz.ntmps175, List.size_toArray, List.length_cons, List.length_nil, Nat.reduceAdd, Nat.reduceSub, Array.replicate_succ, Array.replicate_zero, List.push_toArray, List.append_toArray, List.nil_append, List.cons_append]
 gi_wp2
 have hlW := hW0.lt
 have hYb := Blk.new W 198 #[.func (.yield l) #[] #[]]
 obtain ⟨bY, hbY⟩ : ∃ bY, bY = W.heap.size := ⟨_, rfl⟩
 have hW1 := hW0.alloc (.cells #[.func (.yield l) #[] #[]] 198)
 have hJ1 := hJ _ _ (fun k => k = bW ∨ k = bY) _ _ h0 (Off.alloc _ W (.cells #[.func (.yield l) #[] #[]] 198)) (by rw [World.size_alloc]; rintro k (h | h) <;> omega)
 have hsz : (W.alloc (.cells #[.func (.yield l) #[] #[]] 198)).heap.size = bY + 1 := by rw [World.size_alloc, hbY]
 rw [← hbY] at hYb hlW ⊢
 generalize W.alloc (.cells #[.func (.yield l) #[] #[]] 198) = W1 at *
 have HBY := Lib.hid hbY; clear hbY
 refine wpIn_loop_ghost_k (fun g a wr => ∃ (q : Nat) (Dl : List Nat) (Oo : Nat → Prop) (u3 u6 u7 u8 u9 u10 u17 : Value), g = 5 - q ∧ q ≤ 5 ∧ J (uptoL words q) Oo wr ∧ LnS l bW bY words Dl Oo wr ∧ Dl.Nodup ∧ (∀ k, Oo k → k < wr.heap.size) ∧ bY < wr.heap.size ∧
   a = { tmps := #[.func (.yield l) #[] #[], .pointer (some ⟨bW, 0, none⟩), .pointer (some ⟨bY, 0, none⟩), u3, undef, .int .i64 (q : Int), u6, u7, u8, u9, u10, undef, undef, undef, undef, undef, undef, u17], defers := Dl.map mkD }) 5 ?start ?round
 case start =>
  exact ⟨0, [], _, undef, undef, undef, undef, undef, undef, undef, rfl, Nat.zero_le _, hJ1, ⟨.inl rfl, .inr rfl, hW1, hYb, fun D h => by cases h⟩, List.nodup_nil, by rintro k (h | h) <;> omega, by omega, rfl⟩
 case round =>
  clear hJ1 hW1 hYb h0 hW0 hsz
  rintro g a wr ⟨q, Dl, Oo, u3, u6, u7, u8, u9, u10, u17, hg, hq, hJq, hSt, hnd, hOo, hbl, rfl⟩ Jr Kr hJr hKr
  have HG := Lib.hid hg; clear hg
  obtain ⟨hOW, hOY, hWb, hYb, hDl⟩ := hSt
  have qW := fun i => hWb.cell i
  have hlWb := hWb.lt
  by_cases hlt : q < 5
  ·have hlti : (q : Int) < 5 := by omega
   have HDL := Lib.hid hDl; have HOO := Lib.hid hOo; have HND := Lib.hid hnd
   clear hDl hOo hnd
   gi_wp2_with (refine ⟨trivial, (callsIn_wide.2 (lists_any (q : Int) (words : Int) wr)).mono ?_⟩; rintro e w' ⟨rfl, rfl⟩)
   have hM2 := (Blk.new wr 3 #[.int .i64 (q : Int)]).alloc (.cells #[.int .i64 (words : Int)] 3)
   have hL2 := blk2_1 wr (.cells #[.int .i64 (q : Int)] 3) 3 #[.int .i64 (words : Int)]
   have hoff2 : Off Oo wr ((wr.alloc (.cells #[.int .i64 (q : Int)] 3)).alloc (.cells #[.int .i64 (words : Int)] 3)) := (Off.alloc _ _ _).trans (Off.alloc _ _ _)
   have hheld2 : Held Oo wr ((wr.alloc (.cells #[.int .i64 (q : Int)] 3)).alloc (.cells #[.int .i64 (words : Int)] 3)) := (Held.alloc _ _ _).trans (Held.alloc _ _ _)
   have hsz2 : ((wr.alloc (.cells #[.int .i64 (q : Int)] 3)).alloc (.cells #[.int .i64 (words : Int)] 3)).heap.size = wr.heap.size + 1 + 1 := by simp only [World.size_alloc]
   have hSt2 : LnS l bW bY words Dl Oo _ := LnS.held ⟨hOW, hOY, hWb, hYb, HDL.out⟩ hheld2
   generalize ((wr.alloc (.cells #[.int .i64 (q : Int)] 3)).alloc (.cells #[.int .i64 (words : Int)] 3)) = w2 at *
   clear qW hlWb hWb hYb
   obtain ⟨done, hdone⟩ : ∃ done, done = uptoL words q := ⟨_, rfl⟩
   rw [← hdone] at hJq
   have HDONE := Lib.hid hdone; have HSZ2 := Lib.hid hsz2; clear hdone hsz2
   refine wpIn_rangeO (F := Fence.wide) (n := 9) (w0 := w2) (Pre := fun ys => ys.map Prod.fst <+: allLs q words) (S := fun ys => ys.map Prod.fst = allLs q words) (O0 := fun k => k = wr.heap.size ∨ k = wr.heap.size + 1) (Good := GoodL q words) (encs := fun x : LV => #[x.2]) rfl (by omega) (gf := 182) (lb := #[.pointer (some ⟨wr.heap.size, 0, none⟩), .pointer (some ⟨wr.heap.size + 1, 0, none⟩)]) rfl trivial (enters_of Tryz.func182 (by kernel_rfl) rfl)
    (fun k h => by have := HSZ2.out; omega) (lists_seq q words wr.heap.size (wr.heap.size + 1) _ (by omega) (by omega) w2 hM2 hL2) (Below.refl _ _) (fun _ => rfl)
    (fun (pre : List LV) O W => J (done ++ pre.map (fun z => lbS z.1)) (fun k => O k ∨ Oo k) W ∧ LnS l bW bY words Dl Oo W ∧ (∀ k, O k → wr.heap.size ≤ k) ∧ (∀ k, O k → k < W.heap.size) ∧ w2.heap.size ≤ W.heap.size)
    (fun c (pre : List LV) O W => c = .ret ∧ (∃ s, Jx s (fun k => O k ∨ Oo k) W) ∧ LnS l bW bY words Dl Oo W ∧ (∀ k, O k → wr.heap.size ≤ k) ∧ w2.heap.size ≤ W.heap.size)
    ?hI ?hIx ?h0 ?hround ?hdone ?hstop
   case hI =>
    rintro s O O' A B ⟨h1, h2, h3, h4, h5⟩ ho hO'
    refine ⟨hJ _ _ _ _ _ h1 (ho.wide (fun _ h => .inl h)) ?_, h2.off ho h3 HOO.out, ?_, ?_, Nat.le_trans h5 ho.size⟩
    ·rintro k (h | h)
     ·exact (hO' k h).imp .inl id
     ·exact .inl (.inr h)
    ·intro k h; rcases hO' k h with h | h
     ·exact h3 k h
     ·have := HSZ2.out; omega
    ·intro k h; rcases hO' k h with h | h
     ·have := h4 k h; have := ho.size; omega
     ·exact h.2
   case hIx =>
    rintro c s O O' A B ⟨rfl, ⟨s', h1⟩, h2, h3, h5⟩ ho hO'
    refine ⟨rfl, ⟨s', hJx _ _ _ _ _ h1 (ho.wide (fun _ h => .inl h)) ?_⟩, h2.off ho h3 HOO.out, ?_, Nat.le_trans h5 ho.size⟩
    ·rintro k (h | h)
     ·exact (hO' k h).imp .inl id
     ·exact .inl (.inr h)
    ·intro k h; rcases hO' k h with h | h
     ·exact h3 k h
     ·have := HSZ2.out; omega
   case h0 =>
    intro W3 hb3 hs3
    refine ⟨?_, ?_, ?_, ?_, by omega⟩
    ·simp only [List.map_nil, List.append_nil]
     refine hJ _ _ _ _ _ hJq (hoff2.trans (Off.of_below hb3)) ?_
     rintro k (h | h)
     ·have := HSZ2.out; exact .inr (by omega)
     ·exact .inl h
    ·exact hSt2.held (Held.of_below hb3)
    ·intro k h; have := HSZ2.out; omega
    ·intro k h; have := HSZ2.out; omega
   case hround =>
    rintro l' pre x O W0 W1' K hOl ⟨h1, h2, h3, h4, h5⟩ ho hx hpr hK
    simp only [List.zip_toArray, List.zip_cons_cons, List.zip_nil_right, List.foldl_toArray', List.foldl_toArray, List.foldl_cons, List.foldl_nil, List.setIfInBounds_toArray, List.set_cons_succ, List.set_cons_zero, List.size_toArray, List.length_cons, List.length_nil]
    gi_wp2
    refine hK _ _ (Held.refl _ _) (fun W2 ho2 hsz2 => ?_)
    obtain ⟨xs, v⟩ := x
    obtain ⟨hx, hxb⟩ := hx
    dsimp only at hx hxb ⊢
    have hx2 := ho2.own hx (fun g hg hO => by have := h4 g hO; have := (hx.lt g hg).1; omega)
    obtain ⟨vA, vc, rfl⟩ := own_slice hx2
    have hJ2 : J (done ++ pre.map (fun z => lbS z.1)) (fun k => O k ∨ Oo k) W2 := hJ _ _ _ _ _ h1 ((ho.trans ho2).wide (fun _ h => .inl h)) (fun k h => .inl h)
    have hSt := h2.off (ho.trans ho2) h3 HOO.out
    have HXB : Hid (∀ x ∈ xs, 0 ≤ x ∧ x ≤ 255) := Lib.hid (fun x hx => by have := hxb x hx; omega)
    have HOl := Lib.hid h3; have HOs := Lib.hid (fun k (hk : O k) => Nat.lt_of_lt_of_le (h4 k hk) (ho.trans ho2).size); have HSz := Lib.hid (Nat.le_trans h5 (ho.trans ho2).size)
    have HPR : Hid (done ++ pre.map (fun z => lbS z.1) ++ [lbS xs] <+: allLn words) := Lib.hid (by
      obtain ⟨R, hR⟩ := hpr
      rw [HDONE.out, List.append_assoc]
      refine List.IsPrefix.trans ?_ (uptoL_pre words (show q + 1 ≤ 5 by omega))
      rw [uptoL_succ, ← hR]
      exact (List.prefix_append_right_inj _).2 ⟨R.map lbS, by simp⟩)
    clear hpr h1 h2 h3 h4 h5 hx hxb hsz2 ho ho2 hK
    have hYb := hSt.2.2.2.1
    have hT : ∀ w', Blk w' bY 198 #[.func (.yield l) #[] #[]] → w'.cell? ⟨bY, 0, none⟩ = some (.func (.yield l) #[] #[]) := fun w' h => by have := h.cell 0; simpa using this
    gi_wp2
    refine wpIn_region_R (fun w' => Blk w' bY 198 #[.func (.yield l) #[] #[]]) 5 (by kernel_rfl) ?_
    replace hYb := hYb.drew; have hrd : Rd W2.drew W2.drew.heap.size 1 vA q (intsV xs) := (Rd.of_own hx2).drew; have hJD := hJ _ _ _ _ _ hJ2 (Off.drew (fun k => O k ∨ Oo k) W2) (fun k h => .inl h); have hheldD := Held.drew (fun k => O k ∨ Oo k) W2
    generalize W2.drew = WD at *
    have hTT : Blk WD bY 198 #[.func (.yield l) #[] #[]] := hYb
    refine wpR_take (i := 0) (v := ?vy1_0) wideF (by kernel_rfl) rfl (by kernel_rfl) (by kernel_rfl) (by kernel_rfl) rfl (fun _ _ _ h => h) (Or.inl ⟨by rfl, ?hyy1_0⟩) hTT ?resty1_0
    case hyy1_0 => intro wq hSw; have hq := hT wq hSw; go_simp <;> with_reducible rfl
    simp only [LS, Act.put]
    refine wpR_take (i := 1) (v := ?vy1_1) wideF (by kernel_rfl) rfl (by kernel_rfl) (by kernel_rfl) (by kernel_rfl) rfl (fun _ _ _ h => h) (Or.inl ⟨by rfl, ?hyy1_1⟩) hTT ?resty1_1
    case hyy1_1 => intro wq hSw; have hq := hT wq hSw; go_simp <;> with_reducible rfl
    simp only [LS, Act.put]
    refine wpR_one (i := 2) wideF rfl (by kernel_rfl) (fun K hK => ?_)
    go_simp
    refine ⟨trivial, (CallsIn.inRound l' (callsIn_wide.2 (lineOf_any vA q vc xs WD (by omega) HXB.out hrd))).mono ?_⟩
    rintro e w1 ⟨rfl, hb⟩
    replace hTT := hTT.below hb hTT.lt
    have hh1 : Held (fun k => O k ∨ Oo k) W2 w1 := hheldD.trans (Held.of_below hb)
    obtain ⟨fn, tmps, assign, body, hy, hR⟩ := hY (done ++ pre.map (fun z => lbS z.1)) (lbS xs) (fun k => O k ∨ Oo k) WD w1 hJD (Off.of_below hb) trivial HPR.out
    refine hK _ _ (.inr hTT) ?_
    clear hK K
    try simp only [LS, Act.put]
    refine wpR_one (i := 3) wideF rfl (by kernel_rfl) (fun K hK => ?_)
    go_simp
    refine (RoundIn.inRound l' (RoundIn.wide hR)).mono ?_
    clear hR hy
    rintro e W3 (⟨rfl, hJ3, hh3⟩ | ⟨rfl, hJ3, hh3⟩)
    ·have hTT3 := hh3.blk hTT (.inr hSt.2.1)
     refine hK _ _ (.inr hTT3) ?_
     clear hK K
     try simp only [LS, Act.put]
     refine wpR_one (i := 4) wideF rfl (by kernel_rfl) (fun K hK => ?_)
     go_simp
     refine hK _ _ (.inr hTT3) ?_
     clear hK K
     try simp only [LS, Act.put]
     refine wpR_done (by kernel_rfl) ?_ _
     gi_wp2
     refine ⟨(hh1.trans hh3).slim (fun _ h => .inl h), by rw [List.map_append, ← List.append_assoc]; exact hJ3, hSt.held ((hh1.trans hh3).slim (fun _ h => .inr h)), HOl.out, fun k hk => Nat.lt_of_lt_of_le (HOs.out k hk) (hh1.trans hh3).size, Nat.le_trans HSz.out (hh1.trans hh3).size⟩
    ·have hTT3 := hh3.blk hTT (.inr hSt.2.1)
     refine hK _ _ (.inr hTT3) ?_
     clear hK K
     try simp only [LS, Act.put]
     refine wpR_one (i := 4) wideF rfl (by kernel_rfl) (fun K hK => ?_)
     go_simp
     refine hK _ _ (.inr hTT3) ?_
     clear hK K
     try simp only [LS, Act.put]
     refine wpR_done (by kernel_rfl) ?_ _
     gi_wp2
     refine ⟨(hh1.trans hh3).slim (fun _ h => .inl h), rfl, ⟨_, hJ3⟩, hSt.held ((hh1.trans hh3).slim (fun _ h => .inr h)), HOl.out, Nat.le_trans HSz.out (hh1.trans hh3).size⟩
    
   case hdone =>
    rintro D xs O W3 hD hOD hS ⟨h1, h2, h3, h4, h5⟩ hd
    gi_wp2
    refine Handed.intro (5 - (q + 1)) ?_ ?_
    ·rw [HG.out]; omega
    ·refine hJr _ _ _ ⟨q + 1, D :: Dl, fun k => O k ∨ Oo k, _, _, _, _, _, _, _, rfl, by omega, ?_, ⟨.inr h2.1, .inr h2.2.1, h2.2.2.1, h2.2.2.2.1, ?_⟩, ?_, ?_, by have := h2.2.2.2.1.lt; omega, rfl⟩
     ·rw [uptoL_succ, ← HDONE.out, ← hS, List.map_map]; exact h1
     ·intro E hE
      rcases List.mem_cons.1 hE with rfl | hE
      ·exact ⟨.inl hOD, hd⟩
      ·exact ⟨.inr (h2.2.2.2.2 E hE).1, (h2.2.2.2.2 E hE).2⟩
     ·refine List.nodup_cons.2 ⟨fun hm => ?_, HND.out⟩
      have := HOO.out D (HDL.out D hm).1; have := HSZ2.out; omega
     ·rintro k (h | h)
      ·exact h4 k h
      ·have := HOO.out k h; have := HSZ2.out; omega
   case hstop =>
    rintro D c pre O W3 hD hOD ⟨rfl, ⟨s, h1⟩, h2, h3, h5⟩ hd
    gi_wp2
    refine leaves_marks (D :: Dl) W3 (List.nodup_cons.2 ⟨fun hm => ?_, HND.out⟩) ?_ ?_
    ·have := HOO.out D (HDL.out D hm).1; have := HSZ2.out; omega
    ·intro E hE
     rcases List.mem_cons.1 hE with rfl | hE
     ·exact hd
     ·exact (h2.2.2.2.2 E hE).2
    ·intro w' hw'
     refine ⟨_, results_none rfl _ _ _, ⟨_, rfl⟩, .inr ⟨s, _, hJx _ _ _ _ _ h1 (hw'.wide ?_) (fun k h => .inl h)⟩⟩
     intro k hk
     rcases List.mem_cons.1 hk with rfl | hk
     ·exact .inl hOD
     ·exact .inr (h2.2.2.2.2 k hk).1
  ·obtain rfl : q = 5 := by omega
   gi_wp2
   refine leaves_marks Dl wr hnd (fun D hD => (hDl D hD).2) (fun w' hw' => ?_)
   refine ⟨_, results_none rfl _ _ _, ⟨_, rfl⟩, .inl ⟨_, Oo, rfl, hJ _ _ _ _ _ hJq (hw'.wide (fun k hk => (hDl k hk).1)) (fun k h => .inl h)⟩⟩
end
section
open Go.RowKit Go.Lib Go.Maps
section
variable {F : Fence} {fn : Nat} {P : Program}
theorem wpIn_append_any {o : Oper} {ac : Act} {K : Act → World → Prop} {Q : Exit → Act → World → Prop} (hF : ∀ f, F.fn f) (s xo : Operand) (t : TypeId)
  (ho : o.op = .call { callee := .builtin .append, args := #[s, xo], argTypes := #[t, t] })
  (w : World) (base : Nat) (e : TypeId) (i : TypeInfo) (z : Value) (size bytes : Nat) (ht : P.underlying t = some (.slice e)) (hi : P.info? e = some i) (hz : i.zero = some z)
  (hsize : i.size = size) (hby : i.bytes = bytes) (hzs : z.cells.size = size) (hsz : 0 < size)
  (v : Value) (n : Nat) (xs : List Value) (hs : ac.eval s = v) (hown : w.ownsRow base e size v n xs)
  (B : Nat) (A : Option Addr) (m c : Nat) (news : List Value) (hx : ac.eval xo = .slice A m c) (hr : Reads w B size A m news) (h1 : ∀ u ∈ news, u.oneCell' = true)
  (h63 : n + m ≤ maxLen) (hbytes : (n + m) * bytes ≤ 140737488355328) (hbase : base ≤ w.heap.size)
  (h : ∀ v' w', w'.ownsRow base e size v' (n + m) (xs ++ news) → w.grownBy w' v.ownBlock → (v'.ownBlock = v.ownBlock ∨ v'.ownBlock = some w.heap.size) → K (ac.put o.dst v') w') : o.wpIn F fn P ac w K Q := by
 obtain ⟨v', w', hrun, h2, h3, h4⟩ := run_append_any (P := P) w base t o.type e i z size bytes ht hi hz hsize hby hzs hsz v n xs hown B A m c news hr h1 h63 hbytes hbase
 refine ⟨fun f _ => hF f, ?_⟩
 rw [Oper.semAt_eq _ _ _ (by rw [ho]; intro c h; cases h)]
 unfold execOp
 simp only [ho, resolve, invoke, builtin, Sem.run_bind, Sem.run_pure, Result.andThen_ok, List.map_toArray, List.map_cons, List.map_nil, hs, hx, hrun]
 exact h v' w' h2 h3 h4
theorem wpListIn_append_any {ops : Array Oper} {rest : List Oper} {o : Oper} {ac : Act} {Q : Exit → Act → World → Prop} (hF : ∀ f, F.fn f) (hgd : o.guard = none) (s xo : Operand) (t : TypeId)
  (ho : o.op = .call { callee := .builtin .append, args := #[s, xo], argTypes := #[t, t] })
  (w : World) (base : Nat) (e : TypeId) (i : TypeInfo) (z : Value) (size bytes : Nat) (ht : P.underlying t = some (.slice e)) (hi : P.info? e = some i) (hz : i.zero = some z)
  (hsize : i.size = size) (hby : i.bytes = bytes) (hzs : z.cells.size = size) (hsz : 0 < size)
  (v : Value) (n : Nat) (xs : List Value) (hs : ac.eval s = v) (hown : w.ownsRow base e size v n xs)
  (B : Nat) (A : Option Addr) (m c : Nat) (news : List Value) (hx : ac.eval xo = .slice A m c) (hr : Reads w B size A m news) (h1 : ∀ u ∈ news, u.oneCell' = true)
  (h63 : n + m ≤ maxLen) (hbytes : (n + m) * bytes ≤ 140737488355328) (hbase : base ≤ w.heap.size)
  (h : ∀ v' w', w'.ownsRow base e size v' (n + m) (xs ++ news) → w.grownBy w' v.ownBlock → (v'.ownBlock = v.ownBlock ∨ v'.ownBlock = some w.heap.size) → wpListIn F fn P ops Q rest (ac.put o.dst v') w') : wpListIn F fn P ops Q (o :: rest) ac w :=
 wpListIn_plain hgd fun _ hK => wpIn_append_any hF s xo t ho w base e i z size bytes ht hi hz hsize hby hzs hsz v n xs hs hown B A m c news hx hr h1 h63 hbytes hbase fun v' w' h2 h3 h4 => hK _ _ (h v' w' h2 h3 h4)
end
theorem own_more {A : World} {base base' e sz n : Nat} {v : Value} {xs : List Value} (h : A.ownsRow base e sz v n xs) (hb : base' ≤ base) : A.ownsRow base' e sz v n xs := by
 refine ⟨h.1, h.2.imp id ?_⟩
 rintro ⟨g, cap, cur, hv, hg, hr⟩
 exact ⟨g, cap, cur, hv, Nat.le_trans hb hg, hr⟩
theorem Memo.at_ {A B : World} {b n : Nat} (h : Memo A b n) (hk : B.heap[b]? = A.heap[b]?) : Memo B b n := by
 obtain ⟨D, hD, h2⟩ := h
 obtain ⟨es, c, hmap, hr⟩ := hD
 exact ⟨D, ⟨es, c, hk.trans hmap, hr⟩, h2⟩
theorem Off.memo {O : Nat → Prop} {A B : World} {b n : Nat} (h : Off O A B) (hm : Memo A b n) (hb : ¬ O b) : Memo B b n := hm.at_ (h.block b hm.lt hb)
theorem Held.of_gb {O : Nat → Prop} {A B : World} {b : Nat} (h : GB A.heap.size b A B) (hb : ¬ O b) : Held O A B := ⟨h.size, fun k hk ho => h.block k hk (fun e => hb (by rw [← e]; exact ho))⟩
theorem Off.gb {O : Nat → Prop} {A B w : World} {m b : Nat} (hg : GB m b w A) (h : Off O A B) (hO : ∀ k, O k → m ≤ k) (hm : m ≤ A.heap.size) : GB m b w B :=
 hg.trans (GB.of_below (h.below hO hm))
def OIn (base : Nat) (O : Nat → Prop) (W : World) : Prop := (∀ k, O k → base ≤ k) ∧ (∀ k, O k → k < W.heap.size) ∧ base ≤ W.heap.size
theorem OIn.off {base : Nat} {O O' : Nat → Prop} {A B : World} (h : OIn base O A) (ho : Off O A B) (hO : ∀ k, O' k → O k ∨ (A.heap.size ≤ k ∧ k < B.heap.size)) : OIn base O' B :=
 ⟨fun k hk => by rcases hO k hk with h1 | h1; exact h.1 k h1; have := h.2.2; omega, fun k hk => by rcases hO k hk with h1 | h1; have := h.2.1 k h1; have := ho.size; omega; exact h1.2, Nat.le_trans h.2.2 ho.size⟩
theorem OIn.held {base : Nat} {O : Nat → Prop} {A B : World} (h : OIn base O A) (ho : Held O A B) : OIn base O B :=
 ⟨h.1, fun k hk => Nat.lt_of_lt_of_le (h.2.1 k hk) ho.size, Nat.le_trans h.2.2 ho.size⟩
def Apart (O : Nat → Prop) (v : Value) : Prop := ∀ g, v.ownBlock = some g → ¬ O g
theorem Apart.off {O O' : Nat → Prop} {A B : World} {base e sz n : Nat} {v : Value} {xs : List Value} (h : Apart O v) (ho : A.ownsRow base e sz v n xs) (hO : ∀ k, O' k → O k ∨ (A.heap.size ≤ k ∧ k < B.heap.size)) : Apart O' v := fun g hg hk => by
 rcases hO g hk with h1 | h1
 ·exact h g hg h1
 ·have := (ho.lt g hg).2; omega
theorem Apart.next {O : Nat → Prop} {W : World} {v v' : Value} (h : Apart O v) (hO : ∀ k, O k → k < W.heap.size) (hob : v'.ownBlock = v.ownBlock ∨ v'.ownBlock = some W.heap.size) : Apart O v' := fun g hg hk => by
 rcases hob with h1 | h1
 ·exact h g (by rw [← h1, hg]) hk
 ·rw [h1] at hg; injection hg with hg; have := hO g hk; omega
end
section
open Go.RowKit Go.Lib Go.Maps Go.Shelf
attribute [local go_sem] Oper.semAt_some
def rateR (q : Nat) (cs : List VC) (s : ByteArray) : RT := ⟨s, sumI (olL q s cs)⟩
def ratedL (wn q : Nat) (cs : List VC) : List RT := (allLn wn).map (rateR q cs)
theorem allLn_le {wn : Nat} (h : wn ≤ 3) : (allLn wn).length ≤ 121 := by
 rw [allLn_len]
 have h2 : wn ^ 2 ≤ 3 ^ 2 := Nat.pow_le_pow_left h 2
 have h3 : wn ^ 3 ≤ 3 ^ 3 := Nat.pow_le_pow_left h 3
 have h4 : wn ^ 4 ≤ 3 ^ 4 := Nat.pow_le_pow_left h 4
 omega
theorem rated_any (wn : Nat) (A : Option Addr) (n cap : Nat) (cs : List VC) (q mb N' B : Nat) (w : World) (hw3 : wn ≤ 3) (hn : n ≤ 5) (hBm : B ≤ mb) (hr : Rd w B 1 A n (cs.map VC.val)) (hc : ∀ c ∈ cs, c.ok w B) (hq : ∀ c ∈ cs, q < c.n) (hq5 : q ≤ 100)
  (hws : ∀ c ∈ cs, ∀ v ∈ c.ls, v.ws.length ≤ 4 ∧ ∀ x ∈ v.ws, 0 ≤ x ∧ x ≤ 255) (hm : Memo w mb N') (hN : N' + 1000 * KK 8 ≤ maxLen) :
  Calls Tryz.prog 136 #[.agg #[.int .i64 (wn : Int), .slice A n cap, .int .i64 (q : Int), .map (some mb)]] w fun e w' => ∃ v, e = .returned v ∧ w'.ownsRow w.heap.size 136 2 v (ratedL wn q cs).length ((ratedL wn q cs).flatMap RT.cells) ∧ Memo w' mb (N' + 605 * KK 8) ∧ GB w.heap.size mb w w' := by
 obtain ⟨i136, hi, hz0, hz1', hz2'⟩ := info_parts info136
 have hmb := hm.lt
 have hoc := fun (l : ByteArray) (wx : World) (N1 : Nat) (hl : l.size ≤ 4) (hx : GB w.heap.size mb w wx) (hmx : Memo wx mb N1) (hN1 : N1 + 5 * KK 8 ≤ maxLen) => olChanges_any (wn : Int) A n cap cs q mb N1 B l wx hn hBm (hr.gb hx hBm (by omega)) (fun c h => (hc c h).below (hx.below hBm (by omega))) hq hq5 hl hws hmx hN1
 have hnK : n * KK 8 ≤ 5 * KK 8 := Nat.mul_le_mul_right _ hn
 obtain ⟨K, hK⟩ : ∃ K, K = KK 8 := ⟨_, rfl⟩
 rw [← hK] at hN hnK ⊢
 simp only [← hK] at hoc
 obtain ⟨K5, hK5⟩ : ∃ K5, K5 = 5 * K := ⟨_, rfl⟩
 have HK5 := Lib.hid hK5
 have HOC := Lib.hid hoc
 clear hoc hK hr hc hq hws
 have hle := allLn_le hw3
 refine (callsIn_wide (n := 9)).1 ?_
 refine callsIn_of_wp_marks Tryz.func136 rfl trivial ?_ rfl
 simp only [Tryz.ntmps136, List.size_toArray, List.length_cons, List.length_nil, Nat.reduceAdd, Nat.reduceSub, Array.replicate_succ, Array.replicate_zero, List.push_toArray, List.append_toArray, List.nil_append, List.cons_append]
 clear hK5
 gi_wp2_with (refine ⟨trivial, (callsIn_wide.2 (lines_any (wn : Int) _)).mono ?_⟩; rintro e w' ⟨rfl, rfl⟩)
 obtain ⟨W0, hW0⟩ : ∃ W0 : World, W0 = ((w.alloc (.cells #[.int .i64 (wn : Int), .slice A n cap, .int .i64 (q : Int), .map (some mb)] 132)).alloc (.cells #[.slice none 0 0] 130)).alloc (.cells #[.int .i64 (wn : Int)] 3) := ⟨_, rfl⟩
 have hX := ((Blk.new w 132 #[.int .i64 (wn : Int), .slice A n cap, .int .i64 (q : Int), .map (some mb)]).alloc (.cells #[.slice none 0 0] 130)).alloc (.cells #[.int .i64 (wn : Int)] 3)
 have hV := (blk2_1 w (.cells #[.int .i64 (wn : Int), .slice A n cap, .int .i64 (q : Int), .map (some mb)] 132) 130 #[.slice none 0 0]).alloc (.cells #[.int .i64 (wn : Int)] 3)
 have hWb := Blk.new ((w.alloc (.cells #[.int .i64 (wn : Int), .slice A n cap, .int .i64 (q : Int), .map (some mb)] 132)).alloc (.cells #[.slice none 0 0] 130)) 3 #[.int .i64 (wn : Int)]
 have hsz : W0.heap.size = w.heap.size + 1 + 1 + 1 := by rw [hW0]; simp only [World.size_alloc]
 have hG : GB w.heap.size mb w W0 := by rw [hW0]; exact (((GB.refl _ _ _).alloc (Nat.le_refl _) _).alloc (by simp only [World.size_alloc]; omega) _).alloc (by simp only [World.size_alloc]; omega) _
 have hm0 : Memo W0 mb N' := by rw [hW0]; exact ((hm.alloc _).alloc _).alloc _
 rw [show ((w.alloc (.cells #[.int .i64 (wn : Int), .slice A n cap, .int .i64 (q : Int), .map (some mb)] 132)).alloc (.cells #[.slice none 0 0] 130)).heap.size = w.heap.size + 1 + 1 by simp only [World.size_alloc]] at hWb
 rw [← hW0] at hX hV hWb
 rw [← hW0]
 clear hW0 hm
 have HSZ := Lib.hid hsz; clear hsz
 refine wpIn_rangeO (F := Fence.wide) (n := 9) (w0 := W0) (Pre := fun ys => ys <+: allLn wn) (S := fun ys => ys = allLn wn) (O0 := fun k => k = w.heap.size + 1 + 1) (Good := fun _ _ _ => True) (encs := fun s : ByteArray => #[.string s]) rfl (by omega) (gf := 175) (lb := #[.pointer (some ⟨w.heap.size + 1 + 1, 0, none⟩)]) rfl trivial (enters_of Tryz.func175 (by kernel_rfl) rfl)
  (fun k h => by have := HSZ.out; omega) (lines_seq wn (w.heap.size + 1 + 1) _ hw3 W0 hWb) (Below.refl _ _) (fun _ => rfl)
  (fun (pre : List ByteArray) O Z => ∃ v, Blk Z (w.heap.size + 1) 130 #[v] ∧ Blk Z w.heap.size 132 #[.int .i64 (wn : Int), .slice A n cap, .int .i64 (q : Int), .map (some mb)] ∧ Z.ownsRow w.heap.size 136 2 v pre.length ((pre.map (rateR q cs)).flatMap RT.cells) ∧ Memo Z mb (N' + pre.length * K5) ∧ GB w.heap.size mb w Z ∧ OIn (w.heap.size + 1 + 1) O Z ∧ Apart O v)
  (fun _ _ _ _ => False)
  ?hI (fun _ _ _ _ _ _ h => h.elim) ?h0 ?hround ?hdone (fun _ _ _ _ _ _ _ h => h.elim)
 case hI =>
  rintro s O O' P0 Q0 ⟨v, h1, h2, h3, h4, h5, h6, h7⟩ ho hO'
  exact ⟨v, ho.blk h1 (fun h => by have := h6.1 _ h; omega), ho.blk h2 (fun h => by have := h6.1 _ h; omega), ho.own h3 h7, ho.memo h4 (fun h => by have := h6.1 _ h; omega), Off.gb h5 ho (fun k h => by have := h6.1 _ h; omega) (by have := h6.2.2; omega), h6.off ho hO', h7.off h3 hO'⟩
 case h0 =>
  intro W3 hb3 hs3
  have hs := HSZ.out
  refine ⟨_, hV.below hb3 hV.lt, hX.below hb3 hX.lt, World.ownsRow_nil _ _ _ _, ?_, hG.trans (GB.of_below (hb3.mono (by omega))), ⟨?_, ?_, by omega⟩, fun g h => by cases h⟩
  ·rw [List.length_nil, Nat.zero_mul, Nat.add_zero]; exact hm0.below hb3
  ·intro k h; omega
  ·intro k h; omega
 case hround =>
  rintro l' pre x O W0' W1' K1 hOl ⟨v, h1, h2, h3, h4, h5, h6, h7⟩ ho _ hpr hK1
  simp only [List.zip_toArray, List.zip_cons_cons, List.zip_nil_right, List.foldl_toArray', List.foldl_toArray, List.foldl_cons, List.foldl_nil, List.setIfInBounds_toArray, List.set_cons_succ, List.set_cons_zero, List.size_toArray, List.length_cons, List.length_nil]
  gi_wp2
  refine hK1 _ _ (Held.refl _ _) (fun W2 ho2 hsz2 => ?_)
  have hxs : x.size ≤ 4 := (allLn_mem (hpr.mem (List.mem_append_right _ (List.mem_singleton_self x)))).1
  have hjl : pre.length + 1 ≤ 121 := by have := hpr.length_le; simp at this; omega
  have hoo := ho.trans ho2
  have hV := hoo.blk h1 (fun h => by have := h6.1 _ h; omega)
  have hX := hoo.blk h2 (fun h => by have := h6.1 _ h; omega)
  have hown := hoo.own h3 h7
  have hm := hoo.memo h4 (fun h => by have := h6.1 _ h; omega)
  have hG := Off.gb h5 hoo (fun k h => by have := h6.1 _ h; omega) (by have := h6.2.2; omega)
  have hOI := h6.off hoo (O' := O) (fun k h => .inl h)
  have hOm : ¬ O mb := fun h => by have := h6.1 _ h; omega
  have hOv : ¬ O (w.heap.size + 1) := fun h => by have := h6.1 _ h; omega
  have HOI := Lib.hid hOI; have HAP := Lib.hid h7; have HXS := Lib.hid hxs
  have HMP : Hid ((pre ++ [x]).map (rateR q cs) = pre.map (rateR q cs) ++ [rateR q cs x]) := Lib.hid (by simp)
  clear h1 h2 h3 h4 h5 h6 h7 ho ho2 hsz2 hoo hOI hK1 hpr hxs
  obtain ⟨va, vc, rfl⟩ := own_slice hown
  obtain ⟨j, hj⟩ : ∃ j, j = pre.length := ⟨_, rfl⟩
  obtain ⟨ys, hys⟩ : ∃ ys, ys = (pre.map (rateR q cs)).flatMap RT.cells := ⟨_, rfl⟩
  obtain ⟨S, hS⟩ : ∃ S, S = sumI (olL q x cs) := ⟨_, rfl⟩
  rw [← hj, ← hys] at hown
  rw [← hj] at hV hm HAP hjl
  have hmul : j * K5 ≤ 121 * K5 := Nat.mul_le_mul_right _ (by omega)
  have hsu : (j + 1) * K5 = j * K5 + K5 := Nat.succ_mul j K5
  have HNJ : Hid (N' + j * K5 + 5 * K ≤ maxLen) := Lib.hid (by have := HK5.out; omega)
  have HNJ2 : Hid (N' + j * K5 + n * K ≤ N' + (j + 1) * K5) := Lib.hid (by have := HK5.out; rw [hsu]; omega)
  have HJ := Lib.hid hj; have HYS := Lib.hid hys; have HS := Lib.hid hS
  have hml : mb < w.heap.size := hmb
  clear hj hys hS hmul hsu
  gi_wp2
  rename World => W2
  refine wpIn_region_R (fun w' => Blk w' (w.heap.size + 1) 130 #[.slice va j vc] ∧ Blk w' w.heap.size 132 #[.int .i64 (wn : Int), .slice A n cap, .int .i64 (q : Int), .map (some mb)]) 8 (by kernel_rfl) ?_
  have hheldD := Held.drew O W2; replace hX := hX.drew; replace hV := hV.drew; replace hown := hown.drew; replace hm : Memo W2.drew mb (N' + j * K5) := hm; replace hG := hG.drew
  generalize W2.drew = WD at *
  have hTT : Blk WD (w.heap.size + 1) 130 #[.slice va j vc] ∧ Blk WD w.heap.size 132 #[.int .i64 (wn : Int), .slice A n cap, .int .i64 (q : Int), .map (some mb)] := ⟨hV, hX⟩
  refine wpR_takeL (i := 0) (v := ?vy1_0) (fun _ => trivial) (by kernel_rfl) rfl (by kernel_rfl) (by kernel_rfl) (by kernel_rfl) (by kernel_rfl) (fun _ _ _ h => h) (Or.inl ⟨by rfl, ?hyy1_0⟩) hTT ?resty1_0
  case hyy1_0 => intro wq hSw; have q0 := fun i => hSw.1.cell i; have q1 := fun i => hSw.2.cell i; go_simp <;> with_reducible rfl
  simp only [LS, Act.put]
  refine wpR_takeL (i := 1) (v := ?vy1_1) (fun _ => trivial) (by kernel_rfl) rfl (by kernel_rfl) (by kernel_rfl) (by kernel_rfl) (by kernel_rfl) (fun _ _ _ h => h) (Or.inl ⟨by rfl, ?hyy1_1⟩) hTT ?resty1_1
  case hyy1_1 => intro wq hSw; have q0 := fun i => hSw.1.cell i; have q1 := fun i => hSw.2.cell i; go_simp <;> with_reducible rfl
  simp only [LS, Act.put]
  refine wpR_takeL (i := 2) (v := ?vy1_2) (fun _ => trivial) (by kernel_rfl) rfl (by kernel_rfl) (by kernel_rfl) (by kernel_rfl) (by kernel_rfl) (fun _ _ _ h => h) (Or.inl ⟨by rfl, ?hyy1_2⟩) hTT ?resty1_2
  case hyy1_2 => intro wq hSw; have q0 := fun i => hSw.1.cell i; have q1 := fun i => hSw.2.cell i; go_simp <;> with_reducible rfl
  simp only [LS, Act.put]
  refine wpR_takeL (i := 3) (v := ?vy1_3) (fun _ => trivial) (by kernel_rfl) rfl (by kernel_rfl) (by kernel_rfl) (by kernel_rfl) (by kernel_rfl) (fun _ _ _ h => h) (Or.inl ⟨by rfl, ?hyy1_3⟩) hTT ?resty1_3
  case hyy1_3 => intro wq hSw; have q0 := fun i => hSw.1.cell i; have q1 := fun i => hSw.2.cell i; go_simp <;> with_reducible rfl
  simp only [LS, Act.put]
  refine wpR_one (i := 4) (fun _ => trivial) rfl (by kernel_rfl) (fun K hK => ?_)
  go_simp
  refine ⟨trivial, (CallsIn.inRound l' (callsIn_wide.2 (HOC.out x WD (N' + j * K5) HXS.out hG hm HNJ.out))).mono ?_⟩
  rintro e w1 ⟨rfl, hm1, hg⟩
  replace hm1 := hm1.mono HNJ2.out
  have hh1 : Held O W2 w1 := hheldD.trans (Held.of_gb hg hOm)
  replace hX := hX.gb hg (by omega); replace hV := hV.gb hg (by omega); replace hown := own_gb hown hg hml; replace hG := hG.call hg hG.size
  replace hTT := And.intro hV hX
  rw [← HS.out]
  clear hg hm
  refine hK _ _ (.inr hTT) ?_
  clear hK K
  try simp only [LS, Act.put]
  refine wpR_takeL (i := 5) (v := ?vy1_5) (fun _ => trivial) (by kernel_rfl) rfl (by kernel_rfl) (by kernel_rfl) (by kernel_rfl) (by kernel_rfl) (fun _ _ _ h => h) (Or.inl ⟨by rfl, ?hyy1_5⟩) hTT ?resty1_5
  case hyy1_5 => intro wq hSw; have q0 := fun i => hSw.1.cell i; have q1 := fun i => hSw.2.cell i; go_simp <;> with_reducible rfl
  simp only [LS, Act.put]
  refine wpR_one (i := 6) (fun _ => trivial) rfl (by kernel_rfl) (fun K hK => ?_)
  go_simp
  replace hX := hX.alloc (.cells #[.string x, .int .i64 S] 136); replace hV := hV.alloc (.cells #[.string x, .int .i64 S] 136); replace hown := hown.alloc (.cells #[.string x, .int .i64 S] 136); replace hm1 := hm1.alloc (.cells #[.string x, .int .i64 S] 136); replace hG := hG.alloc hG.size (.cells #[.string x, .int .i64 S] 136); replace hTT := And.intro hV hX
  have hh2 : Held O W2 (w1.alloc (.cells #[.string x, .int .i64 S] 136)) := hh1.trans (Held.alloc _ _ _)
  have hOs2 := OIn.held HOI.out hh2
  have hn3 := Blk.new w1 136 #[.string x, .int .i64 S]
  refine hK _ _ (.inr hTT) ?_
  clear hK K
  try simp only [LS, Act.put]
  refine wpR_one (i := 7) (fun _ => trivial) rfl (by kernel_rfl) (fun K hK => ?_)
  rw [if_pos (by rfl)]
  refine wpIn_append_any (fun _ => trivial) _ _ 130 rfl _ w.heap.size 136 i136 (.agg #[.string ⟨#[]⟩, .int .i64 0]) 2 24 Tryz.underlying130 hi hz0 hz1' hz2' rfl (by decide) (.slice va j vc) j ys rfl hown (w1.heap.size + 1) (some ⟨w1.heap.size, 0, none⟩) 1 1 [.string x, .int .i64 S] rfl (Rd.blkN hn3 rfl (Nat.lt_succ_self _)).reads (by simp [Value.oneCell']) (by unfold maxLen; omega) (by omega) (by have := hG.size; omega) (fun v' w2 hown' hgrow hob => ?_)
  replace hX := hX.kept_own hown (by decide) hgrow; replace hV := hV.kept_own hown (by decide) hgrow; replace hm1 := hm1.kept hgrow (fun e => by have := (hown.lt mb e.symm).1; omega); replace hG := GB.row hG hgrow hG.size (fun k hk => (hown.lt k hk).1); replace hTT := And.intro hV hX
  have hh3 : Held O W2 w2 := hh2.trans (Held.of_grown hgrow (fun k hk => HAP.out k hk))
  have hap2 : Apart O v' := Apart.next HAP.out hOs2.2.1 hob
  have hfz := hV.frozen 0; have hlV := hV.lt; have hcV : w2.cell? ⟨w.heap.size + 1, 0, none⟩ = some (.slice va j vc) := by have h := hV.cell 0; simpa using h
  clear hown hn3
  refine hK _ _ (.inr hTT) ?_
  clear hK K
  try simp only [LS, Act.put]
  refine wpR_one (i := 8) (fun _ => trivial) rfl (by kernel_rfl) (fun K hK => ?_)
  obtain ⟨va2, vc2, rfl⟩ := own_slice hown'
  go_simp
  refine hK _ _ (.inl rfl) ?_
  clear hK K
  try simp only [LS, Act.put]
  refine wpR_done (by kernel_rfl) ?_ _
  clear hTT
  have own4 := hown'.kept (grownBy_setCell' w2 (w.heap.size + 1) (.slice va2 (j + 1) vc2)) (.inr (Boxed.not_row (t := 130) (u := .slice va j vc) hV (by decide) hown').symm)
  have kV : Blk (w2.setCell ⟨w.heap.size + 1, 0, none⟩ (.slice va2 (j + 1) vc2)) (w.heap.size + 1) 130 #[.slice va2 (j + 1) vc2] := by simpa using hV.set_ 0 (.slice va2 (j + 1) vc2)
  have kX := hX.far (p := ⟨w.heap.size + 1, 0, none⟩) (show w.heap.size ≠ w.heap.size + 1 by omega) (.slice va2 (j + 1) vc2)
  have km := hm1.set (p := ⟨w.heap.size + 1, 0, none⟩) (show mb ≠ w.heap.size + 1 by omega) (.slice va2 (j + 1) vc2)
  have kG := hG.setCell (p := ⟨w.heap.size + 1, 0, none⟩) (show w.heap.size ≤ w.heap.size + 1 by omega) (.slice va2 (j + 1) vc2)
  have kh := hh3.trans (Held.setCell (p := ⟨w.heap.size + 1, 0, none⟩) hOv (.slice va2 (j + 1) vc2))
  gi_wp2
  refine ⟨kh, .slice va2 (j + 1) vc2, kV, kX, ?_, ?_, kG, HOI.out.held kh, hap2⟩
  ·rw [HMP.out, List.flatMap_append, List.length_append, ← HYS.out, ← HJ.out]
   simpa [rateR, RT.cells, ← HS.out] using own4
  ·rw [List.length_append, ← HJ.out]; exact km
 case hdone =>
  rintro D xs O Z hD hOD rfl ⟨v, h1, h2, h3, h4, h5, h6, h7⟩ hd
  have qV := fun i => h1.cell i
  have hlV := h1.lt
  gi_wp2
  refine leaves_marks [D] Z (by simp) (fun E hE => by rw [List.mem_singleton.1 hE]; exact hd) (fun w' hw' => ?_)
  have hO1 : ∀ k, k ∈ [D] → w.heap.size + 1 + 1 ≤ k := fun k hk => by rw [List.mem_singleton.1 hk]; have := HSZ.out; omega
  refine ⟨_, results_tmp rfl _ _ _, v, rfl, hw'.own (by unfold ratedL; rw [List.length_map]; exact h3) (fun g hg hk => h7 g hg (by rw [List.mem_singleton.1 hk]; exact hOD)), (hw'.memo h4 (fun h => by have := hO1 _ h; omega)).mono (by have := Nat.mul_le_mul_right K5 hle; have := HK5.out; omega), Off.gb h5 hw' (fun k hk => by have := hO1 k hk; omega) (by have := h6.2.2; omega)⟩
end
section
open Go.RowKit Go.Lib Go.Maps
def BkG (wn : Nat) (A : Option Addr) (n : Nat) (cs : List VC) (w : World) (B : Nat) : Prop :=
 (1 ≤ wn ∧ wn ≤ 3) ∧ (1 ≤ n ∧ n ≤ 5) ∧ (1 ≤ headN cs ∧ headN cs ≤ 4) ∧ Rd w B 1 A n (cs.map VC.val) ∧ (∀ c ∈ cs, c.ok w B) ∧ (∀ c ∈ cs, c.n = headN cs ∧ c.ls.length = headN cs) ∧
  (∀ c ∈ cs, ∀ v ∈ c.ls, v.n ≤ 4 ∧ v.ws.length ≤ 4 ∧ ∀ x ∈ v.ws, 0 ≤ x ∧ x ≤ 255)
section
variable {wn : Nat} {A : Option Addr} {n : Nat} {cs : List VC} {w w' : World} {B B' : Nat}
theorem BkG.below (h : BkG wn A n cs w B) (hb : Below B w w') : BkG wn A n cs w' B :=
 ⟨h.1, h.2.1, h.2.2.1, h.2.2.2.1.below hb, fun c hc => (h.2.2.2.2.1 c hc).below hb, h.2.2.2.2.2.1, h.2.2.2.2.2.2⟩
theorem BkG.more (h : BkG wn A n cs w B) (hb : B ≤ B') : BkG wn A n cs w B' :=
 ⟨h.1, h.2.1, h.2.2.1, h.2.2.2.1.more hb, fun c hc => (h.2.2.2.2.1 c hc).more hb, h.2.2.2.2.2.1, h.2.2.2.2.2.2⟩
theorem BkG.toW (h : BkG wn A n cs w w.heap.size) (hb : Below w.heap.size w w') : BkG wn A n cs w' w'.heap.size := (h.below hb).more hb.size
theorem BkG.len (h : BkG wn A n cs w B) : cs.length = n := by simpa using h.2.2.2.1.len
theorem BkG.of_book {W : Int} (h1 : bookB W cs = true) (hr : Rd w B 1 A n (cs.map VC.val)) (hc : ∀ c ∈ cs, c.ok w B) : ∃ wn : Nat, W = (wn : Int) ∧ BkG wn A n cs w B := by
 have hl : cs.length = n := by simpa using hr.len
 unfold bookB at h1
 simp only [Bool.and_eq_true, List.all_eq_true, beq_iff_eq] at h1
 obtain ⟨⟨⟨hW, hN⟩, hH⟩, hA⟩ := h1
 have hW' : 1 ≤ W ∧ W ≤ 3 := by simpa [inB] using hW
 have hN' : 1 ≤ (cs.length : Int) ∧ (cs.length : Int) ≤ 5 := by simpa [inB] using hN
 have hH' : 1 ≤ (headN cs : Int) ∧ (headN cs : Int) ≤ 4 := by simpa [inB] using hH
 refine ⟨W.toNat, by omega, ⟨by omega, by omega⟩, ⟨by omega, by omega⟩, ⟨by omega, by omega⟩, hr, hc, fun c hcc => ?_, fun c hcc v hv => ?_⟩
 ·have h2 := (hc c hcc).2.2.2.len2
  have h3 := (hA c hcc).1
  exact ⟨by omega, h3⟩
 ·have h2 := (hA c hcc).2 v hv
  unfold vlB at h2
  rw [Bool.and_eq_true] at h2
  have h3 := ln_small ⟨hW'.1, hW'.2⟩ h2.1
  have h4 := ((hc c hcc).2.2.1 v hv).2.2.len
  exact ⟨by omega, h3.1, fun x hx => by have := h3.2 x hx; omega⟩
end
theorem rated_bk {wn : Nat} {A : Option Addr} {n : Nat} (cap : Nat) {cs : List VC} (q mb N' : Nat) {B : Nat} {w : World} (hb : BkG wn A n cs w B) (hBm : B ≤ mb) (hq : q < headN cs) (hm : Memo w mb N') (hN : N' + 1000 * KK 8 ≤ maxLen) :
  Calls Tryz.prog 136 #[.agg #[.int .i64 (wn : Int), .slice A n cap, .int .i64 (q : Int), .map (some mb)]] w fun e w' => ∃ v, e = .returned v ∧ w'.ownsRow w.heap.size 136 2 v (ratedL wn q cs).length ((ratedL wn q cs).flatMap RT.cells) ∧ Memo w' mb (N' + 605 * KK 8) ∧ GB w.heap.size mb w w' :=
 rated_any wn A n cap cs q mb N' B w hb.1.2 hb.2.1.2 hBm hb.2.2.2.1 hb.2.2.2.2.1 (fun c hc => by have := hb.2.2.2.2.2.1 c hc; omega) (by have := hb.2.2.1.2; omega) (fun c hc v hv => (hb.2.2.2.2.2.2 c hc v hv).2) hm hN
def leastQ (wn q : Nat) (cs : List VC) : List RT := leastR (ratedL wn q cs)
theorem ratedL_pos (wn q : Nat) (cs : List VC) : 0 < (ratedL wn q cs).length := by unfold ratedL; rw [List.length_map, allLn_len]; omega
theorem ratedL_le {wn : Nat} (q : Nat) (cs : List VC) (h : wn ≤ 3) : (ratedL wn q cs).length ≤ 121 := by unfold ratedL; rw [List.length_map]; exact allLn_le h
theorem keepR_le (c : Int) (xs : List RT) : (keepR c xs).length ≤ xs.length := by unfold keepR; exact List.length_filter_le _ _
theorem olLeast_any {wn : Nat} {A : Option Addr} {n : Nat} (cap : Nat) {cs : List VC} (q mb N' : Nat) {B : Nat} {w : World} (hb : BkG wn A n cs w B) (hBm : B ≤ mb) (hq : q < headN cs) (hm : Memo w mb N') (hN : N' + 1000 * KK 8 ≤ maxLen) :
  Calls Tryz.prog 91 #[.agg #[.int .i64 (wn : Int), .slice A n cap, .int .i64 (q : Int), .map (some mb)]] w fun e w' => ∃ v, e = .returned v ∧ w'.ownsRow w.heap.size 136 2 v (leastQ wn q cs).length ((leastQ wn q cs).flatMap RT.cells) ∧ Memo w' mb (N' + 605 * KK 8) ∧ GB w.heap.size mb w w' := by
 have hmb := hm.lt
 have hX := Blk.new w 132 #[.int .i64 (wn : Int), .slice A n cap, .int .i64 (q : Int), .map (some mb)]
 have qX := fun i => hX.cell i
 have hG : GB w.heap.size mb w (w.alloc (.cells #[.int .i64 (wn : Int), .slice A n cap, .int .i64 (q : Int), .map (some mb)] 132)) := (GB.refl _ _ _).alloc (Nat.le_refl _) _
 have hrt := rated_bk cap q mb N' (hb.below (hG.below hBm (by omega))) hBm hq (hm.alloc (.cells #[.int .i64 (wn : Int), .slice A n cap, .int .i64 (q : Int), .map (some mb)] 132)) hN
 have hp := ratedL_pos wn q cs
 have hl := ratedL_le q cs hb.1.2
 unfold leastQ
 generalize ratedL wn q cs = R at *
 obtain ⟨m, hm'⟩ : ∃ m, m = R.length := ⟨_, rfl⟩
 rw [← hm'] at hrt hp hl
 have HRT := Lib.hid hrt; have HM := Lib.hid hm'
 clear hrt hm'
 go_enter Tryz.func91, Tryz.ntmps91
 go_wp2_with fail
 refine HRT.out.mono ?_
 rintro e w1 ⟨v, rfl, hown, hm1, hg⟩
 obtain ⟨a, c, rfl⟩ := own_slice hown
 have hls := least_rt a m c R w1 (by omega) hp (Rd.of_own hown)
 have hG1 := hG.call hg hG.size
 clear hg hX qX
 go_wp2_with fail
 refine hls.mono ?_
 rintro e w2 ⟨v2, m2, rfl, hown2, hb2⟩
 clear hls
 go_wp2_with fail
 go_ret
 have h2 := hown2.1
 rw [flatRT_len] at h2
 obtain rfl : m2 = (leastR R).length := by omega
 exact ⟨v2, rfl, own_more hown2 (by have := hG1.size; omega), hm1.below hb2, hG1.trans (GB.of_below (hb2.mono hG1.size))⟩
end
section
open Go.RowKit Go.Lib
def sB (L : List ByteArray) : Nat := (sumA L 0 0).toNat
def bookT (wn : Nat) (cs : List VC) : ByteArray := txtB (linesB wn cs) (sB (linesB wn cs))
section
variable {wn : Nat} {A : Option Addr} {n : Nat} {cs : List VC} {w : World} {B : Nat}
end
end
section
open Go.RowKit Go.Lib
def BADv : Ending := .panicked [{ v := .iface 223 (.agg #[]), recovered := false }]
theorem insist_bad (w : World) : Calls Tryz.prog 163 #[.bool false] w fun e w' => e = BADv ∧ w = w' := by
 go_enter Tryz.func163, Tryz.ntmps163
 go_wp2
 exact ⟨rfl, rfl, rfl⟩
theorem not_zero {s : ByteArray} (h : s.size ≠ 1 ∨ ∀ h : 0 < s.size, (s[0]'h).toNat ≠ 48) : (s.toList == [48]) = false := by
 rw [beq_eq_false_iff_ne, ByteArray.toList_eq]
 intro e
 have hs : s = ⟨#[48]⟩ := ByteArray.ext (Array.toList_inj.1 e)
 subst hs
 rcases h with h | h
 ·exact h rfl
 ·exact h (by decide) rfl
theorem is_zero {s : ByteArray} (h : s = ⟨#[48]⟩) : (s.toList == [48]) = true := by subst h; rw [ByteArray.toList_eq]; rfl
section
variable (s : ByteArray) (w : World)
theorem pn_size (h : inB (s.size : Int) 1 2 = false) : Calls Tryz.prog 199 #[.string s] w fun e w' => e = BADv ∧ Below w.heap.size w w' := by
 go_enter Tryz.func199, Tryz.ntmps199
 go_wp2_with (first
   | (go_at_call 125; refine (within_any _ _ _ _).mono ?_; rintro e w1 ⟨rfl, rfl⟩; rw [h])
   | (go_at_call 163; refine (insist_bad _).mono ?_; rintro e w1 ⟨rfl, rfl⟩))
 exact ⟨rfl, Eq.symm (by assumption), Below.refl _ _⟩
theorem pn_lead (hsz : s.size = 2) (h0 : (s[0]'(by omega)).toNat = 48) : Calls Tryz.prog 199 #[.string s] w fun e w' => e = BADv ∧ Below w.heap.size w w' := by
 have hin : inB (s.size : Int) 1 2 = true := by rw [hsz]; decide
 have hq : (s.toList == [48]) = false := not_zero (.inl (by omega))
 have hlt : 0 < s.size := by omega
 have hne : (((s[0]'(by omega)).toNat : Int) != 48) = false := by simp [h0]
 clear hsz h0
 go_enter Tryz.func199, Tryz.ntmps199
 go_wp2_with (first
   | (go_at_call 125; refine (within_any _ _ _ _).mono ?_; rintro e w1 ⟨rfl, rfl⟩; rw [hin])
   | (go_at_call 163; refine (insist_bad _).mono ?_; rintro e w1 ⟨rfl, rfl⟩))
 exact ⟨rfl, Eq.symm (by assumption), Below.refl _ _⟩
theorem pn_at0 (hin : inB (s.size : Int) 1 2 = true) (h0 : 0 < s.size) (hd : ¬ (48 ≤ (s[0]'h0).toNat ∧ (s[0]'h0).toNat ≤ 57)) : Calls Tryz.prog 199 #[.string s] w fun e w' => e = BADv ∧ Below w.heap.size w w' := by
 have hr := decode_nodigit s 0 h0 hd
 have hq : (s.toList == [48]) = false := not_zero (.inr fun h => by omega)
 have hne : (((s[0]'h0).toNat : Int) != 48) = true := by simp; omega
 have hnx : ∀ ty, (Instr.next (.pointer (some ⟨w.heap.size, 0, none⟩)) true ty).run Tryz.prog (w.iter s 0) = _ := fun ty => run_next_any w s 0 ty h0
 generalize (Utf8.decode s 0).1 = r at *
 generalize 0 + (Utf8.decode s 0).2 = k1 at *
 clear hd
 go_enter Tryz.func199, Tryz.ntmps199
 go_wp2_with (first
   | (go_at_call 125; refine (within_any _ _ _ _).mono ?_; rintro e w1 ⟨rfl, rfl⟩; rw [hin])
   | (go_at_call 163; refine (insist_ok _).mono ?_; rintro e w1 ⟨rfl, rfl⟩))
 go_loopw [3] (fun v w' => w' = w.iter s 0 ∧ v = .int .i64 0) (fun _ w' => 2 - w'.iterPos w.heap.size)
 case atStart => exact ⟨rfl, rfl⟩
 case round =>
  obtain ⟨rfl, rfl⟩ := hrel
  rcases (show ¬ (48 : Int) ≤ r ∨ ((48 : Int) ≤ r ∧ ¬ (r : Int) ≤ 57) by omega) with h1 | ⟨h1, h2⟩
  ·go_wp2_with (first
     | (go_at_call 163; refine (insist_bad _).mono ?_; rintro e w1 ⟨rfl, rfl⟩))
   exact ⟨rfl, Eq.symm (by assumption), below_iter _ _ _⟩
  ·go_wp2_with (first
     | (go_at_call 163; refine (insist_bad _).mono ?_; rintro e w1 ⟨rfl, rfl⟩))
   exact ⟨rfl, Eq.symm (by assumption), below_iter _ _ _⟩
theorem pn_at1 (d1 : Nat) (hsz : s.size = 2) (h1 : d1 < 10) (h1' : 1 ≤ d1) (hb0 : (s[0]'(by omega)).toNat = 48 + d1) (hd : ¬ (48 ≤ (s[1]'(by omega)).toNat ∧ (s[1]'(by omega)).toNat ≤ 57)) : Calls Tryz.prog 199 #[.string s] w fun e w' => e = BADv ∧ Below w.heap.size w w' := by
 have hin : inB (2 : Int) 1 2 = true := by decide
 have hq : (s.toList == [48]) = false := not_zero (.inl (by omega))
 have hlt : 0 < s.size := by omega
 have hne : (((s[0]'(by omega)).toNat : Int) != 48) = true := by simp; omega
 have hr := decode_nodigit s 1 (by omega) hd
 have hnx1 : ∀ ty, (Instr.next (.pointer (some ⟨w.heap.size, 0, none⟩)) true ty).run Tryz.prog (w.iter s 1) = _ := fun ty => run_next_any w s 1 ty (by omega)
 have hnx : ∀ ty, (Instr.next (.pointer (some ⟨w.heap.size, 0, none⟩)) true ty).run Tryz.prog (w.iter s 0) = _ := fun ty => run_next_ascii w s 0 ty (by omega) (by omega)
 rw [hb0] at hnx
 generalize (Utf8.decode s 1).1 = r at *
 generalize 1 + (Utf8.decode s 1).2 = k1 at *
 clear hb0 hd
 have HN := Lib.hid hnx1; clear hnx1
 go_enter Tryz.func199, Tryz.ntmps199
 go_wp2_with (first
   | (go_at_call 125; refine (within_any _ _ _ _).mono ?_; rintro e w1 ⟨rfl, rfl⟩; rw [hin])
   | (go_at_call 163; refine (insist_ok _).mono ?_; rintro e w1 ⟨rfl, rfl⟩))
 go_loopw [3] (fun v w' => ∃ pos, w' = w.iter s pos ∧ ((pos = 0 ∧ v = .int .i64 0) ∨ (pos = 1 ∧ v = .int .i64 d1))) (fun _ w' => 2 - w'.iterPos w.heap.size)
 case atStart => exact ⟨0, rfl, .inl ⟨rfl, rfl⟩⟩
 case round =>
  clear hq hne
  obtain ⟨pos, rfl, ⟨rfl, rfl⟩ | ⟨rfl, rfl⟩⟩ := hrel
  ·have h3 : (48 : Int) ≤ 48 + (d1 : Int) := by omega
   have h4 : (48 : Int) + (d1 : Int) ≤ 57 := by omega
   go_wp2_with (first
     | (go_at_call 163; refine (insist_ok _).mono ?_; rintro e w1 ⟨rfl, rfl⟩))
   go_roundw
   case rel => exact ⟨1, rfl, .inr ⟨rfl, by go_num⟩⟩
   case measure => simp
  ·clear hnx
   have hnx1 := HN.out
   clear HN
   rcases (show ¬ (48 : Int) ≤ r ∨ ((48 : Int) ≤ r ∧ ¬ (r : Int) ≤ 57) by omega) with h1 | ⟨h1, h2⟩
   ·go_wp2_with (first
      | (go_at_call 163; refine (insist_bad _).mono ?_; rintro e w1 ⟨rfl, rfl⟩))
    exact ⟨rfl, Eq.symm (by assumption), below_iter _ _ _⟩
   ·go_wp2_with (first
      | (go_at_call 163; refine (insist_bad _).mono ?_; rintro e w1 ⟨rfl, rfl⟩))
    exact ⟨rfl, Eq.symm (by assumption), below_iter _ _ _⟩
theorem pn_zero (d : Nat) (hd : d < 10) (hsz : s.size = 1) (hb : (s[0]'(by omega)).toNat = 48 + d) (h0 : s = ⟨#[48]⟩) :
  Calls Tryz.prog 199 #[.string s] w fun e w' => e = .returned (.int .i64 d) ∧ Below w.heap.size w w' := by
 have hin : inB (1 : Int) 1 2 = true := by decide
 have hlt : 0 < s.size := by omega
 have hq : (s.toList == [48]) = true := is_zero h0
 clear h0
 have HBB := Lib.hid hb; clear hb
 go_enter Tryz.func199, Tryz.ntmps199
 go_wp2_with (first
   | (go_at_call 125; refine (within_any _ _ _ _).mono ?_; rintro e w1 ⟨rfl, rfl⟩; rw [hin])
   | (go_at_call 163; refine (insist_ok _).mono ?_; rintro e w1 ⟨rfl, rfl⟩))
 go_loopw [3] (fun v w' => ∃ pos, w' = w.iter s pos ∧ ((pos = 0 ∧ v = .int .i64 0) ∨ (pos = 1 ∧ v = .int .i64 d))) (fun _ w' => 1 - w'.iterPos w.heap.size)
 case atStart => exact ⟨0, rfl, .inl ⟨rfl, rfl⟩⟩
 case round =>
  clear hq
  try clear hne
  obtain ⟨pos, rfl, ⟨rfl, rfl⟩ | ⟨rfl, rfl⟩⟩ := hrel
  ·have hnx : ∀ ty, (Instr.next (.pointer (some ⟨w.heap.size, 0, none⟩)) true ty).run Tryz.prog (w.iter s 0) = _ := fun ty => run_next_ascii w s 0 ty (by omega) (by have := HBB.out; omega)
   rw [HBB.out] at hnx
   have h1 : (48 : Int) ≤ 48 + (d : Int) := by omega
   have h2 : (48 : Int) + (d : Int) ≤ 57 := by omega
   go_wp2_with (first
     | (go_at_call 163; refine (insist_ok _).mono ?_; rintro e w1 ⟨rfl, rfl⟩))
   go_roundw
   case rel => exact ⟨1, rfl, .inr ⟨rfl, by go_num⟩⟩
   case measure => simp
  ·have hnx : ∀ ty, (Instr.next (.pointer (some ⟨w.heap.size, 0, none⟩)) true ty).run Tryz.prog (w.iter s 1) = _ := fun ty => run_next_end w s 1 ty (by omega)
   go_wp2_with fail
   go_ret
   exact ⟨rfl, below_iter _ _ _⟩
theorem pn_one (d : Nat) (hd : d < 10) (hsz : s.size = 1) (hb : (s[0]'(by omega)).toNat = 48 + d) (h0 : 1 ≤ d) :
  Calls Tryz.prog 199 #[.string s] w fun e w' => e = .returned (.int .i64 d) ∧ Below w.heap.size w w' := by
 have hin : inB (1 : Int) 1 2 = true := by decide
 have hlt : 0 < s.size := by omega
 have hq : (s.toList == [48]) = false := not_zero (.inr fun h => by omega)
 have hne : (((s[0]'(by omega)).toNat : Int) != 48) = true := by simp; omega
 have HBB := Lib.hid hb; clear hb
 go_enter Tryz.func199, Tryz.ntmps199
 go_wp2_with (first
   | (go_at_call 125; refine (within_any _ _ _ _).mono ?_; rintro e w1 ⟨rfl, rfl⟩; rw [hin])
   | (go_at_call 163; refine (insist_ok _).mono ?_; rintro e w1 ⟨rfl, rfl⟩))
 go_loopw [3] (fun v w' => ∃ pos, w' = w.iter s pos ∧ ((pos = 0 ∧ v = .int .i64 0) ∨ (pos = 1 ∧ v = .int .i64 d))) (fun _ w' => 1 - w'.iterPos w.heap.size)
 case atStart => exact ⟨0, rfl, .inl ⟨rfl, rfl⟩⟩
 case round =>
  clear hq
  try clear hne
  obtain ⟨pos, rfl, ⟨rfl, rfl⟩ | ⟨rfl, rfl⟩⟩ := hrel
  ·have hnx : ∀ ty, (Instr.next (.pointer (some ⟨w.heap.size, 0, none⟩)) true ty).run Tryz.prog (w.iter s 0) = _ := fun ty => run_next_ascii w s 0 ty (by omega) (by have := HBB.out; omega)
   rw [HBB.out] at hnx
   have h1 : (48 : Int) ≤ 48 + (d : Int) := by omega
   have h2 : (48 : Int) + (d : Int) ≤ 57 := by omega
   go_wp2_with (first
     | (go_at_call 163; refine (insist_ok _).mono ?_; rintro e w1 ⟨rfl, rfl⟩))
   go_roundw
   case rel => exact ⟨1, rfl, .inr ⟨rfl, by go_num⟩⟩
   case measure => simp
  ·have hnx : ∀ ty, (Instr.next (.pointer (some ⟨w.heap.size, 0, none⟩)) true ty).run Tryz.prog (w.iter s 1) = _ := fun ty => run_next_end w s 1 ty (by omega)
   go_wp2_with fail
   go_ret
   exact ⟨rfl, below_iter _ _ _⟩
theorem pn_two (d1 d2 : Nat) (h1 : d1 < 10) (h1' : 1 ≤ d1) (h2 : d2 < 10) (hsz : s.size = 2) (hb0 : (s[0]'(by omega)).toNat = 48 + d1) (hb1 : (s[1]'(by omega)).toNat = 48 + d2) :
  Calls Tryz.prog 199 #[.string s] w fun e w' => e = .returned (.int .i64 (10 * d1 + d2 : Nat)) ∧ Below w.heap.size w w' := by
 have hin : inB (2 : Int) 1 2 = true := by decide
 have hq : (s.toList == [48]) = false := not_zero (.inl (by omega))
 have hlt : 0 < s.size := by omega
 have hne : (((s[0]'(by omega)).toNat : Int) != 48) = true := by simp; omega
 have HB0 := Lib.hid hb0; have HB1 := Lib.hid hb1; clear hb0 hb1
 go_enter Tryz.func199, Tryz.ntmps199
 go_wp2_with (first
   | (go_at_call 125; refine (within_any _ _ _ _).mono ?_; rintro e w1 ⟨rfl, rfl⟩; rw [hin])
   | (go_at_call 163; refine (insist_ok _).mono ?_; rintro e w1 ⟨rfl, rfl⟩))
 go_loopw [3] (fun v w' => ∃ pos, w' = w.iter s pos ∧ ((pos = 0 ∧ v = .int .i64 0) ∨ (pos = 1 ∧ v = .int .i64 d1) ∨ (pos = 2 ∧ v = .int .i64 (10 * d1 + d2 : Nat)))) (fun _ w' => 2 - w'.iterPos w.heap.size)
 case atStart => exact ⟨0, rfl, .inl ⟨rfl, rfl⟩⟩
 case round =>
  clear hq hne
  obtain ⟨pos, rfl, ⟨rfl, rfl⟩ | ⟨rfl, rfl⟩ | ⟨rfl, rfl⟩⟩ := hrel
  ·have hnx : ∀ ty, (Instr.next (.pointer (some ⟨w.heap.size, 0, none⟩)) true ty).run Tryz.prog (w.iter s 0) = _ := fun ty => run_next_ascii w s 0 ty (by omega) (by have := HB0.out; omega)
   rw [HB0.out] at hnx
   have h3 : (48 : Int) ≤ 48 + (d1 : Int) := by omega
   have h4 : (48 : Int) + (d1 : Int) ≤ 57 := by omega
   go_wp2_with (first
     | (go_at_call 163; refine (insist_ok _).mono ?_; rintro e w1 ⟨rfl, rfl⟩))
   go_roundw
   case rel => exact ⟨1, rfl, .inr (.inl ⟨rfl, by go_num⟩)⟩
   case measure => simp
  ·have hnx : ∀ ty, (Instr.next (.pointer (some ⟨w.heap.size, 0, none⟩)) true ty).run Tryz.prog (w.iter s 1) = _ := fun ty => run_next_ascii w s 1 ty (by omega) (by have := HB1.out; omega)
   rw [HB1.out] at hnx
   have h3 : (48 : Int) ≤ 48 + (d2 : Int) := by omega
   have h4 : (48 : Int) + (d2 : Int) ≤ 57 := by omega
   have h5 := i64_ok (10 * (d1 : Int)) (by omega)
   have h6 := i64_ok (10 * (d1 : Int) + (d2 : Int)) (by omega)
   go_wp2_with (first
     | (go_at_call 163; refine (insist_ok _).mono ?_; rintro e w1 ⟨rfl, rfl⟩))
   go_roundw
   case rel => exact ⟨2, rfl, .inr (.inr ⟨rfl, by go_num⟩)⟩
   case measure => simp
  ·have hnx : ∀ ty, (Instr.next (.pointer (some ⟨w.heap.size, 0, none⟩)) true ty).run Tryz.prog (w.iter s 2) = _ := fun ty => run_next_end w s 2 ty (by omega)
   go_wp2_with fail
   go_ret
   exact ⟨rfl, below_iter _ _ _⟩
end
theorem pn_any (a : Nat) (ha : a < 100) (w : World) : Calls Tryz.prog 199 #[.string (dS a)] w fun e w' => e = .returned (.int .i64 a) ∧ Below w.heap.size w w' := by
 by_cases h : a < 10
 ·have e : dS a = ⟨#[UInt8.ofNat (48 + a)]⟩ := by unfold dS; rw [decDigits_one h]
  have hb : ((dS a)[0]'(by rw [e]; exact Nat.zero_lt_one)).toNat = 48 + a := by
   simp only [e]
   show (UInt8.ofNat (48 + a)).toNat = 48 + a
   rw [UInt8.toNat_ofNat']
   omega
  by_cases h0 : a = 0
  ·exact pn_zero (dS a) w a h (by rw [e]; rfl) hb (by rw [e, h0]; rfl)
  ·exact pn_one (dS a) w a h (by rw [e]; rfl) hb (by omega)
 ·have e : dS a = ⟨#[UInt8.ofNat (48 + a / 10), UInt8.ofNat (48 + a % 10)]⟩ := by unfold dS; rw [decDigits_two h ha]
  have ea : 10 * (a / 10) + a % 10 = a := by omega
  have key := pn_two (dS a) w (a / 10) (a % 10) (by omega) (by omega) (by omega) (by rw [e]; rfl) (by
    simp only [e]
    show (UInt8.ofNat (48 + a / 10)).toNat = 48 + a / 10
    rw [UInt8.toNat_ofNat']
    omega) (by
    simp only [e]
    show (UInt8.ofNat (48 + a % 10)).toNat = 48 + a % 10
    rw [UInt8.toNat_ofNat']
    omega)
  rw [ea] at key
  exact key
theorem pn_bad (s : ByteArray) (w : World) (h : ∀ a, a < 100 → s ≠ dS a) : Calls Tryz.prog 199 #[.string s] w fun e w' => e = BADv ∧ Below w.heap.size w w' := by
 by_cases hs : s.size = 1 ∨ s.size = 2
 ·have hin : inB (s.size : Int) 1 2 = true := by rcases hs with h | h <;> rw [h] <;> decide
  by_cases h0 : 48 ≤ (s[0]'(by omega)).toNat ∧ (s[0]'(by omega)).toNat ≤ 57
  ·obtain ⟨d1, hd1⟩ : ∃ d, (s[0]'(by omega)).toNat = 48 + d := ⟨(s[0]'(by omega)).toNat - 48, by omega⟩
   rcases hs with hs | hs
   ·exfalso
    refine h d1 (by omega) ?_
    unfold dS
    rw [decDigits_one (by omega)]
    apply ByteArray.ext
    apply Array.ext
    ·simpa using hs
    ·intro i hi1 hi2
     have hi : i = 0 := by simp at hi2; omega
     subst hi
     apply UInt8.toNat_inj.1
     show (s[0]'(by omega)).toNat = _
     rw [hd1]
     simp
     omega
   ·by_cases hz : d1 = 0
    ·exact pn_lead s w hs (by omega)
    ·by_cases hb : 48 ≤ (s[1]'(by omega)).toNat ∧ (s[1]'(by omega)).toNat ≤ 57
     ·obtain ⟨d2, hd2⟩ : ∃ d, (s[1]'(by omega)).toNat = 48 + d := ⟨(s[1]'(by omega)).toNat - 48, by omega⟩
      exfalso
      refine h (10 * d1 + d2) (by omega) ?_
      unfold dS
      rw [decDigits_two (by omega) (by omega)]
      apply ByteArray.ext
      apply Array.ext
      ·simpa using hs
      ·intro i hi1 hi2
       have hi : i = 0 ∨ i = 1 := by simp at hi2; omega
       rcases hi with rfl | rfl
       ·apply UInt8.toNat_inj.1
        show (s[0]'(by omega)).toNat = _
        rw [hd1]
        simp
        omega
       ·apply UInt8.toNat_inj.1
        show (s[1]'(by omega)).toNat = _
        rw [hd2]
        simp
        omega
     ·exact pn_at1 s w d1 hs (by omega) (by omega) hd1 hb
  ·exact pn_at0 s w hin (by omega) h0
 ·refine pn_size s w ?_
  unfold inB
  simp only [Bool.and_eq_false_iff, decide_eq_false_iff_not]
  omega
end
end Go.Proofs.YtekmnelpkogppaaGreatDoor
