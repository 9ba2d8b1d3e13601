import Derived.Test.YtifddfchpknkbaaGreatDoorRz
import Derived.Test.YtifddfchpknkbaaGreatDoorHd
import Derived.Test.YtifddfchpknkbaaGreatDoorK
import Derived.Test.YtifddfchpknkbaaGreatDoorAn
import Derived.Test.YtifddfchpknkbaaGreatDoorJp
set_option linter.unusedVariables false
set_option linter.unusedSimpArgs false
namespace Go.Proofs.YtifddfchpknkbaaGreatDoor
open Go.RowKit

theorem info24 : (Tryz.prog.info? 24).map (fun i => (i.zero, i.size, i.bytes)) = some (some (.slice none 0 0), 1, 24) := by kernel_rfl
theorem rdC_len (y : Int) (t : Tr) : (rdC y t).length = 4 := rfl
theorem Rd.at4 {w : World} {B : Nat} {A : Option Addr} {n k : Nat} {y : Int} {l : List Tr} (h : Rd w B 4 A n (l.flatMap (rdC y))) (hk : k < n) :
    ∃ b off, ∃ hz : k < l.length, A = some ⟨b, off, none⟩ ∧ b < B ∧ w.cell? ⟨b, off + k * 4, none⟩ = some (.int .i64 l[k].1) ∧ w.cell? ⟨b, off + k * 4 + 1, none⟩ = some (.int .i64 l[k].2.1) ∧ w.cell? ⟨b, off + k * 4 + 2, none⟩ = some (.int .i64 l[k].2.2) ∧ w.cell? ⟨b, off + k * 4 + 3, none⟩ = some (.int .i64 y) := by
  obtain ⟨b, off, hz, e, hb, hc⟩ := h.atc (by decide) (rdC_len y) hk
  exact ⟨b, off, hz, e, hb, hc 0 _ (by decide) rfl, hc 1 _ (by decide) rfl, hc 2 _ (by decide) rfl, hc 3 _ (by decide) rfl⟩

theorem Rd.cells4 {w : World} {B b off : Nat} {n k : Nat} {y : Int} {l : List Tr} (h : Rd w B 4 (some ⟨b, off, none⟩) n (l.flatMap (rdC y))) (hk : k < l.length) : w.cell? ⟨b, off + k * 4, none⟩ = some (.int .i64 l[k].1) ∧ w.cell? ⟨b, off + k * 4 + 1, none⟩ = some (.int .i64 l[k].2.1) ∧ w.cell? ⟨b, off + k * 4 + 2, none⟩ = some (.int .i64 l[k].2.2) ∧ w.cell? ⟨b, off + k * 4 + 3, none⟩ = some (.int .i64 y) := by
  obtain ⟨b', off', hz, e, _, h4⟩ := h.at4 (k := k) (by rw [← h.lenc (by decide) (rdC_len y)]; exact hk)
  cases e
  exact h4

/-- Values that are slices of a call's own, each with the rows of a cloth. -/
def Cloths (w : World) (base : Nat) (vs : List Value) (cls : List (List ByteArray)) : Prop := vs.length = cls.length ∧ ∀ i (h : i < vs.length) (h2 : i < cls.length), w.ownsRow base 9 1 vs[i] cls[i].length (cls[i].map Value.string)
theorem Cloths.nil (w : World) (base : Nat) : Cloths w base [] [] := ⟨rfl, fun i h => absurd h (by simp)⟩
theorem Cloths.below {w w' : World} {base : Nat} {vs : List Value} {cls : List (List ByteArray)} (h : Cloths w base vs cls) (hb : Below w.heap.size w w') : Cloths w' base vs cls := ⟨h.1, fun i h1 h2 => ownsRow_below' (h.2 i h1 h2) hb⟩
theorem Cloths.alloc {w : World} {base : Nat} {vs : List Value} {cls : List (List ByteArray)} (h : Cloths w base vs cls) (o : Obj) : Cloths (w.alloc o) base vs cls := ⟨h.1, fun i h1 h2 => (h.2 i h1 h2).alloc o⟩
theorem Cloths.drew {w : World} {base : Nat} {vs : List Value} {cls : List (List ByteArray)} (h : Cloths w base vs cls) : Cloths w.drew base vs cls := ⟨h.1, fun i h1 h2 => (h.2 i h1 h2).drew⟩
theorem Cloths.kept {w w' : World} {base b' s' n' : Nat} {e' : TypeId} {v' : Value} {xs' : List Value} {vs : List Value} {cls : List (List ByteArray)} (h : Cloths w base vs cls) (hr : w.ownsRow b' e' s' v' n' xs') (hne : 9 ≠ e') (hg : w.grownBy w' v'.ownBlock) : Cloths w' base vs cls :=
  ⟨h.1, fun i h1 h2 => (h.2 i h1 h2).kept hg (own_ne (h.2 i h1 h2) hr hne)⟩
theorem Cloths.snoc {w : World} {base : Nat} {vs : List Value} {cls : List (List ByteArray)} {v : Value} {c : List ByteArray} (h : Cloths w base vs cls) (hv : w.ownsRow base 9 1 v c.length (c.map Value.string)) : Cloths w base (vs ++ [v]) (cls ++ [c]) := by
  refine ⟨by simp [h.1], fun i h1 h2 => ?_⟩
  rcases Nat.lt_or_ge i vs.length with hi | hi
  · have := h.2 i hi (by rw [← h.1]; exact hi)
    rw [List.getElem_append_left hi]
    have e : (cls ++ [c])[i] = cls[i]'(by rw [← h.1]; exact hi) := List.getElem_append_left _
    rw [e]; exact this
  · have hi2 : i = vs.length := by simp at h1; omega
    subst hi2
    have e1 : (vs ++ [v])[vs.length] = v := by simp
    have e2 : (cls ++ [c])[vs.length] = c := by simp [h.1]
    rw [e1, e2]; exact hv
/-- A cloth of them, to be read. -/
theorem Cloths.at {w : World} {base : Nat} {vs : List Value} {cls : List (List ByteArray)} {i : Nat} (h : Cloths w base vs cls) (h1 : i < vs.length) : ∃ (h2 : i < cls.length) (A : Option Addr) (c : Nat), vs[i] = .slice A cls[i].length c ∧ cls[i].length ≤ c ∧ c ≤ maxLen ∧ Rd w w.heap.size 1 A cls[i].length (cls[i].map Value.string) := by
  have h2 : i < cls.length := by rw [← h.1]; exact h1
  have ho := h.2 i h1 h2
  obtain ⟨A, c, e⟩ := own_slice ho
  rw [e] at ho
  exact ⟨h2, A, c, e, own_le0 ho, own_cap ho, Rd.of_own ho⟩

/-- The cloths of all readings of a company. -/
def clothsL (Wn Hn : Nat) (F L X Y nl nh xl xh y : Int) (fs : List Fig) : List (List ByteArray) := (shL Wn Hn F L X Y nl nh xl xh y fs).map fun h => rowsOf h.s Wn Hn

set_option maxRecDepth 100000 in
set_option maxHeartbeats 25600000 in
theorem refAll_any (Wn Hn : Nat) (F L X Y nl nh xl xh y : Int) (A : Option Addr) (n cap : Nat) (fs : List Fig) (w : World) (hcap : n ≤ cap) (hcm : cap ≤ maxLen) (hf : ∀ f ∈ fs, f.ok w w.heap.size) (hr : Rd w w.heap.size 1 A n (fs.map Fig.val)) (hok : askB Wn Hn F L X Y nl nh xl xh y fs = true) :
    Calls Tryz.prog 132 #[.agg #[.int .i64 Wn, .int .i64 Hn, .int .i64 F, .int .i64 L, .int .i64 X, .int .i64 Y], .slice A n cap, .agg #[.int .i64 nl, .int .i64 nh, .int .i64 xl, .int .i64 xh, .int .i64 y]] w fun e w' => ∃ v u vs, e = .returned (.tuple #[v, u]) ∧ w'.ownsRow w.heap.size 86 4 v (allR fs.length nl nh xl xh).length ((allR fs.length nl nh xl xh).flatMap (rdC y)) ∧ w'.ownsRow w.heap.size 24 1 u (allR fs.length nl nh xl xh).length vs ∧ Cloths w' w.heap.size vs (clothsL Wn Hn F L X Y nl nh xl xh y fs) ∧ Below w.heap.size w w' := by
  obtain ⟨i24, hi, hz0, hz1', hz2'⟩ := info_parts info24
  have hn : n ≤ maxLen := Nat.le_trans hcap hcm
  have hlen := hr.len
  have hsm := allR_small hok
  have hask := hok
  simp only [askB, Bool.and_eq_true] at hask
  obtain ⟨⟨r1, r2⟩, ⟨r3, r4⟩, ⟨r5, r6⟩, ⟨r7, r8⟩, ⟨r9, r10⟩, _⟩ := reachB_nums hask.2.2
  obtain ⟨⟨k1, k2⟩, _⟩ := compB_nums hask.2.1
  have ⟨⟨s1, s2⟩, ⟨s3, s4⟩, ⟨s5, s6⟩, _⟩ := stageB_nums hask.1
  have HV := Lib.hid (fun (t : Tr) (ht : t ∈ allR fs.length nl nh xl xh) => view_of hok ht)
  have HCL := Lib.hid (show clothsL Wn Hn F L X Y nl nh xl xh y fs = (allR fs.length nl nh xl xh).map (fun t => rowsOf (shS Wn Hn F L X Y t.2.1 t.2.2 y (figAt fs t.1)) Wn Hn) by unfold clothsL shL; rw [List.map_map]; rfl)
  have hread := fun wx => refReadings_any n nl nh xl xh y wx (by omega) (by omega) (by omega) (by omega) (by omega) (by omega) (by omega) (by rw [← hlen]; omega)
  rw [← hlen] at hread
  obtain ⟨all, hall⟩ : ∃ all, all = allR fs.length nl nh xl xh := ⟨_, rfl⟩
  rw [← hall] at HV HCL hsm ⊢
  simp only [← hall] at hread
  rw [HCL.out]
  have HREAD := Lib.hid hread; have HLEN := Lib.hid hlen
  clear hread hall hok hask hlen HCL
  rw [HLEN.out] at HREAD
  go_enter Tryz.func132, Tryz.ntmps132
  go_upto_region 1 with (fail)
  have hS := blk2_0 w (.cells #[.int .i64 nl, .int .i64 nh, .int .i64 xl, .int .i64 xh, .int .i64 y] 71) 23 #[.int .i64 Wn, .int .i64 Hn, .int .i64 F, .int .i64 L, .int .i64 X, .int .i64 Y]
  have hQ := blk2_1 w (.cells #[.int .i64 Wn, .int .i64 Hn, .int .i64 F, .int .i64 L, .int .i64 X, .int .i64 Y] 23) 71 #[.int .i64 nl, .int .i64 nh, .int .i64 xl, .int .i64 xh, .int .i64 y]
  have hB := pro_2 w (.cells #[.int .i64 Wn, .int .i64 Hn, .int .i64 F, .int .i64 L, .int .i64 X, .int .i64 Y] 23) (.cells #[.int .i64 nl, .int .i64 nh, .int .i64 xl, .int .i64 xh, .int .i64 y] 71)
  generalize (w.alloc (.cells #[.int .i64 Wn, .int .i64 Hn, .int .i64 F, .int .i64 L, .int .i64 X, .int .i64 Y] 23)).alloc (.cells #[.int .i64 nl, .int .i64 nh, .int .i64 xl, .int .i64 xh, .int .i64 y] 71) = W0 at *
  have qhS := fun i => Blk.cell hS i
  have qhQ := fun i => Blk.cell hQ i
  go_upto_region 2 with (go_at_call 121; refine (HREAD.out _).mono ?_; rintro e w1 ⟨vr, rfl, hrow, hb⟩; obtain ⟨rA, rC, rfl⟩ := own_slice hrow; replace hrow := own_mono hrow hB.size; replace hS := hS.below hb hS.lt; replace hQ := hQ.below hb hQ.lt; replace hB := hB.trans (hb.mono hB.size); clear qhS qhQ hb)
  clear HREAD
  go_wp2_with (fail)
  go_loopg [9, 10] all.length (fun g v i wr => ∃ (k : Nat) (vs : List Value) (v0 : Value), g = all.length - k ∧ k ≤ all.length ∧ v = v0 ∧ i = .int .i64 k ∧ Cloths wr w.heap.size vs ((all.take k).map (fun t => rowsOf (shS Wn Hn F L X Y t.2.1 t.2.2 y (figAt fs t.1)) Wn Hn)) ∧ wr.ownsRow w.heap.size 24 1 v0 k vs ∧ wr.ownsRow w.heap.size 86 4 (.slice rA all.length rC) all.length (all.flatMap (rdC y)) ∧ Blk wr w.heap.size 23 #[.int .i64 Wn, .int .i64 Hn, .int .i64 F, .int .i64 L, .int .i64 X, .int .i64 Y] ∧ Blk wr (w.heap.size + 1) 71 #[.int .i64 nl, .int .i64 nh, .int .i64 xl, .int .i64 xh, .int .i64 y] ∧ Below w.heap.size w wr)
  case atStart => exact ⟨0, [], _, rfl, Nat.zero_le _, rfl, rfl, Cloths.nil _ _, World.ownsRow_nil _ _ _ _, hrow, hS, hQ, hB⟩
  case round =>
    clear hS hQ hB hrow
    obtain ⟨k, vs, v0, hg, hk, rfl, rfl, hcl, hown, hrow, hS, hQ, hB⟩ := hrel
    have HG := Lib.hid hg; clear hg
    obtain ⟨va, vc, rfl⟩ := own_slice hown
    have qhS := fun i => Blk.cell hS i; have qhQ := fun i => Blk.cell hQ i
    rename World => W1
    by_cases hlt : k < all.length
    · have hlti : (k : Int) < all.length := by omega
      obtain ⟨bR, oR, hz, rfl, hbR, _⟩ := (Rd.of_own hrow).at4 hlt
      have hcells := fun (wx : World) (h : Rd wx wx.heap.size 4 (some ⟨bR, oR, none⟩) all.length (all.flatMap (rdC y))) => h.cells4 hz
      obtain ⟨kf, hkf, e0, e1, hvw⟩ := HV.out _ (List.getElem_mem hz)
      have htk : all.take (k + 1) = all.take k ++ [all[k]] := List.take_succ_eq_append_getElem hz
      have hfo := hf _ (List.getElem_mem hkf)
      have hkn : kf < n := by have := HLEN.out; omega
      obtain ⟨bF, oF, rfl, hbF, hcf⟩ := hr.2 (by omega)
      have cf : w.cell? ⟨bF, oF + kf, none⟩ = some (Fig.val fs[kf]) := hcf kf (Fig.val fs[kf]) (by simp [hkf])
      have hkni : (kf : Int) < n := by omega
      clear hcf
      simp only [e0] at hcells
      obtain ⟨cl, hcle⟩ : ∃ cl, cl = rowsOf (shS Wn Hn F L X Y all[k].2.1 all[k].2.2 y (figAt fs all[k].1)) Wn Hn := ⟨_, rfl⟩
      have hmap : (all.take (k + 1)).map (fun t => rowsOf (shS Wn Hn F L X Y t.2.1 t.2.2 y (figAt fs t.1)) Wn Hn) = (all.take k).map (fun t => rowsOf (shS Wn Hn F L X Y t.2.1 t.2.2 y (figAt fs t.1)) Wn Hn) ++ [cl] := by rw [htk, List.map_append, hcle]; rfl
      have HCLE := Lib.hid hcle; have HMAP := Lib.hid hmap; clear hcle hmap
      clear htk
      rw [e1] at HCLE
      generalize all[k].2.1 = tn at *
      generalize all[k].2.2 = tx at *
      generalize fs[kf] = fg at *
      obtain ⟨fA, fn, fcap, rows⟩ := fg
      obtain ⟨hf1, hf2, hf3, hfr⟩ := hfo
      dsimp only at hf1 hf2 hf3 hfr hvw HCLE
      simp only [Fig.val] at cf
      have HVW := Lib.hid hvw; have HCELLS := Lib.hid hcells; clear hvw e0 e1 hcells
      go_upto_region 6 with (fail)
      rename World => WR
      refine wp_region_G ((fun w' => (Blk w' w.heap.size 23 #[.int .i64 Wn, .int .i64 Hn, .int .i64 F, .int .i64 L, .int .i64 X, .int .i64 Y] ∧ Blk w' (w.heap.size + 1) 71 #[.int .i64 nl, .int .i64 nh, .int .i64 xl, .int .i64 xh, .int .i64 y]) ∧ (w'.ownsRow w.heap.size 86 4 (.slice (some ⟨bR, oR, none⟩) all.length rC) all.length (all.flatMap (rdC y)) ∧ Below w.heap.size w w'))) 18 (by kernel_rfl) ?_
      replace hS := hS.drew
      replace hQ := hQ.drew
      replace hrow := hrow.drew
      replace hown := hown.drew
      replace hcl := hcl.drew
      replace hB := hB.drew
      (try clear qhS qhQ)
      generalize WR.drew = WD at *
      have hTT := And.intro (And.intro hS hQ) (And.intro hrow hB)
      refine wpG_take (i := 0) (v := ?vy1_0) rfl (by kernel_rfl) (by kernel_rfl) (by kernel_rfl) (by kernel_rfl) (fun _ _ _ h => h) (Or.inl ⟨by rfl, ?hyy1_0⟩) hTT ?resty1_0
      case hyy1_0 => intro wq hSw; skip; have hqS := fun i => hSw.1.1.cell i; have hqQ := fun i => hSw.1.2.cell i; have e4 := (hSw.2.2.cell (p := ⟨bF, oF + kf, none⟩) hbF).trans cf; obtain ⟨e0, e1, e2, e3⟩ := (HCELLS.out wq (Rd.of_own hSw.2.1)); go_simp <;> with_reducible rfl
      simp only [List.getElem_toArray, List.getElem_cons_zero, List.getElem_cons_succ, Act.put, List.setIfInBounds_toArray, List.set_cons_zero, List.set_cons_succ]
      refine wpG_take (i := 1) (v := ?vy1_1) rfl (by kernel_rfl) (by kernel_rfl) (by kernel_rfl) (by kernel_rfl) (fun _ _ _ h => h) (Or.inl ⟨by rfl, ?hyy1_1⟩) hTT ?resty1_1
      case hyy1_1 => intro wq hSw; skip; have hqS := fun i => hSw.1.1.cell i; have hqQ := fun i => hSw.1.2.cell i; have e4 := (hSw.2.2.cell (p := ⟨bF, oF + kf, none⟩) hbF).trans cf; obtain ⟨e0, e1, e2, e3⟩ := (HCELLS.out wq (Rd.of_own hSw.2.1)); go_simp <;> with_reducible rfl
      simp only [List.getElem_toArray, List.getElem_cons_zero, List.getElem_cons_succ, Act.put, List.setIfInBounds_toArray, List.set_cons_zero, List.set_cons_succ]
      refine wpG_take (i := 2) (v := ?vy1_2) rfl (by kernel_rfl) (by kernel_rfl) (by kernel_rfl) (by kernel_rfl) (fun _ _ _ h => h) (Or.inl ⟨by rfl, ?hyy1_2⟩) hTT ?resty1_2
      case hyy1_2 => intro wq hSw; skip; have hqS := fun i => hSw.1.1.cell i; have hqQ := fun i => hSw.1.2.cell i; have e4 := (hSw.2.2.cell (p := ⟨bF, oF + kf, none⟩) hbF).trans cf; obtain ⟨e0, e1, e2, e3⟩ := (HCELLS.out wq (Rd.of_own hSw.2.1)); go_simp <;> with_reducible rfl
      simp only [List.getElem_toArray, List.getElem_cons_zero, List.getElem_cons_succ, Act.put, List.setIfInBounds_toArray, List.set_cons_zero, List.set_cons_succ]
      refine wpG_take (i := 3) (v := ?vy1_3) rfl (by kernel_rfl) (by kernel_rfl) (by kernel_rfl) (by kernel_rfl) (fun _ _ _ h => h) (Or.inl ⟨by rfl, ?hyy1_3⟩) hTT ?resty1_3
      case hyy1_3 => intro wq hSw; skip; have hqS := fun i => hSw.1.1.cell i; have hqQ := fun i => hSw.1.2.cell i; have e4 := (hSw.2.2.cell (p := ⟨bF, oF + kf, none⟩) hbF).trans cf; obtain ⟨e0, e1, e2, e3⟩ := (HCELLS.out wq (Rd.of_own hSw.2.1)); go_simp <;> with_reducible rfl
      simp only [List.getElem_toArray, List.getElem_cons_zero, List.getElem_cons_succ, Act.put, List.setIfInBounds_toArray, List.set_cons_zero, List.set_cons_succ]
      refine wpG_take (i := 4) (v := ?vy1_4) rfl (by kernel_rfl) (by kernel_rfl) (by kernel_rfl) (by kernel_rfl) (fun _ _ _ h => h) (Or.inl ⟨by rfl, ?hyy1_4⟩) hTT ?resty1_4
      case hyy1_4 => intro wq hSw; skip; have hqS := fun i => hSw.1.1.cell i; have hqQ := fun i => hSw.1.2.cell i; have e4 := (hSw.2.2.cell (p := ⟨bF, oF + kf, none⟩) hbF).trans cf; obtain ⟨e0, e1, e2, e3⟩ := (HCELLS.out wq (Rd.of_own hSw.2.1)); go_simp <;> with_reducible rfl
      simp only [List.getElem_toArray, List.getElem_cons_zero, List.getElem_cons_succ, Act.put, List.setIfInBounds_toArray, List.set_cons_zero, List.set_cons_succ]
      refine wpG_take (i := 5) (v := ?vy1_5) rfl (by kernel_rfl) (by kernel_rfl) (by kernel_rfl) (by kernel_rfl) (fun _ _ _ h => h) (Or.inl ⟨by rfl, ?hyy1_5⟩) hTT ?resty1_5
      case hyy1_5 => intro wq hSw; skip; have hqS := fun i => hSw.1.1.cell i; have hqQ := fun i => hSw.1.2.cell i; have e4 := (hSw.2.2.cell (p := ⟨bF, oF + kf, none⟩) hbF).trans cf; obtain ⟨e0, e1, e2, e3⟩ := (HCELLS.out wq (Rd.of_own hSw.2.1)); go_simp <;> with_reducible rfl
      simp only [List.getElem_toArray, List.getElem_cons_zero, List.getElem_cons_succ, Act.put, List.setIfInBounds_toArray, List.set_cons_zero, List.set_cons_succ]
      refine wpG_take (i := 6) (v := ?vy1_6) rfl (by kernel_rfl) (by kernel_rfl) (by kernel_rfl) (by kernel_rfl) (fun _ _ _ h => h) (Or.inl ⟨by rfl, ?hyy1_6⟩) hTT ?resty1_6
      case hyy1_6 => intro wq hSw; skip; have hqS := fun i => hSw.1.1.cell i; have hqQ := fun i => hSw.1.2.cell i; have e4 := (hSw.2.2.cell (p := ⟨bF, oF + kf, none⟩) hbF).trans cf; obtain ⟨e0, e1, e2, e3⟩ := (HCELLS.out wq (Rd.of_own hSw.2.1)); go_simp <;> with_reducible rfl
      simp only [List.getElem_toArray, List.getElem_cons_zero, List.getElem_cons_succ, Act.put, List.setIfInBounds_toArray, List.set_cons_zero, List.set_cons_succ]
      refine wpG_take (i := 7) (v := ?vy1_7) rfl (by kernel_rfl) (by kernel_rfl) (by kernel_rfl) (by kernel_rfl) (fun _ _ _ h => h) (Or.inl ⟨by rfl, ?hyy1_7⟩) hTT ?resty1_7
      case hyy1_7 => intro wq hSw; skip; have hqS := fun i => hSw.1.1.cell i; have hqQ := fun i => hSw.1.2.cell i; have e4 := (hSw.2.2.cell (p := ⟨bF, oF + kf, none⟩) hbF).trans cf; obtain ⟨e0, e1, e2, e3⟩ := (HCELLS.out wq (Rd.of_own hSw.2.1)); go_simp <;> with_reducible rfl
      simp only [List.getElem_toArray, List.getElem_cons_zero, List.getElem_cons_succ, Act.put, List.setIfInBounds_toArray, List.set_cons_zero, List.set_cons_succ]
      refine wpG_take (i := 8) (v := ?vy1_8) rfl (by kernel_rfl) (by kernel_rfl) (by kernel_rfl) (by kernel_rfl) (fun _ _ _ h => h) (Or.inl ⟨by rfl, ?hyy1_8⟩) hTT ?resty1_8
      case hyy1_8 => intro wq hSw; skip; have hqS := fun i => hSw.1.1.cell i; have hqQ := fun i => hSw.1.2.cell i; have e4 := (hSw.2.2.cell (p := ⟨bF, oF + kf, none⟩) hbF).trans cf; obtain ⟨e0, e1, e2, e3⟩ := (HCELLS.out wq (Rd.of_own hSw.2.1)); go_simp <;> with_reducible rfl
      simp only [List.getElem_toArray, List.getElem_cons_zero, List.getElem_cons_succ, Act.put, List.setIfInBounds_toArray, List.set_cons_zero, List.set_cons_succ]
      refine wpG_take (i := 9) (v := ?vy1_9) rfl (by kernel_rfl) (by kernel_rfl) (by kernel_rfl) (by kernel_rfl) (fun _ _ _ h => h) (Or.inl ⟨by rfl, ?hyy1_9⟩) hTT ?resty1_9
      case hyy1_9 => intro wq hSw; skip; have hqS := fun i => hSw.1.1.cell i; have hqQ := fun i => hSw.1.2.cell i; have e4 := (hSw.2.2.cell (p := ⟨bF, oF + kf, none⟩) hbF).trans cf; obtain ⟨e0, e1, e2, e3⟩ := (HCELLS.out wq (Rd.of_own hSw.2.1)); go_simp <;> with_reducible rfl
      simp only [List.getElem_toArray, List.getElem_cons_zero, List.getElem_cons_succ, Act.put, List.setIfInBounds_toArray, List.set_cons_zero, List.set_cons_succ]
      refine wpG_take (i := 10) (v := ?vy1_10) rfl (by kernel_rfl) (by kernel_rfl) (by kernel_rfl) (by kernel_rfl) (fun _ _ _ h => h) (Or.inl ⟨by rfl, ?hyy1_10⟩) hTT ?resty1_10
      case hyy1_10 => intro wq hSw; skip; have hqS := fun i => hSw.1.1.cell i; have hqQ := fun i => hSw.1.2.cell i; have e4 := (hSw.2.2.cell (p := ⟨bF, oF + kf, none⟩) hbF).trans cf; obtain ⟨e0, e1, e2, e3⟩ := (HCELLS.out wq (Rd.of_own hSw.2.1)); go_simp <;> with_reducible rfl
      simp only [List.getElem_toArray, List.getElem_cons_zero, List.getElem_cons_succ, Act.put, List.setIfInBounds_toArray, List.set_cons_zero, List.set_cons_succ]
      refine wpG_take (i := 11) (v := ?vy1_11) rfl (by kernel_rfl) (by kernel_rfl) (by kernel_rfl) (by kernel_rfl) (fun _ _ _ h => h) (Or.inl ⟨by rfl, ?hyy1_11⟩) hTT ?resty1_11
      case hyy1_11 => intro wq hSw; skip; have hqS := fun i => hSw.1.1.cell i; have hqQ := fun i => hSw.1.2.cell i; have e4 := (hSw.2.2.cell (p := ⟨bF, oF + kf, none⟩) hbF).trans cf; obtain ⟨e0, e1, e2, e3⟩ := (HCELLS.out wq (Rd.of_own hSw.2.1)); go_simp <;> with_reducible rfl
      simp only [List.getElem_toArray, List.getElem_cons_zero, List.getElem_cons_succ, Act.put, List.setIfInBounds_toArray, List.set_cons_zero, List.set_cons_succ]
      refine wpG_take (i := 12) (v := ?vy1_12) rfl (by kernel_rfl) (by kernel_rfl) (by kernel_rfl) (by kernel_rfl) (fun _ _ _ h => h) (Or.inl ⟨by rfl, ?hyy1_12⟩) hTT ?resty1_12
      case hyy1_12 => intro wq hSw; skip; have hqS := fun i => hSw.1.1.cell i; have hqQ := fun i => hSw.1.2.cell i; have e4 := (hSw.2.2.cell (p := ⟨bF, oF + kf, none⟩) hbF).trans cf; obtain ⟨e0, e1, e2, e3⟩ := (HCELLS.out wq (Rd.of_own hSw.2.1)); go_simp <;> with_reducible rfl
      simp only [List.getElem_toArray, List.getElem_cons_zero, List.getElem_cons_succ, Act.put, List.setIfInBounds_toArray, List.set_cons_zero, List.set_cons_succ]
      refine wpG_take (i := 13) (v := ?vy1_13) rfl (by kernel_rfl) (by kernel_rfl) (by kernel_rfl) (by kernel_rfl) (fun _ _ _ h => h) (Or.inl ⟨by rfl, ?hyy1_13⟩) hTT ?resty1_13
      case hyy1_13 => intro wq hSw; skip; have hqS := fun i => hSw.1.1.cell i; have hqQ := fun i => hSw.1.2.cell i; have e4 := (hSw.2.2.cell (p := ⟨bF, oF + kf, none⟩) hbF).trans cf; obtain ⟨e0, e1, e2, e3⟩ := (HCELLS.out wq (Rd.of_own hSw.2.1)); go_simp <;> with_reducible rfl
      simp only [List.getElem_toArray, List.getElem_cons_zero, List.getElem_cons_succ, Act.put, List.setIfInBounds_toArray, List.set_cons_zero, List.set_cons_succ]
      refine wpG_take (i := 14) (v := ?vy1_14) rfl (by kernel_rfl) (by kernel_rfl) (by kernel_rfl) (by kernel_rfl) (fun _ _ _ h => h) (Or.inl ⟨by rfl, ?hyy1_14⟩) hTT ?resty1_14
      case hyy1_14 => intro wq hSw; skip; have hqS := fun i => hSw.1.1.cell i; have hqQ := fun i => hSw.1.2.cell i; have e4 := (hSw.2.2.cell (p := ⟨bF, oF + kf, none⟩) hbF).trans cf; obtain ⟨e0, e1, e2, e3⟩ := (HCELLS.out wq (Rd.of_own hSw.2.1)); go_simp <;> with_reducible rfl
      simp only [List.getElem_toArray, List.getElem_cons_zero, List.getElem_cons_succ, Act.put, List.setIfInBounds_toArray, List.set_cons_zero, List.set_cons_succ]
      refine wpG_one (i := 15) rfl (by kernel_rfl) (fun K hK => ?_)
      go_simp
      refine (refShadow_any Wn Hn F L X Y tn tx y fA fn fcap rows _ HVW.out (rdB hfr hB)).mono ?_
      rintro e w1 ⟨vv, rfl, own, hb⟩
      obtain ⟨cA, cC, rfl⟩ := own_slice own
      replace own := own_mono own hB.size
      replace hS := hS.below hb hS.lt
      replace hQ := hQ.below hb hQ.lt
      replace hrow := ownsRow_below' hrow hb
      replace hown := ownsRow_below' hown hb
      replace hcl := hcl.below hb
      replace hB := hB.trans (hb.mono hB.size)
      clear hb
      clear hTT; have hTT := And.intro (And.intro hS hQ) (And.intro hrow hB)
      dsimp only
      refine hK _ _ (.inr hTT) ?_
      clear hK K
      try simp only [List.getElem_toArray, List.getElem_cons_zero, List.getElem_cons_succ, Act.put, List.setIfInBounds_toArray, List.set_cons_zero, List.set_cons_succ]
      refine wpG_one (i := 16) rfl (by kernel_rfl) (fun K hK => ?_)
      go_simp
      replace hS := hS.alloc (.cells #[.slice cA Hn cC] 24)
      replace hQ := hQ.alloc (.cells #[.slice cA Hn cC] 24)
      replace hrow := hrow.alloc (.cells #[.slice cA Hn cC] 24)
      replace hown := hown.alloc (.cells #[.slice cA Hn cC] 24)
      replace hcl := hcl.alloc (.cells #[.slice cA Hn cC] 24)
      replace own := own.alloc (.cells #[.slice cA Hn cC] 24)
      have hBo := hB
      replace hB := hB.alloc hB.size (.cells #[.slice cA Hn cC] 24)
      clear hTT; have hTT := And.intro (And.intro hS hQ) (And.intro hrow hB)
      refine hK _ _ (.inr hTT) ?_
      clear hK K
      try simp only [List.getElem_toArray, List.getElem_cons_zero, List.getElem_cons_succ, Act.put, List.setIfInBounds_toArray, List.set_cons_zero, List.set_cons_succ]
      refine wpG_one (i := 17) rfl (by kernel_rfl) (fun K hK => ?_)
      rw [if_pos (by rfl)]; refine wp_append_any _ _ _ 168 rfl w.heap.size 24 i24 (.slice none 0 0) 1 24 Tryz.underlying168 hi hz0 hz1' hz2' rfl (by decide) _ k vs rfl hown (w1.heap.size + 1) (some ⟨w1.heap.size, 0, none⟩) 1 1 [.slice cA Hn cC] rfl (Rd.blkN (Blk.new _ _ _) rfl (Nat.lt_succ_self _)).reads (by simp [Value.oneCell']) (by unfold maxLen; omega) (by omega) (by have := hBo.size; simp only [World.size_alloc]; omega) (fun v' w' hown' hgrow hob => ?_)
      replace hcl := hcl.kept hown (by decide) hgrow
      replace own := own.kept hgrow (own_ne own hown (by decide))
      replace hrow := hrow.kept hgrow (own_ne hrow hown (by decide))
      replace hS := hS.kept_own hown (by decide) hgrow
      replace hQ := hQ.kept_own hown (by decide) hgrow
      replace hB := hB.grown hgrow hB.size (fun g hg => (hown.lt g hg).1)
      clear hTT; have hTT := And.intro (And.intro hS hQ) (And.intro hrow hB)
      refine hK _ _ (.inr hTT) ?_
      clear hK K
      try simp only [List.getElem_toArray, List.getElem_cons_zero, List.getElem_cons_succ, Act.put, List.setIfInBounds_toArray, List.set_cons_zero, List.set_cons_succ]
      refine wpG_one (i := 18) rfl (by kernel_rfl) (fun K hK => ?_)
      go_simp
      refine hK _ _ (.inl rfl) ?_
      clear hK K
      try simp only [List.getElem_toArray, List.getElem_cons_zero, List.getElem_cons_succ, Act.put, List.setIfInBounds_toArray, List.set_cons_zero, List.set_cons_succ]
      refine wpG_done (by kernel_rfl) ?_ _
      clear hTT
      have qhS := fun i => Blk.cell hS i
      have qhQ := fun i => Blk.cell hQ i
      clear qhS qhQ
      go_wp2_with (fail)
      go_roundg (all.length - (k + 1))
      case measure => rw [HG.out]; omega
      case rel => exact ⟨k + 1, vs ++ [.slice cA Hn cC], _, rfl, by omega, rfl, by go_num, by rw [HMAP.out]; exact hcl.snoc (by rw [HCLE.out, rowsOf_len]; exact own), hown', hrow, hS, hQ, hB⟩
    · have hke : k = all.length := by omega
      have htk : all.take k = all := List.take_of_length_le (by omega)
      rw [htk] at hcl
      subst hke
      go_wp2_with (fail)
      go_ret2
      exact ⟨_, _, vs, rfl, hrow, hown, hcl, hB⟩
end Go.Proofs.YtifddfchpknkbaaGreatDoor
