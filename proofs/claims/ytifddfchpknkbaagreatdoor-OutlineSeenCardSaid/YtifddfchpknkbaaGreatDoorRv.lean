import Derived.Test.YtifddfchpknkbaaGreatDoorRw
import Derived.Test.YtifddfchpknkbaaGreatDoorZ
import Derived.Test.YtifddfchpknkbaaGreatDoorR2
set_option linter.unusedVariables false
set_option linter.unusedSimpArgs false
namespace Go.Proofs.YtifddfchpknkbaaGreatDoor
open Go.RowKit

/-- The readings that agree with a sight, in order. -/
def rdT (W H F L X Y nl nh xl xh y : Int) (fs : List Fig) (rs : List ByteArray) : List Tr := (allR fs.length nl nh xl xh).filter fun t => agreeB (shS W H F L X Y t.2.1 t.2.2 y (figAt fs t.1)) (flatS rs)
theorem agL_rdT (W H F L X Y nl nh xl xh y : Int) (fs : List Fig) (rs : List ByteArray) : agL W H F L X Y nl nh xl xh y fs rs = (rdT W H F L X Y nl nh xl xh y fs rs).map (shOf W H F L X Y y fs) := by
  unfold agL shL rdT
  rw [List.filter_map]
  rfl
set_option maxRecDepth 100000 in
set_option maxHeartbeats 25600000 in
theorem refReads_any (Wn Hn : Nat) (F L X Y nl nh xl xh y : Int) (A : Option Addr) (n cap : Nat) (fs : List Fig) (SA : Option Addr) (sn scap : Nat) (rs : List ByteArray) (w : World) (hcap : n ≤ cap) (hcm : cap ≤ maxLen) (hf : ∀ f ∈ fs, f.ok w w.heap.size) (hr : Rd w w.heap.size 1 A n (fs.map Fig.val)) (hsr : Rd w w.heap.size 1 SA sn (rs.map Value.string)) (hok : askB Wn Hn F L X Y nl nh xl xh y fs = true) (hsg : sightB Wn Hn rs = true) :
    Calls Tryz.prog 57 #[.agg #[.int .i64 Wn, .int .i64 Hn, .int .i64 F, .int .i64 L, .int .i64 X, .int .i64 Y], .slice A n cap, .agg #[.int .i64 nl, .int .i64 nh, .int .i64 xl, .int .i64 xh, .int .i64 y], .slice SA sn scap] w fun e w' => ∃ v, e = .returned v ∧ w'.ownsRow w.heap.size 86 4 v (rdT Wn Hn F L X Y nl nh xl xh y fs rs).length ((rdT Wn Hn F L X Y nl nh xl xh y fs rs).flatMap (rdC y)) ∧ Below w.heap.size w w' := by
  obtain ⟨i86, hi, hz0, hz1', hz2'⟩ := info_parts info86
  have hn : n ≤ maxLen := Nat.le_trans hcap hcm
  have hlen := hr.len
  have hlenS := hsr.len
  have hsm := allR_small hok
  have hask := hok
  simp only [askB, Bool.and_eq_true] at hask
  obtain ⟨⟨r1, r2⟩, ⟨r3, r4⟩, ⟨r5, r6⟩, ⟨r7, r8⟩, ⟨r9, r10⟩, _⟩ := reachB_nums hask.2.2
  obtain ⟨⟨k1, k2⟩, _⟩ := compB_nums hask.2.1
  have ⟨⟨s1, s2⟩, ⟨s3, s4⟩, ⟨s5, s6⟩, _⟩ := stageB_nums hask.1
  obtain ⟨hl, hw⟩ := sight_rows hsg
  have HV := Lib.hid (fun (t : Tr) (ht : t ∈ allR fs.length nl nh xl xh) => view_of hok ht)
  have hrt : rdT Wn Hn F L X Y nl nh xl xh y fs rs = (allR fs.length nl nh xl xh).filter (fun t => agreeB (shS Wn Hn F L X Y t.2.1 t.2.2 y (figAt fs t.1)) (flatS rs)) := rfl
  obtain ⟨q, hq⟩ : ∃ q : Tr → Bool, q = (fun t => agreeB (shS Wn Hn F L X Y t.2.1 t.2.2 y (figAt fs t.1)) (flatS rs)) := ⟨_, rfl⟩
  rw [← hq] at hrt
  rw [hrt]
  have hread := fun wx => refReadings_any n nl nh xl xh y wx (by omega) (by omega) (by omega) (by omega) (by omega) (by omega) (by omega) (by rw [← hlen]; omega)
  rw [← hlen] at hread
  obtain ⟨all, hall⟩ : ∃ all, all = allR fs.length nl nh xl xh := ⟨_, rfl⟩
  rw [← hall] at HV hsm ⊢
  simp only [← hall] at hread
  have HREAD := Lib.hid hread; have HLEN := Lib.hid hlen; have HQ := Lib.hid hq; have HROW := Lib.hid hw
  have hsnH : Hn ≤ sn := by omega
  have hHn : Hn ≤ 16 := by omega
  have hWn : Wn ≤ 16 := by omega
  have HLR := Lib.hid hl
  clear hread hall hok hask hlen hrt hq hw hl hlenS
  rw [HLEN.out] at HREAD
  go_enter Tryz.func57, Tryz.ntmps57
  go_upto_region 1 with (fail)
  have hS := blk2_0 w (.cells #[.int .i64 nl, .int .i64 nh, .int .i64 xl, .int .i64 xh, .int .i64 y] 71) 23 #[.int .i64 Wn, .int .i64 Hn, .int .i64 F, .int .i64 L, .int .i64 X, .int .i64 Y]
  have hQ := blk2_1 w (.cells #[.int .i64 Wn, .int .i64 Hn, .int .i64 F, .int .i64 L, .int .i64 X, .int .i64 Y] 23) 71 #[.int .i64 nl, .int .i64 nh, .int .i64 xl, .int .i64 xh, .int .i64 y]
  have hB := pro_2 w (.cells #[.int .i64 Wn, .int .i64 Hn, .int .i64 F, .int .i64 L, .int .i64 X, .int .i64 Y] 23) (.cells #[.int .i64 nl, .int .i64 nh, .int .i64 xl, .int .i64 xh, .int .i64 y] 71)
  generalize (w.alloc (.cells #[.int .i64 Wn, .int .i64 Hn, .int .i64 F, .int .i64 L, .int .i64 X, .int .i64 Y] 23)).alloc (.cells #[.int .i64 nl, .int .i64 nh, .int .i64 xl, .int .i64 xh, .int .i64 y] 71) = W0 at *
  have qhS := fun i => Blk.cell hS i
  have qhQ := fun i => Blk.cell hQ i
  go_upto_region 2 with (go_at_call 121; refine (HREAD.out _).mono ?_; rintro e w1 ⟨vr, rfl, hrow, hb⟩; obtain ⟨rA, rC, rfl⟩ := own_slice hrow; have hrd := Rd.of_own hrow; clear hrow; replace hS := hS.below hb hS.lt; replace hQ := hQ.below hb hQ.lt; replace hB := hB.trans (hb.mono hB.size); clear qhS qhQ hb)
  clear HREAD
  have hBs := hB.size
  go_wp2_with (fail)
  go_loopg [10, 11] all.length (fun g v i wr => ∃ (k : Nat) (v0 : Value), g = all.length - k ∧ k ≤ all.length ∧ v = v0 ∧ i = .int .i64 k ∧ wr.ownsRow w1.heap.size 86 4 v0 ((all.take k).filter q).length (((all.take k).filter q).flatMap (rdC y)) ∧ Blk wr w.heap.size 23 #[.int .i64 Wn, .int .i64 Hn, .int .i64 F, .int .i64 L, .int .i64 X, .int .i64 Y] ∧ Blk wr (w.heap.size + 1) 71 #[.int .i64 nl, .int .i64 nh, .int .i64 xl, .int .i64 xh, .int .i64 y] ∧ Below w1.heap.size w1 wr)
  case atStart => exact ⟨0, _, rfl, Nat.zero_le _, rfl, rfl, World.ownsRow_nil _ _ _ _, hS, hQ, Below.refl _ _⟩
  case round =>
    clear hS hQ
    obtain ⟨k, v0, hg, hk, rfl, rfl, hown, hS, hQ, hB1⟩ := hrel
    have HG := Lib.hid hg; clear hg
    obtain ⟨va, vc, rfl⟩ := own_slice hown
    have hml : ((all.take k).filter q).length ≤ 1000 := by have h1 := List.length_filter_le q (all.take k); have h2 := List.length_take_le k all; omega
    have qhS := fun i => Blk.cell hS i; have qhQ := fun i => Blk.cell hQ i
    have hBw := hB
    replace hB := hB.trans (hB1.mono hB.size)
    rename World => W1
    by_cases hlt : k < all.length
    · have hlti : (k : Int) < all.length := by omega
      obtain ⟨bR, oR, hz, rfl, hbR, c0, c1, c2, c3⟩ := (rdB hrd hB1).at4 hlt
      obtain ⟨kf, hkf, e0, e1, hvw⟩ := HV.out _ (List.getElem_mem hz)
      have hcells := fun (wx : World) (hb : Below w1.heap.size w1 wx) => (rdB hrd hb).cells4 hz
      have hft := filter_take q all k hz
      have hqk : q all[k] = agreeB (shS Wn Hn F L X Y all[k].2.1 all[k].2.2 y (figAt fs all[k].1)) (flatS rs) := by rw [HQ.out]
      have hfo := hf _ (List.getElem_mem hkf)
      have hkn : kf < n := by have := HLEN.out; omega
      have hrW := rdB hr hB
      obtain ⟨bF, oF, rfl, hbF, hcf⟩ := hrW.2 (by omega)
      have cf : W1.cell? ⟨bF, oF + kf, none⟩ = some (Fig.val fs[kf]) := hcf kf (Fig.val fs[kf]) (by simp [hkf])
      have hkni : (kf : Int) < n := by omega
      clear hcf hrW
      rw [e1] at hqk
      generalize hak : all[k] = tk at *
      obtain ⟨tf, tn, tx⟩ := tk
      dsimp only at c0 c1 c2 c3 hvw hqk hcells e0
      obtain rfl : tf = (kf : Int) := e0
      generalize fs[kf] = fg at *
      obtain ⟨fA, fn, fcap, rows⟩ := fg
      obtain ⟨hf1, hf2, hf3, hfr⟩ := hfo
      dsimp only at hf1 hf2 hf3 hfr hvw hqk
      simp only [Fig.val] at cf
      have hsz := shS_size Wn Hn F L X Y tn tx y rows
      rw [Int.toNat_natCast, Int.toNat_natCast] at hsz
      have hag : agreeR (rowsOf (shS Wn Hn F L X Y tn tx y rows) Wn Hn) rs = q ((kf : Int), tn, tx) := by rw [hqk]; exact agree_rows hsz HLR.out HROW.out
      have hszz : ∀ j (h : j < (rowsOf (shS Wn Hn F L X Y tn tx y rows) Wn Hn).length) (h2 : j < rs.length), (rowsOf (shS Wn Hn F L X Y tn tx y rows) Wn Hn)[j].size ≤ rs[j].size ∧ rs[j].size ≤ 100000 := fun j h h2 => by rw [rowsOf_sz hsz h, HROW.out _ (List.getElem_mem h2)]; omega
      have HAG := Lib.hid hag; have HSZ := Lib.hid hszz; have HVW := Lib.hid hvw; have HFT := Lib.hid hft; have HCELL := Lib.hid hcells
      clear hag hszz hvw hft hqk hcells e1 hsz hak
      generalize q ((kf : Int), tn, tx) = bq at *
      go_upto_region 6 with (fail)
      rename World => WR
      refine wp_region_G (fun w' => Below WR.drew.heap.size WR.drew w') 17 (by kernel_rfl) ?_
      replace hS := hS.drew
      replace hQ := hQ.drew
      replace hown := hown.drew
      replace hbR : bR < WR.drew.heap.size := hbR
      replace hbF : bF < WR.drew.heap.size := hbF
      replace c0 : WR.drew.cell? _ = _ := c0
      replace c1 : WR.drew.cell? _ = _ := c1
      replace c2 : WR.drew.cell? _ = _ := c2
      replace c3 : WR.drew.cell? _ = _ := c3
      replace cf : WR.drew.cell? _ = _ := cf
      replace hB1 := hB1.drew
      replace hB := hB.drew
      (try clear qhS qhQ)
      generalize WR.drew = WD at *
      have hTT : Below WD.heap.size WD WD := Below.refl _ _
      refine wpG_take2 (i := 0) (v := ?vy1_0) rfl (by kernel_rfl) (by kernel_rfl) (by kernel_rfl) rfl (fun _ _ _ h => h) (Or.inl ⟨by rfl, ?hyy1_0⟩) hTT ?resty1_0
      case hyy1_0 => intro wq hSw; have qhS := fun i => (Blk.below hS hSw hS.lt).cell i; have qhQ := fun i => (Blk.below hQ hSw hQ.lt).cell i; have e0 := (hSw.cell (p := ⟨bR, oR + k * 4, none⟩) hbR).trans c0; have e1 := (hSw.cell (p := ⟨bR, oR + k * 4 + 1, none⟩) hbR).trans c1; have e2 := (hSw.cell (p := ⟨bR, oR + k * 4 + 2, none⟩) hbR).trans c2; have e3 := (hSw.cell (p := ⟨bR, oR + k * 4 + 3, none⟩) hbR).trans c3; have e4 := (hSw.cell (p := ⟨bF, oF + kf, none⟩) hbF).trans cf; go_simp <;> with_reducible rfl
      simp only [List.getElem_toArray, List.getElem_cons_zero, List.getElem_cons_succ, Act.put, List.setIfInBounds_toArray, List.set_cons_zero, List.set_cons_succ]
      refine wpG_take2 (i := 1) (v := ?vy1_1) rfl (by kernel_rfl) (by kernel_rfl) (by kernel_rfl) rfl (fun _ _ _ h => h) (Or.inl ⟨by rfl, ?hyy1_1⟩) hTT ?resty1_1
      case hyy1_1 => intro wq hSw; have qhS := fun i => (Blk.below hS hSw hS.lt).cell i; have qhQ := fun i => (Blk.below hQ hSw hQ.lt).cell i; have e0 := (hSw.cell (p := ⟨bR, oR + k * 4, none⟩) hbR).trans c0; have e1 := (hSw.cell (p := ⟨bR, oR + k * 4 + 1, none⟩) hbR).trans c1; have e2 := (hSw.cell (p := ⟨bR, oR + k * 4 + 2, none⟩) hbR).trans c2; have e3 := (hSw.cell (p := ⟨bR, oR + k * 4 + 3, none⟩) hbR).trans c3; have e4 := (hSw.cell (p := ⟨bF, oF + kf, none⟩) hbF).trans cf; go_simp <;> with_reducible rfl
      simp only [List.getElem_toArray, List.getElem_cons_zero, List.getElem_cons_succ, Act.put, List.setIfInBounds_toArray, List.set_cons_zero, List.set_cons_succ]
      refine wpG_take2 (i := 2) (v := ?vy1_2) rfl (by kernel_rfl) (by kernel_rfl) (by kernel_rfl) rfl (fun _ _ _ h => h) (Or.inl ⟨by rfl, ?hyy1_2⟩) hTT ?resty1_2
      case hyy1_2 => intro wq hSw; have qhS := fun i => (Blk.below hS hSw hS.lt).cell i; have qhQ := fun i => (Blk.below hQ hSw hQ.lt).cell i; have e0 := (hSw.cell (p := ⟨bR, oR + k * 4, none⟩) hbR).trans c0; have e1 := (hSw.cell (p := ⟨bR, oR + k * 4 + 1, none⟩) hbR).trans c1; have e2 := (hSw.cell (p := ⟨bR, oR + k * 4 + 2, none⟩) hbR).trans c2; have e3 := (hSw.cell (p := ⟨bR, oR + k * 4 + 3, none⟩) hbR).trans c3; have e4 := (hSw.cell (p := ⟨bF, oF + kf, none⟩) hbF).trans cf; go_simp <;> with_reducible rfl
      simp only [List.getElem_toArray, List.getElem_cons_zero, List.getElem_cons_succ, Act.put, List.setIfInBounds_toArray, List.set_cons_zero, List.set_cons_succ]
      refine wpG_take2 (i := 3) (v := ?vy1_3) rfl (by kernel_rfl) (by kernel_rfl) (by kernel_rfl) rfl (fun _ _ _ h => h) (Or.inl ⟨by rfl, ?hyy1_3⟩) hTT ?resty1_3
      case hyy1_3 => intro wq hSw; have qhS := fun i => (Blk.below hS hSw hS.lt).cell i; have qhQ := fun i => (Blk.below hQ hSw hQ.lt).cell i; have e0 := (hSw.cell (p := ⟨bR, oR + k * 4, none⟩) hbR).trans c0; have e1 := (hSw.cell (p := ⟨bR, oR + k * 4 + 1, none⟩) hbR).trans c1; have e2 := (hSw.cell (p := ⟨bR, oR + k * 4 + 2, none⟩) hbR).trans c2; have e3 := (hSw.cell (p := ⟨bR, oR + k * 4 + 3, none⟩) hbR).trans c3; have e4 := (hSw.cell (p := ⟨bF, oF + kf, none⟩) hbF).trans cf; go_simp <;> with_reducible rfl
      simp only [List.getElem_toArray, List.getElem_cons_zero, List.getElem_cons_succ, Act.put, List.setIfInBounds_toArray, List.set_cons_zero, List.set_cons_succ]
      refine wpG_take2 (i := 4) (v := ?vy1_4) rfl (by kernel_rfl) (by kernel_rfl) (by kernel_rfl) rfl (fun _ _ _ h => h) (Or.inl ⟨by rfl, ?hyy1_4⟩) hTT ?resty1_4
      case hyy1_4 => intro wq hSw; have qhS := fun i => (Blk.below hS hSw hS.lt).cell i; have qhQ := fun i => (Blk.below hQ hSw hQ.lt).cell i; have e0 := (hSw.cell (p := ⟨bR, oR + k * 4, none⟩) hbR).trans c0; have e1 := (hSw.cell (p := ⟨bR, oR + k * 4 + 1, none⟩) hbR).trans c1; have e2 := (hSw.cell (p := ⟨bR, oR + k * 4 + 2, none⟩) hbR).trans c2; have e3 := (hSw.cell (p := ⟨bR, oR + k * 4 + 3, none⟩) hbR).trans c3; have e4 := (hSw.cell (p := ⟨bF, oF + kf, none⟩) hbF).trans cf; go_simp <;> with_reducible rfl
      simp only [List.getElem_toArray, List.getElem_cons_zero, List.getElem_cons_succ, Act.put, List.setIfInBounds_toArray, List.set_cons_zero, List.set_cons_succ]
      refine wpG_take2 (i := 5) (v := ?vy1_5) rfl (by kernel_rfl) (by kernel_rfl) (by kernel_rfl) rfl (fun _ _ _ h => h) (Or.inl ⟨by rfl, ?hyy1_5⟩) hTT ?resty1_5
      case hyy1_5 => intro wq hSw; have qhS := fun i => (Blk.below hS hSw hS.lt).cell i; have qhQ := fun i => (Blk.below hQ hSw hQ.lt).cell i; have e0 := (hSw.cell (p := ⟨bR, oR + k * 4, none⟩) hbR).trans c0; have e1 := (hSw.cell (p := ⟨bR, oR + k * 4 + 1, none⟩) hbR).trans c1; have e2 := (hSw.cell (p := ⟨bR, oR + k * 4 + 2, none⟩) hbR).trans c2; have e3 := (hSw.cell (p := ⟨bR, oR + k * 4 + 3, none⟩) hbR).trans c3; have e4 := (hSw.cell (p := ⟨bF, oF + kf, none⟩) hbF).trans cf; go_simp <;> with_reducible rfl
      simp only [List.getElem_toArray, List.getElem_cons_zero, List.getElem_cons_succ, Act.put, List.setIfInBounds_toArray, List.set_cons_zero, List.set_cons_succ]
      refine wpG_take2 (i := 6) (v := ?vy1_6) rfl (by kernel_rfl) (by kernel_rfl) (by kernel_rfl) rfl (fun _ _ _ h => h) (Or.inl ⟨by rfl, ?hyy1_6⟩) hTT ?resty1_6
      case hyy1_6 => intro wq hSw; have qhS := fun i => (Blk.below hS hSw hS.lt).cell i; have qhQ := fun i => (Blk.below hQ hSw hQ.lt).cell i; have e0 := (hSw.cell (p := ⟨bR, oR + k * 4, none⟩) hbR).trans c0; have e1 := (hSw.cell (p := ⟨bR, oR + k * 4 + 1, none⟩) hbR).trans c1; have e2 := (hSw.cell (p := ⟨bR, oR + k * 4 + 2, none⟩) hbR).trans c2; have e3 := (hSw.cell (p := ⟨bR, oR + k * 4 + 3, none⟩) hbR).trans c3; have e4 := (hSw.cell (p := ⟨bF, oF + kf, none⟩) hbF).trans cf; go_simp <;> with_reducible rfl
      simp only [List.getElem_toArray, List.getElem_cons_zero, List.getElem_cons_succ, Act.put, List.setIfInBounds_toArray, List.set_cons_zero, List.set_cons_succ]
      refine wpG_take2 (i := 7) (v := ?vy1_7) rfl (by kernel_rfl) (by kernel_rfl) (by kernel_rfl) rfl (fun _ _ _ h => h) (Or.inl ⟨by rfl, ?hyy1_7⟩) hTT ?resty1_7
      case hyy1_7 => intro wq hSw; have qhS := fun i => (Blk.below hS hSw hS.lt).cell i; have qhQ := fun i => (Blk.below hQ hSw hQ.lt).cell i; have e0 := (hSw.cell (p := ⟨bR, oR + k * 4, none⟩) hbR).trans c0; have e1 := (hSw.cell (p := ⟨bR, oR + k * 4 + 1, none⟩) hbR).trans c1; have e2 := (hSw.cell (p := ⟨bR, oR + k * 4 + 2, none⟩) hbR).trans c2; have e3 := (hSw.cell (p := ⟨bR, oR + k * 4 + 3, none⟩) hbR).trans c3; have e4 := (hSw.cell (p := ⟨bF, oF + kf, none⟩) hbF).trans cf; go_simp <;> with_reducible rfl
      simp only [List.getElem_toArray, List.getElem_cons_zero, List.getElem_cons_succ, Act.put, List.setIfInBounds_toArray, List.set_cons_zero, List.set_cons_succ]
      refine wpG_take2 (i := 8) (v := ?vy1_8) rfl (by kernel_rfl) (by kernel_rfl) (by kernel_rfl) rfl (fun _ _ _ h => h) (Or.inl ⟨by rfl, ?hyy1_8⟩) hTT ?resty1_8
      case hyy1_8 => intro wq hSw; have qhS := fun i => (Blk.below hS hSw hS.lt).cell i; have qhQ := fun i => (Blk.below hQ hSw hQ.lt).cell i; have e0 := (hSw.cell (p := ⟨bR, oR + k * 4, none⟩) hbR).trans c0; have e1 := (hSw.cell (p := ⟨bR, oR + k * 4 + 1, none⟩) hbR).trans c1; have e2 := (hSw.cell (p := ⟨bR, oR + k * 4 + 2, none⟩) hbR).trans c2; have e3 := (hSw.cell (p := ⟨bR, oR + k * 4 + 3, none⟩) hbR).trans c3; have e4 := (hSw.cell (p := ⟨bF, oF + kf, none⟩) hbF).trans cf; go_simp <;> with_reducible rfl
      simp only [List.getElem_toArray, List.getElem_cons_zero, List.getElem_cons_succ, Act.put, List.setIfInBounds_toArray, List.set_cons_zero, List.set_cons_succ]
      refine wpG_take2 (i := 9) (v := ?vy1_9) rfl (by kernel_rfl) (by kernel_rfl) (by kernel_rfl) rfl (fun _ _ _ h => h) (Or.inl ⟨by rfl, ?hyy1_9⟩) hTT ?resty1_9
      case hyy1_9 => intro wq hSw; have qhS := fun i => (Blk.below hS hSw hS.lt).cell i; have qhQ := fun i => (Blk.below hQ hSw hQ.lt).cell i; have e0 := (hSw.cell (p := ⟨bR, oR + k * 4, none⟩) hbR).trans c0; have e1 := (hSw.cell (p := ⟨bR, oR + k * 4 + 1, none⟩) hbR).trans c1; have e2 := (hSw.cell (p := ⟨bR, oR + k * 4 + 2, none⟩) hbR).trans c2; have e3 := (hSw.cell (p := ⟨bR, oR + k * 4 + 3, none⟩) hbR).trans c3; have e4 := (hSw.cell (p := ⟨bF, oF + kf, none⟩) hbF).trans cf; go_simp <;> with_reducible rfl
      simp only [List.getElem_toArray, List.getElem_cons_zero, List.getElem_cons_succ, Act.put, List.setIfInBounds_toArray, List.set_cons_zero, List.set_cons_succ]
      refine wpG_take2 (i := 10) (v := ?vy1_10) rfl (by kernel_rfl) (by kernel_rfl) (by kernel_rfl) rfl (fun _ _ _ h => h) (Or.inl ⟨by rfl, ?hyy1_10⟩) hTT ?resty1_10
      case hyy1_10 => intro wq hSw; have qhS := fun i => (Blk.below hS hSw hS.lt).cell i; have qhQ := fun i => (Blk.below hQ hSw hQ.lt).cell i; have e0 := (hSw.cell (p := ⟨bR, oR + k * 4, none⟩) hbR).trans c0; have e1 := (hSw.cell (p := ⟨bR, oR + k * 4 + 1, none⟩) hbR).trans c1; have e2 := (hSw.cell (p := ⟨bR, oR + k * 4 + 2, none⟩) hbR).trans c2; have e3 := (hSw.cell (p := ⟨bR, oR + k * 4 + 3, none⟩) hbR).trans c3; have e4 := (hSw.cell (p := ⟨bF, oF + kf, none⟩) hbF).trans cf; go_simp <;> with_reducible rfl
      simp only [List.getElem_toArray, List.getElem_cons_zero, List.getElem_cons_succ, Act.put, List.setIfInBounds_toArray, List.set_cons_zero, List.set_cons_succ]
      refine wpG_take2 (i := 11) (v := ?vy1_11) rfl (by kernel_rfl) (by kernel_rfl) (by kernel_rfl) rfl (fun _ _ _ h => h) (Or.inl ⟨by rfl, ?hyy1_11⟩) hTT ?resty1_11
      case hyy1_11 => intro wq hSw; have qhS := fun i => (Blk.below hS hSw hS.lt).cell i; have qhQ := fun i => (Blk.below hQ hSw hQ.lt).cell i; have e0 := (hSw.cell (p := ⟨bR, oR + k * 4, none⟩) hbR).trans c0; have e1 := (hSw.cell (p := ⟨bR, oR + k * 4 + 1, none⟩) hbR).trans c1; have e2 := (hSw.cell (p := ⟨bR, oR + k * 4 + 2, none⟩) hbR).trans c2; have e3 := (hSw.cell (p := ⟨bR, oR + k * 4 + 3, none⟩) hbR).trans c3; have e4 := (hSw.cell (p := ⟨bF, oF + kf, none⟩) hbF).trans cf; go_simp <;> with_reducible rfl
      simp only [List.getElem_toArray, List.getElem_cons_zero, List.getElem_cons_succ, Act.put, List.setIfInBounds_toArray, List.set_cons_zero, List.set_cons_succ]
      refine wpG_take2 (i := 12) (v := ?vy1_12) rfl (by kernel_rfl) (by kernel_rfl) (by kernel_rfl) rfl (fun _ _ _ h => h) (Or.inl ⟨by rfl, ?hyy1_12⟩) hTT ?resty1_12
      case hyy1_12 => intro wq hSw; have qhS := fun i => (Blk.below hS hSw hS.lt).cell i; have qhQ := fun i => (Blk.below hQ hSw hQ.lt).cell i; have e0 := (hSw.cell (p := ⟨bR, oR + k * 4, none⟩) hbR).trans c0; have e1 := (hSw.cell (p := ⟨bR, oR + k * 4 + 1, none⟩) hbR).trans c1; have e2 := (hSw.cell (p := ⟨bR, oR + k * 4 + 2, none⟩) hbR).trans c2; have e3 := (hSw.cell (p := ⟨bR, oR + k * 4 + 3, none⟩) hbR).trans c3; have e4 := (hSw.cell (p := ⟨bF, oF + kf, none⟩) hbF).trans cf; go_simp <;> with_reducible rfl
      simp only [List.getElem_toArray, List.getElem_cons_zero, List.getElem_cons_succ, Act.put, List.setIfInBounds_toArray, List.set_cons_zero, List.set_cons_succ]
      refine wpG_take2 (i := 13) (v := ?vy1_13) rfl (by kernel_rfl) (by kernel_rfl) (by kernel_rfl) rfl (fun _ _ _ h => h) (Or.inl ⟨by rfl, ?hyy1_13⟩) hTT ?resty1_13
      case hyy1_13 => intro wq hSw; have qhS := fun i => (Blk.below hS hSw hS.lt).cell i; have qhQ := fun i => (Blk.below hQ hSw hQ.lt).cell i; have e0 := (hSw.cell (p := ⟨bR, oR + k * 4, none⟩) hbR).trans c0; have e1 := (hSw.cell (p := ⟨bR, oR + k * 4 + 1, none⟩) hbR).trans c1; have e2 := (hSw.cell (p := ⟨bR, oR + k * 4 + 2, none⟩) hbR).trans c2; have e3 := (hSw.cell (p := ⟨bR, oR + k * 4 + 3, none⟩) hbR).trans c3; have e4 := (hSw.cell (p := ⟨bF, oF + kf, none⟩) hbF).trans cf; go_simp <;> with_reducible rfl
      simp only [List.getElem_toArray, List.getElem_cons_zero, List.getElem_cons_succ, Act.put, List.setIfInBounds_toArray, List.set_cons_zero, List.set_cons_succ]
      refine wpG_take2 (i := 15) (v := ?vy1_15) rfl (by kernel_rfl) (by kernel_rfl) (by kernel_rfl) rfl (fun _ _ _ h => h) (Or.inl ⟨by rfl, ?hyy1_15⟩) hTT ?resty1_15
      case hyy1_15 => intro wq hSw; have qhS := fun i => (Blk.below hS hSw hS.lt).cell i; have qhQ := fun i => (Blk.below hQ hSw hQ.lt).cell i; have e0 := (hSw.cell (p := ⟨bR, oR + k * 4, none⟩) hbR).trans c0; have e1 := (hSw.cell (p := ⟨bR, oR + k * 4 + 1, none⟩) hbR).trans c1; have e2 := (hSw.cell (p := ⟨bR, oR + k * 4 + 2, none⟩) hbR).trans c2; have e3 := (hSw.cell (p := ⟨bR, oR + k * 4 + 3, none⟩) hbR).trans c3; have e4 := (hSw.cell (p := ⟨bF, oF + kf, none⟩) hbF).trans cf; go_simp <;> with_reducible rfl
      simp only [List.getElem_toArray, List.getElem_cons_zero, List.getElem_cons_succ, Act.put, List.setIfInBounds_toArray, List.set_cons_zero, List.set_cons_succ]
      refine wpG_one (i := 14) rfl (by kernel_rfl) (fun K hK => ?_)
      go_simp
      refine (refShadow_any Wn Hn F L X Y tn tx y fA fn fcap rows _ HVW.out (rdB hfr hB)).mono ?_
      rintro e w2 ⟨vv, rfl, own, hb⟩
      obtain ⟨cA, cC, rfl⟩ := own_slice own
      have hcR := Rd.of_own own
      replace hTT := hTT.trans (hb.mono hTT.size)
      replace hS := hS.below hb hS.lt
      replace hQ := hQ.below hb hQ.lt
      replace hown := ownsRow_below' hown hb
      replace hB1 := hB1.trans (hb.mono hB1.size)
      replace hB := hB.trans (hb.mono hB.size)
      clear hb own c0 c1 c2 c3 cf
      dsimp only
      refine hK _ _ (.inr hTT) ?_
      clear hK K
      try simp only [List.getElem_toArray, List.getElem_cons_zero, List.getElem_cons_succ, Act.put, List.setIfInBounds_toArray, List.set_cons_zero, List.set_cons_succ]
      refine wpG_one (i := 16) rfl (by kernel_rfl) (fun K hK => ?_)
      go_simp
      refine (refAgree_any cA SA Hn cC sn scap (rowsOf (shS Wn Hn F L X Y tn tx y rows) Wn Hn) rs _ (by omega) (by omega) HSZ.out hcR (rdB hsr hB)).mono ?_
      rintro e w3 ⟨rfl, hb⟩
      rw [HAG.out]
      replace hTT := hTT.trans (hb.mono hTT.size)
      replace hS := hS.below hb hS.lt
      replace hQ := hQ.below hb hQ.lt
      replace hown := ownsRow_below' hown hb
      replace hB1 := hB1.trans (hb.mono hB1.size)
      replace hB := hB.trans (hb.mono hB.size)
      clear hb hcR
      dsimp only
      refine hK _ _ (.inr hTT) ?_
      clear hK K
      try simp only [List.getElem_toArray, List.getElem_cons_zero, List.getElem_cons_succ, Act.put, List.setIfInBounds_toArray, List.set_cons_zero, List.set_cons_succ]
      refine wpG_done (by kernel_rfl) ?_ _
      clear hTT
      have qhS := fun i => Blk.cell hS i
      have qhQ := fun i => Blk.cell hQ i
      have hmlen : ((all.take (k + 1)).filter q) = (all.take k).filter q ++ (if bq then [((kf : Int), tn, tx)] else []) := HFT.out
      have HML := Lib.hid hmlen; clear hmlen
      cases bq
      · as_aux_lemma =>
          go_wp2_with (fail)
          go_roundg (all.length - (k + 1))
          case measure => rw [HG.out]; omega
          case rel => exact ⟨k + 1, _, rfl, by omega, rfl, by go_num, by rw [HML.out]; simpa using hown, hS, hQ, hB1⟩
      · as_aux_lemma =>
          obtain ⟨c0, c1, c2, c3⟩ := HCELL.out _ hB1
          obtain ⟨ol, hol⟩ : ∃ ol, ol = (all.take k).filter q := ⟨_, rfl⟩
          rw [← hol] at hown HML hml ⊢
          clear hol
          obtain ⟨ml, hm⟩ : ∃ ml, ml = ol.length := ⟨_, rfl⟩
          rw [← hm] at hown hml ⊢
          have HM := Lib.hid hm; clear hm
          go_wp2_with (first
            | (at_builtin; refine wpList_append_any _ rfl _ _ 72 rfl w1.heap.size 86 i86 (.agg #[.int .i64 0, .int .i64 0, .int .i64 0, .int .i64 0]) 4 32 Tryz.underlying72 hi hz0 hz1' hz2' rfl (by decide) (.slice va ml vc) ml (ol.flatMap (rdC y)) rfl (hown.alloc _) (w3.heap.size + 1) (some ⟨w3.heap.size, 0, none⟩) 1 1 (rdC y ((kf : Int), tn, tx)) rfl (Rd.blkN (Blk.new w3 86 #[.int .i64 kf, .int .i64 tn, .int .i64 tx, .int .i64 y]) rfl (Nat.lt_succ_self _)).reads (by simp [rdC, Value.oneCell']) (by unfold maxLen; omega) (by omega) (by have := hB1.size; simp only [World.size_alloc]; omega) (fun v' w' hown' hgrow hob => ?_))
            | go_in)
          have hown0 := hown.alloc (.cells #[.int .i64 kf, .int .i64 tn, .int .i64 tx, .int .i64 y] 86)
          have hS2 := (hS.alloc (.cells #[.int .i64 kf, .int .i64 tn, .int .i64 tx, .int .i64 y] 86)).kept_own hown0 (by decide) hgrow
          have hQ2 := (hQ.alloc (.cells #[.int .i64 kf, .int .i64 tn, .int .i64 tx, .int .i64 y] 86)).kept_own hown0 (by decide) hgrow
          have hB2 := (hB1.alloc hB1.size (.cells #[.int .i64 kf, .int .i64 tn, .int .i64 tx, .int .i64 y] 86)).grown hgrow (by have := hB1.size; simp only [World.size_alloc]; omega) (fun g hg => (hown0.lt g hg).1)
          go_roundg (all.length - (k + 1))
          case measure => rw [HG.out]; omega
          case rel => exact ⟨k + 1, _, rfl, by omega, rfl, by go_num, by rw [HML.out, if_pos trivial, List.length_append, List.flatMap_append, ← HM.out]; simpa using hown', hS2, hQ2, hB2⟩
    · have hke : k = all.length := by omega
      have htk : all.take k = all := List.take_of_length_le (by omega)
      obtain ⟨ml, hm⟩ : ∃ ml, ml = ((all.take k).filter q).length := ⟨_, rfl⟩
      rw [← hm] at hown ⊢
      rw [htk] at hm hown
      have HM := Lib.hid hm; clear hm
      have hlt3 : ¬ (k : Int) < all.length := by omega
      go_wp2_with (fail)
      go_ret
      exact ⟨_, rfl, by rw [← HM.out]; exact own_mono hown hBs, hB⟩
end Go.Proofs.YtifddfchpknkbaaGreatDoor
