import Derived.Test.YtifddfchpknkbaaGreatDoorTp
import Derived.Test.YtifddfchpknkbaaGreatDoorK
import Derived.Test.YtifddfchpknkbaaGreatDoorZ
set_option linter.unusedVariables false
set_option linter.unusedSimpArgs false
namespace Go.Proofs.YtifddfchpknkbaaGreatDoor
open Go.RowKit

set_option maxRecDepth 100000 in
set_option maxHeartbeats 25600000 in
theorem told_main (W H F L X Y nl nh xl xh y n1 x1 y1 n2 x2 y2 : Int) (i1 i2 : Nat) (A : Option Addr) (n cap : Nat) (fs : List Fig) (m : Int) (w : World) (hm : w.cell? ⟨0, 0, none⟩ = some (.int .i64 m)) (hcap : n ≤ cap) (hcm : cap ≤ maxLen) (hf : ∀ f ∈ fs, f.ok w w.heap.size) (hr : Rd w w.heap.size 1 A n (fs.map Fig.val)) (A1 : Option Addr) (m1 cap1 : Nat) (rows1 : List ByteArray) (A2 : Option Addr) (m2 cap2 : Nat) (rows2 : List ByteArray) (a b0 me : Int) (tl1 tl2 tl3 : List Int) (rsC rsD : List ByteArray) (hkl1 : tl1.length ≤ 100000) (hkl2 : tl2.length ≤ 100000)
    (hfw : fewB fs = true) (hak : askV (askB W H F L X Y nl nh xl xh y fs && true) = 0) (hr1 : readB n nl nh xl xh y i1 n1 x1 y1 = true) (hr2 : readB n nl nh xl xh y i2 n2 x2 y2 = true) (hlt : i1 < i2)
    (g1 : i1 < fs.length) (g2 : i2 < fs.length) (HG1 : Hid (fs[i1] = ⟨A1, m1, cap1, rows1⟩)) (HG2 : Hid (fs[i2] = ⟨A2, m2, cap2, rows2⟩))
    (hw1 : -1000 ≤ nl) (hw2 : nl ≤ 1000) (hw3 : -1000 ≤ nh) (hw4 : nh ≤ 1000)
    (HM : Hid (mistR W H F L X Y nl nh xl xh y fs = #[.int .i64 a, .int .i64 b0, .int .i64 me])) (HE1 : Hid (toldE W H F L X Y nl nh xl xh y fs i1 = 0)) (HT1 : Hid (tl1 = toldR W H F L X Y nl nh xl xh y fs i1)) (HE2 : Hid (toldE W H F L X Y nl nh xl xh y fs i2 = 0)) (HT2 : Hid (tl2 = toldR W H F L X Y nl nh xl xh y fs i2))
    (HEC : Hid (errV (viewB W H F L X Y n1 x1 y1 rows1) = .int .i64 0)) (HED : Hid (errV (viewB W H F L X Y n2 x2 y2 rows2) = .int .i64 0)) (HRC : Hid (rsC = shadowRows W H F L X Y n1 x1 y1 rows1)) (HRD : Hid (rsD = shadowRows W H F L X Y n2 x2 y2 rows2))
    (HM0 : Hid (mistR W H F L X Y nl nh xl xh y (fs.take 1) = #[.int .i64 0, .int .i64 0, .int .i64 5])) (HE3 : Hid (toldE W H F L X Y nl nh xl xh y (fs.take 1) 0 = 0)) (HT3 : Hid (tl3 = toldR W H F L X Y nl nh xl xh y (fs.take 1) 0))
    (hlc : rsC.length ≤ 100000) (HLD : Hid (rsC.length ≤ rsD.length)) (hld : rsD.length ≤ 100000) (hsc : ∀ r ∈ rsC, r.size ≤ 100000) (hsd : ∀ r ∈ rsD, r.size ≤ 100000) (HSZ : Hid (∀ k (h : k < rsC.length) (h2 : k < rsD.length), rsC[k].size ≤ rsD[k].size ∧ rsD[k].size ≤ 100000))
    (HWC : Hid (wholeB W H rsC = true)) (HWD : Hid (wholeB W H rsD = true)) (HL3 : Hid ((tl3.length : Int) = nh - nl + 1))
    (HFIN : Hid ((me = 5 ∧ (tl1.length : Int) = nh - nl + 1 ∧ (tl2.length : Int) = nh - nl + 1 ∧ agreeR rsC rsD = false) ∨ (me = 0 ∧ 0 ≤ a ∧ a < b0 ∧ b0 < n ∧ (agreeR rsC rsD = false ∨ (agreeR rsC rsD = true ∧ (a < i1 ∨ (a = i1 ∧ b0 ≤ i2)) ∧ hasB tl1 n1 = false ∧ hasB tl2 n2 = false))))) :
    Calls Tryz.prog 15 #[.agg #[.int .i64 W, .int .i64 H, .int .i64 F, .int .i64 L, .int .i64 X, .int .i64 Y], .slice A n cap, .agg #[.int .i64 nl, .int .i64 nh, .int .i64 xl, .int .i64 xh, .int .i64 y], .agg #[.int .i64 (i1 : Nat), .int .i64 n1, .int .i64 x1, .int .i64 y1], .agg #[.int .i64 (i2 : Nat), .int .i64 n2, .int .i64 x2, .int .i64 y2]] w fun e w' => e = .returned (.bool true) ∧ Below w.heap.size w w' := by
  have hn : n ≤ maxLen := Nat.le_trans hcap hcm
  have hli : (i1 : Int) < i2 := by omega
  go_enter Tryz.func15, Tryz.ntmps15
  go_upto_region 1 with (fail)
  have hS := blk4_0 w (.cells #[.int .i64 nl, .int .i64 nh, .int .i64 xl, .int .i64 xh, .int .i64 y] 71) (.cells #[.int .i64 (i1 : Nat), .int .i64 n1, .int .i64 x1, .int .i64 y1] 86) (.cells #[.int .i64 (i2 : Nat), .int .i64 n2, .int .i64 x2, .int .i64 y2] 86) 23 #[.int .i64 W, .int .i64 H, .int .i64 F, .int .i64 L, .int .i64 X, .int .i64 Y]
  have hQ := blk4_1 w (.cells #[.int .i64 W, .int .i64 H, .int .i64 F, .int .i64 L, .int .i64 X, .int .i64 Y] 23) (.cells #[.int .i64 (i1 : Nat), .int .i64 n1, .int .i64 x1, .int .i64 y1] 86) (.cells #[.int .i64 (i2 : Nat), .int .i64 n2, .int .i64 x2, .int .i64 y2] 86) 71 #[.int .i64 nl, .int .i64 nh, .int .i64 xl, .int .i64 xh, .int .i64 y]
  have hXA := blk4_2 w (.cells #[.int .i64 W, .int .i64 H, .int .i64 F, .int .i64 L, .int .i64 X, .int .i64 Y] 23) (.cells #[.int .i64 nl, .int .i64 nh, .int .i64 xl, .int .i64 xh, .int .i64 y] 71) (.cells #[.int .i64 (i2 : Nat), .int .i64 n2, .int .i64 x2, .int .i64 y2] 86) 86 #[.int .i64 (i1 : Nat), .int .i64 n1, .int .i64 x1, .int .i64 y1]
  have hXB := blk4_3 w (.cells #[.int .i64 W, .int .i64 H, .int .i64 F, .int .i64 L, .int .i64 X, .int .i64 Y] 23) (.cells #[.int .i64 nl, .int .i64 nh, .int .i64 xl, .int .i64 xh, .int .i64 y] 71) (.cells #[.int .i64 (i1 : Nat), .int .i64 n1, .int .i64 x1, .int .i64 y1] 86) 86 #[.int .i64 (i2 : Nat), .int .i64 n2, .int .i64 x2, .int .i64 y2]
  have hB := pro_4 w (.cells #[.int .i64 W, .int .i64 H, .int .i64 F, .int .i64 L, .int .i64 X, .int .i64 Y] 23) (.cells #[.int .i64 nl, .int .i64 nh, .int .i64 xl, .int .i64 xh, .int .i64 y] 71) (.cells #[.int .i64 (i1 : Nat), .int .i64 n1, .int .i64 x1, .int .i64 y1] 86) (.cells #[.int .i64 (i2 : Nat), .int .i64 n2, .int .i64 x2, .int .i64 y2] 86)
  generalize (((w.alloc (.cells #[.int .i64 W, .int .i64 H, .int .i64 F, .int .i64 L, .int .i64 X, .int .i64 Y] 23)).alloc (.cells #[.int .i64 nl, .int .i64 nh, .int .i64 xl, .int .i64 xh, .int .i64 y] 71)).alloc (.cells #[.int .i64 (i1 : Nat), .int .i64 n1, .int .i64 x1, .int .i64 y1] 86)).alloc (.cells #[.int .i64 (i2 : Nat), .int .i64 n2, .int .i64 x2, .int .i64 y2] 86) = W0 at *
  have qhS := fun i => Blk.cell hS i
  have qhQ := fun i => Blk.cell hQ i
  have qhXA := fun i => Blk.cell hXA i
  have qhXB := fun i => Blk.cell hXB i
  go_upto_region 3 with (first | (go_at_call 60; have hx := hdone; clear hx; refine (reading_any nl nh xl xh y i2 n2 x2 y2 A n cap _).mono ?_; rintro e w1 ⟨rfl, hb⟩; rw [hr2]; (try replace hS := hS.below hb hS.lt); (try replace hQ := hQ.below hb hQ.lt); (try replace hXA := hXA.below hb hXA.lt); (try replace hXB := hXB.below hb hXB.lt); replace hB := hB.trans (hb.mono hB.size); (try clear qhS); (try clear qhQ); (try clear qhXA); (try clear qhXB); clear hb; (try have qhS := fun i => Blk.cell hS i); (try have qhQ := fun i => Blk.cell hQ i); (try have qhXA := fun i => Blk.cell hXA i); (try have qhXB := fun i => Blk.cell hXB i)) | (go_at_call 39; refine (few_any A n cap fs _ hn (fun f h => ((hf f h).below hB).more hB.size) (rdB hr hB)).mono ?_; rintro e w1 ⟨rfl, rfl⟩; rw [hfw]) | (go_at_call 54; refine (asked_any W H F L X Y nl nh xl xh y A n cap fs true _ hn (fun f h => ((hf f h).below hB).more hB.size) (rdB hr hB)).mono ?_; rintro e w1 ⟨rfl, hb⟩; rw [hak]; (try replace hS := hS.below hb hS.lt); (try replace hQ := hQ.below hb hQ.lt); (try replace hXA := hXA.below hb hXA.lt); (try replace hXB := hXB.below hb hXB.lt); replace hB := hB.trans (hb.mono hB.size); (try clear qhS); (try clear qhQ); (try clear qhXA); (try clear qhXB); clear hb; (try have qhS := fun i => Blk.cell hS i); (try have qhQ := fun i => Blk.cell hQ i); (try have qhXA := fun i => Blk.cell hXA i); (try have qhXB := fun i => Blk.cell hXB i)) | (go_at_call 60; refine (reading_any nl nh xl xh y i1 n1 x1 y1 A n cap _).mono ?_; rintro e w1 ⟨rfl, hb⟩; rw [hr1]; have hdone : (0 : Nat) = 0 := rfl; (try replace hS := hS.below hb hS.lt); (try replace hQ := hQ.below hb hQ.lt); (try replace hXA := hXA.below hb hXA.lt); (try replace hXB := hXB.below hb hXB.lt); replace hB := hB.trans (hb.mono hB.size); (try clear qhS); (try clear qhQ); (try clear qhXA); (try clear qhXB); clear hb; (try have qhS := fun i => Blk.cell hS i); (try have qhQ := fun i => Blk.cell hQ i); (try have qhXA := fun i => Blk.cell hXA i); (try have qhXB := fun i => Blk.cell hXB i)) | (go_at_call 24; refine (known_true m _ (known_at hm hB)).mono ?_; rintro e w1 ⟨rfl, hb⟩; (try replace hS := hS.below hb hS.lt); (try replace hQ := hQ.below hb hQ.lt); (try replace hXA := hXA.below hb hXA.lt); (try replace hXB := hXB.below hb hXB.lt); replace hB := hB.trans (hb.mono hB.size); (try clear qhS); (try clear qhQ); (try clear qhXA); (try clear qhXB); clear hb; (try have qhS := fun i => Blk.cell hS i); (try have qhQ := fun i => Blk.cell hQ i); (try have qhXA := fun i => Blk.cell hXA i); (try have qhXB := fun i => Blk.cell hXB i)))
  clear hfw hak hr1 hr2 hdone
  go_upto_region 4 with ((go_at_call 68; refine (Mistaken_any W H F L X Y nl nh xl xh y A n cap fs _ hcap hcm (fun f h => ((hf f h).below hB).more hB.size) (rdB hr hB)).mono ?_; rintro e w1 ⟨rfl, hb⟩; rw [HM.out]; (try replace hS := hS.below hb hS.lt); (try replace hQ := hQ.below hb hQ.lt); (try replace hXA := hXA.below hb hXA.lt); (try replace hXB := hXB.below hb hXB.lt); (try replace hT1 := rdB hT1 hb); (try replace hT2 := rdB hT2 hb); (try replace hC := rdB hC hb); (try replace hD := rdB hD hb); (try replace hV := rdB hV hb); replace hB := hB.trans (hb.mono hB.size); (try clear qhS); (try clear qhQ); (try clear qhXA); (try clear qhXB); clear hb; (try have qhS := fun i => Blk.cell hS i); (try have qhQ := fun i => Blk.cell hQ i); (try have qhXA := fun i => Blk.cell hXA i); (try have qhXB := fun i => Blk.cell hXB i)))
  clear HM
  go_upto_region 5 with ((go_at_call 69; refine (Told_any W H F L X Y nl nh xl xh y A n cap fs i1 _ hcap hcm (fun f h => ((hf f h).below hB).more hB.size) (rdB hr hB)).mono ?_; rintro e w1 ⟨v1, rfl, hIs, hb⟩; obtain ⟨hT1A, hT1n, hT1c, rfl, hT11, hT12, hT1⟩ := hIs; rw [← HT1.out] at hT1; rw [HE1.out]; (try replace hS := hS.below hb hS.lt); (try replace hQ := hQ.below hb hQ.lt); (try replace hXA := hXA.below hb hXA.lt); (try replace hXB := hXB.below hb hXB.lt); (try replace hT2 := rdB hT2 hb); (try replace hC := rdB hC hb); (try replace hD := rdB hD hb); (try replace hV := rdB hV hb); replace hB := hB.trans (hb.mono hB.size); (try clear qhS); (try clear qhQ); (try clear qhXA); (try clear qhXB); clear hb; (try have qhS := fun i => Blk.cell hS i); (try have qhQ := fun i => Blk.cell hQ i); (try have qhXA := fun i => Blk.cell hXA i); (try have qhXB := fun i => Blk.cell hXB i)))
  clear HE1 HT1
  go_upto_region 6 with ((go_at_call 69; refine (Told_any W H F L X Y nl nh xl xh y A n cap fs i2 _ hcap hcm (fun f h => ((hf f h).below hB).more hB.size) (rdB hr hB)).mono ?_; rintro e w1 ⟨v1, rfl, hIs, hb⟩; obtain ⟨hT2A, hT2n, hT2c, rfl, hT21, hT22, hT2⟩ := hIs; rw [← HT2.out] at hT2; rw [HE2.out]; (try replace hS := hS.below hb hS.lt); (try replace hQ := hQ.below hb hQ.lt); (try replace hXA := hXA.below hb hXA.lt); (try replace hXB := hXB.below hb hXB.lt); (try replace hT1 := rdB hT1 hb); (try replace hC := rdB hC hb); (try replace hD := rdB hD hb); (try replace hV := rdB hV hb); replace hB := hB.trans (hb.mono hB.size); (try clear qhS); (try clear qhQ); (try clear qhXA); (try clear qhXB); clear hb; (try have qhS := fun i => Blk.cell hS i); (try have qhQ := fun i => Blk.cell hQ i); (try have qhXA := fun i => Blk.cell hXA i); (try have qhXB := fun i => Blk.cell hXB i)))
  clear HE2 HT2
  have hlen := hr.len
  have hi1 : (i1 : Int) < n := by omega
  have hi2 : (i2 : Int) < n := by omega
  have hc1 : 1 ≤ cap := by omega
  have hc1i : (1 : Int) ≤ cap := by omega
  rename World => WA
  have hrW := rdB hr hB
  have hrt : Rd w w.heap.size 1 A 1 ((fs.take 1).map Fig.val) := by
    have h := hr.cut (k := 0) (m := 1) (cap := cap) (by omega) (by omega) hcap
    rw [if_neg (by omega)] at h
    have hA : A.map (·.add (0 * 1)) = A := by cases A <;> simp [Addr.add]
    rw [hA] at h
    simpa [List.map_take] using h
  obtain ⟨b, off, rfl, hbb, hcf⟩ := hrW.2 (by omega)
  have c1 : WA.cell? ⟨b, off + i1, none⟩ = some (Fig.val fs[i1]) := hcf i1 (Fig.val fs[i1]) (by simp [g1])
  have c2 : WA.cell? ⟨b, off + i2, none⟩ = some (Fig.val fs[i2]) := hcf i2 (Fig.val fs[i2]) (by simp [g2])
  have o1 := hf _ (List.getElem_mem g1)
  have o2 := hf _ (List.getElem_mem g2)
  rw [HG1.out] at c1 o1
  rw [HG2.out] at c2 o2
  simp only [Fig.val] at c1 c2
  obtain ⟨hc11, hc12, hs1, hR1⟩ := o1
  obtain ⟨hc21, hc22, hs2, hR2⟩ := o2
  dsimp only at hc11 hc12 hs1 hR1 hc21 hc22 hs2 hR2
  clear hcf HG1 HG2
  rename World => WR
  refine wp_region_G (fun w' => Below WR.drew.heap.size WR.drew w') 13 (by kernel_rfl) ?_
  replace hS := hS.drew
  replace hQ := hQ.drew
  replace hXA := hXA.drew
  replace hXB := hXB.drew
  replace hT1 : Rd WR.drew WR.drew.heap.size _ _ _ _ := hT1
  replace hT2 : Rd WR.drew WR.drew.heap.size _ _ _ _ := hT2
  replace hB := hB.drew
  (try clear qhS qhQ qhXA qhXB)
  replace hbb : b < WR.drew.heap.size := hbb
  replace c1 : WR.drew.cell? _ = _ := c1
  replace c2 : WR.drew.cell? _ = _ := c2
  generalize WR.drew = WD at *
  have hTT : Below WD.heap.size WD WD := Below.refl _ _
  refine wpG_take (i := 0) (v := ?vz1_0) rfl (by kernel_rfl) (by kernel_rfl) (by kernel_rfl) (by kernel_rfl) (fun _ _ _ h => h) (Or.inl ⟨by rfl, ?hyz1_0⟩) hTT ?restz1_0
  case hyz1_0 => intro wq hSw; have qhS := fun i => (Blk.below hS hSw hS.lt).cell i; have qhQ := fun i => (Blk.below hQ hSw hQ.lt).cell i; have qhXA := fun i => (Blk.below hXA hSw hXA.lt).cell i; have qhXB := fun i => (Blk.below hXB hSw hXB.lt).cell i; have e1 := (hSw.cell (p := ⟨b, off + i1, none⟩) hbb).trans c1; have e2 := (hSw.cell (p := ⟨b, off + i2, none⟩) hbb).trans c2; go_simp <;> with_reducible rfl
  simp only [List.getElem_toArray, List.getElem_cons_zero, List.getElem_cons_succ, Act.put, List.setIfInBounds_toArray, List.set_cons_zero, List.set_cons_succ]
  refine wpG_take (i := 1) (v := ?vz1_1) rfl (by kernel_rfl) (by kernel_rfl) (by kernel_rfl) (by kernel_rfl) (fun _ _ _ h => h) (Or.inl ⟨by rfl, ?hyz1_1⟩) hTT ?restz1_1
  case hyz1_1 => intro wq hSw; have qhS := fun i => (Blk.below hS hSw hS.lt).cell i; have qhQ := fun i => (Blk.below hQ hSw hQ.lt).cell i; have qhXA := fun i => (Blk.below hXA hSw hXA.lt).cell i; have qhXB := fun i => (Blk.below hXB hSw hXB.lt).cell i; have e1 := (hSw.cell (p := ⟨b, off + i1, none⟩) hbb).trans c1; have e2 := (hSw.cell (p := ⟨b, off + i2, none⟩) hbb).trans c2; go_simp <;> with_reducible rfl
  simp only [List.getElem_toArray, List.getElem_cons_zero, List.getElem_cons_succ, Act.put, List.setIfInBounds_toArray, List.set_cons_zero, List.set_cons_succ]
  refine wpG_take (i := 2) (v := ?vz1_2) rfl (by kernel_rfl) (by kernel_rfl) (by kernel_rfl) (by kernel_rfl) (fun _ _ _ h => h) (Or.inl ⟨by rfl, ?hyz1_2⟩) hTT ?restz1_2
  case hyz1_2 => intro wq hSw; have qhS := fun i => (Blk.below hS hSw hS.lt).cell i; have qhQ := fun i => (Blk.below hQ hSw hQ.lt).cell i; have qhXA := fun i => (Blk.below hXA hSw hXA.lt).cell i; have qhXB := fun i => (Blk.below hXB hSw hXB.lt).cell i; have e1 := (hSw.cell (p := ⟨b, off + i1, none⟩) hbb).trans c1; have e2 := (hSw.cell (p := ⟨b, off + i2, none⟩) hbb).trans c2; go_simp <;> with_reducible rfl
  simp only [List.getElem_toArray, List.getElem_cons_zero, List.getElem_cons_succ, Act.put, List.setIfInBounds_toArray, List.set_cons_zero, List.set_cons_succ]
  refine wpG_take (i := 3) (v := ?vz1_3) rfl (by kernel_rfl) (by kernel_rfl) (by kernel_rfl) (by kernel_rfl) (fun _ _ _ h => h) (Or.inl ⟨by rfl, ?hyz1_3⟩) hTT ?restz1_3
  case hyz1_3 => intro wq hSw; have qhS := fun i => (Blk.below hS hSw hS.lt).cell i; have qhQ := fun i => (Blk.below hQ hSw hQ.lt).cell i; have qhXA := fun i => (Blk.below hXA hSw hXA.lt).cell i; have qhXB := fun i => (Blk.below hXB hSw hXB.lt).cell i; have e1 := (hSw.cell (p := ⟨b, off + i1, none⟩) hbb).trans c1; have e2 := (hSw.cell (p := ⟨b, off + i2, none⟩) hbb).trans c2; go_simp <;> with_reducible rfl
  simp only [List.getElem_toArray, List.getElem_cons_zero, List.getElem_cons_succ, Act.put, List.setIfInBounds_toArray, List.set_cons_zero, List.set_cons_succ]
  refine wpG_take (i := 4) (v := ?vz1_4) rfl (by kernel_rfl) (by kernel_rfl) (by kernel_rfl) (by kernel_rfl) (fun _ _ _ h => h) (Or.inl ⟨by rfl, ?hyz1_4⟩) hTT ?restz1_4
  case hyz1_4 => intro wq hSw; have qhS := fun i => (Blk.below hS hSw hS.lt).cell i; have qhQ := fun i => (Blk.below hQ hSw hQ.lt).cell i; have qhXA := fun i => (Blk.below hXA hSw hXA.lt).cell i; have qhXB := fun i => (Blk.below hXB hSw hXB.lt).cell i; have e1 := (hSw.cell (p := ⟨b, off + i1, none⟩) hbb).trans c1; have e2 := (hSw.cell (p := ⟨b, off + i2, none⟩) hbb).trans c2; go_simp <;> with_reducible rfl
  simp only [List.getElem_toArray, List.getElem_cons_zero, List.getElem_cons_succ, Act.put, List.setIfInBounds_toArray, List.set_cons_zero, List.set_cons_succ]
  refine wpG_take (i := 5) (v := ?vz1_5) rfl (by kernel_rfl) (by kernel_rfl) (by kernel_rfl) (by kernel_rfl) (fun _ _ _ h => h) (Or.inl ⟨by rfl, ?hyz1_5⟩) hTT ?restz1_5
  case hyz1_5 => intro wq hSw; have qhS := fun i => (Blk.below hS hSw hS.lt).cell i; have qhQ := fun i => (Blk.below hQ hSw hQ.lt).cell i; have qhXA := fun i => (Blk.below hXA hSw hXA.lt).cell i; have qhXB := fun i => (Blk.below hXB hSw hXB.lt).cell i; have e1 := (hSw.cell (p := ⟨b, off + i1, none⟩) hbb).trans c1; have e2 := (hSw.cell (p := ⟨b, off + i2, none⟩) hbb).trans c2; go_simp <;> with_reducible rfl
  simp only [List.getElem_toArray, List.getElem_cons_zero, List.getElem_cons_succ, Act.put, List.setIfInBounds_toArray, List.set_cons_zero, List.set_cons_succ]
  refine wpG_take (i := 6) (v := ?vz1_6) rfl (by kernel_rfl) (by kernel_rfl) (by kernel_rfl) (by kernel_rfl) (fun _ _ _ h => h) (Or.inl ⟨by rfl, ?hyz1_6⟩) hTT ?restz1_6
  case hyz1_6 => intro wq hSw; have qhS := fun i => (Blk.below hS hSw hS.lt).cell i; have qhQ := fun i => (Blk.below hQ hSw hQ.lt).cell i; have qhXA := fun i => (Blk.below hXA hSw hXA.lt).cell i; have qhXB := fun i => (Blk.below hXB hSw hXB.lt).cell i; have e1 := (hSw.cell (p := ⟨b, off + i1, none⟩) hbb).trans c1; have e2 := (hSw.cell (p := ⟨b, off + i2, none⟩) hbb).trans c2; go_simp <;> with_reducible rfl
  simp only [List.getElem_toArray, List.getElem_cons_zero, List.getElem_cons_succ, Act.put, List.setIfInBounds_toArray, List.set_cons_zero, List.set_cons_succ]
  refine wpG_take (i := 7) (v := ?vz1_7) rfl (by kernel_rfl) (by kernel_rfl) (by kernel_rfl) (by kernel_rfl) (fun _ _ _ h => h) (Or.inl ⟨by rfl, ?hyz1_7⟩) hTT ?restz1_7
  case hyz1_7 => intro wq hSw; have qhS := fun i => (Blk.below hS hSw hS.lt).cell i; have qhQ := fun i => (Blk.below hQ hSw hQ.lt).cell i; have qhXA := fun i => (Blk.below hXA hSw hXA.lt).cell i; have qhXB := fun i => (Blk.below hXB hSw hXB.lt).cell i; have e1 := (hSw.cell (p := ⟨b, off + i1, none⟩) hbb).trans c1; have e2 := (hSw.cell (p := ⟨b, off + i2, none⟩) hbb).trans c2; go_simp <;> with_reducible rfl
  simp only [List.getElem_toArray, List.getElem_cons_zero, List.getElem_cons_succ, Act.put, List.setIfInBounds_toArray, List.set_cons_zero, List.set_cons_succ]
  refine wpG_one (i := 8) rfl (by kernel_rfl) (fun K hK => ?_)
  go_simp
  refine (Shadow_any W H F L X Y n1 x1 y1 A1 m1 cap1 rows1 _ hc11 hc12 hs1 (rdB hR1 hB)).mono ?_; rintro e w1 ⟨vv, rfl, own, hb⟩; rw [HEC.out]; rw [← HRC.out] at own; obtain ⟨hCA, hCc, rfl⟩ := own_slice own; have hC1 := own_le0 own; have hC2 := own_cap own; have hC := Rd.of_own own; clear own; replace hTT := hTT.trans (hb.mono hTT.size); replace hS := hS.below hb hS.lt; replace hQ := hQ.below hb hQ.lt; replace hXA := hXA.below hb hXA.lt; replace hXB := hXB.below hb hXB.lt; (try replace hT1 := rdB hT1 hb); (try replace hT2 := rdB hT2 hb); (try replace hD := rdB hD hb); (try replace hV := rdB hV hb); replace hB := hB.trans (hb.mono hB.size); replace c1 := (hb.cell (p := ⟨b, off + i1, none⟩) hbb).trans c1; replace c2 := (hb.cell (p := ⟨b, off + i2, none⟩) hbb).trans c2; replace hbb := Nat.lt_of_lt_of_le hbb hb.size; clear hb; dsimp only
  refine hK _ _ (.inr hTT) ?_
  clear hK K
  try simp only [List.getElem_toArray, List.getElem_cons_zero, List.getElem_cons_succ, Act.put, List.setIfInBounds_toArray, List.set_cons_zero, List.set_cons_succ]
  refine wpG_take (i := 9) (v := ?vz1_9) rfl (by kernel_rfl) (by kernel_rfl) (by kernel_rfl) (by kernel_rfl) (fun _ _ _ h => h) (Or.inl ⟨by rfl, ?hyz1_9⟩) hTT ?restz1_9
  case hyz1_9 => intro wq hSw; skip; go_simp <;> with_reducible rfl
  simp only [List.getElem_toArray, List.getElem_cons_zero, List.getElem_cons_succ, Act.put, List.setIfInBounds_toArray, List.set_cons_zero, List.set_cons_succ]
  refine wpG_take (i := 10) (v := ?vz1_10) rfl (by kernel_rfl) (by kernel_rfl) (by kernel_rfl) (by kernel_rfl) (fun _ _ _ h => h) (Or.inl ⟨by rfl, ?hyz1_10⟩) hTT ?restz1_10
  case hyz1_10 => intro wq hSw; skip; go_simp <;> with_reducible rfl
  simp only [List.getElem_toArray, List.getElem_cons_zero, List.getElem_cons_succ, Act.put, List.setIfInBounds_toArray, List.set_cons_zero, List.set_cons_succ]
  refine wpG_take (i := 11) (v := ?vz1_11) rfl (by kernel_rfl) (by kernel_rfl) (by kernel_rfl) (by kernel_rfl) (fun _ _ _ h => h) (Or.inl ⟨by rfl, ?hyz1_11⟩) hTT ?restz1_11
  case hyz1_11 => intro wq hSw; skip; go_simp <;> with_reducible rfl
  simp only [List.getElem_toArray, List.getElem_cons_zero, List.getElem_cons_succ, Act.put, List.setIfInBounds_toArray, List.set_cons_zero, List.set_cons_succ]
  refine wpG_take (i := 12) (v := ?vz1_12) rfl (by kernel_rfl) (by kernel_rfl) (by kernel_rfl) (by kernel_rfl) (fun _ _ _ h => h) (Or.inl ⟨by rfl, ?hyz1_12⟩) hTT ?restz1_12
  case hyz1_12 => intro wq hSw; skip; go_simp <;> with_reducible rfl
  simp only [List.getElem_toArray, List.getElem_cons_zero, List.getElem_cons_succ, Act.put, List.setIfInBounds_toArray, List.set_cons_zero, List.set_cons_succ]
  refine wpG_one (i := 13) rfl (by kernel_rfl) (fun K hK => ?_)
  go_simp
  refine hK _ _ (.inl rfl) ?_
  clear hK K
  try simp only [List.getElem_toArray, List.getElem_cons_zero, List.getElem_cons_succ, Act.put, List.setIfInBounds_toArray, List.set_cons_zero, List.set_cons_succ]
  refine wpG_done (by kernel_rfl) ?_ _
  clear hTT
  have qhS := fun i => Blk.cell hS i
  have qhQ := fun i => Blk.cell hQ i
  have qhXA := fun i => Blk.cell hXA i
  have qhXB := fun i => Blk.cell hXB i
  go_upto_region 7 with (fail)
  rename World => WR
  refine wp_region_G (fun w' => Below WR.drew.heap.size WR.drew w') 13 (by kernel_rfl) ?_
  replace hS := hS.drew
  replace hQ := hQ.drew
  replace hXA := hXA.drew
  replace hXB := hXB.drew
  replace hT1 : Rd WR.drew WR.drew.heap.size _ _ _ _ := hT1
  replace hT2 : Rd WR.drew WR.drew.heap.size _ _ _ _ := hT2
  replace hC : Rd WR.drew WR.drew.heap.size _ _ _ _ := hC
  replace hB := hB.drew
  (try clear qhS qhQ qhXA qhXB)
  replace hbb : b < WR.drew.heap.size := hbb
  replace c1 : WR.drew.cell? _ = _ := c1
  replace c2 : WR.drew.cell? _ = _ := c2
  generalize WR.drew = WD at *
  have hTT : Below WD.heap.size WD WD := Below.refl _ _
  refine wpG_take (i := 0) (v := ?vz2_0) rfl (by kernel_rfl) (by kernel_rfl) (by kernel_rfl) (by kernel_rfl) (fun _ _ _ h => h) (Or.inl ⟨by rfl, ?hyz2_0⟩) hTT ?restz2_0
  case hyz2_0 => intro wq hSw; have qhS := fun i => (Blk.below hS hSw hS.lt).cell i; have qhQ := fun i => (Blk.below hQ hSw hQ.lt).cell i; have qhXA := fun i => (Blk.below hXA hSw hXA.lt).cell i; have qhXB := fun i => (Blk.below hXB hSw hXB.lt).cell i; have e1 := (hSw.cell (p := ⟨b, off + i1, none⟩) hbb).trans c1; have e2 := (hSw.cell (p := ⟨b, off + i2, none⟩) hbb).trans c2; go_simp <;> with_reducible rfl
  simp only [List.getElem_toArray, List.getElem_cons_zero, List.getElem_cons_succ, Act.put, List.setIfInBounds_toArray, List.set_cons_zero, List.set_cons_succ]
  refine wpG_take (i := 1) (v := ?vz2_1) rfl (by kernel_rfl) (by kernel_rfl) (by kernel_rfl) (by kernel_rfl) (fun _ _ _ h => h) (Or.inl ⟨by rfl, ?hyz2_1⟩) hTT ?restz2_1
  case hyz2_1 => intro wq hSw; have qhS := fun i => (Blk.below hS hSw hS.lt).cell i; have qhQ := fun i => (Blk.below hQ hSw hQ.lt).cell i; have qhXA := fun i => (Blk.below hXA hSw hXA.lt).cell i; have qhXB := fun i => (Blk.below hXB hSw hXB.lt).cell i; have e1 := (hSw.cell (p := ⟨b, off + i1, none⟩) hbb).trans c1; have e2 := (hSw.cell (p := ⟨b, off + i2, none⟩) hbb).trans c2; go_simp <;> with_reducible rfl
  simp only [List.getElem_toArray, List.getElem_cons_zero, List.getElem_cons_succ, Act.put, List.setIfInBounds_toArray, List.set_cons_zero, List.set_cons_succ]
  refine wpG_take (i := 2) (v := ?vz2_2) rfl (by kernel_rfl) (by kernel_rfl) (by kernel_rfl) (by kernel_rfl) (fun _ _ _ h => h) (Or.inl ⟨by rfl, ?hyz2_2⟩) hTT ?restz2_2
  case hyz2_2 => intro wq hSw; have qhS := fun i => (Blk.below hS hSw hS.lt).cell i; have qhQ := fun i => (Blk.below hQ hSw hQ.lt).cell i; have qhXA := fun i => (Blk.below hXA hSw hXA.lt).cell i; have qhXB := fun i => (Blk.below hXB hSw hXB.lt).cell i; have e1 := (hSw.cell (p := ⟨b, off + i1, none⟩) hbb).trans c1; have e2 := (hSw.cell (p := ⟨b, off + i2, none⟩) hbb).trans c2; go_simp <;> with_reducible rfl
  simp only [List.getElem_toArray, List.getElem_cons_zero, List.getElem_cons_succ, Act.put, List.setIfInBounds_toArray, List.set_cons_zero, List.set_cons_succ]
  refine wpG_take (i := 3) (v := ?vz2_3) rfl (by kernel_rfl) (by kernel_rfl) (by kernel_rfl) (by kernel_rfl) (fun _ _ _ h => h) (Or.inl ⟨by rfl, ?hyz2_3⟩) hTT ?restz2_3
  case hyz2_3 => intro wq hSw; have qhS := fun i => (Blk.below hS hSw hS.lt).cell i; have qhQ := fun i => (Blk.below hQ hSw hQ.lt).cell i; have qhXA := fun i => (Blk.below hXA hSw hXA.lt).cell i; have qhXB := fun i => (Blk.below hXB hSw hXB.lt).cell i; have e1 := (hSw.cell (p := ⟨b, off + i1, none⟩) hbb).trans c1; have e2 := (hSw.cell (p := ⟨b, off + i2, none⟩) hbb).trans c2; go_simp <;> with_reducible rfl
  simp only [List.getElem_toArray, List.getElem_cons_zero, List.getElem_cons_succ, Act.put, List.setIfInBounds_toArray, List.set_cons_zero, List.set_cons_succ]
  refine wpG_take (i := 4) (v := ?vz2_4) rfl (by kernel_rfl) (by kernel_rfl) (by kernel_rfl) (by kernel_rfl) (fun _ _ _ h => h) (Or.inl ⟨by rfl, ?hyz2_4⟩) hTT ?restz2_4
  case hyz2_4 => intro wq hSw; have qhS := fun i => (Blk.below hS hSw hS.lt).cell i; have qhQ := fun i => (Blk.below hQ hSw hQ.lt).cell i; have qhXA := fun i => (Blk.below hXA hSw hXA.lt).cell i; have qhXB := fun i => (Blk.below hXB hSw hXB.lt).cell i; have e1 := (hSw.cell (p := ⟨b, off + i1, none⟩) hbb).trans c1; have e2 := (hSw.cell (p := ⟨b, off + i2, none⟩) hbb).trans c2; go_simp <;> with_reducible rfl
  simp only [List.getElem_toArray, List.getElem_cons_zero, List.getElem_cons_succ, Act.put, List.setIfInBounds_toArray, List.set_cons_zero, List.set_cons_succ]
  refine wpG_take (i := 5) (v := ?vz2_5) rfl (by kernel_rfl) (by kernel_rfl) (by kernel_rfl) (by kernel_rfl) (fun _ _ _ h => h) (Or.inl ⟨by rfl, ?hyz2_5⟩) hTT ?restz2_5
  case hyz2_5 => intro wq hSw; have qhS := fun i => (Blk.below hS hSw hS.lt).cell i; have qhQ := fun i => (Blk.below hQ hSw hQ.lt).cell i; have qhXA := fun i => (Blk.below hXA hSw hXA.lt).cell i; have qhXB := fun i => (Blk.below hXB hSw hXB.lt).cell i; have e1 := (hSw.cell (p := ⟨b, off + i1, none⟩) hbb).trans c1; have e2 := (hSw.cell (p := ⟨b, off + i2, none⟩) hbb).trans c2; go_simp <;> with_reducible rfl
  simp only [List.getElem_toArray, List.getElem_cons_zero, List.getElem_cons_succ, Act.put, List.setIfInBounds_toArray, List.set_cons_zero, List.set_cons_succ]
  refine wpG_take (i := 6) (v := ?vz2_6) rfl (by kernel_rfl) (by kernel_rfl) (by kernel_rfl) (by kernel_rfl) (fun _ _ _ h => h) (Or.inl ⟨by rfl, ?hyz2_6⟩) hTT ?restz2_6
  case hyz2_6 => intro wq hSw; have qhS := fun i => (Blk.below hS hSw hS.lt).cell i; have qhQ := fun i => (Blk.below hQ hSw hQ.lt).cell i; have qhXA := fun i => (Blk.below hXA hSw hXA.lt).cell i; have qhXB := fun i => (Blk.below hXB hSw hXB.lt).cell i; have e1 := (hSw.cell (p := ⟨b, off + i1, none⟩) hbb).trans c1; have e2 := (hSw.cell (p := ⟨b, off + i2, none⟩) hbb).trans c2; go_simp <;> with_reducible rfl
  simp only [List.getElem_toArray, List.getElem_cons_zero, List.getElem_cons_succ, Act.put, List.setIfInBounds_toArray, List.set_cons_zero, List.set_cons_succ]
  refine wpG_take (i := 7) (v := ?vz2_7) rfl (by kernel_rfl) (by kernel_rfl) (by kernel_rfl) (by kernel_rfl) (fun _ _ _ h => h) (Or.inl ⟨by rfl, ?hyz2_7⟩) hTT ?restz2_7
  case hyz2_7 => intro wq hSw; have qhS := fun i => (Blk.below hS hSw hS.lt).cell i; have qhQ := fun i => (Blk.below hQ hSw hQ.lt).cell i; have qhXA := fun i => (Blk.below hXA hSw hXA.lt).cell i; have qhXB := fun i => (Blk.below hXB hSw hXB.lt).cell i; have e1 := (hSw.cell (p := ⟨b, off + i1, none⟩) hbb).trans c1; have e2 := (hSw.cell (p := ⟨b, off + i2, none⟩) hbb).trans c2; go_simp <;> with_reducible rfl
  simp only [List.getElem_toArray, List.getElem_cons_zero, List.getElem_cons_succ, Act.put, List.setIfInBounds_toArray, List.set_cons_zero, List.set_cons_succ]
  refine wpG_one (i := 8) rfl (by kernel_rfl) (fun K hK => ?_)
  go_simp
  refine (Shadow_any W H F L X Y n2 x2 y2 A2 m2 cap2 rows2 _ hc21 hc22 hs2 (rdB hR2 hB)).mono ?_; rintro e w1 ⟨vv, rfl, own, hb⟩; rw [HED.out]; rw [← HRD.out] at own; obtain ⟨hDA, hDc, rfl⟩ := own_slice own; have hD1 := own_le0 own; have hD2 := own_cap own; have hD := Rd.of_own own; clear own; replace hTT := hTT.trans (hb.mono hTT.size); replace hS := hS.below hb hS.lt; replace hQ := hQ.below hb hQ.lt; replace hXA := hXA.below hb hXA.lt; replace hXB := hXB.below hb hXB.lt; (try replace hT1 := rdB hT1 hb); (try replace hT2 := rdB hT2 hb); (try replace hC := rdB hC hb); (try replace hV := rdB hV hb); replace hB := hB.trans (hb.mono hB.size); clear c1 c2; replace hbb := Nat.lt_of_lt_of_le hbb hb.size; clear hb; dsimp only
  refine hK _ _ (.inr hTT) ?_
  clear hK K
  try simp only [List.getElem_toArray, List.getElem_cons_zero, List.getElem_cons_succ, Act.put, List.setIfInBounds_toArray, List.set_cons_zero, List.set_cons_succ]
  refine wpG_take (i := 9) (v := ?vz2_9) rfl (by kernel_rfl) (by kernel_rfl) (by kernel_rfl) (by kernel_rfl) (fun _ _ _ h => h) (Or.inl ⟨by rfl, ?hyz2_9⟩) hTT ?restz2_9
  case hyz2_9 => intro wq hSw; skip; go_simp <;> with_reducible rfl
  simp only [List.getElem_toArray, List.getElem_cons_zero, List.getElem_cons_succ, Act.put, List.setIfInBounds_toArray, List.set_cons_zero, List.set_cons_succ]
  refine wpG_take (i := 10) (v := ?vz2_10) rfl (by kernel_rfl) (by kernel_rfl) (by kernel_rfl) (by kernel_rfl) (fun _ _ _ h => h) (Or.inl ⟨by rfl, ?hyz2_10⟩) hTT ?restz2_10
  case hyz2_10 => intro wq hSw; skip; go_simp <;> with_reducible rfl
  simp only [List.getElem_toArray, List.getElem_cons_zero, List.getElem_cons_succ, Act.put, List.setIfInBounds_toArray, List.set_cons_zero, List.set_cons_succ]
  refine wpG_take (i := 11) (v := ?vz2_11) rfl (by kernel_rfl) (by kernel_rfl) (by kernel_rfl) (by kernel_rfl) (fun _ _ _ h => h) (Or.inl ⟨by rfl, ?hyz2_11⟩) hTT ?restz2_11
  case hyz2_11 => intro wq hSw; skip; go_simp <;> with_reducible rfl
  simp only [List.getElem_toArray, List.getElem_cons_zero, List.getElem_cons_succ, Act.put, List.setIfInBounds_toArray, List.set_cons_zero, List.set_cons_succ]
  refine wpG_take (i := 12) (v := ?vz2_12) rfl (by kernel_rfl) (by kernel_rfl) (by kernel_rfl) (by kernel_rfl) (fun _ _ _ h => h) (Or.inl ⟨by rfl, ?hyz2_12⟩) hTT ?restz2_12
  case hyz2_12 => intro wq hSw; skip; go_simp <;> with_reducible rfl
  simp only [List.getElem_toArray, List.getElem_cons_zero, List.getElem_cons_succ, Act.put, List.setIfInBounds_toArray, List.set_cons_zero, List.set_cons_succ]
  refine wpG_one (i := 13) rfl (by kernel_rfl) (fun K hK => ?_)
  go_simp
  refine hK _ _ (.inl rfl) ?_
  clear hK K
  try simp only [List.getElem_toArray, List.getElem_cons_zero, List.getElem_cons_succ, Act.put, List.setIfInBounds_toArray, List.set_cons_zero, List.set_cons_succ]
  refine wpG_done (by kernel_rfl) ?_ _
  clear hTT
  have qhS := fun i => Blk.cell hS i
  have qhQ := fun i => Blk.cell hQ i
  have qhXA := fun i => Blk.cell hXA i
  have qhXB := fun i => Blk.cell hXB i
  clear hR1 hR2 hs1 hs2 HEC HED HRC HRD hc11 hc12 hc21 hc22
  go_upto_region 8 with (fail)
  rename World => WR
  refine wp_region_G (fun w' => Below WR.drew.heap.size WR.drew w') 11 (by kernel_rfl) ?_
  replace hS := hS.drew
  replace hQ := hQ.drew
  replace hXA := hXA.drew
  replace hXB := hXB.drew
  replace hT1 : Rd WR.drew WR.drew.heap.size _ _ _ _ := hT1
  replace hT2 : Rd WR.drew WR.drew.heap.size _ _ _ _ := hT2
  replace hC : Rd WR.drew WR.drew.heap.size _ _ _ _ := hC
  replace hD : Rd WR.drew WR.drew.heap.size _ _ _ _ := hD
  replace hB := hB.drew
  (try clear qhS qhQ qhXA qhXB)
  generalize WR.drew = WD at *
  have hTT : Below WD.heap.size WD WD := Below.refl _ _
  refine wpG_take (i := 0) (v := ?vz3_0) rfl (by kernel_rfl) (by kernel_rfl) (by kernel_rfl) (by kernel_rfl) (fun _ _ _ h => h) (Or.inl ⟨by rfl, ?hyz3_0⟩) hTT ?restz3_0
  case hyz3_0 => intro wq hSw; have qhS := fun i => (Blk.below hS hSw hS.lt).cell i; have qhQ := fun i => (Blk.below hQ hSw hQ.lt).cell i; have qhXA := fun i => (Blk.below hXA hSw hXA.lt).cell i; have qhXB := fun i => (Blk.below hXB hSw hXB.lt).cell i; go_simp <;> with_reducible rfl
  simp only [List.getElem_toArray, List.getElem_cons_zero, List.getElem_cons_succ, Act.put, List.setIfInBounds_toArray, List.set_cons_zero, List.set_cons_succ]
  refine wpG_take (i := 1) (v := ?vz3_1) rfl (by kernel_rfl) (by kernel_rfl) (by kernel_rfl) (by kernel_rfl) (fun _ _ _ h => h) (Or.inl ⟨by rfl, ?hyz3_1⟩) hTT ?restz3_1
  case hyz3_1 => intro wq hSw; have qhS := fun i => (Blk.below hS hSw hS.lt).cell i; have qhQ := fun i => (Blk.below hQ hSw hQ.lt).cell i; have qhXA := fun i => (Blk.below hXA hSw hXA.lt).cell i; have qhXB := fun i => (Blk.below hXB hSw hXB.lt).cell i; go_simp <;> with_reducible rfl
  simp only [List.getElem_toArray, List.getElem_cons_zero, List.getElem_cons_succ, Act.put, List.setIfInBounds_toArray, List.set_cons_zero, List.set_cons_succ]
  refine wpG_take (i := 2) (v := ?vz3_2) rfl (by kernel_rfl) (by kernel_rfl) (by kernel_rfl) (by kernel_rfl) (fun _ _ _ h => h) (Or.inl ⟨by rfl, ?hyz3_2⟩) hTT ?restz3_2
  case hyz3_2 => intro wq hSw; have qhS := fun i => (Blk.below hS hSw hS.lt).cell i; have qhQ := fun i => (Blk.below hQ hSw hQ.lt).cell i; have qhXA := fun i => (Blk.below hXA hSw hXA.lt).cell i; have qhXB := fun i => (Blk.below hXB hSw hXB.lt).cell i; go_simp <;> with_reducible rfl
  simp only [List.getElem_toArray, List.getElem_cons_zero, List.getElem_cons_succ, Act.put, List.setIfInBounds_toArray, List.set_cons_zero, List.set_cons_succ]
  refine wpG_take (i := 3) (v := ?vz3_3) rfl (by kernel_rfl) (by kernel_rfl) (by kernel_rfl) (by kernel_rfl) (fun _ _ _ h => h) (Or.inl ⟨by rfl, ?hyz3_3⟩) hTT ?restz3_3
  case hyz3_3 => intro wq hSw; have qhS := fun i => (Blk.below hS hSw hS.lt).cell i; have qhQ := fun i => (Blk.below hQ hSw hQ.lt).cell i; have qhXA := fun i => (Blk.below hXA hSw hXA.lt).cell i; have qhXB := fun i => (Blk.below hXB hSw hXB.lt).cell i; go_simp <;> with_reducible rfl
  simp only [List.getElem_toArray, List.getElem_cons_zero, List.getElem_cons_succ, Act.put, List.setIfInBounds_toArray, List.set_cons_zero, List.set_cons_succ]
  refine wpG_one (i := 4) rfl (by kernel_rfl) (fun K hK => ?_)
  go_simp
  refine (Mistaken_any W H F L X Y nl nh xl xh y (some ⟨b, off, none⟩) 1 cap (fs.take 1) _ hc1 hcm (fun f h => ((hf f (List.mem_of_mem_take h)).below hB).more hB.size) (rdB hrt hB)).mono ?_; rintro e w1 ⟨rfl, hb⟩; rw [HM0.out]; replace hTT := hTT.trans (hb.mono hTT.size); replace hS := hS.below hb hS.lt; replace hQ := hQ.below hb hQ.lt; replace hXA := hXA.below hb hXA.lt; replace hXB := hXB.below hb hXB.lt; (try replace hT1 := rdB hT1 hb); (try replace hT2 := rdB hT2 hb); (try replace hC := rdB hC hb); (try replace hD := rdB hD hb); (try replace hV := rdB hV hb); replace hB := hB.trans (hb.mono hB.size); clear hb; dsimp only
  refine hK _ _ (.inr hTT) ?_
  clear hK K
  try simp only [List.getElem_toArray, List.getElem_cons_zero, List.getElem_cons_succ, Act.put, List.setIfInBounds_toArray, List.set_cons_zero, List.set_cons_succ]
  refine wpG_take (i := 5) (v := ?vz3_5) rfl (by kernel_rfl) (by kernel_rfl) (by kernel_rfl) (by kernel_rfl) (fun _ _ _ h => h) (Or.inl ⟨by rfl, ?hyz3_5⟩) hTT ?restz3_5
  case hyz3_5 => intro wq hSw; skip; go_simp <;> with_reducible rfl
  simp only [List.getElem_toArray, List.getElem_cons_zero, List.getElem_cons_succ, Act.put, List.setIfInBounds_toArray, List.set_cons_zero, List.set_cons_succ]
  refine wpG_take (i := 6) (v := ?vz3_6) rfl (by kernel_rfl) (by kernel_rfl) (by kernel_rfl) (by kernel_rfl) (fun _ _ _ h => h) (Or.inl ⟨by rfl, ?hyz3_6⟩) hTT ?restz3_6
  case hyz3_6 => intro wq hSw; skip; go_simp <;> with_reducible rfl
  simp only [List.getElem_toArray, List.getElem_cons_zero, List.getElem_cons_succ, Act.put, List.setIfInBounds_toArray, List.set_cons_zero, List.set_cons_succ]
  refine wpG_take (i := 7) (v := ?vz3_7) rfl (by kernel_rfl) (by kernel_rfl) (by kernel_rfl) (by kernel_rfl) (fun _ _ _ h => h) (Or.inl ⟨by rfl, ?hyz3_7⟩) hTT ?restz3_7
  case hyz3_7 => intro wq hSw; skip; go_simp <;> with_reducible rfl
  simp only [List.getElem_toArray, List.getElem_cons_zero, List.getElem_cons_succ, Act.put, List.setIfInBounds_toArray, List.set_cons_zero, List.set_cons_succ]
  refine wpG_take (i := 8) (v := ?vz3_8) rfl (by kernel_rfl) (by kernel_rfl) (by kernel_rfl) (by kernel_rfl) (fun _ _ _ h => h) (Or.inl ⟨by rfl, ?hyz3_8⟩) hTT ?restz3_8
  case hyz3_8 => intro wq hSw; skip; go_simp <;> with_reducible rfl
  simp only [List.getElem_toArray, List.getElem_cons_zero, List.getElem_cons_succ, Act.put, List.setIfInBounds_toArray, List.set_cons_zero, List.set_cons_succ]
  refine wpG_take (i := 9) (v := ?vz3_9) rfl (by kernel_rfl) (by kernel_rfl) (by kernel_rfl) (by kernel_rfl) (fun _ _ _ h => h) (Or.inl ⟨by rfl, ?hyz3_9⟩) hTT ?restz3_9
  case hyz3_9 => intro wq hSw; skip; go_simp <;> with_reducible rfl
  simp only [List.getElem_toArray, List.getElem_cons_zero, List.getElem_cons_succ, Act.put, List.setIfInBounds_toArray, List.set_cons_zero, List.set_cons_succ]
  refine wpG_take (i := 10) (v := ?vz3_10) rfl (by kernel_rfl) (by kernel_rfl) (by kernel_rfl) (by kernel_rfl) (fun _ _ _ h => h) (Or.inl ⟨by rfl, ?hyz3_10⟩) hTT ?restz3_10
  case hyz3_10 => intro wq hSw; skip; go_simp <;> with_reducible rfl
  simp only [List.getElem_toArray, List.getElem_cons_zero, List.getElem_cons_succ, Act.put, List.setIfInBounds_toArray, List.set_cons_zero, List.set_cons_succ]
  refine wpG_one (i := 11) rfl (by kernel_rfl) (fun K hK => ?_)
  go_simp
  refine hK _ _ (.inl rfl) ?_
  clear hK K
  try simp only [List.getElem_toArray, List.getElem_cons_zero, List.getElem_cons_succ, Act.put, List.setIfInBounds_toArray, List.set_cons_zero, List.set_cons_succ]
  refine wpG_done (by kernel_rfl) ?_ _
  clear hTT
  have qhS := fun i => Blk.cell hS i
  have qhQ := fun i => Blk.cell hQ i
  have qhXA := fun i => Blk.cell hXA i
  have qhXB := fun i => Blk.cell hXB i
  go_upto_region 9 with (fail)
  rename World => WR
  refine wp_region_G (fun w' => Below WR.drew.heap.size WR.drew w') 9 (by kernel_rfl) ?_
  replace hS := hS.drew
  replace hQ := hQ.drew
  replace hXA := hXA.drew
  replace hXB := hXB.drew
  replace hT1 : Rd WR.drew WR.drew.heap.size _ _ _ _ := hT1
  replace hT2 : Rd WR.drew WR.drew.heap.size _ _ _ _ := hT2
  replace hC : Rd WR.drew WR.drew.heap.size _ _ _ _ := hC
  replace hD : Rd WR.drew WR.drew.heap.size _ _ _ _ := hD
  replace hB := hB.drew
  (try clear qhS qhQ qhXA qhXB)
  generalize WR.drew = WD at *
  have hTT : Below WD.heap.size WD WD := Below.refl _ _
  refine wpG_take (i := 0) (v := ?vz4_0) rfl (by kernel_rfl) (by kernel_rfl) (by kernel_rfl) (by kernel_rfl) (fun _ _ _ h => h) (Or.inl ⟨by rfl, ?hyz4_0⟩) hTT ?restz4_0
  case hyz4_0 => intro wq hSw; have qhS := fun i => (Blk.below hS hSw hS.lt).cell i; have qhQ := fun i => (Blk.below hQ hSw hQ.lt).cell i; have qhXA := fun i => (Blk.below hXA hSw hXA.lt).cell i; have qhXB := fun i => (Blk.below hXB hSw hXB.lt).cell i; go_simp <;> with_reducible rfl
  simp only [List.getElem_toArray, List.getElem_cons_zero, List.getElem_cons_succ, Act.put, List.setIfInBounds_toArray, List.set_cons_zero, List.set_cons_succ]
  refine wpG_take (i := 1) (v := ?vz4_1) rfl (by kernel_rfl) (by kernel_rfl) (by kernel_rfl) (by kernel_rfl) (fun _ _ _ h => h) (Or.inl ⟨by rfl, ?hyz4_1⟩) hTT ?restz4_1
  case hyz4_1 => intro wq hSw; have qhS := fun i => (Blk.below hS hSw hS.lt).cell i; have qhQ := fun i => (Blk.below hQ hSw hQ.lt).cell i; have qhXA := fun i => (Blk.below hXA hSw hXA.lt).cell i; have qhXB := fun i => (Blk.below hXB hSw hXB.lt).cell i; go_simp <;> with_reducible rfl
  simp only [List.getElem_toArray, List.getElem_cons_zero, List.getElem_cons_succ, Act.put, List.setIfInBounds_toArray, List.set_cons_zero, List.set_cons_succ]
  refine wpG_take (i := 2) (v := ?vz4_2) rfl (by kernel_rfl) (by kernel_rfl) (by kernel_rfl) (by kernel_rfl) (fun _ _ _ h => h) (Or.inl ⟨by rfl, ?hyz4_2⟩) hTT ?restz4_2
  case hyz4_2 => intro wq hSw; have qhS := fun i => (Blk.below hS hSw hS.lt).cell i; have qhQ := fun i => (Blk.below hQ hSw hQ.lt).cell i; have qhXA := fun i => (Blk.below hXA hSw hXA.lt).cell i; have qhXB := fun i => (Blk.below hXB hSw hXB.lt).cell i; go_simp <;> with_reducible rfl
  simp only [List.getElem_toArray, List.getElem_cons_zero, List.getElem_cons_succ, Act.put, List.setIfInBounds_toArray, List.set_cons_zero, List.set_cons_succ]
  refine wpG_take (i := 3) (v := ?vz4_3) rfl (by kernel_rfl) (by kernel_rfl) (by kernel_rfl) (by kernel_rfl) (fun _ _ _ h => h) (Or.inl ⟨by rfl, ?hyz4_3⟩) hTT ?restz4_3
  case hyz4_3 => intro wq hSw; have qhS := fun i => (Blk.below hS hSw hS.lt).cell i; have qhQ := fun i => (Blk.below hQ hSw hQ.lt).cell i; have qhXA := fun i => (Blk.below hXA hSw hXA.lt).cell i; have qhXB := fun i => (Blk.below hXB hSw hXB.lt).cell i; go_simp <;> with_reducible rfl
  simp only [List.getElem_toArray, List.getElem_cons_zero, List.getElem_cons_succ, Act.put, List.setIfInBounds_toArray, List.set_cons_zero, List.set_cons_succ]
  refine wpG_one (i := 4) rfl (by kernel_rfl) (fun K hK => ?_)
  go_simp
  refine (Told_any W H F L X Y nl nh xl xh y (some ⟨b, off, none⟩) 1 cap (fs.take 1) 0 _ hc1 hcm (fun f h => ((hf f (List.mem_of_mem_take h)).below hB).more hB.size) (rdB hrt hB)).mono ?_; rintro e w1 ⟨v1, rfl, hIs, hb⟩; obtain ⟨hVA, hVn, hVc, rfl, hV1, hV2, hV⟩ := hIs; rw [← HT3.out] at hV; rw [HE3.out]; replace hTT := hTT.trans (hb.mono hTT.size); replace hS := hS.below hb hS.lt; replace hQ := hQ.below hb hQ.lt; replace hXA := hXA.below hb hXA.lt; replace hXB := hXB.below hb hXB.lt; (try replace hT1 := rdB hT1 hb); (try replace hT2 := rdB hT2 hb); (try replace hC := rdB hC hb); (try replace hD := rdB hD hb); replace hB := hB.trans (hb.mono hB.size); clear hb; dsimp only
  refine hK _ _ (.inr hTT) ?_
  clear hK K
  try simp only [List.getElem_toArray, List.getElem_cons_zero, List.getElem_cons_succ, Act.put, List.setIfInBounds_toArray, List.set_cons_zero, List.set_cons_succ]
  refine wpG_take (i := 5) (v := ?vz4_5) rfl (by kernel_rfl) (by kernel_rfl) (by kernel_rfl) (by kernel_rfl) (fun _ _ _ h => h) (Or.inl ⟨by rfl, ?hyz4_5⟩) hTT ?restz4_5
  case hyz4_5 => intro wq hSw; skip; go_simp <;> with_reducible rfl
  simp only [List.getElem_toArray, List.getElem_cons_zero, List.getElem_cons_succ, Act.put, List.setIfInBounds_toArray, List.set_cons_zero, List.set_cons_succ]
  refine wpG_take (i := 6) (v := ?vz4_6) rfl (by kernel_rfl) (by kernel_rfl) (by kernel_rfl) (by kernel_rfl) (fun _ _ _ h => h) (Or.inl ⟨by rfl, ?hyz4_6⟩) hTT ?restz4_6
  case hyz4_6 => intro wq hSw; skip; go_simp <;> with_reducible rfl
  simp only [List.getElem_toArray, List.getElem_cons_zero, List.getElem_cons_succ, Act.put, List.setIfInBounds_toArray, List.set_cons_zero, List.set_cons_succ]
  refine wpG_take (i := 7) (v := ?vz4_7) rfl (by kernel_rfl) (by kernel_rfl) (by kernel_rfl) (by kernel_rfl) (fun _ _ _ h => h) (Or.inl ⟨by rfl, ?hyz4_7⟩) hTT ?restz4_7
  case hyz4_7 => intro wq hSw; skip; go_simp <;> with_reducible rfl
  simp only [List.getElem_toArray, List.getElem_cons_zero, List.getElem_cons_succ, Act.put, List.setIfInBounds_toArray, List.set_cons_zero, List.set_cons_succ]
  refine wpG_take (i := 8) (v := ?vz4_8) rfl (by kernel_rfl) (by kernel_rfl) (by kernel_rfl) (by kernel_rfl) (fun _ _ _ h => h) (Or.inl ⟨by rfl, ?hyz4_8⟩) hTT ?restz4_8
  case hyz4_8 => intro wq hSw; skip; go_simp <;> with_reducible rfl
  simp only [List.getElem_toArray, List.getElem_cons_zero, List.getElem_cons_succ, Act.put, List.setIfInBounds_toArray, List.set_cons_zero, List.set_cons_succ]
  refine wpG_one (i := 9) rfl (by kernel_rfl) (fun K hK => ?_)
  go_simp
  refine hK _ _ (.inl rfl) ?_
  clear hK K
  try simp only [List.getElem_toArray, List.getElem_cons_zero, List.getElem_cons_succ, Act.put, List.setIfInBounds_toArray, List.set_cons_zero, List.set_cons_succ]
  refine wpG_done (by kernel_rfl) ?_ _
  clear hTT
  have qhS := fun i => Blk.cell hS i
  have qhQ := fun i => Blk.cell hQ i
  have qhXA := fun i => Blk.cell hXA i
  have qhXB := fun i => Blk.cell hXB i
  clear HM0 HE3 HT3
  go_upto_region 10 with (fail)
  have k1 := hT1.len
  have k2 := hT2.len
  have k3 := hV.len
  have q1 := i64_ok (nh - nl) (by omega)
  have q2 := i64_ok (nh - nl + 1) (by omega)
  have hL3 : ((hVn : Int) != nh - nl + 1) = false := by have := HL3.out; simp; omega
  have HK1 := Lib.hid k1; have HK2 := Lib.hid k2; clear k1 k2 k3
  rcases HFIN.out with ⟨rfl, e1, e2, hag⟩ | ⟨rfl, ha0, hab, hbn, hag⟩
  · have p1 : ((hT1n : Int) != nh - nl + 1) = false := by have := HK1.out; simp; omega
    have p2 : ((hT2n : Int) != nh - nl + 1) = false := by have := HK2.out; simp; omega
    clear HFIN e1 e2 HK1 HK2 HL3
    go_upto_region 13 with (first | (go_at_call 35; have hx := hwdone; clear hx; refine (whole_any W H F L X Y hDA rsD.length hDc rsD _ hld hsd hD).mono ?_; rintro e w1 ⟨rfl, hb⟩; rw [HWD.out]; clear hwdone; (try replace hS := hS.below hb hS.lt); (try replace hQ := hQ.below hb hQ.lt); (try replace hXA := hXA.below hb hXA.lt); (try replace hXB := hXB.below hb hXB.lt); (try replace hT1 := rdB hT1 hb); (try replace hT2 := rdB hT2 hb); (try replace hC := rdB hC hb); (try replace hD := rdB hD hb); (try replace hV := rdB hV hb); replace hB := hB.trans (hb.mono hB.size); (try clear qhS); (try clear qhQ); (try clear qhXA); (try clear qhXB); clear hb; (try have qhS := fun i => Blk.cell hS i); (try have qhQ := fun i => Blk.cell hQ i); (try have qhXA := fun i => Blk.cell hXA i); (try have qhXB := fun i => Blk.cell hXB i)) | (go_at_call 35; refine (whole_any W H F L X Y hCA rsC.length hCc rsC _ hlc hsc hC).mono ?_; rintro e w1 ⟨rfl, hb⟩; rw [HWC.out]; have hwdone : (0 : Nat) = 0 := rfl; (try replace hS := hS.below hb hS.lt); (try replace hQ := hQ.below hb hQ.lt); (try replace hXA := hXA.below hb hXA.lt); (try replace hXB := hXB.below hb hXB.lt); (try replace hT1 := rdB hT1 hb); (try replace hT2 := rdB hT2 hb); (try replace hC := rdB hC hb); (try replace hD := rdB hD hb); (try replace hV := rdB hV hb); replace hB := hB.trans (hb.mono hB.size); (try clear qhS); (try clear qhQ); (try clear qhXA); (try clear qhXB); clear hb; (try have qhS := fun i => Blk.cell hS i); (try have qhQ := fun i => Blk.cell hQ i); (try have qhXA := fun i => Blk.cell hXA i); (try have qhXB := fun i => Blk.cell hXB i)))
    go_upto_region 15 with (fail)
    go_wp2_with (first | (go_at_call 62; refine (refAgree_any hCA hDA rsC.length hCc rsD.length hDc rsC rsD _ hlc HLD.out HSZ.out hC hD).mono ?_; rintro e w1 ⟨rfl, hb⟩; rw [hag]; (try replace hS := hS.below hb hS.lt); (try replace hQ := hQ.below hb hQ.lt); (try replace hXA := hXA.below hb hXA.lt); (try replace hXB := hXB.below hb hXB.lt); (try replace hT1 := rdB hT1 hb); (try replace hT2 := rdB hT2 hb); (try replace hC := rdB hC hb); (try replace hD := rdB hD hb); (try replace hV := rdB hV hb); replace hB := hB.trans (hb.mono hB.size); (try clear qhS); (try clear qhQ); (try clear qhXA); (try clear qhXB); clear hb; (try have qhS := fun i => Blk.cell hS i); (try have qhQ := fun i => Blk.cell hQ i); (try have qhXA := fun i => Blk.cell hXA i); (try have qhXB := fun i => Blk.cell hXB i)) | (go_at_call 24; refine (known_true m _ (known_at hm hB)).mono ?_; rintro e w1 ⟨rfl, hb⟩; (try replace hS := hS.below hb hS.lt); (try replace hQ := hQ.below hb hQ.lt); (try replace hXA := hXA.below hb hXA.lt); (try replace hXB := hXB.below hb hXB.lt); (try replace hT1 := rdB hT1 hb); (try replace hT2 := rdB hT2 hb); (try replace hC := rdB hC hb); (try replace hD := rdB hD hb); (try replace hV := rdB hV hb); replace hB := hB.trans (hb.mono hB.size); (try clear qhS); (try clear qhQ); (try clear qhXA); (try clear qhXB); clear hb; (try have qhS := fun i => Blk.cell hS i); (try have qhQ := fun i => Blk.cell hQ i); (try have qhXA := fun i => Blk.cell hXA i); (try have qhXB := fun i => Blk.cell hXB i)))
    go_ret
    exact ⟨rfl, hB⟩
  · clear HFIN
    go_upto_region 13 with (first | (go_at_call 35; have hx := hwdone; clear hx; refine (whole_any W H F L X Y hDA rsD.length hDc rsD _ hld hsd hD).mono ?_; rintro e w1 ⟨rfl, hb⟩; rw [HWD.out]; clear hwdone; (try replace hS := hS.below hb hS.lt); (try replace hQ := hQ.below hb hQ.lt); (try replace hXA := hXA.below hb hXA.lt); (try replace hXB := hXB.below hb hXB.lt); (try replace hT1 := rdB hT1 hb); (try replace hT2 := rdB hT2 hb); (try replace hC := rdB hC hb); (try replace hD := rdB hD hb); (try replace hV := rdB hV hb); replace hB := hB.trans (hb.mono hB.size); (try clear qhS); (try clear qhQ); (try clear qhXA); (try clear qhXB); clear hb; (try have qhS := fun i => Blk.cell hS i); (try have qhQ := fun i => Blk.cell hQ i); (try have qhXA := fun i => Blk.cell hXA i); (try have qhXB := fun i => Blk.cell hXB i)) | (go_at_call 35; refine (whole_any W H F L X Y hCA rsC.length hCc rsC _ hlc hsc hC).mono ?_; rintro e w1 ⟨rfl, hb⟩; rw [HWC.out]; have hwdone : (0 : Nat) = 0 := rfl; (try replace hS := hS.below hb hS.lt); (try replace hQ := hQ.below hb hQ.lt); (try replace hXA := hXA.below hb hXA.lt); (try replace hXB := hXB.below hb hXB.lt); (try replace hT1 := rdB hT1 hb); (try replace hT2 := rdB hT2 hb); (try replace hC := rdB hC hb); (try replace hD := rdB hD hb); (try replace hV := rdB hV hb); replace hB := hB.trans (hb.mono hB.size); (try clear qhS); (try clear qhQ); (try clear qhXA); (try clear qhXB); clear hb; (try have qhS := fun i => Blk.cell hS i); (try have qhQ := fun i => Blk.cell hQ i); (try have qhXA := fun i => Blk.cell hXA i); (try have qhXB := fun i => Blk.cell hXB i)))
    go_upto_region 15 with (fail)
    rcases hag with hag | ⟨hag, hor, hh1, hh2⟩
    · as_aux_lemma =>
        go_wp2_with (first | (go_at_call 62; refine (refAgree_any hCA hDA rsC.length hCc rsD.length hDc rsC rsD _ hlc HLD.out HSZ.out hC hD).mono ?_; rintro e w1 ⟨rfl, hb⟩; rw [hag]; (try replace hS := hS.below hb hS.lt); (try replace hQ := hQ.below hb hQ.lt); (try replace hXA := hXA.below hb hXA.lt); (try replace hXB := hXB.below hb hXB.lt); (try replace hT1 := rdB hT1 hb); (try replace hT2 := rdB hT2 hb); (try replace hC := rdB hC hb); (try replace hD := rdB hD hb); (try replace hV := rdB hV hb); replace hB := hB.trans (hb.mono hB.size); (try clear qhS); (try clear qhQ); (try clear qhXA); (try clear qhXB); clear hb; (try have qhS := fun i => Blk.cell hS i); (try have qhQ := fun i => Blk.cell hQ i); (try have qhXA := fun i => Blk.cell hXA i); (try have qhXB := fun i => Blk.cell hXB i)) | (go_at_call 24; refine (known_true m _ (known_at hm hB)).mono ?_; rintro e w1 ⟨rfl, hb⟩; (try replace hS := hS.below hb hS.lt); (try replace hQ := hQ.below hb hQ.lt); (try replace hXA := hXA.below hb hXA.lt); (try replace hXB := hXB.below hb hXB.lt); (try replace hT1 := rdB hT1 hb); (try replace hT2 := rdB hT2 hb); (try replace hC := rdB hC hb); (try replace hD := rdB hD hb); (try replace hV := rdB hV hb); replace hB := hB.trans (hb.mono hB.size); (try clear qhS); (try clear qhQ); (try clear qhXA); (try clear qhXB); clear hb; (try have qhS := fun i => Blk.cell hS i); (try have qhQ := fun i => Blk.cell hQ i); (try have qhXA := fun i => Blk.cell hXA i); (try have qhXB := fun i => Blk.cell hXB i)))
        go_ret
        exact ⟨rfl, hB⟩
    · have hk1 : hT1n ≤ 100000 := by have := HK1.out; omega
      have hk2 : hT2n ≤ 100000 := by have := HK2.out; omega
      go_upto_region 17 with ((go_at_call 62; refine (refAgree_any hCA hDA rsC.length hCc rsD.length hDc rsC rsD _ hlc HLD.out HSZ.out hC hD).mono ?_; rintro e w1 ⟨rfl, hb⟩; rw [hag]; (try replace hS := hS.below hb hS.lt); (try replace hQ := hQ.below hb hQ.lt); (try replace hXA := hXA.below hb hXA.lt); (try replace hXB := hXB.below hb hXB.lt); (try replace hT1 := rdB hT1 hb); (try replace hT2 := rdB hT2 hb); (try replace hC := rdB hC hb); (try replace hD := rdB hD hb); (try replace hV := rdB hV hb); replace hB := hB.trans (hb.mono hB.size); (try clear qhS); (try clear qhQ); (try clear qhXA); (try clear qhXB); clear hb; (try have qhS := fun i => Blk.cell hS i); (try have qhQ := fun i => Blk.cell hQ i); (try have qhXA := fun i => Blk.cell hXA i); (try have qhXB := fun i => Blk.cell hXB i)))
      rcases hor with hor | ⟨rfl, hor⟩
      · as_aux_lemma =>
          go_wp2_with (first | (go_at_call 73; have hx := hdn; clear hx; refine (has_any hT2A hT2n hT2c tl2 n2 _ hk2 hT2).mono ?_; rintro e w1 ⟨rfl, rfl⟩; rw [hh2]) | (go_at_call 73; refine (has_any hT1A hT1n hT1c tl1 n1 _ hk1 hT1).mono ?_; rintro e w1 ⟨rfl, rfl⟩; rw [hh1]; have hdn : (0 : Nat) = 0 := rfl) | (go_at_call 24; refine (known_true m _ (known_at hm hB)).mono ?_; rintro e w1 ⟨rfl, hb⟩; (try replace hS := hS.below hb hS.lt); (try replace hQ := hQ.below hb hQ.lt); (try replace hXA := hXA.below hb hXA.lt); (try replace hXB := hXB.below hb hXB.lt); (try replace hT1 := rdB hT1 hb); (try replace hT2 := rdB hT2 hb); (try replace hC := rdB hC hb); (try replace hD := rdB hD hb); (try replace hV := rdB hV hb); replace hB := hB.trans (hb.mono hB.size); (try clear qhS); (try clear qhQ); (try clear qhXA); (try clear qhXB); clear hb; (try have qhS := fun i => Blk.cell hS i); (try have qhQ := fun i => Blk.cell hQ i); (try have qhXA := fun i => Blk.cell hXA i); (try have qhXB := fun i => Blk.cell hXB i)))
          go_ret
          exact ⟨rfl, hB⟩
      · as_aux_lemma =>
          go_wp2_with (first | (go_at_call 73; have hx := hdn; clear hx; refine (has_any hT2A hT2n hT2c tl2 n2 _ hk2 hT2).mono ?_; rintro e w1 ⟨rfl, rfl⟩; rw [hh2]) | (go_at_call 73; refine (has_any hT1A hT1n hT1c tl1 n1 _ hk1 hT1).mono ?_; rintro e w1 ⟨rfl, rfl⟩; rw [hh1]; have hdn : (0 : Nat) = 0 := rfl) | (go_at_call 24; refine (known_true m _ (known_at hm hB)).mono ?_; rintro e w1 ⟨rfl, hb⟩; (try replace hS := hS.below hb hS.lt); (try replace hQ := hQ.below hb hQ.lt); (try replace hXA := hXA.below hb hXA.lt); (try replace hXB := hXB.below hb hXB.lt); (try replace hT1 := rdB hT1 hb); (try replace hT2 := rdB hT2 hb); (try replace hC := rdB hC hb); (try replace hD := rdB hD hb); (try replace hV := rdB hV hb); replace hB := hB.trans (hb.mono hB.size); (try clear qhS); (try clear qhQ); (try clear qhXA); (try clear qhXB); clear hb; (try have qhS := fun i => Blk.cell hS i); (try have qhQ := fun i => Blk.cell hQ i); (try have qhXA := fun i => Blk.cell hXA i); (try have qhXB := fun i => Blk.cell hXB i)))
          go_ret
          exact ⟨rfl, hB⟩
end Go.Proofs.YtifddfchpknkbaaGreatDoor
