import Derived.Test.YtifddfchpknkbaaGreatDoorSx
import Derived.Test.YtifddfchpknkbaaGreatDoorHd
import Derived.Test.YtifddfchpknkbaaGreatDoorK
set_option linter.unusedVariables false
set_option linter.unusedSimpArgs false
namespace Go.Proofs.YtifddfchpknkbaaGreatDoor
open Go.RowKit

/-- A cell of the sight in which some cells of a shadow are seen. -/
def sgG (s : ByteArray) (cs : List Int) (W : Nat) (c q : Nat) : Int := if 0 < (cs[q * W + c]?).getD 0 then chr s (q * W + c) else 63
set_option maxRecDepth 100000 in
set_option maxHeartbeats 25600000 in
theorem seen_main (Wn Hn : Nat) (F L X Y nl nh xl xh y n1 x1 : Int) (i1 : Nat) (A : Option Addr) (n cap : Nat) (fs : List Fig) (CA : Option Addr) (cn ccap : Nat) (cs : List Int) (m : Int) (w : World) (hm : w.cell? ⟨0, 0, none⟩ = some (.int .i64 m)) (hcap : n ≤ cap) (hcm : cap ≤ maxLen) (hf : ∀ f ∈ fs, f.ok w w.heap.size) (hr : Rd w w.heap.size 1 A n (fs.map Fig.val)) (hcn : cn ≤ ccap) (hccm : ccap ≤ maxLen) (hcr : Rd w w.heap.size 1 CA cn (cs.map (Value.int .i64))) (A1 : Option Addr) (m1 cap1 : Nat) (rows1 : List ByteArray) (s sg : ByteArray) (rl : List Tr) (wl : List Int) (zi : Int)
    (hfw : fewB fs = true) (hc3 : ¬ (300 : Int) < cn) (hak : askV (askB Wn Hn F L X Y nl nh xl xh y fs && true) = 0) (hr1 : readB n nl nh xl xh y i1 n1 x1 y = true) (hW1 : 1 ≤ Wn) (hW : Wn ≤ 16) (hH : Hn ≤ 16) (g1 : i1 < fs.length) (HG1 : Hid (fs[i1] = ⟨A1, m1, cap1, rows1⟩))
    (HEC : Hid (errV (viewB Wn Hn F L X Y n1 x1 y rows1) = .int .i64 0)) (HRC : Hid (rowsOf s Wn Hn = shadowRows Wn Hn F L X Y n1 x1 y rows1)) (hss : s.size = Wn * Hn) (HWC : Hid (wholeB Wn Hn (rowsOf s Wn Hn) = true))
    (HROW : Hid (∀ q, q < Hn → strOfNums ((List.range Wn).map fun c => sgG s cs Wn c q) = sg.extract (q * Wn) (q * Wn + Wn))) (HSGR : Hid (∀ r ∈ (rowsOf sg Wn Hn), r.size ≤ 100000)) (HSGW : Hid (∀ r ∈ (rowsOf sg Wn Hn), r.size = Wn))
    (HRE : Hid (readsE Wn Hn F L X Y nl nh xl xh y fs (rowsOf sg Wn Hn) = 0)) (HRL : Hid (readsL Wn Hn F L X Y nl nh xl xh y fs (rowsOf sg Wn Hn) = rl)) (hrl : rl.length ≤ 216) (hin : ((i1 : Int), n1, x1) ∈ rl) (HWE : Hid (whoE Wn Hn F L X Y nl nh xl xh y fs (rowsOf sg Wn Hn) = 0)) (HWL : Hid (whoL Wn Hn F L X Y nl nh xl xh y fs (rowsOf sg Wn Hn) = wl)) (hwl : wl.length = n) (hn6 : n ≤ 6)
    (HW3 : Hid (∀ z ∈ wl, z = 1 ∨ z = 2 ∨ z = 3)) (hzi : wl[i1]? = some zi) (hzi1 : zi ≠ 1) (HFIN : Hid (((wl.filter fun z => z == 3).length = 1 ∧ (wl.filter fun z => z == 2).length = 0 ∧ zi = 3) ∨ ((wl.filter fun z => z == 3).length = 0 ∧ 2 ≤ (wl.filter fun z => z == 2).length)))
    (HRD : Hid (∀ t ∈ rl, readB n nl nh xl xh y t.1 t.2.1 t.2.2 y = true)) (HV : Hid (∀ t ∈ rl, ∃ (k : Nat) (hk : k < fs.length), t.1 = (k : Int) ∧ viewB Wn Hn F L X Y t.2.1 t.2.2 y (fs[k]).rows = true ∧ wholeB Wn Hn (rowsOf (shS Wn Hn F L X Y t.2.1 t.2.2 y (fs[k]).rows) Wn Hn) = true ∧ agreeR (rowsOf (shS Wn Hn F L X Y t.2.1 t.2.2 y (fs[k]).rows) Wn Hn) (rowsOf sg Wn Hn) = true ∧ ∀ z, wl[k]? = some z → z ≠ 1)) :
    Calls Tryz.prog 11 #[.agg #[.int .i64 Wn, .int .i64 Hn, .int .i64 F, .int .i64 L, .int .i64 X, .int .i64 Y], .slice A n cap, .agg #[.int .i64 nl, .int .i64 nh, .int .i64 xl, .int .i64 xh, .int .i64 y], .agg #[.int .i64 (i1 : Nat), .int .i64 n1, .int .i64 x1, .int .i64 y], .slice CA cn ccap] w fun e w' => e = .returned (.bool true) ∧ Below w.heap.size w w' := by
  obtain ⟨i5, hi5, hz5, hz51, hz52⟩ := info_parts info5
  obtain ⟨i9, hi9, hz9, hz91, hz92⟩ := info_parts info9
  have hn : n ≤ maxLen := Nat.le_trans hcap hcm
  have hsr : ∀ r ∈ rowsOf s Wn Hn, r.size ≤ 100000 := fun r hr => by obtain ⟨i, hi, rfl⟩ := rowsOf_mem hr; rw [cut_size hss hi]; omega
  go_enter Tryz.func11, Tryz.ntmps11
  go_upto_region 1 with (fail)
  have hS := blk3_0 w (.cells #[.int .i64 nl, .int .i64 nh, .int .i64 xl, .int .i64 xh, .int .i64 y] 71) (.cells #[.int .i64 (i1 : Nat), .int .i64 n1, .int .i64 x1, .int .i64 y] 86) 23 #[.int .i64 Wn, .int .i64 Hn, .int .i64 F, .int .i64 L, .int .i64 X, .int .i64 Y]
  have hQ := blk3_1 w (.cells #[.int .i64 Wn, .int .i64 Hn, .int .i64 F, .int .i64 L, .int .i64 X, .int .i64 Y] 23) (.cells #[.int .i64 (i1 : Nat), .int .i64 n1, .int .i64 x1, .int .i64 y] 86) 71 #[.int .i64 nl, .int .i64 nh, .int .i64 xl, .int .i64 xh, .int .i64 y]
  have hX := blk3_2 w (.cells #[.int .i64 Wn, .int .i64 Hn, .int .i64 F, .int .i64 L, .int .i64 X, .int .i64 Y] 23) (.cells #[.int .i64 nl, .int .i64 nh, .int .i64 xl, .int .i64 xh, .int .i64 y] 71) 86 #[.int .i64 (i1 : Nat), .int .i64 n1, .int .i64 x1, .int .i64 y]
  have hB := pro_3 w (.cells #[.int .i64 Wn, .int .i64 Hn, .int .i64 F, .int .i64 L, .int .i64 X, .int .i64 Y] 23) (.cells #[.int .i64 nl, .int .i64 nh, .int .i64 xl, .int .i64 xh, .int .i64 y] 71) (.cells #[.int .i64 (i1 : Nat), .int .i64 n1, .int .i64 x1, .int .i64 y] 86)
  generalize ((w.alloc (.cells #[.int .i64 Wn, .int .i64 Hn, .int .i64 F, .int .i64 L, .int .i64 X, .int .i64 Y] 23)).alloc (.cells #[.int .i64 nl, .int .i64 nh, .int .i64 xl, .int .i64 xh, .int .i64 y] 71)).alloc (.cells #[.int .i64 (i1 : Nat), .int .i64 n1, .int .i64 x1, .int .i64 y] 86) = W0 at *
  have qhS := fun i => Blk.cell hS i
  have qhQ := fun i => Blk.cell hQ i
  have qhX := fun i => Blk.cell hX i
  go_upto_region 3 with (first | (go_at_call 39; refine (few_any A n cap fs _ hn (fun f h => ((hf f h).below hB).more hB.size) (rdB hr hB)).mono ?_; rintro e w1 ⟨rfl, rfl⟩; rw [hfw]) | (go_at_call 54; refine (asked_any Wn Hn F L X Y nl nh xl xh y A n cap fs true _ hn (fun f h => ((hf f h).below hB).more hB.size) (rdB hr hB)).mono ?_; rintro e w1 ⟨rfl, hb⟩; rw [hak]; (try replace hS := hS.below hb hS.lt); (try replace hQ := hQ.below hb hQ.lt); (try replace hX := hX.below hb hX.lt); replace hB := hB.trans (hb.mono hB.size); (try clear qhS); (try clear qhQ); (try clear qhX); clear hb; (try have qhS := fun i => Blk.cell hS i); (try have qhQ := fun i => Blk.cell hQ i); (try have qhX := fun i => Blk.cell hX i)) | (go_at_call 60; refine (reading_any nl nh xl xh y i1 n1 x1 y A n cap _).mono ?_; rintro e w1 ⟨rfl, hb⟩; rw [hr1]; (try replace hS := hS.below hb hS.lt); (try replace hQ := hQ.below hb hQ.lt); (try replace hX := hX.below hb hX.lt); replace hB := hB.trans (hb.mono hB.size); (try clear qhS); (try clear qhQ); (try clear qhX); clear hb; (try have qhS := fun i => Blk.cell hS i); (try have qhQ := fun i => Blk.cell hQ i); (try have qhX := fun i => Blk.cell hX i)))
  clear hfw hak hr1
  have hlen := hr.len
  have hi1 : (i1 : Int) < n := by omega
  rename World => WA
  have hrW := rdB hr hB
  obtain ⟨b, off, rfl, hbb, hcf⟩ := hrW.2 (by omega)
  have c1 : WA.cell? ⟨b, off + i1, none⟩ = some (Fig.val fs[i1]) := hcf i1 (Fig.val fs[i1]) (by simp [g1])
  have o1 := hf _ (List.getElem_mem g1)
  rw [HG1.out] at c1 o1
  simp only [Fig.val] at c1
  obtain ⟨hc11, hc12, hs1, hR1⟩ := o1
  dsimp only at hc11 hc12 hs1 hR1
  clear hcf HG1 hrW
  rename World => WR
  refine wp_region_G (fun w' => Below WR.drew.heap.size WR.drew w') 13 (by kernel_rfl) ?_
  replace hS := hS.drew
  replace hQ := hQ.drew
  replace hX := hX.drew
  replace hB := hB.drew
  (try clear qhS qhQ qhX)
  replace hbb : b < WR.drew.heap.size := hbb
  replace c1 : WR.drew.cell? _ = _ := c1
  generalize WR.drew = WD at *
  have hTT : Below WD.heap.size WD WD := Below.refl _ _
  refine wpG_take (i := 0) (v := ?vz1_0) rfl (by kernel_rfl) (by kernel_rfl) (by kernel_rfl) (by kernel_rfl) (fun _ _ _ h => h) (Or.inl ⟨by rfl, ?hyz1_0⟩) hTT ?restz1_0
  case hyz1_0 => intro wq hSw; have qhS := fun i => (Blk.below hS hSw hS.lt).cell i; have qhQ := fun i => (Blk.below hQ hSw hQ.lt).cell i; have qhX := fun i => (Blk.below hX hSw hX.lt).cell i; have e1 := (hSw.cell (p := ⟨b, off + i1, none⟩) hbb).trans c1; go_simp <;> with_reducible rfl
  simp only [List.getElem_toArray, List.getElem_cons_zero, List.getElem_cons_succ, Act.put, List.setIfInBounds_toArray, List.set_cons_zero, List.set_cons_succ]
  refine wpG_take (i := 1) (v := ?vz1_1) rfl (by kernel_rfl) (by kernel_rfl) (by kernel_rfl) (by kernel_rfl) (fun _ _ _ h => h) (Or.inl ⟨by rfl, ?hyz1_1⟩) hTT ?restz1_1
  case hyz1_1 => intro wq hSw; have qhS := fun i => (Blk.below hS hSw hS.lt).cell i; have qhQ := fun i => (Blk.below hQ hSw hQ.lt).cell i; have qhX := fun i => (Blk.below hX hSw hX.lt).cell i; have e1 := (hSw.cell (p := ⟨b, off + i1, none⟩) hbb).trans c1; go_simp <;> with_reducible rfl
  simp only [List.getElem_toArray, List.getElem_cons_zero, List.getElem_cons_succ, Act.put, List.setIfInBounds_toArray, List.set_cons_zero, List.set_cons_succ]
  refine wpG_take (i := 2) (v := ?vz1_2) rfl (by kernel_rfl) (by kernel_rfl) (by kernel_rfl) (by kernel_rfl) (fun _ _ _ h => h) (Or.inl ⟨by rfl, ?hyz1_2⟩) hTT ?restz1_2
  case hyz1_2 => intro wq hSw; have qhS := fun i => (Blk.below hS hSw hS.lt).cell i; have qhQ := fun i => (Blk.below hQ hSw hQ.lt).cell i; have qhX := fun i => (Blk.below hX hSw hX.lt).cell i; have e1 := (hSw.cell (p := ⟨b, off + i1, none⟩) hbb).trans c1; go_simp <;> with_reducible rfl
  simp only [List.getElem_toArray, List.getElem_cons_zero, List.getElem_cons_succ, Act.put, List.setIfInBounds_toArray, List.set_cons_zero, List.set_cons_succ]
  refine wpG_take (i := 3) (v := ?vz1_3) rfl (by kernel_rfl) (by kernel_rfl) (by kernel_rfl) (by kernel_rfl) (fun _ _ _ h => h) (Or.inl ⟨by rfl, ?hyz1_3⟩) hTT ?restz1_3
  case hyz1_3 => intro wq hSw; have qhS := fun i => (Blk.below hS hSw hS.lt).cell i; have qhQ := fun i => (Blk.below hQ hSw hQ.lt).cell i; have qhX := fun i => (Blk.below hX hSw hX.lt).cell i; have e1 := (hSw.cell (p := ⟨b, off + i1, none⟩) hbb).trans c1; go_simp <;> with_reducible rfl
  simp only [List.getElem_toArray, List.getElem_cons_zero, List.getElem_cons_succ, Act.put, List.setIfInBounds_toArray, List.set_cons_zero, List.set_cons_succ]
  refine wpG_take (i := 4) (v := ?vz1_4) rfl (by kernel_rfl) (by kernel_rfl) (by kernel_rfl) (by kernel_rfl) (fun _ _ _ h => h) (Or.inl ⟨by rfl, ?hyz1_4⟩) hTT ?restz1_4
  case hyz1_4 => intro wq hSw; have qhS := fun i => (Blk.below hS hSw hS.lt).cell i; have qhQ := fun i => (Blk.below hQ hSw hQ.lt).cell i; have qhX := fun i => (Blk.below hX hSw hX.lt).cell i; have e1 := (hSw.cell (p := ⟨b, off + i1, none⟩) hbb).trans c1; go_simp <;> with_reducible rfl
  simp only [List.getElem_toArray, List.getElem_cons_zero, List.getElem_cons_succ, Act.put, List.setIfInBounds_toArray, List.set_cons_zero, List.set_cons_succ]
  refine wpG_take (i := 5) (v := ?vz1_5) rfl (by kernel_rfl) (by kernel_rfl) (by kernel_rfl) (by kernel_rfl) (fun _ _ _ h => h) (Or.inl ⟨by rfl, ?hyz1_5⟩) hTT ?restz1_5
  case hyz1_5 => intro wq hSw; have qhS := fun i => (Blk.below hS hSw hS.lt).cell i; have qhQ := fun i => (Blk.below hQ hSw hQ.lt).cell i; have qhX := fun i => (Blk.below hX hSw hX.lt).cell i; have e1 := (hSw.cell (p := ⟨b, off + i1, none⟩) hbb).trans c1; go_simp <;> with_reducible rfl
  simp only [List.getElem_toArray, List.getElem_cons_zero, List.getElem_cons_succ, Act.put, List.setIfInBounds_toArray, List.set_cons_zero, List.set_cons_succ]
  refine wpG_take (i := 6) (v := ?vz1_6) rfl (by kernel_rfl) (by kernel_rfl) (by kernel_rfl) (by kernel_rfl) (fun _ _ _ h => h) (Or.inl ⟨by rfl, ?hyz1_6⟩) hTT ?restz1_6
  case hyz1_6 => intro wq hSw; have qhS := fun i => (Blk.below hS hSw hS.lt).cell i; have qhQ := fun i => (Blk.below hQ hSw hQ.lt).cell i; have qhX := fun i => (Blk.below hX hSw hX.lt).cell i; have e1 := (hSw.cell (p := ⟨b, off + i1, none⟩) hbb).trans c1; go_simp <;> with_reducible rfl
  simp only [List.getElem_toArray, List.getElem_cons_zero, List.getElem_cons_succ, Act.put, List.setIfInBounds_toArray, List.set_cons_zero, List.set_cons_succ]
  refine wpG_take (i := 7) (v := ?vz1_7) rfl (by kernel_rfl) (by kernel_rfl) (by kernel_rfl) (by kernel_rfl) (fun _ _ _ h => h) (Or.inl ⟨by rfl, ?hyz1_7⟩) hTT ?restz1_7
  case hyz1_7 => intro wq hSw; have qhS := fun i => (Blk.below hS hSw hS.lt).cell i; have qhQ := fun i => (Blk.below hQ hSw hQ.lt).cell i; have qhX := fun i => (Blk.below hX hSw hX.lt).cell i; have e1 := (hSw.cell (p := ⟨b, off + i1, none⟩) hbb).trans c1; go_simp <;> with_reducible rfl
  simp only [List.getElem_toArray, List.getElem_cons_zero, List.getElem_cons_succ, Act.put, List.setIfInBounds_toArray, List.set_cons_zero, List.set_cons_succ]
  refine wpG_one (i := 8) rfl (by kernel_rfl) (fun K hK => ?_)
  go_simp
  refine (Shadow_any Wn Hn F L X Y n1 x1 y A1 m1 cap1 rows1 _ hc11 hc12 hs1 (rdB hR1 hB)).mono ?_; rintro e w1 ⟨vv, rfl, own, hb⟩; rw [HEC.out]; rw [← HRC.out, rowsOf_len] at own; obtain ⟨hCA, hCc, rfl⟩ := own_slice own; have hC := Rd.of_own own; clear own; replace hTT := hTT.trans (hb.mono hTT.size); replace hS := hS.below hb hS.lt; replace hQ := hQ.below hb hQ.lt; replace hX := hX.below hb hX.lt; replace hB := hB.trans (hb.mono hB.size); clear hb c1 hbb; dsimp only
  refine hK _ _ (.inr hTT) ?_
  clear hK K
  try simp only [List.getElem_toArray, List.getElem_cons_zero, List.getElem_cons_succ, Act.put, List.setIfInBounds_toArray, List.set_cons_zero, List.set_cons_succ]
  refine wpG_take (i := 9) (v := ?vz1_9) rfl (by kernel_rfl) (by kernel_rfl) (by kernel_rfl) (by kernel_rfl) (fun _ _ _ h => h) (Or.inl ⟨by rfl, ?hyz1_9⟩) hTT ?restz1_9
  case hyz1_9 => intro wq hSw; skip; go_simp <;> with_reducible rfl
  simp only [List.getElem_toArray, List.getElem_cons_zero, List.getElem_cons_succ, Act.put, List.setIfInBounds_toArray, List.set_cons_zero, List.set_cons_succ]
  refine wpG_take (i := 10) (v := ?vz1_10) rfl (by kernel_rfl) (by kernel_rfl) (by kernel_rfl) (by kernel_rfl) (fun _ _ _ h => h) (Or.inl ⟨by rfl, ?hyz1_10⟩) hTT ?restz1_10
  case hyz1_10 => intro wq hSw; skip; go_simp <;> with_reducible rfl
  simp only [List.getElem_toArray, List.getElem_cons_zero, List.getElem_cons_succ, Act.put, List.setIfInBounds_toArray, List.set_cons_zero, List.set_cons_succ]
  refine wpG_take (i := 11) (v := ?vz1_11) rfl (by kernel_rfl) (by kernel_rfl) (by kernel_rfl) (by kernel_rfl) (fun _ _ _ h => h) (Or.inl ⟨by rfl, ?hyz1_11⟩) hTT ?restz1_11
  case hyz1_11 => intro wq hSw; skip; go_simp <;> with_reducible rfl
  simp only [List.getElem_toArray, List.getElem_cons_zero, List.getElem_cons_succ, Act.put, List.setIfInBounds_toArray, List.set_cons_zero, List.set_cons_succ]
  refine wpG_take (i := 12) (v := ?vz1_12) rfl (by kernel_rfl) (by kernel_rfl) (by kernel_rfl) (by kernel_rfl) (fun _ _ _ h => h) (Or.inl ⟨by rfl, ?hyz1_12⟩) hTT ?restz1_12
  case hyz1_12 => intro wq hSw; skip; go_simp <;> with_reducible rfl
  simp only [List.getElem_toArray, List.getElem_cons_zero, List.getElem_cons_succ, Act.put, List.setIfInBounds_toArray, List.set_cons_zero, List.set_cons_succ]
  refine wpG_one (i := 13) rfl (by kernel_rfl) (fun K hK => ?_)
  go_simp
  refine hK _ _ (.inl rfl) ?_
  clear hK K
  try simp only [List.getElem_toArray, List.getElem_cons_zero, List.getElem_cons_succ, Act.put, List.setIfInBounds_toArray, List.set_cons_zero, List.set_cons_succ]
  refine wpG_done (by kernel_rfl) ?_ _
  clear hTT
  have qhS := fun i => Blk.cell hS i
  have qhQ := fun i => Blk.cell hQ i
  have qhX := fun i => Blk.cell hX i
  clear hR1 hs1 HEC HRC hc11 hc12
  go_upto_region 6 with ((go_at_call 35; refine (whole_any Wn Hn F L X Y hCA Hn hCc (rowsOf s Wn Hn) _ (by omega) hsr hC).mono ?_; rintro e w1 ⟨rfl, hb⟩; rw [HWC.out]; (try replace hS := hS.below hb hS.lt); (try replace hQ := hQ.below hb hQ.lt); (try replace hX := hX.below hb hX.lt); (try replace hC := rdB hC hb); (try replace hG := rdB hG hb); (try replace hY := rdB hY hb); (try replace hW := rdB hW hb); replace hB := hB.trans (hb.mono hB.size); (try clear qhS); (try clear qhQ); (try clear qhX); clear hb; (try have qhS := fun i => Blk.cell hS i); (try have qhQ := fun i => Blk.cell hQ i); (try have qhX := fun i => Blk.cell hX i)))
  clear HWC
  go_wp2_with (fail)
  rename World => W6
  have hB0 := hB
  clear qhS qhQ qhX
  have hm1 := i64_ok ((Hn : Nat) : Int) (by omega)
  go_loopg [13, 14] Hn (fun g v i wr => ∃ (q : Nat) (v0 : Value), g = Hn - q ∧ q ≤ Hn ∧ i = .int .i64 q ∧ v = v0 ∧ wr.ownsRow W6.heap.size 9 1 v0 q ((rowsOf sg Wn q).map Value.string) ∧ Below W6.heap.size W6 wr)
  case atStart => exact ⟨0, _, rfl, Nat.zero_le _, rfl, rfl, World.ownsRow_nil _ _ _ _, Below.refl _ _⟩
  case round =>
    obtain ⟨q, v, hg, hq, rfl, rfl, hown, hB6⟩ := hrel
    obtain ⟨va, vc, rfl⟩ := own_slice hown
    have HG := Lib.hid hg; clear hg
    have qhS := fun i => Blk.cell (hS.below hB6 hS.lt) i; have qhQ := fun i => Blk.cell (hQ.below hB6 hQ.lt) i; have qhX := fun i => Blk.cell (hX.below hB6 hX.lt) i
    by_cases hlt : q < Hn
    · as_aux_lemma =>
      have hlti : (q : Int) < Hn := by omega
      go_wp2_with (fail)
      clear qhS qhQ qhX
      go_loopg [15, 16] Wn (fun g v i wr => ∃ (k : Nat) (v1 : Value), g = Wn - k ∧ k ≤ Wn ∧ i = .int .i64 k ∧ v = v1 ∧ wr.ownsRow W6.heap.size 5 1 v1 k (((List.range k).map fun c => sgG s cs Wn c q).map (Value.int .u8)) ∧ wr.ownsRow W6.heap.size 9 1 (.slice va q vc) q ((rowsOf sg Wn q).map Value.string) ∧ Below W6.heap.size W6 wr)
      case atStart => exact ⟨0, _, rfl, Nat.zero_le _, rfl, rfl, World.ownsRow_nil _ _ _ _, hown, hB6⟩
      case round =>
        clear hown hB6
        obtain ⟨k, v, hg, hk, rfl, rfl, hin5, hown, hB6⟩ := hrel
        obtain ⟨ua, uc, rfl⟩ := own_slice hin5
        have HG2 := Lib.hid hg; clear hg
        have qhS := fun i => Blk.cell (hS.below hB6 hS.lt) i; have qhQ := fun i => Blk.cell (hQ.below hB6 hQ.lt) i; have qhX := fun i => Blk.cell (hX.below hB6 hX.lt) i
        rename World => W0
        by_cases hlt2 : k < Wn
        · have hlt2i : (k : Int) < Wn := by omega
          have hqW : q * Wn ≤ 256 := Nat.le_trans (Nat.mul_le_mul (show q ≤ 16 by omega) hW) (by omega)
          obtain ⟨p, hp⟩ : ∃ p, p = q * Wn := ⟨_, rfl⟩
          have wp0 : IntKind.i64.wrap ((q : Int) * Wn) = p := by rw [hp, Int.natCast_mul]; exact i64_ok _ (by rw [← Int.natCast_mul]; omega)
          obtain ⟨j, hj⟩ : ∃ j, j = p + k := ⟨_, rfl⟩
          have wj0 : IntKind.i64.wrap ((p : Int) + k) = j := by rw [hj, Int.natCast_add]; exact i64_ok _ (by omega)
          have hval : sgG s cs Wn k q = if 0 < (cs[j]?).getD 0 then chr s j else 63 := by unfold sgG; rw [hj, hp]
          have hsn : ((List.range (k + 1)).map fun c => sgG s cs Wn c q).map (Value.int .u8) = ((List.range k).map fun c => sgG s cs Wn c q).map (Value.int .u8) ++ [.int .u8 (sgG s cs Wn k q)] := by rw [List.range_succ, List.map_append, List.map_append]; rfl
          obtain ⟨xs, hxs⟩ : ∃ xs, xs = ((List.range k).map fun c => sgG s cs Wn c q).map (Value.int .u8) := ⟨_, rfl⟩
          rw [← hxs] at hin5
          have hjs : j < s.size := by
            have h1 := Nat.mul_le_mul_right Wn (show q + 1 ≤ Hn by omega)
            rw [Nat.add_mul, Nat.one_mul, Nat.mul_comm Hn Wn] at h1
            omega
          have hjm : j ≤ 10000 := by omega
          have hclen := hcr.len
          have hrow : (rowsOf s Wn Hn)[q]? = some (s.extract (q * Wn) (q * Wn + Wn)) := rowsOf_get hlt
          have hrsz := cut_size hss hlt
          have hrat := cut_at hss hlt hlt2
          have hj2 : q * Wn + k = j := by rw [hj, hp]
          have hsj : (ltr s)[j]? = some (chr s j) := by unfold chr; rw [List.getElem?_eq_getElem (by rw [ltr_len]; exact hjs)]; rfl
          rw [hj2, hsj] at hrat
          have HSN := Lib.hid hsn; have HXS := Lib.hid hxs; have HJ := Lib.hid hj; have HP := Lib.hid hp
          clear hsn hxs hj hp hqW hsj hj2
          by_cases hjc : j < cn
          · have hjci : (j : Int) < cn := by omega
            have hjl : j < cs.length := by omega
            obtain ⟨bC, oC, rfl, hbC, hcc⟩ := (rdB hcr (hB0.trans (hB6.mono hB0.size))).2 (by omega)
            have cj := hcc j (.int .i64 cs[j]) (by simp [hjl])
            have hgd : (cs[j]?).getD 0 = cs[j] := by rw [List.getElem?_eq_getElem hjl]; rfl
            rw [hgd] at hval
            generalize cs[j] = zc at *
            clear hcc hgd
            by_cases hz : 0 < zc
            · rw [if_pos hz] at hval
              obtain ⟨bS, oS, hzz, rfl, hbS, cS⟩ := (rdB hC hB6).atm (k := q) hlt
              have hrq : (rowsOf s Wn Hn)[q] = s.extract (q * Wn) (q * Wn + Wn) := by rw [List.getElem?_eq_getElem hzz] at hrow; exact Option.some.inj hrow
              rw [hrq] at cS
              generalize s.extract (q * Wn) (q * Wn + Wn) = row at *
              obtain ⟨hkr, hkv⟩ := ltr_get hrat
              have hkri : (k : Int) < row.size := by omega
              have hval2 : sgG s cs Wn k q = ((row[k]'hkr).toNat : Int) := by rw [hval, hkv]
              have HVAL := Lib.hid hval2; clear hval hval2 hkv hrat hrow hrq hrsz
              as_aux_lemma =>
                go_wp2_with (first | (at_builtin; refine wpList_append_any _ rfl _ _ 89 rfl W6.heap.size 5 i5 (.int .u8 0) 1 1 Tryz.underlying89 hi5 hz5 hz51 hz52 rfl (by decide) (.slice ua k uc) k xs rfl (hin5.alloc _) (W0.heap.size + 1) (some ⟨W0.heap.size, 0, none⟩) 1 1 [.int .u8 ((row[k]'hkr).toNat : Int)] rfl (Rd.blkN (Blk.new W0 5 #[.int .u8 ((row[k]'hkr).toNat : Int)]) rfl (Nat.lt_succ_self _)).reads (by simp [Value.oneCell']) (by unfold maxLen; omega) (by omega) (by have := hB6.size; simp only [World.size_alloc]; omega) (fun v' w' hown' hgrow hob => ?_)) | go_in)
                have hin5a := hin5.alloc (.cells #[.int .u8 ((row[k]'hkr).toNat : Int)] 5)
                have hown2 := (hown.alloc (.cells #[.int .u8 ((row[k]'hkr).toNat : Int)] 5)).kept hgrow (own_ne (hown.alloc (.cells #[.int .u8 ((row[k]'hkr).toNat : Int)] 5)) hin5a (by decide))
                have hB2 := (hB6.alloc hB6.size (.cells #[.int .u8 ((row[k]'hkr).toNat : Int)] 5)).grown hgrow (by have := hB6.size; simp only [World.size_alloc]; omega) (fun z hz => (hin5a.lt z hz).1)
                go_roundg (Wn - (k + 1))
                case measure => rw [HG2.out]; omega
                case rel => exact ⟨k + 1, _, rfl, by omega, by go_num, rfl, by rw [HSN.out, HVAL.out, ← HXS.out]; exact hown', hown2, hB2⟩
            · rw [if_neg hz] at hval
              have HVAL := Lib.hid hval; clear hval hrat hrow hrsz
              as_aux_lemma =>
                go_wp2_with (first | (at_builtin; refine wpList_append_any _ rfl _ _ 89 rfl W6.heap.size 5 i5 (.int .u8 0) 1 1 Tryz.underlying89 hi5 hz5 hz51 hz52 rfl (by decide) (.slice ua k uc) k xs rfl (hin5.alloc _) (W0.heap.size + 1) (some ⟨W0.heap.size, 0, none⟩) 1 1 [.int .u8 63] rfl (Rd.blkN (Blk.new W0 5 #[.int .u8 63]) rfl (Nat.lt_succ_self _)).reads (by simp [Value.oneCell']) (by unfold maxLen; omega) (by omega) (by have := hB6.size; simp only [World.size_alloc]; omega) (fun v' w' hown' hgrow hob => ?_)) | go_in)
                have hin5a := hin5.alloc (.cells #[.int .u8 63] 5)
                have hown2 := (hown.alloc (.cells #[.int .u8 63] 5)).kept hgrow (own_ne (hown.alloc (.cells #[.int .u8 63] 5)) hin5a (by decide))
                have hB2 := (hB6.alloc hB6.size (.cells #[.int .u8 63] 5)).grown hgrow (by have := hB6.size; simp only [World.size_alloc]; omega) (fun z hz => (hin5a.lt z hz).1)
                go_roundg (Wn - (k + 1))
                case measure => rw [HG2.out]; omega
                case rel => exact ⟨k + 1, _, rfl, by omega, by go_num, rfl, by rw [HSN.out, HVAL.out, ← HXS.out]; exact hown', hown2, hB2⟩
          · have hjci : ¬ (j : Int) < cn := by omega
            have hgd : (cs[j]?).getD 0 = 0 := by rw [List.getElem?_eq_none (by omega)]; rfl
            rw [hgd, if_neg (by decide)] at hval
            have HVAL := Lib.hid hval; clear hval hrat hrow hrsz hgd
            as_aux_lemma =>
              go_wp2_with (first | (at_builtin; refine wpList_append_any _ rfl _ _ 89 rfl W6.heap.size 5 i5 (.int .u8 0) 1 1 Tryz.underlying89 hi5 hz5 hz51 hz52 rfl (by decide) (.slice ua k uc) k xs rfl (hin5.alloc _) (W0.heap.size + 1) (some ⟨W0.heap.size, 0, none⟩) 1 1 [.int .u8 63] rfl (Rd.blkN (Blk.new W0 5 #[.int .u8 63]) rfl (Nat.lt_succ_self _)).reads (by simp [Value.oneCell']) (by unfold maxLen; omega) (by omega) (by have := hB6.size; simp only [World.size_alloc]; omega) (fun v' w' hown' hgrow hob => ?_)) | go_in)
              have hin5a := hin5.alloc (.cells #[.int .u8 63] 5)
              have hown2 := (hown.alloc (.cells #[.int .u8 63] 5)).kept hgrow (own_ne (hown.alloc (.cells #[.int .u8 63] 5)) hin5a (by decide))
              have hB2 := (hB6.alloc hB6.size (.cells #[.int .u8 63] 5)).grown hgrow (by have := hB6.size; simp only [World.size_alloc]; omega) (fun z hz => (hin5a.lt z hz).1)
              go_roundg (Wn - (k + 1))
              case measure => rw [HG2.out]; omega
              case rel => exact ⟨k + 1, _, rfl, by omega, by go_num, rfl, by rw [HSN.out, HVAL.out, ← HXS.out]; exact hown', hown2, hB2⟩
        · have hke : k = Wn := by omega
          subst hke
          have hpos : 0 < k := by omega
          obtain ⟨g', cap', hslice, hg1, hg2⟩ := hin5.form hpos
          injection hslice with hs1 hs2 hs3
          subst hs1 hs3
          have hlen5 : ((List.range k).map fun c => sgG s cs k c q).length = k := by simp
          have hcc := run_convert_bytes_arg (P := Tryz.prog) W0 89 5 Tryz.underlying89 Tryz.underlying5 g' 0 k uc ((List.range k).map fun c => sgG s cs k c q) hlen5 (fun i hi => by
            rw [Nat.zero_add, hin5.cellAt i (by omega)]
            simp [List.getD_eq_getElem?_getD, hi]) 9 Tryz.underlying9
          obtain ⟨st, hst⟩ : ∃ st, st = strOfNums ((List.range k).map fun c => sgG s cs k c q) := ⟨_, rfl⟩
          rw [← hst] at hcc
          have HS := Lib.hid (hst.trans (HROW.out q hlt))
          clear hst hlen5
          have hge : ¬ (k : Int) < (k : Int) := by omega
          go_wp2_with (first
            | (at_builtin; refine wpList_append_any _ rfl _ _ 24 rfl W6.heap.size 9 i9 (.string ByteArray.empty) 1 16 Tryz.underlying24 hi9 hz9 hz91 hz92 rfl (by decide) (.slice va q vc) q ((rowsOf sg k q).map Value.string) rfl (hown.alloc _) (W0.heap.size + 1) (some ⟨W0.heap.size, 0, none⟩) 1 1 [.string st] rfl (Rd.blkN (Blk.new _ _ _) rfl (Nat.lt_succ_self _)).reads (by simp [Value.oneCell']) (by unfold maxLen; omega) (by omega) (by have := hB6.size; simp only [World.size_alloc]; omega) (fun v' w' hown' hgrow hob => ?_))
            | go_in)
          have hown0 := hown.alloc (.cells #[.string st] 9)
          have hB2 := (hB6.alloc hB6.size (.cells #[.string st] 9)).grown hgrow (by have := hB6.size; simp only [World.size_alloc]; omega) (fun q hq => (hown0.lt q hq).1)
          go_roundg (Hn - (q + 1))
          case measure => rw [HG.out]; omega
          case rel => exact ⟨q + 1, _, rfl, by omega, by go_num, rfl, by rw [rowsOf_succ, List.map_append, ← HS.out]; exact hown', hB2⟩
    · obtain rfl : Hn = q := by omega
      as_aux_lemma =>
      have hge : ¬ (Hn : Int) < Hn := by omega
      have hG1 := own_le0 hown
      have hG2 := own_cap hown
      have hG := Rd.of_own hown
      have hGs : ∀ r ∈ (rowsOf sg Wn Hn), r.size ≤ maxLen := fun r hr => by have := HSGR.out r hr; unfold maxLen; omega
      replace hC := rdB hC hB6
      replace hS := hS.below hB6 hS.lt; replace hQ := hQ.below hB6 hQ.lt; replace hX := hX.below hB6 hX.lt
      replace hB := hB0.trans (hB6.mono hB0.size)
      clear hown hB6 hB0 HG HROW hcr hsr
      have hlr := hr.len
      go_upto_region 20 with ((go_at_call 52; refine (Reads_any Wn Hn F L X Y nl nh xl xh y (some ⟨b, off, none⟩) n cap fs va Hn vc (rowsOf sg Wn Hn) _ hcap hcm (fun f h => ((hf f h).below hB).more hB.size) (rdB hr hB) hG1 hG2 hGs hG).mono ?_; rintro e w1 ⟨v1, rfl, hIs, hb⟩; obtain ⟨xA, xn, xc, rfl, hx1, hx2, hY⟩ := hIs; rw [HRL.out] at hY; rw [HRE.out]; (try replace hS := hS.below hb hS.lt); (try replace hQ := hQ.below hb hQ.lt); (try replace hX := hX.below hb hX.lt); (try replace hC := rdB hC hb); (try replace hG := rdB hG hb); (try replace hW := rdB hW hb); replace hB := hB.trans (hb.mono hB.size); (try clear qhS); (try clear qhQ); (try clear qhX); clear hb; (try have qhS := fun i => Blk.cell hS i); (try have qhQ := fun i => Blk.cell hQ i); (try have qhX := fun i => Blk.cell hX i)))
      clear HRL HRE
      go_upto_region 21 with ((go_at_call 53; refine (Who_any Wn Hn F L X Y nl nh xl xh y (some ⟨b, off, none⟩) n cap fs va Hn vc (rowsOf sg Wn Hn) _ hcap hcm (fun f h => ((hf f h).below hB).more hB.size) (rdB hr hB) hG1 hG2 hGs hG).mono ?_; rintro e w1 ⟨v1, rfl, hIs, hb⟩; obtain ⟨wA, wn, wc, rfl, hw1, hw2, hW2⟩ := hIs; rw [HWL.out] at hW2; rw [HWE.out]; (try replace hS := hS.below hb hS.lt); (try replace hQ := hQ.below hb hQ.lt); (try replace hX := hX.below hb hX.lt); (try replace hC := rdB hC hb); (try replace hG := rdB hG hb); (try replace hY := rdB hY hb); replace hB := hB.trans (hb.mono hB.size); (try clear qhS); (try clear qhQ); (try clear qhX); clear hb; (try have qhS := fun i => Blk.cell hS i); (try have qhQ := fun i => Blk.cell hQ i); (try have qhX := fun i => Blk.cell hX i)))
      clear HWE HWL
      have hxn := hY.lenc (by decide) (rdC_len y)
      have hwn := hW2.len
      obtain rfl : n = wn := by omega
      have hx3 : ¬ (300 : Int) < xn := by omega
      have hne : ((n : Int) != n) = false := by simp
      obtain ⟨bW, oW, rfl, hbW, hcw⟩ := hW2.2 (by omega)
      have hzl : i1 < wl.length := by omega
      have hzg : wl[i1] = zi := by rw [List.getElem?_eq_getElem hzl] at hzi; exact Option.some.inj hzi
      have hzi1b : (zi == 1) = false := by simp [hzi1]
      have HCW := Lib.hid (fun (wx : World) (h : Rd wx wx.heap.size 1 (some ⟨bW, oW, none⟩) n (wl.map (Value.int .i64))) (k : Nat) (hk : k < wl.length) => show wx.cell? ⟨bW, oW + k, none⟩ = some (.int .i64 wl[k]) from by
        obtain ⟨b', o', e', _, h'⟩ := h.2 (by omega)
        cases e'
        exact h' k _ (by simp [hk]))
      clear hcw
      rename World => W7
      go_upto_region 21 with (fail)
      have HXN := Lib.hid hxn; have HWN := Lib.hid hwl; have HZG := Lib.hid hzg
      clear hxn hwl hwn hzg hlr
      go_upto_region 23 with (first | (go_at_call 61; refine (listed_true xA xn xc rl y i1 n1 x1 _ (by omega) hin hY).mono ?_; rintro e w1 ⟨rfl, hb⟩; replace hS := hS.below hb hS.lt; replace hQ := hQ.below hb hQ.lt; replace hX := hX.below hb hX.lt; replace hC := rdB hC hb; replace hG := rdB hG hb; replace hY := rdB hY hb; replace hW2 := rdB hW2 hb; replace hB := hB.trans (hb.mono hB.size); clear qhS qhQ qhX hb; have qhS := fun i => Blk.cell hS i; have qhQ := fun i => Blk.cell hQ i; have qhX := fun i => Blk.cell hX i; have cz := HCW.out _ hW2 i1 hzl; rw [HZG.out] at cz))
      clear HZG
      rename World => W8
      go_wp2_with (fail)
      go_loop [22, 23, 24] (fun a b i => ∃ (k c2 c3 : Nat), k ≤ n ∧ i = .int .i64 k ∧ a = .int .i64 c2 ∧ b = .int .i64 c3 ∧ c2 = ((wl.take k).filter fun z => z == 2).length ∧ c3 = ((wl.take k).filter fun z => z == 3).length ∧ c2 ≤ k ∧ c3 ≤ k) (fun _ _ i => n - (intOf i).toNat)
      case atStart => exact ⟨0, 0, 0, Nat.zero_le _, rfl, rfl, rfl, rfl, rfl, Nat.zero_le _, Nat.zero_le _⟩
      case round =>
        obtain ⟨k, c2, c3, hk, rfl, rfl, rfl, hc2, hc3, hl2, hl3⟩ := hrel
        by_cases hlt : k < n
        · have hlti : (k : Int) < n := by omega
          have hkl : k < wl.length := by have := HWN.out; omega
          have ck := HCW.out _ hW2 k hkl
          have hz3 := HW3.out _ (List.getElem_mem hkl)
          have hf2 := congrArg List.length (filter_take (fun z : Int => z == 2) wl k hkl)
          have hf3 := congrArg List.length (filter_take (fun z : Int => z == 3) wl k hkl)
          rw [List.length_append, ← hc2] at hf2
          rw [List.length_append, ← hc3] at hf3
          generalize wl[k] = z at *
          have HF2 := Lib.hid hf2; have HF3 := Lib.hid hf3
          clear hf2 hf3 hc2 hc3
          rcases hz3 with rfl | rfl | rfl
          · as_aux_lemma =>
              go_wp2_with (fail)
              go_round
              case rel => exact ⟨k + 1, c2, c3, by omega, by go_num, rfl, rfl, by rw [HF2.out]; rfl, by rw [HF3.out]; rfl, by omega, by omega⟩
              case measure => simp [intOf]; omega
          · as_aux_lemma =>
              go_wp2_with (fail)
              go_round
              case rel => exact ⟨k + 1, c2 + 1, c3, by omega, by go_num, by go_num, rfl, by rw [HF2.out]; rfl, by rw [HF3.out]; rfl, by omega, by omega⟩
              case measure => simp [intOf]; omega
          · as_aux_lemma =>
              go_wp2_with (fail)
              go_round
              case rel => exact ⟨k + 1, c2, c3 + 1, by omega, by go_num, rfl, by go_num, by rw [HF2.out]; rfl, by rw [HF3.out]; rfl, by omega, by omega⟩
              case measure => simp [intOf]; omega
        · obtain rfl : n = k := by omega
          have htk : wl.take n = wl := List.take_of_length_le (by have := HWN.out; omega)
          rw [htk] at hc2 hc3
          have hfin := HFIN.out
          rw [← hc2, ← hc3] at hfin
          have hge2 : ¬ (n : Int) < n := by omega
          clear hc2 hc3 htk HFIN HW3
          have hfx : (c3 = 1 ∧ c2 = 0 ∧ zi = 3) ∨ (c3 = 0 ∧ 2 ≤ c2) := hfin
          clear hfin
          go_upto_region 33 with (fail)
          go_cut [222] (fun c wx => c = .bool false ∧ wx = W8)
          case first =>
            rcases hfx with ⟨rfl, rfl, rfl⟩ | ⟨rfl, h2⟩
            · as_aux_lemma =>
                go_wp2_with (fail)
                go_meet
                exact ⟨rfl, rfl⟩
            · as_aux_lemma =>
                have h2i : ¬ (c2 : Int) < 2 := by omega
                go_wp2_with (fail)
                go_meet
                exact ⟨rfl, rfl⟩
          case rest =>
            obtain ⟨rfl, rfl⟩ := hcut
            rename World => W8
            clear hfx hzi hzi1 hzi1b cz hl2 hl3
            have hBk := hB
            have hW1i : (1 : Int) ≤ Wn := by omega
            have hH1i : (Hn : Int) ≤ 16 := by omega
            clear qhS qhQ qhX
            go_wp2_with (fail)
            go_loopg [25] xn (fun g i wr => ∃ k : Nat, g = xn - k ∧ k ≤ xn ∧ i = .int .i64 k ∧ Below W8.heap.size W8 wr)
            case atStart => exact ⟨0, rfl, Nat.zero_le _, rfl, Below.refl _ _⟩
            case round =>
              obtain ⟨k, hg, hk, rfl, hB8⟩ := hrel
              have HG := Lib.hid hg; clear hg
              rename World => W9
              replace hS := hS.below hB8 hS.lt; replace hQ := hQ.below hB8 hQ.lt; replace hX := hX.below hB8 hX.lt
              replace hB := hBk.trans (hB8.mono hBk.size)
              have qhS := fun i => Blk.cell hS i; have qhQ := fun i => Blk.cell hQ i; have qhX := fun i => Blk.cell hX i
              by_cases hlt : k < xn
              · have hlti : (k : Int) < xn := by omega
                obtain ⟨bY, oY, hzk, rfl, hbY, c0, c1', c2', c3'⟩ := (rdB hY hB8).at4 hlt
                have hrd := HRD.out _ (List.getElem_mem hzk)
                obtain ⟨kf, hkf, ee0, hvw, hwh, hag, hwz⟩ := HV.out _ (List.getElem_mem hzk)
                have hfo := hf _ (List.getElem_mem hkf)
                have hkn : kf < n := by omega
                have hkni : (kf : Int) < n := by omega
                have hbF : b < W9.heap.size := by obtain ⟨b', o', e', h', _⟩ := (rdB hr hB).2 (by omega); cases e'; exact h'
                have cf : W9.cell? ⟨b, off + kf, none⟩ = some (Fig.val fs[kf]) := by
                  obtain ⟨b', o', e', _, h'⟩ := (rdB hr hB).2 (by omega)
                  cases e'
                  exact h' kf (Fig.val fs[kf]) (by simp [hkf])
                have hkwl : kf < wl.length := by have := HWN.out; omega
                have cw := HCW.out _ (rdB hW2 hB8) kf hkwl
                have hwz2 := hwz _ (List.getElem?_eq_getElem hkwl)
                generalize wl[kf] = zf at *
                have hzf : (zf == 1) = false := by simp [hwz2]
                generalize rl[k] = tk at *
                obtain ⟨tf, tn, tx⟩ := tk
                dsimp only at c0 c1' c2' c3' hrd ee0 hvw hwh hag
                obtain rfl : tf = (kf : Int) := ee0
                generalize fs[kf] = fg at *
                obtain ⟨fA, fn, fcap, rows⟩ := fg
                obtain ⟨hf1, hf2, hf3, hfr⟩ := hfo
                dsimp only at hf1 hf2 hf3 hfr hvw hwh hag
                simp only [Fig.val] at cf
                have hdsz := shS_size Wn Hn F L X Y tn tx y rows
                rw [Int.toNat_natCast, Int.toNat_natCast] at hdsz
                have hdr : ∀ r ∈ rowsOf (shS Wn Hn F L X Y tn tx y rows) Wn Hn, r.size ≤ 100000 := fun r hr => by obtain ⟨i, hi, rfl⟩ := rowsOf_mem hr; rw [cut_size hdsz hi]; omega
                have HSZ := Lib.hid (show ∀ j (h : j < (rowsOf (shS Wn Hn F L X Y tn tx y rows) Wn Hn).length) (h2 : j < (rowsOf sg Wn Hn).length), (rowsOf (shS Wn Hn F L X Y tn tx y rows) Wn Hn)[j].size ≤ (rowsOf sg Wn Hn)[j].size ∧ (rowsOf sg Wn Hn)[j].size ≤ 100000 from fun j h h2 => by
                  rw [rowsOf_sz hdsz h]
                  have hj : j < Hn := by rwa [rowsOf_len] at h
                  have e := HSGW.out _ (List.getElem_mem h2)
                  omega)
                have HEV := Lib.hid (show errV (viewB Wn Hn F L X Y tn tx y rows) = .int .i64 0 by unfold errV; rw [if_pos hvw])
                have HSR := Lib.hid (show rowsOf (shS Wn Hn F L X Y tn tx y rows) Wn Hn = shadowRows Wn Hn F L X Y tn tx y rows by unfold shadowRows; rw [if_pos hvw, Int.toNat_natCast, Int.toNat_natCast])
                have HWH := Lib.hid hwh; have HAG := Lib.hid hag
                have kr : ∀ p : Blw W9.heap.size W9, Calls Tryz.prog 60 #[.slice (some ⟨b, off, none⟩) n cap, .agg #[.int .i64 nl, .int .i64 nh, .int .i64 xl, .int .i64 xh, .int .i64 y], .agg #[.int .i64 (kf : Int), .int .i64 tn, .int .i64 tx, .int .i64 y]] p.to fun e w' => e = .returned (.bool true) ∧ Below p.to.heap.size p.to w' := fun p => by have h := reading_any nl nh xl xh y (kf : Int) tn tx y (some ⟨b, off, none⟩) n cap p.to; rw [hrd] at h; exact h
                clear hvw hwh hag hwz hwz2 hrd hdsz
                go_upto_region 38 with (fail)
                have hbS := fun p i => blw_blk hS p i
                have hbQ := fun p i => blw_blk hQ p i
                have q0 := fun p : Blw W9.heap.size W9 => blw_cell (a := ⟨bY, oY + k * 4, none⟩) hbY c0 p
                have q1 := fun p : Blw W9.heap.size W9 => blw_cell (a := ⟨bY, oY + k * 4 + 1, none⟩) hbY c1' p
                have q2 := fun p : Blw W9.heap.size W9 => blw_cell (a := ⟨bY, oY + k * 4 + 2, none⟩) hbY c2' p
                have q3 := fun p : Blw W9.heap.size W9 => blw_cell (a := ⟨bY, oY + k * 4 + 3, none⟩) hbY c3' p
                have q4 := fun p : Blw W9.heap.size W9 => blw_cell (a := ⟨bW, oW + kf, none⟩) (block_lt_of_cell cw) cw p
                refine wp_region_blw (by kernel_rfl) (by kernel_rfl) ?_
                repeat (go_big_quiet_step ((go_at_call 60; exact Calls.blw_of _ (kr _))))
                refine wpQuiet_nil ?_
                rintro W10 ⟨⟨_, hb⟩, rfl⟩
                clear q0 q1 q2 q3 q4 hbS hbQ kr qhS qhQ qhX cw
                replace c0 := (hb.cell (p := ⟨bY, oY + k * 4, none⟩) hbY).trans c0; replace c1' := (hb.cell (p := ⟨bY, oY + k * 4 + 1, none⟩) hbY).trans c1'; replace c2' := (hb.cell (p := ⟨bY, oY + k * 4 + 2, none⟩) hbY).trans c2'; replace c3' := (hb.cell (p := ⟨bY, oY + k * 4 + 3, none⟩) hbY).trans c3'; replace cf := (hb.cell (p := ⟨b, off + kf, none⟩) hbF).trans cf
                replace hbY := Nat.lt_of_lt_of_le hbY hb.size; replace hbF := Nat.lt_of_lt_of_le hbF hb.size
                replace hS := hS.below hb hS.lt; replace hQ := hQ.below hb hQ.lt; replace hX := hX.below hb hX.lt; replace hB8 := hB8.trans (hb.mono hB8.size); replace hB := hB.trans (hb.mono hB.size); clear hb
                have qhS := fun i => Blk.cell hS i; have qhQ := fun i => Blk.cell hQ i; have qhX := fun i => Blk.cell hX i
                go_upto_region 40 with (fail)
                rename World => WR
                refine wp_region_G (fun w' => Below WR.drew.heap.size WR.drew w') 19 (by kernel_rfl) ?_
                replace hS := hS.drew
                replace hQ := hQ.drew
                replace hX := hX.drew
                replace hbY : bY < WR.drew.heap.size := hbY
                replace hbF : b < WR.drew.heap.size := hbF
                replace c0 : WR.drew.cell? _ = _ := c0
                replace c1' : WR.drew.cell? _ = _ := c1'
                replace c2' : WR.drew.cell? _ = _ := c2'
                replace c3' : WR.drew.cell? _ = _ := c3'
                replace cf : WR.drew.cell? _ = _ := cf
                replace hB8 := hB8.drew
                replace hB := hB.drew
                (try clear qhS qhQ qhX)
                generalize WR.drew = WD at *
                have hTT : Below WD.heap.size WD WD := Below.refl _ _
                refine wpG_take (i := 0) (v := ?vy2_0) rfl (by kernel_rfl) (by kernel_rfl) (by kernel_rfl) (by kernel_rfl) (fun _ _ _ h => h) (Or.inl ⟨by rfl, ?hyy2_0⟩) hTT ?resty2_0
                case hyy2_0 => intro wq hSw; have qhS := fun i => (Blk.below hS hSw hS.lt).cell i; have qhQ := fun i => (Blk.below hQ hSw hQ.lt).cell i; have qhX := fun i => (Blk.below hX hSw hX.lt).cell i; have e0 := (hSw.cell (p := ⟨bY, oY + k * 4, none⟩) hbY).trans c0; have e1 := (hSw.cell (p := ⟨bY, oY + k * 4 + 1, none⟩) hbY).trans c1'; have e2 := (hSw.cell (p := ⟨bY, oY + k * 4 + 2, none⟩) hbY).trans c2'; have e3 := (hSw.cell (p := ⟨bY, oY + k * 4 + 3, none⟩) hbY).trans c3'; have e4 := (hSw.cell (p := ⟨b, off + kf, none⟩) hbF).trans cf; go_simp <;> with_reducible rfl
                simp only [List.getElem_toArray, List.getElem_cons_zero, List.getElem_cons_succ, Act.put, List.setIfInBounds_toArray, List.set_cons_zero, List.set_cons_succ]
                refine wpG_take (i := 1) (v := ?vy2_1) rfl (by kernel_rfl) (by kernel_rfl) (by kernel_rfl) (by kernel_rfl) (fun _ _ _ h => h) (Or.inl ⟨by rfl, ?hyy2_1⟩) hTT ?resty2_1
                case hyy2_1 => intro wq hSw; have qhS := fun i => (Blk.below hS hSw hS.lt).cell i; have qhQ := fun i => (Blk.below hQ hSw hQ.lt).cell i; have qhX := fun i => (Blk.below hX hSw hX.lt).cell i; have e0 := (hSw.cell (p := ⟨bY, oY + k * 4, none⟩) hbY).trans c0; have e1 := (hSw.cell (p := ⟨bY, oY + k * 4 + 1, none⟩) hbY).trans c1'; have e2 := (hSw.cell (p := ⟨bY, oY + k * 4 + 2, none⟩) hbY).trans c2'; have e3 := (hSw.cell (p := ⟨bY, oY + k * 4 + 3, none⟩) hbY).trans c3'; have e4 := (hSw.cell (p := ⟨b, off + kf, none⟩) hbF).trans cf; go_simp <;> with_reducible rfl
                simp only [List.getElem_toArray, List.getElem_cons_zero, List.getElem_cons_succ, Act.put, List.setIfInBounds_toArray, List.set_cons_zero, List.set_cons_succ]
                refine wpG_take (i := 2) (v := ?vy2_2) rfl (by kernel_rfl) (by kernel_rfl) (by kernel_rfl) (by kernel_rfl) (fun _ _ _ h => h) (Or.inl ⟨by rfl, ?hyy2_2⟩) hTT ?resty2_2
                case hyy2_2 => intro wq hSw; have qhS := fun i => (Blk.below hS hSw hS.lt).cell i; have qhQ := fun i => (Blk.below hQ hSw hQ.lt).cell i; have qhX := fun i => (Blk.below hX hSw hX.lt).cell i; have e0 := (hSw.cell (p := ⟨bY, oY + k * 4, none⟩) hbY).trans c0; have e1 := (hSw.cell (p := ⟨bY, oY + k * 4 + 1, none⟩) hbY).trans c1'; have e2 := (hSw.cell (p := ⟨bY, oY + k * 4 + 2, none⟩) hbY).trans c2'; have e3 := (hSw.cell (p := ⟨bY, oY + k * 4 + 3, none⟩) hbY).trans c3'; have e4 := (hSw.cell (p := ⟨b, off + kf, none⟩) hbF).trans cf; go_simp <;> with_reducible rfl
                simp only [List.getElem_toArray, List.getElem_cons_zero, List.getElem_cons_succ, Act.put, List.setIfInBounds_toArray, List.set_cons_zero, List.set_cons_succ]
                refine wpG_take (i := 3) (v := ?vy2_3) rfl (by kernel_rfl) (by kernel_rfl) (by kernel_rfl) (by kernel_rfl) (fun _ _ _ h => h) (Or.inl ⟨by rfl, ?hyy2_3⟩) hTT ?resty2_3
                case hyy2_3 => intro wq hSw; have qhS := fun i => (Blk.below hS hSw hS.lt).cell i; have qhQ := fun i => (Blk.below hQ hSw hQ.lt).cell i; have qhX := fun i => (Blk.below hX hSw hX.lt).cell i; have e0 := (hSw.cell (p := ⟨bY, oY + k * 4, none⟩) hbY).trans c0; have e1 := (hSw.cell (p := ⟨bY, oY + k * 4 + 1, none⟩) hbY).trans c1'; have e2 := (hSw.cell (p := ⟨bY, oY + k * 4 + 2, none⟩) hbY).trans c2'; have e3 := (hSw.cell (p := ⟨bY, oY + k * 4 + 3, none⟩) hbY).trans c3'; have e4 := (hSw.cell (p := ⟨b, off + kf, none⟩) hbF).trans cf; go_simp <;> with_reducible rfl
                simp only [List.getElem_toArray, List.getElem_cons_zero, List.getElem_cons_succ, Act.put, List.setIfInBounds_toArray, List.set_cons_zero, List.set_cons_succ]
                refine wpG_take (i := 4) (v := ?vy2_4) rfl (by kernel_rfl) (by kernel_rfl) (by kernel_rfl) (by kernel_rfl) (fun _ _ _ h => h) (Or.inl ⟨by rfl, ?hyy2_4⟩) hTT ?resty2_4
                case hyy2_4 => intro wq hSw; have qhS := fun i => (Blk.below hS hSw hS.lt).cell i; have qhQ := fun i => (Blk.below hQ hSw hQ.lt).cell i; have qhX := fun i => (Blk.below hX hSw hX.lt).cell i; have e0 := (hSw.cell (p := ⟨bY, oY + k * 4, none⟩) hbY).trans c0; have e1 := (hSw.cell (p := ⟨bY, oY + k * 4 + 1, none⟩) hbY).trans c1'; have e2 := (hSw.cell (p := ⟨bY, oY + k * 4 + 2, none⟩) hbY).trans c2'; have e3 := (hSw.cell (p := ⟨bY, oY + k * 4 + 3, none⟩) hbY).trans c3'; have e4 := (hSw.cell (p := ⟨b, off + kf, none⟩) hbF).trans cf; go_simp <;> with_reducible rfl
                simp only [List.getElem_toArray, List.getElem_cons_zero, List.getElem_cons_succ, Act.put, List.setIfInBounds_toArray, List.set_cons_zero, List.set_cons_succ]
                refine wpG_take (i := 5) (v := ?vy2_5) rfl (by kernel_rfl) (by kernel_rfl) (by kernel_rfl) (by kernel_rfl) (fun _ _ _ h => h) (Or.inl ⟨by rfl, ?hyy2_5⟩) hTT ?resty2_5
                case hyy2_5 => intro wq hSw; have qhS := fun i => (Blk.below hS hSw hS.lt).cell i; have qhQ := fun i => (Blk.below hQ hSw hQ.lt).cell i; have qhX := fun i => (Blk.below hX hSw hX.lt).cell i; have e0 := (hSw.cell (p := ⟨bY, oY + k * 4, none⟩) hbY).trans c0; have e1 := (hSw.cell (p := ⟨bY, oY + k * 4 + 1, none⟩) hbY).trans c1'; have e2 := (hSw.cell (p := ⟨bY, oY + k * 4 + 2, none⟩) hbY).trans c2'; have e3 := (hSw.cell (p := ⟨bY, oY + k * 4 + 3, none⟩) hbY).trans c3'; have e4 := (hSw.cell (p := ⟨b, off + kf, none⟩) hbF).trans cf; go_simp <;> with_reducible rfl
                simp only [List.getElem_toArray, List.getElem_cons_zero, List.getElem_cons_succ, Act.put, List.setIfInBounds_toArray, List.set_cons_zero, List.set_cons_succ]
                refine wpG_take (i := 6) (v := ?vy2_6) rfl (by kernel_rfl) (by kernel_rfl) (by kernel_rfl) (by kernel_rfl) (fun _ _ _ h => h) (Or.inl ⟨by rfl, ?hyy2_6⟩) hTT ?resty2_6
                case hyy2_6 => intro wq hSw; have qhS := fun i => (Blk.below hS hSw hS.lt).cell i; have qhQ := fun i => (Blk.below hQ hSw hQ.lt).cell i; have qhX := fun i => (Blk.below hX hSw hX.lt).cell i; have e0 := (hSw.cell (p := ⟨bY, oY + k * 4, none⟩) hbY).trans c0; have e1 := (hSw.cell (p := ⟨bY, oY + k * 4 + 1, none⟩) hbY).trans c1'; have e2 := (hSw.cell (p := ⟨bY, oY + k * 4 + 2, none⟩) hbY).trans c2'; have e3 := (hSw.cell (p := ⟨bY, oY + k * 4 + 3, none⟩) hbY).trans c3'; have e4 := (hSw.cell (p := ⟨b, off + kf, none⟩) hbF).trans cf; go_simp <;> with_reducible rfl
                simp only [List.getElem_toArray, List.getElem_cons_zero, List.getElem_cons_succ, Act.put, List.setIfInBounds_toArray, List.set_cons_zero, List.set_cons_succ]
                refine wpG_take (i := 7) (v := ?vy2_7) rfl (by kernel_rfl) (by kernel_rfl) (by kernel_rfl) (by kernel_rfl) (fun _ _ _ h => h) (Or.inl ⟨by rfl, ?hyy2_7⟩) hTT ?resty2_7
                case hyy2_7 => intro wq hSw; have qhS := fun i => (Blk.below hS hSw hS.lt).cell i; have qhQ := fun i => (Blk.below hQ hSw hQ.lt).cell i; have qhX := fun i => (Blk.below hX hSw hX.lt).cell i; have e0 := (hSw.cell (p := ⟨bY, oY + k * 4, none⟩) hbY).trans c0; have e1 := (hSw.cell (p := ⟨bY, oY + k * 4 + 1, none⟩) hbY).trans c1'; have e2 := (hSw.cell (p := ⟨bY, oY + k * 4 + 2, none⟩) hbY).trans c2'; have e3 := (hSw.cell (p := ⟨bY, oY + k * 4 + 3, none⟩) hbY).trans c3'; have e4 := (hSw.cell (p := ⟨b, off + kf, none⟩) hbF).trans cf; go_simp <;> with_reducible rfl
                simp only [List.getElem_toArray, List.getElem_cons_zero, List.getElem_cons_succ, Act.put, List.setIfInBounds_toArray, List.set_cons_zero, List.set_cons_succ]
                refine wpG_take (i := 8) (v := ?vy2_8) rfl (by kernel_rfl) (by kernel_rfl) (by kernel_rfl) (by kernel_rfl) (fun _ _ _ h => h) (Or.inl ⟨by rfl, ?hyy2_8⟩) hTT ?resty2_8
                case hyy2_8 => intro wq hSw; have qhS := fun i => (Blk.below hS hSw hS.lt).cell i; have qhQ := fun i => (Blk.below hQ hSw hQ.lt).cell i; have qhX := fun i => (Blk.below hX hSw hX.lt).cell i; have e0 := (hSw.cell (p := ⟨bY, oY + k * 4, none⟩) hbY).trans c0; have e1 := (hSw.cell (p := ⟨bY, oY + k * 4 + 1, none⟩) hbY).trans c1'; have e2 := (hSw.cell (p := ⟨bY, oY + k * 4 + 2, none⟩) hbY).trans c2'; have e3 := (hSw.cell (p := ⟨bY, oY + k * 4 + 3, none⟩) hbY).trans c3'; have e4 := (hSw.cell (p := ⟨b, off + kf, none⟩) hbF).trans cf; go_simp <;> with_reducible rfl
                simp only [List.getElem_toArray, List.getElem_cons_zero, List.getElem_cons_succ, Act.put, List.setIfInBounds_toArray, List.set_cons_zero, List.set_cons_succ]
                refine wpG_take (i := 9) (v := ?vy2_9) rfl (by kernel_rfl) (by kernel_rfl) (by kernel_rfl) (by kernel_rfl) (fun _ _ _ h => h) (Or.inl ⟨by rfl, ?hyy2_9⟩) hTT ?resty2_9
                case hyy2_9 => intro wq hSw; have qhS := fun i => (Blk.below hS hSw hS.lt).cell i; have qhQ := fun i => (Blk.below hQ hSw hQ.lt).cell i; have qhX := fun i => (Blk.below hX hSw hX.lt).cell i; have e0 := (hSw.cell (p := ⟨bY, oY + k * 4, none⟩) hbY).trans c0; have e1 := (hSw.cell (p := ⟨bY, oY + k * 4 + 1, none⟩) hbY).trans c1'; have e2 := (hSw.cell (p := ⟨bY, oY + k * 4 + 2, none⟩) hbY).trans c2'; have e3 := (hSw.cell (p := ⟨bY, oY + k * 4 + 3, none⟩) hbY).trans c3'; have e4 := (hSw.cell (p := ⟨b, off + kf, none⟩) hbF).trans cf; go_simp <;> with_reducible rfl
                simp only [List.getElem_toArray, List.getElem_cons_zero, List.getElem_cons_succ, Act.put, List.setIfInBounds_toArray, List.set_cons_zero, List.set_cons_succ]
                refine wpG_take (i := 10) (v := ?vy2_10) rfl (by kernel_rfl) (by kernel_rfl) (by kernel_rfl) (by kernel_rfl) (fun _ _ _ h => h) (Or.inl ⟨by rfl, ?hyy2_10⟩) hTT ?resty2_10
                case hyy2_10 => intro wq hSw; have qhS := fun i => (Blk.below hS hSw hS.lt).cell i; have qhQ := fun i => (Blk.below hQ hSw hQ.lt).cell i; have qhX := fun i => (Blk.below hX hSw hX.lt).cell i; have e0 := (hSw.cell (p := ⟨bY, oY + k * 4, none⟩) hbY).trans c0; have e1 := (hSw.cell (p := ⟨bY, oY + k * 4 + 1, none⟩) hbY).trans c1'; have e2 := (hSw.cell (p := ⟨bY, oY + k * 4 + 2, none⟩) hbY).trans c2'; have e3 := (hSw.cell (p := ⟨bY, oY + k * 4 + 3, none⟩) hbY).trans c3'; have e4 := (hSw.cell (p := ⟨b, off + kf, none⟩) hbF).trans cf; go_simp <;> with_reducible rfl
                simp only [List.getElem_toArray, List.getElem_cons_zero, List.getElem_cons_succ, Act.put, List.setIfInBounds_toArray, List.set_cons_zero, List.set_cons_succ]
                refine wpG_take (i := 11) (v := ?vy2_11) rfl (by kernel_rfl) (by kernel_rfl) (by kernel_rfl) (by kernel_rfl) (fun _ _ _ h => h) (Or.inl ⟨by rfl, ?hyy2_11⟩) hTT ?resty2_11
                case hyy2_11 => intro wq hSw; have qhS := fun i => (Blk.below hS hSw hS.lt).cell i; have qhQ := fun i => (Blk.below hQ hSw hQ.lt).cell i; have qhX := fun i => (Blk.below hX hSw hX.lt).cell i; have e0 := (hSw.cell (p := ⟨bY, oY + k * 4, none⟩) hbY).trans c0; have e1 := (hSw.cell (p := ⟨bY, oY + k * 4 + 1, none⟩) hbY).trans c1'; have e2 := (hSw.cell (p := ⟨bY, oY + k * 4 + 2, none⟩) hbY).trans c2'; have e3 := (hSw.cell (p := ⟨bY, oY + k * 4 + 3, none⟩) hbY).trans c3'; have e4 := (hSw.cell (p := ⟨b, off + kf, none⟩) hbF).trans cf; go_simp <;> with_reducible rfl
                simp only [List.getElem_toArray, List.getElem_cons_zero, List.getElem_cons_succ, Act.put, List.setIfInBounds_toArray, List.set_cons_zero, List.set_cons_succ]
                refine wpG_take (i := 12) (v := ?vy2_12) rfl (by kernel_rfl) (by kernel_rfl) (by kernel_rfl) (by kernel_rfl) (fun _ _ _ h => h) (Or.inl ⟨by rfl, ?hyy2_12⟩) hTT ?resty2_12
                case hyy2_12 => intro wq hSw; have qhS := fun i => (Blk.below hS hSw hS.lt).cell i; have qhQ := fun i => (Blk.below hQ hSw hQ.lt).cell i; have qhX := fun i => (Blk.below hX hSw hX.lt).cell i; have e0 := (hSw.cell (p := ⟨bY, oY + k * 4, none⟩) hbY).trans c0; have e1 := (hSw.cell (p := ⟨bY, oY + k * 4 + 1, none⟩) hbY).trans c1'; have e2 := (hSw.cell (p := ⟨bY, oY + k * 4 + 2, none⟩) hbY).trans c2'; have e3 := (hSw.cell (p := ⟨bY, oY + k * 4 + 3, none⟩) hbY).trans c3'; have e4 := (hSw.cell (p := ⟨b, off + kf, none⟩) hbF).trans cf; go_simp <;> with_reducible rfl
                simp only [List.getElem_toArray, List.getElem_cons_zero, List.getElem_cons_succ, Act.put, List.setIfInBounds_toArray, List.set_cons_zero, List.set_cons_succ]
                refine wpG_take (i := 13) (v := ?vy2_13) rfl (by kernel_rfl) (by kernel_rfl) (by kernel_rfl) (by kernel_rfl) (fun _ _ _ h => h) (Or.inl ⟨by rfl, ?hyy2_13⟩) hTT ?resty2_13
                case hyy2_13 => intro wq hSw; have qhS := fun i => (Blk.below hS hSw hS.lt).cell i; have qhQ := fun i => (Blk.below hQ hSw hQ.lt).cell i; have qhX := fun i => (Blk.below hX hSw hX.lt).cell i; have e0 := (hSw.cell (p := ⟨bY, oY + k * 4, none⟩) hbY).trans c0; have e1 := (hSw.cell (p := ⟨bY, oY + k * 4 + 1, none⟩) hbY).trans c1'; have e2 := (hSw.cell (p := ⟨bY, oY + k * 4 + 2, none⟩) hbY).trans c2'; have e3 := (hSw.cell (p := ⟨bY, oY + k * 4 + 3, none⟩) hbY).trans c3'; have e4 := (hSw.cell (p := ⟨b, off + kf, none⟩) hbF).trans cf; go_simp <;> with_reducible rfl
                simp only [List.getElem_toArray, List.getElem_cons_zero, List.getElem_cons_succ, Act.put, List.setIfInBounds_toArray, List.set_cons_zero, List.set_cons_succ]
                refine wpG_one (i := 14) rfl (by kernel_rfl) (fun K hK => ?_)
                go_simp
                refine (Shadow_any Wn Hn F L X Y tn tx y fA fn fcap rows _ hf1 hf2 hf3 (rdB hfr hB)).mono ?_
                rintro e w1 ⟨vv, rfl, own, hb⟩
                rw [HEV.out]
                rw [← HSR.out, rowsOf_len] at own
                obtain ⟨dA, dC, rfl⟩ := own_slice own
                have hD := Rd.of_own own
                replace hTT := hTT.trans (hb.mono hTT.size)
                replace hS := hS.below hb hS.lt
                replace hQ := hQ.below hb hQ.lt
                replace hX := hX.below hb hX.lt
                replace hB8 := hB8.trans (hb.mono hB8.size)
                replace hB := hB.trans (hb.mono hB.size)
                clear own hb c0 c1' c2' c3' cf
                dsimp only
                refine hK _ _ (.inr hTT) ?_
                clear hK K
                try simp only [List.getElem_toArray, List.getElem_cons_zero, List.getElem_cons_succ, Act.put, List.setIfInBounds_toArray, List.set_cons_zero, List.set_cons_succ]
                refine wpG_take (i := 15) (v := ?vy2_15) rfl (by kernel_rfl) (by kernel_rfl) (by kernel_rfl) (by kernel_rfl) (fun _ _ _ h => h) (Or.inl ⟨by rfl, ?hyy2_15⟩) hTT ?resty2_15
                case hyy2_15 => intro wq hSw; skip; go_simp <;> with_reducible rfl
                simp only [List.getElem_toArray, List.getElem_cons_zero, List.getElem_cons_succ, Act.put, List.setIfInBounds_toArray, List.set_cons_zero, List.set_cons_succ]
                refine wpG_take (i := 16) (v := ?vy2_16) rfl (by kernel_rfl) (by kernel_rfl) (by kernel_rfl) (by kernel_rfl) (fun _ _ _ h => h) (Or.inl ⟨by rfl, ?hyy2_16⟩) hTT ?resty2_16
                case hyy2_16 => intro wq hSw; skip; go_simp <;> with_reducible rfl
                simp only [List.getElem_toArray, List.getElem_cons_zero, List.getElem_cons_succ, Act.put, List.setIfInBounds_toArray, List.set_cons_zero, List.set_cons_succ]
                refine wpG_take (i := 17) (v := ?vy2_17) rfl (by kernel_rfl) (by kernel_rfl) (by kernel_rfl) (by kernel_rfl) (fun _ _ _ h => h) (Or.inl ⟨by rfl, ?hyy2_17⟩) hTT ?resty2_17
                case hyy2_17 => intro wq hSw; skip; go_simp <;> with_reducible rfl
                simp only [List.getElem_toArray, List.getElem_cons_zero, List.getElem_cons_succ, Act.put, List.setIfInBounds_toArray, List.set_cons_zero, List.set_cons_succ]
                refine wpG_take (i := 18) (v := ?vy2_18) rfl (by kernel_rfl) (by kernel_rfl) (by kernel_rfl) (by kernel_rfl) (fun _ _ _ h => h) (Or.inl ⟨by rfl, ?hyy2_18⟩) hTT ?resty2_18
                case hyy2_18 => intro wq hSw; skip; go_simp <;> with_reducible rfl
                simp only [List.getElem_toArray, List.getElem_cons_zero, List.getElem_cons_succ, Act.put, List.setIfInBounds_toArray, List.set_cons_zero, List.set_cons_succ]
                refine wpG_one (i := 19) rfl (by kernel_rfl) (fun K hK => ?_)
                go_simp
                refine hK _ _ (.inl rfl) ?_
                clear hK K
                try simp only [List.getElem_toArray, List.getElem_cons_zero, List.getElem_cons_succ, Act.put, List.setIfInBounds_toArray, List.set_cons_zero, List.set_cons_succ]
                refine wpG_done (by kernel_rfl) ?_ _
                clear hTT
                have qhS := fun i => Blk.cell hS i
                have qhQ := fun i => Blk.cell hQ i
                have qhX := fun i => Blk.cell hX i
                go_wp2_with (first | (go_at_call 35; refine (whole_any Wn Hn F L X Y dA Hn dC (rowsOf (shS Wn Hn F L X Y tn tx y rows) Wn Hn) _ (by omega) hdr hD).mono ?_; rintro e w1 ⟨rfl, hb⟩; rw [HWH.out]; replace hS := hS.below hb hS.lt; replace hQ := hQ.below hb hQ.lt; replace hX := hX.below hb hX.lt; replace hD := rdB hD hb; replace hB8 := hB8.trans (hb.mono hB8.size); replace hB := hB.trans (hb.mono hB.size); clear qhS qhQ qhX hb; have qhS := fun i => Blk.cell hS i; have qhQ := fun i => Blk.cell hQ i; have qhX := fun i => Blk.cell hX i) | (go_at_call 62; refine (refAgree_any dA va Hn dC Hn vc (rowsOf (shS Wn Hn F L X Y tn tx y rows) Wn Hn) (rowsOf sg Wn Hn) _ (by omega) (Nat.le_refl _) HSZ.out hD (rdB hG hB8)).mono ?_; rintro e w1 ⟨rfl, hb⟩; rw [HAG.out]; replace hS := hS.below hb hS.lt; replace hQ := hQ.below hb hQ.lt; replace hX := hX.below hb hX.lt; replace hD := rdB hD hb; replace hB8 := hB8.trans (hb.mono hB8.size); replace hB := hB.trans (hb.mono hB.size); clear qhS qhQ qhX hb; have qhS := fun i => Blk.cell hS i; have qhQ := fun i => Blk.cell hQ i; have qhX := fun i => Blk.cell hX i))
                go_roundg (xn - (k + 1))
                case measure => rw [HG.out]; omega
                case rel => exact ⟨k + 1, rfl, by omega, by go_num, hB8⟩
              · have hge3 : ¬ (k : Int) < xn := by omega
                go_wp2_with (go_at_call 24; refine (known_true m _ (known_at hm hB)).mono ?_; rintro e w1 ⟨rfl, hb⟩; replace hB := hB.trans (hb.mono hB.size); clear hb)
                go_ret
                exact ⟨rfl, hB⟩
end Go.Proofs.YtifddfchpknkbaaGreatDoor
