import Derived.Test.YtifddfchpknkbaaGreatDoorUq
import Derived.Test.YtifddfchpknkbaaGreatDoorSv
import Derived.Test.YtifddfchpknkbaaGreatDoorK
set_option linter.unusedVariables false
set_option linter.unusedSimpArgs false
namespace Go.Proofs.YtifddfchpknkbaaGreatDoor
open Go.RowKit

set_option maxRecDepth 100000 in
set_option maxHeartbeats 25600000 in
theorem worst_any (Wn : Nat) (H F L X Y nl nh xl xh y : Int) (A : Option Addr) (n cap : Nat) (fs : List Fig) (SA : Option Addr) (sn scap : Nat) (rs : List ByteArray) (row : ByteArray) (k : Nat) (a b : Int) (w : World) (hcap : n ≤ cap) (hcm : cap ≤ maxLen) (hf : ∀ f ∈ fs, f.ok w w.heap.size) (hr : Rd w w.heap.size 1 A n (fs.map Fig.val)) (hW1 : 1 ≤ Wn) (hW2 : Wn ≤ 100) (hk : k ≤ 10000) (hsn1 : sn ≤ 10000) (hz : rs[k / Wn]? = some row) (hrz : row.size = Wn) (hsr : Rd w w.heap.size 1 SA sn (rs.map Value.string))
    (h35 : ∀ r ∈ (rs.set (k / Wn) (seenRow row 35 (k % Wn))), r.size ≤ maxLen) (h46 : ∀ r ∈ (rs.set (k / Wn) (seenRow row 46 (k % Wn))), r.size ≤ maxLen) (HA : Hid (seenI Wn H F L X Y nl nh xl xh y fs (rs.set (k / Wn) (seenRow row 35 (k % Wn))) = a)) (HB : Hid (seenI Wn H F L X Y nl nh xl xh y fs (rs.set (k / Wn) (seenRow row 46 (k % Wn))) = b)) (ha : 0 ≤ a) (hb0 : 0 ≤ b) :
    Calls Tryz.prog 67 #[.agg #[.int .i64 Wn, .int .i64 H, .int .i64 F, .int .i64 L, .int .i64 X, .int .i64 Y], .slice A n cap, .agg #[.int .i64 nl, .int .i64 nh, .int .i64 xl, .int .i64 xh, .int .i64 y], .slice SA sn scap, .int .i64 k] w fun e w' => e = .returned (.int .i64 (max a b)) ∧ Below w.heap.size w w' := by
  have han : ¬ a < 0 := by omega
  have hbn : ¬ b < 0 := by omega
  go_enter Tryz.func67, Tryz.ntmps67
  go_upto_region 1 with (fail)
  have hS := blk2_0 w (.cells #[.int .i64 nl, .int .i64 nh, .int .i64 xl, .int .i64 xh, .int .i64 y] 71) 23 #[.int .i64 Wn, .int .i64 H, .int .i64 F, .int .i64 L, .int .i64 X, .int .i64 Y]
  have hQ := blk2_1 w (.cells #[.int .i64 Wn, .int .i64 H, .int .i64 F, .int .i64 L, .int .i64 X, .int .i64 Y] 23) 71 #[.int .i64 nl, .int .i64 nh, .int .i64 xl, .int .i64 xh, .int .i64 y]
  have hB := pro_2 w (.cells #[.int .i64 Wn, .int .i64 H, .int .i64 F, .int .i64 L, .int .i64 X, .int .i64 Y] 23) (.cells #[.int .i64 nl, .int .i64 nh, .int .i64 xl, .int .i64 xh, .int .i64 y] 71)
  generalize (w.alloc (.cells #[.int .i64 Wn, .int .i64 H, .int .i64 F, .int .i64 L, .int .i64 X, .int .i64 Y] 23)).alloc (.cells #[.int .i64 nl, .int .i64 nh, .int .i64 xl, .int .i64 xh, .int .i64 y] 71) = W0 at *
  have qhS := fun i => Blk.cell hS i
  have qhQ := fun i => Blk.cell hQ i
  rename World => WR
  refine wp_region_G (fun w' => Below WR.drew.heap.size WR.drew w') 17 (by kernel_rfl) ?_
  replace hS := hS.drew
  replace hQ := hQ.drew
  replace hB := hB.drew
  (try clear qhS qhQ)
  generalize WR.drew = WD at *
  have hTT : Below WD.heap.size WD WD := Below.refl _ _
  refine wpG_take (i := 0) (v := ?vy1_0) rfl (by kernel_rfl) (by kernel_rfl) (by kernel_rfl) (by kernel_rfl) (fun _ _ _ h => h) (Or.inl ⟨by rfl, ?hyy1_0⟩) hTT ?resty1_0
  case hyy1_0 => intro wq hSw; have qhS := fun i => (Blk.below hS hSw hS.lt).cell i; have qhQ := fun i => (Blk.below hQ hSw hQ.lt).cell i; go_simp <;> with_reducible rfl
  simp only [List.getElem_toArray, List.getElem_cons_zero, List.getElem_cons_succ, Act.put, List.setIfInBounds_toArray, List.set_cons_zero, List.set_cons_succ]
  refine wpG_take (i := 1) (v := ?vy1_1) rfl (by kernel_rfl) (by kernel_rfl) (by kernel_rfl) (by kernel_rfl) (fun _ _ _ h => h) (Or.inl ⟨by rfl, ?hyy1_1⟩) hTT ?resty1_1
  case hyy1_1 => intro wq hSw; have qhS := fun i => (Blk.below hS hSw hS.lt).cell i; have qhQ := fun i => (Blk.below hQ hSw hQ.lt).cell i; go_simp <;> with_reducible rfl
  simp only [List.getElem_toArray, List.getElem_cons_zero, List.getElem_cons_succ, Act.put, List.setIfInBounds_toArray, List.set_cons_zero, List.set_cons_succ]
  refine wpG_take (i := 2) (v := ?vy1_2) rfl (by kernel_rfl) (by kernel_rfl) (by kernel_rfl) (by kernel_rfl) (fun _ _ _ h => h) (Or.inl ⟨by rfl, ?hyy1_2⟩) hTT ?resty1_2
  case hyy1_2 => intro wq hSw; have qhS := fun i => (Blk.below hS hSw hS.lt).cell i; have qhQ := fun i => (Blk.below hQ hSw hQ.lt).cell i; go_simp <;> with_reducible rfl
  simp only [List.getElem_toArray, List.getElem_cons_zero, List.getElem_cons_succ, Act.put, List.setIfInBounds_toArray, List.set_cons_zero, List.set_cons_succ]
  refine wpG_take (i := 3) (v := ?vy1_3) rfl (by kernel_rfl) (by kernel_rfl) (by kernel_rfl) (by kernel_rfl) (fun _ _ _ h => h) (Or.inl ⟨by rfl, ?hyy1_3⟩) hTT ?resty1_3
  case hyy1_3 => intro wq hSw; have qhS := fun i => (Blk.below hS hSw hS.lt).cell i; have qhQ := fun i => (Blk.below hQ hSw hQ.lt).cell i; go_simp <;> with_reducible rfl
  simp only [List.getElem_toArray, List.getElem_cons_zero, List.getElem_cons_succ, Act.put, List.setIfInBounds_toArray, List.set_cons_zero, List.set_cons_succ]
  refine wpG_take (i := 4) (v := ?vy1_4) rfl (by kernel_rfl) (by kernel_rfl) (by kernel_rfl) (by kernel_rfl) (fun _ _ _ h => h) (Or.inl ⟨by rfl, ?hyy1_4⟩) hTT ?resty1_4
  case hyy1_4 => intro wq hSw; have qhS := fun i => (Blk.below hS hSw hS.lt).cell i; have qhQ := fun i => (Blk.below hQ hSw hQ.lt).cell i; go_simp <;> with_reducible rfl
  simp only [List.getElem_toArray, List.getElem_cons_zero, List.getElem_cons_succ, Act.put, List.setIfInBounds_toArray, List.set_cons_zero, List.set_cons_succ]
  refine wpG_take (i := 5) (v := ?vy1_5) rfl (by kernel_rfl) (by kernel_rfl) (by kernel_rfl) (by kernel_rfl) (fun _ _ _ h => h) (Or.inl ⟨by rfl, ?hyy1_5⟩) hTT ?resty1_5
  case hyy1_5 => intro wq hSw; have qhS := fun i => (Blk.below hS hSw hS.lt).cell i; have qhQ := fun i => (Blk.below hQ hSw hQ.lt).cell i; go_simp <;> with_reducible rfl
  simp only [List.getElem_toArray, List.getElem_cons_zero, List.getElem_cons_succ, Act.put, List.setIfInBounds_toArray, List.set_cons_zero, List.set_cons_succ]
  refine wpG_take (i := 8) (v := ?vy1_8) rfl (by kernel_rfl) (by kernel_rfl) (by kernel_rfl) (by kernel_rfl) (fun _ _ _ h => h) (Or.inl ⟨by rfl, ?hyy1_8⟩) hTT ?resty1_8
  case hyy1_8 => intro wq hSw; have qhS := fun i => (Blk.below hS hSw hS.lt).cell i; have qhQ := fun i => (Blk.below hQ hSw hQ.lt).cell i; go_simp <;> with_reducible rfl
  simp only [List.getElem_toArray, List.getElem_cons_zero, List.getElem_cons_succ, Act.put, List.setIfInBounds_toArray, List.set_cons_zero, List.set_cons_succ]
  refine wpG_take (i := 9) (v := ?vy1_9) rfl (by kernel_rfl) (by kernel_rfl) (by kernel_rfl) (by kernel_rfl) (fun _ _ _ h => h) (Or.inl ⟨by rfl, ?hyy1_9⟩) hTT ?resty1_9
  case hyy1_9 => intro wq hSw; have qhS := fun i => (Blk.below hS hSw hS.lt).cell i; have qhQ := fun i => (Blk.below hQ hSw hQ.lt).cell i; go_simp <;> with_reducible rfl
  simp only [List.getElem_toArray, List.getElem_cons_zero, List.getElem_cons_succ, Act.put, List.setIfInBounds_toArray, List.set_cons_zero, List.set_cons_succ]
  refine wpG_take (i := 10) (v := ?vy1_10) rfl (by kernel_rfl) (by kernel_rfl) (by kernel_rfl) (by kernel_rfl) (fun _ _ _ h => h) (Or.inl ⟨by rfl, ?hyy1_10⟩) hTT ?resty1_10
  case hyy1_10 => intro wq hSw; have qhS := fun i => (Blk.below hS hSw hS.lt).cell i; have qhQ := fun i => (Blk.below hQ hSw hQ.lt).cell i; go_simp <;> with_reducible rfl
  simp only [List.getElem_toArray, List.getElem_cons_zero, List.getElem_cons_succ, Act.put, List.setIfInBounds_toArray, List.set_cons_zero, List.set_cons_succ]
  refine wpG_take (i := 11) (v := ?vy1_11) rfl (by kernel_rfl) (by kernel_rfl) (by kernel_rfl) (by kernel_rfl) (fun _ _ _ h => h) (Or.inl ⟨by rfl, ?hyy1_11⟩) hTT ?resty1_11
  case hyy1_11 => intro wq hSw; have qhS := fun i => (Blk.below hS hSw hS.lt).cell i; have qhQ := fun i => (Blk.below hQ hSw hQ.lt).cell i; go_simp <;> with_reducible rfl
  simp only [List.getElem_toArray, List.getElem_cons_zero, List.getElem_cons_succ, Act.put, List.setIfInBounds_toArray, List.set_cons_zero, List.set_cons_succ]
  refine wpG_take (i := 12) (v := ?vy1_12) rfl (by kernel_rfl) (by kernel_rfl) (by kernel_rfl) (by kernel_rfl) (fun _ _ _ h => h) (Or.inl ⟨by rfl, ?hyy1_12⟩) hTT ?resty1_12
  case hyy1_12 => intro wq hSw; have qhS := fun i => (Blk.below hS hSw hS.lt).cell i; have qhQ := fun i => (Blk.below hQ hSw hQ.lt).cell i; go_simp <;> with_reducible rfl
  simp only [List.getElem_toArray, List.getElem_cons_zero, List.getElem_cons_succ, Act.put, List.setIfInBounds_toArray, List.set_cons_zero, List.set_cons_succ]
  refine wpG_take (i := 13) (v := ?vy1_13) rfl (by kernel_rfl) (by kernel_rfl) (by kernel_rfl) (by kernel_rfl) (fun _ _ _ h => h) (Or.inl ⟨by rfl, ?hyy1_13⟩) hTT ?resty1_13
  case hyy1_13 => intro wq hSw; have qhS := fun i => (Blk.below hS hSw hS.lt).cell i; have qhQ := fun i => (Blk.below hQ hSw hQ.lt).cell i; go_simp <;> with_reducible rfl
  simp only [List.getElem_toArray, List.getElem_cons_zero, List.getElem_cons_succ, Act.put, List.setIfInBounds_toArray, List.set_cons_zero, List.set_cons_succ]
  refine wpG_one (i := 6) rfl (by kernel_rfl) (fun K hK => ?_)
  go_simp
  refine (refSeen_any Wn H F L X Y SA sn scap rs row k 35 _ hW1 hW2 hk hsn1 hz hrz (by decide) (rdB hsr hB)).mono ?_
  rintro e w1 ⟨vv, rfl, own, hb⟩
  obtain ⟨pA, pC, rfl⟩ := own_slice own
  have p1 := own_le0 own
  have p2 := own_cap own
  have pR := Rd.of_own own
  replace hTT := hTT.trans (hb.mono hTT.size)
  replace hS := hS.below hb hS.lt
  replace hQ := hQ.below hb hQ.lt
  replace hB := hB.trans (hb.mono hB.size)
  clear own hb
  dsimp only
  refine hK _ _ (.inr hTT) ?_
  clear hK K
  try simp only [List.getElem_toArray, List.getElem_cons_zero, List.getElem_cons_succ, Act.put, List.setIfInBounds_toArray, List.set_cons_zero, List.set_cons_succ]
  refine wpG_one (i := 7) rfl (by kernel_rfl) (fun K hK => ?_)
  go_simp
  refine (lawSeen_any Wn H F L X Y nl nh xl xh y A n cap fs pA sn pC (rs.set (k / Wn) (seenRow row 35 (k % Wn))) _ hcap hcm (fun f h => ((hf f h).below hB).more hB.size) (rdB hr hB) p1 p2 h35 pR).mono ?_
  rintro e w1 ⟨rfl, hb⟩
  rw [HA.out]
  replace hTT := hTT.trans (hb.mono hTT.size)
  replace hS := hS.below hb hS.lt
  replace hQ := hQ.below hb hQ.lt
  replace hB := hB.trans (hb.mono hB.size)
  clear hb pR
  dsimp only
  refine hK _ _ (.inr hTT) ?_
  clear hK K
  try simp only [List.getElem_toArray, List.getElem_cons_zero, List.getElem_cons_succ, Act.put, List.setIfInBounds_toArray, List.set_cons_zero, List.set_cons_succ]
  refine wpG_one (i := 14) rfl (by kernel_rfl) (fun K hK => ?_)
  go_simp
  refine (refSeen_any Wn H F L X Y SA sn scap rs row k 46 _ hW1 hW2 hk hsn1 hz hrz (by decide) (rdB hsr hB)).mono ?_
  rintro e w1 ⟨vv, rfl, own, hb⟩
  obtain ⟨qA, qC, rfl⟩ := own_slice own
  have q1 := own_le0 own
  have q2 := own_cap own
  have qR := Rd.of_own own
  replace hTT := hTT.trans (hb.mono hTT.size)
  replace hS := hS.below hb hS.lt
  replace hQ := hQ.below hb hQ.lt
  replace hB := hB.trans (hb.mono hB.size)
  clear own hb
  dsimp only
  refine hK _ _ (.inr hTT) ?_
  clear hK K
  try simp only [List.getElem_toArray, List.getElem_cons_zero, List.getElem_cons_succ, Act.put, List.setIfInBounds_toArray, List.set_cons_zero, List.set_cons_succ]
  refine wpG_one (i := 15) rfl (by kernel_rfl) (fun K hK => ?_)
  go_simp
  refine (lawSeen_any Wn H F L X Y nl nh xl xh y A n cap fs qA sn qC (rs.set (k / Wn) (seenRow row 46 (k % Wn))) _ hcap hcm (fun f h => ((hf f h).below hB).more hB.size) (rdB hr hB) q1 q2 h46 qR).mono ?_
  rintro e w1 ⟨rfl, hb⟩
  rw [HB.out]
  replace hTT := hTT.trans (hb.mono hTT.size)
  replace hS := hS.below hb hS.lt
  replace hQ := hQ.below hb hQ.lt
  replace hB := hB.trans (hb.mono hB.size)
  clear hb qR
  dsimp only
  refine hK _ _ (.inr hTT) ?_
  clear hK K
  try simp only [List.getElem_toArray, List.getElem_cons_zero, List.getElem_cons_succ, Act.put, List.setIfInBounds_toArray, List.set_cons_zero, List.set_cons_succ]
  refine wpG_take (i := 16) (v := ?vy1_16) rfl (by kernel_rfl) (by kernel_rfl) (by kernel_rfl) (by kernel_rfl) (fun _ _ _ h => h) (Or.inl ⟨by rfl, ?hyy1_16⟩) hTT ?resty1_16
  case hyy1_16 => intro wq hSw; skip; go_simp <;> with_reducible rfl
  simp only [List.getElem_toArray, List.getElem_cons_zero, List.getElem_cons_succ, Act.put, List.setIfInBounds_toArray, List.set_cons_zero, List.set_cons_succ]
  refine wpG_one (i := 17) rfl (by kernel_rfl) (fun K hK => ?_)
  go_simp
  refine hK _ _ (.inl rfl) ?_
  clear hK K
  try simp only [List.getElem_toArray, List.getElem_cons_zero, List.getElem_cons_succ, Act.put, List.setIfInBounds_toArray, List.set_cons_zero, List.set_cons_succ]
  refine wpG_done (by kernel_rfl) ?_ _
  clear hTT
  have qhS := fun i => Blk.cell hS i
  have qhQ := fun i => Blk.cell hQ i
  clear HA HB h35 h46 hz hrz
  go_wp2_with (fail)
  go_ret
  exact ⟨rfl, hB⟩
end Go.Proofs.YtifddfchpknkbaaGreatDoor
