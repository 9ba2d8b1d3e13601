import Derived.Test.YtifddfchpknkbaaGreatDoorSg
import Derived.Test.YtifddfchpknkbaaGreatDoorOa
import Derived.Test.YtifddfchpknkbaaGreatDoorK2
import Derived.Test.YtifddfchpknkbaaGreatDoorZ
set_option linter.unusedVariables false
set_option linter.unusedSimpArgs false
namespace Go.Proofs.YtifddfchpknkbaaGreatDoor
open Go.RowKit

set_option maxRecDepth 100000 in
set_option maxHeartbeats 25600000 in
theorem self_main (Wn Hn : Nat) (F L X Y x y dx dy : Int) (A : Option Addr) (n cap : Nat) (rows : List ByteArray) (m : Int) (w : World) (hm : w.cell? ⟨0, 0, none⟩ = some (.int .i64 m)) (hcap : n ≤ cap) (hcm : cap ≤ maxLen) (hs : ∀ r ∈ rows, r.size ≤ maxLen) (hr : Rd w w.heap.size 1 A n (rows.map Value.string)) (rsA rsB : List ByteArray) (c35 : Int)
    (hsh : shortB rows = true) (hst : stageB Wn Hn F L X Y = true) (hfg : figB rows = true) (hp1 : (inB x (-20) 20 && inB y (-20) 20) = true) (hp2 : (inB dx (-20) 20 && inB dy (-20) 20) = true) (hp3 : (inB (x + dx) (-20) 20 && inB (y + dy) (-20) 20) = true)
    (HEA : Hid (errV (viewB Wn Hn F L X Y 0 x y rows) = .int .i64 0)) (HEB : Hid (errV (viewB Wn Hn F L X Y 0 (x + dx) (y + dy) rows) = .int .i64 0))
    (HRA : Hid (rsA = shadowRows Wn Hn F L X Y 0 x y rows)) (HRB : Hid (rsB = shadowRows Wn Hn F L X Y 0 (x + dx) (y + dy) rows))
    (HCO : Hid (countsR Wn Hn F L X Y 0 x y rows = #[.int .i64 c35, .int .i64 0, .int .i64 0]))
    (hla : rsA.length ≤ 100000) (hlb : rsB.length ≤ 100000) (hsa : ∀ r ∈ rsA, r.size ≤ 100000) (hsb : ∀ r ∈ rsB, r.size ≤ 100000) (hn1 : n ≤ 100000) (hs1 : ∀ s ∈ rows, s.size ≤ 100000)
    (HWA : Hid (wholeB Wn Hn rsA = true)) (HWB : Hid (wholeB Wn Hn rsB = true))
    (HAC : Hid (∀ m k : Nat, m < Hn → k < Wn → ∃ r : ByteArray, ∃ hk : k < r.size, rsA[m]? = some r ∧ ((r[k]'hk).toNat : Int) = hideV rows (k - x) (m - y)))
    (HBC : Hid (∀ m k : Nat, m < Hn → k < Wn → ∃ r : ByteArray, ∃ hk : k < r.size, rsB[m]? = some r ∧ ((r[k]'hk).toNat : Int) = hideV rows (k - (x + dx)) (m - (y + dy)))) :
    Calls Tryz.prog 5 #[.agg #[.int .i64 Wn, .int .i64 Hn, .int .i64 F, .int .i64 L, .int .i64 X, .int .i64 Y], .agg #[.slice A n cap], .int .i64 x, .int .i64 y, .int .i64 dx, .int .i64 dy] w fun e w' => e = .returned (.bool true) ∧ Below w.heap.size w w' := by
  have hn : n ≤ maxLen := Nat.le_trans hcap hcm
  have ⟨⟨a1, a2⟩, ⟨a3, a4⟩, ⟨a5, a6⟩, ⟨a7, a8⟩, ⟨a9, a10⟩, a11, a12⟩ := stageB_nums hst
  obtain ⟨x1, x2, y1, y2⟩ : -20 ≤ x ∧ x ≤ 20 ∧ -20 ≤ y ∧ y ≤ 20 := by have h := hp1; simp [inB] at h; omega
  obtain ⟨u1, u2, v1, v2⟩ : -20 ≤ dx ∧ dx ≤ 20 ∧ -20 ≤ dy ∧ dy ≤ 20 := by have h := hp2; simp [inB] at h; omega
  have hw1 := i64_ok (x + dx) (by omega)
  have hw2 := i64_ok (y + dy) (by omega)
  go_enter Tryz.func5, Tryz.ntmps5
  go_upto_region 1 with (fail)
  have hS := blk2_0 w (.cells #[.slice A n cap] 26) 23 #[.int .i64 Wn, .int .i64 Hn, .int .i64 F, .int .i64 L, .int .i64 X, .int .i64 Y]
  have hF := blk2_1 w (.cells #[.int .i64 Wn, .int .i64 Hn, .int .i64 F, .int .i64 L, .int .i64 X, .int .i64 Y] 23) 26 #[.slice A n cap]
  have hB := pro_2 w (.cells #[.int .i64 Wn, .int .i64 Hn, .int .i64 F, .int .i64 L, .int .i64 X, .int .i64 Y] 23) (.cells #[.slice A n cap] 26)
  have hR := rdB hr hB
  generalize (w.alloc (.cells #[.int .i64 Wn, .int .i64 Hn, .int .i64 F, .int .i64 L, .int .i64 X, .int .i64 Y] 23)).alloc (.cells #[.slice A n cap] 26) = W0 at *
  have qhS := fun i => Blk.cell hS i
  have qhF := fun i => Blk.cell hF i
  clear hr
  go_upto_region 3 with (first | (go_at_call 37; have hx := hq2; clear hx; refine (at_any (x + dx) (y + dy) _).mono ?_; rintro e w1 ⟨rfl, rfl⟩; rw [hp3]) | (go_at_call 37; have hx := hq1; clear hx; refine (at_any dx dy _).mono ?_; rintro e w1 ⟨rfl, rfl⟩; rw [hp2]; clear hq1; have hq2 : (0 : Nat) = 0 := rfl) | (go_at_call 37; refine (at_any x y _).mono ?_; rintro e w1 ⟨rfl, rfl⟩; rw [hp1]; have hq1 : (0 : Nat) = 0 := rfl) | (go_at_call 23; refine (short_any A n cap rows _ hn hs hR).mono ?_; rintro e w1 ⟨rfl, rfl⟩; rw [hsh]) | (go_at_call 27; refine (Stage_any Wn Hn F L X Y _).mono ?_; rintro e w1 ⟨rfl, hb⟩; rw [hst]; (try replace hS := hS.below hb hS.lt); (try replace hF := hF.below hb hF.lt); (try replace hR := rdB hR hb); (try replace hA := rdB hA hb); (try replace hC := rdB hC hb); replace hB := hB.trans (hb.mono hB.size); (try clear qhS); (try clear qhF); clear hb; (try have qhS := fun i => Blk.cell hS i); (try have qhF := fun i => Blk.cell hF i)) | (go_at_call 28; refine (refFigure_any A n cap rows _ hn hs hR).mono ?_; rintro e w1 ⟨rfl, hb⟩; rw [hfg]; (try replace hS := hS.below hb hS.lt); (try replace hF := hF.below hb hF.lt); (try replace hR := rdB hR hb); (try replace hA := rdB hA hb); (try replace hC := rdB hC hb); replace hB := hB.trans (hb.mono hB.size); (try clear qhS); (try clear qhF); clear hb; (try have qhS := fun i => Blk.cell hS i); (try have qhF := fun i => Blk.cell hF i)))
  clear hsh hst hfg hp1 hp2 hp3 hq2 hn
  refine wp_region_G (fun w' => Blk w' w.heap.size 23 #[.int .i64 Wn, .int .i64 Hn, .int .i64 F, .int .i64 L, .int .i64 X, .int .i64 Y] ∧ Blk w' (w.heap.size + 1) 26 #[.slice A n cap]) 10 (by kernel_rfl) ?_
  replace hS := hS.drew; replace hF := hF.drew; replace hR := hR.drew; (try replace hA := hA.drew); (try replace hC := hC.drew); replace hB := hB.drew
  clear qhS qhF
  have hTT := And.intro hS hF
  refine wpG_take (i := 0) (v := ?vb0) rfl (by kernel_rfl) (by kernel_rfl) (by kernel_rfl) (by kernel_rfl) (fun _ _ _ h => h) (Or.inl ⟨by rfl, ?hyb0⟩) hTT ?restb0
  case hyb0 => intro wq hSw; have hq1 := fun i => hSw.1.cell i; have hq2 := fun i => hSw.2.cell i; go_simp <;> with_reducible rfl
  simp only [List.getElem_toArray, List.getElem_cons_zero, List.getElem_cons_succ, Act.put, List.setIfInBounds_toArray, List.set_cons_zero, List.set_cons_succ]
  refine wpG_take (i := 1) (v := ?vb1) rfl (by kernel_rfl) (by kernel_rfl) (by kernel_rfl) (by kernel_rfl) (fun _ _ _ h => h) (Or.inl ⟨by rfl, ?hyb1⟩) hTT ?restb1
  case hyb1 => intro wq hSw; have hq1 := fun i => hSw.1.cell i; have hq2 := fun i => hSw.2.cell i; go_simp <;> with_reducible rfl
  simp only [List.getElem_toArray, List.getElem_cons_zero, List.getElem_cons_succ, Act.put, List.setIfInBounds_toArray, List.set_cons_zero, List.set_cons_succ]
  refine wpG_take (i := 2) (v := ?vb2) rfl (by kernel_rfl) (by kernel_rfl) (by kernel_rfl) (by kernel_rfl) (fun _ _ _ h => h) (Or.inl ⟨by rfl, ?hyb2⟩) hTT ?restb2
  case hyb2 => intro wq hSw; have hq1 := fun i => hSw.1.cell i; have hq2 := fun i => hSw.2.cell i; go_simp <;> with_reducible rfl
  simp only [List.getElem_toArray, List.getElem_cons_zero, List.getElem_cons_succ, Act.put, List.setIfInBounds_toArray, List.set_cons_zero, List.set_cons_succ]
  refine wpG_take (i := 3) (v := ?vb3) rfl (by kernel_rfl) (by kernel_rfl) (by kernel_rfl) (by kernel_rfl) (fun _ _ _ h => h) (Or.inl ⟨by rfl, ?hyb3⟩) hTT ?restb3
  case hyb3 => intro wq hSw; have hq1 := fun i => hSw.1.cell i; have hq2 := fun i => hSw.2.cell i; go_simp <;> with_reducible rfl
  simp only [List.getElem_toArray, List.getElem_cons_zero, List.getElem_cons_succ, Act.put, List.setIfInBounds_toArray, List.set_cons_zero, List.set_cons_succ]
  refine wpG_one (i := 4) rfl (by kernel_rfl) (fun K hK => ?_)
  go_simp
  refine (at_fun _ _ _ _).mono ?_; rintro e w1 ⟨rfl, hb⟩; replace hS := hS.below hb hS.lt; replace hF := hF.below hb hF.lt; replace hR := rdB hR hb; (try replace hA := rdB hA hb); (try replace hC := rdB hC hb); replace hB := hB.trans (hb.mono hB.size); clear hb hTT; have hTT := And.intro hS hF; dsimp only
  refine hK _ _ (.inr hTT) ?_
  clear hK K
  try simp only [List.getElem_toArray, List.getElem_cons_zero, List.getElem_cons_succ, Act.put, List.setIfInBounds_toArray, List.set_cons_zero, List.set_cons_succ]
  refine wpG_one (i := 5) rfl (by kernel_rfl) (fun K hK => ?_)
  go_simp
  refine (Shadow_any Wn Hn F L X Y 0 x y A n cap rows _ hcap hcm hs hR).mono ?_; rintro e w1 ⟨vv, rfl, own, hb⟩; replace hS := hS.below hb hS.lt; replace hF := hF.below hb hF.lt; replace hR := rdB hR hb; (try replace hA := rdB hA hb); (try replace hC := rdB hC hb); replace hB := hB.trans (hb.mono hB.size); clear hb hTT; have hTT := And.intro hS hF; dsimp only; rw [HEA.out]; rw [← HRA.out] at own; obtain ⟨A3, c3, rfl⟩ := own_slice own; have hA1 := own_le0 own; have hA2 := own_cap own; have hA := Rd.of_own own; clear own
  refine hK _ _ (.inr hTT) ?_
  clear hK K
  try simp only [List.getElem_toArray, List.getElem_cons_zero, List.getElem_cons_succ, Act.put, List.setIfInBounds_toArray, List.set_cons_zero, List.set_cons_succ]
  refine wpG_take (i := 6) (v := ?vb6) rfl (by kernel_rfl) (by kernel_rfl) (by kernel_rfl) (by kernel_rfl) (fun _ _ _ h => h) (Or.inl ⟨by rfl, ?hyb6⟩) hTT ?restb6
  case hyb6 => intro wq hSw; have hq1 := fun i => hSw.1.cell i; have hq2 := fun i => hSw.2.cell i; go_simp <;> with_reducible rfl
  simp only [List.getElem_toArray, List.getElem_cons_zero, List.getElem_cons_succ, Act.put, List.setIfInBounds_toArray, List.set_cons_zero, List.set_cons_succ]
  refine wpG_take (i := 7) (v := ?vb7) rfl (by kernel_rfl) (by kernel_rfl) (by kernel_rfl) (by kernel_rfl) (fun _ _ _ h => h) (Or.inl ⟨by rfl, ?hyb7⟩) hTT ?restb7
  case hyb7 => intro wq hSw; have hq1 := fun i => hSw.1.cell i; have hq2 := fun i => hSw.2.cell i; go_simp <;> with_reducible rfl
  simp only [List.getElem_toArray, List.getElem_cons_zero, List.getElem_cons_succ, Act.put, List.setIfInBounds_toArray, List.set_cons_zero, List.set_cons_succ]
  refine wpG_take (i := 8) (v := ?vb8) rfl (by kernel_rfl) (by kernel_rfl) (by kernel_rfl) (by kernel_rfl) (fun _ _ _ h => h) (Or.inl ⟨by rfl, ?hyb8⟩) hTT ?restb8
  case hyb8 => intro wq hSw; have hq1 := fun i => hSw.1.cell i; have hq2 := fun i => hSw.2.cell i; go_simp <;> with_reducible rfl
  simp only [List.getElem_toArray, List.getElem_cons_zero, List.getElem_cons_succ, Act.put, List.setIfInBounds_toArray, List.set_cons_zero, List.set_cons_succ]
  refine wpG_take (i := 9) (v := ?vb9) rfl (by kernel_rfl) (by kernel_rfl) (by kernel_rfl) (by kernel_rfl) (fun _ _ _ h => h) (Or.inl ⟨by rfl, ?hyb9⟩) hTT ?restb9
  case hyb9 => intro wq hSw; have hq1 := fun i => hSw.1.cell i; have hq2 := fun i => hSw.2.cell i; go_simp <;> with_reducible rfl
  simp only [List.getElem_toArray, List.getElem_cons_zero, List.getElem_cons_succ, Act.put, List.setIfInBounds_toArray, List.set_cons_zero, List.set_cons_succ]
  refine wpG_one (i := 10) rfl (by kernel_rfl) (fun K hK => ?_)
  go_simp
  refine hK _ _ (.inl rfl) ?_
  clear hK K
  try simp only [List.getElem_toArray, List.getElem_cons_zero, List.getElem_cons_succ, Act.put, List.setIfInBounds_toArray, List.set_cons_zero, List.set_cons_succ]
  refine wpG_done (by kernel_rfl) ?_ _
  clear hTT
  have qhS := fun i => Blk.cell hS i; have qhF := fun i => Blk.cell hF i
  go_upto_region 4 with (fail)
  refine wp_region_G (fun w' => Blk w' w.heap.size 23 #[.int .i64 Wn, .int .i64 Hn, .int .i64 F, .int .i64 L, .int .i64 X, .int .i64 Y] ∧ Blk w' (w.heap.size + 1) 26 #[.slice A n cap]) 14 (by kernel_rfl) ?_
  replace hS := hS.drew; replace hF := hF.drew; replace hR := hR.drew; (try replace hA := hA.drew); (try replace hC := hC.drew); replace hB := hB.drew
  clear qhS qhF
  have hTT := And.intro hS hF
  refine wpG_take (i := 0) (v := ?vc0) rfl (by kernel_rfl) (by kernel_rfl) (by kernel_rfl) (by kernel_rfl) (fun _ _ _ h => h) (Or.inl ⟨by rfl, ?hyc0⟩) hTT ?restc0
  case hyc0 => intro wq hSw; have hq1 := fun i => hSw.1.cell i; have hq2 := fun i => hSw.2.cell i; go_simp <;> with_reducible rfl
  simp only [List.getElem_toArray, List.getElem_cons_zero, List.getElem_cons_succ, Act.put, List.setIfInBounds_toArray, List.set_cons_zero, List.set_cons_succ]
  refine wpG_take (i := 1) (v := ?vc1) rfl (by kernel_rfl) (by kernel_rfl) (by kernel_rfl) (by kernel_rfl) (fun _ _ _ h => h) (Or.inl ⟨by rfl, ?hyc1⟩) hTT ?restc1
  case hyc1 => intro wq hSw; have hq1 := fun i => hSw.1.cell i; have hq2 := fun i => hSw.2.cell i; go_simp <;> with_reducible rfl
  simp only [List.getElem_toArray, List.getElem_cons_zero, List.getElem_cons_succ, Act.put, List.setIfInBounds_toArray, List.set_cons_zero, List.set_cons_succ]
  refine wpG_take (i := 2) (v := ?vc2) rfl (by kernel_rfl) (by kernel_rfl) (by kernel_rfl) (by kernel_rfl) (fun _ _ _ h => h) (Or.inl ⟨by rfl, ?hyc2⟩) hTT ?restc2
  case hyc2 => intro wq hSw; have hq1 := fun i => hSw.1.cell i; have hq2 := fun i => hSw.2.cell i; go_simp <;> with_reducible rfl
  simp only [List.getElem_toArray, List.getElem_cons_zero, List.getElem_cons_succ, Act.put, List.setIfInBounds_toArray, List.set_cons_zero, List.set_cons_succ]
  refine wpG_take (i := 3) (v := ?vc3) rfl (by kernel_rfl) (by kernel_rfl) (by kernel_rfl) (by kernel_rfl) (fun _ _ _ h => h) (Or.inl ⟨by rfl, ?hyc3⟩) hTT ?restc3
  case hyc3 => intro wq hSw; have hq1 := fun i => hSw.1.cell i; have hq2 := fun i => hSw.2.cell i; go_simp <;> with_reducible rfl
  simp only [List.getElem_toArray, List.getElem_cons_zero, List.getElem_cons_succ, Act.put, List.setIfInBounds_toArray, List.set_cons_zero, List.set_cons_succ]
  refine wpG_take (i := 4) (v := ?vc4) rfl (by kernel_rfl) (by kernel_rfl) (by kernel_rfl) (by kernel_rfl) (fun _ _ _ h => h) (Or.inl ⟨by rfl, ?hyc4⟩) hTT ?restc4
  case hyc4 => intro wq hSw; have hq1 := fun i => hSw.1.cell i; have hq2 := fun i => hSw.2.cell i; go_simp <;> with_reducible rfl
  simp only [List.getElem_toArray, List.getElem_cons_zero, List.getElem_cons_succ, Act.put, List.setIfInBounds_toArray, List.set_cons_zero, List.set_cons_succ]
  refine wpG_take (i := 5) (v := ?vc5) rfl (by kernel_rfl) (by kernel_rfl) (by kernel_rfl) (by kernel_rfl) (fun _ _ _ h => h) (Or.inl ⟨by rfl, ?hyc5⟩) hTT ?restc5
  case hyc5 => intro wq hSw; have hq1 := fun i => hSw.1.cell i; have hq2 := fun i => hSw.2.cell i; go_simp <;> with_reducible rfl
  simp only [List.getElem_toArray, List.getElem_cons_zero, List.getElem_cons_succ, Act.put, List.setIfInBounds_toArray, List.set_cons_zero, List.set_cons_succ]
  refine wpG_take (i := 6) (v := ?vc6) rfl (by kernel_rfl) (by kernel_rfl) (by kernel_rfl) (by kernel_rfl) (fun _ _ _ h => h) (Or.inl ⟨by rfl, ?hyc6⟩) hTT ?restc6
  case hyc6 => intro wq hSw; have hq1 := fun i => hSw.1.cell i; have hq2 := fun i => hSw.2.cell i; go_simp <;> with_reducible rfl
  simp only [List.getElem_toArray, List.getElem_cons_zero, List.getElem_cons_succ, Act.put, List.setIfInBounds_toArray, List.set_cons_zero, List.set_cons_succ]
  refine wpG_take (i := 7) (v := ?vc7) rfl (by kernel_rfl) (by kernel_rfl) (by kernel_rfl) (by kernel_rfl) (fun _ _ _ h => h) (Or.inl ⟨by rfl, ?hyc7⟩) hTT ?restc7
  case hyc7 => intro wq hSw; have hq1 := fun i => hSw.1.cell i; have hq2 := fun i => hSw.2.cell i; go_simp <;> with_reducible rfl
  simp only [List.getElem_toArray, List.getElem_cons_zero, List.getElem_cons_succ, Act.put, List.setIfInBounds_toArray, List.set_cons_zero, List.set_cons_succ]
  refine wpG_one (i := 8) rfl (by kernel_rfl) (fun K hK => ?_)
  go_simp
  refine (at_fun _ _ _ _).mono ?_; rintro e w1 ⟨rfl, hb⟩; replace hS := hS.below hb hS.lt; replace hF := hF.below hb hF.lt; replace hR := rdB hR hb; (try replace hA := rdB hA hb); (try replace hC := rdB hC hb); replace hB := hB.trans (hb.mono hB.size); clear hb hTT; have hTT := And.intro hS hF; dsimp only
  refine hK _ _ (.inr hTT) ?_
  clear hK K
  try simp only [List.getElem_toArray, List.getElem_cons_zero, List.getElem_cons_succ, Act.put, List.setIfInBounds_toArray, List.set_cons_zero, List.set_cons_succ]
  refine wpG_one (i := 9) rfl (by kernel_rfl) (fun K hK => ?_)
  go_simp
  refine (Shadow_any Wn Hn F L X Y 0 (x + dx) (y + dy) A n cap rows _ hcap hcm hs hR).mono ?_; rintro e w1 ⟨vv, rfl, own, hb⟩; replace hS := hS.below hb hS.lt; replace hF := hF.below hb hF.lt; replace hR := rdB hR hb; (try replace hA := rdB hA hb); (try replace hC := rdB hC hb); replace hB := hB.trans (hb.mono hB.size); clear hb hTT; have hTT := And.intro hS hF; dsimp only; rw [HEB.out]; rw [← HRB.out] at own; obtain ⟨A4, c4, rfl⟩ := own_slice own; have hC1 := own_le0 own; have hC2 := own_cap own; have hC := Rd.of_own own; clear own
  refine hK _ _ (.inr hTT) ?_
  clear hK K
  try simp only [List.getElem_toArray, List.getElem_cons_zero, List.getElem_cons_succ, Act.put, List.setIfInBounds_toArray, List.set_cons_zero, List.set_cons_succ]
  refine wpG_take (i := 10) (v := ?vc10) rfl (by kernel_rfl) (by kernel_rfl) (by kernel_rfl) (by kernel_rfl) (fun _ _ _ h => h) (Or.inl ⟨by rfl, ?hyc10⟩) hTT ?restc10
  case hyc10 => intro wq hSw; have hq1 := fun i => hSw.1.cell i; have hq2 := fun i => hSw.2.cell i; go_simp <;> with_reducible rfl
  simp only [List.getElem_toArray, List.getElem_cons_zero, List.getElem_cons_succ, Act.put, List.setIfInBounds_toArray, List.set_cons_zero, List.set_cons_succ]
  refine wpG_take (i := 11) (v := ?vc11) rfl (by kernel_rfl) (by kernel_rfl) (by kernel_rfl) (by kernel_rfl) (fun _ _ _ h => h) (Or.inl ⟨by rfl, ?hyc11⟩) hTT ?restc11
  case hyc11 => intro wq hSw; have hq1 := fun i => hSw.1.cell i; have hq2 := fun i => hSw.2.cell i; go_simp <;> with_reducible rfl
  simp only [List.getElem_toArray, List.getElem_cons_zero, List.getElem_cons_succ, Act.put, List.setIfInBounds_toArray, List.set_cons_zero, List.set_cons_succ]
  refine wpG_take (i := 12) (v := ?vc12) rfl (by kernel_rfl) (by kernel_rfl) (by kernel_rfl) (by kernel_rfl) (fun _ _ _ h => h) (Or.inl ⟨by rfl, ?hyc12⟩) hTT ?restc12
  case hyc12 => intro wq hSw; have hq1 := fun i => hSw.1.cell i; have hq2 := fun i => hSw.2.cell i; go_simp <;> with_reducible rfl
  simp only [List.getElem_toArray, List.getElem_cons_zero, List.getElem_cons_succ, Act.put, List.setIfInBounds_toArray, List.set_cons_zero, List.set_cons_succ]
  refine wpG_take (i := 13) (v := ?vc13) rfl (by kernel_rfl) (by kernel_rfl) (by kernel_rfl) (by kernel_rfl) (fun _ _ _ h => h) (Or.inl ⟨by rfl, ?hyc13⟩) hTT ?restc13
  case hyc13 => intro wq hSw; have hq1 := fun i => hSw.1.cell i; have hq2 := fun i => hSw.2.cell i; go_simp <;> with_reducible rfl
  simp only [List.getElem_toArray, List.getElem_cons_zero, List.getElem_cons_succ, Act.put, List.setIfInBounds_toArray, List.set_cons_zero, List.set_cons_succ]
  refine wpG_one (i := 14) rfl (by kernel_rfl) (fun K hK => ?_)
  go_simp
  refine hK _ _ (.inl rfl) ?_
  clear hK K
  try simp only [List.getElem_toArray, List.getElem_cons_zero, List.getElem_cons_succ, Act.put, List.setIfInBounds_toArray, List.set_cons_zero, List.set_cons_succ]
  refine wpG_done (by kernel_rfl) ?_ _
  clear hTT
  have qhS := fun i => Blk.cell hS i; have qhF := fun i => Blk.cell hF i
  go_upto_region 5 with (fail)
  refine wp_region_G (fun w' => Blk w' w.heap.size 23 #[.int .i64 Wn, .int .i64 Hn, .int .i64 F, .int .i64 L, .int .i64 X, .int .i64 Y] ∧ Blk w' (w.heap.size + 1) 26 #[.slice A n cap]) 12 (by kernel_rfl) ?_
  replace hS := hS.drew; replace hF := hF.drew; replace hR := hR.drew; (try replace hA := hA.drew); (try replace hC := hC.drew); replace hB := hB.drew
  clear qhS qhF
  have hTT := And.intro hS hF
  refine wpG_take (i := 0) (v := ?vd0) rfl (by kernel_rfl) (by kernel_rfl) (by kernel_rfl) (by kernel_rfl) (fun _ _ _ h => h) (Or.inl ⟨by rfl, ?hyd0⟩) hTT ?restd0
  case hyd0 => intro wq hSw; have hq1 := fun i => hSw.1.cell i; have hq2 := fun i => hSw.2.cell i; go_simp <;> with_reducible rfl
  simp only [List.getElem_toArray, List.getElem_cons_zero, List.getElem_cons_succ, Act.put, List.setIfInBounds_toArray, List.set_cons_zero, List.set_cons_succ]
  refine wpG_take (i := 1) (v := ?vd1) rfl (by kernel_rfl) (by kernel_rfl) (by kernel_rfl) (by kernel_rfl) (fun _ _ _ h => h) (Or.inl ⟨by rfl, ?hyd1⟩) hTT ?restd1
  case hyd1 => intro wq hSw; have hq1 := fun i => hSw.1.cell i; have hq2 := fun i => hSw.2.cell i; go_simp <;> with_reducible rfl
  simp only [List.getElem_toArray, List.getElem_cons_zero, List.getElem_cons_succ, Act.put, List.setIfInBounds_toArray, List.set_cons_zero, List.set_cons_succ]
  refine wpG_take (i := 2) (v := ?vd2) rfl (by kernel_rfl) (by kernel_rfl) (by kernel_rfl) (by kernel_rfl) (fun _ _ _ h => h) (Or.inl ⟨by rfl, ?hyd2⟩) hTT ?restd2
  case hyd2 => intro wq hSw; have hq1 := fun i => hSw.1.cell i; have hq2 := fun i => hSw.2.cell i; go_simp <;> with_reducible rfl
  simp only [List.getElem_toArray, List.getElem_cons_zero, List.getElem_cons_succ, Act.put, List.setIfInBounds_toArray, List.set_cons_zero, List.set_cons_succ]
  refine wpG_take (i := 3) (v := ?vd3) rfl (by kernel_rfl) (by kernel_rfl) (by kernel_rfl) (by kernel_rfl) (fun _ _ _ h => h) (Or.inl ⟨by rfl, ?hyd3⟩) hTT ?restd3
  case hyd3 => intro wq hSw; have hq1 := fun i => hSw.1.cell i; have hq2 := fun i => hSw.2.cell i; go_simp <;> with_reducible rfl
  simp only [List.getElem_toArray, List.getElem_cons_zero, List.getElem_cons_succ, Act.put, List.setIfInBounds_toArray, List.set_cons_zero, List.set_cons_succ]
  refine wpG_one (i := 4) rfl (by kernel_rfl) (fun K hK => ?_)
  go_simp
  refine (at_fun _ _ _ _).mono ?_; rintro e w1 ⟨rfl, hb⟩; replace hS := hS.below hb hS.lt; replace hF := hF.below hb hF.lt; replace hR := rdB hR hb; (try replace hA := rdB hA hb); (try replace hC := rdB hC hb); replace hB := hB.trans (hb.mono hB.size); clear hb hTT; have hTT := And.intro hS hF; dsimp only
  refine hK _ _ (.inr hTT) ?_
  clear hK K
  try simp only [List.getElem_toArray, List.getElem_cons_zero, List.getElem_cons_succ, Act.put, List.setIfInBounds_toArray, List.set_cons_zero, List.set_cons_succ]
  refine wpG_one (i := 5) rfl (by kernel_rfl) (fun K hK => ?_)
  go_simp
  refine (Counts_any Wn Hn F L X Y 0 x y A n cap rows _ hcap hcm hs hR).mono ?_; rintro e w1 ⟨rfl, hb⟩; replace hS := hS.below hb hS.lt; replace hF := hF.below hb hF.lt; replace hR := rdB hR hb; (try replace hA := rdB hA hb); (try replace hC := rdB hC hb); replace hB := hB.trans (hb.mono hB.size); clear hb hTT; have hTT := And.intro hS hF; dsimp only; rw [HCO.out]
  refine hK _ _ (.inr hTT) ?_
  clear hK K
  try simp only [List.getElem_toArray, List.getElem_cons_zero, List.getElem_cons_succ, Act.put, List.setIfInBounds_toArray, List.set_cons_zero, List.set_cons_succ]
  refine wpG_take (i := 6) (v := ?vd6) rfl (by kernel_rfl) (by kernel_rfl) (by kernel_rfl) (by kernel_rfl) (fun _ _ _ h => h) (Or.inl ⟨by rfl, ?hyd6⟩) hTT ?restd6
  case hyd6 => intro wq hSw; have hq1 := fun i => hSw.1.cell i; have hq2 := fun i => hSw.2.cell i; go_simp <;> with_reducible rfl
  simp only [List.getElem_toArray, List.getElem_cons_zero, List.getElem_cons_succ, Act.put, List.setIfInBounds_toArray, List.set_cons_zero, List.set_cons_succ]
  refine wpG_take (i := 7) (v := ?vd7) rfl (by kernel_rfl) (by kernel_rfl) (by kernel_rfl) (by kernel_rfl) (fun _ _ _ h => h) (Or.inl ⟨by rfl, ?hyd7⟩) hTT ?restd7
  case hyd7 => intro wq hSw; have hq1 := fun i => hSw.1.cell i; have hq2 := fun i => hSw.2.cell i; go_simp <;> with_reducible rfl
  simp only [List.getElem_toArray, List.getElem_cons_zero, List.getElem_cons_succ, Act.put, List.setIfInBounds_toArray, List.set_cons_zero, List.set_cons_succ]
  refine wpG_take (i := 8) (v := ?vd8) rfl (by kernel_rfl) (by kernel_rfl) (by kernel_rfl) (by kernel_rfl) (fun _ _ _ h => h) (Or.inl ⟨by rfl, ?hyd8⟩) hTT ?restd8
  case hyd8 => intro wq hSw; have hq1 := fun i => hSw.1.cell i; have hq2 := fun i => hSw.2.cell i; go_simp <;> with_reducible rfl
  simp only [List.getElem_toArray, List.getElem_cons_zero, List.getElem_cons_succ, Act.put, List.setIfInBounds_toArray, List.set_cons_zero, List.set_cons_succ]
  refine wpG_take (i := 9) (v := ?vd9) rfl (by kernel_rfl) (by kernel_rfl) (by kernel_rfl) (by kernel_rfl) (fun _ _ _ h => h) (Or.inl ⟨by rfl, ?hyd9⟩) hTT ?restd9
  case hyd9 => intro wq hSw; have hq1 := fun i => hSw.1.cell i; have hq2 := fun i => hSw.2.cell i; go_simp <;> with_reducible rfl
  simp only [List.getElem_toArray, List.getElem_cons_zero, List.getElem_cons_succ, Act.put, List.setIfInBounds_toArray, List.set_cons_zero, List.set_cons_succ]
  refine wpG_take (i := 10) (v := ?vd10) rfl (by kernel_rfl) (by kernel_rfl) (by kernel_rfl) (by kernel_rfl) (fun _ _ _ h => h) (Or.inl ⟨by rfl, ?hyd10⟩) hTT ?restd10
  case hyd10 => intro wq hSw; have hq1 := fun i => hSw.1.cell i; have hq2 := fun i => hSw.2.cell i; go_simp <;> with_reducible rfl
  simp only [List.getElem_toArray, List.getElem_cons_zero, List.getElem_cons_succ, Act.put, List.setIfInBounds_toArray, List.set_cons_zero, List.set_cons_succ]
  refine wpG_take (i := 11) (v := ?vd11) rfl (by kernel_rfl) (by kernel_rfl) (by kernel_rfl) (by kernel_rfl) (fun _ _ _ h => h) (Or.inl ⟨by rfl, ?hyd11⟩) hTT ?restd11
  case hyd11 => intro wq hSw; have hq1 := fun i => hSw.1.cell i; have hq2 := fun i => hSw.2.cell i; go_simp <;> with_reducible rfl
  simp only [List.getElem_toArray, List.getElem_cons_zero, List.getElem_cons_succ, Act.put, List.setIfInBounds_toArray, List.set_cons_zero, List.set_cons_succ]
  refine wpG_one (i := 12) rfl (by kernel_rfl) (fun K hK => ?_)
  go_simp
  refine hK _ _ (.inl rfl) ?_
  clear hK K
  try simp only [List.getElem_toArray, List.getElem_cons_zero, List.getElem_cons_succ, Act.put, List.setIfInBounds_toArray, List.set_cons_zero, List.set_cons_succ]
  refine wpG_done (by kernel_rfl) ?_ _
  clear hTT
  have qhS := fun i => Blk.cell hS i; have qhF := fun i => Blk.cell hF i
  clear hw1 hw2 HEA HEB HRA HRB HCO hcap hcm hs
  go_wp2_with (first | (go_at_call 35; have hx := hwdone; clear hx; refine (whole_any Wn Hn F L X Y A4 rsB.length c4 rsB _ hlb hsb hC).mono ?_; rintro e w1 ⟨rfl, hb⟩; rw [HWB.out]; clear hwdone; (try replace hS := hS.below hb hS.lt); (try replace hF := hF.below hb hF.lt); (try replace hR := rdB hR hb); (try replace hA := rdB hA hb); (try replace hC := rdB hC hb); replace hB := hB.trans (hb.mono hB.size); (try clear qhS); (try clear qhF); clear hb; (try have qhS := fun i => Blk.cell hS i); (try have qhF := fun i => Blk.cell hF i)) | (go_at_call 35; refine (whole_any Wn Hn F L X Y A3 rsA.length c3 rsA _ hla hsa hA).mono ?_; rintro e w1 ⟨rfl, hb⟩; rw [HWA.out]; have hwdone : (0 : Nat) = 0 := rfl; (try replace hS := hS.below hb hS.lt); (try replace hF := hF.below hb hF.lt); (try replace hR := rdB hR hb); (try replace hA := rdB hA hb); (try replace hC := rdB hC hb); replace hB := hB.trans (hb.mono hB.size); (try clear qhS); (try clear qhF); clear hb; (try have qhS := fun i => Blk.cell hS i); (try have qhF := fun i => Blk.cell hF i)))
  clear HWA HWB hla hlb hsa hsb
  go_loopg [20] Hn (fun g i wr => ∃ q : Nat, g = Hn - q ∧ q ≤ Hn ∧ i = .int .i64 q ∧ Blk wr w.heap.size 23 #[.int .i64 Wn, .int .i64 Hn, .int .i64 F, .int .i64 L, .int .i64 X, .int .i64 Y] ∧ Blk wr (w.heap.size + 1) 26 #[.slice A n cap] ∧ Rd wr wr.heap.size 1 A n (rows.map Value.string) ∧ Rd wr wr.heap.size 1 A3 rsA.length (rsA.map Value.string) ∧ Rd wr wr.heap.size 1 A4 rsB.length (rsB.map Value.string) ∧ Below w.heap.size w wr)
  case atStart => exact ⟨0, rfl, Nat.zero_le _, rfl, hS, hF, hR, hA, hC, hB⟩
  case round =>
    clear hS hF hR hA hC hB qhS qhF
    obtain ⟨q, hg, hq, rfl, hS, hF, hR, hA, hC, hB⟩ := hrel
    have HG := Lib.hid hg; clear hg
    have qhS := fun i => Blk.cell hS i
    by_cases hlt : q < Hn
    · go_wp2_with (fail)
      clear qhS
      go_loopg [21] Wn (fun g i wr => ∃ k : Nat, g = Wn - k ∧ k ≤ Wn ∧ i = .int .i64 k ∧ Blk wr w.heap.size 23 #[.int .i64 Wn, .int .i64 Hn, .int .i64 F, .int .i64 L, .int .i64 X, .int .i64 Y] ∧ Blk wr (w.heap.size + 1) 26 #[.slice A n cap] ∧ Rd wr wr.heap.size 1 A n (rows.map Value.string) ∧ Rd wr wr.heap.size 1 A3 rsA.length (rsA.map Value.string) ∧ Rd wr wr.heap.size 1 A4 rsB.length (rsB.map Value.string) ∧ Below w.heap.size w wr)
      case atStart => exact ⟨0, rfl, Nat.zero_le _, rfl, hS, hF, hR, hA, hC, hB⟩
      case round =>
        clear hS hF hR hA hC hB
        obtain ⟨k, hg, hk, rfl, hS, hF, hR, hA, hC, hB⟩ := hrel
        have HG2 := Lib.hid hg; clear hg
        have qhS := fun i => Blk.cell hS i
        by_cases hlt2 : k < Wn
        · obtain ⟨rA, hkA, hgA, hzA⟩ := HAC.out q k hlt hlt2
          obtain ⟨hinA, hgetA⟩ := List.getElem?_eq_some_iff.1 hgA
          obtain ⟨bA, offA, hzzA, rfl, hbA, hcA⟩ := hA.atm (k := q) hinA
          rw [hgetA] at hcA
          obtain ⟨z, hz⟩ : ∃ z, z = hideV rows (k - x) (q - y) := ⟨_, rfl⟩
          rw [← hz] at hzA
          have hqA : (q : Int) < rsA.length := by omega
          have hkA2 : (k : Int) < rA.size := by omega
          have hw1 := i64_ok ((k : Int) - x) (by omega)
          have hw2 := i64_ok ((q : Int) - y) (by omega)
          have hzne : ((rA[k].toNat : Int) != z) = false := by rw [hzA]; simp
          have HZA := Lib.hid hzA
          go_upto_region 14 with (fail)
          rename World => W0
          have hk36 : ∀ p : Blw W0.heap.size W0, Calls Tryz.prog 36 #[.agg #[.slice A n cap], .int .i64 ((k : Int) - x), .int .i64 ((q : Int) - y), .int .i64 1] p.to fun e w' => e = .returned (.int .u8 z) ∧ Below p.to.heap.size p.to w' := fun p => by
            have h := hide_any A n cap rows ((k : Int) - x) ((q : Int) - y) 1 p.to hn1 hs1 (rd_blw hR p) (by omega) (by omega) (by omega) (by omega)
            rw [Int.ediv_one, Int.ediv_one, ← hz] at h
            exact h
          have hbs := fun p i => blw_blk hS p i
          have hbf := fun p i => blw_blk hF p i
          have hbc : ∀ p : Blw W0.heap.size W0, p.to.cell? ⟨bA, offA + q, none⟩ = some (.string rA) := fun p => (p.h.cell (p := ⟨bA, offA + q, none⟩) hbA).trans hcA
          have HZD := Lib.hid hz
          clear hzA hz
          refine wp_region_blw (by kernel_rfl) (by kernel_rfl) ?_
          repeat (go_big_quiet_step (first | (go_at_call 36; exact Calls.blw_of _ (hk36 _))))
          refine wpQuiet_nil ?_
          rintro W3 ⟨⟨_, hb⟩, rfl⟩
          clear hbs hbf hbc hk36 qhS
          have hb5 := hb.size
          have hcA3 := (hb.cell (p := ⟨bA, offA + q, none⟩) hbA).trans hcA
          replace hS := hS.below hb hS.lt; replace hF := hF.below hb hF.lt; replace hR := rdB hR hb; replace hA := rdB hA hb; replace hC := rdB hC hb; replace hB := hB.trans (hb.mono hB.size); clear hb
          clear hcA hzzA hgetA hw1 hw2 hzne
          go_upto_region 16 with (fail)
          by_cases hd1 : 0 ≤ (q : Int) + dy
          case neg =>
            have hw5 := i64_ok ((q : Int) + dy) (by omega)
            have hbs := fun p i => blw_blk hS p i
            refine wp_region_blw (by kernel_rfl) (by kernel_rfl) ?_
            repeat (go_big_quiet_step (fail))
            refine wpQuiet_nil ?_
            rintro W4 ⟨⟨_, hb⟩, rfl⟩
            replace hS := hS.below hb hS.lt; replace hF := hF.below hb hF.lt; replace hR := rdB hR hb; replace hA := rdB hA hb; replace hC := rdB hC hb; replace hB := hB.trans (hb.mono hB.size); clear hb
            clear hbs
            go_wp2_with (fail)
            go_roundg (Wn - (k + 1))
            case measure => rw [HG2.out]; omega
            case rel => exact ⟨k + 1, rfl, by omega, by go_num, hS, hF, hR, hA, hC, hB⟩

          by_cases hd2 : (q : Int) + dy < Hn
          case neg =>
            have hw5 := i64_ok ((q : Int) + dy) (by omega)
            have hbs := fun p i => blw_blk hS p i
            refine wp_region_blw (by kernel_rfl) (by kernel_rfl) ?_
            repeat (go_big_quiet_step (fail))
            refine wpQuiet_nil ?_
            rintro W4 ⟨⟨_, hb⟩, rfl⟩
            replace hS := hS.below hb hS.lt; replace hF := hF.below hb hF.lt; replace hR := rdB hR hb; replace hA := rdB hA hb; replace hC := rdB hC hb; replace hB := hB.trans (hb.mono hB.size); clear hb
            clear hbs
            go_wp2_with (fail)
            go_roundg (Wn - (k + 1))
            case measure => rw [HG2.out]; omega
            case rel => exact ⟨k + 1, rfl, by omega, by go_num, hS, hF, hR, hA, hC, hB⟩

          by_cases hd3 : 0 ≤ (k : Int) + dx
          case neg =>
            have hw5 := i64_ok ((q : Int) + dy) (by omega)
            have hw6 := i64_ok ((k : Int) + dx) (by omega)
            have hbs := fun p i => blw_blk hS p i
            refine wp_region_blw (by kernel_rfl) (by kernel_rfl) ?_
            repeat (go_big_quiet_step (fail))
            refine wpQuiet_nil ?_
            rintro W4 ⟨⟨_, hb⟩, rfl⟩
            replace hS := hS.below hb hS.lt; replace hF := hF.below hb hF.lt; replace hR := rdB hR hb; replace hA := rdB hA hb; replace hC := rdB hC hb; replace hB := hB.trans (hb.mono hB.size); clear hb
            clear hbs
            go_wp2_with (fail)
            go_roundg (Wn - (k + 1))
            case measure => rw [HG2.out]; omega
            case rel => exact ⟨k + 1, rfl, by omega, by go_num, hS, hF, hR, hA, hC, hB⟩

          by_cases hd4 : (k : Int) + dx < Wn
          case neg =>
            have hw5 := i64_ok ((q : Int) + dy) (by omega)
            have hw6 := i64_ok ((k : Int) + dx) (by omega)
            have hbs := fun p i => blw_blk hS p i
            refine wp_region_blw (by kernel_rfl) (by kernel_rfl) ?_
            repeat (go_big_quiet_step (fail))
            refine wpQuiet_nil ?_
            rintro W4 ⟨⟨_, hb⟩, rfl⟩
            replace hS := hS.below hb hS.lt; replace hF := hF.below hb hF.lt; replace hR := rdB hR hb; replace hA := rdB hA hb; replace hC := rdB hC hb; replace hB := hB.trans (hb.mono hB.size); clear hb
            clear hbs
            go_wp2_with (fail)
            go_roundg (Wn - (k + 1))
            case measure => rw [HG2.out]; omega
            case rel => exact ⟨k + 1, rfl, by omega, by go_num, hS, hF, hR, hA, hC, hB⟩

          obtain ⟨qq, hqq⟩ : ∃ qq : Nat, (q : Int) + dy = qq := ⟨((q : Int) + dy).toNat, by omega⟩
          obtain ⟨kk, hkk⟩ : ∃ kk : Nat, (k : Int) + dx = kk := ⟨((k : Int) + dx).toNat, by omega⟩
          obtain ⟨rB, hkB, hgB, hzB⟩ := HBC.out qq kk (by omega) (by omega)
          have hzAB : (rB[kk].toNat : Int) = (rA[k].toNat : Int) := by
            rw [hzB, HZA.out, HZD.out, show (kk : Int) - (x + dx) = (k : Int) - x by omega, show (qq : Int) - (y + dy) = (q : Int) - y by omega]
          have hne2 : ((rB[kk].toNat : Int) != (rA[k].toNat : Int)) = false := by rw [hzAB]; simp
          obtain ⟨hinB, hgetB⟩ := List.getElem?_eq_some_iff.1 hgB
          obtain ⟨bB, offB, hzzB, rfl, hbB, hcB⟩ := hC.atm (k := qq) hinB
          rw [hgetB] at hcB
          have hw5 : IntKind.i64.wrap ((q : Int) + dy) = (qq : Int) := by rw [i64_ok _ (by omega)]; exact hqq
          have hw6 : IntKind.i64.wrap ((k : Int) + dx) = (kk : Int) := by rw [i64_ok _ (by omega)]; exact hkk
          have hq1 : (qq : Int) < Hn := by omega
          have hq2 : (kk : Int) < Wn := by omega
          have hq3 : (qq : Int) < rsB.length := by omega
          have hq4 : (kk : Int) < rB.size := by omega
          clear hzB hzAB hzzB hgetB hinB hgB hqq hkk hd1 hd2 hd3 hd4 HZA HZD
          rename World => W5
          have hbcA : ∀ p : Blw W5.heap.size W5, p.to.cell? ⟨bA, offA + q, none⟩ = some (.string rA) := fun p => (p.h.cell (p := ⟨bA, offA + q, none⟩) (Nat.lt_of_lt_of_le hbA hb5)).trans hcA3
          have hbcB : ∀ p : Blw W5.heap.size W5, p.to.cell? ⟨bB, offB + qq, none⟩ = some (.string rB) := fun p => (p.h.cell (p := ⟨bB, offB + qq, none⟩) hbB).trans hcB
          have hbs := fun p i => blw_blk hS p i
          refine wp_region_blw (by kernel_rfl) (by kernel_rfl) ?_
          repeat (go_big_quiet_step (fail))
          refine wpQuiet_nil ?_
          rintro W4 ⟨⟨_, hb⟩, rfl⟩
          replace hS := hS.below hb hS.lt; replace hF := hF.below hb hF.lt; replace hR := rdB hR hb; replace hA := rdB hA hb; replace hC := rdB hC hb; replace hB := hB.trans (hb.mono hB.size); clear hb
          clear hbs
          go_wp2_with (fail)
          go_roundg (Wn - (k + 1))
          case measure => rw [HG2.out]; omega
          case rel => exact ⟨k + 1, rfl, by omega, by go_num, hS, hF, hR, hA, hC, hB⟩

        · have hge : ¬ (k : Int) < (Wn : Int) := by omega
          go_wp2_with (fail)
          go_roundg (Hn - (q + 1))
          case measure => rw [HG.out]; omega
          case rel => exact ⟨q + 1, rfl, by omega, by go_num, hS, hF, hR, hA, hC, hB⟩
    · have hge : ¬ (q : Int) < (Hn : Int) := by omega
      go_wp2_with (first | (go_at_call 24; refine (known_true m _ (known_at hm hB)).mono ?_; rintro e w1 ⟨rfl, hb⟩; replace hB := hB.trans (hb.mono hB.size); clear hb))
      go_ret
      exact ⟨rfl, hB⟩
end Go.Proofs.YtifddfchpknkbaaGreatDoor
