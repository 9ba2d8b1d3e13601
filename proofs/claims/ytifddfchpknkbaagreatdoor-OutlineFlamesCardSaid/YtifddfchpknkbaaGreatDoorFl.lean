import Derived.Test.YtifddfchpknkbaaGreatDoorFs
set_option linter.unusedVariables false
set_option linter.unusedSimpArgs false
namespace Go.Proofs.YtifddfchpknkbaaGreatDoor
open Go.RowKit

theorem sh_cells {Wn Hn : Nat} {F L X Y N PX PY : Int} {rows : List ByteArray} (hW : 1 ≤ Wn) (hW2 : Wn ≤ 16) (k : Nat) (hk : k < Wn * Hn) :
    ∃ r, (rowsOf (shS Wn Hn F L X Y N PX PY rows) Wn Hn)[k / Wn]? = some r ∧ (ltr r)[k % Wn]? = some (cellS F L X Y N PX PY rows (wdOf rows) rows.length (k % Wn : Nat) (k / Wn : Nat)) ∧ r.size ≤ 10000 := by
  have h1 : k % Wn < Wn := Nat.mod_lt _ (by omega)
  have h2 : k / Wn < Hn := by rw [Nat.div_lt_iff_lt_mul (by omega), Nat.mul_comm]; exact hk
  obtain ⟨r, e1, e2, e3⟩ := sh_cell (W := (Wn : Int)) (H := (Hn : Int)) (F := F) (L := L) (X := X) (Y := Y) (N := N) (PX := PX) (PY := PY) (rows := rows) (k := k % Wn) (m := k / Wn) (by omega) (by simpa using h1) (by simpa using h2)
  simp only [Int.toNat_natCast] at e1 e2
  exact ⟨r, e1, e3, by omega⟩

set_option maxRecDepth 100000 in
set_option maxHeartbeats 25600000 in
theorem flames_main (Wn Hn : Nat) (F L X Y N PX PY N2 PX2 PY2 more : Int) (A : Option Addr) (n cap : Nat) (rows : List ByteArray) (A2 : Option Addr) (n2 cap2 : Nat) (rows2 : List ByteArray) (m : Int) (w : World) (hm : w.cell? ⟨0, 0, none⟩ = some (.int .i64 m)) (hcap : n ≤ cap) (hcm : cap ≤ maxLen) (hs : ∀ r ∈ rows, r.size ≤ maxLen) (hr : Rd w w.heap.size 1 A n (rows.map Value.string)) (hcap2 : n2 ≤ cap2) (hcm2 : cap2 ≤ maxLen) (hs2 : ∀ r ∈ rows2, r.size ≤ maxLen) (hr2 : Rd w w.heap.size 1 A2 n2 (rows2.map Value.string)) (fb fb' : Bool) (me me' : Int) (rsA rsB : List ByteArray) (P : Nat)
    (hsh : shortB rows = true) (hsh2 : shortB rows2 = true) (hst : stageB Wn Hn F L X Y = true) (hfg : figB rows = true) (hpl : placeB F N PX PY = true) (hfg2 : figB rows2 = true) (hpl2 : placeB F N2 PX2 PY2 = true)
    (hm0 : 0 ≤ more) (hm3 : more ≤ 3 - L) (hL0 : 0 ≤ L) (hL3 : L ≤ 3) (a5 : 2 ≤ F) (a6 : F ≤ 40) (hW1 : 1 ≤ Wn) (hW16 : Wn ≤ 16) (hP : P ≤ 256)
    (HEA : Hid (errV (viewB Wn Hn F L X Y N PX PY rows) = .int .i64 0)) (HEB : Hid (errV (viewB Wn Hn F (L + more) X Y N PX PY rows) = .int .i64 0))
    (HRA : Hid (rsA = shadowRows Wn Hn F L X Y N PX PY rows)) (HRB : Hid (rsB = shadowRows Wn Hn F (L + more) X Y N PX PY rows))
    (hla : rsA.length ≤ 100000) (hlb : rsB.length ≤ 100000) (hsa : ∀ r ∈ rsA, r.size ≤ 100000) (hsb : ∀ r ∈ rsB, r.size ≤ 100000)
    (HWA : Hid (wholeB Wn Hn rsA = true)) (HWB : Hid (wholeB Wn Hn rsB = true))
    (HFS : Hid (fitsR Wn Hn F L X Y N PX PY rows = #[.bool fb, .int .i64 0])) (HFT : Hid (fitsR Wn Hn F (L + more) X Y N PX PY rows = #[.bool fb', .int .i64 0]))
    (HMS : Hid (meetsR Wn Hn F L X Y N PX PY N2 PX2 PY2 rows rows2 = #[.int .i64 me, .int .i64 0])) (HMT : Hid (meetsR Wn Hn F (L + more) X Y N PX PY N2 PX2 PY2 rows rows2 = #[.int .i64 me', .int .i64 0]))
    (HFF : Hid (fb' = true → fb = true)) (HMF : Hid (me' = 2 ∨ me' = me)) (HPI : Hid ((Wn : Int) * Hn = P))
    (HAB : Hid (∀ k, k < P → ∃ rA rB za zb, rsA[k / Wn]? = some rA ∧ (ltr rA)[k % Wn]? = some za ∧ rA.size ≤ 10000 ∧ rsB[k / Wn]? = some rB ∧ (ltr rB)[k % Wn]? = some zb ∧ rB.size ≤ 10000 ∧ (zb = 43 ∨ zb = za))) :
    Calls Tryz.prog 18 #[.agg #[.int .i64 Wn, .int .i64 Hn, .int .i64 F, .int .i64 L, .int .i64 X, .int .i64 Y], .agg #[.slice A n cap], .agg #[.int .i64 N, .int .i64 PX, .int .i64 PY], .agg #[.slice A2 n2 cap2], .agg #[.int .i64 N2, .int .i64 PX2, .int .i64 PY2], .int .i64 more] w fun e w' => e = .returned (.bool true) ∧ Below w.heap.size w w' := by
  have hn : n ≤ maxLen := Nat.le_trans hcap hcm
  have hn2 : n2 ≤ maxLen := Nat.le_trans hcap2 hcm2
  have fm1 : ¬ more < 0 := by omega
  have fm2 : ¬ 3 - L < more := by omega
  have fm3 := i64_ok (3 - L) (by omega)
  have fm4 := i64_ok (L + more) (by omega)
  have fm5 := i64_ok ((Wn : Int) * Hn) (by rw [HPI.out]; omega)
  go_enter Tryz.func18, Tryz.ntmps18
  go_upto_region 1 with (fail)
  have hS := blk5_0 w (.cells #[.slice A n cap] 26) (.cells #[.int .i64 N, .int .i64 PX, .int .i64 PY] 28) (.cells #[.slice A2 n2 cap2] 26) (.cells #[.int .i64 N2, .int .i64 PX2, .int .i64 PY2] 28) 23 #[.int .i64 Wn, .int .i64 Hn, .int .i64 F, .int .i64 L, .int .i64 X, .int .i64 Y]
  have hF := blk5_1 w (.cells #[.int .i64 Wn, .int .i64 Hn, .int .i64 F, .int .i64 L, .int .i64 X, .int .i64 Y] 23) (.cells #[.int .i64 N, .int .i64 PX, .int .i64 PY] 28) (.cells #[.slice A2 n2 cap2] 26) (.cells #[.int .i64 N2, .int .i64 PX2, .int .i64 PY2] 28) 26 #[.slice A n cap]
  have hP := blk5_2 w (.cells #[.int .i64 Wn, .int .i64 Hn, .int .i64 F, .int .i64 L, .int .i64 X, .int .i64 Y] 23) (.cells #[.slice A n cap] 26) (.cells #[.slice A2 n2 cap2] 26) (.cells #[.int .i64 N2, .int .i64 PX2, .int .i64 PY2] 28) 28 #[.int .i64 N, .int .i64 PX, .int .i64 PY]
  have hG := blk5_3 w (.cells #[.int .i64 Wn, .int .i64 Hn, .int .i64 F, .int .i64 L, .int .i64 X, .int .i64 Y] 23) (.cells #[.slice A n cap] 26) (.cells #[.int .i64 N, .int .i64 PX, .int .i64 PY] 28) (.cells #[.int .i64 N2, .int .i64 PX2, .int .i64 PY2] 28) 26 #[.slice A2 n2 cap2]
  have hQ := blk5_4 w (.cells #[.int .i64 Wn, .int .i64 Hn, .int .i64 F, .int .i64 L, .int .i64 X, .int .i64 Y] 23) (.cells #[.slice A n cap] 26) (.cells #[.int .i64 N, .int .i64 PX, .int .i64 PY] 28) (.cells #[.slice A2 n2 cap2] 26) 28 #[.int .i64 N2, .int .i64 PX2, .int .i64 PY2]
  have hB := pro_5 w (.cells #[.int .i64 Wn, .int .i64 Hn, .int .i64 F, .int .i64 L, .int .i64 X, .int .i64 Y] 23) (.cells #[.slice A n cap] 26) (.cells #[.int .i64 N, .int .i64 PX, .int .i64 PY] 28) (.cells #[.slice A2 n2 cap2] 26) (.cells #[.int .i64 N2, .int .i64 PX2, .int .i64 PY2] 28)
  have hR := rdB hr hB
  have hR2 := rdB hr2 hB
  generalize ((((w.alloc (.cells #[.int .i64 Wn, .int .i64 Hn, .int .i64 F, .int .i64 L, .int .i64 X, .int .i64 Y] 23)).alloc (.cells #[.slice A n cap] 26)).alloc (.cells #[.int .i64 N, .int .i64 PX, .int .i64 PY] 28)).alloc (.cells #[.slice A2 n2 cap2] 26)).alloc (.cells #[.int .i64 N2, .int .i64 PX2, .int .i64 PY2] 28) = W0 at *
  have qhS := fun i => Blk.cell hS i
  have qhF := fun i => Blk.cell hF i
  have qhP := fun i => Blk.cell hP i
  have qhG := fun i => Blk.cell hG i
  have qhQ := fun i => Blk.cell hQ i
  clear hr hr2
  go_upto_region 3 with (first | (go_at_call 23; have hx := hdone; clear hx; refine (short_any A2 n2 cap2 rows2 _ hn2 hs2 hR2).mono ?_; rintro e w1 ⟨rfl, rfl⟩; rw [hsh2]) | (go_at_call 23; refine (short_any A n cap rows _ hn hs hR).mono ?_; rintro e w1 ⟨rfl, rfl⟩; rw [hsh]; have hdone : (0 : Nat) = 0 := rfl) | (go_at_call 27; refine (Stage_any Wn Hn F L X Y _).mono ?_; rintro e w1 ⟨rfl, hb⟩; rw [hst]; (try replace hS := hS.below hb hS.lt); (try replace hF := hF.below hb hF.lt); (try replace hP := hP.below hb hP.lt); (try replace hG := hG.below hb hG.lt); (try replace hQ := hQ.below hb hQ.lt); (try replace hT := hT.below hb hT.lt); (try replace hR := rdB hR hb); (try replace hR2 := rdB hR2 hb); (try replace hA := rdB hA hb); (try replace hC := rdB hC hb); replace hB := hB.trans (hb.mono hB.size); (try clear qhS); (try clear qhF); (try clear qhP); (try clear qhG); (try clear qhQ); (try clear qhT); clear hb; (try have qhS := fun i => Blk.cell hS i); (try have qhF := fun i => Blk.cell hF i); (try have qhP := fun i => Blk.cell hP i); (try have qhG := fun i => Blk.cell hG i); (try have qhQ := fun i => Blk.cell hQ i); (try have qhT := fun i => Blk.cell hT i)) | (go_at_call 28; have hx := hdon2; clear hx; refine (refFigure_any A2 n2 cap2 rows2 _ hn2 hs2 hR2).mono ?_; rintro e w1 ⟨rfl, hb⟩; rw [hfg2]; (try replace hS := hS.below hb hS.lt); (try replace hF := hF.below hb hF.lt); (try replace hP := hP.below hb hP.lt); (try replace hG := hG.below hb hG.lt); (try replace hQ := hQ.below hb hQ.lt); (try replace hT := hT.below hb hT.lt); (try replace hR := rdB hR hb); (try replace hR2 := rdB hR2 hb); (try replace hA := rdB hA hb); (try replace hC := rdB hC hb); replace hB := hB.trans (hb.mono hB.size); (try clear qhS); (try clear qhF); (try clear qhP); (try clear qhG); (try clear qhQ); (try clear qhT); clear hb; (try have qhS := fun i => Blk.cell hS i); (try have qhF := fun i => Blk.cell hF i); (try have qhP := fun i => Blk.cell hP i); (try have qhG := fun i => Blk.cell hG i); (try have qhQ := fun i => Blk.cell hQ i); (try have qhT := fun i => Blk.cell hT i)) | (go_at_call 28; refine (refFigure_any A n cap rows _ hn hs hR).mono ?_; rintro e w1 ⟨rfl, hb⟩; rw [hfg]; have hdon2 : (0 : Nat) = 0 := rfl; (try replace hS := hS.below hb hS.lt); (try replace hF := hF.below hb hF.lt); (try replace hP := hP.below hb hP.lt); (try replace hG := hG.below hb hG.lt); (try replace hQ := hQ.below hb hQ.lt); (try replace hT := hT.below hb hT.lt); (try replace hR := rdB hR hb); (try replace hR2 := rdB hR2 hb); (try replace hA := rdB hA hb); (try replace hC := rdB hC hb); replace hB := hB.trans (hb.mono hB.size); (try clear qhS); (try clear qhF); (try clear qhP); (try clear qhG); (try clear qhQ); (try clear qhT); clear hb; (try have qhS := fun i => Blk.cell hS i); (try have qhF := fun i => Blk.cell hF i); (try have qhP := fun i => Blk.cell hP i); (try have qhG := fun i => Blk.cell hG i); (try have qhQ := fun i => Blk.cell hQ i); (try have qhT := fun i => Blk.cell hT i)) | (go_at_call 31; have hx := hdon3; clear hx; refine (Place_any Wn Hn F L X Y N2 PX2 PY2 _ a5 a6).mono ?_; rintro e w1 ⟨rfl, hb⟩; rw [hpl2]; (try replace hS := hS.below hb hS.lt); (try replace hF := hF.below hb hF.lt); (try replace hP := hP.below hb hP.lt); (try replace hG := hG.below hb hG.lt); (try replace hQ := hQ.below hb hQ.lt); (try replace hT := hT.below hb hT.lt); (try replace hR := rdB hR hb); (try replace hR2 := rdB hR2 hb); (try replace hA := rdB hA hb); (try replace hC := rdB hC hb); replace hB := hB.trans (hb.mono hB.size); (try clear qhS); (try clear qhF); (try clear qhP); (try clear qhG); (try clear qhQ); (try clear qhT); clear hb; (try have qhS := fun i => Blk.cell hS i); (try have qhF := fun i => Blk.cell hF i); (try have qhP := fun i => Blk.cell hP i); (try have qhG := fun i => Blk.cell hG i); (try have qhQ := fun i => Blk.cell hQ i); (try have qhT := fun i => Blk.cell hT i)) | (go_at_call 31; refine (Place_any Wn Hn F L X Y N PX PY _ a5 a6).mono ?_; rintro e w1 ⟨rfl, hb⟩; rw [hpl]; have hdon3 : (0 : Nat) = 0 := rfl; (try replace hS := hS.below hb hS.lt); (try replace hF := hF.below hb hF.lt); (try replace hP := hP.below hb hP.lt); (try replace hG := hG.below hb hG.lt); (try replace hQ := hQ.below hb hQ.lt); (try replace hT := hT.below hb hT.lt); (try replace hR := rdB hR hb); (try replace hR2 := rdB hR2 hb); (try replace hA := rdB hA hb); (try replace hC := rdB hC hb); replace hB := hB.trans (hb.mono hB.size); (try clear qhS); (try clear qhF); (try clear qhP); (try clear qhG); (try clear qhQ); (try clear qhT); clear hb; (try have qhS := fun i => Blk.cell hS i); (try have qhF := fun i => Blk.cell hF i); (try have qhP := fun i => Blk.cell hP i); (try have qhG := fun i => Blk.cell hG i); (try have qhQ := fun i => Blk.cell hQ i); (try have qhT := fun i => Blk.cell hT i)))
  clear hsh hsh2 hst hfg hfg2 hpl hpl2 fm1 fm2 fm3 hdone hdon2 hdon3 hn hn2
  have ltS := hS.lt
  go_upto_region 5 with (fail)
  clear ltS
  have hT := Blk.new w1 23 #[.int .i64 Wn, .int .i64 Hn, .int .i64 F, .int .i64 (L + more), .int .i64 X, .int .i64 Y]
  have hb := (Below.refl w1.heap.size w1).alloc (Nat.le_refl _) (.cells #[.int .i64 Wn, .int .i64 Hn, .int .i64 F, .int .i64 (L + more), .int .i64 X, .int .i64 Y] 23)
  replace hS := hS.alloc (.cells #[.int .i64 Wn, .int .i64 Hn, .int .i64 F, .int .i64 (L + more), .int .i64 X, .int .i64 Y] 23); replace hF := hF.alloc (.cells #[.int .i64 Wn, .int .i64 Hn, .int .i64 F, .int .i64 (L + more), .int .i64 X, .int .i64 Y] 23); replace hP := hP.alloc (.cells #[.int .i64 Wn, .int .i64 Hn, .int .i64 F, .int .i64 (L + more), .int .i64 X, .int .i64 Y] 23); replace hG := hG.alloc (.cells #[.int .i64 Wn, .int .i64 Hn, .int .i64 F, .int .i64 (L + more), .int .i64 X, .int .i64 Y] 23); replace hQ := hQ.alloc (.cells #[.int .i64 Wn, .int .i64 Hn, .int .i64 F, .int .i64 (L + more), .int .i64 X, .int .i64 Y] 23)
  replace hR := rdB hR hb; replace hR2 := rdB hR2 hb; replace hB := hB.trans (hb.mono hB.size)
  clear hb qhS qhF qhP qhG qhQ
  generalize w1.alloc (.cells #[.int .i64 Wn, .int .i64 Hn, .int .i64 F, .int .i64 (L + more), .int .i64 X, .int .i64 Y] 23) = W1 at *
  have qhS := fun i => Blk.cell hS i; have qhF := fun i => Blk.cell hF i; have qhP := fun i => Blk.cell hP i; have qhG := fun i => Blk.cell hG i; have qhQ := fun i => Blk.cell hQ i; have qhT := fun i => Blk.cell hT i
  go_upto_region 6 with (first | (go_at_call 29; refine (Shadow_any Wn Hn F L X Y N PX PY A n cap rows _ hcap hcm hs hR).mono ?_; rintro e w1 ⟨v, rfl, own, hb⟩; (try replace hS := hS.below hb hS.lt); (try replace hF := hF.below hb hF.lt); (try replace hP := hP.below hb hP.lt); (try replace hG := hG.below hb hG.lt); (try replace hQ := hQ.below hb hQ.lt); (try replace hT := hT.below hb hT.lt); (try replace hR := rdB hR hb); (try replace hR2 := rdB hR2 hb); replace hB := hB.trans (hb.mono hB.size); (try clear qhS); (try clear qhF); (try clear qhP); (try clear qhG); (try clear qhQ); (try clear qhT); clear hb; (try have qhS := fun i => Blk.cell hS i); (try have qhF := fun i => Blk.cell hF i); (try have qhP := fun i => Blk.cell hP i); (try have qhG := fun i => Blk.cell hG i); (try have qhQ := fun i => Blk.cell hQ i); (try have qhT := fun i => Blk.cell hT i); rw [HEA.out]; rw [← HRA.out] at own; obtain ⟨A3, c3, rfl⟩ := own_slice own; have hA1 := own_le0 own; have hA2 := own_cap own; have hA := Rd.of_own own; clear own))
  go_upto_region 7 with (first | (go_at_call 29; refine (Shadow_any Wn Hn F (L + more) X Y N PX PY A n cap rows _ hcap hcm hs hR).mono ?_; rintro e w1 ⟨v, rfl, own, hb⟩; (try replace hS := hS.below hb hS.lt); (try replace hF := hF.below hb hF.lt); (try replace hP := hP.below hb hP.lt); (try replace hG := hG.below hb hG.lt); (try replace hQ := hQ.below hb hQ.lt); (try replace hT := hT.below hb hT.lt); (try replace hR := rdB hR hb); (try replace hR2 := rdB hR2 hb); (try replace hA := rdB hA hb); replace hB := hB.trans (hb.mono hB.size); (try clear qhS); (try clear qhF); (try clear qhP); (try clear qhG); (try clear qhQ); (try clear qhT); clear hb; (try have qhS := fun i => Blk.cell hS i); (try have qhF := fun i => Blk.cell hF i); (try have qhP := fun i => Blk.cell hP i); (try have qhG := fun i => Blk.cell hG i); (try have qhQ := fun i => Blk.cell hQ i); (try have qhT := fun i => Blk.cell hT i); rw [HEB.out]; rw [← HRB.out] at own; obtain ⟨A4, c4, rfl⟩ := own_slice own; have hC1 := own_le0 own; have hC2 := own_cap own; have hC := Rd.of_own own; clear own))
  go_upto_region 8 with (first | (go_at_call 46; refine (Fits_any Wn Hn F L X Y N PX PY A n cap rows _ hcap hcm hs hR).mono ?_; rintro e w1 ⟨rfl, hb⟩; rw [HFS.out]; (try replace hS := hS.below hb hS.lt); (try replace hF := hF.below hb hF.lt); (try replace hP := hP.below hb hP.lt); (try replace hG := hG.below hb hG.lt); (try replace hQ := hQ.below hb hQ.lt); (try replace hT := hT.below hb hT.lt); (try replace hR := rdB hR hb); (try replace hR2 := rdB hR2 hb); (try replace hA := rdB hA hb); (try replace hC := rdB hC hb); replace hB := hB.trans (hb.mono hB.size); (try clear qhS); (try clear qhF); (try clear qhP); (try clear qhG); (try clear qhQ); (try clear qhT); clear hb; (try have qhS := fun i => Blk.cell hS i); (try have qhF := fun i => Blk.cell hF i); (try have qhP := fun i => Blk.cell hP i); (try have qhG := fun i => Blk.cell hG i); (try have qhQ := fun i => Blk.cell hQ i); (try have qhT := fun i => Blk.cell hT i)))
  go_upto_region 9 with (first | (go_at_call 46; refine (Fits_any Wn Hn F (L + more) X Y N PX PY A n cap rows _ hcap hcm hs hR).mono ?_; rintro e w1 ⟨rfl, hb⟩; rw [HFT.out]; (try replace hS := hS.below hb hS.lt); (try replace hF := hF.below hb hF.lt); (try replace hP := hP.below hb hP.lt); (try replace hG := hG.below hb hG.lt); (try replace hQ := hQ.below hb hQ.lt); (try replace hT := hT.below hb hT.lt); (try replace hR := rdB hR hb); (try replace hR2 := rdB hR2 hb); (try replace hA := rdB hA hb); (try replace hC := rdB hC hb); replace hB := hB.trans (hb.mono hB.size); (try clear qhS); (try clear qhF); (try clear qhP); (try clear qhG); (try clear qhQ); (try clear qhT); clear hb; (try have qhS := fun i => Blk.cell hS i); (try have qhF := fun i => Blk.cell hF i); (try have qhP := fun i => Blk.cell hP i); (try have qhG := fun i => Blk.cell hG i); (try have qhQ := fun i => Blk.cell hQ i); (try have qhT := fun i => Blk.cell hT i)))
  go_upto_region 10 with (first | (go_at_call 44; refine (Meets_any Wn Hn F L X Y N PX PY A n cap rows N2 PX2 PY2 A2 n2 cap2 rows2 _ hcap hcm hs hR hcap2 hcm2 hs2 hR2).mono ?_; rintro e w1 ⟨rfl, hb⟩; rw [HMS.out]; (try replace hS := hS.below hb hS.lt); (try replace hF := hF.below hb hF.lt); (try replace hP := hP.below hb hP.lt); (try replace hG := hG.below hb hG.lt); (try replace hQ := hQ.below hb hQ.lt); (try replace hT := hT.below hb hT.lt); (try replace hR := rdB hR hb); (try replace hR2 := rdB hR2 hb); (try replace hA := rdB hA hb); (try replace hC := rdB hC hb); replace hB := hB.trans (hb.mono hB.size); (try clear qhS); (try clear qhF); (try clear qhP); (try clear qhG); (try clear qhQ); (try clear qhT); clear hb; (try have qhS := fun i => Blk.cell hS i); (try have qhF := fun i => Blk.cell hF i); (try have qhP := fun i => Blk.cell hP i); (try have qhG := fun i => Blk.cell hG i); (try have qhQ := fun i => Blk.cell hQ i); (try have qhT := fun i => Blk.cell hT i)))
  go_upto_region 11 with (first | (go_at_call 44; refine (Meets_any Wn Hn F (L + more) X Y N PX PY A n cap rows N2 PX2 PY2 A2 n2 cap2 rows2 _ hcap hcm hs hR hcap2 hcm2 hs2 hR2).mono ?_; rintro e w1 ⟨rfl, hb⟩; rw [HMT.out]; (try replace hS := hS.below hb hS.lt); (try replace hF := hF.below hb hF.lt); (try replace hP := hP.below hb hP.lt); (try replace hG := hG.below hb hG.lt); (try replace hQ := hQ.below hb hQ.lt); (try replace hT := hT.below hb hT.lt); (try replace hR := rdB hR hb); (try replace hR2 := rdB hR2 hb); (try replace hA := rdB hA hb); (try replace hC := rdB hC hb); replace hB := hB.trans (hb.mono hB.size); (try clear qhS); (try clear qhF); (try clear qhP); (try clear qhG); (try clear qhQ); (try clear qhT); clear hb; (try have qhS := fun i => Blk.cell hS i); (try have qhF := fun i => Blk.cell hF i); (try have qhP := fun i => Blk.cell hP i); (try have qhG := fun i => Blk.cell hG i); (try have qhQ := fun i => Blk.cell hQ i); (try have qhT := fun i => Blk.cell hT i)))
  clear hF hP hG hQ hT qhF qhP qhG qhQ qhT hR hR2 HEA HEB HRA HRB HFS HFT HMS HMT hcap hcm hs hcap2 hcm2 hs2 hm0 hm3 hL0 hL3 a5 a6 fm4
  have hff := HFF.out
  clear HFF
  have hmf : me' = 2 ∨ (me' = me ∧ me' ≠ 2) := by have := HMF.out; omega
  clear HMF
  cases fb'
  · clear hff
    rcases hmf with rfl | ⟨rfl, hm2⟩
    · as_aux_lemma =>
        go_wp2_with (first | (go_at_call 35; have hx := hwdone; clear hx; refine (whole_any Wn Hn F L X Y A4 rsB.length c4 rsB _ hlb hsb hC).mono ?_; rintro e w1 ⟨rfl, hb⟩; rw [HWB.out]; (try replace hS := hS.below hb hS.lt); (try replace hA := rdB hA hb); (try replace hC := rdB hC hb); replace hB := hB.trans (hb.mono hB.size); (try clear qhS); clear hb; (try have qhS := fun i => Blk.cell hS i)) | (go_at_call 35; refine (whole_any Wn Hn F L X Y A3 rsA.length c3 rsA _ hla hsa hA).mono ?_; rintro e w1 ⟨rfl, hb⟩; rw [HWA.out]; have hwdone : (0 : Nat) = 0 := rfl; (try replace hS := hS.below hb hS.lt); (try replace hA := rdB hA hb); (try replace hC := rdB hC hb); replace hB := hB.trans (hb.mono hB.size); (try clear qhS); clear hb; (try have qhS := fun i => Blk.cell hS i)))
        clear HWA HWB hla hlb hsa hsb hwdone
        go_loopg [26] P (fun g i wr => ∃ k : Nat, g = P - k ∧ k ≤ P ∧ i = .int .i64 k ∧ Blk wr w.heap.size 23 #[.int .i64 Wn, .int .i64 Hn, .int .i64 F, .int .i64 L, .int .i64 X, .int .i64 Y] ∧ Rd wr wr.heap.size 1 A3 rsA.length (rsA.map Value.string) ∧ Rd wr wr.heap.size 1 A4 rsB.length (rsB.map Value.string) ∧ Below w.heap.size w wr)
        case atStart => exact ⟨0, rfl, Nat.zero_le _, rfl, hS, hA, hC, hB⟩
        case round =>
          clear hS qhS hA hC hB
          obtain ⟨k, hg, hk, rfl, hS, hA, hC, hB⟩ := hrel
          have HG := Lib.hid hg; clear hg
          have qhS := fun i => Blk.cell hS i
          by_cases hlt : k < P
          · obtain ⟨rA, rB, za, zb, hA1, hA2, hA3, hB1, hB2, hB3, hzz⟩ := HAB.out k hlt
            have HZZ := Lib.hid hzz; clear hzz
            have htst : (k : Int) < (Wn : Int) * Hn := by have := HPI.out; omega
            go_upto_region 17 with (first | (go_at_call 66; refine (Cell_any Wn Hn F L X Y A4 rsB.length c4 rsB rB k zb _ hW1 (by omega) (by omega) hB1 hB2 hB3 hC).mono ?_; rintro e w1 ⟨rfl, hb⟩; (try replace hS := hS.below hb hS.lt); (try replace hA := rdB hA hb); (try replace hC := rdB hC hb); replace hB := hB.trans (hb.mono hB.size); (try clear qhS); clear hb; (try have qhS := fun i => Blk.cell hS i)))
            by_cases hz43 : zb = 43
            · have hz := Lib.hid hz43; have hne : (zb != 43) = false := by simp [hz43]
              clear hz43
              go_wp2_with (fail)
              go_roundg (P - (k + 1))
              case measure => rw [HG.out]; omega
              case rel => exact ⟨k + 1, rfl, by omega, by go_num, hS, hA, hC, hB⟩
            · have hne : (zb != 43) = true := by simpa using hz43
              have hnz : (zb != za) = false := by rcases HZZ.out with h | h; exact absurd h hz43; simp [h]
              clear hz43
              go_wp2_with (first | (go_at_call 66; refine (Cell_any Wn Hn F L X Y A3 rsA.length c3 rsA rA k za _ hW1 (by omega) (by omega) hA1 hA2 hA3 hA).mono ?_; rintro e w1 ⟨rfl, hb⟩; (try replace hS := hS.below hb hS.lt); (try replace hA := rdB hA hb); (try replace hC := rdB hC hb); replace hB := hB.trans (hb.mono hB.size); (try clear qhS); clear hb; (try have qhS := fun i => Blk.cell hS i)))
              go_roundg (P - (k + 1))
              case measure => rw [HG.out]; omega
              case rel => exact ⟨k + 1, rfl, by omega, by go_num, hS, hA, hC, hB⟩
          · have htst : ¬ (k : Int) < (Wn : Int) * Hn := by have := HPI.out; omega
            go_wp2_with (first | (go_at_call 24; refine (known_true m _ (known_at hm hB)).mono ?_; rintro e w1 ⟨rfl, hb⟩; (try replace hS := hS.below hb hS.lt); (try replace hA := rdB hA hb); (try replace hC := rdB hC hb); replace hB := hB.trans (hb.mono hB.size); (try clear qhS); clear hb; (try have qhS := fun i => Blk.cell hS i)))
            go_ret
            exact ⟨rfl, hB⟩
    · have hm4 : (me' != 2) = true := by simpa using hm2
      clear hm2
      as_aux_lemma =>
        go_wp2_with (first | (go_at_call 35; have hx := hwdone; clear hx; refine (whole_any Wn Hn F L X Y A4 rsB.length c4 rsB _ hlb hsb hC).mono ?_; rintro e w1 ⟨rfl, hb⟩; rw [HWB.out]; (try replace hS := hS.below hb hS.lt); (try replace hA := rdB hA hb); (try replace hC := rdB hC hb); replace hB := hB.trans (hb.mono hB.size); (try clear qhS); clear hb; (try have qhS := fun i => Blk.cell hS i)) | (go_at_call 35; refine (whole_any Wn Hn F L X Y A3 rsA.length c3 rsA _ hla hsa hA).mono ?_; rintro e w1 ⟨rfl, hb⟩; rw [HWA.out]; have hwdone : (0 : Nat) = 0 := rfl; (try replace hS := hS.below hb hS.lt); (try replace hA := rdB hA hb); (try replace hC := rdB hC hb); replace hB := hB.trans (hb.mono hB.size); (try clear qhS); clear hb; (try have qhS := fun i => Blk.cell hS i)))
        clear HWA HWB hla hlb hsa hsb hwdone
        go_loopg [26] P (fun g i wr => ∃ k : Nat, g = P - k ∧ k ≤ P ∧ i = .int .i64 k ∧ Blk wr w.heap.size 23 #[.int .i64 Wn, .int .i64 Hn, .int .i64 F, .int .i64 L, .int .i64 X, .int .i64 Y] ∧ Rd wr wr.heap.size 1 A3 rsA.length (rsA.map Value.string) ∧ Rd wr wr.heap.size 1 A4 rsB.length (rsB.map Value.string) ∧ Below w.heap.size w wr)
        case atStart => exact ⟨0, rfl, Nat.zero_le _, rfl, hS, hA, hC, hB⟩
        case round =>
          clear hS qhS hA hC hB
          obtain ⟨k, hg, hk, rfl, hS, hA, hC, hB⟩ := hrel
          have HG := Lib.hid hg; clear hg
          have qhS := fun i => Blk.cell hS i
          by_cases hlt : k < P
          · obtain ⟨rA, rB, za, zb, hA1, hA2, hA3, hB1, hB2, hB3, hzz⟩ := HAB.out k hlt
            have HZZ := Lib.hid hzz; clear hzz
            have htst : (k : Int) < (Wn : Int) * Hn := by have := HPI.out; omega
            go_upto_region 17 with (first | (go_at_call 66; refine (Cell_any Wn Hn F L X Y A4 rsB.length c4 rsB rB k zb _ hW1 (by omega) (by omega) hB1 hB2 hB3 hC).mono ?_; rintro e w1 ⟨rfl, hb⟩; (try replace hS := hS.below hb hS.lt); (try replace hA := rdB hA hb); (try replace hC := rdB hC hb); replace hB := hB.trans (hb.mono hB.size); (try clear qhS); clear hb; (try have qhS := fun i => Blk.cell hS i)))
            by_cases hz43 : zb = 43
            · have hz := Lib.hid hz43; have hne : (zb != 43) = false := by simp [hz43]
              clear hz43
              go_wp2_with (fail)
              go_roundg (P - (k + 1))
              case measure => rw [HG.out]; omega
              case rel => exact ⟨k + 1, rfl, by omega, by go_num, hS, hA, hC, hB⟩
            · have hne : (zb != 43) = true := by simpa using hz43
              have hnz : (zb != za) = false := by rcases HZZ.out with h | h; exact absurd h hz43; simp [h]
              clear hz43
              go_wp2_with (first | (go_at_call 66; refine (Cell_any Wn Hn F L X Y A3 rsA.length c3 rsA rA k za _ hW1 (by omega) (by omega) hA1 hA2 hA3 hA).mono ?_; rintro e w1 ⟨rfl, hb⟩; (try replace hS := hS.below hb hS.lt); (try replace hA := rdB hA hb); (try replace hC := rdB hC hb); replace hB := hB.trans (hb.mono hB.size); (try clear qhS); clear hb; (try have qhS := fun i => Blk.cell hS i)))
              go_roundg (P - (k + 1))
              case measure => rw [HG.out]; omega
              case rel => exact ⟨k + 1, rfl, by omega, by go_num, hS, hA, hC, hB⟩
          · have htst : ¬ (k : Int) < (Wn : Int) * Hn := by have := HPI.out; omega
            go_wp2_with (first | (go_at_call 24; refine (known_true m _ (known_at hm hB)).mono ?_; rintro e w1 ⟨rfl, hb⟩; (try replace hS := hS.below hb hS.lt); (try replace hA := rdB hA hb); (try replace hC := rdB hC hb); replace hB := hB.trans (hb.mono hB.size); (try clear qhS); clear hb; (try have qhS := fun i => Blk.cell hS i)))
            go_ret
            exact ⟨rfl, hB⟩
  · obtain rfl : fb = true := hff rfl
    clear hff
    rcases hmf with rfl | ⟨rfl, hm2⟩
    · as_aux_lemma =>
        go_wp2_with (first | (go_at_call 35; have hx := hwdone; clear hx; refine (whole_any Wn Hn F L X Y A4 rsB.length c4 rsB _ hlb hsb hC).mono ?_; rintro e w1 ⟨rfl, hb⟩; rw [HWB.out]; (try replace hS := hS.below hb hS.lt); (try replace hA := rdB hA hb); (try replace hC := rdB hC hb); replace hB := hB.trans (hb.mono hB.size); (try clear qhS); clear hb; (try have qhS := fun i => Blk.cell hS i)) | (go_at_call 35; refine (whole_any Wn Hn F L X Y A3 rsA.length c3 rsA _ hla hsa hA).mono ?_; rintro e w1 ⟨rfl, hb⟩; rw [HWA.out]; have hwdone : (0 : Nat) = 0 := rfl; (try replace hS := hS.below hb hS.lt); (try replace hA := rdB hA hb); (try replace hC := rdB hC hb); replace hB := hB.trans (hb.mono hB.size); (try clear qhS); clear hb; (try have qhS := fun i => Blk.cell hS i)))
        clear HWA HWB hla hlb hsa hsb hwdone
        go_loopg [26] P (fun g i wr => ∃ k : Nat, g = P - k ∧ k ≤ P ∧ i = .int .i64 k ∧ Blk wr w.heap.size 23 #[.int .i64 Wn, .int .i64 Hn, .int .i64 F, .int .i64 L, .int .i64 X, .int .i64 Y] ∧ Rd wr wr.heap.size 1 A3 rsA.length (rsA.map Value.string) ∧ Rd wr wr.heap.size 1 A4 rsB.length (rsB.map Value.string) ∧ Below w.heap.size w wr)
        case atStart => exact ⟨0, rfl, Nat.zero_le _, rfl, hS, hA, hC, hB⟩
        case round =>
          clear hS qhS hA hC hB
          obtain ⟨k, hg, hk, rfl, hS, hA, hC, hB⟩ := hrel
          have HG := Lib.hid hg; clear hg
          have qhS := fun i => Blk.cell hS i
          by_cases hlt : k < P
          · obtain ⟨rA, rB, za, zb, hA1, hA2, hA3, hB1, hB2, hB3, hzz⟩ := HAB.out k hlt
            have HZZ := Lib.hid hzz; clear hzz
            have htst : (k : Int) < (Wn : Int) * Hn := by have := HPI.out; omega
            go_upto_region 17 with (first | (go_at_call 66; refine (Cell_any Wn Hn F L X Y A4 rsB.length c4 rsB rB k zb _ hW1 (by omega) (by omega) hB1 hB2 hB3 hC).mono ?_; rintro e w1 ⟨rfl, hb⟩; (try replace hS := hS.below hb hS.lt); (try replace hA := rdB hA hb); (try replace hC := rdB hC hb); replace hB := hB.trans (hb.mono hB.size); (try clear qhS); clear hb; (try have qhS := fun i => Blk.cell hS i)))
            by_cases hz43 : zb = 43
            · have hz := Lib.hid hz43; have hne : (zb != 43) = false := by simp [hz43]
              clear hz43
              go_wp2_with (fail)
              go_roundg (P - (k + 1))
              case measure => rw [HG.out]; omega
              case rel => exact ⟨k + 1, rfl, by omega, by go_num, hS, hA, hC, hB⟩
            · have hne : (zb != 43) = true := by simpa using hz43
              have hnz : (zb != za) = false := by rcases HZZ.out with h | h; exact absurd h hz43; simp [h]
              clear hz43
              go_wp2_with (first | (go_at_call 66; refine (Cell_any Wn Hn F L X Y A3 rsA.length c3 rsA rA k za _ hW1 (by omega) (by omega) hA1 hA2 hA3 hA).mono ?_; rintro e w1 ⟨rfl, hb⟩; (try replace hS := hS.below hb hS.lt); (try replace hA := rdB hA hb); (try replace hC := rdB hC hb); replace hB := hB.trans (hb.mono hB.size); (try clear qhS); clear hb; (try have qhS := fun i => Blk.cell hS i)))
              go_roundg (P - (k + 1))
              case measure => rw [HG.out]; omega
              case rel => exact ⟨k + 1, rfl, by omega, by go_num, hS, hA, hC, hB⟩
          · have htst : ¬ (k : Int) < (Wn : Int) * Hn := by have := HPI.out; omega
            go_wp2_with (first | (go_at_call 24; refine (known_true m _ (known_at hm hB)).mono ?_; rintro e w1 ⟨rfl, hb⟩; (try replace hS := hS.below hb hS.lt); (try replace hA := rdB hA hb); (try replace hC := rdB hC hb); replace hB := hB.trans (hb.mono hB.size); (try clear qhS); clear hb; (try have qhS := fun i => Blk.cell hS i)))
            go_ret
            exact ⟨rfl, hB⟩
    · have hm4 : (me' != 2) = true := by simpa using hm2
      clear hm2
      as_aux_lemma =>
        go_wp2_with (first | (go_at_call 35; have hx := hwdone; clear hx; refine (whole_any Wn Hn F L X Y A4 rsB.length c4 rsB _ hlb hsb hC).mono ?_; rintro e w1 ⟨rfl, hb⟩; rw [HWB.out]; (try replace hS := hS.below hb hS.lt); (try replace hA := rdB hA hb); (try replace hC := rdB hC hb); replace hB := hB.trans (hb.mono hB.size); (try clear qhS); clear hb; (try have qhS := fun i => Blk.cell hS i)) | (go_at_call 35; refine (whole_any Wn Hn F L X Y A3 rsA.length c3 rsA _ hla hsa hA).mono ?_; rintro e w1 ⟨rfl, hb⟩; rw [HWA.out]; have hwdone : (0 : Nat) = 0 := rfl; (try replace hS := hS.below hb hS.lt); (try replace hA := rdB hA hb); (try replace hC := rdB hC hb); replace hB := hB.trans (hb.mono hB.size); (try clear qhS); clear hb; (try have qhS := fun i => Blk.cell hS i)))
        clear HWA HWB hla hlb hsa hsb hwdone
        go_loopg [26] P (fun g i wr => ∃ k : Nat, g = P - k ∧ k ≤ P ∧ i = .int .i64 k ∧ Blk wr w.heap.size 23 #[.int .i64 Wn, .int .i64 Hn, .int .i64 F, .int .i64 L, .int .i64 X, .int .i64 Y] ∧ Rd wr wr.heap.size 1 A3 rsA.length (rsA.map Value.string) ∧ Rd wr wr.heap.size 1 A4 rsB.length (rsB.map Value.string) ∧ Below w.heap.size w wr)
        case atStart => exact ⟨0, rfl, Nat.zero_le _, rfl, hS, hA, hC, hB⟩
        case round =>
          clear hS qhS hA hC hB
          obtain ⟨k, hg, hk, rfl, hS, hA, hC, hB⟩ := hrel
          have HG := Lib.hid hg; clear hg
          have qhS := fun i => Blk.cell hS i
          by_cases hlt : k < P
          · obtain ⟨rA, rB, za, zb, hA1, hA2, hA3, hB1, hB2, hB3, hzz⟩ := HAB.out k hlt
            have HZZ := Lib.hid hzz; clear hzz
            have htst : (k : Int) < (Wn : Int) * Hn := by have := HPI.out; omega
            go_upto_region 17 with (first | (go_at_call 66; refine (Cell_any Wn Hn F L X Y A4 rsB.length c4 rsB rB k zb _ hW1 (by omega) (by omega) hB1 hB2 hB3 hC).mono ?_; rintro e w1 ⟨rfl, hb⟩; (try replace hS := hS.below hb hS.lt); (try replace hA := rdB hA hb); (try replace hC := rdB hC hb); replace hB := hB.trans (hb.mono hB.size); (try clear qhS); clear hb; (try have qhS := fun i => Blk.cell hS i)))
            by_cases hz43 : zb = 43
            · have hz := Lib.hid hz43; have hne : (zb != 43) = false := by simp [hz43]
              clear hz43
              go_wp2_with (fail)
              go_roundg (P - (k + 1))
              case measure => rw [HG.out]; omega
              case rel => exact ⟨k + 1, rfl, by omega, by go_num, hS, hA, hC, hB⟩
            · have hne : (zb != 43) = true := by simpa using hz43
              have hnz : (zb != za) = false := by rcases HZZ.out with h | h; exact absurd h hz43; simp [h]
              clear hz43
              go_wp2_with (first | (go_at_call 66; refine (Cell_any Wn Hn F L X Y A3 rsA.length c3 rsA rA k za _ hW1 (by omega) (by omega) hA1 hA2 hA3 hA).mono ?_; rintro e w1 ⟨rfl, hb⟩; (try replace hS := hS.below hb hS.lt); (try replace hA := rdB hA hb); (try replace hC := rdB hC hb); replace hB := hB.trans (hb.mono hB.size); (try clear qhS); clear hb; (try have qhS := fun i => Blk.cell hS i)))
              go_roundg (P - (k + 1))
              case measure => rw [HG.out]; omega
              case rel => exact ⟨k + 1, rfl, by omega, by go_num, hS, hA, hC, hB⟩
          · have htst : ¬ (k : Int) < (Wn : Int) * Hn := by have := HPI.out; omega
            go_wp2_with (first | (go_at_call 24; refine (known_true m _ (known_at hm hB)).mono ?_; rintro e w1 ⟨rfl, hb⟩; (try replace hS := hS.below hb hS.lt); (try replace hA := rdB hA hb); (try replace hC := rdB hC hb); replace hB := hB.trans (hb.mono hB.size); (try clear qhS); clear hb; (try have qhS := fun i => Blk.cell hS i)))
            go_ret
            exact ⟨rfl, hB⟩
end Go.Proofs.YtifddfchpknkbaaGreatDoor
