import Derived.Test.YtifddfchpknkbaaGreatDoorOx
import Derived.Test.YtifddfchpknkbaaGreatDoorK
set_option linter.unusedVariables false
set_option linter.unusedSimpArgs false
namespace Go.Proofs.YtifddfchpknkbaaGreatDoor
open Go.RowKit

set_option maxRecDepth 100000 in
set_option maxHeartbeats 25600000 in
theorem more_n (Wn Hn : Nat) (F L X Y nl nh xl xh y : Int) (k : Nat) (bb : Bool) (fig : Int) (A : Option Addr) (n cap : Nat) (fs : List Fig) (SA : Option Addr) (sn scap : Nat) (rs : List ByteArray) (A2 : Option Addr) (n2 cap2 : Nat) (rows2 : List ByteArray) (m : Int) (w : World) (hm : w.cell? ⟨0, 0, none⟩ = some (.int .i64 m)) (hcap : n ≤ cap) (hcm : cap ≤ maxLen) (hf : ∀ f ∈ fs, f.ok w w.heap.size) (hr : Rd w w.heap.size 1 A n (fs.map Fig.val)) (hsn : sn ≤ scap) (hscm : scap ≤ maxLen) (hss : ∀ r ∈ rs, r.size ≤ maxLen) (hsr : Rd w w.heap.size 1 SA sn (rs.map Value.string)) (hc21 : n2 ≤ cap2) (hc22 : cap2 ≤ maxLen) (hs2 : ∀ r ∈ rows2, r.size ≤ maxLen) (hR2 : Rd w w.heap.size 1 A2 n2 (rows2.map Value.string)) (hfw : fewB fs = true) (hsh : shortB rs = true) (hsh2 : shortB rows2 = true) (hst : stageB Wn Hn F L X Y = true) (hsg : sightB Wn Hn rs = true) (hak : askV (askB Wn Hn F L X Y nl nh xl xh y fs && true) = 0) (h0 : 0 ≤ (k : Int)) (hW : Wn ≤ 16) (hH : Hn ≤ 16) (hkk : k < Wn * Hn) (hfg : figB rows2 = true) (h6 : n ≤ 5) (h7 : fig < n) (h7b : 0 ≤ fig) (hW1 : 1 ≤ Wn) (hsn3 : sn ≤ 10000) (a b x1 y1 me1 x2 y2 me2 : Int) (tl ul : List Int) (row : ByteArray) (hz : rs[k / Wn]? = some row) (hrz : row.size = Wn) (HA : Hid (seenI Wn Hn F L X Y nl nh xl xh y fs rs = a)) (ha : 0 ≤ a) (hb0 : 0 ≤ b) (hba : b ≤ a) (HT : Hid (toldR Wn Hn F L X Y nl nh xl xh y fs fig = tl)) (HE1 : Hid (toldE Wn Hn F L X Y nl nh xl xh y fs fig = 0)) (HU : Hid (toldR Wn Hn F L X Y nl nh xl xh y (fs ++ [(⟨A2, n2, cap2, rows2⟩ : Fig)]) fig = ul)) (HE2 : Hid (toldE Wn Hn F L X Y nl nh xl xh y (fs ++ [(⟨A2, n2, cap2, rows2⟩ : Fig)]) fig = 0)) (HM1 : Hid (mistR Wn Hn F L X Y nl nh xl xh y fs = #[.int .i64 x1, .int .i64 y1, .int .i64 me1])) (HM2 : Hid (mistR Wn Hn F L X Y nl nh xl xh y (fs ++ [(⟨A2, n2, cap2, rows2⟩ : Fig)]) = #[.int .i64 x2, .int .i64 y2, .int .i64 me2])) (hl1 : tl.length ≤ 6) (hl2 : ul.length ≤ 6) (HWI : Hid (withB tl ul = true)) (HG : Hid ((me1 = 0 ∧ me2 = 0) ∨ (me1 = 5 ∧ me2 = 0) ∨ (me1 = 5 ∧ me2 = 5))) (z : Int) (hcz : (ltr row)[k % Wn]? = some z) (hz63 : (z == 63) = false) (hb1 : b = 0) :
    Calls Tryz.prog 19 #[.agg #[.int .i64 Wn, .int .i64 Hn, .int .i64 F, .int .i64 L, .int .i64 X, .int .i64 Y], .slice A n cap, .agg #[.int .i64 nl, .int .i64 nh, .int .i64 xl, .int .i64 xh, .int .i64 y], .slice SA sn scap, .int .i64 (k : Nat), .bool bb, .agg #[.slice A2 n2 cap2], .int .i64 fig] w fun e w' => e = .returned (.bool true) ∧ Below w.heap.size w w' := by
  obtain ⟨i26, hi, hz0, hz1', hz2'⟩ := info_parts info26
  have hn : n ≤ maxLen := Nat.le_trans hcap hcm
  have hnS : sn ≤ maxLen := Nat.le_trans hsn hscm
  have hnM : n2 ≤ maxLen := Nat.le_trans hc21 hc22
  have h2 : Wn * Hn ≤ 256 := Nat.mul_le_mul hW hH
  have h2i : (Wn : Int) * Hn ≤ 256 := by exact_mod_cast h2
  have h2j : (0 : Int) ≤ (Wn : Int) * Hn := Int.mul_nonneg (by omega) (by omega)
  have hmw := i64_ok ((Wn : Int) * Hn) (by omega)
  have hkk2 : ((k : Nat) : Int) < (Wn : Int) * Hn := by exact_mod_cast hkk
  have z1 : ¬ ((k : Nat) : Int) < 0 := by omega
  have z2 : ¬ (Wn : Int) * Hn ≤ (k : Nat) := by omega
  have z3 : ¬ (6 : Int) ≤ n := by omega
  have z4 : ¬ fig < 0 := by omega
  have z5 : ¬ (n : Int) ≤ fig := by omega
  have y1' : ¬ a < 0 := by omega
  have y2' : ¬ b < 0 := by omega
  have y3' : ¬ a < b := by omega
  clear h2i h2j hkk2
  go_enter Tryz.func19, Tryz.ntmps19
  go_upto_region 1 with (fail)
  have hS := blk3_0 w (.cells #[.int .i64 nl, .int .i64 nh, .int .i64 xl, .int .i64 xh, .int .i64 y] 71) (.cells #[.slice A2 n2 cap2] 26) 23 #[.int .i64 Wn, .int .i64 Hn, .int .i64 F, .int .i64 L, .int .i64 X, .int .i64 Y]
  have hQ := blk3_1 w (.cells #[.int .i64 Wn, .int .i64 Hn, .int .i64 F, .int .i64 L, .int .i64 X, .int .i64 Y] 23) (.cells #[.slice A2 n2 cap2] 26) 71 #[.int .i64 nl, .int .i64 nh, .int .i64 xl, .int .i64 xh, .int .i64 y]
  have hM := blk3_2 w (.cells #[.int .i64 Wn, .int .i64 Hn, .int .i64 F, .int .i64 L, .int .i64 X, .int .i64 Y] 23) (.cells #[.int .i64 nl, .int .i64 nh, .int .i64 xl, .int .i64 xh, .int .i64 y] 71) 26 #[.slice A2 n2 cap2]
  have hB := pro_3 w (.cells #[.int .i64 Wn, .int .i64 Hn, .int .i64 F, .int .i64 L, .int .i64 X, .int .i64 Y] 23) (.cells #[.int .i64 nl, .int .i64 nh, .int .i64 xl, .int .i64 xh, .int .i64 y] 71) (.cells #[.slice A2 n2 cap2] 26)
  generalize ((w.alloc (.cells #[.int .i64 Wn, .int .i64 Hn, .int .i64 F, .int .i64 L, .int .i64 X, .int .i64 Y] 23)).alloc (.cells #[.int .i64 nl, .int .i64 nh, .int .i64 xl, .int .i64 xh, .int .i64 y] 71)).alloc (.cells #[.slice A2 n2 cap2] 26) = W0 at *
  have qhS := fun i => Blk.cell hS i
  have qhQ := fun i => Blk.cell hQ i
  have qhM := fun i => Blk.cell hM i
  have k39 : ∀ p : Blw W0.heap.size W0, Calls Tryz.prog 39 #[.slice A n cap] p.to fun e w' => e = .returned (.bool true) ∧ p.to = w' := fun p => by have h := few_any A n cap fs p.to hn (fun f h => ((hf f h).below (hB.trans (p.h.mono hB.size))).more (Nat.le_trans hB.size p.h.size)) (rdB hr (hB.trans (p.h.mono hB.size))); rw [hfw] at h; exact h
  have k23 : ∀ p : Blw W0.heap.size W0, Calls Tryz.prog 23 #[.slice SA sn scap] p.to fun e w' => e = .returned (.bool true) ∧ p.to = w' := fun p => by have h := short_any SA sn scap rs p.to hnS hss (rdB hsr (hB.trans (p.h.mono hB.size))); rw [hsh] at h; exact h
  have k23b : ∀ p : Blw W0.heap.size W0, Calls Tryz.prog 23 #[.slice A2 n2 cap2] p.to fun e w' => e = .returned (.bool true) ∧ p.to = w' := fun p => by have h := short_any A2 n2 cap2 rows2 p.to hnM hs2 (rdB hR2 (hB.trans (p.h.mono hB.size))); rw [hsh2] at h; exact h
  have k27 : ∀ p : Blw W0.heap.size W0, Calls Tryz.prog 27 #[.agg #[.int .i64 Wn, .int .i64 Hn, .int .i64 F, .int .i64 L, .int .i64 X, .int .i64 Y]] p.to fun e w' => e = .returned (.bool true) ∧ Below p.to.heap.size p.to w' := fun p => by have h := Stage_any Wn Hn F L X Y p.to; rw [hst] at h; exact h
  have k55 : ∀ p : Blw W0.heap.size W0, Calls Tryz.prog 55 #[.agg #[.int .i64 Wn, .int .i64 Hn, .int .i64 F, .int .i64 L, .int .i64 X, .int .i64 Y], .slice SA sn scap] p.to fun e w' => e = .returned (.bool true) ∧ Below p.to.heap.size p.to w' := fun p => by have h := refSight_any Wn Hn F L X Y SA sn scap rs p.to hnS hss (rdB hsr (hB.trans (p.h.mono hB.size))); rw [hsg] at h; exact h
  have k54 : ∀ p : Blw W0.heap.size W0, Calls Tryz.prog 54 #[.agg #[.int .i64 Wn, .int .i64 Hn, .int .i64 F, .int .i64 L, .int .i64 X, .int .i64 Y], .slice A n cap, .agg #[.int .i64 nl, .int .i64 nh, .int .i64 xl, .int .i64 xh, .int .i64 y], .bool true] p.to fun e w' => e = .returned (.int .i64 0) ∧ Below p.to.heap.size p.to w' := fun p => by have h := asked_any Wn Hn F L X Y nl nh xl xh y A n cap fs true p.to hn (fun f h => ((hf f h).below (hB.trans (p.h.mono hB.size))).more (Nat.le_trans hB.size p.h.size)) (rdB hr (hB.trans (p.h.mono hB.size))); rw [hak] at h; exact h
  have k28 : ∀ p : Blw W0.heap.size W0, Calls Tryz.prog 28 #[.agg #[.slice A2 n2 cap2]] p.to fun e w' => e = .returned (.bool true) ∧ Below p.to.heap.size p.to w' := fun p => by have h := refFigure_any A2 n2 cap2 rows2 p.to hnM hs2 (rdB hR2 (hB.trans (p.h.mono hB.size))); rw [hfg] at h; exact h
  have hbS := fun p i => blw_blk hS p i
  have hbQ := fun p i => blw_blk hQ p i
  have hbM := fun p i => blw_blk hM p i
  refine wp_region_blw (by kernel_rfl) (by kernel_rfl) ?_
  repeat (go_big_quiet_step (first | (go_at_call 39; exact Calls.blw_of_same _ (k39 _)) | (go_at_call_of 23 (Value.slice A2 n2 cap2); exact Calls.blw_of_same _ (k23b _)) | (go_at_call_of 23 (Value.slice SA sn scap); exact Calls.blw_of_same _ (k23 _)) | (go_at_call 27; exact Calls.blw_of _ (k27 _)) | (go_at_call 55; exact Calls.blw_of _ (k55 _)) | (go_at_call 54; exact Calls.blw_of _ (k54 _)) | (go_at_call 28; exact Calls.blw_of _ (k28 _))))
  refine wpQuiet_nil ?_
  rintro W3 ⟨⟨_, hb⟩, rfl⟩
  clear qhS qhQ qhM hbS hbQ hbM k39 k23 k23b k27 k55 k54 k28
  replace hS := hS.below hb hS.lt; replace hQ := hQ.below hb hQ.lt; replace hM := hM.below hb hM.lt; replace hB := hB.trans (hb.mono hB.size); clear hb; have qhS := fun i => Blk.cell hS i; have qhQ := fun i => Blk.cell hQ i; have qhM := fun i => Blk.cell hM i
  clear hfw hsh hsh2 hst hsg hak hfg z1 z2 z3 z4 z5
  go_upto_region 4 with (fail)
  subst hb1
  cases bb
  case false =>
    go_upto_region 6 with (fail)
    go_upto_region 7 with ((go_at_call 65; refine (lawSeen_any Wn Hn F L X Y nl nh xl xh y A n cap fs SA sn scap rs _ hcap hcm (fun f h => ((hf f h).below hB).more hB.size) (rdB hr hB) hsn hscm hss (rdB hsr hB)).mono ?_; rintro e w1 ⟨rfl, hb⟩; rw [HA.out]; (try replace hS := hS.below hb hS.lt); (try replace hQ := hQ.below hb hQ.lt); (try replace hM := hM.below hb hM.lt); replace hB := hB.trans (hb.mono hB.size); (try clear qhS); (try clear qhQ); (try clear qhM); clear hb; (try have qhS := fun i => Blk.cell hS i); (try have qhQ := fun i => Blk.cell hQ i); (try have qhM := fun i => Blk.cell hM i)))
    clear HA
    go_upto_region 9 with ((go_at_call 66; refine (Cell_any Wn Hn F L X Y SA sn scap rs row k z _ hW1 (by omega) (by omega) hz hcz (by omega) (rdB hsr hB)).mono ?_; rintro e w1 ⟨rfl, hb⟩; (try replace hS := hS.below hb hS.lt); (try replace hQ := hQ.below hb hQ.lt); (try replace hM := hM.below hb hM.lt); replace hB := hB.trans (hb.mono hB.size); (try clear qhS); (try clear qhQ); (try clear qhM); clear hb; (try have qhS := fun i => Blk.cell hS i); (try have qhQ := fun i => Blk.cell hQ i); (try have qhM := fun i => Blk.cell hM i)))
    clear hcz hz
    rename World => WR
    refine wp_region_G (fun w' => Below WR.drew.heap.size WR.drew w') 5 (by kernel_rfl) ?_
    replace hS := hS.drew
    replace hQ := hQ.drew
    replace hM := hM.drew
    replace hB := hB.drew
    clear qhS qhQ qhM
    generalize WR.drew = WD at *
    have hTT : Below WD.heap.size WD WD := Below.refl _ _
    have hrW := rdB hr hB
    have hMl := hM.lt
    refine wpG_take (i := 0) (v := ?vx1_0) rfl (by kernel_rfl) (by kernel_rfl) (by kernel_rfl) (by kernel_rfl) (fun _ _ _ h => h) (Or.inl ⟨by rfl, ?hyx1_0⟩) hTT ?restx1_0
    case hyx1_0 => intro wq hSw; have qhS := fun i => (Blk.below hS hSw hS.lt).cell i; have qhQ := fun i => (Blk.below hQ hSw hQ.lt).cell i; have qhM := fun i => (Blk.below hM hSw hM.lt).cell i; go_simp <;> with_reducible rfl
    simp only [List.getElem_toArray, List.getElem_cons_zero, List.getElem_cons_succ, Act.put, List.setIfInBounds_toArray, List.set_cons_zero, List.set_cons_succ]
    refine wpG_take (i := 2) (v := ?vx1_2) rfl (by kernel_rfl) (by kernel_rfl) (by kernel_rfl) (by kernel_rfl) (fun _ _ _ h => h) (Or.inl ⟨by rfl, ?hyx1_2⟩) hTT ?restx1_2
    case hyx1_2 => intro wq hSw; have qhS := fun i => (Blk.below hS hSw hS.lt).cell i; have qhQ := fun i => (Blk.below hQ hSw hQ.lt).cell i; have qhM := fun i => (Blk.below hM hSw hM.lt).cell i; go_simp <;> with_reducible rfl
    simp only [List.getElem_toArray, List.getElem_cons_zero, List.getElem_cons_succ, Act.put, List.setIfInBounds_toArray, List.set_cons_zero, List.set_cons_succ]
    have hBs := hB.size
    have hWs : ∀ o : Obj, (WD.alloc o).heap.size = WD.heap.size + 1 := fun o => by simp
    refine wpG_two (i := 1) (j := 3) rfl rfl (by kernel_rfl) (fun K hK => ?_) (fun K hK => ?_)
    · rw [if_pos (by rfl)]; refine wp_append_any _ _ _ 51 rfl WD.heap.size 26 i26 (.agg #[.slice none 0 0]) 1 24 Tryz.underlying51 hi hz0 hz1' hz2' rfl (by decide) _ 0 [] rfl (World.ownsRow_nil _ _ _ _) WD.heap.size A n cap (fs.map Fig.val) rfl hrW.reads (by simp [Value.oneCell', Fig.val]) (by unfold maxLen; omega) (by omega) (Nat.le_refl _) (fun v' w1 hown hgrow hob => ?_)
      rw [Nat.zero_add, List.nil_append] at hown
      replace hS := hS.grown hgrow (fun e => by cases e)
      replace hQ := hQ.grown hgrow (fun e => by cases e)
      replace hM := hM.grown hgrow (fun e => by cases e)
      replace hTT := hTT.grown hgrow hTT.size (fun z hz => by cases hz)
      replace hB := hB.grown hgrow hB.size (fun z hz => by cases hz)
      refine hK _ _ (.inr hTT) ?_
      clear hK K
      try simp only [List.getElem_toArray, List.getElem_cons_zero, List.getElem_cons_succ, Act.put, List.setIfInBounds_toArray, List.set_cons_zero, List.set_cons_succ]
      refine wpG_one (i := 3) rfl (by kernel_rfl) (fun K hK => ?_)
      go_simp
      obtain ⟨gM, hgM⟩ : ∃ g, g = w1.heap.size := ⟨_, rfl⟩
      have hbm : Blk (w1.alloc (.cells #[.slice A2 n2 cap2] 26)) gM 26 #[.slice A2 n2 cap2] := by rw [hgM]; exact Blk.new w1 26 #[.slice A2 n2 cap2]
      rw [← hgM]
      replace hown := hown.alloc (.cells #[.slice A2 n2 cap2] 26)
      replace hTT := hTT.alloc hTT.size (.cells #[.slice A2 n2 cap2] 26)
      replace hS := hS.alloc (.cells #[.slice A2 n2 cap2] 26)
      replace hQ := hQ.alloc (.cells #[.slice A2 n2 cap2] 26)
      replace hM := hM.alloc (.cells #[.slice A2 n2 cap2] 26)
      replace hB := hB.alloc hB.size (.cells #[.slice A2 n2 cap2] 26)
      refine hK _ _ (.inr hTT) ?_
      clear hK K
      try simp only [List.getElem_toArray, List.getElem_cons_zero, List.getElem_cons_succ, Act.put, List.setIfInBounds_toArray, List.set_cons_zero, List.set_cons_succ]
      refine wpG_one (i := 4) rfl (by kernel_rfl) (fun K hK => ?_)
      obtain ⟨oA, oC, rfl⟩ := own_slice hown
      rw [if_pos (by rfl)]; refine wp_append_any _ _ _ 51 rfl WD.heap.size 26 i26 (.agg #[.slice none 0 0]) 1 24 Tryz.underlying51 hi hz0 hz1' hz2' rfl (by decide) _ n (fs.map Fig.val) rfl hown _ (some ⟨gM, 0, none⟩) 1 1 [.slice A2 n2 cap2] rfl (Rd.blkN hbm rfl hbm.lt).reads (by simp [Value.oneCell']) (by unfold maxLen; omega) (by omega) (by have := hTT.size; simpa using this) (fun v2 w2 hown2 hgrow2 hob2 => ?_)
      replace hS := hS.kept_own hown (by decide) hgrow2
      replace hQ := hQ.kept_own hown (by decide) hgrow2
      replace hM := hM.grown hgrow2 (fun e => by have h1 := (hown.lt _ e.symm).1; omega)
      replace hTT := hTT.grown hgrow2 hTT.size (fun g hg => (hown.lt g hg).1)
      replace hB := hB.grown hgrow2 hB.size (fun g hg => Nat.le_trans hBs (hown.lt g hg).1)
      refine hK _ _ (.inr hTT) ?_
      clear hK K
      try simp only [List.getElem_toArray, List.getElem_cons_zero, List.getElem_cons_succ, Act.put, List.setIfInBounds_toArray, List.set_cons_zero, List.set_cons_succ]
      refine wpG_one (i := 5) rfl (by kernel_rfl) (fun K hK => ?_)
      go_simp
      refine hK _ _ (.inl rfl) ?_
      clear hK K
      try simp only [List.getElem_toArray, List.getElem_cons_zero, List.getElem_cons_succ, Act.put, List.setIfInBounds_toArray, List.set_cons_zero, List.set_cons_succ]
      refine wpG_done (by kernel_rfl) ?_ _
      obtain ⟨xA, xC, rfl⟩ := own_slice hown2
      have hx1 := own_le0 hown2
      have hx2 := own_cap hown2
      have hX := Rd.of_own hown2
      rw [show fs.map Fig.val ++ [Value.slice A2 n2 cap2] = (fs ++ [(⟨A2, n2, cap2, rows2⟩ : Fig)]).map Fig.val by rw [List.map_append]; rfl] at hX
      clear hown hown2 hbm hgrow2 hob2 hrW hMl hBs hgM hWs
      have qhS := fun i => Blk.cell hS i; have qhQ := fun i => Blk.cell hQ i; have qhM := fun i => Blk.cell hM i
      have hfX : ∀ f ∈ fs ++ [(⟨A2, n2, cap2, rows2⟩ : Fig)], f.ok w w.heap.size := fun f h => by
        rcases List.mem_append.1 h with h | h
        · exact hf f h
        · obtain rfl : f = (⟨A2, n2, cap2, rows2⟩ : Fig) := by simpa using h
          exact ⟨hc21, hc22, hs2, hR2⟩
      go_upto_region 10 with (fail)
      go_upto_region 11 with ((go_at_call 69; refine (Told_any Wn Hn F L X Y nl nh xl xh y A n cap fs fig _ hcap hcm (fun f h => ((hf f h).below hB).more hB.size) (rdB hr hB)).mono ?_; rintro e w1 ⟨v1, rfl, hIs, hb⟩; obtain ⟨tA, tn, tc, rfl, ht1, ht2, hT⟩ := hIs; rw [HT.out] at hT; rw [HE1.out]; (try replace hS := hS.below hb hS.lt); (try replace hQ := hQ.below hb hQ.lt); (try replace hM := hM.below hb hM.lt); (try replace hU := rdB hU hb); (try replace hX := rdB hX hb); replace hB := hB.trans (hb.mono hB.size); (try clear qhS); (try clear qhQ); (try clear qhM); clear hb; (try have qhS := fun i => Blk.cell hS i); (try have qhQ := fun i => Blk.cell hQ i); (try have qhM := fun i => Blk.cell hM i)))
      clear HT HE1
      go_upto_region 12 with ((go_at_call 69; refine (Told_any Wn Hn F L X Y nl nh xl xh y xA (n + 1) xC (fs ++ [(⟨A2, n2, cap2, rows2⟩ : Fig)]) fig _ hx1 hx2 (fun f h => ((hfX f h).below hB).more hB.size) hX).mono ?_; rintro e w1 ⟨v1, rfl, hIs, hb⟩; obtain ⟨uA, un, uc, rfl, hu1, hu2, hU⟩ := hIs; rw [HU.out] at hU; rw [HE2.out]; (try replace hS := hS.below hb hS.lt); (try replace hQ := hQ.below hb hQ.lt); (try replace hM := hM.below hb hM.lt); (try replace hT := rdB hT hb); (try replace hX := rdB hX hb); replace hB := hB.trans (hb.mono hB.size); (try clear qhS); (try clear qhQ); (try clear qhM); clear hb; (try have qhS := fun i => Blk.cell hS i); (try have qhQ := fun i => Blk.cell hQ i); (try have qhM := fun i => Blk.cell hM i)))
      clear HU HE2
      go_upto_region 13 with ((go_at_call 68; refine (Mistaken_any Wn Hn F L X Y nl nh xl xh y A n cap fs _ hcap hcm (fun f h => ((hf f h).below hB).more hB.size) (rdB hr hB)).mono ?_; rintro e w1 ⟨rfl, hb⟩; rw [HM1.out]; (try replace hS := hS.below hb hS.lt); (try replace hQ := hQ.below hb hQ.lt); (try replace hM := hM.below hb hM.lt); (try replace hT := rdB hT hb); (try replace hU := rdB hU hb); (try replace hX := rdB hX hb); replace hB := hB.trans (hb.mono hB.size); (try clear qhS); (try clear qhQ); (try clear qhM); clear hb; (try have qhS := fun i => Blk.cell hS i); (try have qhQ := fun i => Blk.cell hQ i); (try have qhM := fun i => Blk.cell hM i)))
      clear HM1
      go_upto_region 14 with ((go_at_call 68; refine (Mistaken_any Wn Hn F L X Y nl nh xl xh y xA (n + 1) xC (fs ++ [(⟨A2, n2, cap2, rows2⟩ : Fig)]) _ hx1 hx2 (fun f h => ((hfX f h).below hB).more hB.size) hX).mono ?_; rintro e w1 ⟨rfl, hb⟩; rw [HM2.out]; (try replace hS := hS.below hb hS.lt); (try replace hQ := hQ.below hb hQ.lt); (try replace hM := hM.below hb hM.lt); (try replace hT := rdB hT hb); (try replace hU := rdB hU hb); (try replace hX := rdB hX hb); replace hB := hB.trans (hb.mono hB.size); (try clear qhS); (try clear qhQ); (try clear qhM); clear hb; (try have qhS := fun i => Blk.cell hS i); (try have qhQ := fun i => Blk.cell hQ i); (try have qhM := fun i => Blk.cell hM i)))
      clear HM2
      have l1 := hT.len
      have l2 := hU.len
      have m1 : tn ≤ 6 := by omega
      have m2 : un ≤ 6 := by omega
      have m3 : ¬ (6 : Int) < tn := by omega
      have m4 : ¬ (6 : Int) < un := by omega
      clear l1 l2
      go_upto_region 16 with ((go_at_call 79; refine (withinL_any tA tn tc tl uA un uc ul _ (by omega) (by omega) hT hU).mono ?_; rintro e w1 ⟨rfl, rfl⟩; rw [HWI.out]))
      clear HWI
      rcases HG.out with ⟨rfl, rfl⟩ | ⟨rfl, rfl⟩ | ⟨rfl, rfl⟩
      all_goals
        as_aux_lemma =>
          clear HG
          go_wp2_with ((go_at_call 24; refine (known_true m _ (known_at hm hB)).mono ?_; rintro e w1 ⟨rfl, hb⟩; (try replace hS := hS.below hb hS.lt); (try replace hQ := hQ.below hb hQ.lt); (try replace hM := hM.below hb hM.lt); (try replace hT := rdB hT hb); (try replace hU := rdB hU hb); (try replace hX := rdB hX hb); replace hB := hB.trans (hb.mono hB.size); (try clear qhS); (try clear qhQ); (try clear qhM); clear hb; (try have qhS := fun i => Blk.cell hS i); (try have qhQ := fun i => Blk.cell hQ i); (try have qhM := fun i => Blk.cell hM i)))
          go_ret
          exact ⟨rfl, hB⟩
    · go_simp
      obtain ⟨gM, hgM⟩ : ∃ g, g = WD.heap.size := ⟨_, rfl⟩
      have hbm : Blk (WD.alloc (.cells #[.slice A2 n2 cap2] 26)) gM 26 #[.slice A2 n2 cap2] := by rw [hgM]; exact Blk.new WD 26 #[.slice A2 n2 cap2]
      rw [← hgM]
      replace hTT := hTT.alloc hTT.size (.cells #[.slice A2 n2 cap2] 26)
      replace hS := hS.alloc (.cells #[.slice A2 n2 cap2] 26)
      replace hQ := hQ.alloc (.cells #[.slice A2 n2 cap2] 26)
      replace hM := hM.alloc (.cells #[.slice A2 n2 cap2] 26)
      replace hB := hB.alloc hB.size (.cells #[.slice A2 n2 cap2] 26)
      refine hK _ _ (.inr hTT) ?_
      clear hK K
      try simp only [List.getElem_toArray, List.getElem_cons_zero, List.getElem_cons_succ, Act.put, List.setIfInBounds_toArray, List.set_cons_zero, List.set_cons_succ]
      refine wpG_one (i := 1) rfl (by kernel_rfl) (fun K hK => ?_)
      rw [if_pos (by rfl)]; refine wp_append_any _ _ _ 51 rfl WD.heap.size 26 i26 (.agg #[.slice none 0 0]) 1 24 Tryz.underlying51 hi hz0 hz1' hz2' rfl (by decide) _ 0 [] rfl (World.ownsRow_nil _ _ _ _) _ A n cap (fs.map Fig.val) rfl (rdB hr hB).reads (by simp [Value.oneCell', Fig.val]) (by unfold maxLen; omega) (by omega) (by simp) (fun v' w1 hown hgrow hob => ?_)
      replace hbm := hbm.grown hgrow (fun e => by cases e)
      rw [Nat.zero_add, List.nil_append] at hown
      replace hS := hS.grown hgrow (fun e => by cases e)
      replace hQ := hQ.grown hgrow (fun e => by cases e)
      replace hM := hM.grown hgrow (fun e => by cases e)
      replace hTT := hTT.grown hgrow hTT.size (fun z hz => by cases hz)
      replace hB := hB.grown hgrow hB.size (fun z hz => by cases hz)
      refine hK _ _ (.inr hTT) ?_
      clear hK K
      try simp only [List.getElem_toArray, List.getElem_cons_zero, List.getElem_cons_succ, Act.put, List.setIfInBounds_toArray, List.set_cons_zero, List.set_cons_succ]
      refine wpG_one (i := 4) rfl (by kernel_rfl) (fun K hK => ?_)
      obtain ⟨oA, oC, rfl⟩ := own_slice hown
      rw [if_pos (by rfl)]; refine wp_append_any _ _ _ 51 rfl WD.heap.size 26 i26 (.agg #[.slice none 0 0]) 1 24 Tryz.underlying51 hi hz0 hz1' hz2' rfl (by decide) _ n (fs.map Fig.val) rfl hown _ (some ⟨gM, 0, none⟩) 1 1 [.slice A2 n2 cap2] rfl (Rd.blkN hbm rfl hbm.lt).reads (by simp [Value.oneCell']) (by unfold maxLen; omega) (by omega) (by have := hTT.size; simpa using this) (fun v2 w2 hown2 hgrow2 hob2 => ?_)
      replace hS := hS.kept_own hown (by decide) hgrow2
      replace hQ := hQ.kept_own hown (by decide) hgrow2
      replace hM := hM.grown hgrow2 (fun e => by have h1 := (hown.lt _ e.symm).1; omega)
      replace hTT := hTT.grown hgrow2 hTT.size (fun g hg => (hown.lt g hg).1)
      replace hB := hB.grown hgrow2 hB.size (fun g hg => Nat.le_trans hBs (hown.lt g hg).1)
      refine hK _ _ (.inr hTT) ?_
      clear hK K
      try simp only [List.getElem_toArray, List.getElem_cons_zero, List.getElem_cons_succ, Act.put, List.setIfInBounds_toArray, List.set_cons_zero, List.set_cons_succ]
      refine wpG_one (i := 5) rfl (by kernel_rfl) (fun K hK => ?_)
      go_simp
      refine hK _ _ (.inl rfl) ?_
      clear hK K
      try simp only [List.getElem_toArray, List.getElem_cons_zero, List.getElem_cons_succ, Act.put, List.setIfInBounds_toArray, List.set_cons_zero, List.set_cons_succ]
      refine wpG_done (by kernel_rfl) ?_ _
      obtain ⟨xA, xC, rfl⟩ := own_slice hown2
      have hx1 := own_le0 hown2
      have hx2 := own_cap hown2
      have hX := Rd.of_own hown2
      rw [show fs.map Fig.val ++ [Value.slice A2 n2 cap2] = (fs ++ [(⟨A2, n2, cap2, rows2⟩ : Fig)]).map Fig.val by rw [List.map_append]; rfl] at hX
      clear hown hown2 hbm hgrow2 hob2 hrW hMl hBs hgM hWs
      have qhS := fun i => Blk.cell hS i; have qhQ := fun i => Blk.cell hQ i; have qhM := fun i => Blk.cell hM i
      have hfX : ∀ f ∈ fs ++ [(⟨A2, n2, cap2, rows2⟩ : Fig)], f.ok w w.heap.size := fun f h => by
        rcases List.mem_append.1 h with h | h
        · exact hf f h
        · obtain rfl : f = (⟨A2, n2, cap2, rows2⟩ : Fig) := by simpa using h
          exact ⟨hc21, hc22, hs2, hR2⟩
      go_upto_region 10 with (fail)
      go_upto_region 11 with ((go_at_call 69; refine (Told_any Wn Hn F L X Y nl nh xl xh y A n cap fs fig _ hcap hcm (fun f h => ((hf f h).below hB).more hB.size) (rdB hr hB)).mono ?_; rintro e w1 ⟨v1, rfl, hIs, hb⟩; obtain ⟨tA, tn, tc, rfl, ht1, ht2, hT⟩ := hIs; rw [HT.out] at hT; rw [HE1.out]; (try replace hS := hS.below hb hS.lt); (try replace hQ := hQ.below hb hQ.lt); (try replace hM := hM.below hb hM.lt); (try replace hU := rdB hU hb); (try replace hX := rdB hX hb); replace hB := hB.trans (hb.mono hB.size); (try clear qhS); (try clear qhQ); (try clear qhM); clear hb; (try have qhS := fun i => Blk.cell hS i); (try have qhQ := fun i => Blk.cell hQ i); (try have qhM := fun i => Blk.cell hM i)))
      clear HT HE1
      go_upto_region 12 with ((go_at_call 69; refine (Told_any Wn Hn F L X Y nl nh xl xh y xA (n + 1) xC (fs ++ [(⟨A2, n2, cap2, rows2⟩ : Fig)]) fig _ hx1 hx2 (fun f h => ((hfX f h).below hB).more hB.size) hX).mono ?_; rintro e w1 ⟨v1, rfl, hIs, hb⟩; obtain ⟨uA, un, uc, rfl, hu1, hu2, hU⟩ := hIs; rw [HU.out] at hU; rw [HE2.out]; (try replace hS := hS.below hb hS.lt); (try replace hQ := hQ.below hb hQ.lt); (try replace hM := hM.below hb hM.lt); (try replace hT := rdB hT hb); (try replace hX := rdB hX hb); replace hB := hB.trans (hb.mono hB.size); (try clear qhS); (try clear qhQ); (try clear qhM); clear hb; (try have qhS := fun i => Blk.cell hS i); (try have qhQ := fun i => Blk.cell hQ i); (try have qhM := fun i => Blk.cell hM i)))
      clear HU HE2
      go_upto_region 13 with ((go_at_call 68; refine (Mistaken_any Wn Hn F L X Y nl nh xl xh y A n cap fs _ hcap hcm (fun f h => ((hf f h).below hB).more hB.size) (rdB hr hB)).mono ?_; rintro e w1 ⟨rfl, hb⟩; rw [HM1.out]; (try replace hS := hS.below hb hS.lt); (try replace hQ := hQ.below hb hQ.lt); (try replace hM := hM.below hb hM.lt); (try replace hT := rdB hT hb); (try replace hU := rdB hU hb); (try replace hX := rdB hX hb); replace hB := hB.trans (hb.mono hB.size); (try clear qhS); (try clear qhQ); (try clear qhM); clear hb; (try have qhS := fun i => Blk.cell hS i); (try have qhQ := fun i => Blk.cell hQ i); (try have qhM := fun i => Blk.cell hM i)))
      clear HM1
      go_upto_region 14 with ((go_at_call 68; refine (Mistaken_any Wn Hn F L X Y nl nh xl xh y xA (n + 1) xC (fs ++ [(⟨A2, n2, cap2, rows2⟩ : Fig)]) _ hx1 hx2 (fun f h => ((hfX f h).below hB).more hB.size) hX).mono ?_; rintro e w1 ⟨rfl, hb⟩; rw [HM2.out]; (try replace hS := hS.below hb hS.lt); (try replace hQ := hQ.below hb hQ.lt); (try replace hM := hM.below hb hM.lt); (try replace hT := rdB hT hb); (try replace hU := rdB hU hb); (try replace hX := rdB hX hb); replace hB := hB.trans (hb.mono hB.size); (try clear qhS); (try clear qhQ); (try clear qhM); clear hb; (try have qhS := fun i => Blk.cell hS i); (try have qhQ := fun i => Blk.cell hQ i); (try have qhM := fun i => Blk.cell hM i)))
      clear HM2
      have l1 := hT.len
      have l2 := hU.len
      have m1 : tn ≤ 6 := by omega
      have m2 : un ≤ 6 := by omega
      have m3 : ¬ (6 : Int) < tn := by omega
      have m4 : ¬ (6 : Int) < un := by omega
      clear l1 l2
      go_upto_region 16 with ((go_at_call 79; refine (withinL_any tA tn tc tl uA un uc ul _ (by omega) (by omega) hT hU).mono ?_; rintro e w1 ⟨rfl, rfl⟩; rw [HWI.out]))
      clear HWI
      rcases HG.out with ⟨rfl, rfl⟩ | ⟨rfl, rfl⟩ | ⟨rfl, rfl⟩
      all_goals
        as_aux_lemma =>
          clear HG
          go_wp2_with ((go_at_call 24; refine (known_true m _ (known_at hm hB)).mono ?_; rintro e w1 ⟨rfl, hb⟩; (try replace hS := hS.below hb hS.lt); (try replace hQ := hQ.below hb hQ.lt); (try replace hM := hM.below hb hM.lt); (try replace hT := rdB hT hb); (try replace hU := rdB hU hb); (try replace hX := rdB hX hb); replace hB := hB.trans (hb.mono hB.size); (try clear qhS); (try clear qhQ); (try clear qhM); clear hb; (try have qhS := fun i => Blk.cell hS i); (try have qhQ := fun i => Blk.cell hQ i); (try have qhM := fun i => Blk.cell hM i)))
          go_ret
          exact ⟨rfl, hB⟩
  case true =>
    go_upto_region 6 with (fail)
    go_upto_region 7 with ((go_at_call 65; refine (lawSeen_any Wn Hn F L X Y nl nh xl xh y A n cap fs SA sn scap rs _ hcap hcm (fun f h => ((hf f h).below hB).more hB.size) (rdB hr hB) hsn hscm hss (rdB hsr hB)).mono ?_; rintro e w1 ⟨rfl, hb⟩; rw [HA.out]; (try replace hS := hS.below hb hS.lt); (try replace hQ := hQ.below hb hQ.lt); (try replace hM := hM.below hb hM.lt); replace hB := hB.trans (hb.mono hB.size); (try clear qhS); (try clear qhQ); (try clear qhM); clear hb; (try have qhS := fun i => Blk.cell hS i); (try have qhQ := fun i => Blk.cell hQ i); (try have qhM := fun i => Blk.cell hM i)))
    clear HA
    go_upto_region 9 with ((go_at_call 66; refine (Cell_any Wn Hn F L X Y SA sn scap rs row k z _ hW1 (by omega) (by omega) hz hcz (by omega) (rdB hsr hB)).mono ?_; rintro e w1 ⟨rfl, hb⟩; (try replace hS := hS.below hb hS.lt); (try replace hQ := hQ.below hb hQ.lt); (try replace hM := hM.below hb hM.lt); replace hB := hB.trans (hb.mono hB.size); (try clear qhS); (try clear qhQ); (try clear qhM); clear hb; (try have qhS := fun i => Blk.cell hS i); (try have qhQ := fun i => Blk.cell hQ i); (try have qhM := fun i => Blk.cell hM i)))
    clear hcz hz
    rename World => WR
    refine wp_region_G (fun w' => Below WR.drew.heap.size WR.drew w') 5 (by kernel_rfl) ?_
    replace hS := hS.drew
    replace hQ := hQ.drew
    replace hM := hM.drew
    replace hB := hB.drew
    clear qhS qhQ qhM
    generalize WR.drew = WD at *
    have hTT : Below WD.heap.size WD WD := Below.refl _ _
    have hrW := rdB hr hB
    have hMl := hM.lt
    refine wpG_take (i := 0) (v := ?vx2_0) rfl (by kernel_rfl) (by kernel_rfl) (by kernel_rfl) (by kernel_rfl) (fun _ _ _ h => h) (Or.inl ⟨by rfl, ?hyx2_0⟩) hTT ?restx2_0
    case hyx2_0 => intro wq hSw; have qhS := fun i => (Blk.below hS hSw hS.lt).cell i; have qhQ := fun i => (Blk.below hQ hSw hQ.lt).cell i; have qhM := fun i => (Blk.below hM hSw hM.lt).cell i; go_simp <;> with_reducible rfl
    simp only [List.getElem_toArray, List.getElem_cons_zero, List.getElem_cons_succ, Act.put, List.setIfInBounds_toArray, List.set_cons_zero, List.set_cons_succ]
    refine wpG_take (i := 2) (v := ?vx2_2) rfl (by kernel_rfl) (by kernel_rfl) (by kernel_rfl) (by kernel_rfl) (fun _ _ _ h => h) (Or.inl ⟨by rfl, ?hyx2_2⟩) hTT ?restx2_2
    case hyx2_2 => intro wq hSw; have qhS := fun i => (Blk.below hS hSw hS.lt).cell i; have qhQ := fun i => (Blk.below hQ hSw hQ.lt).cell i; have qhM := fun i => (Blk.below hM hSw hM.lt).cell i; go_simp <;> with_reducible rfl
    simp only [List.getElem_toArray, List.getElem_cons_zero, List.getElem_cons_succ, Act.put, List.setIfInBounds_toArray, List.set_cons_zero, List.set_cons_succ]
    have hBs := hB.size
    have hWs : ∀ o : Obj, (WD.alloc o).heap.size = WD.heap.size + 1 := fun o => by simp
    refine wpG_two (i := 1) (j := 3) rfl rfl (by kernel_rfl) (fun K hK => ?_) (fun K hK => ?_)
    · rw [if_pos (by rfl)]; refine wp_append_any _ _ _ 51 rfl WD.heap.size 26 i26 (.agg #[.slice none 0 0]) 1 24 Tryz.underlying51 hi hz0 hz1' hz2' rfl (by decide) _ 0 [] rfl (World.ownsRow_nil _ _ _ _) WD.heap.size A n cap (fs.map Fig.val) rfl hrW.reads (by simp [Value.oneCell', Fig.val]) (by unfold maxLen; omega) (by omega) (Nat.le_refl _) (fun v' w1 hown hgrow hob => ?_)
      rw [Nat.zero_add, List.nil_append] at hown
      replace hS := hS.grown hgrow (fun e => by cases e)
      replace hQ := hQ.grown hgrow (fun e => by cases e)
      replace hM := hM.grown hgrow (fun e => by cases e)
      replace hTT := hTT.grown hgrow hTT.size (fun z hz => by cases hz)
      replace hB := hB.grown hgrow hB.size (fun z hz => by cases hz)
      refine hK _ _ (.inr hTT) ?_
      clear hK K
      try simp only [List.getElem_toArray, List.getElem_cons_zero, List.getElem_cons_succ, Act.put, List.setIfInBounds_toArray, List.set_cons_zero, List.set_cons_succ]
      refine wpG_one (i := 3) rfl (by kernel_rfl) (fun K hK => ?_)
      go_simp
      obtain ⟨gM, hgM⟩ : ∃ g, g = w1.heap.size := ⟨_, rfl⟩
      have hbm : Blk (w1.alloc (.cells #[.slice A2 n2 cap2] 26)) gM 26 #[.slice A2 n2 cap2] := by rw [hgM]; exact Blk.new w1 26 #[.slice A2 n2 cap2]
      rw [← hgM]
      replace hown := hown.alloc (.cells #[.slice A2 n2 cap2] 26)
      replace hTT := hTT.alloc hTT.size (.cells #[.slice A2 n2 cap2] 26)
      replace hS := hS.alloc (.cells #[.slice A2 n2 cap2] 26)
      replace hQ := hQ.alloc (.cells #[.slice A2 n2 cap2] 26)
      replace hM := hM.alloc (.cells #[.slice A2 n2 cap2] 26)
      replace hB := hB.alloc hB.size (.cells #[.slice A2 n2 cap2] 26)
      refine hK _ _ (.inr hTT) ?_
      clear hK K
      try simp only [List.getElem_toArray, List.getElem_cons_zero, List.getElem_cons_succ, Act.put, List.setIfInBounds_toArray, List.set_cons_zero, List.set_cons_succ]
      refine wpG_one (i := 4) rfl (by kernel_rfl) (fun K hK => ?_)
      obtain ⟨oA, oC, rfl⟩ := own_slice hown
      rw [if_pos (by rfl)]; refine wp_append_any _ _ _ 51 rfl WD.heap.size 26 i26 (.agg #[.slice none 0 0]) 1 24 Tryz.underlying51 hi hz0 hz1' hz2' rfl (by decide) _ n (fs.map Fig.val) rfl hown _ (some ⟨gM, 0, none⟩) 1 1 [.slice A2 n2 cap2] rfl (Rd.blkN hbm rfl hbm.lt).reads (by simp [Value.oneCell']) (by unfold maxLen; omega) (by omega) (by have := hTT.size; simpa using this) (fun v2 w2 hown2 hgrow2 hob2 => ?_)
      replace hS := hS.kept_own hown (by decide) hgrow2
      replace hQ := hQ.kept_own hown (by decide) hgrow2
      replace hM := hM.grown hgrow2 (fun e => by have h1 := (hown.lt _ e.symm).1; omega)
      replace hTT := hTT.grown hgrow2 hTT.size (fun g hg => (hown.lt g hg).1)
      replace hB := hB.grown hgrow2 hB.size (fun g hg => Nat.le_trans hBs (hown.lt g hg).1)
      refine hK _ _ (.inr hTT) ?_
      clear hK K
      try simp only [List.getElem_toArray, List.getElem_cons_zero, List.getElem_cons_succ, Act.put, List.setIfInBounds_toArray, List.set_cons_zero, List.set_cons_succ]
      refine wpG_one (i := 5) rfl (by kernel_rfl) (fun K hK => ?_)
      go_simp
      refine hK _ _ (.inl rfl) ?_
      clear hK K
      try simp only [List.getElem_toArray, List.getElem_cons_zero, List.getElem_cons_succ, Act.put, List.setIfInBounds_toArray, List.set_cons_zero, List.set_cons_succ]
      refine wpG_done (by kernel_rfl) ?_ _
      obtain ⟨xA, xC, rfl⟩ := own_slice hown2
      have hx1 := own_le0 hown2
      have hx2 := own_cap hown2
      have hX := Rd.of_own hown2
      rw [show fs.map Fig.val ++ [Value.slice A2 n2 cap2] = (fs ++ [(⟨A2, n2, cap2, rows2⟩ : Fig)]).map Fig.val by rw [List.map_append]; rfl] at hX
      clear hown hown2 hbm hgrow2 hob2 hrW hMl hBs hgM hWs
      have qhS := fun i => Blk.cell hS i; have qhQ := fun i => Blk.cell hQ i; have qhM := fun i => Blk.cell hM i
      have hfX : ∀ f ∈ fs ++ [(⟨A2, n2, cap2, rows2⟩ : Fig)], f.ok w w.heap.size := fun f h => by
        rcases List.mem_append.1 h with h | h
        · exact hf f h
        · obtain rfl : f = (⟨A2, n2, cap2, rows2⟩ : Fig) := by simpa using h
          exact ⟨hc21, hc22, hs2, hR2⟩
      go_upto_region 10 with (fail)
      go_upto_region 11 with ((go_at_call 69; refine (Told_any Wn Hn F L X Y nl nh xl xh y A n cap fs fig _ hcap hcm (fun f h => ((hf f h).below hB).more hB.size) (rdB hr hB)).mono ?_; rintro e w1 ⟨v1, rfl, hIs, hb⟩; obtain ⟨tA, tn, tc, rfl, ht1, ht2, hT⟩ := hIs; rw [HT.out] at hT; rw [HE1.out]; (try replace hS := hS.below hb hS.lt); (try replace hQ := hQ.below hb hQ.lt); (try replace hM := hM.below hb hM.lt); (try replace hU := rdB hU hb); (try replace hX := rdB hX hb); replace hB := hB.trans (hb.mono hB.size); (try clear qhS); (try clear qhQ); (try clear qhM); clear hb; (try have qhS := fun i => Blk.cell hS i); (try have qhQ := fun i => Blk.cell hQ i); (try have qhM := fun i => Blk.cell hM i)))
      clear HT HE1
      go_upto_region 12 with ((go_at_call 69; refine (Told_any Wn Hn F L X Y nl nh xl xh y xA (n + 1) xC (fs ++ [(⟨A2, n2, cap2, rows2⟩ : Fig)]) fig _ hx1 hx2 (fun f h => ((hfX f h).below hB).more hB.size) hX).mono ?_; rintro e w1 ⟨v1, rfl, hIs, hb⟩; obtain ⟨uA, un, uc, rfl, hu1, hu2, hU⟩ := hIs; rw [HU.out] at hU; rw [HE2.out]; (try replace hS := hS.below hb hS.lt); (try replace hQ := hQ.below hb hQ.lt); (try replace hM := hM.below hb hM.lt); (try replace hT := rdB hT hb); (try replace hX := rdB hX hb); replace hB := hB.trans (hb.mono hB.size); (try clear qhS); (try clear qhQ); (try clear qhM); clear hb; (try have qhS := fun i => Blk.cell hS i); (try have qhQ := fun i => Blk.cell hQ i); (try have qhM := fun i => Blk.cell hM i)))
      clear HU HE2
      go_upto_region 13 with ((go_at_call 68; refine (Mistaken_any Wn Hn F L X Y nl nh xl xh y A n cap fs _ hcap hcm (fun f h => ((hf f h).below hB).more hB.size) (rdB hr hB)).mono ?_; rintro e w1 ⟨rfl, hb⟩; rw [HM1.out]; (try replace hS := hS.below hb hS.lt); (try replace hQ := hQ.below hb hQ.lt); (try replace hM := hM.below hb hM.lt); (try replace hT := rdB hT hb); (try replace hU := rdB hU hb); (try replace hX := rdB hX hb); replace hB := hB.trans (hb.mono hB.size); (try clear qhS); (try clear qhQ); (try clear qhM); clear hb; (try have qhS := fun i => Blk.cell hS i); (try have qhQ := fun i => Blk.cell hQ i); (try have qhM := fun i => Blk.cell hM i)))
      clear HM1
      go_upto_region 14 with ((go_at_call 68; refine (Mistaken_any Wn Hn F L X Y nl nh xl xh y xA (n + 1) xC (fs ++ [(⟨A2, n2, cap2, rows2⟩ : Fig)]) _ hx1 hx2 (fun f h => ((hfX f h).below hB).more hB.size) hX).mono ?_; rintro e w1 ⟨rfl, hb⟩; rw [HM2.out]; (try replace hS := hS.below hb hS.lt); (try replace hQ := hQ.below hb hQ.lt); (try replace hM := hM.below hb hM.lt); (try replace hT := rdB hT hb); (try replace hU := rdB hU hb); (try replace hX := rdB hX hb); replace hB := hB.trans (hb.mono hB.size); (try clear qhS); (try clear qhQ); (try clear qhM); clear hb; (try have qhS := fun i => Blk.cell hS i); (try have qhQ := fun i => Blk.cell hQ i); (try have qhM := fun i => Blk.cell hM i)))
      clear HM2
      have l1 := hT.len
      have l2 := hU.len
      have m1 : tn ≤ 6 := by omega
      have m2 : un ≤ 6 := by omega
      have m3 : ¬ (6 : Int) < tn := by omega
      have m4 : ¬ (6 : Int) < un := by omega
      clear l1 l2
      go_upto_region 16 with ((go_at_call 79; refine (withinL_any tA tn tc tl uA un uc ul _ (by omega) (by omega) hT hU).mono ?_; rintro e w1 ⟨rfl, rfl⟩; rw [HWI.out]))
      clear HWI
      rcases HG.out with ⟨rfl, rfl⟩ | ⟨rfl, rfl⟩ | ⟨rfl, rfl⟩
      all_goals
        as_aux_lemma =>
          clear HG
          go_wp2_with ((go_at_call 24; refine (known_true m _ (known_at hm hB)).mono ?_; rintro e w1 ⟨rfl, hb⟩; (try replace hS := hS.below hb hS.lt); (try replace hQ := hQ.below hb hQ.lt); (try replace hM := hM.below hb hM.lt); (try replace hT := rdB hT hb); (try replace hU := rdB hU hb); (try replace hX := rdB hX hb); replace hB := hB.trans (hb.mono hB.size); (try clear qhS); (try clear qhQ); (try clear qhM); clear hb; (try have qhS := fun i => Blk.cell hS i); (try have qhQ := fun i => Blk.cell hQ i); (try have qhM := fun i => Blk.cell hM i)))
          go_ret
          exact ⟨rfl, hB⟩
    · go_simp
      obtain ⟨gM, hgM⟩ : ∃ g, g = WD.heap.size := ⟨_, rfl⟩
      have hbm : Blk (WD.alloc (.cells #[.slice A2 n2 cap2] 26)) gM 26 #[.slice A2 n2 cap2] := by rw [hgM]; exact Blk.new WD 26 #[.slice A2 n2 cap2]
      rw [← hgM]
      replace hTT := hTT.alloc hTT.size (.cells #[.slice A2 n2 cap2] 26)
      replace hS := hS.alloc (.cells #[.slice A2 n2 cap2] 26)
      replace hQ := hQ.alloc (.cells #[.slice A2 n2 cap2] 26)
      replace hM := hM.alloc (.cells #[.slice A2 n2 cap2] 26)
      replace hB := hB.alloc hB.size (.cells #[.slice A2 n2 cap2] 26)
      refine hK _ _ (.inr hTT) ?_
      clear hK K
      try simp only [List.getElem_toArray, List.getElem_cons_zero, List.getElem_cons_succ, Act.put, List.setIfInBounds_toArray, List.set_cons_zero, List.set_cons_succ]
      refine wpG_one (i := 1) rfl (by kernel_rfl) (fun K hK => ?_)
      rw [if_pos (by rfl)]; refine wp_append_any _ _ _ 51 rfl WD.heap.size 26 i26 (.agg #[.slice none 0 0]) 1 24 Tryz.underlying51 hi hz0 hz1' hz2' rfl (by decide) _ 0 [] rfl (World.ownsRow_nil _ _ _ _) _ A n cap (fs.map Fig.val) rfl (rdB hr hB).reads (by simp [Value.oneCell', Fig.val]) (by unfold maxLen; omega) (by omega) (by simp) (fun v' w1 hown hgrow hob => ?_)
      replace hbm := hbm.grown hgrow (fun e => by cases e)
      rw [Nat.zero_add, List.nil_append] at hown
      replace hS := hS.grown hgrow (fun e => by cases e)
      replace hQ := hQ.grown hgrow (fun e => by cases e)
      replace hM := hM.grown hgrow (fun e => by cases e)
      replace hTT := hTT.grown hgrow hTT.size (fun z hz => by cases hz)
      replace hB := hB.grown hgrow hB.size (fun z hz => by cases hz)
      refine hK _ _ (.inr hTT) ?_
      clear hK K
      try simp only [List.getElem_toArray, List.getElem_cons_zero, List.getElem_cons_succ, Act.put, List.setIfInBounds_toArray, List.set_cons_zero, List.set_cons_succ]
      refine wpG_one (i := 4) rfl (by kernel_rfl) (fun K hK => ?_)
      obtain ⟨oA, oC, rfl⟩ := own_slice hown
      rw [if_pos (by rfl)]; refine wp_append_any _ _ _ 51 rfl WD.heap.size 26 i26 (.agg #[.slice none 0 0]) 1 24 Tryz.underlying51 hi hz0 hz1' hz2' rfl (by decide) _ n (fs.map Fig.val) rfl hown _ (some ⟨gM, 0, none⟩) 1 1 [.slice A2 n2 cap2] rfl (Rd.blkN hbm rfl hbm.lt).reads (by simp [Value.oneCell']) (by unfold maxLen; omega) (by omega) (by have := hTT.size; simpa using this) (fun v2 w2 hown2 hgrow2 hob2 => ?_)
      replace hS := hS.kept_own hown (by decide) hgrow2
      replace hQ := hQ.kept_own hown (by decide) hgrow2
      replace hM := hM.grown hgrow2 (fun e => by have h1 := (hown.lt _ e.symm).1; omega)
      replace hTT := hTT.grown hgrow2 hTT.size (fun g hg => (hown.lt g hg).1)
      replace hB := hB.grown hgrow2 hB.size (fun g hg => Nat.le_trans hBs (hown.lt g hg).1)
      refine hK _ _ (.inr hTT) ?_
      clear hK K
      try simp only [List.getElem_toArray, List.getElem_cons_zero, List.getElem_cons_succ, Act.put, List.setIfInBounds_toArray, List.set_cons_zero, List.set_cons_succ]
      refine wpG_one (i := 5) rfl (by kernel_rfl) (fun K hK => ?_)
      go_simp
      refine hK _ _ (.inl rfl) ?_
      clear hK K
      try simp only [List.getElem_toArray, List.getElem_cons_zero, List.getElem_cons_succ, Act.put, List.setIfInBounds_toArray, List.set_cons_zero, List.set_cons_succ]
      refine wpG_done (by kernel_rfl) ?_ _
      obtain ⟨xA, xC, rfl⟩ := own_slice hown2
      have hx1 := own_le0 hown2
      have hx2 := own_cap hown2
      have hX := Rd.of_own hown2
      rw [show fs.map Fig.val ++ [Value.slice A2 n2 cap2] = (fs ++ [(⟨A2, n2, cap2, rows2⟩ : Fig)]).map Fig.val by rw [List.map_append]; rfl] at hX
      clear hown hown2 hbm hgrow2 hob2 hrW hMl hBs hgM hWs
      have qhS := fun i => Blk.cell hS i; have qhQ := fun i => Blk.cell hQ i; have qhM := fun i => Blk.cell hM i
      have hfX : ∀ f ∈ fs ++ [(⟨A2, n2, cap2, rows2⟩ : Fig)], f.ok w w.heap.size := fun f h => by
        rcases List.mem_append.1 h with h | h
        · exact hf f h
        · obtain rfl : f = (⟨A2, n2, cap2, rows2⟩ : Fig) := by simpa using h
          exact ⟨hc21, hc22, hs2, hR2⟩
      go_upto_region 10 with (fail)
      go_upto_region 11 with ((go_at_call 69; refine (Told_any Wn Hn F L X Y nl nh xl xh y A n cap fs fig _ hcap hcm (fun f h => ((hf f h).below hB).more hB.size) (rdB hr hB)).mono ?_; rintro e w1 ⟨v1, rfl, hIs, hb⟩; obtain ⟨tA, tn, tc, rfl, ht1, ht2, hT⟩ := hIs; rw [HT.out] at hT; rw [HE1.out]; (try replace hS := hS.below hb hS.lt); (try replace hQ := hQ.below hb hQ.lt); (try replace hM := hM.below hb hM.lt); (try replace hU := rdB hU hb); (try replace hX := rdB hX hb); replace hB := hB.trans (hb.mono hB.size); (try clear qhS); (try clear qhQ); (try clear qhM); clear hb; (try have qhS := fun i => Blk.cell hS i); (try have qhQ := fun i => Blk.cell hQ i); (try have qhM := fun i => Blk.cell hM i)))
      clear HT HE1
      go_upto_region 12 with ((go_at_call 69; refine (Told_any Wn Hn F L X Y nl nh xl xh y xA (n + 1) xC (fs ++ [(⟨A2, n2, cap2, rows2⟩ : Fig)]) fig _ hx1 hx2 (fun f h => ((hfX f h).below hB).more hB.size) hX).mono ?_; rintro e w1 ⟨v1, rfl, hIs, hb⟩; obtain ⟨uA, un, uc, rfl, hu1, hu2, hU⟩ := hIs; rw [HU.out] at hU; rw [HE2.out]; (try replace hS := hS.below hb hS.lt); (try replace hQ := hQ.below hb hQ.lt); (try replace hM := hM.below hb hM.lt); (try replace hT := rdB hT hb); (try replace hX := rdB hX hb); replace hB := hB.trans (hb.mono hB.size); (try clear qhS); (try clear qhQ); (try clear qhM); clear hb; (try have qhS := fun i => Blk.cell hS i); (try have qhQ := fun i => Blk.cell hQ i); (try have qhM := fun i => Blk.cell hM i)))
      clear HU HE2
      go_upto_region 13 with ((go_at_call 68; refine (Mistaken_any Wn Hn F L X Y nl nh xl xh y A n cap fs _ hcap hcm (fun f h => ((hf f h).below hB).more hB.size) (rdB hr hB)).mono ?_; rintro e w1 ⟨rfl, hb⟩; rw [HM1.out]; (try replace hS := hS.below hb hS.lt); (try replace hQ := hQ.below hb hQ.lt); (try replace hM := hM.below hb hM.lt); (try replace hT := rdB hT hb); (try replace hU := rdB hU hb); (try replace hX := rdB hX hb); replace hB := hB.trans (hb.mono hB.size); (try clear qhS); (try clear qhQ); (try clear qhM); clear hb; (try have qhS := fun i => Blk.cell hS i); (try have qhQ := fun i => Blk.cell hQ i); (try have qhM := fun i => Blk.cell hM i)))
      clear HM1
      go_upto_region 14 with ((go_at_call 68; refine (Mistaken_any Wn Hn F L X Y nl nh xl xh y xA (n + 1) xC (fs ++ [(⟨A2, n2, cap2, rows2⟩ : Fig)]) _ hx1 hx2 (fun f h => ((hfX f h).below hB).more hB.size) hX).mono ?_; rintro e w1 ⟨rfl, hb⟩; rw [HM2.out]; (try replace hS := hS.below hb hS.lt); (try replace hQ := hQ.below hb hQ.lt); (try replace hM := hM.below hb hM.lt); (try replace hT := rdB hT hb); (try replace hU := rdB hU hb); (try replace hX := rdB hX hb); replace hB := hB.trans (hb.mono hB.size); (try clear qhS); (try clear qhQ); (try clear qhM); clear hb; (try have qhS := fun i => Blk.cell hS i); (try have qhQ := fun i => Blk.cell hQ i); (try have qhM := fun i => Blk.cell hM i)))
      clear HM2
      have l1 := hT.len
      have l2 := hU.len
      have m1 : tn ≤ 6 := by omega
      have m2 : un ≤ 6 := by omega
      have m3 : ¬ (6 : Int) < tn := by omega
      have m4 : ¬ (6 : Int) < un := by omega
      clear l1 l2
      go_upto_region 16 with ((go_at_call 79; refine (withinL_any tA tn tc tl uA un uc ul _ (by omega) (by omega) hT hU).mono ?_; rintro e w1 ⟨rfl, rfl⟩; rw [HWI.out]))
      clear HWI
      rcases HG.out with ⟨rfl, rfl⟩ | ⟨rfl, rfl⟩ | ⟨rfl, rfl⟩
      all_goals
        as_aux_lemma =>
          clear HG
          go_wp2_with ((go_at_call 24; refine (known_true m _ (known_at hm hB)).mono ?_; rintro e w1 ⟨rfl, hb⟩; (try replace hS := hS.below hb hS.lt); (try replace hQ := hQ.below hb hQ.lt); (try replace hM := hM.below hb hM.lt); (try replace hT := rdB hT hb); (try replace hU := rdB hU hb); (try replace hX := rdB hX hb); replace hB := hB.trans (hb.mono hB.size); (try clear qhS); (try clear qhQ); (try clear qhM); clear hb; (try have qhS := fun i => Blk.cell hS i); (try have qhQ := fun i => Blk.cell hQ i); (try have qhM := fun i => Blk.cell hM i)))
          go_ret
          exact ⟨rfl, hB⟩
set_option maxRecDepth 100000 in
set_option maxHeartbeats 25600000 in
theorem more_q (Wn Hn : Nat) (F L X Y nl nh xl xh y : Int) (k : Nat) (bb : Bool) (fig : Int) (A : Option Addr) (n cap : Nat) (fs : List Fig) (SA : Option Addr) (sn scap : Nat) (rs : List ByteArray) (A2 : Option Addr) (n2 cap2 : Nat) (rows2 : List ByteArray) (m : Int) (w : World) (hm : w.cell? ⟨0, 0, none⟩ = some (.int .i64 m)) (hcap : n ≤ cap) (hcm : cap ≤ maxLen) (hf : ∀ f ∈ fs, f.ok w w.heap.size) (hr : Rd w w.heap.size 1 A n (fs.map Fig.val)) (hsn : sn ≤ scap) (hscm : scap ≤ maxLen) (hss : ∀ r ∈ rs, r.size ≤ maxLen) (hsr : Rd w w.heap.size 1 SA sn (rs.map Value.string)) (hc21 : n2 ≤ cap2) (hc22 : cap2 ≤ maxLen) (hs2 : ∀ r ∈ rows2, r.size ≤ maxLen) (hR2 : Rd w w.heap.size 1 A2 n2 (rows2.map Value.string)) (hfw : fewB fs = true) (hsh : shortB rs = true) (hsh2 : shortB rows2 = true) (hst : stageB Wn Hn F L X Y = true) (hsg : sightB Wn Hn rs = true) (hak : askV (askB Wn Hn F L X Y nl nh xl xh y fs && true) = 0) (h0 : 0 ≤ (k : Int)) (hW : Wn ≤ 16) (hH : Hn ≤ 16) (hkk : k < Wn * Hn) (hfg : figB rows2 = true) (h6 : n ≤ 5) (h7 : fig < n) (h7b : 0 ≤ fig) (hW1 : 1 ≤ Wn) (hsn3 : sn ≤ 10000) (a b x1 y1 me1 x2 y2 me2 : Int) (tl ul : List Int) (row : ByteArray) (hz : rs[k / Wn]? = some row) (hrz : row.size = Wn) (HA : Hid (seenI Wn Hn F L X Y nl nh xl xh y fs rs = a)) (ha : 0 ≤ a) (hb0 : 0 ≤ b) (hba : b ≤ a) (HT : Hid (toldR Wn Hn F L X Y nl nh xl xh y fs fig = tl)) (HE1 : Hid (toldE Wn Hn F L X Y nl nh xl xh y fs fig = 0)) (HU : Hid (toldR Wn Hn F L X Y nl nh xl xh y (fs ++ [(⟨A2, n2, cap2, rows2⟩ : Fig)]) fig = ul)) (HE2 : Hid (toldE Wn Hn F L X Y nl nh xl xh y (fs ++ [(⟨A2, n2, cap2, rows2⟩ : Fig)]) fig = 0)) (HM1 : Hid (mistR Wn Hn F L X Y nl nh xl xh y fs = #[.int .i64 x1, .int .i64 y1, .int .i64 me1])) (HM2 : Hid (mistR Wn Hn F L X Y nl nh xl xh y (fs ++ [(⟨A2, n2, cap2, rows2⟩ : Fig)]) = #[.int .i64 x2, .int .i64 y2, .int .i64 me2])) (hl1 : tl.length ≤ 6) (hl2 : ul.length ≤ 6) (HWI : Hid (withB tl ul = true)) (HG : Hid ((me1 = 0 ∧ me2 = 0) ∨ (me1 = 5 ∧ me2 = 0) ∨ (me1 = 5 ∧ me2 = 5))) (b35 b46 : Int) (hcz : (ltr row)[k % Wn]? = some 63) (h35 : ∀ r ∈ (rs.set (k / Wn) (seenRow row 35 (k % Wn))), r.size ≤ maxLen) (h46 : ∀ r ∈ (rs.set (k / Wn) (seenRow row 46 (k % Wn))), r.size ≤ maxLen) (HB35 : Hid (bb = true → seenI Wn Hn F L X Y nl nh xl xh y fs (rs.set (k / Wn) (seenRow row 35 (k % Wn))) = b)) (HB46 : Hid (bb = false → seenI Wn Hn F L X Y nl nh xl xh y fs (rs.set (k / Wn) (seenRow row 46 (k % Wn))) = b)) :
    Calls Tryz.prog 19 #[.agg #[.int .i64 Wn, .int .i64 Hn, .int .i64 F, .int .i64 L, .int .i64 X, .int .i64 Y], .slice A n cap, .agg #[.int .i64 nl, .int .i64 nh, .int .i64 xl, .int .i64 xh, .int .i64 y], .slice SA sn scap, .int .i64 (k : Nat), .bool bb, .agg #[.slice A2 n2 cap2], .int .i64 fig] w fun e w' => e = .returned (.bool true) ∧ Below w.heap.size w w' := by
  obtain ⟨i26, hi, hz0, hz1', hz2'⟩ := info_parts info26
  have hn : n ≤ maxLen := Nat.le_trans hcap hcm
  have hnS : sn ≤ maxLen := Nat.le_trans hsn hscm
  have hnM : n2 ≤ maxLen := Nat.le_trans hc21 hc22
  have h2 : Wn * Hn ≤ 256 := Nat.mul_le_mul hW hH
  have h2i : (Wn : Int) * Hn ≤ 256 := by exact_mod_cast h2
  have h2j : (0 : Int) ≤ (Wn : Int) * Hn := Int.mul_nonneg (by omega) (by omega)
  have hmw := i64_ok ((Wn : Int) * Hn) (by omega)
  have hkk2 : ((k : Nat) : Int) < (Wn : Int) * Hn := by exact_mod_cast hkk
  have z1 : ¬ ((k : Nat) : Int) < 0 := by omega
  have z2 : ¬ (Wn : Int) * Hn ≤ (k : Nat) := by omega
  have z3 : ¬ (6 : Int) ≤ n := by omega
  have z4 : ¬ fig < 0 := by omega
  have z5 : ¬ (n : Int) ≤ fig := by omega
  have y1' : ¬ a < 0 := by omega
  have y2' : ¬ b < 0 := by omega
  have y3' : ¬ a < b := by omega
  clear h2i h2j hkk2
  go_enter Tryz.func19, Tryz.ntmps19
  go_upto_region 1 with (fail)
  have hS := blk3_0 w (.cells #[.int .i64 nl, .int .i64 nh, .int .i64 xl, .int .i64 xh, .int .i64 y] 71) (.cells #[.slice A2 n2 cap2] 26) 23 #[.int .i64 Wn, .int .i64 Hn, .int .i64 F, .int .i64 L, .int .i64 X, .int .i64 Y]
  have hQ := blk3_1 w (.cells #[.int .i64 Wn, .int .i64 Hn, .int .i64 F, .int .i64 L, .int .i64 X, .int .i64 Y] 23) (.cells #[.slice A2 n2 cap2] 26) 71 #[.int .i64 nl, .int .i64 nh, .int .i64 xl, .int .i64 xh, .int .i64 y]
  have hM := blk3_2 w (.cells #[.int .i64 Wn, .int .i64 Hn, .int .i64 F, .int .i64 L, .int .i64 X, .int .i64 Y] 23) (.cells #[.int .i64 nl, .int .i64 nh, .int .i64 xl, .int .i64 xh, .int .i64 y] 71) 26 #[.slice A2 n2 cap2]
  have hB := pro_3 w (.cells #[.int .i64 Wn, .int .i64 Hn, .int .i64 F, .int .i64 L, .int .i64 X, .int .i64 Y] 23) (.cells #[.int .i64 nl, .int .i64 nh, .int .i64 xl, .int .i64 xh, .int .i64 y] 71) (.cells #[.slice A2 n2 cap2] 26)
  generalize ((w.alloc (.cells #[.int .i64 Wn, .int .i64 Hn, .int .i64 F, .int .i64 L, .int .i64 X, .int .i64 Y] 23)).alloc (.cells #[.int .i64 nl, .int .i64 nh, .int .i64 xl, .int .i64 xh, .int .i64 y] 71)).alloc (.cells #[.slice A2 n2 cap2] 26) = W0 at *
  have qhS := fun i => Blk.cell hS i
  have qhQ := fun i => Blk.cell hQ i
  have qhM := fun i => Blk.cell hM i
  have k39 : ∀ p : Blw W0.heap.size W0, Calls Tryz.prog 39 #[.slice A n cap] p.to fun e w' => e = .returned (.bool true) ∧ p.to = w' := fun p => by have h := few_any A n cap fs p.to hn (fun f h => ((hf f h).below (hB.trans (p.h.mono hB.size))).more (Nat.le_trans hB.size p.h.size)) (rdB hr (hB.trans (p.h.mono hB.size))); rw [hfw] at h; exact h
  have k23 : ∀ p : Blw W0.heap.size W0, Calls Tryz.prog 23 #[.slice SA sn scap] p.to fun e w' => e = .returned (.bool true) ∧ p.to = w' := fun p => by have h := short_any SA sn scap rs p.to hnS hss (rdB hsr (hB.trans (p.h.mono hB.size))); rw [hsh] at h; exact h
  have k23b : ∀ p : Blw W0.heap.size W0, Calls Tryz.prog 23 #[.slice A2 n2 cap2] p.to fun e w' => e = .returned (.bool true) ∧ p.to = w' := fun p => by have h := short_any A2 n2 cap2 rows2 p.to hnM hs2 (rdB hR2 (hB.trans (p.h.mono hB.size))); rw [hsh2] at h; exact h
  have k27 : ∀ p : Blw W0.heap.size W0, Calls Tryz.prog 27 #[.agg #[.int .i64 Wn, .int .i64 Hn, .int .i64 F, .int .i64 L, .int .i64 X, .int .i64 Y]] p.to fun e w' => e = .returned (.bool true) ∧ Below p.to.heap.size p.to w' := fun p => by have h := Stage_any Wn Hn F L X Y p.to; rw [hst] at h; exact h
  have k55 : ∀ p : Blw W0.heap.size W0, Calls Tryz.prog 55 #[.agg #[.int .i64 Wn, .int .i64 Hn, .int .i64 F, .int .i64 L, .int .i64 X, .int .i64 Y], .slice SA sn scap] p.to fun e w' => e = .returned (.bool true) ∧ Below p.to.heap.size p.to w' := fun p => by have h := refSight_any Wn Hn F L X Y SA sn scap rs p.to hnS hss (rdB hsr (hB.trans (p.h.mono hB.size))); rw [hsg] at h; exact h
  have k54 : ∀ p : Blw W0.heap.size W0, Calls Tryz.prog 54 #[.agg #[.int .i64 Wn, .int .i64 Hn, .int .i64 F, .int .i64 L, .int .i64 X, .int .i64 Y], .slice A n cap, .agg #[.int .i64 nl, .int .i64 nh, .int .i64 xl, .int .i64 xh, .int .i64 y], .bool true] p.to fun e w' => e = .returned (.int .i64 0) ∧ Below p.to.heap.size p.to w' := fun p => by have h := asked_any Wn Hn F L X Y nl nh xl xh y A n cap fs true p.to hn (fun f h => ((hf f h).below (hB.trans (p.h.mono hB.size))).more (Nat.le_trans hB.size p.h.size)) (rdB hr (hB.trans (p.h.mono hB.size))); rw [hak] at h; exact h
  have k28 : ∀ p : Blw W0.heap.size W0, Calls Tryz.prog 28 #[.agg #[.slice A2 n2 cap2]] p.to fun e w' => e = .returned (.bool true) ∧ Below p.to.heap.size p.to w' := fun p => by have h := refFigure_any A2 n2 cap2 rows2 p.to hnM hs2 (rdB hR2 (hB.trans (p.h.mono hB.size))); rw [hfg] at h; exact h
  have hbS := fun p i => blw_blk hS p i
  have hbQ := fun p i => blw_blk hQ p i
  have hbM := fun p i => blw_blk hM p i
  refine wp_region_blw (by kernel_rfl) (by kernel_rfl) ?_
  repeat (go_big_quiet_step (first | (go_at_call 39; exact Calls.blw_of_same _ (k39 _)) | (go_at_call_of 23 (Value.slice A2 n2 cap2); exact Calls.blw_of_same _ (k23b _)) | (go_at_call_of 23 (Value.slice SA sn scap); exact Calls.blw_of_same _ (k23 _)) | (go_at_call 27; exact Calls.blw_of _ (k27 _)) | (go_at_call 55; exact Calls.blw_of _ (k55 _)) | (go_at_call 54; exact Calls.blw_of _ (k54 _)) | (go_at_call 28; exact Calls.blw_of _ (k28 _))))
  refine wpQuiet_nil ?_
  rintro W3 ⟨⟨_, hb⟩, rfl⟩
  clear qhS qhQ qhM hbS hbQ hbM k39 k23 k23b k27 k55 k54 k28
  replace hS := hS.below hb hS.lt; replace hQ := hQ.below hb hQ.lt; replace hM := hM.below hb hM.lt; replace hB := hB.trans (hb.mono hB.size); clear hb; have qhS := fun i => Blk.cell hS i; have qhQ := fun i => Blk.cell hQ i; have qhM := fun i => Blk.cell hM i
  clear hfw hsh hsh2 hst hsg hak hfg z1 z2 z3 z4 z5
  go_upto_region 4 with (fail)
  cases bb
  case' false => replace HB46 := Lib.hid (HB46.out rfl)
  case' true => replace HB35 := Lib.hid (HB35.out rfl)
  case false =>
    go_upto_region 6 with (fail)
    go_upto_region 7 with ((go_at_call 65; refine (lawSeen_any Wn Hn F L X Y nl nh xl xh y A n cap fs SA sn scap rs _ hcap hcm (fun f h => ((hf f h).below hB).more hB.size) (rdB hr hB) hsn hscm hss (rdB hsr hB)).mono ?_; rintro e w1 ⟨rfl, hb⟩; rw [HA.out]; (try replace hS := hS.below hb hS.lt); (try replace hQ := hQ.below hb hQ.lt); (try replace hM := hM.below hb hM.lt); replace hB := hB.trans (hb.mono hB.size); (try clear qhS); (try clear qhQ); (try clear qhM); clear hb; (try have qhS := fun i => Blk.cell hS i); (try have qhQ := fun i => Blk.cell hQ i); (try have qhM := fun i => Blk.cell hM i)))
    clear HA
    go_upto_region 8 with ((go_at_call 66; refine (Cell_any Wn Hn F L X Y SA sn scap rs row k 63 _ hW1 (by omega) (by omega) hz hcz (by omega) (rdB hsr hB)).mono ?_; rintro e w1 ⟨rfl, hb⟩; (try replace hS := hS.below hb hS.lt); (try replace hQ := hQ.below hb hQ.lt); (try replace hM := hM.below hb hM.lt); replace hB := hB.trans (hb.mono hB.size); (try clear qhS); (try clear qhQ); (try clear qhM); clear hb; (try have qhS := fun i => Blk.cell hS i); (try have qhQ := fun i => Blk.cell hQ i); (try have qhM := fun i => Blk.cell hM i)))
    rename World => WR
    refine wp_region_G (fun w' => Below WR.drew.heap.size WR.drew w') 9 (by kernel_rfl) ?_
    replace hS := hS.drew
    replace hQ := hQ.drew
    replace hM := hM.drew
    replace hB := hB.drew
    (try clear qhS qhQ qhM)
    generalize WR.drew = WD at *
    have hTT : Below WD.heap.size WD WD := Below.refl _ _
    refine wpG_take (i := 0) (v := ?vy1_0) rfl (by kernel_rfl) (by kernel_rfl) (by kernel_rfl) (by kernel_rfl) (fun _ _ _ h => h) (Or.inl ⟨by rfl, ?hyy1_0⟩) hTT ?resty1_0
    case hyy1_0 => intro wq hSw; have qhS := fun i => (Blk.below hS hSw hS.lt).cell i; have qhQ := fun i => (Blk.below hQ hSw hQ.lt).cell i; have qhM := fun i => (Blk.below hM hSw hM.lt).cell i; go_simp <;> with_reducible rfl
    simp only [List.getElem_toArray, List.getElem_cons_zero, List.getElem_cons_succ, Act.put, List.setIfInBounds_toArray, List.set_cons_zero, List.set_cons_succ]
    refine wpG_take (i := 1) (v := ?vy1_1) rfl (by kernel_rfl) (by kernel_rfl) (by kernel_rfl) (by kernel_rfl) (fun _ _ _ h => h) (Or.inl ⟨by rfl, ?hyy1_1⟩) hTT ?resty1_1
    case hyy1_1 => intro wq hSw; have qhS := fun i => (Blk.below hS hSw hS.lt).cell i; have qhQ := fun i => (Blk.below hQ hSw hQ.lt).cell i; have qhM := fun i => (Blk.below hM hSw hM.lt).cell i; go_simp <;> with_reducible rfl
    simp only [List.getElem_toArray, List.getElem_cons_zero, List.getElem_cons_succ, Act.put, List.setIfInBounds_toArray, List.set_cons_zero, List.set_cons_succ]
    refine wpG_take (i := 2) (v := ?vy1_2) rfl (by kernel_rfl) (by kernel_rfl) (by kernel_rfl) (by kernel_rfl) (fun _ _ _ h => h) (Or.inl ⟨by rfl, ?hyy1_2⟩) hTT ?resty1_2
    case hyy1_2 => intro wq hSw; have qhS := fun i => (Blk.below hS hSw hS.lt).cell i; have qhQ := fun i => (Blk.below hQ hSw hQ.lt).cell i; have qhM := fun i => (Blk.below hM hSw hM.lt).cell i; go_simp <;> with_reducible rfl
    simp only [List.getElem_toArray, List.getElem_cons_zero, List.getElem_cons_succ, Act.put, List.setIfInBounds_toArray, List.set_cons_zero, List.set_cons_succ]
    refine wpG_take (i := 3) (v := ?vy1_3) rfl (by kernel_rfl) (by kernel_rfl) (by kernel_rfl) (by kernel_rfl) (fun _ _ _ h => h) (Or.inl ⟨by rfl, ?hyy1_3⟩) hTT ?resty1_3
    case hyy1_3 => intro wq hSw; have qhS := fun i => (Blk.below hS hSw hS.lt).cell i; have qhQ := fun i => (Blk.below hQ hSw hQ.lt).cell i; have qhM := fun i => (Blk.below hM hSw hM.lt).cell i; go_simp <;> with_reducible rfl
    simp only [List.getElem_toArray, List.getElem_cons_zero, List.getElem_cons_succ, Act.put, List.setIfInBounds_toArray, List.set_cons_zero, List.set_cons_succ]
    refine wpG_take (i := 4) (v := ?vy1_4) rfl (by kernel_rfl) (by kernel_rfl) (by kernel_rfl) (by kernel_rfl) (fun _ _ _ h => h) (Or.inl ⟨by rfl, ?hyy1_4⟩) hTT ?resty1_4
    case hyy1_4 => intro wq hSw; have qhS := fun i => (Blk.below hS hSw hS.lt).cell i; have qhQ := fun i => (Blk.below hQ hSw hQ.lt).cell i; have qhM := fun i => (Blk.below hM hSw hM.lt).cell i; go_simp <;> with_reducible rfl
    simp only [List.getElem_toArray, List.getElem_cons_zero, List.getElem_cons_succ, Act.put, List.setIfInBounds_toArray, List.set_cons_zero, List.set_cons_succ]
    refine wpG_take (i := 5) (v := ?vy1_5) rfl (by kernel_rfl) (by kernel_rfl) (by kernel_rfl) (by kernel_rfl) (fun _ _ _ h => h) (Or.inl ⟨by rfl, ?hyy1_5⟩) hTT ?resty1_5
    case hyy1_5 => intro wq hSw; have qhS := fun i => (Blk.below hS hSw hS.lt).cell i; have qhQ := fun i => (Blk.below hQ hSw hQ.lt).cell i; have qhM := fun i => (Blk.below hM hSw hM.lt).cell i; go_simp <;> with_reducible rfl
    simp only [List.getElem_toArray, List.getElem_cons_zero, List.getElem_cons_succ, Act.put, List.setIfInBounds_toArray, List.set_cons_zero, List.set_cons_succ]
    refine wpG_take (i := 6) (v := ?vy1_6) rfl (by kernel_rfl) (by kernel_rfl) (by kernel_rfl) (by kernel_rfl) (fun _ _ _ h => h) (Or.inl ⟨by rfl, ?hyy1_6⟩) hTT ?resty1_6
    case hyy1_6 => intro wq hSw; have qhS := fun i => (Blk.below hS hSw hS.lt).cell i; have qhQ := fun i => (Blk.below hQ hSw hQ.lt).cell i; have qhM := fun i => (Blk.below hM hSw hM.lt).cell i; go_simp <;> with_reducible rfl
    simp only [List.getElem_toArray, List.getElem_cons_zero, List.getElem_cons_succ, Act.put, List.setIfInBounds_toArray, List.set_cons_zero, List.set_cons_succ]
    refine wpG_one (i := 7) rfl (by kernel_rfl) (fun K hK => ?_)
    go_simp
    refine (refSeen_any Wn Hn F L X Y SA sn scap rs row k 46 _ hW1 (by omega) (by omega) hsn3 hz hrz (by decide) (rdB hsr hB)).mono ?_
    rintro e w1 ⟨vv, rfl, own, hb⟩
    obtain ⟨pA, pC, rfl⟩ := own_slice own
    have p1 := own_le0 own
    have p2 := own_cap own
    have pR := Rd.of_own own
    replace hTT := hTT.trans (hb.mono hTT.size)
    replace hS := hS.below hb hS.lt
    replace hQ := hQ.below hb hQ.lt
    replace hM := hM.below hb hM.lt
    replace hB := hB.trans (hb.mono hB.size)
    clear own hb
    dsimp only
    refine hK _ _ (.inr hTT) ?_
    clear hK K
    try simp only [List.getElem_toArray, List.getElem_cons_zero, List.getElem_cons_succ, Act.put, List.setIfInBounds_toArray, List.set_cons_zero, List.set_cons_succ]
    refine wpG_one (i := 8) rfl (by kernel_rfl) (fun K hK => ?_)
    go_simp
    refine (lawSeen_any Wn Hn F L X Y nl nh xl xh y A n cap fs pA sn pC (rs.set (k / Wn) (seenRow row 46 (k % Wn))) _ hcap hcm (fun f h => ((hf f h).below hB).more hB.size) (rdB hr hB) p1 p2 h46 pR).mono ?_
    rintro e w1 ⟨rfl, hb⟩
    rw [HB46.out]
    replace hTT := hTT.trans (hb.mono hTT.size)
    replace hS := hS.below hb hS.lt
    replace hQ := hQ.below hb hQ.lt
    replace hM := hM.below hb hM.lt
    replace hB := hB.trans (hb.mono hB.size)
    clear hb pR
    dsimp only
    refine hK _ _ (.inr hTT) ?_
    clear hK K
    try simp only [List.getElem_toArray, List.getElem_cons_zero, List.getElem_cons_succ, Act.put, List.setIfInBounds_toArray, List.set_cons_zero, List.set_cons_succ]
    refine wpG_one (i := 9) rfl (by kernel_rfl) (fun K hK => ?_)
    go_simp
    refine hK _ _ (.inl rfl) ?_
    clear hK K
    try simp only [List.getElem_toArray, List.getElem_cons_zero, List.getElem_cons_succ, Act.put, List.setIfInBounds_toArray, List.set_cons_zero, List.set_cons_succ]
    refine wpG_done (by kernel_rfl) ?_ _
    clear hTT
    have qhS := fun i => Blk.cell hS i
    have qhQ := fun i => Blk.cell hQ i
    have qhM := fun i => Blk.cell hM i
    clear hcz hz HB35 HB46 h35 h46
    go_upto_region 9 with (fail)
    rename World => WR
    refine wp_region_G (fun w' => Below WR.drew.heap.size WR.drew w') 5 (by kernel_rfl) ?_
    replace hS := hS.drew
    replace hQ := hQ.drew
    replace hM := hM.drew
    replace hB := hB.drew
    clear qhS qhQ qhM
    generalize WR.drew = WD at *
    have hTT : Below WD.heap.size WD WD := Below.refl _ _
    have hrW := rdB hr hB
    have hMl := hM.lt
    refine wpG_take (i := 0) (v := ?vx3_0) rfl (by kernel_rfl) (by kernel_rfl) (by kernel_rfl) (by kernel_rfl) (fun _ _ _ h => h) (Or.inl ⟨by rfl, ?hyx3_0⟩) hTT ?restx3_0
    case hyx3_0 => intro wq hSw; have qhS := fun i => (Blk.below hS hSw hS.lt).cell i; have qhQ := fun i => (Blk.below hQ hSw hQ.lt).cell i; have qhM := fun i => (Blk.below hM hSw hM.lt).cell i; go_simp <;> with_reducible rfl
    simp only [List.getElem_toArray, List.getElem_cons_zero, List.getElem_cons_succ, Act.put, List.setIfInBounds_toArray, List.set_cons_zero, List.set_cons_succ]
    refine wpG_take (i := 2) (v := ?vx3_2) rfl (by kernel_rfl) (by kernel_rfl) (by kernel_rfl) (by kernel_rfl) (fun _ _ _ h => h) (Or.inl ⟨by rfl, ?hyx3_2⟩) hTT ?restx3_2
    case hyx3_2 => intro wq hSw; have qhS := fun i => (Blk.below hS hSw hS.lt).cell i; have qhQ := fun i => (Blk.below hQ hSw hQ.lt).cell i; have qhM := fun i => (Blk.below hM hSw hM.lt).cell i; go_simp <;> with_reducible rfl
    simp only [List.getElem_toArray, List.getElem_cons_zero, List.getElem_cons_succ, Act.put, List.setIfInBounds_toArray, List.set_cons_zero, List.set_cons_succ]
    have hBs := hB.size
    have hWs : ∀ o : Obj, (WD.alloc o).heap.size = WD.heap.size + 1 := fun o => by simp
    refine wpG_two (i := 1) (j := 3) rfl rfl (by kernel_rfl) (fun K hK => ?_) (fun K hK => ?_)
    · rw [if_pos (by rfl)]; refine wp_append_any _ _ _ 51 rfl WD.heap.size 26 i26 (.agg #[.slice none 0 0]) 1 24 Tryz.underlying51 hi hz0 hz1' hz2' rfl (by decide) _ 0 [] rfl (World.ownsRow_nil _ _ _ _) WD.heap.size A n cap (fs.map Fig.val) rfl hrW.reads (by simp [Value.oneCell', Fig.val]) (by unfold maxLen; omega) (by omega) (Nat.le_refl _) (fun v' w1 hown hgrow hob => ?_)
      rw [Nat.zero_add, List.nil_append] at hown
      replace hS := hS.grown hgrow (fun e => by cases e)
      replace hQ := hQ.grown hgrow (fun e => by cases e)
      replace hM := hM.grown hgrow (fun e => by cases e)
      replace hTT := hTT.grown hgrow hTT.size (fun z hz => by cases hz)
      replace hB := hB.grown hgrow hB.size (fun z hz => by cases hz)
      refine hK _ _ (.inr hTT) ?_
      clear hK K
      try simp only [List.getElem_toArray, List.getElem_cons_zero, List.getElem_cons_succ, Act.put, List.setIfInBounds_toArray, List.set_cons_zero, List.set_cons_succ]
      refine wpG_one (i := 3) rfl (by kernel_rfl) (fun K hK => ?_)
      go_simp
      obtain ⟨gM, hgM⟩ : ∃ g, g = w1.heap.size := ⟨_, rfl⟩
      have hbm : Blk (w1.alloc (.cells #[.slice A2 n2 cap2] 26)) gM 26 #[.slice A2 n2 cap2] := by rw [hgM]; exact Blk.new w1 26 #[.slice A2 n2 cap2]
      rw [← hgM]
      replace hown := hown.alloc (.cells #[.slice A2 n2 cap2] 26)
      replace hTT := hTT.alloc hTT.size (.cells #[.slice A2 n2 cap2] 26)
      replace hS := hS.alloc (.cells #[.slice A2 n2 cap2] 26)
      replace hQ := hQ.alloc (.cells #[.slice A2 n2 cap2] 26)
      replace hM := hM.alloc (.cells #[.slice A2 n2 cap2] 26)
      replace hB := hB.alloc hB.size (.cells #[.slice A2 n2 cap2] 26)
      refine hK _ _ (.inr hTT) ?_
      clear hK K
      try simp only [List.getElem_toArray, List.getElem_cons_zero, List.getElem_cons_succ, Act.put, List.setIfInBounds_toArray, List.set_cons_zero, List.set_cons_succ]
      refine wpG_one (i := 4) rfl (by kernel_rfl) (fun K hK => ?_)
      obtain ⟨oA, oC, rfl⟩ := own_slice hown
      rw [if_pos (by rfl)]; refine wp_append_any _ _ _ 51 rfl WD.heap.size 26 i26 (.agg #[.slice none 0 0]) 1 24 Tryz.underlying51 hi hz0 hz1' hz2' rfl (by decide) _ n (fs.map Fig.val) rfl hown _ (some ⟨gM, 0, none⟩) 1 1 [.slice A2 n2 cap2] rfl (Rd.blkN hbm rfl hbm.lt).reads (by simp [Value.oneCell']) (by unfold maxLen; omega) (by omega) (by have := hTT.size; simpa using this) (fun v2 w2 hown2 hgrow2 hob2 => ?_)
      replace hS := hS.kept_own hown (by decide) hgrow2
      replace hQ := hQ.kept_own hown (by decide) hgrow2
      replace hM := hM.grown hgrow2 (fun e => by have h1 := (hown.lt _ e.symm).1; omega)
      replace hTT := hTT.grown hgrow2 hTT.size (fun g hg => (hown.lt g hg).1)
      replace hB := hB.grown hgrow2 hB.size (fun g hg => Nat.le_trans hBs (hown.lt g hg).1)
      refine hK _ _ (.inr hTT) ?_
      clear hK K
      try simp only [List.getElem_toArray, List.getElem_cons_zero, List.getElem_cons_succ, Act.put, List.setIfInBounds_toArray, List.set_cons_zero, List.set_cons_succ]
      refine wpG_one (i := 5) rfl (by kernel_rfl) (fun K hK => ?_)
      go_simp
      refine hK _ _ (.inl rfl) ?_
      clear hK K
      try simp only [List.getElem_toArray, List.getElem_cons_zero, List.getElem_cons_succ, Act.put, List.setIfInBounds_toArray, List.set_cons_zero, List.set_cons_succ]
      refine wpG_done (by kernel_rfl) ?_ _
      obtain ⟨xA, xC, rfl⟩ := own_slice hown2
      have hx1 := own_le0 hown2
      have hx2 := own_cap hown2
      have hX := Rd.of_own hown2
      rw [show fs.map Fig.val ++ [Value.slice A2 n2 cap2] = (fs ++ [(⟨A2, n2, cap2, rows2⟩ : Fig)]).map Fig.val by rw [List.map_append]; rfl] at hX
      clear hown hown2 hbm hgrow2 hob2 hrW hMl hBs hgM hWs
      have qhS := fun i => Blk.cell hS i; have qhQ := fun i => Blk.cell hQ i; have qhM := fun i => Blk.cell hM i
      have hfX : ∀ f ∈ fs ++ [(⟨A2, n2, cap2, rows2⟩ : Fig)], f.ok w w.heap.size := fun f h => by
        rcases List.mem_append.1 h with h | h
        · exact hf f h
        · obtain rfl : f = (⟨A2, n2, cap2, rows2⟩ : Fig) := by simpa using h
          exact ⟨hc21, hc22, hs2, hR2⟩
      go_upto_region 10 with (fail)
      go_upto_region 11 with ((go_at_call 69; refine (Told_any Wn Hn F L X Y nl nh xl xh y A n cap fs fig _ hcap hcm (fun f h => ((hf f h).below hB).more hB.size) (rdB hr hB)).mono ?_; rintro e w1 ⟨v1, rfl, hIs, hb⟩; obtain ⟨tA, tn, tc, rfl, ht1, ht2, hT⟩ := hIs; rw [HT.out] at hT; rw [HE1.out]; (try replace hS := hS.below hb hS.lt); (try replace hQ := hQ.below hb hQ.lt); (try replace hM := hM.below hb hM.lt); (try replace hU := rdB hU hb); (try replace hX := rdB hX hb); replace hB := hB.trans (hb.mono hB.size); (try clear qhS); (try clear qhQ); (try clear qhM); clear hb; (try have qhS := fun i => Blk.cell hS i); (try have qhQ := fun i => Blk.cell hQ i); (try have qhM := fun i => Blk.cell hM i)))
      clear HT HE1
      go_upto_region 12 with ((go_at_call 69; refine (Told_any Wn Hn F L X Y nl nh xl xh y xA (n + 1) xC (fs ++ [(⟨A2, n2, cap2, rows2⟩ : Fig)]) fig _ hx1 hx2 (fun f h => ((hfX f h).below hB).more hB.size) hX).mono ?_; rintro e w1 ⟨v1, rfl, hIs, hb⟩; obtain ⟨uA, un, uc, rfl, hu1, hu2, hU⟩ := hIs; rw [HU.out] at hU; rw [HE2.out]; (try replace hS := hS.below hb hS.lt); (try replace hQ := hQ.below hb hQ.lt); (try replace hM := hM.below hb hM.lt); (try replace hT := rdB hT hb); (try replace hX := rdB hX hb); replace hB := hB.trans (hb.mono hB.size); (try clear qhS); (try clear qhQ); (try clear qhM); clear hb; (try have qhS := fun i => Blk.cell hS i); (try have qhQ := fun i => Blk.cell hQ i); (try have qhM := fun i => Blk.cell hM i)))
      clear HU HE2
      go_upto_region 13 with ((go_at_call 68; refine (Mistaken_any Wn Hn F L X Y nl nh xl xh y A n cap fs _ hcap hcm (fun f h => ((hf f h).below hB).more hB.size) (rdB hr hB)).mono ?_; rintro e w1 ⟨rfl, hb⟩; rw [HM1.out]; (try replace hS := hS.below hb hS.lt); (try replace hQ := hQ.below hb hQ.lt); (try replace hM := hM.below hb hM.lt); (try replace hT := rdB hT hb); (try replace hU := rdB hU hb); (try replace hX := rdB hX hb); replace hB := hB.trans (hb.mono hB.size); (try clear qhS); (try clear qhQ); (try clear qhM); clear hb; (try have qhS := fun i => Blk.cell hS i); (try have qhQ := fun i => Blk.cell hQ i); (try have qhM := fun i => Blk.cell hM i)))
      clear HM1
      go_upto_region 14 with ((go_at_call 68; refine (Mistaken_any Wn Hn F L X Y nl nh xl xh y xA (n + 1) xC (fs ++ [(⟨A2, n2, cap2, rows2⟩ : Fig)]) _ hx1 hx2 (fun f h => ((hfX f h).below hB).more hB.size) hX).mono ?_; rintro e w1 ⟨rfl, hb⟩; rw [HM2.out]; (try replace hS := hS.below hb hS.lt); (try replace hQ := hQ.below hb hQ.lt); (try replace hM := hM.below hb hM.lt); (try replace hT := rdB hT hb); (try replace hU := rdB hU hb); (try replace hX := rdB hX hb); replace hB := hB.trans (hb.mono hB.size); (try clear qhS); (try clear qhQ); (try clear qhM); clear hb; (try have qhS := fun i => Blk.cell hS i); (try have qhQ := fun i => Blk.cell hQ i); (try have qhM := fun i => Blk.cell hM i)))
      clear HM2
      have l1 := hT.len
      have l2 := hU.len
      have m1 : tn ≤ 6 := by omega
      have m2 : un ≤ 6 := by omega
      have m3 : ¬ (6 : Int) < tn := by omega
      have m4 : ¬ (6 : Int) < un := by omega
      clear l1 l2
      go_upto_region 16 with ((go_at_call 79; refine (withinL_any tA tn tc tl uA un uc ul _ (by omega) (by omega) hT hU).mono ?_; rintro e w1 ⟨rfl, rfl⟩; rw [HWI.out]))
      clear HWI
      rcases HG.out with ⟨rfl, rfl⟩ | ⟨rfl, rfl⟩ | ⟨rfl, rfl⟩
      all_goals
        as_aux_lemma =>
          clear HG
          go_wp2_with ((go_at_call 24; refine (known_true m _ (known_at hm hB)).mono ?_; rintro e w1 ⟨rfl, hb⟩; (try replace hS := hS.below hb hS.lt); (try replace hQ := hQ.below hb hQ.lt); (try replace hM := hM.below hb hM.lt); (try replace hT := rdB hT hb); (try replace hU := rdB hU hb); (try replace hX := rdB hX hb); replace hB := hB.trans (hb.mono hB.size); (try clear qhS); (try clear qhQ); (try clear qhM); clear hb; (try have qhS := fun i => Blk.cell hS i); (try have qhQ := fun i => Blk.cell hQ i); (try have qhM := fun i => Blk.cell hM i)))
          go_ret
          exact ⟨rfl, hB⟩
    · go_simp
      obtain ⟨gM, hgM⟩ : ∃ g, g = WD.heap.size := ⟨_, rfl⟩
      have hbm : Blk (WD.alloc (.cells #[.slice A2 n2 cap2] 26)) gM 26 #[.slice A2 n2 cap2] := by rw [hgM]; exact Blk.new WD 26 #[.slice A2 n2 cap2]
      rw [← hgM]
      replace hTT := hTT.alloc hTT.size (.cells #[.slice A2 n2 cap2] 26)
      replace hS := hS.alloc (.cells #[.slice A2 n2 cap2] 26)
      replace hQ := hQ.alloc (.cells #[.slice A2 n2 cap2] 26)
      replace hM := hM.alloc (.cells #[.slice A2 n2 cap2] 26)
      replace hB := hB.alloc hB.size (.cells #[.slice A2 n2 cap2] 26)
      refine hK _ _ (.inr hTT) ?_
      clear hK K
      try simp only [List.getElem_toArray, List.getElem_cons_zero, List.getElem_cons_succ, Act.put, List.setIfInBounds_toArray, List.set_cons_zero, List.set_cons_succ]
      refine wpG_one (i := 1) rfl (by kernel_rfl) (fun K hK => ?_)
      rw [if_pos (by rfl)]; refine wp_append_any _ _ _ 51 rfl WD.heap.size 26 i26 (.agg #[.slice none 0 0]) 1 24 Tryz.underlying51 hi hz0 hz1' hz2' rfl (by decide) _ 0 [] rfl (World.ownsRow_nil _ _ _ _) _ A n cap (fs.map Fig.val) rfl (rdB hr hB).reads (by simp [Value.oneCell', Fig.val]) (by unfold maxLen; omega) (by omega) (by simp) (fun v' w1 hown hgrow hob => ?_)
      replace hbm := hbm.grown hgrow (fun e => by cases e)
      rw [Nat.zero_add, List.nil_append] at hown
      replace hS := hS.grown hgrow (fun e => by cases e)
      replace hQ := hQ.grown hgrow (fun e => by cases e)
      replace hM := hM.grown hgrow (fun e => by cases e)
      replace hTT := hTT.grown hgrow hTT.size (fun z hz => by cases hz)
      replace hB := hB.grown hgrow hB.size (fun z hz => by cases hz)
      refine hK _ _ (.inr hTT) ?_
      clear hK K
      try simp only [List.getElem_toArray, List.getElem_cons_zero, List.getElem_cons_succ, Act.put, List.setIfInBounds_toArray, List.set_cons_zero, List.set_cons_succ]
      refine wpG_one (i := 4) rfl (by kernel_rfl) (fun K hK => ?_)
      obtain ⟨oA, oC, rfl⟩ := own_slice hown
      rw [if_pos (by rfl)]; refine wp_append_any _ _ _ 51 rfl WD.heap.size 26 i26 (.agg #[.slice none 0 0]) 1 24 Tryz.underlying51 hi hz0 hz1' hz2' rfl (by decide) _ n (fs.map Fig.val) rfl hown _ (some ⟨gM, 0, none⟩) 1 1 [.slice A2 n2 cap2] rfl (Rd.blkN hbm rfl hbm.lt).reads (by simp [Value.oneCell']) (by unfold maxLen; omega) (by omega) (by have := hTT.size; simpa using this) (fun v2 w2 hown2 hgrow2 hob2 => ?_)
      replace hS := hS.kept_own hown (by decide) hgrow2
      replace hQ := hQ.kept_own hown (by decide) hgrow2
      replace hM := hM.grown hgrow2 (fun e => by have h1 := (hown.lt _ e.symm).1; omega)
      replace hTT := hTT.grown hgrow2 hTT.size (fun g hg => (hown.lt g hg).1)
      replace hB := hB.grown hgrow2 hB.size (fun g hg => Nat.le_trans hBs (hown.lt g hg).1)
      refine hK _ _ (.inr hTT) ?_
      clear hK K
      try simp only [List.getElem_toArray, List.getElem_cons_zero, List.getElem_cons_succ, Act.put, List.setIfInBounds_toArray, List.set_cons_zero, List.set_cons_succ]
      refine wpG_one (i := 5) rfl (by kernel_rfl) (fun K hK => ?_)
      go_simp
      refine hK _ _ (.inl rfl) ?_
      clear hK K
      try simp only [List.getElem_toArray, List.getElem_cons_zero, List.getElem_cons_succ, Act.put, List.setIfInBounds_toArray, List.set_cons_zero, List.set_cons_succ]
      refine wpG_done (by kernel_rfl) ?_ _
      obtain ⟨xA, xC, rfl⟩ := own_slice hown2
      have hx1 := own_le0 hown2
      have hx2 := own_cap hown2
      have hX := Rd.of_own hown2
      rw [show fs.map Fig.val ++ [Value.slice A2 n2 cap2] = (fs ++ [(⟨A2, n2, cap2, rows2⟩ : Fig)]).map Fig.val by rw [List.map_append]; rfl] at hX
      clear hown hown2 hbm hgrow2 hob2 hrW hMl hBs hgM hWs
      have qhS := fun i => Blk.cell hS i; have qhQ := fun i => Blk.cell hQ i; have qhM := fun i => Blk.cell hM i
      have hfX : ∀ f ∈ fs ++ [(⟨A2, n2, cap2, rows2⟩ : Fig)], f.ok w w.heap.size := fun f h => by
        rcases List.mem_append.1 h with h | h
        · exact hf f h
        · obtain rfl : f = (⟨A2, n2, cap2, rows2⟩ : Fig) := by simpa using h
          exact ⟨hc21, hc22, hs2, hR2⟩
      go_upto_region 10 with (fail)
      go_upto_region 11 with ((go_at_call 69; refine (Told_any Wn Hn F L X Y nl nh xl xh y A n cap fs fig _ hcap hcm (fun f h => ((hf f h).below hB).more hB.size) (rdB hr hB)).mono ?_; rintro e w1 ⟨v1, rfl, hIs, hb⟩; obtain ⟨tA, tn, tc, rfl, ht1, ht2, hT⟩ := hIs; rw [HT.out] at hT; rw [HE1.out]; (try replace hS := hS.below hb hS.lt); (try replace hQ := hQ.below hb hQ.lt); (try replace hM := hM.below hb hM.lt); (try replace hU := rdB hU hb); (try replace hX := rdB hX hb); replace hB := hB.trans (hb.mono hB.size); (try clear qhS); (try clear qhQ); (try clear qhM); clear hb; (try have qhS := fun i => Blk.cell hS i); (try have qhQ := fun i => Blk.cell hQ i); (try have qhM := fun i => Blk.cell hM i)))
      clear HT HE1
      go_upto_region 12 with ((go_at_call 69; refine (Told_any Wn Hn F L X Y nl nh xl xh y xA (n + 1) xC (fs ++ [(⟨A2, n2, cap2, rows2⟩ : Fig)]) fig _ hx1 hx2 (fun f h => ((hfX f h).below hB).more hB.size) hX).mono ?_; rintro e w1 ⟨v1, rfl, hIs, hb⟩; obtain ⟨uA, un, uc, rfl, hu1, hu2, hU⟩ := hIs; rw [HU.out] at hU; rw [HE2.out]; (try replace hS := hS.below hb hS.lt); (try replace hQ := hQ.below hb hQ.lt); (try replace hM := hM.below hb hM.lt); (try replace hT := rdB hT hb); (try replace hX := rdB hX hb); replace hB := hB.trans (hb.mono hB.size); (try clear qhS); (try clear qhQ); (try clear qhM); clear hb; (try have qhS := fun i => Blk.cell hS i); (try have qhQ := fun i => Blk.cell hQ i); (try have qhM := fun i => Blk.cell hM i)))
      clear HU HE2
      go_upto_region 13 with ((go_at_call 68; refine (Mistaken_any Wn Hn F L X Y nl nh xl xh y A n cap fs _ hcap hcm (fun f h => ((hf f h).below hB).more hB.size) (rdB hr hB)).mono ?_; rintro e w1 ⟨rfl, hb⟩; rw [HM1.out]; (try replace hS := hS.below hb hS.lt); (try replace hQ := hQ.below hb hQ.lt); (try replace hM := hM.below hb hM.lt); (try replace hT := rdB hT hb); (try replace hU := rdB hU hb); (try replace hX := rdB hX hb); replace hB := hB.trans (hb.mono hB.size); (try clear qhS); (try clear qhQ); (try clear qhM); clear hb; (try have qhS := fun i => Blk.cell hS i); (try have qhQ := fun i => Blk.cell hQ i); (try have qhM := fun i => Blk.cell hM i)))
      clear HM1
      go_upto_region 14 with ((go_at_call 68; refine (Mistaken_any Wn Hn F L X Y nl nh xl xh y xA (n + 1) xC (fs ++ [(⟨A2, n2, cap2, rows2⟩ : Fig)]) _ hx1 hx2 (fun f h => ((hfX f h).below hB).more hB.size) hX).mono ?_; rintro e w1 ⟨rfl, hb⟩; rw [HM2.out]; (try replace hS := hS.below hb hS.lt); (try replace hQ := hQ.below hb hQ.lt); (try replace hM := hM.below hb hM.lt); (try replace hT := rdB hT hb); (try replace hU := rdB hU hb); (try replace hX := rdB hX hb); replace hB := hB.trans (hb.mono hB.size); (try clear qhS); (try clear qhQ); (try clear qhM); clear hb; (try have qhS := fun i => Blk.cell hS i); (try have qhQ := fun i => Blk.cell hQ i); (try have qhM := fun i => Blk.cell hM i)))
      clear HM2
      have l1 := hT.len
      have l2 := hU.len
      have m1 : tn ≤ 6 := by omega
      have m2 : un ≤ 6 := by omega
      have m3 : ¬ (6 : Int) < tn := by omega
      have m4 : ¬ (6 : Int) < un := by omega
      clear l1 l2
      go_upto_region 16 with ((go_at_call 79; refine (withinL_any tA tn tc tl uA un uc ul _ (by omega) (by omega) hT hU).mono ?_; rintro e w1 ⟨rfl, rfl⟩; rw [HWI.out]))
      clear HWI
      rcases HG.out with ⟨rfl, rfl⟩ | ⟨rfl, rfl⟩ | ⟨rfl, rfl⟩
      all_goals
        as_aux_lemma =>
          clear HG
          go_wp2_with ((go_at_call 24; refine (known_true m _ (known_at hm hB)).mono ?_; rintro e w1 ⟨rfl, hb⟩; (try replace hS := hS.below hb hS.lt); (try replace hQ := hQ.below hb hQ.lt); (try replace hM := hM.below hb hM.lt); (try replace hT := rdB hT hb); (try replace hU := rdB hU hb); (try replace hX := rdB hX hb); replace hB := hB.trans (hb.mono hB.size); (try clear qhS); (try clear qhQ); (try clear qhM); clear hb; (try have qhS := fun i => Blk.cell hS i); (try have qhQ := fun i => Blk.cell hQ i); (try have qhM := fun i => Blk.cell hM i)))
          go_ret
          exact ⟨rfl, hB⟩
  case true =>
    go_upto_region 6 with (fail)
    go_upto_region 7 with ((go_at_call 65; refine (lawSeen_any Wn Hn F L X Y nl nh xl xh y A n cap fs SA sn scap rs _ hcap hcm (fun f h => ((hf f h).below hB).more hB.size) (rdB hr hB) hsn hscm hss (rdB hsr hB)).mono ?_; rintro e w1 ⟨rfl, hb⟩; rw [HA.out]; (try replace hS := hS.below hb hS.lt); (try replace hQ := hQ.below hb hQ.lt); (try replace hM := hM.below hb hM.lt); replace hB := hB.trans (hb.mono hB.size); (try clear qhS); (try clear qhQ); (try clear qhM); clear hb; (try have qhS := fun i => Blk.cell hS i); (try have qhQ := fun i => Blk.cell hQ i); (try have qhM := fun i => Blk.cell hM i)))
    clear HA
    go_upto_region 8 with ((go_at_call 66; refine (Cell_any Wn Hn F L X Y SA sn scap rs row k 63 _ hW1 (by omega) (by omega) hz hcz (by omega) (rdB hsr hB)).mono ?_; rintro e w1 ⟨rfl, hb⟩; (try replace hS := hS.below hb hS.lt); (try replace hQ := hQ.below hb hQ.lt); (try replace hM := hM.below hb hM.lt); replace hB := hB.trans (hb.mono hB.size); (try clear qhS); (try clear qhQ); (try clear qhM); clear hb; (try have qhS := fun i => Blk.cell hS i); (try have qhQ := fun i => Blk.cell hQ i); (try have qhM := fun i => Blk.cell hM i)))
    rename World => WR
    refine wp_region_G (fun w' => Below WR.drew.heap.size WR.drew w') 9 (by kernel_rfl) ?_
    replace hS := hS.drew
    replace hQ := hQ.drew
    replace hM := hM.drew
    replace hB := hB.drew
    (try clear qhS qhQ qhM)
    generalize WR.drew = WD at *
    have hTT : Below WD.heap.size WD WD := Below.refl _ _
    refine wpG_take (i := 0) (v := ?vy2_0) rfl (by kernel_rfl) (by kernel_rfl) (by kernel_rfl) (by kernel_rfl) (fun _ _ _ h => h) (Or.inl ⟨by rfl, ?hyy2_0⟩) hTT ?resty2_0
    case hyy2_0 => intro wq hSw; have qhS := fun i => (Blk.below hS hSw hS.lt).cell i; have qhQ := fun i => (Blk.below hQ hSw hQ.lt).cell i; have qhM := fun i => (Blk.below hM hSw hM.lt).cell i; go_simp <;> with_reducible rfl
    simp only [List.getElem_toArray, List.getElem_cons_zero, List.getElem_cons_succ, Act.put, List.setIfInBounds_toArray, List.set_cons_zero, List.set_cons_succ]
    refine wpG_take (i := 1) (v := ?vy2_1) rfl (by kernel_rfl) (by kernel_rfl) (by kernel_rfl) (by kernel_rfl) (fun _ _ _ h => h) (Or.inl ⟨by rfl, ?hyy2_1⟩) hTT ?resty2_1
    case hyy2_1 => intro wq hSw; have qhS := fun i => (Blk.below hS hSw hS.lt).cell i; have qhQ := fun i => (Blk.below hQ hSw hQ.lt).cell i; have qhM := fun i => (Blk.below hM hSw hM.lt).cell i; go_simp <;> with_reducible rfl
    simp only [List.getElem_toArray, List.getElem_cons_zero, List.getElem_cons_succ, Act.put, List.setIfInBounds_toArray, List.set_cons_zero, List.set_cons_succ]
    refine wpG_take (i := 2) (v := ?vy2_2) rfl (by kernel_rfl) (by kernel_rfl) (by kernel_rfl) (by kernel_rfl) (fun _ _ _ h => h) (Or.inl ⟨by rfl, ?hyy2_2⟩) hTT ?resty2_2
    case hyy2_2 => intro wq hSw; have qhS := fun i => (Blk.below hS hSw hS.lt).cell i; have qhQ := fun i => (Blk.below hQ hSw hQ.lt).cell i; have qhM := fun i => (Blk.below hM hSw hM.lt).cell i; go_simp <;> with_reducible rfl
    simp only [List.getElem_toArray, List.getElem_cons_zero, List.getElem_cons_succ, Act.put, List.setIfInBounds_toArray, List.set_cons_zero, List.set_cons_succ]
    refine wpG_take (i := 3) (v := ?vy2_3) rfl (by kernel_rfl) (by kernel_rfl) (by kernel_rfl) (by kernel_rfl) (fun _ _ _ h => h) (Or.inl ⟨by rfl, ?hyy2_3⟩) hTT ?resty2_3
    case hyy2_3 => intro wq hSw; have qhS := fun i => (Blk.below hS hSw hS.lt).cell i; have qhQ := fun i => (Blk.below hQ hSw hQ.lt).cell i; have qhM := fun i => (Blk.below hM hSw hM.lt).cell i; go_simp <;> with_reducible rfl
    simp only [List.getElem_toArray, List.getElem_cons_zero, List.getElem_cons_succ, Act.put, List.setIfInBounds_toArray, List.set_cons_zero, List.set_cons_succ]
    refine wpG_take (i := 4) (v := ?vy2_4) rfl (by kernel_rfl) (by kernel_rfl) (by kernel_rfl) (by kernel_rfl) (fun _ _ _ h => h) (Or.inl ⟨by rfl, ?hyy2_4⟩) hTT ?resty2_4
    case hyy2_4 => intro wq hSw; have qhS := fun i => (Blk.below hS hSw hS.lt).cell i; have qhQ := fun i => (Blk.below hQ hSw hQ.lt).cell i; have qhM := fun i => (Blk.below hM hSw hM.lt).cell i; go_simp <;> with_reducible rfl
    simp only [List.getElem_toArray, List.getElem_cons_zero, List.getElem_cons_succ, Act.put, List.setIfInBounds_toArray, List.set_cons_zero, List.set_cons_succ]
    refine wpG_take (i := 5) (v := ?vy2_5) rfl (by kernel_rfl) (by kernel_rfl) (by kernel_rfl) (by kernel_rfl) (fun _ _ _ h => h) (Or.inl ⟨by rfl, ?hyy2_5⟩) hTT ?resty2_5
    case hyy2_5 => intro wq hSw; have qhS := fun i => (Blk.below hS hSw hS.lt).cell i; have qhQ := fun i => (Blk.below hQ hSw hQ.lt).cell i; have qhM := fun i => (Blk.below hM hSw hM.lt).cell i; go_simp <;> with_reducible rfl
    simp only [List.getElem_toArray, List.getElem_cons_zero, List.getElem_cons_succ, Act.put, List.setIfInBounds_toArray, List.set_cons_zero, List.set_cons_succ]
    refine wpG_take (i := 6) (v := ?vy2_6) rfl (by kernel_rfl) (by kernel_rfl) (by kernel_rfl) (by kernel_rfl) (fun _ _ _ h => h) (Or.inl ⟨by rfl, ?hyy2_6⟩) hTT ?resty2_6
    case hyy2_6 => intro wq hSw; have qhS := fun i => (Blk.below hS hSw hS.lt).cell i; have qhQ := fun i => (Blk.below hQ hSw hQ.lt).cell i; have qhM := fun i => (Blk.below hM hSw hM.lt).cell i; go_simp <;> with_reducible rfl
    simp only [List.getElem_toArray, List.getElem_cons_zero, List.getElem_cons_succ, Act.put, List.setIfInBounds_toArray, List.set_cons_zero, List.set_cons_succ]
    refine wpG_one (i := 7) rfl (by kernel_rfl) (fun K hK => ?_)
    go_simp
    refine (refSeen_any Wn Hn F L X Y SA sn scap rs row k 35 _ hW1 (by omega) (by omega) hsn3 hz hrz (by decide) (rdB hsr hB)).mono ?_
    rintro e w1 ⟨vv, rfl, own, hb⟩
    obtain ⟨pA, pC, rfl⟩ := own_slice own
    have p1 := own_le0 own
    have p2 := own_cap own
    have pR := Rd.of_own own
    replace hTT := hTT.trans (hb.mono hTT.size)
    replace hS := hS.below hb hS.lt
    replace hQ := hQ.below hb hQ.lt
    replace hM := hM.below hb hM.lt
    replace hB := hB.trans (hb.mono hB.size)
    clear own hb
    dsimp only
    refine hK _ _ (.inr hTT) ?_
    clear hK K
    try simp only [List.getElem_toArray, List.getElem_cons_zero, List.getElem_cons_succ, Act.put, List.setIfInBounds_toArray, List.set_cons_zero, List.set_cons_succ]
    refine wpG_one (i := 8) rfl (by kernel_rfl) (fun K hK => ?_)
    go_simp
    refine (lawSeen_any Wn Hn F L X Y nl nh xl xh y A n cap fs pA sn pC (rs.set (k / Wn) (seenRow row 35 (k % Wn))) _ hcap hcm (fun f h => ((hf f h).below hB).more hB.size) (rdB hr hB) p1 p2 h35 pR).mono ?_
    rintro e w1 ⟨rfl, hb⟩
    rw [HB35.out]
    replace hTT := hTT.trans (hb.mono hTT.size)
    replace hS := hS.below hb hS.lt
    replace hQ := hQ.below hb hQ.lt
    replace hM := hM.below hb hM.lt
    replace hB := hB.trans (hb.mono hB.size)
    clear hb pR
    dsimp only
    refine hK _ _ (.inr hTT) ?_
    clear hK K
    try simp only [List.getElem_toArray, List.getElem_cons_zero, List.getElem_cons_succ, Act.put, List.setIfInBounds_toArray, List.set_cons_zero, List.set_cons_succ]
    refine wpG_one (i := 9) rfl (by kernel_rfl) (fun K hK => ?_)
    go_simp
    refine hK _ _ (.inl rfl) ?_
    clear hK K
    try simp only [List.getElem_toArray, List.getElem_cons_zero, List.getElem_cons_succ, Act.put, List.setIfInBounds_toArray, List.set_cons_zero, List.set_cons_succ]
    refine wpG_done (by kernel_rfl) ?_ _
    clear hTT
    have qhS := fun i => Blk.cell hS i
    have qhQ := fun i => Blk.cell hQ i
    have qhM := fun i => Blk.cell hM i
    clear hcz hz HB35 HB46 h35 h46
    go_upto_region 9 with (fail)
    rename World => WR
    refine wp_region_G (fun w' => Below WR.drew.heap.size WR.drew w') 5 (by kernel_rfl) ?_
    replace hS := hS.drew
    replace hQ := hQ.drew
    replace hM := hM.drew
    replace hB := hB.drew
    clear qhS qhQ qhM
    generalize WR.drew = WD at *
    have hTT : Below WD.heap.size WD WD := Below.refl _ _
    have hrW := rdB hr hB
    have hMl := hM.lt
    refine wpG_take (i := 0) (v := ?vx4_0) rfl (by kernel_rfl) (by kernel_rfl) (by kernel_rfl) (by kernel_rfl) (fun _ _ _ h => h) (Or.inl ⟨by rfl, ?hyx4_0⟩) hTT ?restx4_0
    case hyx4_0 => intro wq hSw; have qhS := fun i => (Blk.below hS hSw hS.lt).cell i; have qhQ := fun i => (Blk.below hQ hSw hQ.lt).cell i; have qhM := fun i => (Blk.below hM hSw hM.lt).cell i; go_simp <;> with_reducible rfl
    simp only [List.getElem_toArray, List.getElem_cons_zero, List.getElem_cons_succ, Act.put, List.setIfInBounds_toArray, List.set_cons_zero, List.set_cons_succ]
    refine wpG_take (i := 2) (v := ?vx4_2) rfl (by kernel_rfl) (by kernel_rfl) (by kernel_rfl) (by kernel_rfl) (fun _ _ _ h => h) (Or.inl ⟨by rfl, ?hyx4_2⟩) hTT ?restx4_2
    case hyx4_2 => intro wq hSw; have qhS := fun i => (Blk.below hS hSw hS.lt).cell i; have qhQ := fun i => (Blk.below hQ hSw hQ.lt).cell i; have qhM := fun i => (Blk.below hM hSw hM.lt).cell i; go_simp <;> with_reducible rfl
    simp only [List.getElem_toArray, List.getElem_cons_zero, List.getElem_cons_succ, Act.put, List.setIfInBounds_toArray, List.set_cons_zero, List.set_cons_succ]
    have hBs := hB.size
    have hWs : ∀ o : Obj, (WD.alloc o).heap.size = WD.heap.size + 1 := fun o => by simp
    refine wpG_two (i := 1) (j := 3) rfl rfl (by kernel_rfl) (fun K hK => ?_) (fun K hK => ?_)
    · rw [if_pos (by rfl)]; refine wp_append_any _ _ _ 51 rfl WD.heap.size 26 i26 (.agg #[.slice none 0 0]) 1 24 Tryz.underlying51 hi hz0 hz1' hz2' rfl (by decide) _ 0 [] rfl (World.ownsRow_nil _ _ _ _) WD.heap.size A n cap (fs.map Fig.val) rfl hrW.reads (by simp [Value.oneCell', Fig.val]) (by unfold maxLen; omega) (by omega) (Nat.le_refl _) (fun v' w1 hown hgrow hob => ?_)
      rw [Nat.zero_add, List.nil_append] at hown
      replace hS := hS.grown hgrow (fun e => by cases e)
      replace hQ := hQ.grown hgrow (fun e => by cases e)
      replace hM := hM.grown hgrow (fun e => by cases e)
      replace hTT := hTT.grown hgrow hTT.size (fun z hz => by cases hz)
      replace hB := hB.grown hgrow hB.size (fun z hz => by cases hz)
      refine hK _ _ (.inr hTT) ?_
      clear hK K
      try simp only [List.getElem_toArray, List.getElem_cons_zero, List.getElem_cons_succ, Act.put, List.setIfInBounds_toArray, List.set_cons_zero, List.set_cons_succ]
      refine wpG_one (i := 3) rfl (by kernel_rfl) (fun K hK => ?_)
      go_simp
      obtain ⟨gM, hgM⟩ : ∃ g, g = w1.heap.size := ⟨_, rfl⟩
      have hbm : Blk (w1.alloc (.cells #[.slice A2 n2 cap2] 26)) gM 26 #[.slice A2 n2 cap2] := by rw [hgM]; exact Blk.new w1 26 #[.slice A2 n2 cap2]
      rw [← hgM]
      replace hown := hown.alloc (.cells #[.slice A2 n2 cap2] 26)
      replace hTT := hTT.alloc hTT.size (.cells #[.slice A2 n2 cap2] 26)
      replace hS := hS.alloc (.cells #[.slice A2 n2 cap2] 26)
      replace hQ := hQ.alloc (.cells #[.slice A2 n2 cap2] 26)
      replace hM := hM.alloc (.cells #[.slice A2 n2 cap2] 26)
      replace hB := hB.alloc hB.size (.cells #[.slice A2 n2 cap2] 26)
      refine hK _ _ (.inr hTT) ?_
      clear hK K
      try simp only [List.getElem_toArray, List.getElem_cons_zero, List.getElem_cons_succ, Act.put, List.setIfInBounds_toArray, List.set_cons_zero, List.set_cons_succ]
      refine wpG_one (i := 4) rfl (by kernel_rfl) (fun K hK => ?_)
      obtain ⟨oA, oC, rfl⟩ := own_slice hown
      rw [if_pos (by rfl)]; refine wp_append_any _ _ _ 51 rfl WD.heap.size 26 i26 (.agg #[.slice none 0 0]) 1 24 Tryz.underlying51 hi hz0 hz1' hz2' rfl (by decide) _ n (fs.map Fig.val) rfl hown _ (some ⟨gM, 0, none⟩) 1 1 [.slice A2 n2 cap2] rfl (Rd.blkN hbm rfl hbm.lt).reads (by simp [Value.oneCell']) (by unfold maxLen; omega) (by omega) (by have := hTT.size; simpa using this) (fun v2 w2 hown2 hgrow2 hob2 => ?_)
      replace hS := hS.kept_own hown (by decide) hgrow2
      replace hQ := hQ.kept_own hown (by decide) hgrow2
      replace hM := hM.grown hgrow2 (fun e => by have h1 := (hown.lt _ e.symm).1; omega)
      replace hTT := hTT.grown hgrow2 hTT.size (fun g hg => (hown.lt g hg).1)
      replace hB := hB.grown hgrow2 hB.size (fun g hg => Nat.le_trans hBs (hown.lt g hg).1)
      refine hK _ _ (.inr hTT) ?_
      clear hK K
      try simp only [List.getElem_toArray, List.getElem_cons_zero, List.getElem_cons_succ, Act.put, List.setIfInBounds_toArray, List.set_cons_zero, List.set_cons_succ]
      refine wpG_one (i := 5) rfl (by kernel_rfl) (fun K hK => ?_)
      go_simp
      refine hK _ _ (.inl rfl) ?_
      clear hK K
      try simp only [List.getElem_toArray, List.getElem_cons_zero, List.getElem_cons_succ, Act.put, List.setIfInBounds_toArray, List.set_cons_zero, List.set_cons_succ]
      refine wpG_done (by kernel_rfl) ?_ _
      obtain ⟨xA, xC, rfl⟩ := own_slice hown2
      have hx1 := own_le0 hown2
      have hx2 := own_cap hown2
      have hX := Rd.of_own hown2
      rw [show fs.map Fig.val ++ [Value.slice A2 n2 cap2] = (fs ++ [(⟨A2, n2, cap2, rows2⟩ : Fig)]).map Fig.val by rw [List.map_append]; rfl] at hX
      clear hown hown2 hbm hgrow2 hob2 hrW hMl hBs hgM hWs
      have qhS := fun i => Blk.cell hS i; have qhQ := fun i => Blk.cell hQ i; have qhM := fun i => Blk.cell hM i
      have hfX : ∀ f ∈ fs ++ [(⟨A2, n2, cap2, rows2⟩ : Fig)], f.ok w w.heap.size := fun f h => by
        rcases List.mem_append.1 h with h | h
        · exact hf f h
        · obtain rfl : f = (⟨A2, n2, cap2, rows2⟩ : Fig) := by simpa using h
          exact ⟨hc21, hc22, hs2, hR2⟩
      go_upto_region 10 with (fail)
      go_upto_region 11 with ((go_at_call 69; refine (Told_any Wn Hn F L X Y nl nh xl xh y A n cap fs fig _ hcap hcm (fun f h => ((hf f h).below hB).more hB.size) (rdB hr hB)).mono ?_; rintro e w1 ⟨v1, rfl, hIs, hb⟩; obtain ⟨tA, tn, tc, rfl, ht1, ht2, hT⟩ := hIs; rw [HT.out] at hT; rw [HE1.out]; (try replace hS := hS.below hb hS.lt); (try replace hQ := hQ.below hb hQ.lt); (try replace hM := hM.below hb hM.lt); (try replace hU := rdB hU hb); (try replace hX := rdB hX hb); replace hB := hB.trans (hb.mono hB.size); (try clear qhS); (try clear qhQ); (try clear qhM); clear hb; (try have qhS := fun i => Blk.cell hS i); (try have qhQ := fun i => Blk.cell hQ i); (try have qhM := fun i => Blk.cell hM i)))
      clear HT HE1
      go_upto_region 12 with ((go_at_call 69; refine (Told_any Wn Hn F L X Y nl nh xl xh y xA (n + 1) xC (fs ++ [(⟨A2, n2, cap2, rows2⟩ : Fig)]) fig _ hx1 hx2 (fun f h => ((hfX f h).below hB).more hB.size) hX).mono ?_; rintro e w1 ⟨v1, rfl, hIs, hb⟩; obtain ⟨uA, un, uc, rfl, hu1, hu2, hU⟩ := hIs; rw [HU.out] at hU; rw [HE2.out]; (try replace hS := hS.below hb hS.lt); (try replace hQ := hQ.below hb hQ.lt); (try replace hM := hM.below hb hM.lt); (try replace hT := rdB hT hb); (try replace hX := rdB hX hb); replace hB := hB.trans (hb.mono hB.size); (try clear qhS); (try clear qhQ); (try clear qhM); clear hb; (try have qhS := fun i => Blk.cell hS i); (try have qhQ := fun i => Blk.cell hQ i); (try have qhM := fun i => Blk.cell hM i)))
      clear HU HE2
      go_upto_region 13 with ((go_at_call 68; refine (Mistaken_any Wn Hn F L X Y nl nh xl xh y A n cap fs _ hcap hcm (fun f h => ((hf f h).below hB).more hB.size) (rdB hr hB)).mono ?_; rintro e w1 ⟨rfl, hb⟩; rw [HM1.out]; (try replace hS := hS.below hb hS.lt); (try replace hQ := hQ.below hb hQ.lt); (try replace hM := hM.below hb hM.lt); (try replace hT := rdB hT hb); (try replace hU := rdB hU hb); (try replace hX := rdB hX hb); replace hB := hB.trans (hb.mono hB.size); (try clear qhS); (try clear qhQ); (try clear qhM); clear hb; (try have qhS := fun i => Blk.cell hS i); (try have qhQ := fun i => Blk.cell hQ i); (try have qhM := fun i => Blk.cell hM i)))
      clear HM1
      go_upto_region 14 with ((go_at_call 68; refine (Mistaken_any Wn Hn F L X Y nl nh xl xh y xA (n + 1) xC (fs ++ [(⟨A2, n2, cap2, rows2⟩ : Fig)]) _ hx1 hx2 (fun f h => ((hfX f h).below hB).more hB.size) hX).mono ?_; rintro e w1 ⟨rfl, hb⟩; rw [HM2.out]; (try replace hS := hS.below hb hS.lt); (try replace hQ := hQ.below hb hQ.lt); (try replace hM := hM.below hb hM.lt); (try replace hT := rdB hT hb); (try replace hU := rdB hU hb); (try replace hX := rdB hX hb); replace hB := hB.trans (hb.mono hB.size); (try clear qhS); (try clear qhQ); (try clear qhM); clear hb; (try have qhS := fun i => Blk.cell hS i); (try have qhQ := fun i => Blk.cell hQ i); (try have qhM := fun i => Blk.cell hM i)))
      clear HM2
      have l1 := hT.len
      have l2 := hU.len
      have m1 : tn ≤ 6 := by omega
      have m2 : un ≤ 6 := by omega
      have m3 : ¬ (6 : Int) < tn := by omega
      have m4 : ¬ (6 : Int) < un := by omega
      clear l1 l2
      go_upto_region 16 with ((go_at_call 79; refine (withinL_any tA tn tc tl uA un uc ul _ (by omega) (by omega) hT hU).mono ?_; rintro e w1 ⟨rfl, rfl⟩; rw [HWI.out]))
      clear HWI
      rcases HG.out with ⟨rfl, rfl⟩ | ⟨rfl, rfl⟩ | ⟨rfl, rfl⟩
      all_goals
        as_aux_lemma =>
          clear HG
          go_wp2_with ((go_at_call 24; refine (known_true m _ (known_at hm hB)).mono ?_; rintro e w1 ⟨rfl, hb⟩; (try replace hS := hS.below hb hS.lt); (try replace hQ := hQ.below hb hQ.lt); (try replace hM := hM.below hb hM.lt); (try replace hT := rdB hT hb); (try replace hU := rdB hU hb); (try replace hX := rdB hX hb); replace hB := hB.trans (hb.mono hB.size); (try clear qhS); (try clear qhQ); (try clear qhM); clear hb; (try have qhS := fun i => Blk.cell hS i); (try have qhQ := fun i => Blk.cell hQ i); (try have qhM := fun i => Blk.cell hM i)))
          go_ret
          exact ⟨rfl, hB⟩
    · go_simp
      obtain ⟨gM, hgM⟩ : ∃ g, g = WD.heap.size := ⟨_, rfl⟩
      have hbm : Blk (WD.alloc (.cells #[.slice A2 n2 cap2] 26)) gM 26 #[.slice A2 n2 cap2] := by rw [hgM]; exact Blk.new WD 26 #[.slice A2 n2 cap2]
      rw [← hgM]
      replace hTT := hTT.alloc hTT.size (.cells #[.slice A2 n2 cap2] 26)
      replace hS := hS.alloc (.cells #[.slice A2 n2 cap2] 26)
      replace hQ := hQ.alloc (.cells #[.slice A2 n2 cap2] 26)
      replace hM := hM.alloc (.cells #[.slice A2 n2 cap2] 26)
      replace hB := hB.alloc hB.size (.cells #[.slice A2 n2 cap2] 26)
      refine hK _ _ (.inr hTT) ?_
      clear hK K
      try simp only [List.getElem_toArray, List.getElem_cons_zero, List.getElem_cons_succ, Act.put, List.setIfInBounds_toArray, List.set_cons_zero, List.set_cons_succ]
      refine wpG_one (i := 1) rfl (by kernel_rfl) (fun K hK => ?_)
      rw [if_pos (by rfl)]; refine wp_append_any _ _ _ 51 rfl WD.heap.size 26 i26 (.agg #[.slice none 0 0]) 1 24 Tryz.underlying51 hi hz0 hz1' hz2' rfl (by decide) _ 0 [] rfl (World.ownsRow_nil _ _ _ _) _ A n cap (fs.map Fig.val) rfl (rdB hr hB).reads (by simp [Value.oneCell', Fig.val]) (by unfold maxLen; omega) (by omega) (by simp) (fun v' w1 hown hgrow hob => ?_)
      replace hbm := hbm.grown hgrow (fun e => by cases e)
      rw [Nat.zero_add, List.nil_append] at hown
      replace hS := hS.grown hgrow (fun e => by cases e)
      replace hQ := hQ.grown hgrow (fun e => by cases e)
      replace hM := hM.grown hgrow (fun e => by cases e)
      replace hTT := hTT.grown hgrow hTT.size (fun z hz => by cases hz)
      replace hB := hB.grown hgrow hB.size (fun z hz => by cases hz)
      refine hK _ _ (.inr hTT) ?_
      clear hK K
      try simp only [List.getElem_toArray, List.getElem_cons_zero, List.getElem_cons_succ, Act.put, List.setIfInBounds_toArray, List.set_cons_zero, List.set_cons_succ]
      refine wpG_one (i := 4) rfl (by kernel_rfl) (fun K hK => ?_)
      obtain ⟨oA, oC, rfl⟩ := own_slice hown
      rw [if_pos (by rfl)]; refine wp_append_any _ _ _ 51 rfl WD.heap.size 26 i26 (.agg #[.slice none 0 0]) 1 24 Tryz.underlying51 hi hz0 hz1' hz2' rfl (by decide) _ n (fs.map Fig.val) rfl hown _ (some ⟨gM, 0, none⟩) 1 1 [.slice A2 n2 cap2] rfl (Rd.blkN hbm rfl hbm.lt).reads (by simp [Value.oneCell']) (by unfold maxLen; omega) (by omega) (by have := hTT.size; simpa using this) (fun v2 w2 hown2 hgrow2 hob2 => ?_)
      replace hS := hS.kept_own hown (by decide) hgrow2
      replace hQ := hQ.kept_own hown (by decide) hgrow2
      replace hM := hM.grown hgrow2 (fun e => by have h1 := (hown.lt _ e.symm).1; omega)
      replace hTT := hTT.grown hgrow2 hTT.size (fun g hg => (hown.lt g hg).1)
      replace hB := hB.grown hgrow2 hB.size (fun g hg => Nat.le_trans hBs (hown.lt g hg).1)
      refine hK _ _ (.inr hTT) ?_
      clear hK K
      try simp only [List.getElem_toArray, List.getElem_cons_zero, List.getElem_cons_succ, Act.put, List.setIfInBounds_toArray, List.set_cons_zero, List.set_cons_succ]
      refine wpG_one (i := 5) rfl (by kernel_rfl) (fun K hK => ?_)
      go_simp
      refine hK _ _ (.inl rfl) ?_
      clear hK K
      try simp only [List.getElem_toArray, List.getElem_cons_zero, List.getElem_cons_succ, Act.put, List.setIfInBounds_toArray, List.set_cons_zero, List.set_cons_succ]
      refine wpG_done (by kernel_rfl) ?_ _
      obtain ⟨xA, xC, rfl⟩ := own_slice hown2
      have hx1 := own_le0 hown2
      have hx2 := own_cap hown2
      have hX := Rd.of_own hown2
      rw [show fs.map Fig.val ++ [Value.slice A2 n2 cap2] = (fs ++ [(⟨A2, n2, cap2, rows2⟩ : Fig)]).map Fig.val by rw [List.map_append]; rfl] at hX
      clear hown hown2 hbm hgrow2 hob2 hrW hMl hBs hgM hWs
      have qhS := fun i => Blk.cell hS i; have qhQ := fun i => Blk.cell hQ i; have qhM := fun i => Blk.cell hM i
      have hfX : ∀ f ∈ fs ++ [(⟨A2, n2, cap2, rows2⟩ : Fig)], f.ok w w.heap.size := fun f h => by
        rcases List.mem_append.1 h with h | h
        · exact hf f h
        · obtain rfl : f = (⟨A2, n2, cap2, rows2⟩ : Fig) := by simpa using h
          exact ⟨hc21, hc22, hs2, hR2⟩
      go_upto_region 10 with (fail)
      go_upto_region 11 with ((go_at_call 69; refine (Told_any Wn Hn F L X Y nl nh xl xh y A n cap fs fig _ hcap hcm (fun f h => ((hf f h).below hB).more hB.size) (rdB hr hB)).mono ?_; rintro e w1 ⟨v1, rfl, hIs, hb⟩; obtain ⟨tA, tn, tc, rfl, ht1, ht2, hT⟩ := hIs; rw [HT.out] at hT; rw [HE1.out]; (try replace hS := hS.below hb hS.lt); (try replace hQ := hQ.below hb hQ.lt); (try replace hM := hM.below hb hM.lt); (try replace hU := rdB hU hb); (try replace hX := rdB hX hb); replace hB := hB.trans (hb.mono hB.size); (try clear qhS); (try clear qhQ); (try clear qhM); clear hb; (try have qhS := fun i => Blk.cell hS i); (try have qhQ := fun i => Blk.cell hQ i); (try have qhM := fun i => Blk.cell hM i)))
      clear HT HE1
      go_upto_region 12 with ((go_at_call 69; refine (Told_any Wn Hn F L X Y nl nh xl xh y xA (n + 1) xC (fs ++ [(⟨A2, n2, cap2, rows2⟩ : Fig)]) fig _ hx1 hx2 (fun f h => ((hfX f h).below hB).more hB.size) hX).mono ?_; rintro e w1 ⟨v1, rfl, hIs, hb⟩; obtain ⟨uA, un, uc, rfl, hu1, hu2, hU⟩ := hIs; rw [HU.out] at hU; rw [HE2.out]; (try replace hS := hS.below hb hS.lt); (try replace hQ := hQ.below hb hQ.lt); (try replace hM := hM.below hb hM.lt); (try replace hT := rdB hT hb); (try replace hX := rdB hX hb); replace hB := hB.trans (hb.mono hB.size); (try clear qhS); (try clear qhQ); (try clear qhM); clear hb; (try have qhS := fun i => Blk.cell hS i); (try have qhQ := fun i => Blk.cell hQ i); (try have qhM := fun i => Blk.cell hM i)))
      clear HU HE2
      go_upto_region 13 with ((go_at_call 68; refine (Mistaken_any Wn Hn F L X Y nl nh xl xh y A n cap fs _ hcap hcm (fun f h => ((hf f h).below hB).more hB.size) (rdB hr hB)).mono ?_; rintro e w1 ⟨rfl, hb⟩; rw [HM1.out]; (try replace hS := hS.below hb hS.lt); (try replace hQ := hQ.below hb hQ.lt); (try replace hM := hM.below hb hM.lt); (try replace hT := rdB hT hb); (try replace hU := rdB hU hb); (try replace hX := rdB hX hb); replace hB := hB.trans (hb.mono hB.size); (try clear qhS); (try clear qhQ); (try clear qhM); clear hb; (try have qhS := fun i => Blk.cell hS i); (try have qhQ := fun i => Blk.cell hQ i); (try have qhM := fun i => Blk.cell hM i)))
      clear HM1
      go_upto_region 14 with ((go_at_call 68; refine (Mistaken_any Wn Hn F L X Y nl nh xl xh y xA (n + 1) xC (fs ++ [(⟨A2, n2, cap2, rows2⟩ : Fig)]) _ hx1 hx2 (fun f h => ((hfX f h).below hB).more hB.size) hX).mono ?_; rintro e w1 ⟨rfl, hb⟩; rw [HM2.out]; (try replace hS := hS.below hb hS.lt); (try replace hQ := hQ.below hb hQ.lt); (try replace hM := hM.below hb hM.lt); (try replace hT := rdB hT hb); (try replace hU := rdB hU hb); (try replace hX := rdB hX hb); replace hB := hB.trans (hb.mono hB.size); (try clear qhS); (try clear qhQ); (try clear qhM); clear hb; (try have qhS := fun i => Blk.cell hS i); (try have qhQ := fun i => Blk.cell hQ i); (try have qhM := fun i => Blk.cell hM i)))
      clear HM2
      have l1 := hT.len
      have l2 := hU.len
      have m1 : tn ≤ 6 := by omega
      have m2 : un ≤ 6 := by omega
      have m3 : ¬ (6 : Int) < tn := by omega
      have m4 : ¬ (6 : Int) < un := by omega
      clear l1 l2
      go_upto_region 16 with ((go_at_call 79; refine (withinL_any tA tn tc tl uA un uc ul _ (by omega) (by omega) hT hU).mono ?_; rintro e w1 ⟨rfl, rfl⟩; rw [HWI.out]))
      clear HWI
      rcases HG.out with ⟨rfl, rfl⟩ | ⟨rfl, rfl⟩ | ⟨rfl, rfl⟩
      all_goals
        as_aux_lemma =>
          clear HG
          go_wp2_with ((go_at_call 24; refine (known_true m _ (known_at hm hB)).mono ?_; rintro e w1 ⟨rfl, hb⟩; (try replace hS := hS.below hb hS.lt); (try replace hQ := hQ.below hb hQ.lt); (try replace hM := hM.below hb hM.lt); (try replace hT := rdB hT hb); (try replace hU := rdB hU hb); (try replace hX := rdB hX hb); replace hB := hB.trans (hb.mono hB.size); (try clear qhS); (try clear qhQ); (try clear qhM); clear hb; (try have qhS := fun i => Blk.cell hS i); (try have qhQ := fun i => Blk.cell hQ i); (try have qhM := fun i => Blk.cell hM i)))
          go_ret
          exact ⟨rfl, hB⟩
end Go.Proofs.YtifddfchpknkbaaGreatDoor
