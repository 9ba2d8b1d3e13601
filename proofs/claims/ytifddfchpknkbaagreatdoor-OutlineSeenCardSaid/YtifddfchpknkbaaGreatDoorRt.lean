import Derived.Test.YtifddfchpknkbaaGreatDoorRu
import Derived.Test.YtifddfchpknkbaaGreatDoorUq
set_option linter.unusedVariables false
set_option linter.unusedSimpArgs false
namespace Go.Proofs.YtifddfchpknkbaaGreatDoor
open Go.RowKit

theorem hasT_whoF (W H F L X Y nl nh xl xh y : Int) (fs : List Fig) (rs : List ByteArray) (z : Int) : hasT (rdT W H F L X Y nl nh xl xh y fs rs) z = (whoF W H F L X Y nl nh xl xh y fs rs).contains z := by
  unfold whoF
  rw [agL_rdT, List.map_map, Bool.eq_iff_iff]
  simp only [hasT, List.any_eq_true, beq_iff_eq, List.contains_iff_mem, List.mem_map, Function.comp, shOf]
theorem figN_whoF (W H F L X Y nl nh xl xh y : Int) (fs : List Fig) (rs : List ByteArray) : figN (rdT W H F L X Y nl nh xl xh y fs rs) fs.length = (uniq (whoF W H F L X Y nl nh xl xh y fs rs)).length := by
  rw [← uniq_count whoF_range]
  unfold figN
  congr 1
  apply List.filter_congr
  intro i _
  exact hasT_whoF ..
set_option maxRecDepth 100000 in
set_option maxHeartbeats 25600000 in
theorem refWho_any (Wn Hn : Nat) (F L X Y nl nh xl xh y : Int) (A : Option Addr) (n cap : Nat) (fs : List Fig) (SA : Option Addr) (sn scap : Nat) (rs : List ByteArray) (w : World) (hcap : n ≤ cap) (hcm : cap ≤ maxLen) (hf : ∀ f ∈ fs, f.ok w w.heap.size) (hr : Rd w w.heap.size 1 A n (fs.map Fig.val)) (hsr : Rd w w.heap.size 1 SA sn (rs.map Value.string)) (hok : askB Wn Hn F L X Y nl nh xl xh y fs = true) (hsg : sightB Wn Hn rs = true) :
    Calls Tryz.prog 58 #[.agg #[.int .i64 Wn, .int .i64 Hn, .int .i64 F, .int .i64 L, .int .i64 X, .int .i64 Y], .slice A n cap, .agg #[.int .i64 nl, .int .i64 nh, .int .i64 xl, .int .i64 xh, .int .i64 y], .slice SA sn scap] w fun e w' => ∃ v, e = .returned (.tuple #[v, .bool (whoE Wn Hn F L X Y nl nh xl xh y fs rs == 0)]) ∧ IsL w' v ((whoL Wn Hn F L X Y nl nh xl xh y fs rs).map (Value.int .i64)) ∧ Below w.heap.size w w' := by
  obtain ⟨i57, hi, hz0, hz1', hz2'⟩ := info_parts info57
  have hg : goodQ Wn Hn F L X Y nl nh xl xh y fs rs = true := by simp [goodQ, hok, hsg]
  have hlen := hr.len
  have hsm := allR_small hok
  obtain ⟨_, _, ⟨k1, k2⟩, _⟩ := ask_dims hok
  have hE : whoE Wn Hn F L X Y nl nh xl xh y fs rs = if figN (rdT Wn Hn F L X Y nl nh xl xh y fs rs) n = 0 then 7 else 0 := by unfold whoE; rw [if_pos hg, ← hlen, figN_whoF]
  have hL : whoL Wn Hn F L X Y nl nh xl xh y fs rs = if figN (rdT Wn Hn F L X Y nl nh xl xh y fs rs) n = 0 then [] else wordsL (whoF Wn Hn F L X Y nl nh xl xh y fs rs) n := by unfold whoL; rw [if_pos hg, ← hlen, figN_whoF]
  have hwv : ∀ k : Nat, wordV (whoF Wn Hn F L X Y nl nh xl xh y fs rs) k = if hasT (rdT Wn Hn F L X Y nl nh xl xh y fs rs) k then (if 1 < figN (rdT Wn Hn F L X Y nl nh xl xh y fs rs) n then 2 else 3) else 1 := fun k => by unfold wordV; rw [hasT_whoF, ← hlen, figN_whoF]
  have htl : (rdT Wn Hn F L X Y nl nh xl xh y fs rs).length ≤ 216 := Nat.le_trans (List.length_filter_le _ _) hsm
  have hreads := fun wx h1 h2 h3 => refReads_any Wn Hn F L X Y nl nh xl xh y A n cap fs SA sn scap rs wx hcap hcm h1 h2 h3 hok hsg
  obtain ⟨eb, heb⟩ : ∃ eb, eb = (whoE Wn Hn F L X Y nl nh xl xh y fs rs == 0) := ⟨_, rfl⟩
  obtain ⟨ll, hll⟩ : ∃ ll, ll = whoL Wn Hn F L X Y nl nh xl xh y fs rs := ⟨_, rfl⟩
  rw [← heb, ← hll]
  rw [hE] at heb
  rw [hL] at hll
  obtain ⟨tl, htle⟩ : ∃ tl, tl = rdT Wn Hn F L X Y nl nh xl xh y fs rs := ⟨_, rfl⟩
  obtain ⟨wf, hwf⟩ : ∃ wf, wf = whoF Wn Hn F L X Y nl nh xl xh y fs rs := ⟨_, rfl⟩
  rw [← htle] at htl hwv heb hll
  rw [← hwf] at hwv hll
  have HEB := Lib.hid heb; have HLL := Lib.hid hll; clear heb hll
  simp only [← htle] at hreads
  have HREADS := Lib.hid hreads; have HWVA := Lib.hid hwv
  clear hreads hwv htle hwf hE hL hg hok hsg
  go_enter Tryz.func58, Tryz.ntmps58
  go_upto_region 1 with (fail)
  have hS := blk2_0 w (.cells #[.int .i64 nl, .int .i64 nh, .int .i64 xl, .int .i64 xh, .int .i64 y] 71) 23 #[.int .i64 Wn, .int .i64 Hn, .int .i64 F, .int .i64 L, .int .i64 X, .int .i64 Y]
  have hQ := blk2_1 w (.cells #[.int .i64 Wn, .int .i64 Hn, .int .i64 F, .int .i64 L, .int .i64 X, .int .i64 Y] 23) 71 #[.int .i64 nl, .int .i64 nh, .int .i64 xl, .int .i64 xh, .int .i64 y]
  have hB := pro_2 w (.cells #[.int .i64 Wn, .int .i64 Hn, .int .i64 F, .int .i64 L, .int .i64 X, .int .i64 Y] 23) (.cells #[.int .i64 nl, .int .i64 nh, .int .i64 xl, .int .i64 xh, .int .i64 y] 71)
  generalize (w.alloc (.cells #[.int .i64 Wn, .int .i64 Hn, .int .i64 F, .int .i64 L, .int .i64 X, .int .i64 Y] 23)).alloc (.cells #[.int .i64 nl, .int .i64 nh, .int .i64 xl, .int .i64 xh, .int .i64 y] 71) = W0 at *
  have qhS := fun i => Blk.cell hS i
  have qhQ := fun i => Blk.cell hQ i
  go_upto_region 2 with (go_at_call 57; refine (HREADS.out _ (fun f h => ((hf f h).below hB).more hB.size) (rdB hr hB) (rdB hsr hB)).mono ?_; rintro e w1 ⟨v1, rfl, own, hb⟩; obtain ⟨tA, tC, rfl⟩ := own_slice own; have hT := Rd.of_own own; clear own; replace hB := hB.trans (hb.mono hB.size); clear hb hS hQ qhS qhQ)
  clear HREADS
  obtain ⟨tn, htn⟩ : ∃ tn, tn = tl.length := ⟨_, rfl⟩
  rw [← htn] at hT htl
  rw [← htn]
  clear htn
  go_upto_region 3 with (go_at_call 122; refine (refFigs_any tA tn tC tl y n _ (by omega) (by omega) hT).mono ?_; rintro e w2 ⟨rfl, rfl⟩)
  obtain ⟨mn, hmn⟩ : ∃ mn, mn = figN tl n := ⟨_, rfl⟩
  rw [← hmn] at HWVA ⊢
  have HQM := Lib.hid hmn
  clear hmn
  have hBw := hB
  go_wp2_with (fail)
  go_loopg [12, 13] n (fun g v i wr => ∃ (k : Nat) (v0 : Value), g = n - k ∧ k ≤ n ∧ v = v0 ∧ i = .int .i64 k ∧ wr.ownsRow w1.heap.size 57 1 v0 k ((wordsL wf k).map (Value.int .i64)) ∧ Below w1.heap.size w1 wr)
  case atStart => exact ⟨0, _, rfl, Nat.zero_le _, rfl, rfl, World.ownsRow_nil _ _ _ _, Below.refl _ _⟩
  case round =>
    obtain ⟨k, v0, hg, hk, rfl, rfl, hown, hB1⟩ := hrel
    have HG := Lib.hid hg; clear hg
    obtain ⟨va, vc, rfl⟩ := own_slice hown
    rename World => W2
    by_cases hlt : k < n
    · have hlti : (k : Int) < n := by omega
      have hsn : (wordsL wf (k + 1)).map (Value.int .i64) = (wordsL wf k).map (Value.int .i64) ++ [.int .i64 (wordV wf k)] := by unfold wordsL; rw [List.range_succ, List.map_append, List.map_append]; rfl
      obtain ⟨xs, hxs⟩ : ∃ xs, xs = (wordsL wf k).map (Value.int .i64) := ⟨_, rfl⟩
      rw [← hxs] at hown
      have HSN := Lib.hid hsn; have HXS := Lib.hid hxs; clear hsn hxs
      have hwv := HWVA.out k
      cases hh : hasT tl k
      · have HWV := Lib.hid (show wordV wf k = 1 by rw [hwv, hh]; rfl)
        clear hwv
        as_aux_lemma =>
          go_wp2_with (first | (go_at_call 123; refine (refHas_any tA tn tC tl y k _ (by omega) (rdB hT hB1)).mono ?_; rintro e w2 ⟨rfl, rfl⟩; rw [hh]) | (at_builtin; refine wpList_append_any _ rfl _ _ 75 rfl w1.heap.size 57 i57 (.int .i64 0) 1 8 Tryz.underlying75 hi hz0 hz1' hz2' rfl (by decide) (.slice va k vc) k xs rfl (hown.alloc _) (W2.heap.size + 1) (some ⟨W2.heap.size, 0, none⟩) 1 1 [.int .i64 1] rfl (Rd.blkN (Blk.new W2 57 #[.int .i64 1]) rfl (Nat.lt_succ_self _)).reads (by simp [Value.oneCell']) (by unfold maxLen; omega) (by omega) (by have := hB1.size; simp only [World.size_alloc]; omega) (fun v' w' hown' hgrow hob => ?_)) | go_in)
          have hown0 := hown.alloc (.cells #[.int .i64 1] 57)
          have hB3 := (hB1.alloc hB1.size (.cells #[.int .i64 1] 57)).grown hgrow (by have := hB1.size; simp only [World.size_alloc]; omega) (fun g hg => (hown0.lt g hg).1)
          go_roundg (n - (k + 1))
          case measure => rw [HG.out]; omega
          case rel => exact ⟨k + 1, _, rfl, by omega, rfl, by go_num, by rw [HSN.out, HWV.out, ← HXS.out]; exact hown', hB3⟩
      by_cases hm1 : 1 < mn
      · have hm1i : (1 : Int) < mn := by omega
        have hm2 : ((mn : Int) == 1) = false := by simp; omega
        have HWV := Lib.hid (show wordV wf k = 2 by rw [hwv, hh, if_pos rfl, if_pos hm1])
        clear hwv
        as_aux_lemma =>
          go_wp2_with (first | (go_at_call 123; refine (refHas_any tA tn tC tl y k _ (by omega) (rdB hT hB1)).mono ?_; rintro e w2 ⟨rfl, rfl⟩; rw [hh]) | (at_builtin; refine wpList_append_any _ rfl _ _ 75 rfl w1.heap.size 57 i57 (.int .i64 0) 1 8 Tryz.underlying75 hi hz0 hz1' hz2' rfl (by decide) (.slice va k vc) k xs rfl (hown.alloc _) (W2.heap.size + 1) (some ⟨W2.heap.size, 0, none⟩) 1 1 [.int .i64 2] rfl (Rd.blkN (Blk.new W2 57 #[.int .i64 2]) rfl (Nat.lt_succ_self _)).reads (by simp [Value.oneCell']) (by unfold maxLen; omega) (by omega) (by have := hB1.size; simp only [World.size_alloc]; omega) (fun v' w' hown' hgrow hob => ?_)) | go_in)
          have hown0 := hown.alloc (.cells #[.int .i64 2] 57)
          have hB3 := (hB1.alloc hB1.size (.cells #[.int .i64 2] 57)).grown hgrow (by have := hB1.size; simp only [World.size_alloc]; omega) (fun g hg => (hown0.lt g hg).1)
          go_roundg (n - (k + 1))
          case measure => rw [HG.out]; omega
          case rel => exact ⟨k + 1, _, rfl, by omega, rfl, by go_num, by rw [HSN.out, HWV.out, ← HXS.out]; exact hown', hB3⟩
      · have hm1i : ¬ (1 : Int) < mn := by omega
        have HWV := Lib.hid (show wordV wf k = 3 by rw [hwv, hh, if_pos rfl, if_neg hm1])
        clear hwv
        have hm3 : mn = 1 := by
          have hpos : 0 < figN tl n := by
            unfold figN
            exact List.length_pos_of_mem (List.mem_filter.2 ⟨List.mem_range.2 hlt, hh⟩)
          rw [← HQM.out] at hpos
          omega
        have hm2 : ((mn : Int) == 1) = true := by simp; omega
        clear hm3
        as_aux_lemma =>
          go_wp2_with (first | (go_at_call 123; refine (refHas_any tA tn tC tl y k _ (by omega) (rdB hT hB1)).mono ?_; rintro e w2 ⟨rfl, rfl⟩; rw [hh]) | (at_builtin; refine wpList_append_any _ rfl _ _ 75 rfl w1.heap.size 57 i57 (.int .i64 0) 1 8 Tryz.underlying75 hi hz0 hz1' hz2' rfl (by decide) (.slice va k vc) k xs rfl (hown.alloc _) (W2.heap.size + 1) (some ⟨W2.heap.size, 0, none⟩) 1 1 [.int .i64 3] rfl (Rd.blkN (Blk.new W2 57 #[.int .i64 3]) rfl (Nat.lt_succ_self _)).reads (by simp [Value.oneCell']) (by unfold maxLen; omega) (by omega) (by have := hB1.size; simp only [World.size_alloc]; omega) (fun v' w' hown' hgrow hob => ?_)) | go_in)
          have hown0 := hown.alloc (.cells #[.int .i64 3] 57)
          have hB3 := (hB1.alloc hB1.size (.cells #[.int .i64 3] 57)).grown hgrow (by have := hB1.size; simp only [World.size_alloc]; omega) (fun g hg => (hown0.lt g hg).1)
          go_roundg (n - (k + 1))
          case measure => rw [HG.out]; omega
          case rel => exact ⟨k + 1, _, rfl, by omega, rfl, by go_num, by rw [HSN.out, HWV.out, ← HXS.out]; exact hown', hB3⟩
    · obtain rfl : k = n := by omega
      have hge : ¬ (k : Int) < k := by omega
      have hk2 := own_le0 hown
      have hk3 := own_cap hown
      have hW := Rd.of_own hown
      by_cases hm0 : mn = 0
      · have hm0b : ((mn : Int) == 0) = true := by simp; omega
        have HM0 := Lib.hid hm0; clear hm0
        go_wp2_with (fail)
        go_ret2
        exact ⟨_, by rw [HEB.out, ← HQM.out, if_pos HM0.out]; rfl, by rw [HLL.out, ← HQM.out, if_pos HM0.out]; exact IsL.nil _, hB.trans (hB1.mono hB.size)⟩
      · have hm0b : ((mn : Int) == 0) = false := by simp; omega
        have HM0 := Lib.hid hm0; clear hm0
        go_wp2_with (fail)
        go_ret2
        exact ⟨_, by rw [HEB.out, ← HQM.out, if_neg HM0.out]; rfl, by rw [HLL.out, ← HQM.out, if_neg HM0.out]; exact ⟨va, k, vc, rfl, hk2, hk3, hW⟩, hB.trans (hB1.mono hB.size)⟩
end Go.Proofs.YtifddfchpknkbaaGreatDoor
