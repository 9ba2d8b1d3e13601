import Derived.Test.YtifddfchpknkbaaGreatDoorFe
import Derived.Test.YtifddfchpknkbaaGreatDoorDg
set_option linter.unusedVariables false
set_option linter.unusedSimpArgs false
namespace Go.Proofs.YtifddfchpknkbaaGreatDoor
open Go.RowKit


set_option maxRecDepth 100000 in
set_option maxHeartbeats 1600000 in
theorem Enough_all (W H F L X Y nl nh xl xh y : Int) (A : Option Addr) (n cap : Nat) (fs : List Fig) (CA : Option Addr) (cn ccap : Nat) (cs : List Int) (w : World) (hn : n ≤ cap) (hcm : cap ≤ maxLen) (hf : ∀ f ∈ fs, f.ok w w.heap.size) (hr : Rd w w.heap.size 1 A n (fs.map Fig.val)) (hcn : cn ≤ maxLen) (hcr : Rd w w.heap.size 1 CA cn (cs.map (Value.int .i64))) (hsm : goodP W H F L X Y nl nh xl xh y fs cs = true → (difP W H F L X Y nl nh xl xh y fs cs).length ≤ 100000) :
    Calls Tryz.prog 74 #[.agg #[.int .i64 W, .int .i64 H, .int .i64 F, .int .i64 L, .int .i64 X, .int .i64 Y], .slice A n cap, .agg #[.int .i64 nl, .int .i64 nh, .int .i64 xl, .int .i64 xh, .int .i64 y], .slice CA cn ccap] w fun e w' => e = .returned (.tuple #[.bool (enoughB W H F L X Y nl nh xl xh y fs cs), .int .i64 (enoughE W H F L X Y nl nh xl xh y fs cs)]) ∧ Below w.heap.size w w' := by
  have hA : Blk ((w.alloc (.cells #[.int .i64 W, .int .i64 H, .int .i64 F, .int .i64 L, .int .i64 X, .int .i64 Y] 23)).alloc (.cells #[.int .i64 nl, .int .i64 nh, .int .i64 xl, .int .i64 xh, .int .i64 y] 71)) w.heap.size 23 #[.int .i64 W, .int .i64 H, .int .i64 F, .int .i64 L, .int .i64 X, .int .i64 Y] := (Blk.new w 23 #[.int .i64 W, .int .i64 H, .int .i64 F, .int .i64 L, .int .i64 X, .int .i64 Y]).alloc _
  have hBk : Blk ((w.alloc (.cells #[.int .i64 W, .int .i64 H, .int .i64 F, .int .i64 L, .int .i64 X, .int .i64 Y] 23)).alloc (.cells #[.int .i64 nl, .int .i64 nh, .int .i64 xl, .int .i64 xh, .int .i64 y] 71)) (w.heap.size + 1) 71 #[.int .i64 nl, .int .i64 nh, .int .i64 xl, .int .i64 xh, .int .i64 y] := blk2 w _ 71 #[.int .i64 nl, .int .i64 nh, .int .i64 xl, .int .i64 xh, .int .i64 y]
  have hB2 : Below w.heap.size w ((w.alloc (.cells #[.int .i64 W, .int .i64 H, .int .i64 F, .int .i64 L, .int .i64 X, .int .i64 Y] 23)).alloc (.cells #[.int .i64 nl, .int .i64 nh, .int .i64 xl, .int .i64 xh, .int .i64 y] 71)) := ((Below.refl _ w).alloc (Nat.le_refl _) _).alloc (by simp only [World.size_alloc]; omega) _
  have hqA := fun i => hA.cell i; have hqB := fun i => hBk.cell i; have hlA := hA.lt; have hlB := hBk.lt
  cases hask : (stageB W H F L X Y && (compB fs && reachB F nl nh xl xh y))
  · have hg : goodP W H F L X Y nl nh xl xh y fs cs = false := by simp [goodP, askB, hask]
    go_enter Tryz.func74, Tryz.ntmps74
    go_wp2_with (first | (go_at_call 112; refine (goodReach_any W H F L X Y nl nh xl xh y A n cap fs _ (Nat.le_trans hn hcm) (fun f hf' => ((hf f hf').below hB2).more hB2.size) ((hr.below hB2).more hB2.size)).mono ?_; rintro e w1 ⟨rfl, hb⟩; rw [hask]; replace hA := hA.below hb hA.lt; replace hBk := hBk.below hb hBk.lt; replace hB2 := hB2.trans (hb.mono hB2.size); replace hqA := fun i => hA.cell i; replace hqB := fun i => hBk.cell i; replace hlA := hA.lt; replace hlB := hBk.lt; clear hb))
    go_ret2
    exact ⟨by simp [enoughB, enoughE, hg], hB2⟩
  · have hask2 : askB W H F L X Y nl nh xl xh y fs = true := hask
    have hdm := ask_dims hask2
    cases hcel : cellsB W H cs
    · have hg : goodP W H F L X Y nl nh xl xh y fs cs = false := by simp [goodP, hcel]
      go_enter Tryz.func74, Tryz.ntmps74
      go_wp2_with (first | (go_at_call 112; refine (goodReach_any W H F L X Y nl nh xl xh y A n cap fs _ (Nat.le_trans hn hcm) (fun f hf' => ((hf f hf').below hB2).more hB2.size) ((hr.below hB2).more hB2.size)).mono ?_; rintro e w1 ⟨rfl, hb⟩; rw [hask]; replace hA := hA.below hb hA.lt; replace hBk := hBk.below hb hBk.lt; replace hB2 := hB2.trans (hb.mono hB2.size); replace hqA := fun i => hA.cell i; replace hqB := fun i => hBk.cell i; replace hlA := hA.lt; replace hlB := hBk.lt; clear hb) | (go_at_call 133; refine (goodCells_any W H F L X Y CA cn ccap cs _ hcn ((hcr.below hB2).more hB2.size) (by omega) (by omega) (by omega) (by omega)).mono ?_; rintro e w1 ⟨rfl, hb⟩; rw [hcel]; replace hA := hA.below hb hA.lt; replace hBk := hBk.below hb hBk.lt; replace hB2 := hB2.trans (hb.mono hB2.size); replace hqA := fun i => hA.cell i; replace hqB := fun i => hBk.cell i; replace hlA := hA.lt; replace hlB := hBk.lt; clear hb))
      go_ret2
      exact ⟨by simp [enoughB, enoughE, hg], hB2⟩
    · have hg : goodP W H F L X Y nl nh xl xh y fs cs = true := by simp [goodP, hask2, hcel]
      have hsm' := hsm hg
      have hcl := hcr.len
      have hcel2 := hcel
      simp only [cellsB, Bool.and_eq_true, decide_eq_true_eq] at hcel2
      have hc8 : cn ≤ 8 := by omega
      have hcm := cellsF_mem (-1) (W * H) cs (by omega) hcel2.2
      have hWH : W * H = ((W.toNat * H.toNat : Nat) : Int) := by rw [Int.natCast_mul, Int.toNat_of_nonneg (by omega), Int.toNat_of_nonneg (by omega)]
      have hcs : ∀ c ∈ cs.map Int.toNat, c < W.toNat * H.toNat := by
        intro c hc
        obtain ⟨d, hd, rfl⟩ := List.mem_map.1 hc
        have := hcm d hd
        rw [hWH] at this
        omega
      have hcsv : cs.map (Value.int .i64) = (cs.map Int.toNat).map natV := by
        rw [List.map_map]
        refine List.map_congr_left fun c hc => ?_
        have := hcm c hc
        simp only [Function.comp, natV]
        rw [Int.toNat_of_nonneg this.1]
      have hslen : (shL W H F L X Y nl nh xl xh y fs).length ≤ 216 := by rw [shL, List.length_map]; exact allR_small hask2
      have hshs : ∀ h ∈ shL W H F L X Y nl nh xl xh y fs, h.s.size = W.toNat * H.toNat := fun h hh => shL_size hh
      have hdb : ∀ d ∈ difP W H F L X Y nl nh xl xh y fs cs, d < 18446744073709551616 := fun d hd => by
        have h1 := mem_diffAll _ _ _ _ hd
        have h2 : (2 : Nat) ^ cs.length ≤ 2 ^ 8 := Nat.pow_le_pow_right (by omega) hcel2.1
        have h3 : (2 : Nat) ^ 8 = 256 := rfl
        omega
      have hlcs : cs.length = cn := by simpa using hcl
      unfold difP at hsm' hdb
      rw [hlcs] at hsm' hdb
      clear hcm hcel2
      cases htel : tellB (diffAll (cs.map Int.toNat) cn (shL W H F L X Y nl nh xl xh y fs)) 18446744073709551615
      all_goals
        go_enter Tryz.func74, Tryz.ntmps74
        go_wp2_with (first | (go_at_call 112; refine (goodReach_any W H F L X Y nl nh xl xh y A n cap fs _ (Nat.le_trans hn hcm) (fun f hf' => ((hf f hf').below hB2).more hB2.size) ((hr.below hB2).more hB2.size)).mono ?_; rintro e w1 ⟨rfl, hb⟩; rw [hask]; replace hA := hA.below hb hA.lt; replace hBk := hBk.below hb hBk.lt; replace hB2 := hB2.trans (hb.mono hB2.size); replace hqA := fun i => hA.cell i; replace hqB := fun i => hBk.cell i; replace hlA := hA.lt; replace hlB := hBk.lt; clear hb) | (go_at_call 133; refine (goodCells_any W H F L X Y CA cn ccap cs _ hcn ((hcr.below hB2).more hB2.size) (by omega) (by omega) (by omega) (by omega)).mono ?_; rintro e w1 ⟨rfl, hb⟩; rw [hcel]; replace hA := hA.below hb hA.lt; replace hBk := hBk.below hb hBk.lt; replace hB2 := hB2.trans (hb.mono hB2.size); replace hqA := fun i => hA.cell i; replace hqB := fun i => hBk.cell i; replace hlA := hA.lt; replace hlB := hBk.lt; clear hb) | (go_at_call 115; refine (shades_any W H F L X Y nl nh xl xh y A n cap fs _ hn hcm (fun f hf' => ((hf f hf').below hB2).more hB2.size) ((hr.below hB2).more hB2.size) hask2).mono ?_; rintro e w1 ⟨v1, rfl, own1, hb⟩; obtain ⟨A1, c1, rfl⟩ := own_slice own1; have hcap1 := own_le0 own1; have hr1 := Rd.of_own own1; clear own1; replace hA := hA.below hb hA.lt; replace hBk := hBk.below hb hBk.lt; replace hB2 := hB2.trans (hb.mono hB2.size); replace hqA := fun i => hA.cell i; replace hqB := fun i => hBk.cell i; replace hlA := hA.lt; replace hlB := hBk.lt; clear hb) | (go_at_call 135; refine (differences_any A1 _ c1 _ CA cn ccap (W.toNat * H.toNat) (cs.map Int.toNat) _ (by omega) hcap1 hc8 hsm' hshs (by omega) hcs hr1 (by rw [← hcsv]; exact (hcr.below hB2).more hB2.size)).mono ?_; rintro e w1 ⟨v2, m2, ds2, rfl, own2, hm2, hmem, hb⟩; obtain ⟨A2, c2, rfl⟩ := own_slice own2; have hr2 := Rd.of_own own2; clear own2 hr1; have hd2 : ∀ d ∈ ds2, d < 18446744073709551616 := (fun d hd => hdb d ((hmem d).1 hd)); replace hA := hA.below hb hA.lt; replace hBk := hBk.below hb hBk.lt; replace hB2 := hB2.trans (hb.mono hB2.size); replace hqA := fun i => hA.cell i; replace hqB := fun i => hBk.cell i; replace hlA := hA.lt; replace hlB := hBk.lt; clear hb) | (go_at_call 134; refine (tell_any A2 m2 c2 ds2 18446744073709551615 _ (by omega) hd2 (by omega) hr2).mono ?_; rintro e w1 ⟨rfl, rfl⟩; rw [tellB_congr hmem, htel]))
        go_ret2
        exact ⟨by simp [enoughB, enoughE, hg, difP, hlcs, htel], hB2⟩

set_option maxRecDepth 100000 in
set_option maxHeartbeats 1600000 in
theorem Plan_all (W H F L X Y nl nh xl xh y : Int) (A : Option Addr) (n cap : Nat) (fs : List Fig) (CA : Option Addr) (cn ccap : Nat) (cs : List Int) (w : World) (hn : n ≤ cap) (hcm : cap ≤ maxLen) (hf : ∀ f ∈ fs, f.ok w w.heap.size) (hr : Rd w w.heap.size 1 A n (fs.map Fig.val)) (hcn : cn ≤ maxLen) (hcr : Rd w w.heap.size 1 CA cn (cs.map (Value.int .i64))) (hsm : goodP W H F L X Y nl nh xl xh y fs cs = true → (difP W H F L X Y nl nh xl xh y fs cs).length ≤ 100000) :
    Calls Tryz.prog 75 #[.agg #[.int .i64 W, .int .i64 H, .int .i64 F, .int .i64 L, .int .i64 X, .int .i64 Y], .slice A n cap, .agg #[.int .i64 nl, .int .i64 nh, .int .i64 xl, .int .i64 xh, .int .i64 y], .slice CA cn ccap] w fun e w' => ∃ v, e = .returned (.tuple #[v, .int .i64 (planE W H F L X Y nl nh xl xh y fs cs)]) ∧ IsL w' v ((planL W H F L X Y nl nh xl xh y fs cs).map natV) ∧ Below w.heap.size w w' := by
  have hA : Blk ((w.alloc (.cells #[.int .i64 W, .int .i64 H, .int .i64 F, .int .i64 L, .int .i64 X, .int .i64 Y] 23)).alloc (.cells #[.int .i64 nl, .int .i64 nh, .int .i64 xl, .int .i64 xh, .int .i64 y] 71)) w.heap.size 23 #[.int .i64 W, .int .i64 H, .int .i64 F, .int .i64 L, .int .i64 X, .int .i64 Y] := (Blk.new w 23 #[.int .i64 W, .int .i64 H, .int .i64 F, .int .i64 L, .int .i64 X, .int .i64 Y]).alloc _
  have hBk : Blk ((w.alloc (.cells #[.int .i64 W, .int .i64 H, .int .i64 F, .int .i64 L, .int .i64 X, .int .i64 Y] 23)).alloc (.cells #[.int .i64 nl, .int .i64 nh, .int .i64 xl, .int .i64 xh, .int .i64 y] 71)) (w.heap.size + 1) 71 #[.int .i64 nl, .int .i64 nh, .int .i64 xl, .int .i64 xh, .int .i64 y] := blk2 w _ 71 #[.int .i64 nl, .int .i64 nh, .int .i64 xl, .int .i64 xh, .int .i64 y]
  have hB2 : Below w.heap.size w ((w.alloc (.cells #[.int .i64 W, .int .i64 H, .int .i64 F, .int .i64 L, .int .i64 X, .int .i64 Y] 23)).alloc (.cells #[.int .i64 nl, .int .i64 nh, .int .i64 xl, .int .i64 xh, .int .i64 y] 71)) := ((Below.refl _ w).alloc (Nat.le_refl _) _).alloc (by simp only [World.size_alloc]; omega) _
  have hqA := fun i => hA.cell i; have hqB := fun i => hBk.cell i; have hlA := hA.lt; have hlB := hBk.lt
  cases hask : (stageB W H F L X Y && (compB fs && reachB F nl nh xl xh y))
  · have hg : goodP W H F L X Y nl nh xl xh y fs cs = false := by simp [goodP, askB, hask]
    go_enter Tryz.func75, Tryz.ntmps75
    go_wp2_with (first | (go_at_call 112; refine (goodReach_any W H F L X Y nl nh xl xh y A n cap fs _ (Nat.le_trans hn hcm) (fun f hf' => ((hf f hf').below hB2).more hB2.size) ((hr.below hB2).more hB2.size)).mono ?_; rintro e w1 ⟨rfl, hb⟩; rw [hask]; replace hA := hA.below hb hA.lt; replace hBk := hBk.below hb hBk.lt; replace hB2 := hB2.trans (hb.mono hB2.size); replace hqA := fun i => hA.cell i; replace hqB := fun i => hBk.cell i; replace hlA := hA.lt; replace hlB := hBk.lt; clear hb))
    go_ret2
    exact ⟨_, by simp [planE, hg]; rfl, by simp [planL, hg]; exact IsL.nil _, hB2⟩
  · have hask2 : askB W H F L X Y nl nh xl xh y fs = true := hask
    have hdm := ask_dims hask2
    cases hcel : cellsB W H cs
    · have hg : goodP W H F L X Y nl nh xl xh y fs cs = false := by simp [goodP, hcel]
      go_enter Tryz.func75, Tryz.ntmps75
      go_wp2_with (first | (go_at_call 112; refine (goodReach_any W H F L X Y nl nh xl xh y A n cap fs _ (Nat.le_trans hn hcm) (fun f hf' => ((hf f hf').below hB2).more hB2.size) ((hr.below hB2).more hB2.size)).mono ?_; rintro e w1 ⟨rfl, hb⟩; rw [hask]; replace hA := hA.below hb hA.lt; replace hBk := hBk.below hb hBk.lt; replace hB2 := hB2.trans (hb.mono hB2.size); replace hqA := fun i => hA.cell i; replace hqB := fun i => hBk.cell i; replace hlA := hA.lt; replace hlB := hBk.lt; clear hb) | (go_at_call 133; refine (goodCells_any W H F L X Y CA cn ccap cs _ hcn ((hcr.below hB2).more hB2.size) (by omega) (by omega) (by omega) (by omega)).mono ?_; rintro e w1 ⟨rfl, hb⟩; rw [hcel]; replace hA := hA.below hb hA.lt; replace hBk := hBk.below hb hBk.lt; replace hB2 := hB2.trans (hb.mono hB2.size); replace hqA := fun i => hA.cell i; replace hqB := fun i => hBk.cell i; replace hlA := hA.lt; replace hlB := hBk.lt; clear hb))
      go_ret2
      exact ⟨_, by simp [planE, hg]; rfl, by simp [planL, hg]; exact IsL.nil _, hB2⟩
    · have hg : goodP W H F L X Y nl nh xl xh y fs cs = true := by simp [goodP, hask2, hcel]
      have hsm' := hsm hg
      have hcl := hcr.len
      have hcel2 := hcel
      simp only [cellsB, Bool.and_eq_true, decide_eq_true_eq] at hcel2
      have hc8 : cn ≤ 8 := by omega
      have hcm := cellsF_mem (-1) (W * H) cs (by omega) hcel2.2
      have hWH : W * H = ((W.toNat * H.toNat : Nat) : Int) := by rw [Int.natCast_mul, Int.toNat_of_nonneg (by omega), Int.toNat_of_nonneg (by omega)]
      have hcs : ∀ c ∈ cs.map Int.toNat, c < W.toNat * H.toNat := by
        intro c hc
        obtain ⟨d, hd, rfl⟩ := List.mem_map.1 hc
        have := hcm d hd
        rw [hWH] at this
        omega
      have hcsv : cs.map (Value.int .i64) = (cs.map Int.toNat).map natV := by
        rw [List.map_map]
        refine List.map_congr_left fun c hc => ?_
        have := hcm c hc
        simp only [Function.comp, natV]
        rw [Int.toNat_of_nonneg this.1]
      have hslen : (shL W H F L X Y nl nh xl xh y fs).length ≤ 216 := by rw [shL, List.length_map]; exact allR_small hask2
      have hshs : ∀ h ∈ shL W H F L X Y nl nh xl xh y fs, h.s.size = W.toNat * H.toNat := fun h hh => shL_size hh
      have hdb : ∀ d ∈ difP W H F L X Y nl nh xl xh y fs cs, d < 18446744073709551616 := fun d hd => by
        have h1 := mem_diffAll _ _ _ _ hd
        have h2 : (2 : Nat) ^ cs.length ≤ 2 ^ 8 := Nat.pow_le_pow_right (by omega) hcel2.1
        have h3 : (2 : Nat) ^ 8 = 256 := rfl
        omega
      have hlcs : cs.length = cn := by simpa using hcl
      unfold difP at hsm' hdb
      rw [hlcs] at hsm' hdb
      clear hcm hcel2
      cases htel : tellB (diffAll (cs.map Int.toNat) cn (shL W H F L X Y nl nh xl xh y fs)) 18446744073709551615
      · go_enter Tryz.func75, Tryz.ntmps75
        go_wp2_with (first | (go_at_call 112; refine (goodReach_any W H F L X Y nl nh xl xh y A n cap fs _ (Nat.le_trans hn hcm) (fun f hf' => ((hf f hf').below hB2).more hB2.size) ((hr.below hB2).more hB2.size)).mono ?_; rintro e w1 ⟨rfl, hb⟩; rw [hask]; replace hA := hA.below hb hA.lt; replace hBk := hBk.below hb hBk.lt; replace hB2 := hB2.trans (hb.mono hB2.size); replace hqA := fun i => hA.cell i; replace hqB := fun i => hBk.cell i; replace hlA := hA.lt; replace hlB := hBk.lt; clear hb) | (go_at_call 133; refine (goodCells_any W H F L X Y CA cn ccap cs _ hcn ((hcr.below hB2).more hB2.size) (by omega) (by omega) (by omega) (by omega)).mono ?_; rintro e w1 ⟨rfl, hb⟩; rw [hcel]; replace hA := hA.below hb hA.lt; replace hBk := hBk.below hb hBk.lt; replace hB2 := hB2.trans (hb.mono hB2.size); replace hqA := fun i => hA.cell i; replace hqB := fun i => hBk.cell i; replace hlA := hA.lt; replace hlB := hBk.lt; clear hb) | (go_at_call 115; refine (shades_any W H F L X Y nl nh xl xh y A n cap fs _ hn hcm (fun f hf' => ((hf f hf').below hB2).more hB2.size) ((hr.below hB2).more hB2.size) hask2).mono ?_; rintro e w1 ⟨v1, rfl, own1, hb⟩; obtain ⟨A1, c1, rfl⟩ := own_slice own1; have hcap1 := own_le0 own1; have hr1 := Rd.of_own own1; clear own1; replace hA := hA.below hb hA.lt; replace hBk := hBk.below hb hBk.lt; replace hB2 := hB2.trans (hb.mono hB2.size); replace hqA := fun i => hA.cell i; replace hqB := fun i => hBk.cell i; replace hlA := hA.lt; replace hlB := hBk.lt; clear hb) | (go_at_call 135; refine (differences_any A1 _ c1 _ CA cn ccap (W.toNat * H.toNat) (cs.map Int.toNat) _ (by omega) hcap1 hc8 hsm' hshs (by omega) hcs hr1 (by rw [← hcsv]; exact (hcr.below hB2).more hB2.size)).mono ?_; rintro e w1 ⟨v2, m2, ds2, rfl, own2, hm2, hmem, hb⟩; obtain ⟨A2, c2, rfl⟩ := own_slice own2; have hr2 := Rd.of_own own2; clear own2 hr1; have hd2 : ∀ d ∈ ds2, d < 18446744073709551616 := (fun d hd => hdb d ((hmem d).1 hd)); replace hA := hA.below hb hA.lt; replace hBk := hBk.below hb hBk.lt; replace hB2 := hB2.trans (hb.mono hB2.size); replace hqA := fun i => hA.cell i; replace hqB := fun i => hBk.cell i; replace hlA := hA.lt; replace hlB := hBk.lt; clear hb) | (go_at_call 134; refine (tell_any A2 m2 c2 ds2 18446744073709551615 _ (by omega) hd2 (by omega) hr2).mono ?_; rintro e w1 ⟨rfl, rfl⟩; rw [tellB_congr hmem, htel]))
        go_ret2
        exact ⟨_, by simp [planE, hg, difP, hlcs, htel]; rfl, by simp [planL, hg, difP, hlcs, htel]; exact IsL.nil _, hB2⟩
      · go_enter Tryz.func75, Tryz.ntmps75
        go_wp2_with (first | (go_at_call 112; refine (goodReach_any W H F L X Y nl nh xl xh y A n cap fs _ (Nat.le_trans hn hcm) (fun f hf' => ((hf f hf').below hB2).more hB2.size) ((hr.below hB2).more hB2.size)).mono ?_; rintro e w1 ⟨rfl, hb⟩; rw [hask]; replace hA := hA.below hb hA.lt; replace hBk := hBk.below hb hBk.lt; replace hB2 := hB2.trans (hb.mono hB2.size); replace hqA := fun i => hA.cell i; replace hqB := fun i => hBk.cell i; replace hlA := hA.lt; replace hlB := hBk.lt; clear hb) | (go_at_call 133; refine (goodCells_any W H F L X Y CA cn ccap cs _ hcn ((hcr.below hB2).more hB2.size) (by omega) (by omega) (by omega) (by omega)).mono ?_; rintro e w1 ⟨rfl, hb⟩; rw [hcel]; replace hA := hA.below hb hA.lt; replace hBk := hBk.below hb hBk.lt; replace hB2 := hB2.trans (hb.mono hB2.size); replace hqA := fun i => hA.cell i; replace hqB := fun i => hBk.cell i; replace hlA := hA.lt; replace hlB := hBk.lt; clear hb) | (go_at_call 115; refine (shades_any W H F L X Y nl nh xl xh y A n cap fs _ hn hcm (fun f hf' => ((hf f hf').below hB2).more hB2.size) ((hr.below hB2).more hB2.size) hask2).mono ?_; rintro e w1 ⟨v1, rfl, own1, hb⟩; obtain ⟨A1, c1, rfl⟩ := own_slice own1; have hcap1 := own_le0 own1; have hr1 := Rd.of_own own1; clear own1; replace hA := hA.below hb hA.lt; replace hBk := hBk.below hb hBk.lt; replace hB2 := hB2.trans (hb.mono hB2.size); replace hqA := fun i => hA.cell i; replace hqB := fun i => hBk.cell i; replace hlA := hA.lt; replace hlB := hBk.lt; clear hb) | (go_at_call 135; refine (differences_any A1 _ c1 _ CA cn ccap (W.toNat * H.toNat) (cs.map Int.toNat) _ (by omega) hcap1 hc8 hsm' hshs (by omega) hcs hr1 (by rw [← hcsv]; exact (hcr.below hB2).more hB2.size)).mono ?_; rintro e w1 ⟨v2, m2, ds2, rfl, own2, hm2, hmem, hb⟩; obtain ⟨A2, c2, rfl⟩ := own_slice own2; have hr2 := Rd.of_own own2; clear own2 hr1; have hd2 : ∀ d ∈ ds2, d < 18446744073709551616 := (fun d hd => hdb d ((hmem d).1 hd)); replace hA := hA.below hb hA.lt; replace hBk := hBk.below hb hBk.lt; replace hB2 := hB2.trans (hb.mono hB2.size); replace hqA := fun i => hA.cell i; replace hqB := fun i => hBk.cell i; replace hlA := hA.lt; replace hlB := hBk.lt; clear hb) | (go_at_call 134; refine (tell_any A2 m2 c2 ds2 18446744073709551615 _ (by omega) hd2 (by omega) hr2).mono ?_; rintro e w1 ⟨rfl, rfl⟩; rw [tellB_congr hmem, htel]) | (go_at_call 136; refine (fewest_any A2 m2 c2 CA cn ccap ds2 (cs.map Int.toNat) _ (by omega) hc8 hd2 hr2 (by rw [← hcsv]; exact (hcr.below hB2).more hB2.size)).mono ?_; rintro e w1 ⟨v3, rfl, own3, hb⟩; rw [fewL_congr hmem] at own3; obtain ⟨A3, c3, rfl⟩ := own_slice own3; replace hA := hA.below hb hA.lt; replace hBk := hBk.below hb hBk.lt; replace hB2 := hB2.trans (hb.mono hB2.size); replace hqA := fun i => hA.cell i; replace hqB := fun i => hBk.cell i; replace hlA := hA.lt; replace hlB := hBk.lt; clear hb))
        go_ret2
        refine ⟨_, by simp [planE, hg, difP, hlcs, htel]; rfl, ?_, hB2⟩
        rw [show planL W H F L X Y nl nh xl xh y fs cs = fewL (diffAll (cs.map Int.toNat) cn (shL W H F L X Y nl nh xl xh y fs)) (cs.map Int.toNat) by simp [planL, hg, difP, hlcs, htel]]
        have hIR := Rd.of_own own3
        exact ⟨A3, _, c3, rfl, own_le0 own3, own_cap own3, by simpa using hIR⟩
end Go.Proofs.YtifddfchpknkbaaGreatDoor
