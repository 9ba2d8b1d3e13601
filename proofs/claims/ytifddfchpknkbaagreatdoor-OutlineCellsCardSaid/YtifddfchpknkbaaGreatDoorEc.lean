import Derived.Test.YtifddfchpknkbaaGreatDoorEk
set_option linter.unusedVariables false
set_option linter.unusedSimpArgs false
namespace Go.Proofs.YtifddfchpknkbaaGreatDoor
open Go.RowKit

set_option maxRecDepth 100000 in
set_option maxHeartbeats 25600000 in
theorem refFewest_any (Wn : Nat) (H F L X Y y : Int) (tA : Option Addr) (tn tc : Nat) (tl : List Tr) (uA : Option Addr) (uc : Nat) (vs : List Value) (cls : List (List ByteArray)) (base : Nat) (CA : Option Addr) (cn cc : Nat) (cs : List Nat) (z : Nat → Nat → Int) (htn : tn ≤ 1000) (hcn : cn ≤ 10) (hW : 1 ≤ Wn) (hW2 : Wn ≤ 100) (hclen : cs.length = cn) (hOK : ∀ c ∈ cs, okC Wn cls z c) :
    ∀ (k : Nat) (nA : Option Addr) (nn nc lo N : Nat) (now : List Nat) (loI : Int) (w : World) (hT : Rd w w.heap.size 4 tA tn (tl.flatMap (rdC y))) (hU : Rd w w.heap.size 1 uA tn vs) (hcl : Cloths w base vs cls) (hC : Rd w w.heap.size 1 CA cn (cs.map natV)) (hloI : loI = lo) (hnow : ∀ c ∈ now, okC Wn cls z c) (hlo : lo ≤ cn) (hN : N = nn + k) (hN10 : N ≤ 10) (hnn : nn ≤ nc) (hnc : nc ≤ maxLen) (hNr : Rd w w.heap.size 1 nA nn (now.map natV)),
    Calls Tryz.prog 138 #[.agg #[.int .i64 Wn, .int .i64 H, .int .i64 F, .int .i64 L, .int .i64 X, .int .i64 Y], .slice tA tn tc, .slice uA tn uc, .slice CA cn cc, .slice nA nn nc, .int .i64 loI, .int .i64 N] w fun e w' => RefPost w (refF (fun l => telA (fiT tl) z l tn) cs k lo now) e w' := by
  obtain ⟨i3, hi, hz0, hz1', hz2'⟩ := info_parts info3
  have HOK := Lib.hid hOK; clear hOK
  intro k
  induction k with
  | zero =>
    intro nA nn nc lo N now loI w hT hU hcl hC hloI hnow hlo hN hN10 hnn hnc hNr
    obtain rfl : N = nn := by omega
    clear hN
    subst hloI
    have HNW := Lib.hid hnow; clear hnow
    have htel := fun wx h1 h2 h3 h4 => tells_any Wn H F L X Y y tA tn tc tl uA uc vs cls base nA N nc now z wx htn h1 h2 h3 h4 (by omega) hW hW2 (fun c hc => (HNW.out c hc).1) (fun i h c hc => (HNW.out c hc).2 i h)
    obtain ⟨tv, htv⟩ : ∃ tv, tv = telA (fiT tl) z now tn := ⟨_, rfl⟩
    simp only [← htv] at htel
    have HTV := Lib.hid htv; have HTEL := Lib.hid htel; clear htv htel
    go_enter Tryz.func138, Tryz.ntmps138
    go_upto_region 1 with (fail)
    have hS := Blk.new w 23 #[.int .i64 Wn, .int .i64 H, .int .i64 F, .int .i64 L, .int .i64 X, .int .i64 Y]
    have hB : Below w.heap.size w (w.alloc (.cells #[.int .i64 Wn, .int .i64 H, .int .i64 F, .int .i64 L, .int .i64 X, .int .i64 Y] 23)) := (Below.refl _ w).alloc (Nat.le_refl _) _
    generalize w.alloc (.cells #[.int .i64 Wn, .int .i64 H, .int .i64 F, .int .i64 L, .int .i64 X, .int .i64 Y] 23) = W0 at *
    have qS := fun i => Blk.cell hS i
    go_wp2_with (go_at_call 137; refine (HTEL.out _ (rdB hT hB) (rdB hU hB) (hcl.below hB) (rdB hNr hB)).mono ?_; rintro e w1 ⟨rfl, hb⟩)
    have hIs : IsL w1 (.slice nA N nc) (now.map natV) := ⟨nA, N, nc, rfl, hnn, hnc, rdB hNr (hB.trans (hb.mono hB.size))⟩
    replace hB := hB.trans (hb.mono hB.size)
    cases tv
    · go_ret2
      have e0 : refF (fun l => telA (fiT tl) z l tn) cs 0 lo now = none := by simp only [refF, ← HTV.out]; rfl
      rw [e0]
      exact ⟨_, rfl, hB⟩
    · go_ret2
      have e0 : refF (fun l => telA (fiT tl) z l tn) cs 0 lo now = some now := by simp only [refF, ← HTV.out]; rfl
      rw [e0]
      exact ⟨_, rfl, hIs, hB⟩
  | succ k ih =>
    intro nA nn nc lo N now loI w hT hU hcl hC hloI hnow hlo hN hN10 hnn hnc hNr
    have HNW := Lib.hid hnow; clear hnow
    have hne : ((nn : Int) == N) = false := by simp; omega
    have hnnb : nn ≤ 9 := by omega
    have HN := Lib.hid hN
    subst hloI
    clear hN
    obtain ⟨t, htd⟩ : ∃ t : List Nat → Bool, t = fun l => telA (fiT tl) z l tn := ⟨_, rfl⟩
    rw [← htd] at ih ⊢
    clear htd
    have hrf : refF t cs (k + 1) lo now = refU t cs k lo now cn := by rw [← hclen]; rfl
    have HRF := Lib.hid hrf; clear hrf
    go_enter Tryz.func138, Tryz.ntmps138
    go_upto_region 1 with (fail)
    have hS := Blk.new w 23 #[.int .i64 Wn, .int .i64 H, .int .i64 F, .int .i64 L, .int .i64 X, .int .i64 Y]
    have hB : Below w.heap.size w (w.alloc (.cells #[.int .i64 Wn, .int .i64 H, .int .i64 F, .int .i64 L, .int .i64 X, .int .i64 Y] 23)) := (Below.refl _ w).alloc (Nat.le_refl _) _
    generalize w.alloc (.cells #[.int .i64 Wn, .int .i64 H, .int .i64 F, .int .i64 L, .int .i64 X, .int .i64 Y] 23) = W0 at *
    go_wp2_with (fail)
    go_loopg [16] (cn - lo) (fun g i wr => ∃ (q : Nat), g = cn - q ∧ lo ≤ q ∧ q ≤ cn ∧ i = .int .i64 q ∧ refU t cs k lo now q = none ∧ Blk wr w.heap.size 23 #[.int .i64 Wn, .int .i64 H, .int .i64 F, .int .i64 L, .int .i64 X, .int .i64 Y] ∧ Below w.heap.size w wr)
    case atStart => exact ⟨lo, rfl, Nat.le_refl _, hlo, rfl, refU_start _ _ _ _ _, hS, hB⟩
    case round =>
      clear hS hB
      obtain ⟨q, hg, hq1, hq2, rfl, hno, hS, hB⟩ := hrel
      have HG := Lib.hid hg; clear hg
      rename World => W1
      by_cases hlt : q < cn
      · have hlti : (q : Int) < cn := by omega
        have hsu := refU_succ t cs k lo now q hq1 hno
        obtain ⟨bC, oC, hzc, rfl, hbC, hcc⟩ := (rdB hC hB).atm hlt
        have hgd : cs.getD q 0 = cs[q] := by rw [List.getD, List.getElem?_eq_getElem hzc]; rfl
        have hcm : cs[q] ∈ cs := List.getElem_mem hzc
        rw [hgd] at hsu
        simp only [natV] at hcc
        generalize cs[q] = c at *
        have HNOW2 := Lib.hid (show ∀ c' ∈ now ++ [c], okC Wn cls z c' from fun c' h => by
          rcases List.mem_append.1 h with h | h
          · exact HNW.out _ h
          · obtain rfl : c' = c := by simpa using h
            exact HOK.out _ hcm)
        have hwq := i64_ok ((q : Int) + 1) (by omega)
        have HSU := Lib.hid hsu; clear hsu hno hgd hcm
        go_upto_region 6 with (fail)
        cases hq3 : refF t cs k (q + 1) (now ++ [c]) with
        | some l =>
          have HFIN := Lib.hid (show refF t cs (k + 1) lo now = some l by rw [HRF.out]; exact refU_stop _ _ _ _ _ _ (q + 1) cn (by omega) (by rw [HSU.out, hq3]))
          have HQ2 := Lib.hid hq3; clear hq3
          as_aux_lemma =>
            rename World => WR
            refine wp_region_G (fun w' => Below WR.drew.heap.size WR.drew w') 20 (by kernel_rfl) ?_
            replace hS := hS.drew
            replace hB := hB.drew
            replace hcc : WR.drew.cell? ⟨bC, oC + q, none⟩ = some (.int .i64 c) := hcc
            replace hbC : bC < WR.drew.heap.size := hbC
            generalize WR.drew = WD at *
            have hTT : Below WD.heap.size WD WD := Below.refl _ _
            have hBs := hB.size
            refine wpG_take (i := 0) (v := ?vs0) rfl (by kernel_rfl) (by kernel_rfl) (by kernel_rfl) (by kernel_rfl) (fun _ _ _ h => h) (Or.inl ⟨by rfl, ?hys0⟩) hTT ?rests0
            case hys0 => intro wq hSw; have qS := fun i => (Blk.below hS hSw hS.lt).cell i; have qc := (hSw.cell (p := ⟨bC, oC + q, none⟩) hbC).trans hcc; go_simp <;> with_reducible rfl
            simp only [List.getElem_toArray, List.getElem_cons_zero, List.getElem_cons_succ, Act.put, List.setIfInBounds_toArray, List.set_cons_zero, List.set_cons_succ]
            refine wpG_take (i := 1) (v := ?vs1) rfl (by kernel_rfl) (by kernel_rfl) (by kernel_rfl) (by kernel_rfl) (fun _ _ _ h => h) (Or.inl ⟨by rfl, ?hys1⟩) hTT ?rests1
            case hys1 => intro wq hSw; have qS := fun i => (Blk.below hS hSw hS.lt).cell i; have qc := (hSw.cell (p := ⟨bC, oC + q, none⟩) hbC).trans hcc; go_simp <;> with_reducible rfl
            simp only [List.getElem_toArray, List.getElem_cons_zero, List.getElem_cons_succ, Act.put, List.setIfInBounds_toArray, List.set_cons_zero, List.set_cons_succ]
            refine wpG_take (i := 2) (v := ?vs2) rfl (by kernel_rfl) (by kernel_rfl) (by kernel_rfl) (by kernel_rfl) (fun _ _ _ h => h) (Or.inl ⟨by rfl, ?hys2⟩) hTT ?rests2
            case hys2 => intro wq hSw; have qS := fun i => (Blk.below hS hSw hS.lt).cell i; have qc := (hSw.cell (p := ⟨bC, oC + q, none⟩) hbC).trans hcc; go_simp <;> with_reducible rfl
            simp only [List.getElem_toArray, List.getElem_cons_zero, List.getElem_cons_succ, Act.put, List.setIfInBounds_toArray, List.set_cons_zero, List.set_cons_succ]
            refine wpG_take (i := 3) (v := ?vs3) rfl (by kernel_rfl) (by kernel_rfl) (by kernel_rfl) (by kernel_rfl) (fun _ _ _ h => h) (Or.inl ⟨by rfl, ?hys3⟩) hTT ?rests3
            case hys3 => intro wq hSw; have qS := fun i => (Blk.below hS hSw hS.lt).cell i; have qc := (hSw.cell (p := ⟨bC, oC + q, none⟩) hbC).trans hcc; go_simp <;> with_reducible rfl
            simp only [List.getElem_toArray, List.getElem_cons_zero, List.getElem_cons_succ, Act.put, List.setIfInBounds_toArray, List.set_cons_zero, List.set_cons_succ]
            refine wpG_take (i := 4) (v := ?vs4) rfl (by kernel_rfl) (by kernel_rfl) (by kernel_rfl) (by kernel_rfl) (fun _ _ _ h => h) (Or.inl ⟨by rfl, ?hys4⟩) hTT ?rests4
            case hys4 => intro wq hSw; have qS := fun i => (Blk.below hS hSw hS.lt).cell i; have qc := (hSw.cell (p := ⟨bC, oC + q, none⟩) hbC).trans hcc; go_simp <;> with_reducible rfl
            simp only [List.getElem_toArray, List.getElem_cons_zero, List.getElem_cons_succ, Act.put, List.setIfInBounds_toArray, List.set_cons_zero, List.set_cons_succ]
            refine wpG_take (i := 6) (v := ?vs6) rfl (by kernel_rfl) (by kernel_rfl) (by kernel_rfl) (by kernel_rfl) (fun _ _ _ h => h) (Or.inl ⟨by rfl, ?hys6⟩) hTT ?rests6
            case hys6 => intro wq hSw; have qS := fun i => (Blk.below hS hSw hS.lt).cell i; have qc := (hSw.cell (p := ⟨bC, oC + q, none⟩) hbC).trans hcc; go_simp <;> with_reducible rfl
            simp only [List.getElem_toArray, List.getElem_cons_zero, List.getElem_cons_succ, Act.put, List.setIfInBounds_toArray, List.set_cons_zero, List.set_cons_succ]
            refine wpG_take (i := 7) (v := ?vs7) rfl (by kernel_rfl) (by kernel_rfl) (by kernel_rfl) (by kernel_rfl) (fun _ _ _ h => h) (Or.inl ⟨by rfl, ?hys7⟩) hTT ?rests7
            case hys7 => intro wq hSw; have qS := fun i => (Blk.below hS hSw hS.lt).cell i; have qc := (hSw.cell (p := ⟨bC, oC + q, none⟩) hbC).trans hcc; go_simp <;> with_reducible rfl
            simp only [List.getElem_toArray, List.getElem_cons_zero, List.getElem_cons_succ, Act.put, List.setIfInBounds_toArray, List.set_cons_zero, List.set_cons_succ]
            refine wpG_take (i := 8) (v := ?vs8) rfl (by kernel_rfl) (by kernel_rfl) (by kernel_rfl) (by kernel_rfl) (fun _ _ _ h => h) (Or.inl ⟨by rfl, ?hys8⟩) hTT ?rests8
            case hys8 => intro wq hSw; have qS := fun i => (Blk.below hS hSw hS.lt).cell i; have qc := (hSw.cell (p := ⟨bC, oC + q, none⟩) hbC).trans hcc; go_simp <;> with_reducible rfl
            simp only [List.getElem_toArray, List.getElem_cons_zero, List.getElem_cons_succ, Act.put, List.setIfInBounds_toArray, List.set_cons_zero, List.set_cons_succ]
            refine wpG_take (i := 9) (v := ?vs9) rfl (by kernel_rfl) (by kernel_rfl) (by kernel_rfl) (by kernel_rfl) (fun _ _ _ h => h) (Or.inl ⟨by rfl, ?hys9⟩) hTT ?rests9
            case hys9 => intro wq hSw; have qS := fun i => (Blk.below hS hSw hS.lt).cell i; have qc := (hSw.cell (p := ⟨bC, oC + q, none⟩) hbC).trans hcc; go_simp <;> with_reducible rfl
            simp only [List.getElem_toArray, List.getElem_cons_zero, List.getElem_cons_succ, Act.put, List.setIfInBounds_toArray, List.set_cons_zero, List.set_cons_succ]
            refine wpG_take (i := 12) (v := ?vs12) rfl (by kernel_rfl) (by kernel_rfl) (by kernel_rfl) (by kernel_rfl) (fun _ _ _ h => h) (Or.inl ⟨by rfl, ?hys12⟩) hTT ?rests12
            case hys12 => intro wq hSw; have qS := fun i => (Blk.below hS hSw hS.lt).cell i; have qc := (hSw.cell (p := ⟨bC, oC + q, none⟩) hbC).trans hcc; go_simp <;> with_reducible rfl
            simp only [List.getElem_toArray, List.getElem_cons_zero, List.getElem_cons_succ, Act.put, List.setIfInBounds_toArray, List.set_cons_zero, List.set_cons_succ]
            refine wpG_take (i := 13) (v := ?vs13) rfl (by kernel_rfl) (by kernel_rfl) (by kernel_rfl) (by kernel_rfl) (fun _ _ _ h => h) (Or.inl ⟨by rfl, ?hys13⟩) hTT ?rests13
            case hys13 => intro wq hSw; have qS := fun i => (Blk.below hS hSw hS.lt).cell i; have qc := (hSw.cell (p := ⟨bC, oC + q, none⟩) hbC).trans hcc; go_simp <;> with_reducible rfl
            simp only [List.getElem_toArray, List.getElem_cons_zero, List.getElem_cons_succ, Act.put, List.setIfInBounds_toArray, List.set_cons_zero, List.set_cons_succ]
            refine wpG_take (i := 14) (v := ?vs14) rfl (by kernel_rfl) (by kernel_rfl) (by kernel_rfl) (by kernel_rfl) (fun _ _ _ h => h) (Or.inl ⟨by rfl, ?hys14⟩) hTT ?rests14
            case hys14 => intro wq hSw; have qS := fun i => (Blk.below hS hSw hS.lt).cell i; have qc := (hSw.cell (p := ⟨bC, oC + q, none⟩) hbC).trans hcc; go_simp <;> with_reducible rfl
            simp only [List.getElem_toArray, List.getElem_cons_zero, List.getElem_cons_succ, Act.put, List.setIfInBounds_toArray, List.set_cons_zero, List.set_cons_succ]
            clear hcc hbC
            refine wpG_two (i := 5) (j := 10) rfl rfl (by kernel_rfl) (fun K hK => ?_) (fun K hK => ?_)
            · rw [if_pos (by rfl)]; refine wp_append_any _ _ _ 87 rfl WD.heap.size 3 i3 (.int .i64 0) 1 8 Tryz.underlying87 hi hz0 hz1' hz2' rfl (by decide) _ 0 [] rfl (World.ownsRow_nil _ _ _ _) _ nA nn nc (now.map natV) rfl (rdB hNr hB).reads (by simp [Value.oneCell', natV]) (by unfold maxLen; omega) (by omega) (Nat.le_refl _) (fun v' w1 hown hgrow hob => ?_)
              rw [Nat.zero_add, List.nil_append] at hown
              replace hS := hS.grown hgrow (fun e => by cases e)
              replace hTT := hTT.grown hgrow hTT.size (fun z hz => by cases hz)
              replace hB := hB.grown hgrow hB.size (fun z hz => by cases hz)
              refine hK _ _ (.inr hTT) ?_
              clear hK K
              try simp only [List.getElem_toArray, List.getElem_cons_zero, List.getElem_cons_succ, Act.put, List.setIfInBounds_toArray, List.set_cons_zero, List.set_cons_succ]
              refine wpG_one (i := 10) rfl (by kernel_rfl) (fun K hK => ?_)
              go_simp
              obtain ⟨gM, hgM⟩ : ∃ g, g = w1.heap.size := ⟨_, rfl⟩
              have hbm : Blk (w1.alloc (.cells #[.int .i64 c] 3)) gM 3 #[.int .i64 c] := by rw [hgM]; exact Blk.new w1 3 #[.int .i64 c]
              rw [← hgM]
              replace hown := hown.alloc (.cells #[.int .i64 c] 3)
              replace hTT := hTT.alloc hTT.size (.cells #[.int .i64 c] 3)
              replace hS := hS.alloc (.cells #[.int .i64 c] 3)
              replace hB := hB.alloc hB.size (.cells #[.int .i64 c] 3)
              refine hK _ _ (.inr hTT) ?_
              clear hK K
              try simp only [List.getElem_toArray, List.getElem_cons_zero, List.getElem_cons_succ, Act.put, List.setIfInBounds_toArray, List.set_cons_zero, List.set_cons_succ]
              refine wpG_one (i := 11) rfl (by kernel_rfl) (fun K hK => ?_)
              obtain ⟨oA, oE, rfl⟩ := own_slice hown
              rw [if_pos (by rfl)]; refine wp_append_any _ _ _ 87 rfl WD.heap.size 3 i3 (.int .i64 0) 1 8 Tryz.underlying87 hi hz0 hz1' hz2' rfl (by decide) _ nn (now.map natV) rfl hown _ (some ⟨gM, 0, none⟩) 1 1 [natV c] rfl (Rd.blkN hbm rfl hbm.lt).reads (by simp [Value.oneCell', natV]) (by unfold maxLen; omega) (by omega) (by have := hTT.size; simpa using this) (fun v2 w2 hown2 hgrow2 hob2 => ?_)
              replace hS := hS.kept_own hown (by decide) hgrow2
              replace hTT := hTT.grown hgrow2 hTT.size (fun g hg => (hown.lt g hg).1)
              replace hB := hB.grown hgrow2 hB.size (fun g hg => Nat.le_trans hBs (hown.lt g hg).1)
              refine hK _ _ (.inr hTT) ?_
              clear hK K
              try simp only [List.getElem_toArray, List.getElem_cons_zero, List.getElem_cons_succ, Act.put, List.setIfInBounds_toArray, List.set_cons_zero, List.set_cons_succ]
              obtain ⟨xA, xC, rfl⟩ := own_slice hown2
              have hx1 := own_le0 hown2
              have hx2 := own_cap hown2
              have hX := Rd.of_own hown2
              rw [show now.map natV ++ [natV c] = (now ++ [c]).map natV by rw [List.map_append]; rfl] at hX
              clear hown hown2 hbm hgrow2 hob2 hgM
              refine wpG_one (i := 15) rfl (by kernel_rfl) (fun K hK => ?_)
              go_simp
              go_at_call 138
              refine (ih xA (nn + 1) xC (q + 1) N (now ++ [c]) _ _ (rdB hT hB) (rdB hU hB) (hcl.below hB) (rdB hC hB) (by omega) HNOW2.out (by omega) (by have := HN.out; omega) hN10 hx1 hx2 hX).mono ?_
              rintro e w5 hp
              rw [HQ2.out] at hp
              obtain ⟨v, rfl, hIs, hb⟩ := hp
              replace hTT := hTT.trans (hb.mono hTT.size)
              replace hS := hS.below hb hS.lt
              replace hB := hB.trans (hb.mono hB.size)
              clear hb hX
              refine hK _ _ (.inr hTT) ?_
              clear hK K
              try simp only [List.getElem_toArray, List.getElem_cons_zero, List.getElem_cons_succ, Act.put, List.setIfInBounds_toArray, List.set_cons_zero, List.set_cons_succ]
              refine wpG_take (i := 16) (v := ?vsa16) rfl (by kernel_rfl) (by kernel_rfl) (by kernel_rfl) (by kernel_rfl) (fun _ _ _ h => h) (Or.inl ⟨by rfl, ?hysa16⟩) hTT ?restsa16
              case hysa16 => intro wq hSw; go_simp <;> with_reducible rfl
              simp only [List.getElem_toArray, List.getElem_cons_zero, List.getElem_cons_succ, Act.put, List.setIfInBounds_toArray, List.set_cons_zero, List.set_cons_succ]
              refine wpG_take (i := 17) (v := ?vsa17) rfl (by kernel_rfl) (by kernel_rfl) (by kernel_rfl) (by kernel_rfl) (fun _ _ _ h => h) (Or.inl ⟨by rfl, ?hysa17⟩) hTT ?restsa17
              case hysa17 => intro wq hSw; go_simp <;> with_reducible rfl
              simp only [List.getElem_toArray, List.getElem_cons_zero, List.getElem_cons_succ, Act.put, List.setIfInBounds_toArray, List.set_cons_zero, List.set_cons_succ]
              refine wpG_take (i := 18) (v := ?vsa18) rfl (by kernel_rfl) (by kernel_rfl) (by kernel_rfl) (by kernel_rfl) (fun _ _ _ h => h) (Or.inl ⟨by rfl, ?hysa18⟩) hTT ?restsa18
              case hysa18 => intro wq hSw; go_simp <;> with_reducible rfl
              simp only [List.getElem_toArray, List.getElem_cons_zero, List.getElem_cons_succ, Act.put, List.setIfInBounds_toArray, List.set_cons_zero, List.set_cons_succ]
              refine wpG_take (i := 19) (v := ?vsa19) rfl (by kernel_rfl) (by kernel_rfl) (by kernel_rfl) (by kernel_rfl) (fun _ _ _ h => h) (Or.inl ⟨by rfl, ?hysa19⟩) hTT ?restsa19
              case hysa19 => intro wq hSw; go_simp <;> with_reducible rfl
              simp only [List.getElem_toArray, List.getElem_cons_zero, List.getElem_cons_succ, Act.put, List.setIfInBounds_toArray, List.set_cons_zero, List.set_cons_succ]
              refine wpG_one (i := 20) rfl (by kernel_rfl) (fun K hK => ?_)
              go_simp
              refine hK _ _ (.inl rfl) ?_
              clear hK K
              try simp only [List.getElem_toArray, List.getElem_cons_zero, List.getElem_cons_succ, Act.put, List.setIfInBounds_toArray, List.set_cons_zero, List.set_cons_succ]
              refine wpG_done (by kernel_rfl) ?_ _
              clear hTT
              go_wp2_with (fail)
              go_ret2
              rw [HFIN.out]
              exact ⟨_, rfl, hIs, hB⟩
            · go_simp
              obtain ⟨gM, hgM⟩ : ∃ g, g = WD.heap.size := ⟨_, rfl⟩
              have hbm : Blk (WD.alloc (.cells #[.int .i64 c] 3)) gM 3 #[.int .i64 c] := by rw [hgM]; exact Blk.new WD 3 #[.int .i64 c]
              rw [← hgM]
              replace hTT := hTT.alloc hTT.size (.cells #[.int .i64 c] 3)
              replace hS := hS.alloc (.cells #[.int .i64 c] 3)
              replace hB := hB.alloc hB.size (.cells #[.int .i64 c] 3)
              refine hK _ _ (.inr hTT) ?_
              clear hK K
              try simp only [List.getElem_toArray, List.getElem_cons_zero, List.getElem_cons_succ, Act.put, List.setIfInBounds_toArray, List.set_cons_zero, List.set_cons_succ]
              refine wpG_one (i := 5) rfl (by kernel_rfl) (fun K hK => ?_)
              rw [if_pos (by rfl)]; refine wp_append_any _ _ _ 87 rfl WD.heap.size 3 i3 (.int .i64 0) 1 8 Tryz.underlying87 hi hz0 hz1' hz2' rfl (by decide) _ 0 [] rfl (World.ownsRow_nil _ _ _ _) _ nA nn nc (now.map natV) rfl (rdB hNr hB).reads (by simp [Value.oneCell', natV]) (by unfold maxLen; omega) (by omega) (by simp) (fun v' w1 hown hgrow hob => ?_)
              replace hbm := hbm.grown hgrow (fun e => by cases e)
              rw [Nat.zero_add, List.nil_append] at hown
              replace hS := hS.grown hgrow (fun e => by cases e)
              replace hTT := hTT.grown hgrow hTT.size (fun z hz => by cases hz)
              replace hB := hB.grown hgrow hB.size (fun z hz => by cases hz)
              refine hK _ _ (.inr hTT) ?_
              clear hK K
              try simp only [List.getElem_toArray, List.getElem_cons_zero, List.getElem_cons_succ, Act.put, List.setIfInBounds_toArray, List.set_cons_zero, List.set_cons_succ]
              refine wpG_one (i := 11) rfl (by kernel_rfl) (fun K hK => ?_)
              obtain ⟨oA, oE, rfl⟩ := own_slice hown
              rw [if_pos (by rfl)]; refine wp_append_any _ _ _ 87 rfl WD.heap.size 3 i3 (.int .i64 0) 1 8 Tryz.underlying87 hi hz0 hz1' hz2' rfl (by decide) _ nn (now.map natV) rfl hown _ (some ⟨gM, 0, none⟩) 1 1 [natV c] rfl (Rd.blkN hbm rfl hbm.lt).reads (by simp [Value.oneCell', natV]) (by unfold maxLen; omega) (by omega) (by have := hTT.size; simpa using this) (fun v2 w2 hown2 hgrow2 hob2 => ?_)
              replace hS := hS.kept_own hown (by decide) hgrow2
              replace hTT := hTT.grown hgrow2 hTT.size (fun g hg => (hown.lt g hg).1)
              replace hB := hB.grown hgrow2 hB.size (fun g hg => Nat.le_trans hBs (hown.lt g hg).1)
              refine hK _ _ (.inr hTT) ?_
              clear hK K
              try simp only [List.getElem_toArray, List.getElem_cons_zero, List.getElem_cons_succ, Act.put, List.setIfInBounds_toArray, List.set_cons_zero, List.set_cons_succ]
              obtain ⟨xA, xC, rfl⟩ := own_slice hown2
              have hx1 := own_le0 hown2
              have hx2 := own_cap hown2
              have hX := Rd.of_own hown2
              rw [show now.map natV ++ [natV c] = (now ++ [c]).map natV by rw [List.map_append]; rfl] at hX
              clear hown hown2 hbm hgrow2 hob2 hgM
              refine wpG_one (i := 15) rfl (by kernel_rfl) (fun K hK => ?_)
              go_simp
              go_at_call 138
              refine (ih xA (nn + 1) xC (q + 1) N (now ++ [c]) _ _ (rdB hT hB) (rdB hU hB) (hcl.below hB) (rdB hC hB) (by omega) HNOW2.out (by omega) (by have := HN.out; omega) hN10 hx1 hx2 hX).mono ?_
              rintro e w5 hp
              rw [HQ2.out] at hp
              obtain ⟨v, rfl, hIs, hb⟩ := hp
              replace hTT := hTT.trans (hb.mono hTT.size)
              replace hS := hS.below hb hS.lt
              replace hB := hB.trans (hb.mono hB.size)
              clear hb hX
              refine hK _ _ (.inr hTT) ?_
              clear hK K
              try simp only [List.getElem_toArray, List.getElem_cons_zero, List.getElem_cons_succ, Act.put, List.setIfInBounds_toArray, List.set_cons_zero, List.set_cons_succ]
              refine wpG_take (i := 16) (v := ?vsb16) rfl (by kernel_rfl) (by kernel_rfl) (by kernel_rfl) (by kernel_rfl) (fun _ _ _ h => h) (Or.inl ⟨by rfl, ?hysb16⟩) hTT ?restsb16
              case hysb16 => intro wq hSw; go_simp <;> with_reducible rfl
              simp only [List.getElem_toArray, List.getElem_cons_zero, List.getElem_cons_succ, Act.put, List.setIfInBounds_toArray, List.set_cons_zero, List.set_cons_succ]
              refine wpG_take (i := 17) (v := ?vsb17) rfl (by kernel_rfl) (by kernel_rfl) (by kernel_rfl) (by kernel_rfl) (fun _ _ _ h => h) (Or.inl ⟨by rfl, ?hysb17⟩) hTT ?restsb17
              case hysb17 => intro wq hSw; go_simp <;> with_reducible rfl
              simp only [List.getElem_toArray, List.getElem_cons_zero, List.getElem_cons_succ, Act.put, List.setIfInBounds_toArray, List.set_cons_zero, List.set_cons_succ]
              refine wpG_take (i := 18) (v := ?vsb18) rfl (by kernel_rfl) (by kernel_rfl) (by kernel_rfl) (by kernel_rfl) (fun _ _ _ h => h) (Or.inl ⟨by rfl, ?hysb18⟩) hTT ?restsb18
              case hysb18 => intro wq hSw; go_simp <;> with_reducible rfl
              simp only [List.getElem_toArray, List.getElem_cons_zero, List.getElem_cons_succ, Act.put, List.setIfInBounds_toArray, List.set_cons_zero, List.set_cons_succ]
              refine wpG_take (i := 19) (v := ?vsb19) rfl (by kernel_rfl) (by kernel_rfl) (by kernel_rfl) (by kernel_rfl) (fun _ _ _ h => h) (Or.inl ⟨by rfl, ?hysb19⟩) hTT ?restsb19
              case hysb19 => intro wq hSw; go_simp <;> with_reducible rfl
              simp only [List.getElem_toArray, List.getElem_cons_zero, List.getElem_cons_succ, Act.put, List.setIfInBounds_toArray, List.set_cons_zero, List.set_cons_succ]
              refine wpG_one (i := 20) rfl (by kernel_rfl) (fun K hK => ?_)
              go_simp
              refine hK _ _ (.inl rfl) ?_
              clear hK K
              try simp only [List.getElem_toArray, List.getElem_cons_zero, List.getElem_cons_succ, Act.put, List.setIfInBounds_toArray, List.set_cons_zero, List.set_cons_succ]
              refine wpG_done (by kernel_rfl) ?_ _
              clear hTT
              go_wp2_with (fail)
              go_ret2
              rw [HFIN.out]
              exact ⟨_, rfl, hIs, hB⟩
        | none =>
          have HNX := Lib.hid (show refU t cs k lo now (q + 1) = none by rw [HSU.out, hq3])
          have HQ2 := Lib.hid hq3; clear hq3
          as_aux_lemma =>
            rename World => WR
            refine wp_region_G (fun w' => Below WR.drew.heap.size WR.drew w') 20 (by kernel_rfl) ?_
            replace hS := hS.drew
            replace hB := hB.drew
            replace hcc : WR.drew.cell? ⟨bC, oC + q, none⟩ = some (.int .i64 c) := hcc
            replace hbC : bC < WR.drew.heap.size := hbC
            generalize WR.drew = WD at *
            have hTT : Below WD.heap.size WD WD := Below.refl _ _
            have hBs := hB.size
            refine wpG_take (i := 0) (v := ?vn0) rfl (by kernel_rfl) (by kernel_rfl) (by kernel_rfl) (by kernel_rfl) (fun _ _ _ h => h) (Or.inl ⟨by rfl, ?hyn0⟩) hTT ?restn0
            case hyn0 => intro wq hSw; have qS := fun i => (Blk.below hS hSw hS.lt).cell i; have qc := (hSw.cell (p := ⟨bC, oC + q, none⟩) hbC).trans hcc; go_simp <;> with_reducible rfl
            simp only [List.getElem_toArray, List.getElem_cons_zero, List.getElem_cons_succ, Act.put, List.setIfInBounds_toArray, List.set_cons_zero, List.set_cons_succ]
            refine wpG_take (i := 1) (v := ?vn1) rfl (by kernel_rfl) (by kernel_rfl) (by kernel_rfl) (by kernel_rfl) (fun _ _ _ h => h) (Or.inl ⟨by rfl, ?hyn1⟩) hTT ?restn1
            case hyn1 => intro wq hSw; have qS := fun i => (Blk.below hS hSw hS.lt).cell i; have qc := (hSw.cell (p := ⟨bC, oC + q, none⟩) hbC).trans hcc; go_simp <;> with_reducible rfl
            simp only [List.getElem_toArray, List.getElem_cons_zero, List.getElem_cons_succ, Act.put, List.setIfInBounds_toArray, List.set_cons_zero, List.set_cons_succ]
            refine wpG_take (i := 2) (v := ?vn2) rfl (by kernel_rfl) (by kernel_rfl) (by kernel_rfl) (by kernel_rfl) (fun _ _ _ h => h) (Or.inl ⟨by rfl, ?hyn2⟩) hTT ?restn2
            case hyn2 => intro wq hSw; have qS := fun i => (Blk.below hS hSw hS.lt).cell i; have qc := (hSw.cell (p := ⟨bC, oC + q, none⟩) hbC).trans hcc; go_simp <;> with_reducible rfl
            simp only [List.getElem_toArray, List.getElem_cons_zero, List.getElem_cons_succ, Act.put, List.setIfInBounds_toArray, List.set_cons_zero, List.set_cons_succ]
            refine wpG_take (i := 3) (v := ?vn3) rfl (by kernel_rfl) (by kernel_rfl) (by kernel_rfl) (by kernel_rfl) (fun _ _ _ h => h) (Or.inl ⟨by rfl, ?hyn3⟩) hTT ?restn3
            case hyn3 => intro wq hSw; have qS := fun i => (Blk.below hS hSw hS.lt).cell i; have qc := (hSw.cell (p := ⟨bC, oC + q, none⟩) hbC).trans hcc; go_simp <;> with_reducible rfl
            simp only [List.getElem_toArray, List.getElem_cons_zero, List.getElem_cons_succ, Act.put, List.setIfInBounds_toArray, List.set_cons_zero, List.set_cons_succ]
            refine wpG_take (i := 4) (v := ?vn4) rfl (by kernel_rfl) (by kernel_rfl) (by kernel_rfl) (by kernel_rfl) (fun _ _ _ h => h) (Or.inl ⟨by rfl, ?hyn4⟩) hTT ?restn4
            case hyn4 => intro wq hSw; have qS := fun i => (Blk.below hS hSw hS.lt).cell i; have qc := (hSw.cell (p := ⟨bC, oC + q, none⟩) hbC).trans hcc; go_simp <;> with_reducible rfl
            simp only [List.getElem_toArray, List.getElem_cons_zero, List.getElem_cons_succ, Act.put, List.setIfInBounds_toArray, List.set_cons_zero, List.set_cons_succ]
            refine wpG_take (i := 6) (v := ?vn6) rfl (by kernel_rfl) (by kernel_rfl) (by kernel_rfl) (by kernel_rfl) (fun _ _ _ h => h) (Or.inl ⟨by rfl, ?hyn6⟩) hTT ?restn6
            case hyn6 => intro wq hSw; have qS := fun i => (Blk.below hS hSw hS.lt).cell i; have qc := (hSw.cell (p := ⟨bC, oC + q, none⟩) hbC).trans hcc; go_simp <;> with_reducible rfl
            simp only [List.getElem_toArray, List.getElem_cons_zero, List.getElem_cons_succ, Act.put, List.setIfInBounds_toArray, List.set_cons_zero, List.set_cons_succ]
            refine wpG_take (i := 7) (v := ?vn7) rfl (by kernel_rfl) (by kernel_rfl) (by kernel_rfl) (by kernel_rfl) (fun _ _ _ h => h) (Or.inl ⟨by rfl, ?hyn7⟩) hTT ?restn7
            case hyn7 => intro wq hSw; have qS := fun i => (Blk.below hS hSw hS.lt).cell i; have qc := (hSw.cell (p := ⟨bC, oC + q, none⟩) hbC).trans hcc; go_simp <;> with_reducible rfl
            simp only [List.getElem_toArray, List.getElem_cons_zero, List.getElem_cons_succ, Act.put, List.setIfInBounds_toArray, List.set_cons_zero, List.set_cons_succ]
            refine wpG_take (i := 8) (v := ?vn8) rfl (by kernel_rfl) (by kernel_rfl) (by kernel_rfl) (by kernel_rfl) (fun _ _ _ h => h) (Or.inl ⟨by rfl, ?hyn8⟩) hTT ?restn8
            case hyn8 => intro wq hSw; have qS := fun i => (Blk.below hS hSw hS.lt).cell i; have qc := (hSw.cell (p := ⟨bC, oC + q, none⟩) hbC).trans hcc; go_simp <;> with_reducible rfl
            simp only [List.getElem_toArray, List.getElem_cons_zero, List.getElem_cons_succ, Act.put, List.setIfInBounds_toArray, List.set_cons_zero, List.set_cons_succ]
            refine wpG_take (i := 9) (v := ?vn9) rfl (by kernel_rfl) (by kernel_rfl) (by kernel_rfl) (by kernel_rfl) (fun _ _ _ h => h) (Or.inl ⟨by rfl, ?hyn9⟩) hTT ?restn9
            case hyn9 => intro wq hSw; have qS := fun i => (Blk.below hS hSw hS.lt).cell i; have qc := (hSw.cell (p := ⟨bC, oC + q, none⟩) hbC).trans hcc; go_simp <;> with_reducible rfl
            simp only [List.getElem_toArray, List.getElem_cons_zero, List.getElem_cons_succ, Act.put, List.setIfInBounds_toArray, List.set_cons_zero, List.set_cons_succ]
            refine wpG_take (i := 12) (v := ?vn12) rfl (by kernel_rfl) (by kernel_rfl) (by kernel_rfl) (by kernel_rfl) (fun _ _ _ h => h) (Or.inl ⟨by rfl, ?hyn12⟩) hTT ?restn12
            case hyn12 => intro wq hSw; have qS := fun i => (Blk.below hS hSw hS.lt).cell i; have qc := (hSw.cell (p := ⟨bC, oC + q, none⟩) hbC).trans hcc; go_simp <;> with_reducible rfl
            simp only [List.getElem_toArray, List.getElem_cons_zero, List.getElem_cons_succ, Act.put, List.setIfInBounds_toArray, List.set_cons_zero, List.set_cons_succ]
            refine wpG_take (i := 13) (v := ?vn13) rfl (by kernel_rfl) (by kernel_rfl) (by kernel_rfl) (by kernel_rfl) (fun _ _ _ h => h) (Or.inl ⟨by rfl, ?hyn13⟩) hTT ?restn13
            case hyn13 => intro wq hSw; have qS := fun i => (Blk.below hS hSw hS.lt).cell i; have qc := (hSw.cell (p := ⟨bC, oC + q, none⟩) hbC).trans hcc; go_simp <;> with_reducible rfl
            simp only [List.getElem_toArray, List.getElem_cons_zero, List.getElem_cons_succ, Act.put, List.setIfInBounds_toArray, List.set_cons_zero, List.set_cons_succ]
            refine wpG_take (i := 14) (v := ?vn14) rfl (by kernel_rfl) (by kernel_rfl) (by kernel_rfl) (by kernel_rfl) (fun _ _ _ h => h) (Or.inl ⟨by rfl, ?hyn14⟩) hTT ?restn14
            case hyn14 => intro wq hSw; have qS := fun i => (Blk.below hS hSw hS.lt).cell i; have qc := (hSw.cell (p := ⟨bC, oC + q, none⟩) hbC).trans hcc; go_simp <;> with_reducible rfl
            simp only [List.getElem_toArray, List.getElem_cons_zero, List.getElem_cons_succ, Act.put, List.setIfInBounds_toArray, List.set_cons_zero, List.set_cons_succ]
            clear hcc hbC
            refine wpG_two (i := 5) (j := 10) rfl rfl (by kernel_rfl) (fun K hK => ?_) (fun K hK => ?_)
            · rw [if_pos (by rfl)]; refine wp_append_any _ _ _ 87 rfl WD.heap.size 3 i3 (.int .i64 0) 1 8 Tryz.underlying87 hi hz0 hz1' hz2' rfl (by decide) _ 0 [] rfl (World.ownsRow_nil _ _ _ _) _ nA nn nc (now.map natV) rfl (rdB hNr hB).reads (by simp [Value.oneCell', natV]) (by unfold maxLen; omega) (by omega) (Nat.le_refl _) (fun v' w1 hown hgrow hob => ?_)
              rw [Nat.zero_add, List.nil_append] at hown
              replace hS := hS.grown hgrow (fun e => by cases e)
              replace hTT := hTT.grown hgrow hTT.size (fun z hz => by cases hz)
              replace hB := hB.grown hgrow hB.size (fun z hz => by cases hz)
              refine hK _ _ (.inr hTT) ?_
              clear hK K
              try simp only [List.getElem_toArray, List.getElem_cons_zero, List.getElem_cons_succ, Act.put, List.setIfInBounds_toArray, List.set_cons_zero, List.set_cons_succ]
              refine wpG_one (i := 10) rfl (by kernel_rfl) (fun K hK => ?_)
              go_simp
              obtain ⟨gM, hgM⟩ : ∃ g, g = w1.heap.size := ⟨_, rfl⟩
              have hbm : Blk (w1.alloc (.cells #[.int .i64 c] 3)) gM 3 #[.int .i64 c] := by rw [hgM]; exact Blk.new w1 3 #[.int .i64 c]
              rw [← hgM]
              replace hown := hown.alloc (.cells #[.int .i64 c] 3)
              replace hTT := hTT.alloc hTT.size (.cells #[.int .i64 c] 3)
              replace hS := hS.alloc (.cells #[.int .i64 c] 3)
              replace hB := hB.alloc hB.size (.cells #[.int .i64 c] 3)
              refine hK _ _ (.inr hTT) ?_
              clear hK K
              try simp only [List.getElem_toArray, List.getElem_cons_zero, List.getElem_cons_succ, Act.put, List.setIfInBounds_toArray, List.set_cons_zero, List.set_cons_succ]
              refine wpG_one (i := 11) rfl (by kernel_rfl) (fun K hK => ?_)
              obtain ⟨oA, oE, rfl⟩ := own_slice hown
              rw [if_pos (by rfl)]; refine wp_append_any _ _ _ 87 rfl WD.heap.size 3 i3 (.int .i64 0) 1 8 Tryz.underlying87 hi hz0 hz1' hz2' rfl (by decide) _ nn (now.map natV) rfl hown _ (some ⟨gM, 0, none⟩) 1 1 [natV c] rfl (Rd.blkN hbm rfl hbm.lt).reads (by simp [Value.oneCell', natV]) (by unfold maxLen; omega) (by omega) (by have := hTT.size; simpa using this) (fun v2 w2 hown2 hgrow2 hob2 => ?_)
              replace hS := hS.kept_own hown (by decide) hgrow2
              replace hTT := hTT.grown hgrow2 hTT.size (fun g hg => (hown.lt g hg).1)
              replace hB := hB.grown hgrow2 hB.size (fun g hg => Nat.le_trans hBs (hown.lt g hg).1)
              refine hK _ _ (.inr hTT) ?_
              clear hK K
              try simp only [List.getElem_toArray, List.getElem_cons_zero, List.getElem_cons_succ, Act.put, List.setIfInBounds_toArray, List.set_cons_zero, List.set_cons_succ]
              obtain ⟨xA, xC, rfl⟩ := own_slice hown2
              have hx1 := own_le0 hown2
              have hx2 := own_cap hown2
              have hX := Rd.of_own hown2
              rw [show now.map natV ++ [natV c] = (now ++ [c]).map natV by rw [List.map_append]; rfl] at hX
              clear hown hown2 hbm hgrow2 hob2 hgM
              refine wpG_one (i := 15) rfl (by kernel_rfl) (fun K hK => ?_)
              go_simp
              go_at_call 138
              refine (ih xA (nn + 1) xC (q + 1) N (now ++ [c]) _ _ (rdB hT hB) (rdB hU hB) (hcl.below hB) (rdB hC hB) (by omega) HNOW2.out (by omega) (by have := HN.out; omega) hN10 hx1 hx2 hX).mono ?_
              rintro e w5 hp
              rw [HQ2.out] at hp
              obtain ⟨v, rfl, hb⟩ := hp
              replace hTT := hTT.trans (hb.mono hTT.size)
              replace hS := hS.below hb hS.lt
              replace hB := hB.trans (hb.mono hB.size)
              clear hb hX
              refine hK _ _ (.inr hTT) ?_
              clear hK K
              try simp only [List.getElem_toArray, List.getElem_cons_zero, List.getElem_cons_succ, Act.put, List.setIfInBounds_toArray, List.set_cons_zero, List.set_cons_succ]
              refine wpG_take (i := 16) (v := ?vna16) rfl (by kernel_rfl) (by kernel_rfl) (by kernel_rfl) (by kernel_rfl) (fun _ _ _ h => h) (Or.inl ⟨by rfl, ?hyna16⟩) hTT ?restna16
              case hyna16 => intro wq hSw; go_simp <;> with_reducible rfl
              simp only [List.getElem_toArray, List.getElem_cons_zero, List.getElem_cons_succ, Act.put, List.setIfInBounds_toArray, List.set_cons_zero, List.set_cons_succ]
              refine wpG_take (i := 17) (v := ?vna17) rfl (by kernel_rfl) (by kernel_rfl) (by kernel_rfl) (by kernel_rfl) (fun _ _ _ h => h) (Or.inl ⟨by rfl, ?hyna17⟩) hTT ?restna17
              case hyna17 => intro wq hSw; go_simp <;> with_reducible rfl
              simp only [List.getElem_toArray, List.getElem_cons_zero, List.getElem_cons_succ, Act.put, List.setIfInBounds_toArray, List.set_cons_zero, List.set_cons_succ]
              refine wpG_take (i := 18) (v := ?vna18) rfl (by kernel_rfl) (by kernel_rfl) (by kernel_rfl) (by kernel_rfl) (fun _ _ _ h => h) (Or.inl ⟨by rfl, ?hyna18⟩) hTT ?restna18
              case hyna18 => intro wq hSw; go_simp <;> with_reducible rfl
              simp only [List.getElem_toArray, List.getElem_cons_zero, List.getElem_cons_succ, Act.put, List.setIfInBounds_toArray, List.set_cons_zero, List.set_cons_succ]
              refine wpG_take (i := 19) (v := ?vna19) rfl (by kernel_rfl) (by kernel_rfl) (by kernel_rfl) (by kernel_rfl) (fun _ _ _ h => h) (Or.inl ⟨by rfl, ?hyna19⟩) hTT ?restna19
              case hyna19 => intro wq hSw; go_simp <;> with_reducible rfl
              simp only [List.getElem_toArray, List.getElem_cons_zero, List.getElem_cons_succ, Act.put, List.setIfInBounds_toArray, List.set_cons_zero, List.set_cons_succ]
              refine wpG_one (i := 20) rfl (by kernel_rfl) (fun K hK => ?_)
              go_simp
              refine hK _ _ (.inl rfl) ?_
              clear hK K
              try simp only [List.getElem_toArray, List.getElem_cons_zero, List.getElem_cons_succ, Act.put, List.setIfInBounds_toArray, List.set_cons_zero, List.set_cons_succ]
              refine wpG_done (by kernel_rfl) ?_ _
              clear hTT
              go_wp2_with (fail)
              go_roundg (cn - (q + 1))
              case measure => rw [HG.out]; omega
              case rel => exact ⟨q + 1, rfl, by omega, by omega, by go_num, HNX.out, hS, hB⟩
            · go_simp
              obtain ⟨gM, hgM⟩ : ∃ g, g = WD.heap.size := ⟨_, rfl⟩
              have hbm : Blk (WD.alloc (.cells #[.int .i64 c] 3)) gM 3 #[.int .i64 c] := by rw [hgM]; exact Blk.new WD 3 #[.int .i64 c]
              rw [← hgM]
              replace hTT := hTT.alloc hTT.size (.cells #[.int .i64 c] 3)
              replace hS := hS.alloc (.cells #[.int .i64 c] 3)
              replace hB := hB.alloc hB.size (.cells #[.int .i64 c] 3)
              refine hK _ _ (.inr hTT) ?_
              clear hK K
              try simp only [List.getElem_toArray, List.getElem_cons_zero, List.getElem_cons_succ, Act.put, List.setIfInBounds_toArray, List.set_cons_zero, List.set_cons_succ]
              refine wpG_one (i := 5) rfl (by kernel_rfl) (fun K hK => ?_)
              rw [if_pos (by rfl)]; refine wp_append_any _ _ _ 87 rfl WD.heap.size 3 i3 (.int .i64 0) 1 8 Tryz.underlying87 hi hz0 hz1' hz2' rfl (by decide) _ 0 [] rfl (World.ownsRow_nil _ _ _ _) _ nA nn nc (now.map natV) rfl (rdB hNr hB).reads (by simp [Value.oneCell', natV]) (by unfold maxLen; omega) (by omega) (by simp) (fun v' w1 hown hgrow hob => ?_)
              replace hbm := hbm.grown hgrow (fun e => by cases e)
              rw [Nat.zero_add, List.nil_append] at hown
              replace hS := hS.grown hgrow (fun e => by cases e)
              replace hTT := hTT.grown hgrow hTT.size (fun z hz => by cases hz)
              replace hB := hB.grown hgrow hB.size (fun z hz => by cases hz)
              refine hK _ _ (.inr hTT) ?_
              clear hK K
              try simp only [List.getElem_toArray, List.getElem_cons_zero, List.getElem_cons_succ, Act.put, List.setIfInBounds_toArray, List.set_cons_zero, List.set_cons_succ]
              refine wpG_one (i := 11) rfl (by kernel_rfl) (fun K hK => ?_)
              obtain ⟨oA, oE, rfl⟩ := own_slice hown
              rw [if_pos (by rfl)]; refine wp_append_any _ _ _ 87 rfl WD.heap.size 3 i3 (.int .i64 0) 1 8 Tryz.underlying87 hi hz0 hz1' hz2' rfl (by decide) _ nn (now.map natV) rfl hown _ (some ⟨gM, 0, none⟩) 1 1 [natV c] rfl (Rd.blkN hbm rfl hbm.lt).reads (by simp [Value.oneCell', natV]) (by unfold maxLen; omega) (by omega) (by have := hTT.size; simpa using this) (fun v2 w2 hown2 hgrow2 hob2 => ?_)
              replace hS := hS.kept_own hown (by decide) hgrow2
              replace hTT := hTT.grown hgrow2 hTT.size (fun g hg => (hown.lt g hg).1)
              replace hB := hB.grown hgrow2 hB.size (fun g hg => Nat.le_trans hBs (hown.lt g hg).1)
              refine hK _ _ (.inr hTT) ?_
              clear hK K
              try simp only [List.getElem_toArray, List.getElem_cons_zero, List.getElem_cons_succ, Act.put, List.setIfInBounds_toArray, List.set_cons_zero, List.set_cons_succ]
              obtain ⟨xA, xC, rfl⟩ := own_slice hown2
              have hx1 := own_le0 hown2
              have hx2 := own_cap hown2
              have hX := Rd.of_own hown2
              rw [show now.map natV ++ [natV c] = (now ++ [c]).map natV by rw [List.map_append]; rfl] at hX
              clear hown hown2 hbm hgrow2 hob2 hgM
              refine wpG_one (i := 15) rfl (by kernel_rfl) (fun K hK => ?_)
              go_simp
              go_at_call 138
              refine (ih xA (nn + 1) xC (q + 1) N (now ++ [c]) _ _ (rdB hT hB) (rdB hU hB) (hcl.below hB) (rdB hC hB) (by omega) HNOW2.out (by omega) (by have := HN.out; omega) hN10 hx1 hx2 hX).mono ?_
              rintro e w5 hp
              rw [HQ2.out] at hp
              obtain ⟨v, rfl, hb⟩ := hp
              replace hTT := hTT.trans (hb.mono hTT.size)
              replace hS := hS.below hb hS.lt
              replace hB := hB.trans (hb.mono hB.size)
              clear hb hX
              refine hK _ _ (.inr hTT) ?_
              clear hK K
              try simp only [List.getElem_toArray, List.getElem_cons_zero, List.getElem_cons_succ, Act.put, List.setIfInBounds_toArray, List.set_cons_zero, List.set_cons_succ]
              refine wpG_take (i := 16) (v := ?vnb16) rfl (by kernel_rfl) (by kernel_rfl) (by kernel_rfl) (by kernel_rfl) (fun _ _ _ h => h) (Or.inl ⟨by rfl, ?hynb16⟩) hTT ?restnb16
              case hynb16 => intro wq hSw; go_simp <;> with_reducible rfl
              simp only [List.getElem_toArray, List.getElem_cons_zero, List.getElem_cons_succ, Act.put, List.setIfInBounds_toArray, List.set_cons_zero, List.set_cons_succ]
              refine wpG_take (i := 17) (v := ?vnb17) rfl (by kernel_rfl) (by kernel_rfl) (by kernel_rfl) (by kernel_rfl) (fun _ _ _ h => h) (Or.inl ⟨by rfl, ?hynb17⟩) hTT ?restnb17
              case hynb17 => intro wq hSw; go_simp <;> with_reducible rfl
              simp only [List.getElem_toArray, List.getElem_cons_zero, List.getElem_cons_succ, Act.put, List.setIfInBounds_toArray, List.set_cons_zero, List.set_cons_succ]
              refine wpG_take (i := 18) (v := ?vnb18) rfl (by kernel_rfl) (by kernel_rfl) (by kernel_rfl) (by kernel_rfl) (fun _ _ _ h => h) (Or.inl ⟨by rfl, ?hynb18⟩) hTT ?restnb18
              case hynb18 => intro wq hSw; go_simp <;> with_reducible rfl
              simp only [List.getElem_toArray, List.getElem_cons_zero, List.getElem_cons_succ, Act.put, List.setIfInBounds_toArray, List.set_cons_zero, List.set_cons_succ]
              refine wpG_take (i := 19) (v := ?vnb19) rfl (by kernel_rfl) (by kernel_rfl) (by kernel_rfl) (by kernel_rfl) (fun _ _ _ h => h) (Or.inl ⟨by rfl, ?hynb19⟩) hTT ?restnb19
              case hynb19 => intro wq hSw; go_simp <;> with_reducible rfl
              simp only [List.getElem_toArray, List.getElem_cons_zero, List.getElem_cons_succ, Act.put, List.setIfInBounds_toArray, List.set_cons_zero, List.set_cons_succ]
              refine wpG_one (i := 20) rfl (by kernel_rfl) (fun K hK => ?_)
              go_simp
              refine hK _ _ (.inl rfl) ?_
              clear hK K
              try simp only [List.getElem_toArray, List.getElem_cons_zero, List.getElem_cons_succ, Act.put, List.setIfInBounds_toArray, List.set_cons_zero, List.set_cons_succ]
              refine wpG_done (by kernel_rfl) ?_ _
              clear hTT
              go_wp2_with (fail)
              go_roundg (cn - (q + 1))
              case measure => rw [HG.out]; omega
              case rel => exact ⟨q + 1, rfl, by omega, by omega, by go_num, HNX.out, hS, hB⟩
      · obtain rfl : q = cn := by omega
        have hge : ¬ (q : Int) < q := by omega
        go_wp2_with (fail)
        go_ret2
        rw [HRF.out, hno]
        exact ⟨_, rfl, hB⟩
end Go.Proofs.YtifddfchpknkbaaGreatDoor
