import Derived.Test.YtifddfchpknkbaaGreatDoorNw
import Derived.Test.YtifddfchpknkbaaGreatDoorRv
import Derived.Test.YtifddfchpknkbaaGreatDoorUq
set_option linter.unusedVariables false
set_option linter.unusedSimpArgs false
namespace Go.Proofs.YtifddfchpknkbaaGreatDoor
open Go.RowKit

/-- The best one of some cells; -1, if there is none. -/
def bestO (cost : Int → Int) (l : List Nat) : Int × Int := match l.map (fun n : Nat => (n : Int)) with | [] => (-1, 0) | c0 :: cs => bestP cost c0 cs
theorem bestP_mem (cost : Int → Int) (c0 : Int) : ∀ (cs : List Int) (p : Int × Int), p.1 ∈ c0 :: cs → True := fun _ _ _ => trivial
theorem bestF_mem (cost : Int → Int) : ∀ (cs : List Int) (p : Int × Int), (cs.foldl (fun p c => if cost c < p.2 then (c, cost c) else p) p).1 = p.1 ∨ (cs.foldl (fun p c => if cost c < p.2 then (c, cost c) else p) p).1 ∈ cs
  | [], p => .inl rfl
  | c :: cs, p => by
    rw [List.foldl_cons]
    rcases bestF_mem cost cs (if cost c < p.2 then (c, cost c) else p) with h | h
    · by_cases hc : cost c < p.2
      · rw [if_pos hc] at h ⊢; right; rw [h]; simp
      · rw [if_neg hc] at h ⊢; exact .inl h
    · exact .inr (by simp [h])
theorem bestO_pos {cost : Int → Int} {l : List Nat} (h : l ≠ []) : 0 ≤ (bestO cost l).1 := by
  unfold bestO
  cases l with
  | nil => exact absurd rfl h
  | cons c cs =>
    simp only [List.map_cons]
    unfold bestP
    rcases bestF_mem cost (cs.map fun n : Nat => (n : Int)) ((c : Int), cost c) with e | e
    · rw [e]; exact Int.natCast_nonneg _
    · obtain ⟨n, _, hn⟩ := List.mem_map.1 e
      rw [← hn]; exact Int.natCast_nonneg _
theorem bestO_snoc (cost : Int → Int) (l : List Nat) (k : Nat) : bestO cost (l ++ [k]) = if (bestO cost l).1 < 0 ∨ cost k < (bestO cost l).2 then ((k : Int), cost k) else bestO cost l := by
  cases l with
  | nil => rfl
  | cons c cs =>
    have hp := bestO_pos (cost := cost) (l := c :: cs) (by simp)
    have e1 : bestO cost (c :: cs ++ [k]) = bestP cost (c : Int) ((cs.map fun n : Nat => (n : Int)) ++ [(k : Int)]) := by unfold bestO; simp
    have e2 : bestO cost (c :: cs) = bestP cost (c : Int) (cs.map fun n : Nat => (n : Int)) := rfl
    rw [e1, bestP_snoc, ← e2]
    by_cases h : cost k < (bestO cost (c :: cs)).2
    · rw [if_pos h, if_pos (.inr h)]
    · rw [if_neg h, if_neg (by intro h2; rcases h2 with h2 | h2; exact absurd hp (by omega); exact h h2)]
theorem unseenK_succ2 (s : ByteArray) (k : Nat) : unseenK s (k + 1) = unseenK s k ++ (if (ltr s).getD k 0 == 63 then [k] else []) := by
  unfold unseenK
  rw [List.range_succ, List.filter_append]
  rw [List.filter_cons, List.filter_nil]
set_option maxRecDepth 100000 in
set_option maxHeartbeats 25600000 in
theorem refNext_any (Wn Hn : Nat) (F L X Y nl nh xl xh y : Int) (A : Option Addr) (n cap : Nat) (fs : List Fig) (SA : Option Addr) (sn scap : Nat) (rs : List ByteArray) (w : World) (hcap : n ≤ cap) (hcm : cap ≤ maxLen) (hf : ∀ f ∈ fs, f.ok w w.heap.size) (hr : Rd w w.heap.size 1 A n (fs.map Fig.val)) (hsr : Rd w w.heap.size 1 SA sn (rs.map Value.string)) (hok : askB Wn Hn F L X Y nl nh xl xh y fs = true) (hsg : sightB Wn Hn rs = true) :
    Calls Tryz.prog 64 #[.agg #[.int .i64 Wn, .int .i64 Hn, .int .i64 F, .int .i64 L, .int .i64 X, .int .i64 Y], .slice A n cap, .agg #[.int .i64 nl, .int .i64 nh, .int .i64 xl, .int .i64 xh, .int .i64 y], .slice SA sn scap] w fun e w' => e = .returned (.tuple #[.int .i64 (bestO (fun c => (mostN (agL Wn Hn F L X Y nl nh xl xh y fs rs) c.toNat : Int)) (unseenL (flatS rs))).1, .int .i64 (bestO (fun c => (mostN (agL Wn Hn F L X Y nl nh xl xh y fs rs) c.toNat : Int)) (unseenL (flatS rs))).2]) ∧ Below w.heap.size w w' := by
  obtain ⟨i24, hi, hz0, hz1', hz2'⟩ := info_parts info24
  have hn : n ≤ maxLen := Nat.le_trans hcap hcm
  have hlen := hr.len
  have hsm := allR_small hok
  have hask := hok
  simp only [askB, Bool.and_eq_true] at hask
  obtain ⟨⟨k1, k2⟩, _⟩ := compB_nums hask.2.1
  have ⟨⟨s1, s2⟩, ⟨s3, s4⟩, _⟩ := stageB_nums hask.1
  obtain ⟨hl, hw⟩ := sight_rows hsg
  have hWn : Wn ≤ 16 := by omega
  have hHn : Hn ≤ 16 := by omega
  have hW1 : 1 ≤ Wn := by omega
  have hsz : (flatS rs).size = Wn * Hn := by have := (sight_size hsg).1; rw [Int.toNat_natCast, Int.toNat_natCast] at this; rw [this, Nat.mul_comm]
  have hWH : Wn * Hn ≤ 256 := Nat.mul_le_mul hWn hHn
  have hsub : ∀ t ∈ rdT Wn Hn F L X Y nl nh xl xh y fs rs, t ∈ allR fs.length nl nh xl xh := fun t ht => (List.mem_filter.1 ht).1
  have hrl : (rdT Wn Hn F L X Y nl nh xl xh y fs rs).length ≤ 1000 := Nat.le_trans (List.length_filter_le _ _) (Nat.le_trans hsm (by omega))
  have HV := Lib.hid (fun (t : Tr) (ht : t ∈ rdT Wn Hn F L X Y nl nh xl xh y fs rs) => view_of hok (hsub t ht))
  have hreads := fun wx h1 h2 h3 => refReads_any Wn Hn F L X Y nl nh xl xh y A n cap fs SA sn scap rs wx hcap hcm h1 h2 h3 hok hsg
  -- what is left if a cell is looked at
  have hmost : ∀ c : Nat, mostN (agL Wn Hn F L X Y nl nh xl xh y fs rs) c = max (figN ((rdT Wn Hn F L X Y nl nh xl xh y fs rs).filter (fun t => !clB (chr (shS Wn Hn F L X Y t.2.1 t.2.2 y (figAt fs t.1)) c) 35)) n) (figN ((rdT Wn Hn F L X Y nl nh xl xh y fs rs).filter (fun t => !clB (chr (shS Wn Hn F L X Y t.2.1 t.2.2 y (figAt fs t.1)) c) 46)) n) := by
    intro c
    have h1 : ∀ d : Int, leftN (agL Wn Hn F L X Y nl nh xl xh y fs rs) c d = figN ((rdT Wn Hn F L X Y nl nh xl xh y fs rs).filter (fun t => !clB (chr (shS Wn Hn F L X Y t.2.1 t.2.2 y (figAt fs t.1)) c) d)) n := by
      intro d
      have hx : leftF (agL Wn Hn F L X Y nl nh xl xh y fs rs) c d = ((rdT Wn Hn F L X Y nl nh xl xh y fs rs).filter (fun t => !clB (chr (shS Wn Hn F L X Y t.2.1 t.2.2 y (figAt fs t.1)) c) d)).map (·.1) := by
        unfold leftF
        rw [agL_rdT, List.filter_map, List.map_map]
        rfl
      unfold leftN
      rw [hx, ← uniq_count (m := n) (by
        intro x hxx
        obtain ⟨t, ht, rfl⟩ := List.mem_map.1 hxx
        have := (mem_fR.1 (hsub t (List.mem_filter.1 ht).1)).1
        omega)]
      unfold figN
      congr 1
      apply List.filter_congr
      intro i _
      rw [Bool.eq_iff_iff]
      simp only [hasT, List.any_eq_true, beq_iff_eq, List.contains_iff_mem, List.mem_map]
    unfold mostN
    rw [h1, h1]
  have hflat : ∀ k (hk : k < Wn * Hn), ∃ hq : k / Wn < rs.length, (ltr (flatS rs))[k]? = (ltr rs[k / Wn])[k % Wn]? ∧ rs[k / Wn].size = Wn := fun k hk => by
    have hq : k / Wn < rs.length := by rw [hl, Nat.div_lt_iff_lt_mul (by omega), Nat.mul_comm]; exact hk
    exact ⟨hq, flatS_cell (by omega) hw hq, hw _ (List.getElem_mem hq)⟩
  have hchr : ∀ (c : Nat) (hc : c < Wn * Hn) (t : Tr), ∃ r, (rowsOf (shS Wn Hn F L X Y t.2.1 t.2.2 y (figAt fs t.1)) Wn Hn)[c / Wn]? = some r ∧ (ltr r)[c % Wn]? = some (chr (shS Wn Hn F L X Y t.2.1 t.2.2 y (figAt fs t.1)) c) ∧ r.size ≤ 10000 := fun c hc t => by
    have hs := shS_size Wn Hn F L X Y t.2.1 t.2.2 y (figAt fs t.1)
    rw [Int.toNat_natCast, Int.toNat_natCast] at hs
    generalize shS Wn Hn F L X Y t.2.1 t.2.2 y (figAt fs t.1) = s at *
    have hq : c / Wn < Hn := by rw [Nat.div_lt_iff_lt_mul (by omega), Nat.mul_comm]; exact hc
    have hm := Nat.mod_lt c (show 0 < Wn by omega)
    refine ⟨_, rowsOf_get hq, ?_, by rw [cut_size hs hq]; omega⟩
    rw [cut_at hs hq hm]
    have e : c / Wn * Wn + c % Wn = c := by rw [Nat.mul_comm]; exact Nat.div_add_mod c Wn
    rw [e]
    unfold chr
    rw [List.getElem?_eq_getElem (by rw [ltr_len, hs]; exact hc)]
    rfl
  obtain ⟨cost, hcost⟩ : ∃ cost : Int → Int, cost = fun c => (mostN (agL Wn Hn F L X Y nl nh xl xh y fs rs) c.toNat : Int) := ⟨_, rfl⟩
  rw [← hcost]
  have hcost2 : ∀ c : Nat, cost c = ((max (figN ((rdT Wn Hn F L X Y nl nh xl xh y fs rs).filter (fun t => !clB (chr (shS Wn Hn F L X Y t.2.1 t.2.2 y (figAt fs t.1)) c) 35)) n) (figN ((rdT Wn Hn F L X Y nl nh xl xh y fs rs).filter (fun t => !clB (chr (shS Wn Hn F L X Y t.2.1 t.2.2 y (figAt fs t.1)) c) 46)) n) : Nat) : Int) := fun c => by rw [hcost]; dsimp only; rw [Int.toNat_natCast, hmost c]
  obtain ⟨st, hst⟩ : ∃ st : Nat → Int × Int, st = fun k => bestO cost (unseenK (flatS rs) k) := ⟨_, rfl⟩
  have hst0 : st 0 = (-1, 0) := by rw [hst]; rfl
  have hstn : bestO cost (unseenL (flatS rs)) = st (Wn * Hn) := by rw [hst]; show _ = bestO cost (unseenK (flatS rs) (Wn * Hn)); rw [← hsz]; rfl
  have hsts : ∀ k, st (k + 1) = if (ltr (flatS rs)).getD k 0 == 63 then (if (st k).1 < 0 ∨ cost k < (st k).2 then ((k : Int), cost k) else st k) else st k := fun k => by
    rw [hst]
    dsimp only
    rw [unseenK_succ2]
    cases h : (ltr (flatS rs)).getD k 0 == 63
    · simp
    · simp only [if_true]; exact bestO_snoc cost _ k
  rw [hstn]
  obtain ⟨all, hall⟩ : ∃ all, all = rdT Wn Hn F L X Y nl nh xl xh y fs rs := ⟨_, rfl⟩
  rw [← hall] at HV hrl
  simp only [← hall] at hreads hcost2
  have HREADS := Lib.hid hreads; have HLEN := Lib.hid hlen; have HCOST := Lib.hid hcost2; have HST0 := Lib.hid hst0; have HSTS := Lib.hid hsts; have HFLAT := Lib.hid hflat; have HCHR := Lib.hid hchr; have HLR := Lib.hid hl
  have hsnl := hsr.len
  have hsn3 : sn ≤ 10000 := by omega
  clear hreads hall hok hsg hask hlen hcost2 hcost hst hst0 hstn hsts hmost hsub hsm hflat hchr hl hw hsz hsnl
  go_enter Tryz.func64, Tryz.ntmps64
  go_upto_region 1 with (fail)
  have hS := blk2_0 w (.cells #[.int .i64 nl, .int .i64 nh, .int .i64 xl, .int .i64 xh, .int .i64 y] 71) 23 #[.int .i64 Wn, .int .i64 Hn, .int .i64 F, .int .i64 L, .int .i64 X, .int .i64 Y]
  have hQ := blk2_1 w (.cells #[.int .i64 Wn, .int .i64 Hn, .int .i64 F, .int .i64 L, .int .i64 X, .int .i64 Y] 23) 71 #[.int .i64 nl, .int .i64 nh, .int .i64 xl, .int .i64 xh, .int .i64 y]
  have hB := pro_2 w (.cells #[.int .i64 Wn, .int .i64 Hn, .int .i64 F, .int .i64 L, .int .i64 X, .int .i64 Y] 23) (.cells #[.int .i64 nl, .int .i64 nh, .int .i64 xl, .int .i64 xh, .int .i64 y] 71)
  generalize (w.alloc (.cells #[.int .i64 Wn, .int .i64 Hn, .int .i64 F, .int .i64 L, .int .i64 X, .int .i64 Y] 23)).alloc (.cells #[.int .i64 nl, .int .i64 nh, .int .i64 xl, .int .i64 xh, .int .i64 y] 71) = W0 at *
  have qhS := fun i => Blk.cell hS i
  have qhQ := fun i => Blk.cell hQ i
  go_upto_region 2 with (go_at_call 57; refine (HREADS.out _ (fun f h => ((hf f h).below hB).more hB.size) (rdB hr hB) (rdB hsr hB)).mono ?_; rintro e w1 ⟨vr, rfl, hrow, hb⟩; obtain ⟨rA, rC, rfl⟩ := own_slice hrow; replace hrow := own_mono hrow hB.size; replace hS := hS.below hb hS.lt; replace hQ := hQ.below hb hQ.lt; replace hB := hB.trans (hb.mono hB.size); clear qhS qhQ hb)
  clear HREADS
  go_wp2_with (fail)
  go_loopg [11, 12] all.length (fun g v i wr => ∃ (k : Nat) (vs : List Value) (v0 : Value), g = all.length - k ∧ k ≤ all.length ∧ v = v0 ∧ i = .int .i64 k ∧ Cloths wr w.heap.size vs ((all.take k).map (fun t => rowsOf (shS Wn Hn F L X Y t.2.1 t.2.2 y (figAt fs t.1)) Wn Hn)) ∧ wr.ownsRow w.heap.size 24 1 v0 k vs ∧ wr.ownsRow w.heap.size 86 4 (.slice rA all.length rC) all.length (all.flatMap (rdC y)) ∧ Blk wr w.heap.size 23 #[.int .i64 Wn, .int .i64 Hn, .int .i64 F, .int .i64 L, .int .i64 X, .int .i64 Y] ∧ Blk wr (w.heap.size + 1) 71 #[.int .i64 nl, .int .i64 nh, .int .i64 xl, .int .i64 xh, .int .i64 y] ∧ Below w.heap.size w wr)
  case atStart => exact ⟨0, [], _, rfl, Nat.zero_le _, rfl, rfl, Cloths.nil _ _, World.ownsRow_nil _ _ _ _, hrow, hS, hQ, hB⟩
  case round =>
    clear hS hQ hB hrow
    obtain ⟨k, vs, v0, hg, hk, rfl, rfl, hcl, hown, hrow, hS, hQ, hB⟩ := hrel
    have HG := Lib.hid hg; clear hg
    obtain ⟨va, vc, rfl⟩ := own_slice hown
    have qhS := fun i => Blk.cell hS i; have qhQ := fun i => Blk.cell hQ i
    rename World => W1
    by_cases hlt : k < all.length
    · have hlti : (k : Int) < all.length := by omega
      obtain ⟨bR, oR, hz, rfl, hbR, _⟩ := (Rd.of_own hrow).at4 hlt
      have hcells := fun (wx : World) (h : Rd wx wx.heap.size 4 (some ⟨bR, oR, none⟩) all.length (all.flatMap (rdC y))) => h.cells4 hz
      obtain ⟨kf, hkf, e0, e1, hvw⟩ := HV.out _ (List.getElem_mem hz)
      have htk : all.take (k + 1) = all.take k ++ [all[k]] := List.take_succ_eq_append_getElem hz
      have hfo := hf _ (List.getElem_mem hkf)
      have hkn : kf < n := by have := HLEN.out; omega
      obtain ⟨bF, oF, rfl, hbF, hcf⟩ := hr.2 (by omega)
      have cf : w.cell? ⟨bF, oF + kf, none⟩ = some (Fig.val fs[kf]) := hcf kf (Fig.val fs[kf]) (by simp [hkf])
      have hkni : (kf : Int) < n := by omega
      clear hcf
      simp only [e0] at hcells
      obtain ⟨cl, hcle⟩ : ∃ cl, cl = rowsOf (shS Wn Hn F L X Y all[k].2.1 all[k].2.2 y (figAt fs all[k].1)) Wn Hn := ⟨_, rfl⟩
      have hmap : (all.take (k + 1)).map (fun t => rowsOf (shS Wn Hn F L X Y t.2.1 t.2.2 y (figAt fs t.1)) Wn Hn) = (all.take k).map (fun t => rowsOf (shS Wn Hn F L X Y t.2.1 t.2.2 y (figAt fs t.1)) Wn Hn) ++ [cl] := by rw [htk, List.map_append, hcle]; rfl
      have HCLE := Lib.hid hcle; have HMAP := Lib.hid hmap; clear hcle hmap
      clear htk
      rw [e1] at HCLE
      generalize all[k].2.1 = tn at *
      generalize all[k].2.2 = tx at *
      generalize fs[kf] = fg at *
      obtain ⟨fA, fn, fcap, rows⟩ := fg
      obtain ⟨hf1, hf2, hf3, hfr⟩ := hfo
      dsimp only at hf1 hf2 hf3 hfr hvw HCLE
      simp only [Fig.val] at cf
      have HVW := Lib.hid hvw; have HCELLS := Lib.hid hcells; clear hvw e0 e1 hcells
      go_upto_region 6 with (fail)
      rename World => WR
      refine wp_region_G ((fun w' => (Blk w' w.heap.size 23 #[.int .i64 Wn, .int .i64 Hn, .int .i64 F, .int .i64 L, .int .i64 X, .int .i64 Y] ∧ Blk w' (w.heap.size + 1) 71 #[.int .i64 nl, .int .i64 nh, .int .i64 xl, .int .i64 xh, .int .i64 y]) ∧ (w'.ownsRow w.heap.size 86 4 (.slice (some ⟨bR, oR, none⟩) all.length rC) all.length (all.flatMap (rdC y)) ∧ Below w.heap.size w w'))) 18 (by kernel_rfl) ?_
      replace hS := hS.drew
      replace hQ := hQ.drew
      replace hrow := hrow.drew
      replace hown := hown.drew
      replace hcl := hcl.drew
      replace hB := hB.drew
      (try clear qhS qhQ)
      generalize WR.drew = WD at *
      have hTT := And.intro (And.intro hS hQ) (And.intro hrow hB)
      refine wpG_take (i := 0) (v := ?vy1_0) rfl (by kernel_rfl) (by kernel_rfl) (by kernel_rfl) (by kernel_rfl) (fun _ _ _ h => h) (Or.inl ⟨by rfl, ?hyy1_0⟩) hTT ?resty1_0
      case hyy1_0 => intro wq hSw; skip; have hqS := fun i => hSw.1.1.cell i; have hqQ := fun i => hSw.1.2.cell i; have e4 := (hSw.2.2.cell (p := ⟨bF, oF + kf, none⟩) hbF).trans cf; obtain ⟨e0, e1, e2, e3⟩ := (HCELLS.out wq (Rd.of_own hSw.2.1)); go_simp <;> with_reducible rfl
      simp only [List.getElem_toArray, List.getElem_cons_zero, List.getElem_cons_succ, Act.put, List.setIfInBounds_toArray, List.set_cons_zero, List.set_cons_succ]
      refine wpG_take (i := 1) (v := ?vy1_1) rfl (by kernel_rfl) (by kernel_rfl) (by kernel_rfl) (by kernel_rfl) (fun _ _ _ h => h) (Or.inl ⟨by rfl, ?hyy1_1⟩) hTT ?resty1_1
      case hyy1_1 => intro wq hSw; skip; have hqS := fun i => hSw.1.1.cell i; have hqQ := fun i => hSw.1.2.cell i; have e4 := (hSw.2.2.cell (p := ⟨bF, oF + kf, none⟩) hbF).trans cf; obtain ⟨e0, e1, e2, e3⟩ := (HCELLS.out wq (Rd.of_own hSw.2.1)); go_simp <;> with_reducible rfl
      simp only [List.getElem_toArray, List.getElem_cons_zero, List.getElem_cons_succ, Act.put, List.setIfInBounds_toArray, List.set_cons_zero, List.set_cons_succ]
      refine wpG_take (i := 2) (v := ?vy1_2) rfl (by kernel_rfl) (by kernel_rfl) (by kernel_rfl) (by kernel_rfl) (fun _ _ _ h => h) (Or.inl ⟨by rfl, ?hyy1_2⟩) hTT ?resty1_2
      case hyy1_2 => intro wq hSw; skip; have hqS := fun i => hSw.1.1.cell i; have hqQ := fun i => hSw.1.2.cell i; have e4 := (hSw.2.2.cell (p := ⟨bF, oF + kf, none⟩) hbF).trans cf; obtain ⟨e0, e1, e2, e3⟩ := (HCELLS.out wq (Rd.of_own hSw.2.1)); go_simp <;> with_reducible rfl
      simp only [List.getElem_toArray, List.getElem_cons_zero, List.getElem_cons_succ, Act.put, List.setIfInBounds_toArray, List.set_cons_zero, List.set_cons_succ]
      refine wpG_take (i := 3) (v := ?vy1_3) rfl (by kernel_rfl) (by kernel_rfl) (by kernel_rfl) (by kernel_rfl) (fun _ _ _ h => h) (Or.inl ⟨by rfl, ?hyy1_3⟩) hTT ?resty1_3
      case hyy1_3 => intro wq hSw; skip; have hqS := fun i => hSw.1.1.cell i; have hqQ := fun i => hSw.1.2.cell i; have e4 := (hSw.2.2.cell (p := ⟨bF, oF + kf, none⟩) hbF).trans cf; obtain ⟨e0, e1, e2, e3⟩ := (HCELLS.out wq (Rd.of_own hSw.2.1)); go_simp <;> with_reducible rfl
      simp only [List.getElem_toArray, List.getElem_cons_zero, List.getElem_cons_succ, Act.put, List.setIfInBounds_toArray, List.set_cons_zero, List.set_cons_succ]
      refine wpG_take (i := 4) (v := ?vy1_4) rfl (by kernel_rfl) (by kernel_rfl) (by kernel_rfl) (by kernel_rfl) (fun _ _ _ h => h) (Or.inl ⟨by rfl, ?hyy1_4⟩) hTT ?resty1_4
      case hyy1_4 => intro wq hSw; skip; have hqS := fun i => hSw.1.1.cell i; have hqQ := fun i => hSw.1.2.cell i; have e4 := (hSw.2.2.cell (p := ⟨bF, oF + kf, none⟩) hbF).trans cf; obtain ⟨e0, e1, e2, e3⟩ := (HCELLS.out wq (Rd.of_own hSw.2.1)); go_simp <;> with_reducible rfl
      simp only [List.getElem_toArray, List.getElem_cons_zero, List.getElem_cons_succ, Act.put, List.setIfInBounds_toArray, List.set_cons_zero, List.set_cons_succ]
      refine wpG_take (i := 5) (v := ?vy1_5) rfl (by kernel_rfl) (by kernel_rfl) (by kernel_rfl) (by kernel_rfl) (fun _ _ _ h => h) (Or.inl ⟨by rfl, ?hyy1_5⟩) hTT ?resty1_5
      case hyy1_5 => intro wq hSw; skip; have hqS := fun i => hSw.1.1.cell i; have hqQ := fun i => hSw.1.2.cell i; have e4 := (hSw.2.2.cell (p := ⟨bF, oF + kf, none⟩) hbF).trans cf; obtain ⟨e0, e1, e2, e3⟩ := (HCELLS.out wq (Rd.of_own hSw.2.1)); go_simp <;> with_reducible rfl
      simp only [List.getElem_toArray, List.getElem_cons_zero, List.getElem_cons_succ, Act.put, List.setIfInBounds_toArray, List.set_cons_zero, List.set_cons_succ]
      refine wpG_take (i := 6) (v := ?vy1_6) rfl (by kernel_rfl) (by kernel_rfl) (by kernel_rfl) (by kernel_rfl) (fun _ _ _ h => h) (Or.inl ⟨by rfl, ?hyy1_6⟩) hTT ?resty1_6
      case hyy1_6 => intro wq hSw; skip; have hqS := fun i => hSw.1.1.cell i; have hqQ := fun i => hSw.1.2.cell i; have e4 := (hSw.2.2.cell (p := ⟨bF, oF + kf, none⟩) hbF).trans cf; obtain ⟨e0, e1, e2, e3⟩ := (HCELLS.out wq (Rd.of_own hSw.2.1)); go_simp <;> with_reducible rfl
      simp only [List.getElem_toArray, List.getElem_cons_zero, List.getElem_cons_succ, Act.put, List.setIfInBounds_toArray, List.set_cons_zero, List.set_cons_succ]
      refine wpG_take (i := 7) (v := ?vy1_7) rfl (by kernel_rfl) (by kernel_rfl) (by kernel_rfl) (by kernel_rfl) (fun _ _ _ h => h) (Or.inl ⟨by rfl, ?hyy1_7⟩) hTT ?resty1_7
      case hyy1_7 => intro wq hSw; skip; have hqS := fun i => hSw.1.1.cell i; have hqQ := fun i => hSw.1.2.cell i; have e4 := (hSw.2.2.cell (p := ⟨bF, oF + kf, none⟩) hbF).trans cf; obtain ⟨e0, e1, e2, e3⟩ := (HCELLS.out wq (Rd.of_own hSw.2.1)); go_simp <;> with_reducible rfl
      simp only [List.getElem_toArray, List.getElem_cons_zero, List.getElem_cons_succ, Act.put, List.setIfInBounds_toArray, List.set_cons_zero, List.set_cons_succ]
      refine wpG_take (i := 8) (v := ?vy1_8) rfl (by kernel_rfl) (by kernel_rfl) (by kernel_rfl) (by kernel_rfl) (fun _ _ _ h => h) (Or.inl ⟨by rfl, ?hyy1_8⟩) hTT ?resty1_8
      case hyy1_8 => intro wq hSw; skip; have hqS := fun i => hSw.1.1.cell i; have hqQ := fun i => hSw.1.2.cell i; have e4 := (hSw.2.2.cell (p := ⟨bF, oF + kf, none⟩) hbF).trans cf; obtain ⟨e0, e1, e2, e3⟩ := (HCELLS.out wq (Rd.of_own hSw.2.1)); go_simp <;> with_reducible rfl
      simp only [List.getElem_toArray, List.getElem_cons_zero, List.getElem_cons_succ, Act.put, List.setIfInBounds_toArray, List.set_cons_zero, List.set_cons_succ]
      refine wpG_take (i := 9) (v := ?vy1_9) rfl (by kernel_rfl) (by kernel_rfl) (by kernel_rfl) (by kernel_rfl) (fun _ _ _ h => h) (Or.inl ⟨by rfl, ?hyy1_9⟩) hTT ?resty1_9
      case hyy1_9 => intro wq hSw; skip; have hqS := fun i => hSw.1.1.cell i; have hqQ := fun i => hSw.1.2.cell i; have e4 := (hSw.2.2.cell (p := ⟨bF, oF + kf, none⟩) hbF).trans cf; obtain ⟨e0, e1, e2, e3⟩ := (HCELLS.out wq (Rd.of_own hSw.2.1)); go_simp <;> with_reducible rfl
      simp only [List.getElem_toArray, List.getElem_cons_zero, List.getElem_cons_succ, Act.put, List.setIfInBounds_toArray, List.set_cons_zero, List.set_cons_succ]
      refine wpG_take (i := 10) (v := ?vy1_10) rfl (by kernel_rfl) (by kernel_rfl) (by kernel_rfl) (by kernel_rfl) (fun _ _ _ h => h) (Or.inl ⟨by rfl, ?hyy1_10⟩) hTT ?resty1_10
      case hyy1_10 => intro wq hSw; skip; have hqS := fun i => hSw.1.1.cell i; have hqQ := fun i => hSw.1.2.cell i; have e4 := (hSw.2.2.cell (p := ⟨bF, oF + kf, none⟩) hbF).trans cf; obtain ⟨e0, e1, e2, e3⟩ := (HCELLS.out wq (Rd.of_own hSw.2.1)); go_simp <;> with_reducible rfl
      simp only [List.getElem_toArray, List.getElem_cons_zero, List.getElem_cons_succ, Act.put, List.setIfInBounds_toArray, List.set_cons_zero, List.set_cons_succ]
      refine wpG_take (i := 11) (v := ?vy1_11) rfl (by kernel_rfl) (by kernel_rfl) (by kernel_rfl) (by kernel_rfl) (fun _ _ _ h => h) (Or.inl ⟨by rfl, ?hyy1_11⟩) hTT ?resty1_11
      case hyy1_11 => intro wq hSw; skip; have hqS := fun i => hSw.1.1.cell i; have hqQ := fun i => hSw.1.2.cell i; have e4 := (hSw.2.2.cell (p := ⟨bF, oF + kf, none⟩) hbF).trans cf; obtain ⟨e0, e1, e2, e3⟩ := (HCELLS.out wq (Rd.of_own hSw.2.1)); go_simp <;> with_reducible rfl
      simp only [List.getElem_toArray, List.getElem_cons_zero, List.getElem_cons_succ, Act.put, List.setIfInBounds_toArray, List.set_cons_zero, List.set_cons_succ]
      refine wpG_take (i := 12) (v := ?vy1_12) rfl (by kernel_rfl) (by kernel_rfl) (by kernel_rfl) (by kernel_rfl) (fun _ _ _ h => h) (Or.inl ⟨by rfl, ?hyy1_12⟩) hTT ?resty1_12
      case hyy1_12 => intro wq hSw; skip; have hqS := fun i => hSw.1.1.cell i; have hqQ := fun i => hSw.1.2.cell i; have e4 := (hSw.2.2.cell (p := ⟨bF, oF + kf, none⟩) hbF).trans cf; obtain ⟨e0, e1, e2, e3⟩ := (HCELLS.out wq (Rd.of_own hSw.2.1)); go_simp <;> with_reducible rfl
      simp only [List.getElem_toArray, List.getElem_cons_zero, List.getElem_cons_succ, Act.put, List.setIfInBounds_toArray, List.set_cons_zero, List.set_cons_succ]
      refine wpG_take (i := 13) (v := ?vy1_13) rfl (by kernel_rfl) (by kernel_rfl) (by kernel_rfl) (by kernel_rfl) (fun _ _ _ h => h) (Or.inl ⟨by rfl, ?hyy1_13⟩) hTT ?resty1_13
      case hyy1_13 => intro wq hSw; skip; have hqS := fun i => hSw.1.1.cell i; have hqQ := fun i => hSw.1.2.cell i; have e4 := (hSw.2.2.cell (p := ⟨bF, oF + kf, none⟩) hbF).trans cf; obtain ⟨e0, e1, e2, e3⟩ := (HCELLS.out wq (Rd.of_own hSw.2.1)); go_simp <;> with_reducible rfl
      simp only [List.getElem_toArray, List.getElem_cons_zero, List.getElem_cons_succ, Act.put, List.setIfInBounds_toArray, List.set_cons_zero, List.set_cons_succ]
      refine wpG_take (i := 14) (v := ?vy1_14) rfl (by kernel_rfl) (by kernel_rfl) (by kernel_rfl) (by kernel_rfl) (fun _ _ _ h => h) (Or.inl ⟨by rfl, ?hyy1_14⟩) hTT ?resty1_14
      case hyy1_14 => intro wq hSw; skip; have hqS := fun i => hSw.1.1.cell i; have hqQ := fun i => hSw.1.2.cell i; have e4 := (hSw.2.2.cell (p := ⟨bF, oF + kf, none⟩) hbF).trans cf; obtain ⟨e0, e1, e2, e3⟩ := (HCELLS.out wq (Rd.of_own hSw.2.1)); go_simp <;> with_reducible rfl
      simp only [List.getElem_toArray, List.getElem_cons_zero, List.getElem_cons_succ, Act.put, List.setIfInBounds_toArray, List.set_cons_zero, List.set_cons_succ]
      refine wpG_one (i := 15) rfl (by kernel_rfl) (fun K hK => ?_)
      go_simp
      refine (refShadow_any Wn Hn F L X Y tn tx y fA fn fcap rows _ HVW.out (rdB hfr hB)).mono ?_
      rintro e w1 ⟨vv, rfl, own, hb⟩
      obtain ⟨cA, cC, rfl⟩ := own_slice own
      replace own := own_mono own hB.size
      replace hS := hS.below hb hS.lt
      replace hQ := hQ.below hb hQ.lt
      replace hrow := ownsRow_below' hrow hb
      replace hown := ownsRow_below' hown hb
      replace hcl := hcl.below hb
      replace hB := hB.trans (hb.mono hB.size)
      clear hb
      clear hTT; have hTT := And.intro (And.intro hS hQ) (And.intro hrow hB)
      dsimp only
      refine hK _ _ (.inr hTT) ?_
      clear hK K
      try simp only [List.getElem_toArray, List.getElem_cons_zero, List.getElem_cons_succ, Act.put, List.setIfInBounds_toArray, List.set_cons_zero, List.set_cons_succ]
      refine wpG_one (i := 16) rfl (by kernel_rfl) (fun K hK => ?_)
      go_simp
      replace hS := hS.alloc (.cells #[.slice cA Hn cC] 24)
      replace hQ := hQ.alloc (.cells #[.slice cA Hn cC] 24)
      replace hrow := hrow.alloc (.cells #[.slice cA Hn cC] 24)
      replace hown := hown.alloc (.cells #[.slice cA Hn cC] 24)
      replace hcl := hcl.alloc (.cells #[.slice cA Hn cC] 24)
      replace own := own.alloc (.cells #[.slice cA Hn cC] 24)
      have hBo := hB
      replace hB := hB.alloc hB.size (.cells #[.slice cA Hn cC] 24)
      clear hTT; have hTT := And.intro (And.intro hS hQ) (And.intro hrow hB)
      refine hK _ _ (.inr hTT) ?_
      clear hK K
      try simp only [List.getElem_toArray, List.getElem_cons_zero, List.getElem_cons_succ, Act.put, List.setIfInBounds_toArray, List.set_cons_zero, List.set_cons_succ]
      refine wpG_one (i := 17) rfl (by kernel_rfl) (fun K hK => ?_)
      rw [if_pos (by rfl)]; refine wp_append_any _ _ _ 168 rfl w.heap.size 24 i24 (.slice none 0 0) 1 24 Tryz.underlying168 hi hz0 hz1' hz2' rfl (by decide) _ k vs rfl hown (w1.heap.size + 1) (some ⟨w1.heap.size, 0, none⟩) 1 1 [.slice cA Hn cC] rfl (Rd.blkN (Blk.new _ _ _) rfl (Nat.lt_succ_self _)).reads (by simp [Value.oneCell']) (by unfold maxLen; omega) (by omega) (by have := hBo.size; simp only [World.size_alloc]; omega) (fun v' w' hown' hgrow hob => ?_)
      replace hcl := hcl.kept hown (by decide) hgrow
      replace own := own.kept hgrow (own_ne own hown (by decide))
      replace hrow := hrow.kept hgrow (own_ne hrow hown (by decide))
      replace hS := hS.kept_own hown (by decide) hgrow
      replace hQ := hQ.kept_own hown (by decide) hgrow
      replace hB := hB.grown hgrow hB.size (fun g hg => (hown.lt g hg).1)
      clear hTT; have hTT := And.intro (And.intro hS hQ) (And.intro hrow hB)
      refine hK _ _ (.inr hTT) ?_
      clear hK K
      try simp only [List.getElem_toArray, List.getElem_cons_zero, List.getElem_cons_succ, Act.put, List.setIfInBounds_toArray, List.set_cons_zero, List.set_cons_succ]
      refine wpG_one (i := 18) rfl (by kernel_rfl) (fun K hK => ?_)
      go_simp
      refine hK _ _ (.inl rfl) ?_
      clear hK K
      try simp only [List.getElem_toArray, List.getElem_cons_zero, List.getElem_cons_succ, Act.put, List.setIfInBounds_toArray, List.set_cons_zero, List.set_cons_succ]
      refine wpG_done (by kernel_rfl) ?_ _
      clear hTT
      have qhS := fun i => Blk.cell hS i
      have qhQ := fun i => Blk.cell hQ i
      clear qhS qhQ
      go_wp2_with (fail)
      go_roundg (all.length - (k + 1))
      case measure => rw [HG.out]; omega
      case rel => exact ⟨k + 1, vs ++ [.slice cA Hn cC], _, rfl, by omega, rfl, by go_num, by rw [HMAP.out]; exact hcl.snoc (by rw [HCLE.out, rowsOf_len]; exact own), hown', hrow, hS, hQ, hB⟩
    · have hke : k = all.length := by omega
      have htk : all.take k = all := List.take_of_length_le (by omega)
      rw [htk] at hcl
      subst hke
      have hT := Rd.of_own hrow
      have hU := Rd.of_own hown
      clear htk
      go_wp2_with (fail)
      rename World => w2
      have h2i : (Wn : Int) * Hn ≤ 256 := by exact_mod_cast hWH
      have h2j : (0 : Int) ≤ (Wn : Int) * Hn := Int.mul_nonneg (by omega) (by omega)
      have hmw := i64_ok ((Wn : Int) * Hn) (by omega)
      clear qhS qhQ h2j
      go_loopg [13, 14, 15] (Wn * Hn) (fun g a b i wr => ∃ (k : Nat), g = Wn * Hn - k ∧ k ≤ Wn * Hn ∧ i = .int .i64 k ∧ a = .int .i64 (st k).1 ∧ b = .int .i64 (st k).2 ∧ Blk wr w.heap.size 23 #[.int .i64 Wn, .int .i64 Hn, .int .i64 F, .int .i64 L, .int .i64 X, .int .i64 Y] ∧ Below w2.heap.size w2 wr)
      case atStart => exact ⟨0, rfl, Nat.zero_le _, rfl, by rw [HST0.out], by rw [HST0.out], hS, Below.refl _ _⟩
      case round =>
        clear hS hQ
        obtain ⟨k, hg, hk, rfl, rfl, rfl, hS, hB1⟩ := hrel
        have HG := Lib.hid hg; clear hg
        have qhS := fun i => Blk.cell hS i
        have hBw := hB.trans (hB1.mono hB.size)
        obtain ⟨sa, hsa⟩ : ∃ sa, sa = (st k).1 := ⟨_, rfl⟩
        obtain ⟨sb, hsb⟩ : ∃ sb, sb = (st k).2 := ⟨_, rfl⟩
        have hsp : st k = (sa, sb) := by rw [hsa, hsb]
        rw [← hsa, ← hsb]
        have hsk := HSTS.out k
        rw [hsp] at hsk
        dsimp only at hsk
        have HSK := Lib.hid hsk; have HSP := Lib.hid hsp
        clear hsa hsb hsk hsp
        rename World => W3
        by_cases hlt : k < Wn * Hn
        · have hlti : ((k : Nat) : Int) < (Wn : Int) * Hn := by exact_mod_cast hlt
          obtain ⟨hq, hf1, hf2⟩ := HFLAT.out k hlt
          have hz : rs[k / Wn]? = some rs[k / Wn] := List.getElem?_eq_getElem _
          have hkm : k % Wn < (ltr rs[k / Wn]).length := by rw [ltr_len, hf2]; exact Nat.mod_lt _ (by omega)
          obtain ⟨zc, hzc⟩ : ∃ zc, (ltr rs[k / Wn])[k % Wn]? = some zc := ⟨_, List.getElem?_eq_getElem hkm⟩
          rw [hzc] at hf1
          have hgd : (ltr (flatS rs)).getD k 0 = zc := by rw [List.getD_eq_getElem?_getD, hf1]; rfl
          have HGD := Lib.hid hgd; clear hgd hf1 hkm
          have hkk : k ≤ 10000 := by omega
          have CELL := Lib.hid (fun wx h => Cell_any Wn Hn F L X Y SA sn scap rs rs[k / Wn] k zc wx hW1 (by omega) hkk hz hzc (by omega) h)
          by_cases h63 : zc = 63
          · have hnz : (zc != 63) = false := by simp [h63]
            have hks : st (k + 1) = (if sa < 0 ∨ cost k < sb then ((k : Int), cost k) else (sa, sb)) := by rw [HSK.out, HGD.out, h63]; rfl
            have HKS := Lib.hid hks; clear hks h63 HSK
            have LEFT := Lib.hid (fun wx hT hU hcl => left_any Wn Hn F L X Y y n rA all.length rC all va vc vs (all.map (fun t => rowsOf (shS Wn Hn F L X Y t.2.1 t.2.2 y (figAt fs t.1)) Wn Hn)) w.heap.size k (fun t => chr (shS Wn Hn F L X Y t.2.1 t.2.2 y (figAt fs t.1)) k) (fun d t => !clB (chr (shS Wn Hn F L X Y t.2.1 t.2.2 y (figAt fs t.1)) k) d) wx (fun _ _ => rfl) (by have := HLEN.out; omega) hrl hT hU hcl hW1 (by omega) hkk (fun i h h2 => by rw [List.getElem_map]; exact HCHR.out k hlt all[i]))
            have hck : (((max (figN (all.filter (fun t => !clB (chr (shS Wn Hn F L X Y t.2.1 t.2.2 y (figAt fs t.1)) k) 35)) n) (figN (all.filter (fun t => !clB (chr (shS Wn Hn F L X Y t.2.1 t.2.2 y (figAt fs t.1)) k) 46)) n) : Nat) : Int)) = cost k := (HCOST.out k).symm
            have HCK := Lib.hid hck; clear hck
            go_upto_region 13 with (first | (go_at_call 66; refine (CELL.out _ (rdB hsr hBw)).mono ?_; rintro e w4 ⟨rfl, hb⟩; replace hS := hS.below hb hS.lt; replace hBw := hBw.trans (hb.mono hBw.size); replace hB1 := hB1.trans (hb.mono hB1.size); clear qhS hb; have qhS := fun i => Blk.cell hS i) | (go_at_call 128; refine (LEFT.out _ (rdB hT hB1) (rdB hU hB1) (hcl.below hB1)).mono ?_; rintro e w5 ⟨rfl, hb⟩; rw [HCK.out]; replace hS := hS.below hb hS.lt; replace hBw := hBw.trans (hb.mono hBw.size); replace hB1 := hB1.trans (hb.mono hB1.size); clear qhS hb; have qhS := fun i => Blk.cell hS i))
            clear CELL LEFT HCK
            generalize cost k = ck at *
            by_cases ha : sa < 0
            · as_aux_lemma =>
                have hk2 : st (k + 1) = ((k : Int), ck) := by rw [HKS.out, if_pos (.inl ha)]
                have HK2 := Lib.hid hk2; clear hk2
                go_wp2_with (fail)
                go_roundg (Wn * Hn - (k + 1))
                case measure => rw [HG.out]; omega
                case rel => exact ⟨k + 1, rfl, by omega, by go_num, by rw [HK2.out], by rw [HK2.out], hS, hB1⟩
            · by_cases hc : ck < sb
              · as_aux_lemma =>
                  have hk2 : st (k + 1) = ((k : Int), ck) := by rw [HKS.out, if_pos (.inr hc)]
                  have HK2 := Lib.hid hk2; clear hk2
                  go_wp2_with (fail)
                  go_roundg (Wn * Hn - (k + 1))
                  case measure => rw [HG.out]; omega
                  case rel => exact ⟨k + 1, rfl, by omega, by go_num, by rw [HK2.out], by rw [HK2.out], hS, hB1⟩
              · as_aux_lemma =>
                  have hk2 : st (k + 1) = (sa, sb) := by rw [HKS.out, if_neg (fun h => h.elim ha hc)]
                  have HK2 := Lib.hid hk2; clear hk2
                  go_wp2_with (fail)
                  go_roundg (Wn * Hn - (k + 1))
                  case measure => rw [HG.out]; omega
                  case rel => exact ⟨k + 1, rfl, by omega, by go_num, by rw [HK2.out], by rw [HK2.out], hS, hB1⟩
          · as_aux_lemma =>
              have hnz : (zc != 63) = true := by simp [h63]
              have hk2 : st (k + 1) = (sa, sb) := by
                rw [HSK.out, HGD.out, show (zc == 63) = false by simp [h63]]; rfl
              have HK2 := Lib.hid hk2; clear hk2 h63 HSK
              go_wp2_with (go_at_call 66; refine (CELL.out _ (rdB hsr hBw)).mono ?_; rintro e w4 ⟨rfl, hb⟩; replace hS := hS.below hb hS.lt; replace hBw := hBw.trans (hb.mono hBw.size); replace hB1 := hB1.trans (hb.mono hB1.size); clear qhS hb; have qhS := fun i => Blk.cell hS i)
              go_roundg (Wn * Hn - (k + 1))
              case measure => rw [HG.out]; omega
              case rel => exact ⟨k + 1, rfl, by omega, by go_num, by rw [HK2.out], by rw [HK2.out], hS, hB1⟩
        · obtain rfl : k = Wn * Hn := by omega
          have hge : ¬ ((Wn * Hn : Nat) : Int) < (Wn : Int) * Hn := by rw [Int.natCast_mul]; omega
          have HS2 := HSP
          go_wp2_with (fail)
          go_ret2
          exact ⟨by rw [HS2.out]; rfl, hBw⟩
end Go.Proofs.YtifddfchpknkbaaGreatDoor
