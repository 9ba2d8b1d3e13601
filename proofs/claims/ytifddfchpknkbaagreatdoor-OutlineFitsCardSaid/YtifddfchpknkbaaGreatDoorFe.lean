import Derived.Test.YtifddfchpknkbaaGreatDoorSp
set_option linter.unusedVariables false
set_option linter.unusedSimpArgs false
namespace Go.Proofs.YtifddfchpknkbaaGreatDoor
open Go.RowKit

/-- The first way to choose so many more cells, from one on, that tell. -/
def fewR (ds cells : List Nat) : Nat → Nat → Nat → Option (List Nat)
  | 0, _, set => if tellB ds set then some [] else none
  | left + 1, lo, set => ((List.range (cells.length + 1 - (left + 1))).filter fun n => decide (lo ≤ n)).findSome? fun n => (fewR ds cells left (n + 1) (set ||| 2 ^ n)).map fun ext => cells.getD n 0 :: ext
def fewUp (ds cells : List Nat) (left lo set q : Nat) : Option (List Nat) := ((List.range q).filter fun n => decide (lo ≤ n)).findSome? fun n => (fewR ds cells left (n + 1) (set ||| 2 ^ n)).map fun ext => cells.getD n 0 :: ext
theorem fewUp_succ (ds cells : List Nat) (left lo set q : Nat) (h : lo ≤ q) (h0 : fewUp ds cells left lo set q = none) : fewUp ds cells left lo set (q + 1) = (fewR ds cells left (q + 1) (set ||| 2 ^ q)).map fun ext => cells.getD q 0 :: ext := by
  unfold fewUp at *
  rw [List.range_succ, List.filter_append, List.findSome?_append, h0]
  simp [h]
theorem fewUp_start (ds cells : List Nat) (left lo set : Nat) : fewUp ds cells left lo set lo = none := by
  unfold fewUp
  have : (List.range lo).filter (fun n => decide (lo ≤ n)) = [] := by
    rw [List.filter_eq_nil_iff]; intro o ho; have := List.mem_range.1 ho; simp; omega
  rw [this]; rfl
theorem fewUp_stop (ds cells : List Nat) (left lo set : Nat) (r : List Nat) : ∀ (q m : Nat), q ≤ m → fewUp ds cells left lo set q = some r → fewUp ds cells left lo set m = some r := by
  intro q m hqm h
  induction m with
  | zero => obtain rfl : q = 0 := by omega
            exact h
  | succ m ih =>
    rcases Nat.lt_or_ge m q with h1 | h1
    · obtain rfl : q = m + 1 := by omega
      exact h
    · have h2 := ih h1
      unfold fewUp at h2 ⊢
      rw [List.range_succ, List.filter_append, List.findSome?_append, h2]; rfl

theorem own_pop {w : World} {base g m cap : Nat} {e : TypeId} {xs : List Value} {x : Value} (h : w.ownsRow base e 1 (.slice (some ⟨g, 0, none⟩) (m + 1) cap) (m + 1) (xs ++ [x])) : w.ownsRow base e 1 (.slice (some ⟨g, 0, none⟩) m cap) m xs := by
  have hl := h.1
  simp only [List.length_append, List.length_cons, List.length_nil] at hl
  rcases h.2 with ⟨h', _⟩ | ⟨g', cap', cur, h', hb, hg, hn, hm, hs, ht⟩
  · cases h'
  · injection h' with e1 _ e3
    injection e1 with e1
    injection e1 with e1
    subst e1; subst e3
    refine ⟨by omega, .inr ⟨g, cap, cur, rfl, hb, hg, by omega, hm, hs, ?_⟩⟩
    have h2 := congrArg (List.take m) ht
    rw [List.take_take, List.take_append_of_le_length (by omega), List.take_of_length_le (show xs.length ≤ m by omega)] at h2
    rw [← h2]; congr 1; omega
theorem run_slice_hi {P : Program} (t e : TypeId) (sz : Nat) (ht : P.underlying t = some (.slice e)) (hs : ∀ w, (sizeOf e).run P w = .ok sz w) (g n cap : Nat) (kl : IntKind) (h : Nat) (h2 : h ≤ cap) (h3 : 0 < cap) (w : World) :
    (Instr.slice t (.slice (some ⟨g, 0, none⟩) n cap) none (some (.int kl h)) none).run P w = .ok (.slice (some ⟨g, 0, none⟩) h cap) w := by
  have e2 : 0 ≤ (h : Int) ∧ (h : Int) ≤ (cap : Int) := by omega
  have e3 : ¬ cap = 0 := by omega
  simp [Instr.slice, run_underlying ht, Instr.sliceBounds, Instr.sliceBound, asIntOf, hs, h2, e3, Addr.add]

/-- What the search keeps: its boxes, and the chosen cells. -/
def FS (w0 : World) (bD bL bC bF : Nat) (DA : Option Addr) (dn dcap : Nat) (CA : Option Addr) (cn ccap : Nat) (ch : List Nat) (w : World) : Prop :=
  ∃ v, Blk w bC 87 #[v] ∧ w.ownsRow w0.heap.size 3 1 v ch.length (ch.map natV) ∧ Blk w bD 175 #[.slice DA dn dcap] ∧ Blk w bL 87 #[.slice CA cn ccap] ∧ Blk w bF 215 #[.func (.func 170) #[] #[.pointer (some ⟨bD, 0, none⟩), .pointer (some ⟨bL, 0, none⟩), .pointer (some ⟨bC, 0, none⟩), .pointer (some ⟨bF, 0, none⟩)]] ∧ Below w0.heap.size w0 w
def FewPost (w0 : World) (bD bL bC bF : Nat) (DA : Option Addr) (dn dcap : Nat) (CA : Option Addr) (cn ccap : Nat) (ch : List Nat) (r : Option (List Nat)) (e : Ending) (w' : World) : Prop :=
  match r with
  | some ext => e = .returned (.bool true) ∧ FS w0 bD bL bC bF DA dn dcap CA cn ccap (ch ++ ext) w'
  | none => e = .returned (.bool false) ∧ FS w0 bD bL bC bF DA dn dcap CA cn ccap ch w'

set_option maxRecDepth 100000 in
set_option maxHeartbeats 3200000 in
theorem search_any (w0 : World) (bD bL bC bF : Nat) (DA : Option Addr) (dn dcap : Nat) (CA : Option Addr) (cn ccap : Nat) (ds cells : List Nat) (hdn : dn ≤ 100000) (hcn : cn ≤ 8) (hds : ∀ d ∈ ds, d < 18446744073709551616)
    (hdr : Rd w0 w0.heap.size 1 DA dn (ds.map u64V)) (hcr : Rd w0 w0.heap.size 1 CA cn (cells.map natV)) (hbb : w0.heap.size ≤ bD ∧ w0.heap.size ≤ bL ∧ w0.heap.size ≤ bC ∧ w0.heap.size ≤ bF) (hne : bD ≠ bC ∧ bL ≠ bC ∧ bF ≠ bC) :
    ∀ (left lo set : Nat) (ch : List Nat) (w : World), left ≤ 8 → lo ≤ 9 → set < 256 → ch.length + left ≤ 8 → FS w0 bD bL bC bF DA dn dcap CA cn ccap ch w →
    Calls Tryz.prog 170 #[.int .i64 lo, .int .i64 left, .int .u64 (set : Int), .pointer (some ⟨bD, 0, none⟩), .pointer (some ⟨bL, 0, none⟩), .pointer (some ⟨bC, 0, none⟩), .pointer (some ⟨bF, 0, none⟩)] w (FewPost w0 bD bL bC bF DA dn dcap CA cn ccap ch (fewR ds cells left lo set)) := by
  obtain ⟨i0, hi, hz0, hz1', hz2'⟩ := info_parts info3
  have hlen := hcr.len
  intro left
  induction left with
  | zero =>
    intro lo set ch w _ _ hset hch ⟨v, hbC, hown, hbD, hbL, hbF, hB⟩
    have hcD := fun i => hbD.cell i
    have hlD := hbD.lt
    go_enter Tryz.func170, Tryz.ntmps170
    go_wp2_with (first | (go_at_call 134; refine (tell_any DA dn dcap ds set _ hdn hds (by omega) ((hdr.below hB).more hB.size)).mono ?_; rintro e w1 ⟨rfl, rfl⟩))
    go_ret
    unfold FewPost fewR
    cases htl : tellB ds set
    · exact ⟨rfl, v, hbC, hown, hbD, hbL, hbF, hB⟩
    · exact ⟨rfl, v, hbC, by simpa using hown, hbD, hbL, hbF, hB⟩
  | succ left ih =>
    intro lo set ch w hl8 hlo hset hch ⟨v, hbC, hown, hbD, hbL, hbF, hB⟩
    have hres : fewR ds cells (left + 1) lo set = fewUp ds cells left lo set (cells.length + 1 - (left + 1)) := rfl
    have HRES := Lib.hid hres; clear hres
    have HLEN := Lib.hid hlen; clear hlen
    go_enter Tryz.func170, Tryz.ntmps170
    go_wp2
    go_loopg [11] (cn + 1 - lo) (fun g i wr => ∃ (q : Nat), g = cn + 1 - q ∧ lo ≤ q ∧ q ≤ 9 ∧ i = .int .i64 q ∧ fewUp ds cells left lo set q = none ∧ FS w0 bD bL bC bF DA dn dcap CA cn ccap ch wr)
    case atStart => exact ⟨lo, rfl, Nat.le_refl _, hlo, rfl, fewUp_start _ _ _ _ _, v, hbC, hown, hbD, hbL, hbF, hB⟩
    case round =>
      clear hbC hown hbD hbL hbF hB
      obtain ⟨q, hg, hlq, hq9, rfl, hno, v, hbC, hown, hbD, hbL, hbF, hB⟩ := hrel
      obtain ⟨va, vc, rfl⟩ := own_slice hown
      have HG := Lib.hid hg; clear hg
      have hcL := fun i => hbL.cell i
      have hlL := hbL.lt
      by_cases hlt : q + (left + 1) ≤ cn
      · have hqn : q < cn := by omega
        obtain ⟨cb, coff, hz, rfl, hcb, hcc⟩ := (hcr.below hB).atm hqn
        have hgd : cells.getD q 0 = cells[q] := by rw [List.getD, List.getElem?_eq_getElem hz]; rfl
        have hup := fewUp_succ ds cells left lo set q hlq hno
        rw [hgd] at hup
        generalize cells[q] = c at *
        simp only [natV] at hcc
        have HUP := Lib.hid hup; clear hup hno hgd
        have hle : (q : Int) ≤ (cn : Int) - ((left : Int) + 1) := by omega
        obtain ⟨m, hm⟩ : ∃ m, m = ch.length := ⟨_, rfl⟩
        obtain ⟨ys, hys⟩ : ∃ ys, ys = ch.map natV := ⟨_, rfl⟩
        rw [← hm, ← hys] at hown
        rw [← hm] at hbC
        have HM := Lib.hid hm; have HYS := Lib.hid hys
        have hm8 : m ≤ 8 := by omega
        clear hm hys
        go_wp2_with (fail)
        clear hcL hlL
        refine wp_region_G (fun w' => Blk w' bC 87 #[.slice va m vc] ∧ Blk w' bL 87 #[.slice (some ⟨cb, coff, none⟩) cn ccap] ∧ w'.cell? ⟨cb, coff + q, none⟩ = some (.int .i64 (c : Int))) 7 (by kernel_rfl) ?_
        replace hbC := hbC.drew; replace hbD := hbD.drew; replace hbL := hbL.drew; replace hbF := hbF.drew; replace hB := hB.drew; replace hown := hown.drew
        have hTT := And.intro hbC (And.intro hbL hcc)
        refine wpG_take (i := 0) (v := ?v0) rfl (by kernel_rfl) (by kernel_rfl) (by kernel_rfl) (by kernel_rfl) (fun _ _ _ h => h) (Or.inl ⟨by rfl, ?hy0⟩) hTT ?rest0
        case hy0 => intro wq hSw; have hq1 := fun i => hSw.1.cell i; have hq2 := fun i => hSw.2.1.cell i; have hq3 := hSw.2.2; go_simp <;> with_reducible rfl
        simp only [List.getElem_toArray, List.getElem_cons_zero, List.getElem_cons_succ, Act.put, List.setIfInBounds_toArray, List.set_cons_zero, List.set_cons_succ]
        refine wpG_take (i := 1) (v := ?v1) rfl (by kernel_rfl) (by kernel_rfl) (by kernel_rfl) (by kernel_rfl) (fun _ _ _ h => h) (Or.inl ⟨by rfl, ?hy1⟩) hTT ?rest1
        case hy1 => intro wq hSw; have hq1 := fun i => hSw.1.cell i; have hq2 := fun i => hSw.2.1.cell i; have hq3 := hSw.2.2; go_simp <;> with_reducible rfl
        simp only [List.getElem_toArray, List.getElem_cons_zero, List.getElem_cons_succ, Act.put, List.setIfInBounds_toArray, List.set_cons_zero, List.set_cons_succ]
        refine wpG_take (i := 2) (v := ?v2) rfl (by kernel_rfl) (by kernel_rfl) (by kernel_rfl) (by kernel_rfl) (fun _ _ _ h => h) (Or.inl ⟨by rfl, ?hy2⟩) hTT ?rest2
        case hy2 => intro wq hSw; have hq1 := fun i => hSw.1.cell i; have hq2 := fun i => hSw.2.1.cell i; have hq3 := hSw.2.2; go_simp <;> with_reducible rfl
        simp only [List.getElem_toArray, List.getElem_cons_zero, List.getElem_cons_succ, Act.put, List.setIfInBounds_toArray, List.set_cons_zero, List.set_cons_succ]
        refine wpG_take (i := 3) (v := ?v3) rfl (by kernel_rfl) (by kernel_rfl) (by kernel_rfl) (by kernel_rfl) (fun _ _ _ h => h) (Or.inl ⟨by rfl, ?hy3⟩) hTT ?rest3
        case hy3 => intro wq hSw; have hq1 := fun i => hSw.1.cell i; have hq2 := fun i => hSw.2.1.cell i; have hq3 := hSw.2.2; go_simp <;> with_reducible rfl
        simp only [List.getElem_toArray, List.getElem_cons_zero, List.getElem_cons_succ, Act.put, List.setIfInBounds_toArray, List.set_cons_zero, List.set_cons_succ]
        refine wpG_take (i := 4) (v := ?v4) rfl (by kernel_rfl) (by kernel_rfl) (by kernel_rfl) (by kernel_rfl) (fun _ _ _ h => h) (Or.inl ⟨by rfl, ?hy4⟩) hTT ?rest4
        case hy4 => intro wq hSw; have hq1 := fun i => hSw.1.cell i; have hq2 := fun i => hSw.2.1.cell i; have hq3 := hSw.2.2; go_simp <;> with_reducible rfl
        simp only [List.getElem_toArray, List.getElem_cons_zero, List.getElem_cons_succ, Act.put, List.setIfInBounds_toArray, List.set_cons_zero, List.set_cons_succ]
        refine wpG_one (i := 5) rfl (by kernel_rfl) (fun K hK => ?_)
        go_simp
        replace hbC := hbC.alloc (.cells #[.int .i64 (c : Int)] 3); replace hbD := hbD.alloc (.cells #[.int .i64 (c : Int)] 3); replace hbL := hbL.alloc (.cells #[.int .i64 (c : Int)] 3); replace hbF := hbF.alloc (.cells #[.int .i64 (c : Int)] 3); have hcc1 := (World.cell?_alloc_lt _ (.cells #[.int .i64 (c : Int)] 3) ⟨cb, coff + q, none⟩ (Nat.lt_of_lt_of_le hcb hB.size)).trans hcc; replace hB := hB.alloc hB.size (.cells #[.int .i64 (c : Int)] 3); replace hown := hown.alloc (.cells #[.int .i64 (c : Int)] 3); clear hTT; have hTT := And.intro hbC (And.intro hbL hcc1)
        refine hK _ _ (.inr hTT) ?_
        clear hK K
        try simp only [List.getElem_toArray, List.getElem_cons_zero, List.getElem_cons_succ, Act.put, List.setIfInBounds_toArray, List.set_cons_zero, List.set_cons_succ]
        refine wpG_one (i := 6) rfl (by kernel_rfl) (fun K hK => ?_)
        rw [if_pos (by rfl)]; refine wp_append_any _ _ _ 87 rfl w0.heap.size 3 i0 (.int .i64 0) 1 8 Tryz.underlying87 hi hz0 hz1' hz2' rfl (by decide) _ m ys rfl hown (wr.heap.size + 1) (some ⟨wr.heap.size, 0, none⟩) 1 1 [.int .i64 (c : Int)] rfl (Rd.blkN (Blk.new _ _ _) rfl (Nat.lt_succ_self _)).reads (by simp [Value.oneCell']) (by unfold maxLen; omega) (by omega) (by exact hB.size) (fun v' w2 hown' hgrow hob => ?_)
        obtain ⟨va', vc', rfl⟩ := own_slice hown'; replace hbC := hbC.kept_own hown (by decide) hgrow; replace hbD := hbD.kept_own hown (by decide) hgrow; replace hbL := hbL.kept_own hown (by decide) hgrow; replace hbF := hbF.kept_own hown (by decide) hgrow; have hcc2 := (World.cell?_of_block (a := ⟨cb, coff + q, none⟩) (hgrow.block cb (Nat.lt_of_lt_of_le hcb hB.size) (fun e => by have := (hown.lt _ e.symm).1; omega))).trans hcc1; replace hB := hB.grown hgrow hB.size (fun z hz => (hown.lt z hz).1); have hfz := hbC.frozen 0; have hlC := hbC.lt; have hc3 : w2.cell? ⟨bC, 0, none⟩ = some (.slice va m vc) := (by have h := hbC.cell 0; simpa using h); clear hTT; have hTT := And.intro hbC (And.intro hbL hcc2)
        refine hK _ _ (.inr hTT) ?_
        clear hK K
        try simp only [List.getElem_toArray, List.getElem_cons_zero, List.getElem_cons_succ, Act.put, List.setIfInBounds_toArray, List.set_cons_zero, List.set_cons_succ]
        refine wpG_one (i := 7) rfl (by kernel_rfl) (fun K hK => ?_)
        go_simp
        refine hK _ _ (.inl rfl) ?_
        clear hK K
        try simp only [List.getElem_toArray, List.getElem_cons_zero, List.getElem_cons_succ, Act.put, List.setIfInBounds_toArray, List.set_cons_zero, List.set_cons_succ]
        refine wpG_done (by kernel_rfl) ?_ _
        have own4 := hown'.kept (grownBy_setCell' w2 bC (.slice va' (m + 1) vc')) (.inr (Boxed.not_row (t := 87) (u := .slice va m vc) hbC (by decide) hown').symm)
        have kC : Blk (w2.setCell ⟨bC, 0, none⟩ (.slice va' (m + 1) vc')) bC 87 #[.slice va' (m + 1) vc'] := by simpa using hbC.set_ 0 (.slice va' (m + 1) vc')
        have kD := hbD.far (p := ⟨bC, 0, none⟩) (show bD ≠ bC by omega) (.slice va' (m + 1) vc')
        have kL := hbL.far (p := ⟨bC, 0, none⟩) (show bL ≠ bC by omega) (.slice va' (m + 1) vc')
        have kF := hbF.far (p := ⟨bC, 0, none⟩) (show bF ≠ bC by omega) (.slice va' (m + 1) vc')
        have kB := hB.setCell (p := ⟨bC, 0, none⟩) (show w0.heap.size ≤ bC by omega) (.slice va' (m + 1) vc')
        generalize w2.setCell ⟨bC, 0, none⟩ (.slice va' (m + 1) vc') = w3 at *
        have hcF := fun i => kF.cell i
        have hlF := kF.lt
        clear hTT hc3 hfz hcc hcc1 hcc2
        go_wp2_with (fail)
        have own5 : w3.ownsRow w0.heap.size 3 1 (.slice va' (m + 1) vc') (ch ++ [c]).length ((ch ++ [c]).map natV) := by rw [List.length_append, List.map_append, ← HYS.out, ← HM.out]; exact own4
        have hset2 : set ||| 2 ^ q < 256 := by
          have h8 : (2 : Nat) ^ q < 2 ^ 8 := Nat.pow_lt_pow_right (by omega) (by omega)
          exact Nat.or_lt_two_pow (n := 8) (by omega) h8
        have hp8 : (2 : Nat) ^ q < 256 := Nat.lt_of_lt_of_le (Nat.pow_lt_pow_right (by omega) (show q < 8 by omega)) (by decide)
        have hw1 : IntKind.i64.wrap ((q : Int) + 1) = (q : Int) + 1 := IntWalk.i64_in _ (by omega)
        have hw2 : IntKind.i64.wrap (left : Int) = (left : Int) := IntWalk.i64_in _ (by omega)
        have hpc : (2 : Int) ^ q = ((2 ^ q : Nat) : Int) := by rw [Int.natCast_pow]; rfl
        have hw3 : IntKind.u64.wrap ((2 : Int) ^ q) = (2 : Int) ^ q := IntWalk.u64_in _ (by rw [hpc]; generalize (2 : Nat) ^ q = z at *; omega)
        have hor : bits BinOp.or IntKind.u64 (set : Int) ((2 : Int) ^ q) = ((set ||| 2 ^ q : Nat) : Int) := by
          rw [hpc]; exact bits_or_u64_nat set (2 ^ q) (Nat.lt_of_lt_of_le hset (by decide)) (Nat.lt_of_lt_of_le hp8 (by decide))
        clear hpc
        have ihq := ih (q + 1) (set ||| 2 ^ q) (ch ++ [c]) w3.drew (by omega) (by omega) hset2 (by have h9 := HM.out; rw [List.length_append]; simp only [List.length_cons, List.length_nil]; omega) ⟨_, kC, own5, kD, kL, kF, kB.drew⟩
        clear ih own4 own5 kC kD kL kB
        cases hq : fewR ds cells left (q + 1) (set ||| 2 ^ q) with
        | none =>
          rw [hq] at ihq
          have HQ := Lib.hid hq; clear hq
          go_region_with (go_at_call 170; refine ihq.mono ?_; rintro e w4 ⟨rfl, v4, gC, gown, gD, gL, gF, gB⟩)
          have hL : (ch ++ [c]).length = m + 1 := by rw [List.length_append, HM.out]; rfl
          rw [hL, List.map_append] at gown
          obtain ⟨g4, c4, rfl, hg4, hg4l⟩ := gown.form (Nat.succ_pos _)
          have hcap4 : m + 1 ≤ c4 := own_le gown (Nat.succ_pos _)
          have gpop := own_pop gown
          have hsl := run_slice_hi (P := Tryz.prog) 87 3 1 Tryz.underlying87 (fun _ => by kernel_rfl) g4 (m + 1) c4 .i64 m (by omega) (by omega)
          have hcC := fun i => gC.cell i
          have hfC := fun i => gC.frozen i
          have hlC := gC.lt
          clear hw1 hw2 hw3 hor hcF hlF ihq
          go_wp2
          have gown' := gpop.kept (grownBy_setCell' w4 bC (.slice (some ⟨g4, 0, none⟩) m c4)) (.inr (Boxed.not_row (t := 87) (u := .slice (some ⟨g4, 0, none⟩) (m + 1) c4) gC (by decide) gpop).symm)
          have gown2 : (w4.setCell ⟨bC, 0, none⟩ (.slice (some ⟨g4, 0, none⟩) m c4)).ownsRow w0.heap.size 3 1 (.slice (some ⟨g4, 0, none⟩) m c4) ch.length (ch.map natV) := (congrArg (fun z => (w4.setCell ⟨bC, 0, none⟩ (.slice (some ⟨g4, 0, none⟩) m c4)).ownsRow w0.heap.size 3 1 (.slice (some ⟨g4, 0, none⟩) m c4) z (ch.map natV)) HM.out).mp gown'
          go_roundg (cn + 1 - (q + 1))
          case measure => rw [HG.out]; omega
          case rel =>
            refine ⟨q + 1, rfl, by omega, by omega, by go_num, by rw [HUP.out, HQ.out]; rfl, .slice (some ⟨g4, 0, none⟩) m c4, ?_, gown2, ?_, ?_, ?_, ?_⟩
            · simpa using gC.set_ 0 (.slice (some ⟨g4, 0, none⟩) m c4)
            · exact gD.far (p := ⟨bC, 0, none⟩) (show bD ≠ bC by omega) _
            · exact gL.far (p := ⟨bC, 0, none⟩) (show bL ≠ bC by omega) _
            · exact gF.far (p := ⟨bC, 0, none⟩) (show bF ≠ bC by omega) _
            · exact gB.setCell (p := ⟨bC, 0, none⟩) (show w0.heap.size ≤ bC by omega) _
        | some ext =>
          rw [hq] at ihq
          have HQ := Lib.hid hq; clear hq
          go_region_with (go_at_call 170; refine ihq.mono ?_; rintro e w4 ⟨rfl, gFS⟩)
          go_wp2
          go_ret
          have hup2 := HUP.out
          rw [HQ.out] at hup2
          have hst := fewUp_stop ds cells left lo set _ (q + 1) (cells.length + 1 - (left + 1)) (by have := HLEN.out; omega) hup2
          rw [HRES.out, hst]
          refine ⟨rfl, ?_⟩
          rw [List.append_assoc] at gFS
          exact gFS
      · have hle : ¬ (q : Int) ≤ (cn : Int) - ((left : Int) + 1) := by omega
        have hnone : fewR ds cells (left + 1) lo set = none := by
          rw [HRES.out]
          cases hx : fewUp ds cells left lo set (cells.length + 1 - (left + 1)) with
          | none => rfl
          | some r =>
            have := fewUp_stop ds cells left lo set r (cells.length + 1 - (left + 1)) q (by have := HLEN.out; omega) hx
            rw [hno] at this; cases this
        have HNO := Lib.hid hnone; clear hnone hno
        go_wp2
        go_ret
        rw [HNO.out]
        exact ⟨rfl, _, hbC, hown, hbD, hbL, hbF, hB⟩
end Go.Proofs.YtifddfchpknkbaaGreatDoor
