import Derived.Test.YtekmnelpkogppaaGreatDoorKx11
set_option linter.unusedVariables false
set_option linter.unusedSimpArgs false
set_option maxRecDepth 100000
set_option maxHeartbeats 40000000
namespace Go.Proofs.YtekmnelpkogppaaGreatDoor
section
open Go.RowKit Go.Lib
theorem argument_any (b : Bool) (w : World) : Calls Tryz.prog 80 #[.bool b] w fun e w' => e = .returned (.int .i64 (if b then 0 else 2)) ∧ w = w' := by
 cases b
 all_goals
  go_enter Tryz.func80, Tryz.ntmps80
  go_wp2
  go_ret
  exact ⟨rfl, rfl⟩
end
section
open Go.RowKit Go.Lib
theorem refCopy_any (W l : Int) (A : Option Addr) (n cap : Nat) (w : World) (hn : n ≤ 1000) :
  Calls Tryz.prog 54 #[.agg #[.int .i64 W, .slice A n cap], .int .i64 l] w fun e w' => e = .returned (.bool (inB l 0 (n - 1))) ∧ Below w.heap.size w w' := by
 go_enter Tryz.func54, Tryz.ntmps54
 go_wp2_with (go_at_call 85; refine (in_any _ _ _ _).mono ?_; rintro e w1 ⟨rfl, rfl⟩)
 go_ret
 exact ⟨rfl, (Below.refl _ w).alloc (Nat.le_refl _) _⟩
end
section
open Go.RowKit Go.Lib
theorem badSource_any (x W : Int) (A : Option Addr) (n cap g : Nat) (w : World) (hn : n ≤ 1000) (hb : Blk w g 24 #[.int .i64 W, .slice A n cap]) :
  Calls Tryz.prog 147 #[.int .i64 x, .pointer (some ⟨g, 0, none⟩)] w fun e w' => e = .returned (.bool (!(x == -1 || inB x 0 (n - 1)))) ∧ Below w.heap.size w w' := by
 have qX := fun i => hb.cell i
 have hh := hasCopy_any W x A n cap w hn
 have HH := Lib.hid hh; clear hh
 by_cases h : x = -1
 ·have h1 : (x != -1) = false := by rw [h]; rfl
  have h2 : (x == -1) = true := by rw [h]; rfl
  rw [h2]
  clear h h2
  go_enter Tryz.func147, Tryz.ntmps147
  go_wp2_with (fail)
  go_ret
  exact ⟨rfl, Below.refl _ _⟩
 ·have h1 : (x != -1) = true := by rw [bne_iff_ne]; exact h
  have h2 : (x == -1) = false := by rw [beq_eq_false_iff_ne]; exact h
  rw [h2]
  clear h h2
  go_enter Tryz.func147, Tryz.ntmps147
  go_wp2_with (go_at_call 99; refine HH.out.mono ?_; rintro e w1 ⟨rfl, hb1⟩)
  go_ret
  exact ⟨rfl, hb1⟩
def sourcesB (n : Nat) (t : List Int) : Bool := decide (t.length = n) && t.all fun x => x == -1 || inB x 0 (n - 1)
theorem goodSources_any (W : Int) (A : Option Addr) (n cap : Nat) (tA : Option Addr) (tn tc : Nat) (t : List Int) (w : World) (hn : n ≤ 1000) (htn : tn ≤ maxLen) (htr : Rd w w.heap.size 1 tA tn (t.map (Value.int .i64))) :
  Calls Tryz.prog 103 #[.agg #[.int .i64 W, .slice A n cap], .slice tA tn tc] w fun e w' => e = .returned (.bool (sourcesB n t)) ∧ Below w.heap.size w w' := by
 have hmf : ∀ (fn : Fn) (first cap : Array Value) (w : World), (Instr.makeFunc fn first cap).run Tryz.prog w = .ok (.func fn first cap) w := fun _ _ _ _ => rfl
 have hlen : t.length = tn := by simpa using htr.len
 have hB : Below w.heap.size w (w.alloc (.cells #[.int .i64 W, .slice A n cap] 24)) := (Below.refl _ w).alloc (Nat.le_refl _) _
 have hX := Blk.new w 24 #[.int .i64 W, .slice A n cap]
 have q0 := fun i => hX.cell i
 have hct := contains_int 147 (.pointer (some ⟨w.heap.size, 0, none⟩)) (fun x => !(x == -1 || inB x 0 (n - 1))) tA tn tc t _ htn (rdB htr hB) (fun _ _ => rfl) (Lib.hid fun x _ wy hy => badSource_any x W A n cap w.heap.size wy hn (hX.below hy hX.lt))
 have he : sourcesB n t = (decide (tn = n) && !(t.any fun x => !(x == -1 || inB x 0 (n - 1)))) := by unfold sourcesB; rw [hlen, List.all_eq_not_any_not]
 rw [he]
 generalize (t.any fun x => !(x == -1 || inB x 0 (n - 1))) = bad at *
 have HCT := Lib.hid hct; clear hct he hlen
 by_cases hh : tn = n
 ·have hb : ((tn : Int) == n) = true := by rw [beq_iff_eq]; omega
  rw [decide_eq_true hh]
  clear hh
  cases bad
  all_goals
   go_enter Tryz.func103, Tryz.ntmps103
   go_wp2_with (go_at_call 130; refine HCT.out.mono ?_; rintro e w2 ⟨rfl, hb2⟩; replace hB := hB.trans (hb2.mono hB.size); clear hb2)
   go_ret
   exact ⟨rfl, hB⟩
 ·have hb : ((tn : Int) == n) = false := by rw [beq_eq_false_iff_ne]; omega
  rw [decide_eq_false hh]
  clear hh
  go_enter Tryz.func103, Tryz.ntmps103
  go_wp2_with (fail)
  go_ret
  exact ⟨rfl, hB⟩
end
section
theorem ed_map {α β : Type} [DecidableEq α] [DecidableEq β] (f : α → β) : ∀ (a b : List α), (∀ x ∈ a, ∀ y ∈ b, f x = f y → x = y) → ed (a.map f) (b.map f) = ed a b
 | [], b, _ => by simp [ed_nil]
 | x :: xs, b, h => by
  have ih := fun b hb => ed_map f xs b hb
  induction b with
  | nil => simp [ed_nil_r]
  | cons y ys ihb =>
   rw [List.map_cons, List.map_cons, ed_cons, ed_cons, ← List.map_cons, ← List.map_cons]
   rw [ih ys (fun p hp q hq => h p (by simp [hp]) q (by simp [hq])), ih (y :: ys) (fun p hp q hq => h p (by simp [hp]) q hq), ihb (fun p hp q hq => h p hp q (by simp [hq]))]
   by_cases e : x = y
   ·rw [if_pos e, if_pos (by rw [e])]
   ·rw [if_neg e, if_neg (fun e2 => e (h x (by simp) y (by simp) e2))]
end
section
open Go.RowKit Go.Lib Go.Maps
theorem refChanges_any (s : Nat) : ∀ (A : Option Addr) (n cap : Nat) (xs : List Int) (A2 : Option Addr) (n2 cap2 : Nat) (ys : List Int) (w : World), n + n2 ≤ s → n ≤ 1000 → n2 ≤ 1000 → n ≤ cap → n2 ≤ cap2 → Rd w w.heap.size 1 A n (xs.map (Value.int .i64)) → Rd w w.heap.size 1 A2 n2 (ys.map (Value.int .i64)) →
  Calls Tryz.prog 29 #[.slice A n cap, .slice A2 n2 cap2] w fun e w' => e = .returned (.int .i64 (ed xs ys : Nat)) ∧ Below w.heap.size w w' := by
 induction s using Nat.strongRecOn with
 | ind s ih =>
 intro A n cap xs A2 n2 cap2 ys w hs hn hn2 hc hc2 hr hr2
 have hl1 : xs.length = n := by simpa using hr.len
 have hl2 : ys.length = n2 := by simpa using hr2.len
 match xs, ys, hl1, hl2 with
 | [], ys, hl1, hl2 =>
  obtain rfl : n = 0 := hl1.symm
  have he : ((ed ([] : List Int) ys : Nat) : Int) = n2 := by rw [ed_nil, hl2]
  rw [he]
  clear he ih
  go_enter Tryz.func29, Tryz.ntmps29
  go_wp2_with (fail)
  go_ret
  exact ⟨rfl, Below.refl _ _⟩
 | x :: xs, [], hl1, hl2 =>
  obtain rfl : n2 = 0 := hl2.symm
  have he : ((ed (x :: xs) ([] : List Int) : Nat) : Int) = n := by rw [ed_nil_r, hl1]
  have hn0 : ((n : Int) == 0) = false := by rw [beq_eq_false_iff_ne]; simp at hl1; omega
  rw [he]
  clear he ih
  go_enter Tryz.func29, Tryz.ntmps29
  go_wp2_with (fail)
  go_ret
  exact ⟨rfl, Below.refl _ _⟩
 | x :: xs, y :: ys, hl1, hl2 =>
  simp only [List.length_cons] at hl1 hl2
  obtain ⟨b, off, hz, rfl, hb, hcell⟩ := hr.atm (show 0 < n by omega)
  obtain ⟨b2, off2, hz2, rfl, hb2, hcell2⟩ := hr2.atm (show 0 < n2 by omega)
  simp only [List.getElem_cons_zero, Nat.add_zero] at hcell hcell2
  have hni : (0 : Int) < n := by omega
  have hn2i : (0 : Int) < n2 := by omega
  have hn0 : ((n : Int) == 0) = false := by rw [beq_eq_false_iff_ne]; omega
  have hn20 : ((n2 : Int) == 0) = false := by rw [beq_eq_false_iff_ne]; omega
  have hd1 := hr.cutA' (k := 1) (m := n) (cap := cap) (by omega) (Nat.le_refl _) hc
  have hd2 := hr2.cutA' (k := 1) (m := n2) (cap := cap2) (by omega) (Nat.le_refl _) hc2
  simp only [List.map_cons, Nat.mul_one, List.drop_succ_cons, List.drop_zero] at hd1 hd2
  rw [List.take_of_length_le (by rw [List.length_map]; omega)] at hd1 hd2
  have hS1 : ∀ w, (Instr.slice 25 (.slice (some ⟨b, off, none⟩) n cap) (some (.int .i64 1)) none none).run Tryz.prog w = .ok (.slice (cutA (some ⟨b, off, none⟩) cap 1 1) (n - 1) (cap - 1)) w := fun w => run_slice_lo (P := Tryz.prog) 25 3 1 Tryz.underlying25 Tryz.sizeOf3 _ n cap .i64 1 (by omega) hc w
  have hS2 : ∀ w, (Instr.slice 25 (.slice (some ⟨b2, off2, none⟩) n2 cap2) (some (.int .i64 1)) none none).run Tryz.prog w = .ok (.slice (cutA (some ⟨b2, off2, none⟩) cap2 1 1) (n2 - 1) (cap2 - 1)) w := fun w => run_slice_lo (P := Tryz.prog) 25 3 1 Tryz.underlying25 Tryz.sizeOf3 _ n2 cap2 .i64 1 (by omega) hc2 w
  have hr1 := fun wx (hx : Below w.heap.size w wx) => ih (n - 1 + (n2 - 1)) (by omega) (cutA (some ⟨b, off, none⟩) cap 1 1) (n - 1) (cap - 1) xs (cutA (some ⟨b2, off2, none⟩) cap2 1 1) (n2 - 1) (cap2 - 1) ys wx (Nat.le_refl _) (by omega) (by omega) (by omega) (by omega) (rdB hd1 hx) (rdB hd2 hx)
  have hr2' := fun wx (hx : Below w.heap.size w wx) => ih (n - 1 + n2) (by omega) (cutA (some ⟨b, off, none⟩) cap 1 1) (n - 1) (cap - 1) xs (some ⟨b2, off2, none⟩) n2 cap2 (y :: ys) wx (Nat.le_refl _) (by omega) (by omega) (by omega) (by omega) (rdB hd1 hx) (rdB hr2 hx)
  have hr3 := fun wx (hx : Below w.heap.size w wx) => ih (n + (n2 - 1)) (by omega) (some ⟨b, off, none⟩) n cap (x :: xs) (cutA (some ⟨b2, off2, none⟩) cap2 1 1) (n2 - 1) (cap2 - 1) ys wx (Nat.le_refl _) (by omega) (by omega) (by omega) (by omega) (rdB hr hx) (rdB hd2 hx)
  have hcc1 : ∀ wx, Below w.heap.size w wx → wx.cell? ⟨b, off, none⟩ = some (.int .i64 x) := fun wx hx => by rw [hx.cell hb]; exact hcell
  have hcc2 : ∀ wx, Below w.heap.size w wx → wx.cell? ⟨b2, off2, none⟩ = some (.int .i64 y) := fun wx hx => by rw [hx.cell hb2]; exact hcell2
  have hb1 := ed_le xs ys
  have hb2' := ed_le xs (y :: ys)
  have hb3 := ed_le (x :: xs) ys
  simp only [List.length_cons] at hb2' hb3
  have heq : ed (x :: xs) (y :: ys) = if x = y then ed xs ys else 1 + min (ed xs ys) (min (ed xs (y :: ys)) (ed (x :: xs) ys)) := rfl
  generalize cutA (some ⟨b, off, none⟩) cap 1 1 = A1 at *
  generalize cutA (some ⟨b2, off2, none⟩) cap2 1 1 = A21 at *
  obtain ⟨D, hD⟩ : ∃ D, D = ed (x :: xs) (y :: ys) := ⟨_, rfl⟩
  rw [← hD] at heq ⊢
  clear hD
  generalize ed xs ys = e1 at *
  generalize ed xs (y :: ys) = e2 at *
  generalize ed (x :: xs) ys = e3 at *
  have HR1 := Lib.hid hr1; have HR2 := Lib.hid hr2'; have HR3 := Lib.hid hr3; have HC1 := Lib.hid hcc1; have HC2 := Lib.hid hcc2; have HEQ := Lib.hid heq
  have hB : Below w.heap.size w w := Below.refl _ _
  clear hr1 hr2' hr3 hcc1 hcc2 heq hcell hcell2 hd1 hd2 hz hz2 ih
  by_cases hxy : x = y
  ·subst hxy
   have HD : Hid (D = e1) := Lib.hid (by rw [HEQ.out, if_pos rfl])
   clear HR2 HR3
   go_enter Tryz.func29, Tryz.ntmps29
   go_upto_region 5 with (fail)
   refine wp_region_blw (by kernel_rfl) (by kernel_rfl) ?_
   repeat (go_big_quiet_step (fail))
   go_big_quiet_step ((go_at_call 29; exact Calls.blw_of _ (HR1.out _ (hB.trans ((Blw.h _).mono hB.size)))))
   repeat (go_big_quiet_step (fail))
   refine wpQuiet_nil ?_
   rintro W3 ⟨⟨_, hb3⟩, rfl⟩
   replace hB := hB.trans (hb3.mono hB.size); clear hb3
   go_upto_region 6 with (fail)
   have hq1 := fun (p : Blw W3.heap.size W3) => HC1.out _ (hB.trans ((Blw.h p).mono hB.size))
   have hq2 := fun (p : Blw W3.heap.size W3) => HC2.out _ (hB.trans ((Blw.h p).mono hB.size))
   refine wp_region_blw (by kernel_rfl) (by kernel_rfl) ?_
   repeat (go_big_quiet_step (fail))
   refine wpQuiet_nil ?_
   rintro W4 ⟨⟨_, hb3⟩, rfl⟩
   replace hB := hB.trans (hb3.mono hB.size); clear hb3
   clear hq1 hq2
   go_wp2_with (fail)
   go_ret
   exact ⟨by rw [HD.out]; rfl, hB⟩
  ·have HD : Hid (D = 1 + min e1 (min e2 e3)) := Lib.hid (by rw [HEQ.out, if_neg hxy])
   have hw1 : IntKind.i64.wrap (1 + (e1 : Int)) = 1 + (e1 : Int) := IntWalk.i64_in _ (by omega)
   have hw2 : IntKind.i64.wrap (1 + (e2 : Int)) = 1 + (e2 : Int) := IntWalk.i64_in _ (by omega)
   have hw3 : IntKind.i64.wrap (1 + (e3 : Int)) = 1 + (e3 : Int) := IntWalk.i64_in _ (by omega)
   go_enter Tryz.func29, Tryz.ntmps29
   go_upto_region 5 with (fail)
   refine wp_region_blw (by kernel_rfl) (by kernel_rfl) ?_
   repeat (go_big_quiet_step (fail))
   go_big_quiet_step ((go_at_call 29; exact Calls.blw_of _ (HR1.out _ (hB.trans ((Blw.h _).mono hB.size)))))
   repeat (go_big_quiet_step (fail))
   refine wpQuiet_nil ?_
   rintro W3 ⟨⟨_, hb3⟩, rfl⟩
   replace hB := hB.trans (hb3.mono hB.size); clear hb3
   go_upto_region 6 with (fail)
   have hq1 := fun (p : Blw W3.heap.size W3) => HC1.out _ (hB.trans ((Blw.h p).mono hB.size))
   have hq2 := fun (p : Blw W3.heap.size W3) => HC2.out _ (hB.trans ((Blw.h p).mono hB.size))
   refine wp_region_blw (by kernel_rfl) (by kernel_rfl) ?_
   repeat (go_big_quiet_step (fail))
   refine wpQuiet_nil ?_
   rintro W4 ⟨⟨_, hb3⟩, rfl⟩
   replace hB := hB.trans (hb3.mono hB.size); clear hb3
   clear hq1 hq2
   go_upto_region 8 with (fail)
   refine wp_region_blw (by kernel_rfl) (by kernel_rfl) ?_
   repeat (go_big_quiet_step (fail))
   go_big_quiet_step ((go_at_call 29; exact Calls.blw_of _ (HR2.out _ (hB.trans ((Blw.h _).mono hB.size)))))
   repeat (go_big_quiet_step (fail))
   go_big_quiet_step ((go_at_call 29; exact Calls.blw_of _ (HR3.out _ (hB.trans ((Blw.h _).mono hB.size)))))
   repeat (go_big_quiet_step (fail))
   refine wpQuiet_nil ?_
   rintro W5 ⟨⟨_, hb3⟩, rfl⟩
   replace hB := hB.trans (hb3.mono hB.size); clear hb3
   all_goals try go_wp2_with (fail)
   all_goals
    go_ret
    refine ⟨congrArg Ending.returned (congrArg (Value.int .i64) ?_), hB⟩
    have h := HD.out
    omega
end
section
open Go.RowKit Go.Lib Go.Maps
theorem Total_yes {wn : Nat} {A : Option Addr} {n : Nat} (cap : Nat) {cs : List VC} {tA : Option Addr} {tn : Nat} (tc : Nat) {ts : List RI} (rA : Option Addr) (rn rc : Nat) (t : List Int) {w : World} (hb : BkG wn A n cs w w.heap.size) (h1 : bookB (wn : Int) cs = true) (ht : TxG cs tA tn ts w w.heap.size) (h2 : textB (wn : Int) (headN cs) ts = true)
  (hrn : rn ≤ maxLen) (hr : Rd w w.heap.size 1 rA rn (t.map (Value.int .i64))) (h3 : sourcesB n t = true) (hrn2 : rn = n) (htb : ∀ x ∈ t, -1 ≤ x ∧ x < n) :
  Calls Tryz.prog 58 #[.agg #[.int .i64 (wn : Int), .slice A n cap], .slice tA tn tc, .slice rA rn rc] w fun e w' => e = .returned (.tuple #[.int .i64 (if treeOK t then treeS (costV cs ts) t else 0), .int .i64 (if treeOK t then 0 else 2)]) ∧ Below w.heap.size w w' := by
 have hX := Blk.new w 24 #[.int .i64 (wn : Int), .slice A n cap]
 have hB : Below w.heap.size w (w.alloc (.cells #[.int .i64 (wn : Int), .slice A n cap] 24)) := (Below.refl _ w).alloc (Nat.le_refl _) _
 have qX := fun i => hX.cell i
 have hmm := @run_makeMap Tryz.prog
 have hgb := fun (wx : World) (hx : Below w.heap.size w wx) => goodBook_any (wn : Int) A n cap cs wx (by have := hb.2.1.2; unfold maxLen; omega) (rdB hb.2.2.2.1 hx) (fun c h => okB (hb.2.2.2.2.1 c h) hx)
 simp only [h1] at hgb
 have hgt := fun (wx : World) (hx : Below w.heap.size w wx) => goodText_any (wn : Int) A n cap cs tA tn tc ts wx (by have := hb.1.1; omega) (by have := hb.1.2; omega) hb.2.1.1 (rdB hb.2.2.2.1 hx) (fun c h => okB (hb.2.2.2.2.1 c h) hx) (by have h0 : ts.length = tn := (by simpa using ht.1.len); have h := ht.2.2.1; have := hb.2.2.1.2; unfold maxLen; omega) (rdB ht.1 hx) (fun r h => okB2 (ht.2.1 r h) hx)
 simp only [h2] at hgt
 have hgs := fun (wx : World) (hx : Below w.heap.size w wx) => goodSources_any (wn : Int) A n cap rA rn rc t wx (by have := hb.2.1.2; omega) hrn (rdB hr hx)
 simp only [h3] at hgs
 have hco := fun (wx : World) (mb : Nat) (hx : Below w.heap.size w wx) (hmb : w.heap.size ≤ mb) (hm : Memo wx mb 0) => costs_any cap (tc := tc) mb 0 (hb.below hx) (ht.below hx) hmb hm (by unfold maxLen; omega)
 have hCB := fun (p q : Int) (h1 : 0 ≤ p) (h2 : p < n) (h3 : -1 ≤ q) (h4 : q < n) => costV_bd hb ht (k := p) (f := q) ⟨h1, h2⟩ h3 h4
 have hn5 := hb.2.1
 subst hrn2
 obtain ⟨c, hc⟩ : ∃ c, c = (if treeOK t then treeS (costV cs ts) t else 0) := ⟨_, rfl⟩
 obtain ⟨ok, hok⟩ : ∃ ok, ok = treeOK t := ⟨_, rfl⟩
 rw [← hc, ← hok]
 have HC := Lib.hid hc; have HOK := Lib.hid hok
 clear hc hok
 have HGB := Lib.hid hgb; have HGT := Lib.hid hgt; have HGS := Lib.hid hgs; have HCO := Lib.hid hco; have HCB := Lib.hid hCB; have HR := Lib.hid hr; have HTB := Lib.hid htb
 clear hgb hgt hgs hco hCB h1 h2 h3 hb ht hr htb
 go_enter Tryz.func58, Tryz.ntmps58
 go_wp2_with fail
 refine (HGB.out _ hB).mono ?_; rintro e w1 ⟨rfl, hb⟩; replace hX := hX.below hb hX.lt; replace hB := hB.trans (hb.mono hB.size); clear hb qX; have qX := fun i => hX.cell i
 go_wp2_with fail
 refine (HGT.out _ hB).mono ?_; rintro e w2 ⟨rfl, hb⟩; replace hX := hX.below hb hX.lt; replace hB := hB.trans (hb.mono hB.size); clear hb qX; have qX := fun i => hX.cell i
 go_wp2_with fail
 refine (HGS.out _ hB).mono ?_; rintro e w3 ⟨rfl, hb⟩; replace hX := hX.below hb hX.lt; replace hB := hB.trans (hb.mono hB.size); clear hb qX; have qX := fun i => hX.cell i
 have hlX := hX.lt
 go_wp2_with fail
 have hB3 := hB.alloc hB.size (.map #[] 0)
 have hBs := hB.size
 refine (HCO.out _ w3.heap.size hB3 hBs (Memo.made w3)).mono ?_
 rintro e w4 ⟨cb, rfl, hcb, ⟨S, hCM, hin⟩, hg⟩
 have hB4 := below_gb hB3 hg hBs hB3.size
 have htt := total_any rA rn rc cb t (costV cs ts) S w.heap.size w4 (by omega) HTB.out (HR.out.below hB4) hB4.size hCM (fun p q h1 h2 h3 h4 => ⟨hin p q h1 h2 h3 h4, HCB.out p q h1 h2 h3 h4⟩)
 have HTT := Lib.hid htt
 clear htt hin hg hX qX hlX
 rw [← HC.out, ← HOK.out] at HTT
 go_wp2_with fail
 refine HTT.out.mono ?_
 rintro e w5 ⟨rfl, hb⟩
 have hB5 := hB4.trans (hb.mono hB4.size)
 clear hb
 go_wp2_with fail
 refine (argument_any ok w5).mono ?_
 rintro e w6 ⟨rfl, rfl⟩
 go_wp2_with fail
 ·refine bodyPost_ret (v := .tuple #[.int .i64 c, .int .i64 0]) (by simp [results, Tryz.results58, go_sem]) rfl ?_
  exact ⟨rfl, hB5⟩
 ·refine bodyPost_ret (v := .tuple #[.int .i64 c, .int .i64 2]) (by simp [results, Tryz.results58, go_sem]) rfl ?_
  exact ⟨rfl, hB5⟩
end
section
open Go.RowKit Go.Lib Go.Maps
theorem Tree_no1 (W : Int) (A : Option Addr) (n cap : Nat) (cs : List VC) (tA : Option Addr) (tn tc : Nat) (w : World) (hn : n ≤ maxLen) (hr : Rd w w.heap.size 1 A n (cs.map VC.val)) (hc : ∀ c ∈ cs, c.ok w w.heap.size) (h1 : bookB W cs = false) :
  Calls Tryz.prog 64 #[.agg #[.int .i64 W, .slice A n cap], .slice tA tn tc] w fun e w' => e = .returned (.tuple #[.slice none 0 0, .int .i64 0, .int .i64 2]) ∧ Below w.heap.size w w' := by
 have hX := Blk.new w 24 #[.int .i64 W, .slice A n cap]
 have hB : Below w.heap.size w (w.alloc (.cells #[.int .i64 W, .slice A n cap] 24)) := (Below.refl _ w).alloc (Nat.le_refl _) _
 have qX := fun i => hX.cell i
 have hgb := fun (wx : World) (hx : Below w.heap.size w wx) => goodBook_any W A n cap cs wx hn (rdB hr hx) (fun c h => okB (hc c h) hx)
 simp only [h1] at hgb
 have HGB := Lib.hid hgb
 clear hgb h1 hr hc
 go_enter Tryz.func64, Tryz.ntmps64
 go_wp2_with fail
 refine (HGB.out _ hB).mono ?_; rintro e w1 ⟨rfl, hb⟩; replace hX := hX.below hb hX.lt; replace hB := hB.trans (hb.mono hB.size); clear hb qX; have qX := fun i => hX.cell i
 go_wp2_with fail
 refine bodyPost_ret (v := .tuple #[.slice none 0 0, .int .i64 0, .int .i64 2]) (by simp [results, Tryz.results64, go_sem]) rfl ⟨rfl, hB⟩
theorem Total_no1 (W : Int) (A : Option Addr) (n cap : Nat) (cs : List VC) (tA : Option Addr) (tn tc : Nat) (rA : Option Addr) (rn rc : Nat) (w : World) (hn : n ≤ maxLen) (hr : Rd w w.heap.size 1 A n (cs.map VC.val)) (hc : ∀ c ∈ cs, c.ok w w.heap.size) (h1 : bookB W cs = false) :
  Calls Tryz.prog 58 #[.agg #[.int .i64 W, .slice A n cap], .slice tA tn tc, .slice rA rn rc] w fun e w' => e = .returned (.tuple #[.int .i64 0, .int .i64 2]) ∧ Below w.heap.size w w' := by
 have hX := Blk.new w 24 #[.int .i64 W, .slice A n cap]
 have hB : Below w.heap.size w (w.alloc (.cells #[.int .i64 W, .slice A n cap] 24)) := (Below.refl _ w).alloc (Nat.le_refl _) _
 have qX := fun i => hX.cell i
 have hgb := fun (wx : World) (hx : Below w.heap.size w wx) => goodBook_any W A n cap cs wx hn (rdB hr hx) (fun c h => okB (hc c h) hx)
 simp only [h1] at hgb
 have HGB := Lib.hid hgb
 clear hgb h1 hr hc
 go_enter Tryz.func58, Tryz.ntmps58
 go_wp2_with fail
 refine (HGB.out _ hB).mono ?_; rintro e w1 ⟨rfl, hb⟩; replace hX := hX.below hb hX.lt; replace hB := hB.trans (hb.mono hB.size); clear hb qX; have qX := fun i => hX.cell i
 go_wp2_with fail
 refine bodyPost_ret (v := .tuple #[.int .i64 0, .int .i64 2]) (by simp [results, Tryz.results58, go_sem]) rfl ⟨rfl, hB⟩
theorem Tree_no2 {wn : Nat} {A : Option Addr} {n : Nat} (cap : Nat) {cs : List VC} (tA : Option Addr) (tn tc : Nat) {w : World} (hb : BkG wn A n cs w w.heap.size) (h1 : bookB (wn : Int) cs = true) (ts : List RI) (htn : tn ≤ maxLen) (htr : Rd w w.heap.size 1 tA tn (ts.map RI.val)) (hto : ∀ r ∈ ts, r.ok w w.heap.size) (h2 : textB (wn : Int) (headN cs) ts = false) :
  Calls Tryz.prog 64 #[.agg #[.int .i64 (wn : Int), .slice A n cap], .slice tA tn tc] w fun e w' => e = .returned (.tuple #[.slice none 0 0, .int .i64 0, .int .i64 2]) ∧ Below w.heap.size w w' := by
 have hX := Blk.new w 24 #[.int .i64 (wn : Int), .slice A n cap]
 have hB : Below w.heap.size w (w.alloc (.cells #[.int .i64 (wn : Int), .slice A n cap] 24)) := (Below.refl _ w).alloc (Nat.le_refl _) _
 have qX := fun i => hX.cell i
 have hgb := fun (wx : World) (hx : Below w.heap.size w wx) => goodBook_any (wn : Int) A n cap cs wx (by have := hb.2.1.2; unfold maxLen; omega) (rdB hb.2.2.2.1 hx) (fun c h => okB (hb.2.2.2.2.1 c h) hx)
 simp only [h1] at hgb
 have hhl := fun (wx : World) (hx : Below w.heap.size w wx) => goodText_any (wn : Int) A n cap cs tA tn tc ts wx (by have := hb.1.1; omega) (by have := hb.1.2; omega) hb.2.1.1 (rdB hb.2.2.2.1 hx) (fun c h => okB (hb.2.2.2.2.1 c h) hx) htn (rdB htr hx) (fun r h => okB2 (hto r h) hx)
 simp only [h2] at hhl
 have HGB := Lib.hid hgb; have HHL := Lib.hid hhl
 clear hgb hhl h1 h2 hb
 go_enter Tryz.func64, Tryz.ntmps64
 go_wp2_with fail
 refine (HGB.out _ hB).mono ?_; rintro e w1 ⟨rfl, hb⟩; replace hX := hX.below hb hX.lt; replace hB := hB.trans (hb.mono hB.size); clear hb qX; have qX := fun i => hX.cell i
 go_wp2_with fail
 refine (HHL.out _ hB).mono ?_; rintro e w1 ⟨rfl, hb⟩; replace hX := hX.below hb hX.lt; replace hB := hB.trans (hb.mono hB.size); clear hb qX; have qX := fun i => hX.cell i
 go_wp2_with fail
 refine bodyPost_ret (v := .tuple #[.slice none 0 0, .int .i64 0, .int .i64 2]) (by simp [results, Tryz.results64, go_sem]) rfl ⟨rfl, hB⟩
theorem Total_no2 {wn : Nat} {A : Option Addr} {n : Nat} (cap : Nat) {cs : List VC} (tA : Option Addr) (tn tc : Nat) (rA : Option Addr) (rn rc : Nat) {w : World} (hb : BkG wn A n cs w w.heap.size) (h1 : bookB (wn : Int) cs = true) (ts : List RI) (htn : tn ≤ maxLen) (htr : Rd w w.heap.size 1 tA tn (ts.map RI.val)) (hto : ∀ r ∈ ts, r.ok w w.heap.size) (h2 : textB (wn : Int) (headN cs) ts = false) :
  Calls Tryz.prog 58 #[.agg #[.int .i64 (wn : Int), .slice A n cap], .slice tA tn tc, .slice rA rn rc] w fun e w' => e = .returned (.tuple #[.int .i64 0, .int .i64 2]) ∧ Below w.heap.size w w' := by
 have hX := Blk.new w 24 #[.int .i64 (wn : Int), .slice A n cap]
 have hB : Below w.heap.size w (w.alloc (.cells #[.int .i64 (wn : Int), .slice A n cap] 24)) := (Below.refl _ w).alloc (Nat.le_refl _) _
 have qX := fun i => hX.cell i
 have hgb := fun (wx : World) (hx : Below w.heap.size w wx) => goodBook_any (wn : Int) A n cap cs wx (by have := hb.2.1.2; unfold maxLen; omega) (rdB hb.2.2.2.1 hx) (fun c h => okB (hb.2.2.2.2.1 c h) hx)
 simp only [h1] at hgb
 have hhl := fun (wx : World) (hx : Below w.heap.size w wx) => goodText_any (wn : Int) A n cap cs tA tn tc ts wx (by have := hb.1.1; omega) (by have := hb.1.2; omega) hb.2.1.1 (rdB hb.2.2.2.1 hx) (fun c h => okB (hb.2.2.2.2.1 c h) hx) htn (rdB htr hx) (fun r h => okB2 (hto r h) hx)
 simp only [h2] at hhl
 have HGB := Lib.hid hgb; have HHL := Lib.hid hhl
 clear hgb hhl h1 h2 hb
 go_enter Tryz.func58, Tryz.ntmps58
 go_wp2_with fail
 refine (HGB.out _ hB).mono ?_; rintro e w1 ⟨rfl, hb⟩; replace hX := hX.below hb hX.lt; replace hB := hB.trans (hb.mono hB.size); clear hb qX; have qX := fun i => hX.cell i
 go_wp2_with fail
 refine (HHL.out _ hB).mono ?_; rintro e w1 ⟨rfl, hb⟩; replace hX := hX.below hb hX.lt; replace hB := hB.trans (hb.mono hB.size); clear hb qX; have qX := fun i => hX.cell i
 go_wp2_with fail
 refine bodyPost_ret (v := .tuple #[.int .i64 0, .int .i64 2]) (by simp [results, Tryz.results58, go_sem]) rfl ⟨rfl, hB⟩
theorem Total_no3 {wn : Nat} {A : Option Addr} {n : Nat} (cap : Nat) {cs : List VC} (tA : Option Addr) (tn tc : Nat) (rA : Option Addr) (rn rc : Nat) {w : World} (hb : BkG wn A n cs w w.heap.size) (h1 : bookB (wn : Int) cs = true) (ts : List RI) (htn : tn ≤ maxLen) (htr : Rd w w.heap.size 1 tA tn (ts.map RI.val)) (hto : ∀ r ∈ ts, r.ok w w.heap.size) (h2 : textB (wn : Int) (headN cs) ts = true) (t : List Int) (hrn : rn ≤ maxLen) (hr : Rd w w.heap.size 1 rA rn (t.map (Value.int .i64))) (h3 : sourcesB n t = false) :
  Calls Tryz.prog 58 #[.agg #[.int .i64 (wn : Int), .slice A n cap], .slice tA tn tc, .slice rA rn rc] w fun e w' => e = .returned (.tuple #[.int .i64 0, .int .i64 2]) ∧ Below w.heap.size w w' := by
 have hX := Blk.new w 24 #[.int .i64 (wn : Int), .slice A n cap]
 have hB : Below w.heap.size w (w.alloc (.cells #[.int .i64 (wn : Int), .slice A n cap] 24)) := (Below.refl _ w).alloc (Nat.le_refl _) _
 have qX := fun i => hX.cell i
 have hq0 := fun (wx : World) (hx : Below w.heap.size w wx) => goodBook_any (wn : Int) A n cap cs wx (by have := hb.2.1.2; unfold maxLen; omega) (rdB hb.2.2.2.1 hx) (fun c h => okB (hb.2.2.2.2.1 c h) hx)
 simp only [h1] at hq0
 have HQ0 := Lib.hid hq0
 have hq1 := fun (wx : World) (hx : Below w.heap.size w wx) => goodText_any (wn : Int) A n cap cs tA tn tc ts wx (by have := hb.1.1; omega) (by have := hb.1.2; omega) hb.2.1.1 (rdB hb.2.2.2.1 hx) (fun c h => okB (hb.2.2.2.2.1 c h) hx) htn (rdB htr hx) (fun r h => okB2 (hto r h) hx)
 simp only [h2] at hq1
 have HQ1 := Lib.hid hq1
 have hq2 := fun (wx : World) (hx : Below w.heap.size w wx) => goodSources_any (wn : Int) A n cap rA rn rc t wx (by have := hb.2.1.2; omega) hrn (rdB hr hx)
 simp only [h3] at hq2
 have HQ2 := Lib.hid hq2
 clear hq0 hq1 hq2 h1 h2 h3 hb
 go_enter Tryz.func58, Tryz.ntmps58
 go_wp2_with fail
 refine (HQ0.out _ hB).mono ?_; rintro e w1 ⟨rfl, hb⟩; replace hX := hX.below hb hX.lt; replace hB := hB.trans (hb.mono hB.size); clear hb qX; have qX := fun i => hX.cell i
 go_wp2_with fail
 refine (HQ1.out _ hB).mono ?_; rintro e w1 ⟨rfl, hb⟩; replace hX := hX.below hb hX.lt; replace hB := hB.trans (hb.mono hB.size); clear hb qX; have qX := fun i => hX.cell i
 go_wp2_with fail
 refine (HQ2.out _ hB).mono ?_; rintro e w1 ⟨rfl, hb⟩; replace hX := hX.below hb hX.lt; replace hB := hB.trans (hb.mono hB.size); clear hb qX; have qX := fun i => hX.cell i
 go_wp2_with fail
 refine bodyPost_ret (v := .tuple #[.int .i64 0, .int .i64 2]) (by simp [results, Tryz.results58, go_sem]) rfl ⟨rfl, hB⟩
end
section
open Go.RowKit Go.Lib
theorem IA.toW {w w' : World} {A : Option Addr} {n cap : Nat} {l : List Int} (h : IA w A n cap l) (hb : Below w.heap.size w w') : IA w' A n cap l := ⟨h.1, h.2.1, rdB h.2.2 hb⟩
theorem IA.max {w : World} {A : Option Addr} {n cap : Nat} {l : List Int} (h : IA w A n cap l) : n ≤ maxLen := Nat.le_trans h.1 h.2.1
theorem IA.len {w : World} {A : Option Addr} {n cap : Nat} {l : List Int} (h : IA w A n cap l) : l.length = n := by simpa using h.2.2.len
theorem u8_inj {x y : Int} (hx : 0 ≤ x ∧ x ≤ 2) (hy : 0 ≤ y ∧ y ≤ 2) (e : UInt8.ofNat x.toNat = UInt8.ofNat y.toNat) : x = y := by
 have h := congrArg UInt8.toNat e
 simp only [UInt8.toNat_ofNat'] at h
 omega
theorem edB_int {a b : List Int} (ha : ∀ x ∈ a, 0 ≤ x ∧ x ≤ 2) (hb : ∀ x ∈ b, 0 ≤ x ∧ x ≤ 2) : edB (lbS a) (lbS b) = ed a b := by
 show ed (lbL a) (lbL b) = ed a b
 unfold lbL
 exact ed_map _ a b (fun x hx y hy e => u8_inj (ha x hx) (hb y hy) e)
theorem book_W {W : Int} {cs : List VC} (h : bookB W cs = true) : 1 ≤ W ∧ W ≤ 3 := by
 unfold bookB at h
 simp only [Bool.and_eq_true] at h
 simpa [inB] using h.1.1.1
end
section
open Go.RowKit Go.Lib
section
variable {w : World} {A1 A2 : Option Addr} {n1 n2 c1 c2 : Nat} {l1 l2 : List Int}
theorem Same_I (h1 : IA w A1 n1 c1 l1) (h2 : IA w A2 n2 c2 l2) (k1 : n1 ≤ 6) (k2 : n2 ≤ 6) : Calls Tryz.prog 31 #[.slice A1 n1 c1, .slice A2 n2 c2] w fun e w' => e = .returned (.bool (decide (l1 = l2))) ∧ Below w.heap.size w w' :=
 same_any A1 n1 c1 l1 A2 n2 c2 l2 w (by omega) (by omega) h1.2.2 h2.2.2
end
end
section
open Go.RowKit Go.Lib
def LRows (w : World) (B : Nat) (rs : List RI) (L : List (List Int)) : Prop := rs.map RI.ws = L ∧ ∀ r ∈ rs, w.ownsRow B 3 1 r.val r.n (r.ws.map (Value.int .i64))
theorem LRows.len {w : World} {B : Nat} {rs : List RI} {L : List (List Int)} (h : LRows w B rs L) : L.length = rs.length := by rw [← h.1, List.length_map]
end
section
open Go.RowKit Go.Lib
theorem ownL1 (w : World) (base : Nat) (e : TypeId) (v : Value) (hb : base ≤ w.heap.size) : (w.alloc (.cells #[v] e)).ownsRow base e 1 (.slice (some ⟨w.heap.size, 0, none⟩) 1 1) 1 [v] :=
 ⟨by simp, .inr ⟨w.heap.size, 1, #[v], rfl, hb, heap_alloc_new w _, Nat.le_refl _, by unfold maxLen; omega, rfl, by simp⟩⟩
end
section
open Go.RowKit Go.Lib
def befL : List Int → List Int → Bool
 | [], b => decide (0 < b.length)
 | _ :: _, [] => false
 | x :: xs, y :: ys => if x = y then befL xs ys else decide (x < y)
end
section
open Go.RowKit Go.Lib Go.Maps
theorem sumI_app (a : List Int) : ∀ (b : List Int), sumI (a ++ b) = sumI a + sumI b := by
 refine revInd ?_ ?_
 ·rw [List.append_nil]; show sumI a = sumI a + 0; omega
 ·intro l x ih
  rw [← List.append_assoc, sumI_snoc, sumI_snoc, ih]; omega
theorem book_small {wn : Nat} {cs : List VC} (h : bookB (wn : Int) cs = true) : ∀ c ∈ cs, ∀ v ∈ c.ls, ∀ x ∈ v.ws, 0 ≤ x ∧ x ≤ 2 := fun c hc v hv => by
 have hW := book_W h
 unfold bookB at h
 simp only [Bool.and_eq_true, List.all_eq_true] at h
 have h2 := (h.2 c hc).2 v hv
 unfold vlB at h2
 rw [Bool.and_eq_true] at h2
 exact (ln_small hW h2.1).2
end
section
open Go.RowKit Go.Lib
theorem befL_irr : ∀ (a b : List Int), a.length = b.length → befL a b = true → befL b a = false
 | [], [], _, h => by simp [befL] at h
 | [], _ :: _, h, _ => by simp at h
 | _ :: _, [], h, _ => by simp at h
 | x :: xs, y :: ys, hl, h => by
  rw [befL] at h ⊢
  by_cases e : x = y
  ·subst e; rw [if_pos rfl] at h ⊢; exact befL_irr xs ys (by simpa using hl) h
  ·rw [if_neg e] at h; rw [if_neg (fun h => e h.symm)]
   have := of_decide_eq_true h
   exact decide_eq_false (by omega)
theorem befL_self : ∀ a : List Int, befL a a = false
 | [] => rfl
 | x :: xs => by rw [befL, if_pos rfl]; exact befL_self xs
end
section
open Go.RowKit Go.Lib Go.Maps
theorem LRows.mono {w : World} {B B' : Nat} {rs : List RI} {L : List (List Int)} (h : LRows w B rs L) (hb : B' ≤ B) : LRows w B' rs L := ⟨h.1, fun r hr => own_mono (h.2 r hr) hb⟩
theorem BkG.head0 {wn : Nat} {A : Option Addr} {n : Nat} {cs : List VC} {w : World} {B : Nat} (h : BkG wn A n cs w B) : ∃ b off a0 k0, A = some ⟨b, off, none⟩ ∧ b < B ∧ w.cell? ⟨b, off, none⟩ = some (.slice a0 (headN cs) k0) := by
 obtain ⟨b, off, hz, e, hb, hc⟩ := h.2.2.2.1.atm (show 0 < n by have := h.2.1; omega)
 refine ⟨b, off, cs[0].A, cs[0].cap, e, hb, ?_⟩
 rw [Nat.add_zero] at hc
 rw [hc, ← (h.2.2.2.2.2.1 _ (List.getElem_mem hz)).1]; rfl
end
section
open Go.RowKit Go.Lib Go.Maps
def tkF (v : VL) (l : List Int) : Nat := if v.lost then 0 else ed l v.ws
theorem taken_any (A1 : Option Addr) (n1 c1 : Nat) (l : List Int) (v : VL) (w : World) (h1 : IA w A1 n1 c1 l) (hv : v.ok w w.heap.size) (hn1 : n1 ≤ 6) (hvn : v.n ≤ 4) :
  Calls Tryz.prog 101 #[.slice A1 n1 c1, .agg #[.bool v.lost, .slice v.A v.n v.cap]] w fun e w' => e = .returned (.int .i64 (tkF v l : Nat)) ∧ Below w.heap.size w w' := by
 obtain ⟨lost, vA, vn, vc, vws⟩ := v
 dsimp only at hvn hv ⊢
 obtain ⟨v1, v2, v3⟩ := hv
 dsimp only at v1 v2 v3
 have hX := Blk.new w 76 #[.bool lost, .slice vA vn vc]
 have hB : Below w.heap.size w (w.alloc (.cells #[.bool lost, .slice vA vn vc] 76)) := (Below.refl _ w).alloc (Nat.le_refl _) _
 have qX := fun i => hX.cell i
 have hrc := refChanges_any (n1 + vn) A1 n1 c1 l vA vn vc vws (w.alloc (.cells #[.bool lost, .slice vA vn vc] 76)) (Nat.le_refl _) (by omega) (by omega) h1.1 v1 (h1.toW hB).2.2 (rdB v3 hB)
 have e : tkF ⟨lost, vA, vn, vc, vws⟩ l = if lost then 0 else ed l vws := rfl
 rw [e]
 generalize ed l vws = E at *
 have HRC := Lib.hid hrc; clear hrc v3 e h1
 cases lost
 ·rw [if_neg (by decide)]
  go_enter Tryz.func101, Tryz.ntmps101
  go_wp2_with fail
  refine (HRC.out).mono ?_; rintro e w1 ⟨rfl, hb⟩
  go_wp2_with fail
  go_ret
  exact ⟨rfl, hB.trans (hb.mono hB.size)⟩
 ·rw [if_pos rfl]
  go_enter Tryz.func101, Tryz.ntmps101
  go_wp2_with fail
  go_ret
  exact ⟨rfl, hB⟩
end
section
open Go.RowKit Go.Lib Go.Maps
theorem tkF_le (v : VL) (l : List Int) (hl : l.length ≤ 4) (hv : v.ws.length ≤ 4) : tkF v l ≤ 4 := by
 unfold tkF
 split
 ·omega
 ·have := ed_le l v.ws; omega
theorem okVL {v : VL} {w w' : World} (h : v.ok w w.heap.size) (hb : Below w.heap.size w w') : v.ok w' w'.heap.size := ⟨h.1, h.2.1, rdB h.2.2 hb⟩
end
section
open Go.RowKit Go.Lib Go.Maps
def vlAt (cs : List VC) (p k : Nat) : VL := ((cs[p]?).bind fun c => c.ls[k]?).getD ⟨true, none, 0, 0, []⟩
theorem vlAt_ls {cs : List VC} {p k : Nat} {c : VC} (h : cs[p]? = some c) (hk : k < c.ls.length) : c.ls[k]? = some (vlAt cs p k) := by
 unfold vlAt
 rw [h, Option.bind_some, List.getElem?_eq_getElem hk]; rfl
theorem BkG.rows {wn : Nat} {A : Option Addr} {n : Nat} {cs : List VC} {w : World} {B : Nat} (h : BkG wn A n cs w B) : ∃ b off, A = some ⟨b, off, none⟩ ∧ b < B ∧ ∀ p, p < n → ∃ b2 off2 cc, w.cell? ⟨b, off + p, none⟩ = some (.slice (some ⟨b2, off2, none⟩) (headN cs) cc) ∧ b2 < B ∧
  ∀ k, k < headN cs → w.cell? ⟨b2, off2 + k * 2, none⟩ = some (.bool (vlAt cs p k).lost) ∧ w.cell? ⟨b2, off2 + k * 2 + 1, none⟩ = some (.slice (vlAt cs p k).A (vlAt cs p k).n (vlAt cs p k).cap) ∧ (vlAt cs p k).ok w B ∧ (vlAt cs p k).n ≤ 4 ∧ (vlAt cs p k).ws.length ≤ 4 := by
 obtain ⟨b, off, hz, e, hb, hc⟩ := h.2.2.2.1.atm (show 0 < n by have := h.2.1; omega)
 refine ⟨b, off, e, hb, fun p hp => ?_⟩
 obtain ⟨b', off', hz', e', _, hc'⟩ := h.2.2.2.1.atm hp
 rw [e] at e'
 cases e'
 have hin := List.getElem_mem hz'
 have hco := h.2.2.2.2.1 _ hin
 have hcn := h.2.2.2.2.2.1 _ hin
 have hcv := h.2.2.2.2.2.2 _ hin
 have hp2 : cs[p]? = some cs[p] := List.getElem?_eq_getElem hz'
 have hL := h.2.2.1.1
 have h0 := hco.2.2.2.at2 (show 0 < cs[p].n by omega)
 obtain ⟨b2, off2, _, e2, hb2, _, _⟩ := h0
 refine ⟨b2, off2, cs[p].cap, by rw [hc', ← hcn.1, ← e2]; rfl, hb2, fun k hk => ?_⟩
 obtain ⟨b3, off3, hz3, e3, _, hv0, hv1⟩ := hco.2.2.2.at2 (show k < cs[p].n by omega)
 rw [e2] at e3
 cases e3
 have hl := vlAt_ls hp2 hz3
 rw [List.getElem?_eq_getElem hz3] at hl
 have hl2 := Option.some.inj hl
 rw [← hl2]
 have hv := hcv _ (List.getElem_mem hz3)
 exact ⟨hv0, hv1, hco.2.2.1 _ (List.getElem_mem hz3), hv.1, hv.2.1⟩
theorem words155_any {wn : Nat} {A : Option Addr} {n : Nat} (cap : Nat) {cs : List VC} (p k : Nat) {w : World} (h : BkG wn A n cs w w.heap.size) (hp : p < n) (hk : k < headN cs) :
  Calls Tryz.prog 155 #[.agg #[.int .i64 (wn : Int), .slice A n cap], .int .i64 (p : Int), .int .i64 (k : Int)] w fun e w' => e = .returned (.slice (vlAt cs p k).A (vlAt cs p k).n (vlAt cs p k).cap) ∧ Below w.heap.size w w' := by
 obtain ⟨b, off, rfl, hbw, hr⟩ := h.rows
 obtain ⟨b2, off2, cc, hc, hb2, hl⟩ := hr p hp
 obtain ⟨_, h1, _, _, _⟩ := hl k hk
 have hX := Blk.new w 24 #[.int .i64 (wn : Int), .slice (some ⟨b, off, none⟩) n cap]
 have hB : Below w.heap.size w (w.alloc (.cells #[.int .i64 (wn : Int), .slice (some ⟨b, off, none⟩) n cap] 24)) := (Below.refl _ w).alloc (Nat.le_refl _) _
 have qX := fun i => hX.cell i
 have hpi : (p : Int) < n := by omega
 have hki : (k : Int) < headN cs := by omega
 have hq1 := (hB.cell (p := ⟨b, off + p, none⟩) hbw).trans hc
 have hq2 := (hB.cell (p := ⟨b2, off2 + k * 2 + 1, none⟩) hb2).trans h1
 generalize vlAt cs p k = v at *
 generalize headN cs = L at *
 clear hl hr h hc h1
 go_enter Tryz.func155, Tryz.ntmps155
 go_wp2_with fail
 go_ret
 exact ⟨rfl, hB⟩
end
section
open Go.RowKit Go.Lib Go.Maps
def TXI (w : World) (A : Option Addr) (n cap : Nat) (rs : List RI) : Prop := n ≤ cap ∧ cap ≤ maxLen ∧ Rd w w.heap.size 1 A n (rs.map RI.val) ∧ ∀ r ∈ rs, r.ok w w.heap.size
theorem TXI.toW {w w' : World} {A : Option Addr} {n cap : Nat} {rs : List RI} (h : TXI w A n cap rs) (hb : Below w.heap.size w w') : TXI w' A n cap rs := ⟨h.1, h.2.1, rdB h.2.2.1 hb, fun r hr => okB2 (h.2.2.2 r hr) hb⟩
theorem TXI.max {w : World} {A : Option Addr} {n cap : Nat} {rs : List RI} (h : TXI w A n cap rs) : n ≤ maxLen := Nat.le_trans h.1 h.2.1
theorem TXI.len {w : World} {A : Option Addr} {n cap : Nat} {rs : List RI} (h : TXI w A n cap rs) : rs.length = n := by simpa using h.2.2.1.len
open Go.ChangeShapes Go.WideShapes Go.ChangeAt Go.Deep in
theorem law_texts {H : Type} {enc : TypeId × Value → H} {w : World} {base : Nat} {spare : Nat → Bool} {held : Bool} {r : Reach} {b0 : Nat} {v : Value} {d : DataW H} {p : List MemPlace} (hv : Value.okWide Tryz.prog w r b0 46 v) (h : DataW.Trod enc Tryz.prog w base spare held 46 v d p) : ∃ (A : Option Addr) (n cap : Nat) (rs : List RI), v = .slice A n cap ∧ TXI w A n cap rs := by
 obtain ⟨a0, n0, c0, rfl⟩ := okWide_slice Tryz.underlying46 hv
 obtain ⟨fuel, h⟩ := h
 have h : DataW.trod enc Tryz.prog w base spare held fuel 46 [.slice a0 n0 c0] = some (d, p) := by simpa [Value.cells] using h
 rcases open_slice1 Tryz.underlying46 (by kernel_rfl) h with ⟨hc, _⟩ | ⟨a, len, cap, m, n, V, D, Pl, hc, _, hl, hm, hmm, _, hx⟩
 ·obtain ⟨rfl, rfl, rfl⟩ : a0 = none ∧ n0 = 0 ∧ c0 = 0 := by simpa using hc
  exact ⟨none, 0, 0, [], rfl, Nat.le_refl _, Nat.zero_le _, Rd.nil .., fun r hr => (by cases hr)⟩
 ·have hc2 : a0 = some a ∧ n0 = len ∧ c0 = cap := by simpa using hc
  obtain ⟨rfl, rfl, rfl⟩ := hc2
  rename Addr => a
  have hlm : n0 ≤ m := by rw [hmm]; split <;> omega
  have each : ∀ i, ∃ f : RI, i < n0 → w.cell? (a.add i) = some f.val ∧ f.ok w w.heap.size := by
   intro i
   by_cases hi : i < n0
   ·obtain ⟨h1, h2⟩ := hx i (by omega)
    obtain ⟨A, n, cap, l, e, ho⟩ := law_intsF h2
    exact ⟨⟨A, n, cap, l⟩, fun _ => ⟨by rw [h1, e]; rfl, ho⟩⟩
   ·exact ⟨⟨none, 0, 0, []⟩, fun h => absurd h hi⟩
  obtain ⟨g, hg⟩ : ∃ g : Nat → RI, ∀ i, i < n0 → w.cell? (a.add i) = some (g i).val ∧ (g i).ok w w.heap.size :=
   ⟨fun i => Classical.choose (each i), fun i => Classical.choose_spec (each i)⟩
  refine ⟨some a, n0, c0, (List.range n0).map g, rfl, hl, hm, ⟨by simp, fun h0 => ?_⟩, fun f hf => ?_⟩
  ·have g0 := (hg 0 h0).1
   obtain ⟨b, off, spot⟩ := a
   have hspot : spot = none := by simpa [Addr.add] using World.cell?_spot g0
   subst hspot
   refine ⟨b, off, rfl, block_lt_of_cell g0, fun i u hu => ?_⟩
   rw [List.getElem?_map, List.getElem?_map] at hu
   by_cases hi : i < n0
   ·rw [List.getElem?_range hi] at hu
    have hu' : (g i).val = u := by simpa using hu
    rw [← hu']
    have hci := (hg i hi).1
    rcases i with _ | i <;> simpa [Addr.add] using hci
   ·rw [List.getElem?_eq_none (by simpa using hi)] at hu
    cases hu
  ·obtain ⟨i, hi, rfl⟩ := List.mem_map.1 hf
   exact (hg i (List.mem_range.1 hi)).2
def BriefB (n : Nat) (rs : List RI) (e : Ending) : Prop := ∃ b : Bool, e = .returned (.bool b) ∧ (b = true → n ≤ 6 ∧ ∀ r ∈ rs, r.n ≤ 6)
theorem brief_any (A : Option Addr) (n cap : Nat) (rs : List RI) (w : World) (h : TXI w A n cap rs) : Calls Tryz.prog 56 #[.slice A n cap] w fun e w' => BriefB n rs e ∧ Below w.heap.size w w' := by
 have hl := h.len
 have hm := h.max
 unfold maxLen at hm
 have HL := Lib.hid hl; have H := Lib.hid h; clear hl h
 go_enter Tryz.func56, Tryz.ntmps56
 go_wp2_with fail
 go_loopg [3] n (fun g i wr => ∃ k : Nat, g = n - k ∧ k ≤ n ∧ k ≤ 6 ∧ i = .int .i64 k ∧ Hid (∀ r ∈ rs.take k, r.n ≤ 6) ∧ wr = w)
 case atStart => exact ⟨0, rfl, Nat.zero_le _, Nat.zero_le _, rfl, Lib.hid (fun r h => by cases h), rfl⟩
 case round =>
  obtain ⟨k, hg, hk, hk6, rfl, hpre, rfl⟩ := hrel
  rename World => w
  have HG := Lib.hid hg; clear hg
  by_cases hlt : k < n
  ·have hlti : (k : Int) < n := by omega
   by_cases h6 : k < 6
   ·have h6i : (k : Int) < 6 := by omega
    obtain ⟨b, off, hz, rfl, hbw, hcell⟩ := H.out.2.2.1.atm hlt
    have hok := H.out.2.2.2 _ (List.getElem_mem hz)
    have htk : rs.take (k + 1) = rs.take k ++ [rs[k]] := List.take_succ_eq_append_getElem hz
    generalize rs[k] = r at *
    obtain ⟨rA, rn, rc, l⟩ := r
    simp only [RI.val] at hcell
    have hrm : rn ≤ maxLen := Nat.le_trans hok.1 hok.2.1
    unfold maxLen at hrm
    have HTK := Lib.hid htk; clear htk hok hz
    by_cases hr6 : (6 : Int) < rn
    ·go_wp2_with fail
     go_ret
     exact ⟨⟨false, rfl, fun h => by cases h⟩, Below.refl _ _⟩
    ·have hp2 : Hid (∀ r ∈ rs.take (k + 1), r.n ≤ 6) := Lib.hid (fun r hr => by
       rw [HTK.out] at hr
       rcases List.mem_append.1 hr with hr | hr
       · exact hpre.out r hr
       · rw [List.mem_singleton.1 hr]; show rn ≤ 6; omega)
     go_wp2_with fail
     go_roundg (n - (k + 1))
     case measure => rw [HG.out]; omega
     case rel => exact ⟨k + 1, rfl, by omega, by omega, by go_num, hp2, rfl⟩
   ·have h6i : ¬ (k : Int) < 6 := by omega
    have hn6 : ¬ (n : Int) ≤ 6 := by omega
    go_wp2_with fail
    go_ret
    refine ⟨⟨false, rfl, fun h => by cases h⟩, Below.refl _ _⟩
  ·obtain rfl : k = n := by omega
   have hge : ¬ (k : Int) < k := by omega
   have hn6 : (k : Int) ≤ 6 := by omega
   have htk : rs.take k = rs := List.take_of_length_le (by rw [HL.out]; exact Nat.le_refl _)
   have hp2 := hpre.out
   rw [htk] at hp2
   have HP := Lib.hid hp2; clear hp2 htk hpre
   go_wp2_with fail
   go_ret
   refine ⟨⟨true, rfl, fun _ => ⟨hk6, HP.out⟩⟩, Below.refl _ _⟩
theorem refText_any {wn : Nat} {A : Option Addr} {n : Nat} (cap : Nat) {cs : List VC} (tA : Option Addr) (tn tc : Nat) (ts : List RI) {w : World} (h : BkG wn A n cs w w.heap.size) (ht : TXI w tA tn tc ts) :
  Calls Tryz.prog 57 #[.agg #[.int .i64 (wn : Int), .slice A n cap], .slice tA tn tc] w fun e w' => e = .returned (.bool (textB (wn : Int) (headN cs) ts)) ∧ Below w.heap.size w w' := by
 have hl := ht.len
 have hm := ht.max
 unfold maxLen at hm
 have hn5 := h.2.1
 have hrl := fun (wx : World) (A1 : Option Addr) (n1 c1 : Nat) (l1 : List Int) (h1 : IA wx A1 n1 c1 l1) => refLine_any (wn : Int) A n cap A1 n1 c1 l1 wx (by have := h.1.1; omega) (by have := h.1.2; omega) h1.max h1.2.2
 obtain ⟨bb, off, a0, k0, rfl, hbw, hcell⟩ := h.head0
 obtain ⟨R, hR⟩ : ∃ R, R = textB (wn : Int) (headN cs) ts := ⟨_, rfl⟩
 rw [← hR]
 obtain ⟨L, hL⟩ : ∃ L, L = headN cs := ⟨_, rfl⟩
 rw [← hL] at hR hcell
 have hL4 : L ≤ 4 := by have := h.2.2.1; omega
 have hX := Blk.new w 24 #[.int .i64 (wn : Int), .slice (some ⟨bb, off, none⟩) n cap]
 have hB : Below w.heap.size w (w.alloc (.cells #[.int .i64 (wn : Int), .slice (some ⟨bb, off, none⟩) n cap] 24)) := (Below.refl _ w).alloc (Nat.le_refl _) _
 have hn0 : (0 : Int) < n := by omega
 have hR2 : R = (decide ((tn : Int) = L) && ts.all fun r => lnB (wn : Int) r.ws) := by rw [hR, ← hl]; rfl
 have HR := Lib.hid hR2; have HRL := Lib.hid hrl; have HL := Lib.hid hl; have HT := Lib.hid ht; clear hR hR2 hrl hl ht h hL
 have qX := fun i => hX.cell i
 go_enter Tryz.func57, Tryz.ntmps57
 go_wp2_with fail
 clear qX
 generalize w.alloc (.cells #[.int .i64 (wn : Int), .slice (some ⟨bb, off, none⟩) n cap] 24) = W0 at *
 go_loopg [5] tn (fun g i wr => ∃ k : Nat, g = tn - k ∧ k ≤ tn ∧ i = .int .i64 k ∧ Hid ((ts.take k).all (fun r => lnB (wn : Int) r.ws) = true) ∧ Below w.heap.size w wr ∧ Blk wr w.heap.size 24 #[.int .i64 (wn : Int), .slice (some ⟨bb, off, none⟩) n cap])
 case atStart => exact ⟨0, rfl, Nat.zero_le _, rfl, Lib.hid rfl, hB, hX⟩
 case round =>
  clear hX hB
  obtain ⟨k, hg, hk, rfl, hpre, hB, hX⟩ := hrel
  rename World => wr
  have HG := Lib.hid hg; clear hg
  have qX := fun i => hX.cell i
  have hc0 := (hB.cell (p := ⟨bb, off, none⟩) hbw).trans hcell
  by_cases hlt : k < tn
  ·have hlti : (k : Int) < tn := by omega
   obtain ⟨b2, off2, hz, rfl, hb2, hc2⟩ := HT.out.2.2.1.atm hlt
   have hok := HT.out.2.2.2 _ (List.getElem_mem hz)
   have htk : (ts.take (k + 1)).all (fun r => lnB (wn : Int) r.ws) = (lnB (wn : Int) ts[k].ws) := by rw [List.take_succ_eq_append_getElem hz, List.all_append, hpre.out]; simp
   have hbad : lnB (wn : Int) ts[k].ws = false → R = false := fun h => by
    rw [HR.out]
    have : ts.all (fun r => lnB (wn : Int) r.ws) = false := by rw [List.all_eq_false]; exact ⟨_, List.getElem_mem hz, by rw [h]; decide⟩
    rw [this, Bool.and_false]
   generalize ts[k] = r at *
   obtain ⟨rA, rn, rc, l⟩ := r
   simp only [RI.val] at hc2
   have hc2r := (hB.cell (p := ⟨b2, off2 + k, none⟩) hb2).trans hc2
   have hln := fun (z : Blw wr.heap.size wr) => HRL.out z.toW rA rn rc l ⟨hok.1, hok.2.1, rdB hok.2.2 (hB.trans (z.h.mono hB.size))⟩
   have hq1 := fun (z : Blw wr.heap.size wr) => ((Blw.h z).cell (p := ⟨b2, off2 + k, none⟩) (Nat.lt_of_lt_of_le hb2 hB.size)).trans hc2r
   have hq2 := fun (z : Blw wr.heap.size wr) j => blw_blk hX z j
   have hlX := hX.lt
   have HTK := Lib.hid htk; have HBAD := Lib.hid hbad; clear htk hbad hok hz hpre hc2r
   dsimp only at HTK HBAD
   cases hlb : lnB (wn : Int) l with
   | false =>
    rw [hlb] at hln
    have HLN := Lib.hid hln; have hRf : Hid (R = false) := Lib.hid (HBAD.out hlb); clear hln hlb
    go_upto_region 4 with (fail)
    refine wp_region_blw (by kernel_rfl) (by kernel_rfl) ?_
    repeat (go_big_quiet_step (fail))
    go_big_quiet_step ((go_at_call 28; exact Calls.blw_of _ (HLN.out _)))
    repeat (go_big_quiet_step (fail))
    refine wpQuiet_nil ?_
    rintro W3 ⟨⟨_, hb3⟩, rfl⟩
    clear hq1 hq2 hlX qX
    go_wp2_with fail
    go_ret
    exact ⟨by rw [hRf.out]; rfl, hB.trans (hb3.mono hB.size)⟩
   | true =>
    rw [hlb] at hln HTK
    have HLN := Lib.hid hln; clear hln hlb
    go_upto_region 4 with (fail)
    refine wp_region_blw (by kernel_rfl) (by kernel_rfl) ?_
    repeat (go_big_quiet_step (fail))
    go_big_quiet_step ((go_at_call 28; exact Calls.blw_of _ (HLN.out _)))
    repeat (go_big_quiet_step (fail))
    refine wpQuiet_nil ?_
    rintro W3 ⟨⟨_, hb3⟩, rfl⟩
    clear hq1 hq2 hlX qX
    go_wp2_with fail
    go_roundg (tn - (k + 1))
    case measure => rw [HG.out]; omega
    case rel => exact ⟨k + 1, rfl, by omega, by go_num, HTK, hB.trans (hb3.mono hB.size), hX.below hb3 hX.lt⟩
  ·obtain rfl : k = tn := by omega
   have hge : ¬ (k : Int) < k := by omega
   have hall : R = decide ((k : Int) = L) := by
    have h9 := hpre.out
    rw [List.take_of_length_le (by rw [HL.out]; exact Nat.le_refl _)] at h9
    rw [HR.out, h9, Bool.and_true]
   have HA := Lib.hid hall; clear hall hpre
   by_cases hkl : (k : Int) = L
   ·have hb1 : ((k : Int) == (L : Int)) = true := by simp [hkl]
    go_wp2_with fail
    go_ret
    refine ⟨?_, hB⟩
    rw [HA.out, decide_eq_true hkl]
    first | rfl | simp [hkl]
   ·have hb1 : ((k : Int) == (L : Int)) = false := beq_false_of_ne hkl
    go_wp2_with fail
    go_ret
    refine ⟨?_, hB⟩
    rw [HA.out, decide_eq_false hkl]
    first | rfl | simp [hb1]
end
section
open Go.RowKit Go.Lib Go.Maps
def refTreeB (n : Nat) (t : List Int) : Bool := sourcesB n t && treeOK t
theorem refTree_any {wn : Nat} {A : Option Addr} {n : Nat} (cap : Nat) (A1 : Option Addr) (n1 c1 : Nat) (t : List Int) {w : World} (hn5 : 1 ≤ n ∧ n ≤ 5) (h1 : IA w A1 n1 c1 t) :
  Calls Tryz.prog 66 #[.agg #[.int .i64 (wn : Int), .slice A n cap], .slice A1 n1 c1] w fun e w' => e = .returned (.bool (refTreeB n t)) ∧ Below w.heap.size w w' := by
 have hl := h1.len
 have hX := Blk.new w 24 #[.int .i64 (wn : Int), .slice A n cap]
 have hB : Below w.heap.size w (w.alloc (.cells #[.int .i64 (wn : Int), .slice A n cap] 24)) := (Below.refl _ w).alloc (Nat.le_refl _) _
 obtain ⟨R, hR⟩ : ∃ R, R = refTreeB n t := ⟨_, rfl⟩
 rw [← hR]
 unfold refTreeB sourcesB at hR
 by_cases hnn : n1 = n
 ·subst hnn
  rw [hl, decide_eq_true rfl, Bool.true_and] at hR
  have hR0 : Hid (R = ((t.all fun x => x == -1 || inB x 0 ((n1 : Int) - 1)) && treeOK t)) := Lib.hid hR
  have HL := Lib.hid hl; have H1 := Lib.hid h1; clear hR hl h1
  have hne : ((n1 : Int) != (n1 : Int)) = false := by simp
  have qX := fun i => hX.cell i
  go_enter Tryz.func66, Tryz.ntmps66
  go_wp2_with fail
  clear qX
  generalize w.alloc (.cells #[.int .i64 (wn : Int), .slice A n1 cap] 24) = W0 at *
  go_loopg [5] n1 (fun g i wr => ∃ k : Nat, g = n1 - k ∧ k ≤ n1 ∧ i = .int .i64 k ∧ Hid ((t.take k).all (fun x => x == -1 || inB x 0 ((n1 : Int) - 1)) = true) ∧ Below w.heap.size w wr ∧ Blk wr w.heap.size 24 #[.int .i64 (wn : Int), .slice A n1 cap])
  case atStart => exact ⟨0, rfl, Nat.zero_le _, rfl, Lib.hid rfl, hB, hX⟩
  case round =>
   clear hX hB
   obtain ⟨k, hg, hk, rfl, hpre, hB, hX⟩ := hrel
   rename World => wr
   have HG := Lib.hid hg; clear hg
   have qX := fun i => hX.cell i
   by_cases hlt : k < n1
   ·have hlti : (k : Int) < n1 := by omega
    obtain ⟨b2, off2, hz, rfl, hb2, hc2⟩ := H1.out.2.2.atm hlt
    have htk : (t.take (k + 1)).all (fun x => x == -1 || inB x 0 ((n1 : Int) - 1)) = (t[k] == -1 || inB t[k] 0 ((n1 : Int) - 1)) := by rw [List.take_succ_eq_append_getElem hz, List.all_append, hpre.out]; simp
    have hbad : (t[k] == -1 || inB t[k] 0 ((n1 : Int) - 1)) = false → R = false := fun h => by
     rw [hR0.out]
     have : t.all (fun x => x == -1 || inB x 0 ((n1 : Int) - 1)) = false := by rw [List.all_eq_false]; exact ⟨_, List.getElem_mem hz, by rw [h]; decide⟩
     rw [this, Bool.false_and]
    generalize t[k] = x at *
    have hc2r := (hB.cell (p := ⟨b2, off2 + k, none⟩) hb2).trans hc2
    have hcy := fun (z : Blw wr.heap.size wr) => refCopy_any (wn : Int) x A n1 cap z.toW (by omega)
    have hq1 := fun (z : Blw wr.heap.size wr) => ((Blw.h z).cell (p := ⟨b2, off2 + k, none⟩) (Nat.lt_of_lt_of_le hb2 hB.size)).trans hc2r
    have hq2 := fun (z : Blw wr.heap.size wr) j => blw_blk hX z j
    have hlX := hX.lt
    have HTK := Lib.hid htk; have HBAD := Lib.hid hbad; clear htk hbad hz hpre hc2r hc2
    by_cases hx1 : x = -1
    ·subst hx1
     have hx2 : ((-1 : Int) != -1) = false := by decide
     clear hcy
     go_upto_region 6 with (fail)
     refine wp_region_blw (by kernel_rfl) (by kernel_rfl) ?_
     repeat (go_big_quiet_step (fail))
     refine wpQuiet_nil ?_
     rintro W3 ⟨⟨_, hb3⟩, rfl⟩
     clear hq1 hq2 hlX qX
     go_wp2_with fail
     go_roundg (n1 - (k + 1))
     case measure => rw [HG.out]; omega
     case rel => exact ⟨k + 1, rfl, by omega, by go_num, Lib.hid (by rw [HTK.out]; rfl), hB.trans (hb3.mono hB.size), hX.below hb3 hX.lt⟩
    ·have hx2 : (x != -1) = true := by simp [hx1]
     have hx3 : (x == -1) = false := by simp [hx1]
     have HX3 := Lib.hid hx3; clear hx3
     cases hin : inB x 0 ((n1 : Int) - 1) with
     | false =>
      rw [hin] at hcy
      have HCY := Lib.hid hcy
      have hRf : Hid (R = false) := Lib.hid (HBAD.out (by rw [HX3.out, hin]; rfl))
      clear hcy hin
      go_upto_region 6 with (fail)
      refine wp_region_blw (by kernel_rfl) (by kernel_rfl) ?_
      repeat (go_big_quiet_step (fail))
      go_big_quiet_step ((go_at_call 54; exact Calls.blw_of _ (HCY.out _)))
      repeat (go_big_quiet_step (fail))
      refine wpQuiet_nil ?_
      rintro W3 ⟨⟨_, hb3⟩, rfl⟩
      clear hq1 hq2 hlX qX
      go_wp2_with fail
      go_ret
      exact ⟨by rw [hRf.out]; rfl, hB.trans (hb3.mono hB.size)⟩
     | true =>
      rw [hin] at hcy
      have hTK2 : Hid ((t.take (k + 1)).all (fun x => x == -1 || inB x 0 ((n1 : Int) - 1)) = true) := Lib.hid (by rw [HTK.out, hin]; simp)
      have HCY := Lib.hid hcy; clear hcy hin
      go_upto_region 6 with (fail)
      refine wp_region_blw (by kernel_rfl) (by kernel_rfl) ?_
      repeat (go_big_quiet_step (fail))
      go_big_quiet_step ((go_at_call 54; exact Calls.blw_of _ (HCY.out _)))
      repeat (go_big_quiet_step (fail))
      refine wpQuiet_nil ?_
      rintro W3 ⟨⟨_, hb3⟩, rfl⟩
      clear hq1 hq2 hlX qX
      go_wp2_with fail
      go_roundg (n1 - (k + 1))
      case measure => rw [HG.out]; omega
      case rel => exact ⟨k + 1, rfl, by omega, by go_num, hTK2, hB.trans (hb3.mono hB.size), hX.below hb3 hX.lt⟩
   ·have hkn : k = n1 := by omega
    have hge : ¬ (k : Int) < n1 := by omega
    have hall := hpre.out
    rw [List.take_of_length_le (by rw [HL.out]; omega)] at hall
    have hR1 : Hid (R = treeOK t) := Lib.hid (by rw [hR0.out, hall, Bool.true_and])
    have hbd : Hid (∀ x ∈ t, -1 ≤ x ∧ x < (n1 : Int)) := Lib.hid fun x hx => by
     have h9 := List.all_eq_true.1 hall x hx
     simp only [Bool.or_eq_true, beq_iff_eq, inB, Bool.and_eq_true, decide_eq_true_eq] at h9
     omega
    clear hall hpre hR0 hkn
    go_wp2_with fail
    go_loopg [6] n1 (fun g i wx => ∃ k : Nat, g = n1 - k ∧ k ≤ n1 ∧ i = .int .i64 k ∧ Hid (((List.range n1).take k).all (fun j : Nat => folF t n1 (j : Int)) = true) ∧ wx = wr)
    case atStart => exact ⟨0, rfl, Nat.zero_le _, rfl, Lib.hid rfl, rfl⟩
    case round =>
     obtain ⟨i, hg, hi, rfl, hpre, rfl⟩ := hrel
     rename World => wr
     have HG2 := Lib.hid hg; clear hg
     by_cases hit : i < n1
     ·have hiti : (i : Int) < n1 := by omega
      have htk : ((List.range n1).take (i + 1)).all (fun j : Nat => folF t n1 (j : Int)) = folF t n1 (i : Int) := by
       rw [List.take_succ_eq_append_getElem (by simpa using hit), List.all_append, hpre.out]; simp
      have hbad : folF t n1 (i : Int) = false → R = false := fun h => by
       rw [hR1.out]
       unfold treeOK
       rw [List.all_eq_false]
       exact ⟨i, by rw [HL.out]; exact List.mem_range.2 hit, by rw [HL.out, h]; decide⟩
      obtain ⟨r, hr⟩ : ∃ r, r = folF t n1 (i : Int) := ⟨_, rfl⟩
      rw [← hr] at htk hbad
      have HTK := Lib.hid htk; have HBAD := Lib.hid hbad; have HR := Lib.hid hr; clear htk hbad hr hpre
      go_wp2_with fail
      go_loopg [7, 8] n1 (fun g a s wx => ∃ (s2 : Nat) (y : Int), g = n1 - s2 ∧ s2 ≤ n1 ∧ a = .int .i64 y ∧ s = .int .i64 s2 ∧ -1 ≤ y ∧ y < n1 ∧ Hid (r = if y < 0 then true else folF t (n1 - s2) y) ∧ wx = wr)
      case atStart => exact ⟨0, (i : Int), rfl, Nat.zero_le _, rfl, rfl, by omega, by omega, Lib.hid (by rw [if_neg (by omega), HR.out]; rfl), rfl⟩
      case round =>
       obtain ⟨s2, y, hg, hs2, rfl, rfl, hy0, hy1, hfo, rfl⟩ := hrel
       rename World => wr
       have HG3 := Lib.hid hg; clear hg
       by_cases hneg : y < 0
       ·have hyg : ¬ (0 : Int) ≤ y := by omega
        have hrt : Hid (r = true) := Lib.hid (by rw [hfo.out, if_pos hneg])
        have hTK2 : Hid (((List.range n1).take (i + 1)).all (fun j : Nat => folF t n1 (j : Int)) = true) := Lib.hid (by rw [HTK.out, hrt.out])
        clear hfo
        by_cases hst : s2 < n1
        ·have hsti : (s2 : Int) < n1 := by omega
         go_wp2_with fail
         go_roundg (n1 - (i + 1))
         case measure => rw [HG2.out]; omega
         case rel => exact ⟨i + 1, rfl, by omega, by go_num, hTK2, rfl⟩
        ·have hsti : ¬ (s2 : Int) < n1 := by omega
         go_wp2_with fail
         go_roundg (n1 - (i + 1))
         case measure => rw [HG2.out]; omega
         case rel => exact ⟨i + 1, rfl, by omega, by go_num, hTK2, rfl⟩
       ·obtain ⟨m, rfl⟩ : ∃ m : Nat, y = (m : Int) := ⟨y.toNat, by omega⟩
        have hyg : (0 : Int) ≤ (m : Int) := by omega
        have hmn : m < n1 := by omega
        have hfo2 := hfo.out
        rw [if_neg hneg] at hfo2
        by_cases hst : s2 < n1
        ·have hsti : (s2 : Int) < n1 := by omega
         obtain ⟨b3, off3, hz3, rfl, hb3, hc3⟩ := H1.out.2.2.atm hmn
         have hx := hbd.out _ (List.getElem_mem hz3)
         rw [show n1 - s2 = (n1 - (s2 + 1)) + 1 by omega, folF, Int.toNat_natCast, List.getD_eq_getElem?_getD, List.getElem?_eq_getElem hz3, Option.getD_some] at hfo2
         have hc3r := (hB.cell (p := ⟨b3, off3 + m, none⟩) hb3).trans hc3
         generalize t[m] = x at *
         have hfo3 : Hid (r = if x < 0 then true else folF t (n1 - (s2 + 1)) x) := Lib.hid (by
           rw [hfo2]
           by_cases e : x = -1
           · rw [if_pos e, if_pos (by omega)]
           · rw [if_neg e, if_neg (by omega)])
         clear hfo hfo2 hz3 hc3
         go_wp2_with fail
         go_roundg (n1 - (s2 + 1))
         case measure => rw [HG3.out]; omega
         case rel => exact ⟨s2 + 1, x, rfl, by omega, rfl, by go_num, hx.1, hx.2, hfo3, rfl⟩
        ·have hsti : ¬ (s2 : Int) < n1 := by omega
         rw [show n1 - s2 = 0 by omega, folF] at hfo2
         have hRf : Hid (R = false) := Lib.hid (HBAD.out hfo2)
         clear hfo hfo2
         go_wp2_with fail
         go_ret
         exact ⟨by rw [hRf.out]; rfl, hB⟩
     ·have hin : i = n1 := by omega
      have hge : ¬ (i : Int) < n1 := by omega
      have hRt : Hid (R = true) := Lib.hid (by
        have h9 := hpre.out
        rw [List.take_of_length_le (by simp; omega)] at h9
        rw [hR1.out]
        unfold treeOK
        rw [HL.out]; exact h9)
      clear hpre hin
      go_wp2_with fail
      go_ret
      exact ⟨by rw [hRt.out]; rfl, hB⟩
 ·have hRf : Hid (R = false) := Lib.hid (by rw [hR, hl, decide_eq_false hnn]; rfl)
  have hne : ((n1 : Int) != (n : Int)) = true := by simp; omega
  have qX := fun i => hX.cell i
  clear hR
  go_enter Tryz.func66, Tryz.ntmps66
  go_wp2_with fail
  go_ret
  exact ⟨by rw [hRf.out]; rfl, hB⟩
end
section
open Go.RowKit Go.Lib Go.Maps
theorem bestI_first {α : Type} (cost : α → Int) (R : α → α → Prop) : ∀ (l : List α), l.Pairwise R → ∀ x, bestI cost l = some x → ∀ y ∈ l, cost y = cost x → y = x ∨ R x y := by
 refine revInd (p := fun l => l.Pairwise R → ∀ x, bestI cost l = some x → ∀ y ∈ l, cost y = cost x → y = x ∨ R x y) (fun _ _ _ y hy => by cases hy) ?_
 intro l z ih hp x hx y hy he
 obtain ⟨p1, _, p3⟩ := List.pairwise_append.1 hp
 rw [bestI_snoc] at hx
 cases hl : bestI cost l with
 | none =>
  rw [hl] at hx
  have := (bestI_none cost l).1 hl
  subst this
  injection hx with hx
  have h2 : y = z := by simpa using hy
  exact .inl (h2.trans hx)
 | some a =>
  rw [hl] at hx
  obtain ⟨m1, m2⟩ := bestI_mem cost l a hl
  injection hx with hx
  by_cases hc : cost z < cost a
  ·rw [if_pos hc] at hx
   subst hx
   rcases List.mem_append.1 hy with hy | hy
   ·have := m2 y hy; omega
   ·exact .inl (List.mem_singleton.1 hy)
  ·rw [if_neg hc] at hx
   subst hx
   rcases List.mem_append.1 hy with hy | hy
   ·exact ih p1 a hl y hy he
   ·rw [List.mem_singleton.1 hy]; exact .inr (p3 a m1 z (by simp))
end
section
open Go.RowKit Go.Lib Go.Maps
def fromW (cs : List VC) (ts : List RI) (f : Int) (k : Nat) : List Int := if f < 0 then ((ts[k]?).map RI.ws).getD [] else (vlAt cs f.toNat k).ws
def cpF (cs : List VC) (ts : List RI) (p : Nat) (f : Int) : Nat → Nat
 | 0 => 0
 | k + 1 => cpF cs ts p f k + tkF (vlAt cs p k) (fromW cs ts f k)
def trF (cs : List VC) (ts : List RI) (t : List Int) : Nat → Nat
 | 0 => 0
 | k + 1 => trF cs ts t k + cpF cs ts k (t.getD k 0) (headN cs)
section
variable {wn : Nat} {A : Option Addr} {n : Nat} {cs : List VC} {w : World} {B : Nat} {tA : Option Addr} {tn tc : Nat} {ts : List RI}
theorem TxG.of (h : TXI w tA tn tc ts) (hw : wn ≤ 3) (h1 : 1 ≤ wn) (h2 : textB (wn : Int) (headN cs) ts = true) : TxG cs tA tn ts w w.heap.size ∧ tn = headN cs ∧ ∀ r ∈ ts, lnB (wn : Int) r.ws = true := by
 unfold textB at h2
 rw [Bool.and_eq_true, decide_eq_true_eq, List.all_eq_true] at h2
 have hl := h.len
 refine ⟨⟨h.2.2.1, h.2.2.2, by omega, fun r hr => ?_⟩, by omega, h2.2⟩
 have h3 := ln_small ⟨by omega, by omega⟩ (h2.2 r hr)
 have h4 : r.ws.length = r.n := by have := (h.2.2.2 r hr).2.2.len; simpa using this
 exact ⟨by omega, h3.1, fun x hx => by have := h3.2 x hx; omega⟩
theorem TxG.toW (h : TxG cs tA tn ts w w.heap.size) {w' : World} (hb : Below w.heap.size w w') : TxG cs tA tn ts w' w'.heap.size := (h.below hb).more hb.size
theorem costV_F (h : BkG wn A n cs w B) (hk : bookB (wn : Int) cs = true) (hts : ts.length = headN cs) (hl : ∀ r ∈ ts, lnB (wn : Int) r.ws = true) {p : Nat} (hp : p < n) {f : Int} (h0 : -1 ≤ f) (h1 : f < n) : costV cs ts (p : Int) f = (cpF cs ts p f (headN cs) : Nat) := by
 have hlen := h.len
 have hs := book_small hk
 have hL : ∀ q, q < n → ∃ c, cs[q]? = some c ∧ c ∈ cs ∧ c.ls.length = headN cs := fun q hq => by
  have hq2 : q < cs.length := by omega
  exact ⟨cs[q], List.getElem?_eq_getElem hq2, List.getElem_mem hq2, (h.2.2.2.2.2.1 _ (List.getElem_mem hq2)).2⟩
 obtain ⟨cp, ep, mp, lp⟩ := hL p hp
 have hsrc : ∃ src : List ByteArray, srcL cs ts f = src ∧ src.length = headN cs ∧ ∀ k (hk : k < src.length), src[k] = lbS (fromW cs ts f k) ∧ ∀ x ∈ fromW cs ts f k, 0 ≤ x ∧ x ≤ 2 := by
  by_cases hf : f = -1
  ·refine ⟨ts.map fun r => lbS r.ws, by unfold srcL; rw [if_pos hf], by simpa using hts, fun k hk => ?_⟩
   have hkt : k < ts.length := by simpa using hk
   have e : fromW cs ts f k = (ts[k]).ws := by unfold fromW; rw [if_pos (by omega), List.getElem?_eq_getElem hkt]; rfl
   rw [e]
   exact ⟨by simp, (ln_small ⟨by have := h.1.1; omega, by have := h.1.2; omega⟩ (hl _ (List.getElem_mem hkt))).2⟩
  ·obtain ⟨ca, ea, ma, la⟩ := hL f.toNat (by omega)
   refine ⟨ca.ls.map fun r => lbS r.ws, by unfold srcL; rw [if_neg hf, ea]; rfl, by simpa using la, fun k hk => ?_⟩
   have hkl : k < ca.ls.length := by simpa using hk
   have e1 := vlAt_ls ea hkl
   have e2 := e1
   rw [List.getElem?_eq_getElem hkl] at e1
   have e : fromW cs ts f k = (vlAt cs f.toNat k).ws := by unfold fromW; rw [if_neg (by omega)]
   rw [e, ← Option.some.inj e1]
   exact ⟨by simp, hs _ ma _ (List.getElem_mem hkl)⟩
 obtain ⟨src, e1, e2, e3⟩ := hsrc
 unfold costV
 rw [e1, Int.toNat_natCast, ep, Option.map_some, Option.getD_some]
 obtain ⟨z, hz⟩ : ∃ z, z = src.zip cp.ls := ⟨_, rfl⟩
 rw [← hz]
 have hzl : z.length = headN cs := by rw [hz, List.length_zip, e2, lp]; omega
 have hsum : ∀ k, k ≤ headN cs → sumI (cgL (z.take k)) = (cpF cs ts p f k : Nat) := by
  intro k
  induction k with
  | zero => intro _; rfl
  | succ k ih =>
   intro hk1
   have hkz : k < z.length := by omega
   have hks : k < src.length := by omega
   have hkl : k < cp.ls.length := by omega
   have hat : z[k] = (lbS (fromW cs ts f k), vlAt cs p k) := by
    have e4 := vlAt_ls ep hkl
    rw [List.getElem?_eq_getElem hkl] at e4
    subst hz
    rw [List.getElem_zip, Option.some.inj e4, (e3 k hks).1]
   rw [List.take_succ_eq_append_getElem hkz, hat]
   have e : cgL (z.take k ++ [(lbS (fromW cs ts f k), vlAt cs p k)]) = cgL (z.take k) ++ cgO (lbS (fromW cs ts f k), vlAt cs p k) := by unfold cgL; rw [List.flatMap_append]; simp
   rw [e, sumI_app, ih (by omega), cpF]
   have hv : ∀ x ∈ (vlAt cs p k).ws, 0 ≤ x ∧ x ≤ 2 := hs cp mp _ (List.mem_of_getElem? (vlAt_ls ep hkl))
   have hu := (e3 k hks).2
   unfold cgO tkF
   dsimp only
   generalize fromW cs ts f k = u at *
   cases (vlAt cs p k).lost
   ·rw [if_neg (by decide), if_neg (by decide), edB_int hu hv]
    show _ + (0 + _) = _
    omega
   ·rw [if_pos rfl, if_pos rfl]
    show _ + (0 : Int) = _
    omega
 have h2 := hsum (headN cs) (Nat.le_refl _)
 rw [List.take_of_length_le (by omega)] at h2
 exact h2
theorem treeS_F (h : BkG wn A n cs w B) (hk : bookB (wn : Int) cs = true) (hts : ts.length = headN cs) (hl : ∀ r ∈ ts, lnB (wn : Int) r.ws = true) {t : List Int} (htl : t.length = n) (htb : ∀ x ∈ t, -1 ≤ x ∧ x < (n : Int)) : treeS (costV cs ts) t = (trF cs ts t n : Nat) := by
 have hsum : ∀ k, k ≤ n → sumI (treeL (costV cs ts) t k) = (trF cs ts t k : Nat) := by
  intro k
  induction k with
  | zero => intro _; rfl
  | succ k ih =>
   intro hk1
   have hkt : k < t.length := by omega
   have hb := htb _ (List.getElem_mem hkt)
   have e : t.getD k 0 = t[k] := by rw [List.getD_eq_getElem?_getD, List.getElem?_eq_getElem hkt]; rfl
   rw [treeL_snoc, sumI_snoc, ih (by omega), trF, e, costV_F h hk hts hl (by omega) hb.1 hb.2]
   omega
 unfold treeS
 rw [htl]
 exact hsum n (Nat.le_refl _)
end
theorem dfsL_pre (lim : Nat) : ∀ (r : Nat) (pre l : List Int), l ∈ dfsL lim r pre → ∃ s, l = pre ++ s ∧ s.length = r
 | 0, pre, l, h => ⟨[], by rw [dfsL] at h; simpa using h, rfl⟩
 | r + 1, pre, l, h => by
  rw [dfsL] at h
  obtain ⟨k, _, h⟩ := List.mem_flatMap.1 h
  obtain ⟨s, e, hs⟩ := dfsL_pre lim r _ l h
  exact ⟨_ :: s, by rw [e, List.append_assoc]; rfl, by simp [hs]⟩
theorem befL_pre : ∀ (pre : List Int) (a b : Int) (u v : List Int), a < b → befL (pre ++ a :: u) (pre ++ b :: v) = true
 | [], a, b, u, v, h => by
  show befL (a :: u) (b :: v) = true
  rw [befL, if_neg (by omega)]; exact decide_eq_true h
 | x :: pre, a, b, u, v, h => by
  show befL (x :: (pre ++ a :: u)) (x :: (pre ++ b :: v)) = true
  rw [befL, if_pos rfl]; exact befL_pre pre a b u v h
theorem dfsL_pw (lim : Nat) : ∀ (r : Nat) (pre : List Int), (dfsL lim r pre).Pairwise fun a b => befL a b = true
 | 0, pre => by rw [dfsL]; simp
 | r + 1, pre => by
  rw [dfsL]
  refine List.pairwise_flatMap.2 ⟨fun k _ => dfsL_pw lim r _, List.pairwise_lt_range.imp fun {k1 k2} h => fun x hx y hy => ?_⟩
  obtain ⟨s1, e1, _⟩ := dfsL_pre lim r _ x hx
  obtain ⟨s2, e2, _⟩ := dfsL_pre lim r _ y hy
  rw [e1, e2, List.append_assoc, List.append_assoc]
  exact befL_pre pre _ _ s1 s2 (by show (k1 : Int) < (k2 : Int); omega)
theorem befL_dec : ∀ (a b : List Int), befL (a.map (· - 1)) (b.map (· - 1)) = befL a b
 | [], b => by cases b <;> rfl
 | _ :: _, [] => rfl
 | x :: xs, y :: ys => by
  rw [List.map_cons, List.map_cons, befL, befL, befL_dec xs ys]
  by_cases e : x = y
  ·rw [if_pos e, if_pos (by omega)]
  ·rw [if_neg e, if_neg (by omega)]
   congr 1
   apply propext
   omega
theorem trees_pw (n lim : Nat) (F : Int → Int → Int) : (treesOf n F (allLs n lim)).Pairwise fun x y => befL x.1 y.1 = true := by
 unfold treesOf
 refine List.pairwise_flatMap.2 ⟨fun p _ => by split <;> simp, (dfsL_pw lim n []).imp fun {a b} h => fun x hx y hy => ?_⟩
 split at hx
 ·split at hy
  ·rw [List.mem_singleton.1 hx, List.mem_singleton.1 hy]
   rw [befL_dec]; exact h
  ·cases hy
 ·cases hx
theorem tree_best {n : Nat} (F : Int → Int → Int) {t : List Int} {c : Int} (h : bestI Prod.snd (treesOf n F (allLs n (n + 1))) = some (t, c)) : t.length = n ∧ (∀ x ∈ t, -1 ≤ x ∧ x < (n : Int)) ∧ treeOK t = true ∧ c = treeS F t ∧
  ∀ t' : List Int, t'.length = n → (∀ x ∈ t', -1 ≤ x ∧ x < (n : Int)) → treeOK t' = true → treeS F t ≤ treeS F t' ∧ (treeS F t' = treeS F t → befL t' t = false) := by
 obtain ⟨m1, m2⟩ := bestI_mem _ _ _ h
 have hm := m1
 unfold treesOf at hm
 obtain ⟨p, hp, hm⟩ := List.mem_flatMap.1 hm
 obtain ⟨hp1, hp2⟩ := allLs_mem hp
 split at hm
 ·rename_i hok
  have e := List.mem_singleton.1 hm
  injection e with e1 e2
  have hlt : t.length = n := by rw [e1, List.length_map]; exact hp1
  have hbt : ∀ x ∈ t, -1 ≤ x ∧ x < (n : Int) := fun x hx => by
   rw [e1] at hx
   obtain ⟨y, hy, rfl⟩ := List.mem_map.1 hx
   have := hp2 y hy
   omega
  refine ⟨hlt, hbt, by rw [e1]; exact hok, by rw [e2, e1], fun t' h1 h2 h3 => ?_⟩
  have hin := trees_has F h1 h2 h3
  have hle := m2 _ hin
  have hf := bestI_first Prod.snd _ _ (trees_pw n (n + 1) F) _ h _ hin
  have hc : c = treeS F t := by rw [e2, e1]
  dsimp only at hle hf
  refine ⟨by omega, fun he => ?_⟩
  rcases hf (by omega) with h9 | h9
  ·injection h9 with h9 _
   rw [h9]; exact befL_self t
  ·exact befL_irr _ _ (by omega) h9
 ·cases hm
theorem refTree_parts {n : Nat} {t : List Int} (h : refTreeB n t = true) : t.length = n ∧ (∀ x ∈ t, -1 ≤ x ∧ x < (n : Int)) ∧ sourcesB n t = true ∧ treeOK t = true := by
 unfold refTreeB at h
 rw [Bool.and_eq_true] at h
 have h1 := h.1
 unfold sourcesB at h1
 rw [Bool.and_eq_true, decide_eq_true_eq, List.all_eq_true] at h1
 refine ⟨h1.1, fun x hx => ?_, h.1, h.2⟩
 have := h1.2 x hx
 simp only [Bool.or_eq_true, beq_iff_eq, inB, Bool.and_eq_true, decide_eq_true_eq] at this
 omega
theorem refTree_of {n : Nat} {t : List Int} (h1 : t.length = n) (h2 : ∀ x ∈ t, -1 ≤ x ∧ x < (n : Int)) (h3 : treeOK t = true) : refTreeB n t = true := by
 unfold refTreeB sourcesB
 rw [h3, Bool.and_true, decide_eq_true h1, Bool.true_and, List.all_eq_true]
 intro x hx
 have := h2 x hx
 simp only [Bool.or_eq_true, beq_iff_eq, inB, Bool.and_eq_true, decide_eq_true_eq]
 omega
end
section
open Go.RowKit Go.Lib Go.Maps
theorem Tree_I {wn : Nat} {A : Option Addr} {n cap : Nat} {cs : List VC} {tA : Option Addr} {tn tc : Nat} {ts : List RI} {w : World} (hb : BkG wn A n cs w w.heap.size) (h1 : bookB (wn : Int) cs = true) (ht : TxG cs tA tn ts w w.heap.size) (h2 : textB (wn : Int) (headN cs) ts = true) :
  ∃ t c, bestI Prod.snd (treesOf n (costV cs ts) (allLs n (n + 1))) = some (t, c) ∧ Calls Tryz.prog 64 #[.agg #[.int .i64 (wn : Int), .slice A n cap], .slice tA tn tc] w fun e w' => (∃ vA vc, e = .returned (.tuple #[.slice vA n vc, .int .i64 c, .int .i64 0]) ∧ IA w' vA n vc t) ∧ Below w.heap.size w w' := by
 have hne := trees_pos (costV cs ts) hb.2.1.1
 obtain ⟨x, hx⟩ := bestI_some Prod.snd hne
 refine ⟨x.1, x.2, hx, (Tree_yes cap tc hb h1 ht h2).mono ?_⟩
 rintro e w' ⟨⟨v, t, c, h3, rfl, hown⟩, hbw⟩
 rw [hx] at h3
 injection h3 with h3
 obtain ⟨va, vc, rfl⟩ := own_slice hown
 refine ⟨⟨va, vc, by rw [h3], ?_⟩, hbw⟩
 rw [h3]
 exact ⟨own_le0 hown, own_cap hown, Rd.of_own hown⟩
end
section
open Go.RowKit Go.Lib Go.Maps
theorem cpF_le {wn : Nat} {A : Option Addr} {n : Nat} {cs : List VC} {w : World} {B : Nat} (h : BkG wn A n cs w B) {ts : List RI} (ht : ts.length = headN cs) (hl : ∀ r ∈ ts, r.ws.length ≤ 4) {p : Nat} (hp : p < n) {f : Int} (hf : f < n) : ∀ k, k ≤ headN cs → cpF cs ts p f k ≤ 4 * k
 | 0, _ => Nat.zero_le _
 | k + 1, hk => by
  obtain ⟨_, _, _, _, hr⟩ := h.rows
  have h1 := cpF_le h ht hl hp hf k (by omega)
  obtain ⟨_, _, _, _, _, hq⟩ := hr p hp
  obtain ⟨_, _, _, _, v1⟩ := hq k (by omega)
  have v2 : (fromW cs ts f k).length ≤ 4 := by
   unfold fromW
   split
   ·rw [List.getElem?_eq_getElem (show k < ts.length by omega)]
    exact hl _ (List.getElem_mem _)
   ·obtain ⟨_, _, _, _, _, hq2⟩ := hr f.toNat (by omega)
    exact (hq2 k (by omega)).2.2.2.2
  have := tkF_le _ _ v2 v1
  rw [cpF]; omega
theorem copied114_any {wn : Nat} {A : Option Addr} {n : Nat} (cap tc : Nat) {cs : List VC} {tA : Option Addr} {tn : Nat} {ts : List RI} (f : Int) (p : Nat) {w : World} (h : BkG wn A n cs w w.heap.size) (ht : TxG cs tA tn ts w w.heap.size) (htn : tn = headN cs) (hf : f < n) (hp : p < n) :
  Calls Tryz.prog 114 #[.agg #[.int .i64 (wn : Int), .slice A n cap], .slice tA tn tc, .int .i64 f, .int .i64 (p : Int)] w fun e w' => e = .returned (.int .i64 (cpF cs ts p f (headN cs) : Nat)) ∧ Below w.heap.size w w' := by
 subst htn
 have hwd := fun (q k : Nat) (hq : q < n) (hk : k < headN cs) (wx : World) (hx : Below w.heap.size w wx) => words155_any cap q k (h.toW hx) hq hk
 have hF := fun k (hk : k ≤ headN cs) => cpF_le h ht.2.2.1 (fun r hr => (ht.2.2.2 r hr).2.1) hp hf k hk
 have hL4 := h.2.2.1
 obtain ⟨bb, off, rfl, hbw, hr⟩ := h.rows
 have htr := ht.1; have hto := ht.2.1; have hlt := ht.2.2.1
 have htl := fun r (hr : r ∈ ts) => (ht.2.2.2 r hr).1
 have htw := fun r (hr : r ∈ ts) => (ht.2.2.2 r hr).2.1
 have hX := Blk.new w 24 #[.int .i64 (wn : Int), .slice (some ⟨bb, off, none⟩) n cap]
 have hB : Below w.heap.size w (w.alloc (.cells #[.int .i64 (wn : Int), .slice (some ⟨bb, off, none⟩) n cap] 24)) := (Below.refl _ w).alloc (Nat.le_refl _) _
 obtain ⟨L, hL⟩ : ∃ L, L = headN cs := ⟨_, rfl⟩
 simp only [← hL] at hwd hF hL4 hr htr hlt ⊢
 obtain ⟨F, hFe⟩ : ∃ F, F = cpF cs ts p f := ⟨_, rfl⟩
 simp only [← hFe] at hF ⊢
 have hF1 : ∀ k, F (k + 1) = F k + tkF (vlAt cs p k) (fromW cs ts f k) := fun k => by rw [hFe]; rfl
 have hF0 : F 0 = 0 := by rw [hFe]; rfl
 have HWD := Lib.hid hwd; have HF := Lib.hid hF; have HR := Lib.hid hr; have HF1 := Lib.hid hF1; have HF0 := Lib.hid hF0; have HTR := Lib.hid htr; have HTO := Lib.hid hto; have HTL := Lib.hid htl; have HTW := Lib.hid htw; have HLT := Lib.hid hlt
 clear hwd hF hr hF1 hF0 hFe hL h ht htr hto htl htw hlt
 have hpi : (p : Int) < n := by omega
 obtain ⟨bp, offp, ccp, hcp, hbp, hlp⟩ := HR.out p hp
 have HLP := Lib.hid hlp; clear hlp
 go_enter Tryz.func114, Tryz.ntmps114
 go_wp2_with fail
 generalize (w.alloc (.cells #[.int .i64 (wn : Int), .slice (some ⟨bb, off, none⟩) n cap] 24)) = W0 at *
 go_loopg [9, 10] L (fun g v i2 wr => ∃ k s : Nat, g = L - k ∧ k ≤ L ∧ v = .int .i64 s ∧ i2 = .int .i64 k ∧ Hid (s = F k) ∧ s ≤ 4 * k ∧ Below w.heap.size w wr ∧ Blk wr w.heap.size 24 #[.int .i64 (wn : Int), .slice (some ⟨bb, off, none⟩) n cap])
 case atStart => exact ⟨0, 0, rfl, Nat.zero_le _, rfl, rfl, Lib.hid HF0.out.symm, Nat.le_refl _, hB, hX⟩
 case round =>
  clear hX hB
  obtain ⟨k, s, hg, hk, rfl, rfl, hs, hsk, hB, hX⟩ := hrel
  rename World => wr
  have HG := Lib.hid hg; clear hg
  have qX := fun i => hX.cell i
  by_cases hlt : k < L
  ·have hlti : (k : Int) < L := by omega
   obtain ⟨hv0, hv1, hvok, hvn, hvl⟩ := HLP.out k hlt
   have hkt : k < ts.length := by rw [HLT.out]; exact hlt
   obtain ⟨bt, offt, hzt, rfl, hbt, hct⟩ := HTR.out.atm hlt
   have htok := HTO.out _ (List.getElem_mem hzt)
   have htl := HTL.out _ (List.getElem_mem hzt)
   have htw := HTW.out _ (List.getElem_mem hzt)
   have hF1 := HF1.out k
   rw [← hs.out] at hF1
   have hct2 : wr.cell? ⟨bt, offt + k, none⟩ = some (.slice ts[k].A ts[k].n ts[k].cap) := (hB.cell (p := ⟨bt, offt + k, none⟩) hbt).trans hct
   have hft : f < 0 → fromW cs ts f k = ts[k].ws := fun h => by unfold fromW; rw [if_pos h, List.getElem?_eq_getElem hzt]; rfl
   generalize ts[k] = r at *
   have hcpr := (hB.cell (p := ⟨bb, off + p, none⟩) hbw).trans hcp
   have hv0r := (hB.cell (p := ⟨bp, offp + k * 2, none⟩) hbp).trans hv0
   have hv1r := (hB.cell (p := ⟨bp, offp + k * 2 + 1, none⟩) hbp).trans hv1
   have hq1 := fun (x : Blw wr.heap.size wr) => ((Blw.h x).cell (p := ⟨bb, off + p, none⟩) (Nat.lt_of_lt_of_le hbw hB.size)).trans hcpr
   have hq2 := fun (x : Blw wr.heap.size wr) => ((Blw.h x).cell (p := ⟨bp, offp + k * 2, none⟩) (Nat.lt_of_lt_of_le hbp hB.size)).trans hv0r
   have hq3 := fun (x : Blw wr.heap.size wr) => ((Blw.h x).cell (p := ⟨bp, offp + k * 2 + 1, none⟩) (Nat.lt_of_lt_of_le hbp hB.size)).trans hv1r
   have hq4 := fun (x : Blw wr.heap.size wr) j => blw_blk hX x j
   have hq5 := fun (x : Blw wr.heap.size wr) => ((Blw.h x).cell (p := ⟨bt, offt + k, none⟩) (Nat.lt_of_lt_of_le hbt hB.size)).trans hct2
   have hlX := hX.lt
   have HVOK := Lib.hid hvok; have HV0 := Lib.hid hv0; have HV1 := Lib.hid hv1
   generalize vlAt cs p k = v at *
   by_cases hf0 : f < 0
   ·have hfg : ¬ (0 : Int) ≤ f := by omega
    rw [hft hf0] at hF1
    have hc1 := taken_any r.A r.n r.cap r.ws v wr ⟨htok.1, htok.2.1, rdB htok.2.2 hB⟩ (okVL HVOK.out hB) (by omega) hvn
    have ht4 := tkF_le _ _ htw hvl
    obtain ⟨t, ht⟩ : ∃ t, t = tkF v r.ws := ⟨_, rfl⟩
    rw [← ht] at hF1 ht4
    simp only [← ht] at hc1
    have HF2 := Lib.hid hF1; have HC1 := Lib.hid hc1
    clear hF1 hc1 ht hs hvok hv0 hv1 hft htok hct hq1 hq2 hq3 hq4 hq5
    go_wp2_with fail
    refine (HC1.out).mono ?_; rintro e wc ⟨rfl, hb3⟩
    clear qX
    go_wp2_with fail
    go_roundg (L - (k + 1))
    case measure => rw [HG.out]; omega
    case rel => exact ⟨k + 1, s + t, rfl, by omega, by go_num, by go_num, Lib.hid HF2.out.symm, by omega, hB.trans (hb3.mono hB.size), hX.below hb3 hX.lt⟩
   ·obtain ⟨fm, rfl⟩ : ∃ fm : Nat, f = fm := ⟨f.toNat, by omega⟩
    have hfg : (0 : Int) ≤ (fm : Int) := by omega
    have hfm : fm < n := by omega
    obtain ⟨bq, offq, ccq, hcq, hbq, hlq⟩ := HR.out _ hfm
    obtain ⟨_, _, huok, hun, hul⟩ := hlq k hlt
    have hwd := HWD.out _ k hfm hlt wr hB
    have hfw : fromW cs ts (fm : Int) k = (vlAt cs fm k).ws := by unfold fromW; rw [if_neg (by omega), Int.toNat_natCast]
    rw [hfw] at hF1
    generalize vlAt cs fm k = u at *
    have hc1 := fun (x : World) (hx : Below w.heap.size w x) => taken_any u.A u.n u.cap u.ws v x ⟨huok.1, huok.2.1, rdB huok.2.2 hx⟩ (okVL HVOK.out hx) (by omega) hvn
    have ht4 := tkF_le _ _ hul hvl
    obtain ⟨t, ht⟩ : ∃ t, t = tkF v u.ws := ⟨_, rfl⟩
    rw [← ht] at hF1 ht4
    simp only [← ht] at hc1
    have HF2 := Lib.hid hF1; have HC1 := Lib.hid hc1; have HWD2 := Lib.hid hwd
    clear hF1 hc1 hwd ht hs hvok hv0 hv1 hft htok hct hfw huok hlq hcq hq1 hq2 hq3 hq4 hq5
    go_wp2_with fail
    refine (HWD2.out).mono ?_; rintro e W2 ⟨rfl, hb2⟩
    clear HWD2 qX hv0r hv1r hcpr
    replace hX := hX.below hb2 hX.lt; replace hB := hB.trans (hb2.mono hB.size)
    have qX := fun i => hX.cell i
    have hcpr := (hB.cell (p := ⟨bb, off + p, none⟩) hbw).trans hcp
    have hv0r := (hB.cell (p := ⟨bp, offp + k * 2, none⟩) hbp).trans HV0.out
    have hv1r := (hB.cell (p := ⟨bp, offp + k * 2 + 1, none⟩) hbp).trans HV1.out
    go_wp2_with fail
    refine (HC1.out _ hB).mono ?_; rintro e wc ⟨rfl, hb3⟩
    clear qX hv0r hv1r hcpr
    go_wp2_with fail
    go_roundg (L - (k + 1))
    case measure => rw [HG.out]; omega
    case rel => exact ⟨k + 1, s + t, rfl, by omega, by go_num, by go_num, Lib.hid HF2.out.symm, by omega, hB.trans (hb3.mono hB.size), hX.below hb3 hX.lt⟩
  ·obtain rfl : k = L := by omega
   have hge : ¬ (k : Int) < k := by omega
   have hs2 := hs.out
   subst hs2
   go_wp2_with fail
   go_ret
   exact ⟨rfl, hB⟩
theorem trF_le {wn : Nat} {A : Option Addr} {n : Nat} {cs : List VC} {w : World} {B : Nat} (h : BkG wn A n cs w B) {ts : List RI} (ht : ts.length = headN cs) (hl : ∀ r ∈ ts, r.ws.length ≤ 4) {t : List Int} (htl : t.length = n) (htb : ∀ x ∈ t, x < (n : Int)) : ∀ k, k ≤ n → trF cs ts t k ≤ 16 * k
 | 0, _ => Nat.zero_le _
 | k + 1, hk => by
  have h1 := trF_le h ht hl htl htb k (by omega)
  have hkl : k < t.length := by omega
  have h2 := cpF_le h ht hl (p := k) (by omega) (f := t.getD k 0) (by rw [List.getD_eq_getElem?_getD, List.getElem?_eq_getElem hkl]; exact htb _ (List.getElem_mem _)) (headN cs) (Nat.le_refl _)
  have hL4 := h.2.2.1
  rw [trF]; omega
theorem total67_any {wn : Nat} {A : Option Addr} {n : Nat} (cap tc : Nat) {cs : List VC} {tA : Option Addr} {tn : Nat} {ts : List RI} (A1 : Option Addr) (n1 c1 : Nat) (t : List Int) {w : World} (h : BkG wn A n cs w w.heap.size) (ht : TxG cs tA tn ts w w.heap.size) (htn : tn = headN cs) (h1 : IA w A1 n1 c1 t) (htl : t.length = n) (htb : ∀ x ∈ t, x < (n : Int)) :
  Calls Tryz.prog 67 #[.agg #[.int .i64 (wn : Int), .slice A n cap], .slice tA tn tc, .slice A1 n1 c1] w fun e w' => e = .returned (.int .i64 (trF cs ts t n : Nat)) ∧ Below w.heap.size w w' := by
 obtain rfl : n1 = n := by have := h1.len; omega
 have hcp := fun (f : Int) (p : Nat) (hf : f < n1) (hp : p < n1) (wx : World) (hx : Below w.heap.size w wx) => copied114_any cap tc f p (h.toW hx) (ht.toW hx) htn hf hp
 have hF := fun k (hk : k ≤ n1) => trF_le h ht.2.2.1 (fun r hr => (ht.2.2.2 r hr).2.1) htl htb k hk
 have hn5 := h.2.1
 have hX := Blk.new w 24 #[.int .i64 (wn : Int), .slice A n1 cap]
 have hB : Below w.heap.size w (w.alloc (.cells #[.int .i64 (wn : Int), .slice A n1 cap] 24)) := (Below.refl _ w).alloc (Nat.le_refl _) _
 have hF1 : ∀ k, trF cs ts t (k + 1) = trF cs ts t k + cpF cs ts k (t.getD k 0) (headN cs) := fun k => rfl
 have hF0 : trF cs ts t 0 = 0 := rfl
 have hC4 := fun k (hk : k < n1) (f : Int) (hf : f < n1) => cpF_le h ht.2.2.1 (fun r hr => (ht.2.2.2 r hr).2.1) hk hf (headN cs) (Nat.le_refl _)
 have hL4 := h.2.2.1
 generalize trF cs ts t = F at *
 generalize headN cs = L at *
 generalize hCP : cpF cs ts = CP at *
 have HCP := Lib.hid hcp; have HF := Lib.hid hF; have HF1 := Lib.hid hF1; have HF0 := Lib.hid hF0; have HC4 := Lib.hid hC4; have HTB := Lib.hid htb; have HTL := Lib.hid htl; have HH1 := Lib.hid h1
 clear hcp hF hF1 hF0 hC4 htb htl h1 hCP h ht htn
 go_enter Tryz.func67, Tryz.ntmps67
 go_wp2_with fail
 generalize (w.alloc (.cells #[.int .i64 (wn : Int), .slice A n1 cap] 24)) = W0 at *
 go_loopg [7, 8] n1 (fun g v i2 wr => ∃ k s : Nat, g = n1 - k ∧ k ≤ n1 ∧ v = .int .i64 s ∧ i2 = .int .i64 k ∧ Hid (s = F k) ∧ s ≤ 16 * k ∧ Below w.heap.size w wr ∧ Blk wr w.heap.size 24 #[.int .i64 (wn : Int), .slice A n1 cap])
 case atStart => exact ⟨0, 0, rfl, Nat.zero_le _, rfl, rfl, Lib.hid HF0.out.symm, Nat.le_refl _, hB, hX⟩
 case round =>
  clear hX hB
  obtain ⟨k, s, hg, hk, rfl, rfl, hs, hsk, hB, hX⟩ := hrel
  rename World => wr
  have HG := Lib.hid hg; clear hg
  have qX := fun i => hX.cell i
  by_cases hlt : k < n1
  ·have hlti : (k : Int) < n1 := by omega
   have hkl : k < t.length := by rw [HTL.out]; exact hlt
   have hfb := HTB.out _ (List.getElem_mem hkl)
   have hF1 := HF1.out k
   rw [← hs.out, List.getD_eq_getElem?_getD, List.getElem?_eq_getElem hkl, Option.getD_some] at hF1
   obtain ⟨b1, off1, hz1, rfl, hb1, hc1⟩ := HH1.out.2.2.atm hlt
   generalize t[k] = f at *
   have hc1r := (hB.cell (p := ⟨b1, off1 + k, none⟩) hb1).trans hc1
   have hC := fun (x : Blw wr.heap.size wr) => HCP.out f k hfb hlt x.toW (hB.trans (x.h.mono hB.size))
   have h16 := HC4.out k hlt f hfb
   generalize CP k f L = c at *
   have hq1 := fun (x : Blw wr.heap.size wr) => ((Blw.h x).cell (p := ⟨b1, off1 + k, none⟩) (Nat.lt_of_lt_of_le hb1 hB.size)).trans hc1r
   have hq4 := fun (x : Blw wr.heap.size wr) j => blw_blk hX x j
   have hlX := hX.lt
   have HF2 := Lib.hid hF1; have HC := Lib.hid hC
   clear hF1 hC hs hz1 hkl
   go_upto_region 5 with (fail)
   refine wp_region_blw (by kernel_rfl) (by kernel_rfl) ?_
   repeat (go_big_quiet_step (fail))
   go_big_quiet_step ((go_at_call 114; exact Calls.blw_of _ (HC.out _)))
   repeat (go_big_quiet_step (fail))
   refine wpQuiet_nil ?_
   rintro W3 ⟨⟨_, hb3⟩, rfl⟩
   clear hq1 hq4 hlX HC qX
   go_wp2_with fail
   go_roundg (n1 - (k + 1))
   case measure => rw [HG.out]; omega
   case rel => exact ⟨k + 1, s + c, rfl, by omega, by go_num, by go_num, Lib.hid HF2.out.symm, by omega, hB.trans (hb3.mono hB.size), hX.below hb3 hX.lt⟩
  ·obtain rfl : k = n1 := by omega
   have hge : ¬ (k : Int) < k := by omega
   have hs2 := hs.out
   subst hs2
   go_wp2_with fail
   go_ret
   exact ⟨rfl, hB⟩
end
section
open Go.RowKit Go.Lib Go.Maps
def frs (n : Nat) : List Int := (List.range (n + 1)).map fun j : Nat => (j : Int) - 1
def extL (n i : Nat) (t : List Int) : List (List Int) := ((frs n).filter fun x => x != (i : Int)).map fun x => t ++ [x]
def AL (n : Nat) : Nat → List (List Int)
 | 0 => [[]]
 | i + 1 => (AL n i).flatMap (extL n i)
def nxA (n i : Nat) (L : List (List Int)) (ii : Nat) : List (List Int) := (L.take ii).flatMap (extL n i)
def nxB (n i : Nat) (t : List Int) (q : Nat) : List (List Int) := (((frs n).take q).filter fun x => x != (i : Int)).map fun x => t ++ [x]
theorem frs_len (n : Nat) : (frs n).length = n + 1 := by unfold frs; rw [List.length_map, List.length_range]
theorem frs_get (n q : Nat) (h : q < n + 1) : (frs n)[q]? = some ((q : Int) - 1) := by
 unfold frs
 rw [List.getElem?_map, List.getElem?_range h]; rfl
theorem frs_take (n q : Nat) (h : q < n + 1) : (frs n).take (q + 1) = (frs n).take q ++ [(q : Int) - 1] := by
 rw [List.take_add_one, frs_get n q h]; rfl
theorem nxB_ne {n i q : Nat} {t : List Int} (h : q < n + 1) (hne : (q : Int) - 1 ≠ i) : nxB n i t (q + 1) = nxB n i t q ++ [t ++ [(q : Int) - 1]] := by
 unfold nxB
 rw [frs_take n q h, List.filter_append, List.map_append]
 congr 1
 rw [List.filter_cons_of_pos (by simpa using hne)]; rfl
theorem nxB_eq {n i q : Nat} {t : List Int} (h : q < n + 1) (he : (q : Int) - 1 = i) : nxB n i t (q + 1) = nxB n i t q := by
 unfold nxB
 rw [frs_take n q h, List.filter_append, List.map_append, List.filter_cons_of_neg (by simpa using he)]; simp
theorem nxB_full {n i : Nat} {t : List Int} : nxB n i t (n + 1) = extL n i t := by
 unfold nxB extL
 rw [List.take_of_length_le (by rw [frs_len]; exact Nat.le_refl _)]
theorem nxB_zero {n i : Nat} {t : List Int} : nxB n i t 0 = [] := rfl
theorem nxA_succ {n i ii : Nat} {L : List (List Int)} {t : List Int} (h : L[ii]? = some t) : nxA n i L (ii + 1) = nxA n i L ii ++ extL n i t := by
 unfold nxA
 rw [List.take_add_one, h, List.flatMap_append]; simp
theorem nxA_full {n i : Nat} : nxA n i (AL n i) (AL n i).length = AL n (i + 1) := by
 unfold nxA; rw [List.take_length]; rfl
theorem nxB_le (n i : Nat) (t : List Int) (q : Nat) : (nxB n i t q).length ≤ n + 1 := by
 unfold nxB
 rw [List.length_map]
 refine Nat.le_trans (List.length_filter_le _ _) ?_
 rw [List.length_take, frs_len]; omega
theorem ext_le (n i : Nat) (t : List Int) : (extL n i t).length ≤ n + 1 := by rw [← nxB_full]; exact nxB_le _ _ _ _
theorem flat_le {n i : Nat} : ∀ L : List (List Int), (L.flatMap (extL n i)).length ≤ (n + 1) * L.length
 | [] => Nat.zero_le _
 | t :: L => by
  rw [List.flatMap_cons, List.length_append, List.length_cons]
  have h1 := flat_le (n := n) (i := i) L
  have h2 := ext_le n i t
  rw [Nat.mul_add]; omega
theorem AL_pow (n : Nat) : ∀ i, (AL n i).length ≤ (n + 1) ^ i
 | 0 => Nat.le_refl _
 | i + 1 => by
  have h1 := flat_le (n := n) (i := i) (AL n i)
  have h2 := AL_pow n i
  rw [AL, Nat.pow_succ, Nat.mul_comm]
  exact Nat.le_trans h1 (Nat.mul_le_mul_left _ h2)
theorem AL_le {n i : Nat} (hn : n ≤ 5) (hi : i ≤ n) : (AL n i).length ≤ 7776 := by
 refine Nat.le_trans (AL_pow n i) ?_
 refine Nat.le_trans (Nat.pow_le_pow_left (show n + 1 ≤ 6 by omega) i) ?_
 exact Nat.le_trans (Nat.pow_le_pow_right (by omega) (show i ≤ 5 by omega)) (by decide)
theorem nxA_le {n i ii : Nat} (hn : n ≤ 5) (hi : i ≤ n) : (nxA n i (AL n i) ii).length ≤ 46656 := by
 unfold nxA
 refine Nat.le_trans (flat_le _) ?_
 have h1 := AL_le hn hi
 have h2 : ((AL n i).take ii).length ≤ 7776 := by rw [List.length_take]; omega
 exact Nat.le_trans (Nat.mul_le_mul (show n + 1 ≤ 6 by omega) h2) (by decide)
theorem AL_mem {n : Nat} : ∀ {i : Nat} {t : List Int}, t ∈ AL n i ↔ t.length = i ∧ ∀ k (_ : k < t.length), -1 ≤ t[k] ∧ t[k] < (n : Int) ∧ t[k] ≠ (k : Int)
 | 0, t => by
  rw [AL, List.mem_singleton]
  constructor
  ·rintro rfl; exact ⟨rfl, fun k hk => by cases hk⟩
  ·rintro ⟨h, _⟩; exact List.length_eq_zero_iff.1 h
 | i + 1, t => by
  rw [AL, List.mem_flatMap]
  constructor
  ·rintro ⟨s, hs, ht⟩
   obtain ⟨h1, h2⟩ := AL_mem.1 hs
   unfold extL at ht
   obtain ⟨x, hx, rfl⟩ := List.mem_map.1 ht
   obtain ⟨hx1, hx2⟩ := List.mem_filter.1 hx
   unfold frs at hx1
   obtain ⟨j, hj, rfl⟩ := List.mem_map.1 hx1
   have hj := List.mem_range.1 hj
   refine ⟨by rw [List.length_append, h1]; rfl, fun k hk => ?_⟩
   rw [List.getElem_append]
   split
   ·exact h2 k (by assumption)
   ·have hk2 : k = s.length := by rw [List.length_append, List.length_singleton] at hk; omega
    subst hk2
    simp only [Nat.sub_self, List.getElem_cons_zero]
    refine ⟨by omega, by omega, ?_⟩
    rw [h1]; simpa using hx2
  ·rintro ⟨h1, h2⟩
   have hne : t ≠ [] := by rintro rfl; cases h1
   refine ⟨t.dropLast, AL_mem.2 ⟨by rw [List.length_dropLast]; omega, fun k hk => ?_⟩, ?_⟩
   ·rw [List.length_dropLast] at hk
    rw [List.getElem_dropLast]; exact h2 k (by omega)
   ·unfold extL
    refine List.mem_map.2 ⟨t.getLast hne, List.mem_filter.2 ⟨?_, ?_⟩, List.dropLast_concat_getLast hne⟩
    ·obtain ⟨g1, g2, _⟩ := h2 (t.length - 1) (by omega)
     rw [List.getLast_eq_getElem]
     unfold frs
     refine List.mem_map.2 ⟨(t[t.length - 1] + 1).toNat, List.mem_range.2 (by omega), by omega⟩
    ·obtain ⟨_, _, g3⟩ := h2 (t.length - 1) (by omega)
     rw [List.getLast_eq_getElem]
     simp only [bne_iff_ne, ne_eq]
     intro e; exact g3 (by rw [e]; omega)
theorem extL_pw (n i : Nat) (t : List Int) : (extL n i t).Pairwise fun a b => befL a b = true := by
 unfold extL frs
 rw [List.filter_map, List.map_map, List.pairwise_map]
 refine List.Pairwise.filter _ (List.pairwise_lt_range.imp fun {a b} h => ?_)
 exact befL_pre t ((a : Int) - 1) ((b : Int) - 1) [] [] (by omega)
theorem befL_ext : ∀ (a b u v : List Int), a.length = b.length → befL a b = true → befL (a ++ u) (b ++ v) = true
 | [], [], _, _, _, h => by cases h
 | [], _ :: _, _, _, h, _ => by cases h
 | _ :: _, [], _, _, h, _ => by cases h
 | x :: xs, y :: ys, u, v, h, hb => by
  unfold befL at hb
  rw [List.cons_append, List.cons_append]
  unfold befL
  split at hb
  ·rename_i e
   rw [if_pos e]; exact befL_ext xs ys u v (by simpa using h) hb
  ·rename_i e
   rw [if_neg e]; exact hb
theorem AL_pw (n : Nat) : ∀ i, (AL n i).Pairwise fun a b => befL a b = true
 | 0 => List.pairwise_singleton _ _
 | i + 1 => by
  rw [AL]
  refine List.pairwise_flatMap.2 ⟨fun t _ => extL_pw n i t, (List.Pairwise.and_mem.1 (AL_pw n i)).imp fun {a b} h => ?_⟩
  obtain ⟨ha, hb, h⟩ := h
  intro x hx y hy
  unfold extL at hx hy
  obtain ⟨x1, _, rfl⟩ := List.mem_map.1 hx
  obtain ⟨y1, _, rfl⟩ := List.mem_map.1 hy
  exact befL_ext _ _ _ _ (by rw [(AL_mem.1 ha).1, (AL_mem.1 hb).1]) h
theorem folF_self (t : List Int) (k : Nat) (h : t.getD k 0 = (k : Int)) : ∀ m, folF t m (k : Int) = false
 | 0 => rfl
 | m + 1 => by
  unfold folF
  rw [Int.toNat_natCast, h, if_neg (by omega)]
  exact folF_self t k h m
theorem AL_has {n : Nat} {t : List Int} (h1 : t.length = n) (h2 : ∀ x ∈ t, -1 ≤ x ∧ x < (n : Int)) (h3 : treeOK t = true) : t ∈ AL n n := by
 refine AL_mem.2 ⟨h1, fun k hk => ⟨(h2 _ (List.getElem_mem hk)).1, (h2 _ (List.getElem_mem hk)).2, fun e => ?_⟩⟩
 unfold treeOK at h3
 have h4 := List.all_eq_true.1 h3 k (List.mem_range.2 hk)
 rw [folF_self t k (by rw [List.getD_eq_getElem?_getD, List.getElem?_eq_getElem hk]; exact e)] at h4
 cases h4
theorem AL_ok {n : Nat} {t : List Int} (h : t ∈ AL n n) : t.length = n ∧ ∀ x ∈ t, -1 ≤ x ∧ x < (n : Int) := by
 obtain ⟨h1, h2⟩ := AL_mem.1 h
 refine ⟨h1, fun x hx => ?_⟩
 obtain ⟨k, hk, rfl⟩ := List.getElem_of_mem hx
 exact ⟨(h2 k hk).1, (h2 k hk).2.1⟩
theorem AL_tree {n : Nat} {t : List Int} (h : t ∈ AL n n) : refTreeB n t = treeOK t := by
 obtain ⟨h1, h2⟩ := AL_ok h
 cases hk : treeOK t
 ·unfold refTreeB; rw [hk, Bool.and_false]
 ·exact refTree_of h1 h2 hk
def Sought (F : List Int → Nat) (L : List (List Int)) (k : Nat) (b s : Int) : Prop :=
 (b = -1 ∧ s = 0 ∧ ∀ j (_ : j < k) t, L[j]? = some t → treeOK t = false) ∨
 ∃ j t, b = (j : Nat) ∧ j < k ∧ L[j]? = some t ∧ treeOK t = true ∧ s = (F t : Nat) ∧ (∀ i (_ : i < k) u, L[i]? = some u → treeOK u = true → F t ≤ F u) ∧ ∀ i (_ : i < j) u, L[i]? = some u → treeOK u = true → F t < F u
theorem Sought.zero (F : List Int → Nat) (L : List (List Int)) : Sought F L 0 (-1) 0 := .inl ⟨rfl, rfl, fun j hj => by cases hj⟩
theorem Sought.keep {F : List Int → Nat} {L : List (List Int)} {k : Nat} {b s : Int} {t : List Int} (h : Sought F L k b s) (ht : L[k]? = some t) (hn : ¬ ((b < 0 ∨ (F t : Int) < s) ∧ treeOK t = true)) : Sought F L (k + 1) b s := by
 rcases h with ⟨rfl, rfl, h⟩ | ⟨j, u, rfl, hj, hu, hok, rfl, h1, h2⟩
 ·have hf : treeOK t = false := by
   cases e : treeOK t
   ·rfl
   ·exact absurd ⟨.inl (by omega), e⟩ hn
  refine .inl ⟨rfl, rfl, fun i hi u hu => ?_⟩
  by_cases hik : i < k
  ·exact h i hik u hu
  ·obtain rfl : i = k := by omega
   rw [ht] at hu; injection hu with hu; rw [← hu]; exact hf
 ·refine .inr ⟨j, u, rfl, by omega, hu, hok, rfl, fun i hi v hv hvo => ?_, h2⟩
  by_cases hik : i < k
  ·exact h1 i hik v hv hvo
  ·obtain rfl : i = k := by omega
   rw [ht] at hv; injection hv with hv; subst hv
   by_cases hlt : (F t : Int) < (F u : Nat)
   ·exact absurd ⟨.inr hlt, hvo⟩ hn
   ·omega
theorem Sought.take {F : List Int → Nat} {L : List (List Int)} {k : Nat} {b s : Int} {t : List Int} (h : Sought F L k b s) (ht : L[k]? = some t) (hn : b < 0 ∨ (F t : Int) < s) (hok : treeOK t = true) : Sought F L (k + 1) (k : Nat) (F t : Nat) := by
 refine .inr ⟨k, t, rfl, by omega, ht, hok, rfl, ?_, ?_⟩ <;>
 rcases h with ⟨rfl, rfl, h⟩ | ⟨j, u, rfl, hj, hu, huok, rfl, h1, h2⟩
 ·intro i hi u hu huo
  by_cases hik : i < k
  ·rw [h i hik u hu] at huo; cases huo
  ·obtain rfl : i = k := by omega
   rw [ht] at hu; injection hu with hu; rw [hu]; exact Nat.le_refl _
 ·intro i hi v hv hvo
  by_cases hik : i < k
  ·have := h1 i hik v hv hvo; omega
  ·obtain rfl : i = k := by omega
   rw [ht] at hv; injection hv with hv; rw [hv]; exact Nat.le_refl _
 ·intro i hi u hu huo
  rw [h i hi u hu] at huo; cases huo
 ·intro i hi v hv hvo
  have := h1 i hi v hv hvo; omega
theorem Sought.best {n : Nat} {F : Int → Int → Int} {G : List Int → Nat} (hG : ∀ t ∈ AL n n, treeS F t = (G t : Nat)) {t : List Int} {c : Int} (h : bestI Prod.snd (treesOf n F (allLs n (n + 1))) = some (t, c)) {b s : Int} (hs : Sought G (AL n n) (AL n n).length b s) :
  ∃ j : Nat, b = j ∧ j < (AL n n).length ∧ (AL n n)[j]? = some t ∧ s = c := by
 obtain ⟨h1, h2, h3, h4, h5⟩ := tree_best F h
 have hin := AL_has h1 h2 h3
 obtain ⟨m, hm, hmt⟩ := List.getElem_of_mem hin
 have hm2 : (AL n n)[m]? = some t := by rw [List.getElem?_eq_getElem hm, hmt]
 rcases hs with ⟨_, _, hs⟩ | ⟨j, u, rfl, hj, hu, hok, rfl, g1, g2⟩
 ·rw [hs m hm t hm2] at h3; cases h3
 ·have huin := List.mem_of_getElem? hu
  obtain ⟨u1, u2⟩ := AL_ok huin
  obtain ⟨k1, k2⟩ := h5 u u1 u2 hok
  have e1 := hG _ hin; have e2 := hG _ huin
  have k3 := g1 m hm t hm2 h3
  have e : G t = G u := by omega
  have hjm : ¬ m < j := fun hlt => by have := g2 m hlt t hm2 h3; omega
  refine ⟨j, rfl, hj, ?_, by omega⟩
  by_cases hjm2 : j = m
  ·rw [hjm2]; exact hm2
  ·exfalso
   have hlt : j < m := by omega
   have hpw := List.pairwise_iff_getElem.1 (AL_pw n n) j m hj hm hlt
   rw [List.getElem?_eq_getElem hj] at hu
   injection hu with hu
   rw [hu, hmt] at hpw
   rw [k2 (by omega)] at hpw
   cases hpw
end
section
open Go.RowKit Go.Lib Go.Maps
def TK (cs : List VC) (ts : List RI) (n L i : Nat) : List Int := (frs n).map fun f => ((cpF cs ts i f L : Nat) : Int)
def TKS (cs : List VC) (ts : List RI) (n L k : Nat) : List (List Int) := (List.range k).map (TK cs ts n L)
theorem TKS_succ {cs : List VC} {ts : List RI} {n L k : Nat} : TKS cs ts n L (k + 1) = TKS cs ts n L k ++ [TK cs ts n L k] := by unfold TKS; rw [List.range_succ, List.map_append]; rfl
theorem TKS_get {cs : List VC} {ts : List RI} {n L k i : Nat} (h : i < k) : (TKS cs ts n L k)[i]? = some (TK cs ts n L i) := by unfold TKS; rw [List.getElem?_map, List.getElem?_range h]; rfl
theorem TK_get {cs : List VC} {ts : List RI} {n L i q : Nat} (h : q < n + 1) : (TK cs ts n L i)[q]? = some ((cpF cs ts i ((q : Int) - 1) L : Nat) : Int) := by unfold TK; rw [List.getElem?_map, frs_get n q h]; rfl
theorem LRows.at {w : World} {B : Nat} {rs : List RI} {L : List (List Int)} (h : LRows w B rs L) {i : Nat} {l : List Int} (hl : L[i]? = some l) : ∃ r, rs[i]? = some r ∧ r.ws = l ∧ w.ownsRow B 3 1 r.val r.n (l.map (Value.int .i64)) := by
 have h1 := h.1
 rw [← h1, List.getElem?_map] at hl
 cases hr : rs[i]? with
 | none => rw [hr] at hl; cases hl
 | some r =>
  rw [hr] at hl
  have e : r.ws = l := by simpa using hl
  exact ⟨r, rfl, e, by rw [← e]; exact h.2 r (List.mem_of_getElem? hr)⟩
theorem LRows.cells {w : World} {B base : Nat} {rs : List RI} {L : List (List Int)} {A : Option Addr} {n cap : Nat} (ho : w.ownsRow base 25 1 (.slice A n cap) n (rs.map RI.val)) (h : LRows w B rs L) {k : Nat} {u : List Int} (hu : L[k]? = some u) : ∃ b off xa xc, A = some ⟨b, off, none⟩ ∧ b < w.heap.size ∧ w.cell? ⟨b, off + k, none⟩ = some (.slice xa u.length xc) ∧ IA w xa u.length xc u := by
 obtain ⟨r, hr, hrw, hro⟩ := h.at hu
 have hn : rs.length = n := by have := ho.1; simpa using this
 have hk : k < rs.length := by
  by_cases hk : k < rs.length
  ·exact hk
  ·rw [List.getElem?_eq_none (by omega)] at hr; cases hr
 obtain ⟨b, off, hz, e, hb, hc⟩ := (Rd.of_own ho).atm (show k < n by omega)
 have hxr : rs[k] = r := by rw [List.getElem?_eq_getElem hk] at hr; injection hr
 rw [hxr] at hc
 obtain ⟨xa, xn, xc, xw⟩ := r
 unfold RI.val at hc hro
 simp only at hc hro
 have hxl : u.length = xn := by simpa using hro.1
 subst hxl
 exact ⟨b, off, xa, xc, e, hb, hc, own_le0 hro, own_cap hro, Rd.of_own hro⟩
theorem refBest_any {wn : Nat} {A : Option Addr} {n : Nat} (cap tc : Nat) {cs : List VC} {tA : Option Addr} {tn : Nat} {ts : List RI} {w : World} (h : BkG wn A n cs w w.heap.size) (hk : bookB (wn : Int) cs = true) (ht : TxG cs tA tn ts w w.heap.size) (htn : tn = headN cs) (hl : ∀ r ∈ ts, lnB (wn : Int) r.ws = true) (t : List Int) (c : Int) (hbest : bestI Prod.snd (treesOf n (costV cs ts) (allLs n (n + 1))) = some (t, c)) :
  Calls Tryz.prog 65 #[.agg #[.int .i64 (wn : Int), .slice A n cap], .slice tA tn tc] w fun e w' => (∃ vA vc, e = .returned (.tuple #[.slice vA n vc, .int .i64 c]) ∧ IA w' vA n vc t) ∧ Below w.heap.size w w' := by
 have hcp := fun (f : Int) (p : Nat) (hf : f < n) (hp : p < n) (wx : World) (hx : Below w.heap.size w wx) => copied114_any cap tc f p (h.toW hx) (ht.toW hx) htn hf hp
 have hre := fun (wx : World) (A1 : Option Addr) (c1 : Nat) (u : List Int) (h1 : IA wx A1 n c1 u) => refTree_any (wn := wn) (A := A) (w := wx) cap A1 n c1 u h.2.1 h1
 have hn5 := h.2.1
 have hL4 := h.2.2.1
 have hC4 := fun k (hk : k < n) (f : Int) (hf : f < n) => cpF_le h ht.2.2.1 (fun r hr => (ht.2.2.2 r hr).2.1) hk hf (headN cs) (Nat.le_refl _)
 have hF1 : ∀ u k, trF cs ts u (k + 1) = trF cs ts u k + cpF cs ts k (u.getD k 0) (headN cs) := fun u k => rfl
 have hF0 : ∀ u, trF cs ts u 0 = 0 := fun u => rfl
 have hfin := fun (b s : Int) (hs : Sought (fun u => trF cs ts u n) (AL n n) (AL n n).length b s) => Sought.best (fun u hu => treeS_F h hk ht.2.2.1 hl (AL_ok hu).1 (AL_ok hu).2) hbest hs
 have hAL := fun i (hi : i ≤ n) => AL_le hn5.2 hi
 have hnx := fun i ii (hi : i ≤ n) => nxA_le (ii := ii) hn5.2 hi
 have hT1 : ∀ k, TKS cs ts n (headN cs) (k + 1) = TKS cs ts n (headN cs) k ++ [TK cs ts n (headN cs) k] := fun k => TKS_succ
 have hT2 : ∀ k i, i < k → (TKS cs ts n (headN cs) k)[i]? = some (TK cs ts n (headN cs) i) := fun k i h => TKS_get h
 have hT3 : ∀ i q, q < n + 1 → (TK cs ts n (headN cs) i)[q]? = some ((cpF cs ts i ((q : Int) - 1) (headN cs) : Nat) : Int) := fun i q h => TK_get h
 have hT4 : ∀ i, TK cs ts n (headN cs) i = (frs n).map fun f => ((cpF cs ts i f (headN cs) : Nat) : Int) := fun i => rfl
 have hT0 : TKS cs ts n (headN cs) 0 = [] := rfl
 generalize TKS cs ts n (headN cs) = TS at *
 generalize TK cs ts n (headN cs) = TR at *
 generalize trF cs ts = TF at *
 generalize cpF cs ts = CP at *
 generalize headN cs = LL at *
 have HCP := Lib.hid hcp; have HRE := Lib.hid hre; have HC4 := Lib.hid hC4; have HF1 := Lib.hid hF1; have HF0 := Lib.hid hF0; have HFIN := Lib.hid hfin; have HAL := Lib.hid hAL; have HNX := Lib.hid hnx; have HT1 := Lib.hid hT1; have HT2 := Lib.hid hT2; have HT3 := Lib.hid hT3; have HT4 := Lib.hid hT4; have HT0 := Lib.hid hT0
 clear hcp hre hC4 hF1 hF0 hfin hAL hnx hT1 hT2 hT3 hT4 hT0 hbest h ht hk htn hl
 have hX := Blk.new w 24 #[.int .i64 (wn : Int), .slice A n cap]
 have hB : Below w.heap.size w (w.alloc (.cells #[.int .i64 (wn : Int), .slice A n cap] 24)) := (Below.refl _ w).alloc (Nat.le_refl _) _
 have qX := fun i => hX.cell i
 go_enter Tryz.func65, Tryz.ntmps65
 go_wp2_with fail
 obtain ⟨i25, hi, hz0, hz1', hz2'⟩ := info_parts info25
 obtain ⟨i3, hj, hy0, hy1', hy2'⟩ := info_parts info3
 have hX2 := hX.alloc (.cells #[.slice none 0 0] 25)
 have hB2 := hB.alloc (by rw [World.size_alloc]; omega) (.cells #[.slice none 0 0] 25)
 have hO := ownL1 (w.alloc (.cells #[.int .i64 (wn : Int), .slice A n cap] 24)) w.heap.size 25 (.slice none 0 0) (by rw [World.size_alloc]; omega)
 simp only [World.size_alloc] at hO
 clear hX hB qX
 have qX := fun i => hX2.cell i
 go_wp2_with fail
 go_loopg [6, 7] n (fun g v f wr => ∃ (i : Nat) (v0 : Value) (rs : List RI), g = n - i ∧ i ≤ n ∧ v = v0 ∧ f = .int .i64 i ∧ wr.ownsRow w.heap.size 25 1 v0 (AL n i).length (rs.map RI.val) ∧ Hid (LRows wr w.heap.size rs (AL n i)) ∧ Below w.heap.size w wr ∧ Blk wr w.heap.size 24 #[.int .i64 (wn : Int), .slice A n cap])
 case atStart => exact ⟨0, _, [⟨none, 0, 0, []⟩], rfl, Nat.zero_le _, rfl, rfl, hO, Lib.hid ⟨rfl, fun r hr => by obtain rfl := List.mem_singleton.1 hr; exact World.ownsRow_nil _ _ _ _⟩, hB2, hX2⟩
 case round =>
  clear hX2 hB2 hO qX
  obtain ⟨i, v0, rs, hg, hin, rfl, rfl, hown, hrows, hB, hX⟩ := hrel
  rename World => wr0
  obtain ⟨va, vc, rfl⟩ := own_slice hown
  have HG := Lib.hid hg; clear hg
  have qX := fun i => hX.cell i
  by_cases hlt : i < n
  ·have hlti : (i : Int) < n := by omega
   obtain ⟨T, hT⟩ : ∃ T, T = (AL n i).length := ⟨_, rfl⟩
   have hTb : T ≤ 7776 := by rw [hT]; exact HAL.out i hin
   have hnxb : ∀ ii, (nxA n i (AL n i) ii).length ≤ 46656 := fun ii => HNX.out i ii hin
   have hfull : nxA n i (AL n i) T = AL n (i + 1) := by rw [hT]; exact nxA_full
   have hALm : ∀ l ∈ AL n i, l.length = i := fun l hl => (AL_mem.1 hl).1
   have hrd := Rd.of_own hown
   rw [← hT] at hrd hown ⊢
   generalize AL n i = L at *
   have hrn : rs.length = T := by rw [hT]; exact hrows.out.len.symm
   have HT := Lib.hid hT; have HNXB := Lib.hid hnxb; have HFULL := Lib.hid hfull; have HRD := Lib.hid hrd; have HRN := Lib.hid hrn; have HALM := Lib.hid hALm
   clear hALm hT hnxb hfull hrd hrn
   go_wp2_with fail
   go_loopg [8, 9] T (fun g v f wr => ∃ (ii : Nat) (v0 : Value) (rs : List RI), g = T - ii ∧ ii ≤ T ∧ v = v0 ∧ f = .int .i64 ii ∧ wr.ownsRow wr0.heap.size 25 1 v0 (nxA n i L ii).length (rs.map RI.val) ∧ Hid (LRows wr wr0.heap.size rs (nxA n i L ii)) ∧ Below wr0.heap.size wr0 wr)
   case atStart => exact ⟨0, _, [], rfl, Nat.zero_le _, rfl, rfl, World.ownsRow_nil _ _ _ _, Lib.hid ⟨rfl, fun r hr => by cases hr⟩, Below.refl _ _⟩
   case round =>
    obtain ⟨ii, v0, rs2, hg, hii, rfl, rfl, hown2, hrows2, hb0⟩ := hrel
    rename World => wr1
    obtain ⟨N1, hN1⟩ : ∃ N1, N1 = nxA n i L ii := ⟨_, rfl⟩
    have hNl1 : N1.length ≤ 46656 := by rw [hN1]; exact HNXB.out ii
    rw [← hN1] at hown2 hrows2
    have HN1 := Lib.hid hN1.symm; clear hN1
    obtain ⟨oa, oc, rfl⟩ := own_slice hown2
    have HG2 := Lib.hid hg; clear hg qX
    have qX := fun i => (hX.below hb0 hX.lt).cell i
    by_cases hlt2 : ii < T
    ·have hlti2 : (ii : Int) < T := by omega
     have hiiL : ii < L.length := by rw [← HT.out]; exact hlt2
     have hLt := List.getElem?_eq_getElem hiiL
     obtain ⟨l, hll⟩ : ∃ l, l = L[ii] := ⟨_, rfl⟩
     rw [← hll] at hLt
     obtain ⟨b, off, hz, e0, hb, hc0⟩ := HRD.out.atm hlt2
     cases e0
     obtain ⟨r, hr, hrw, hro⟩ := hrows.out.at hLt
     have hzr : ii < rs.length := by rw [HRN.out]; exact hlt2
     have hxr : rs[ii] = r := by rw [List.getElem?_eq_getElem hzr] at hr; injection hr
     rw [hxr] at hc0
     obtain ⟨xa, xn, xc, xw⟩ := r
     unfold RI.val at hc0 hro
     simp only at hc0 hrw hro
     subst hrw
     have hxl : xw.length = xn := by simpa using hro.1
     have hro2 := Rd.of_own hro
     have hl5 : xw.length ≤ 5 := by have := HALM.out _ (List.mem_of_getElem? hLt); omega
     have HN2 := Lib.hid (nxA_succ (n := n) (i := i) hLt)
     have HRO := Lib.hid hro2
     subst hxl
     clear hro hro2 hr hxr hz hzr hll hLt hiiL
     go_wp2_with fail
     go_loopg [8, 10] (n + 1) (fun g v f wr => ∃ (q : Nat) (x : Int) (v0 : Value) (rs : List RI), g = n + 1 - q ∧ q ≤ n + 1 ∧ v = v0 ∧ f = .int .i64 x ∧ x = (q : Int) - 1 ∧ wr.ownsRow wr0.heap.size 25 1 v0 (nxA n i L ii ++ nxB n i xw q).length (rs.map RI.val) ∧ Hid (LRows wr wr0.heap.size rs (nxA n i L ii ++ nxB n i xw q)) ∧ Below wr0.heap.size wr0 wr)
     case atStart => exact ⟨0, _, _, rs2, rfl, Nat.zero_le _, rfl, rfl, by omega, by rw [nxB_zero, List.append_nil, HN1.out]; exact hown2, by rw [nxB_zero, List.append_nil, HN1.out]; exact hrows2, hb0⟩
     case round =>
      clear hown2 hrows2 hb0 qX
      obtain ⟨q, x, v0, rs2, hg, hq, rfl, rfl, hx, hown2, hrows2, hb0⟩ := hrel
      rename World => wr
      obtain ⟨N0, hN0⟩ : ∃ N0, N0 = nxA n i L ii ++ nxB n i xw q := ⟨_, rfl⟩
      have hNl : N0.length ≤ 46662 := by
       have h1 := HNXB.out ii; have h2 := nxB_le n i xw q
       rw [hN0, List.length_append]; omega
      rw [← hN0] at hown2 hrows2
      have HN0 := Lib.hid hN0.symm; clear hN0
      obtain ⟨oa, oc, rfl⟩ := own_slice hown2
      have HG3 := Lib.hid hg; clear hg
      have qX := fun i => (hX.below hb0 hX.lt).cell i
      have hxlo : -1 ≤ x := by omega
      have hxhi : x ≤ 5 := by omega
      by_cases hlt3 : q < n + 1
      ·have hlti3 : x < (n : Int) := by omega
       by_cases hxi : x = (i : Int)
       ·have hbx : (x != (i : Int)) = false := by simp [hxi]
        have hS : nxA n i L ii ++ nxB n i xw (q + 1) = N0 := by rw [nxB_eq hlt3 (show (q : Int) - 1 = i by omega), HN0.out]
        have HS := Lib.hid hS; have HXX := Lib.hid hx; clear hS hxi hx
        go_wp2_with fail
        go_roundg (n + 1 - (q + 1))
        case measure => rw [HG3.out]; omega
        case rel => exact ⟨q + 1, x + 1, _, rs2, rfl, by omega, rfl, by go_num, by have := HXX.out; omega, by rw [HS.out]; exact hown2, by rw [HS.out]; exact hrows2, hb0⟩
       ·have hbx : (x != (i : Int)) = true := by simp [hxi]
        have hS : nxA n i L ii ++ nxB n i xw (q + 1) = N0 ++ [xw ++ [x]] := by rw [nxB_ne hlt3 (show (q : Int) - 1 ≠ i by omega), ← List.append_assoc, HN0.out, ← hx]
        have HS := Lib.hid hS; have HXX := Lib.hid hx; clear hS hxi hx
        have hc1 := (hb0.cell (p := ⟨b, off + ii, none⟩) hb).trans hc0
        have hxm := rdB HRO.out hb0
        have HOWN := Lib.hid hown2; clear hown2
        have hBs := hb0.size
        go_wp2_with (first
          | (at_builtin; refine wpList_append_any _ rfl _ _ 25 rfl wr.heap.size 3 i3 (.int .i64 0) 1 8 Tryz.underlying25 hj hy0 hy1' hy2' rfl (by decide) (.slice none 0 0) 0 [] rfl (World.ownsRow_nil _ _ _ _) wr.heap.size xa xw.length xc (xw.map (Value.int .i64)) rfl hxm.reads (by simp [Value.oneCell']) (by unfold maxLen; omega) (by omega) (Nat.le_refl _) (fun v1 w1 hown1 hg1 hob1 => ?_); rw [Nat.zero_add, List.nil_append] at hown1; have hb1 : Below wr.heap.size wr w1 := (Below.refl _ wr).grown hg1 (Nat.le_refl _) (fun g hg => by cases hg); obtain ⟨ya, yc, rfl⟩ := own_slice hown1; clear hg1 hob1)
          | (at_builtin; refine wpList_append_any _ rfl _ _ 25 rfl wr.heap.size 3 i3 (.int .i64 0) 1 8 Tryz.underlying25 hj hy0 hy1' hy2' rfl (by decide) (.slice ya xw.length yc) xw.length (xw.map (Value.int .i64)) rfl (hown1.alloc (.cells #[.int .i64 x] 3)) (w1.heap.size + 1) (some ⟨w1.heap.size, 0, none⟩) 1 1 [.int .i64 x] rfl (Rd.blkN (Blk.new w1 3 #[.int .i64 x]) rfl (by omega)).reads (by simp [Value.oneCell']) (by unfold maxLen; omega) (by omega) (by have := hb1.size; simp only [World.size_alloc]; omega) (fun v2 w2 hown2 hg2 hob2 => ?_); have hb2 : Below wr.heap.size wr w2 := (hb1.alloc hb1.size (.cells #[.int .i64 x] 3)).grown hg2 (by have := hb1.size; simp only [World.size_alloc]; omega) (fun g hg => ((hown1.alloc (.cells #[.int .i64 x] 3)).lt g hg).1); obtain ⟨za, zc, rfl⟩ := own_slice hown2; clear hg2 hob2)
          | (at_builtin; refine wpList_append_any _ rfl _ _ 46 rfl wr0.heap.size 25 i25 (.slice none 0 0) 1 24 Tryz.underlying46 hi hz0 hz1' hz2' rfl (by decide) (.slice oa N0.length oc) N0.length (rs2.map RI.val) rfl ((ownsRow_below' HOWN.out hb2).alloc (.cells #[.slice za (xw.length + 1) zc] 25)) (w2.heap.size + 1) (some ⟨w2.heap.size, 0, none⟩) 1 1 [.slice za (xw.length + 1) zc] rfl (Rd.blkN (Blk.new w2 25 #[.slice za (xw.length + 1) zc]) rfl (by omega)).reads (by simp [Value.oneCell']) (by unfold maxLen; omega) (by omega) (by have := hb2.size; simp only [World.size_alloc]; omega) (fun v3 w3 hown3 hg3 hob3 => ?_)))
        have hoA := (ownsRow_below' HOWN.out hb2).alloc (.cells #[.slice za (xw.length + 1) zc] 25)
        have hB2 := ((hb0.trans (hb2.mono hBs)).alloc (by have := hb2.size; omega) (.cells #[.slice za (xw.length + 1) zc] 25)).grown hg3 (by have := hb2.size; simp only [World.size_alloc]; omega) (fun g hg => (hoA.lt g hg).1)
        have hrow2 : LRows w3 wr0.heap.size (rs2 ++ [⟨za, xw.length + 1, zc, xw ++ [x]⟩]) (N0 ++ [xw ++ [x]]) := by
         refine ⟨by rw [List.map_append, hrows2.out.1]; rfl, fun r hr => ?_⟩
         rcases List.mem_append.1 hr with h | h
         ·have h1' := (ownsRow_below' (hrows2.out.2 r h) hb2).alloc (.cells #[.slice za (xw.length + 1) zc] 25)
          exact h1'.kept hg3 (own_ne h1' hoA (by decide))
         ·obtain rfl := List.mem_singleton.1 h
          have h1' := (own_mono hown2 hBs).alloc (.cells #[.slice za (xw.length + 1) zc] 25)
          have h2' := h1'.kept hg3 (own_ne h1' hoA (by decide))
          show w3.ownsRow wr0.heap.size 3 1 (.slice za (xw.length + 1) zc) (xw.length + 1) ((xw ++ [x]).map (Value.int .i64))
          rw [List.map_append]; exact h2'
        go_roundg (n + 1 - (q + 1))
        case measure => rw [HG3.out]; omega
        case rel => exact ⟨q + 1, x + 1, v3, rs2 ++ [⟨za, xw.length + 1, zc, xw ++ [x]⟩], rfl, by omega, rfl, by go_num, by have := HXX.out; omega, by rw [HS.out, List.length_append, List.map_append]; exact hown3, by rw [HS.out]; exact Lib.hid hrow2, hB2⟩
      ·have hge3 : ¬ x < (n : Int) := by omega
       obtain rfl : q = n + 1 := by omega
       clear hx
       have hS : nxA n i L (ii + 1) = N0 := by rw [HN2.out, ← HN0.out, nxB_full]
       have HS := Lib.hid hS; clear hS
       go_wp2_with fail
       go_roundg (T - (ii + 1))
       case measure => rw [HG2.out]; omega
       case rel => exact ⟨ii + 1, _, rs2, rfl, by omega, rfl, by go_num, by rw [HS.out]; exact hown2, by rw [HS.out]; exact hrows2, hb0⟩
    ·have hge2 : ¬ (ii : Int) < T := by omega
     obtain rfl : ii = T := by omega
     have hS : AL n (i + 1) = N1 := by rw [← HFULL.out, HN1.out]
     have HS := Lib.hid hS; clear hS
     go_wp2_with fail
     go_roundg (n - (i + 1))
     case measure => rw [HG.out]; omega
     case rel => exact ⟨i + 1, _, rs2, rfl, by omega, rfl, by go_num, by rw [HS.out]; exact own_mono hown2 hB.size, by rw [HS.out]; exact Lib.hid (hrows2.out.mono hB.size), hB.trans (hb0.mono hB.size), hX.below hb0 hX.lt⟩
  ·have hge : ¬ (i : Int) < n := by omega
   have hin2 : i = n := by omega
   obtain ⟨LA, hLA⟩ : ∃ LA, LA = AL n i := ⟨_, rfl⟩
   have hK : LA.length ≤ 7776 := by rw [hLA]; exact HAL.out i hin
   rw [← hLA] at hown hrows ⊢
   have HLA := Lib.hid (show LA = AL n n by rw [hLA, hin2])
   have hrn : rs.length = LA.length := hrows.out.len.symm
   have HRN := Lib.hid hrn; have HRD := Lib.hid (Rd.of_own hown); have HOW := Lib.hid hown
   clear hLA hin2 hrn hown
   go_wp2_with fail
   go_loopg [11, 12] n (fun g v f wr => ∃ (i : Nat) (v0 : Value) (rs : List RI), g = n - i ∧ i ≤ n ∧ v = v0 ∧ f = .int .i64 i ∧ wr.ownsRow wr0.heap.size 25 1 v0 i (rs.map RI.val) ∧ Hid (LRows wr wr0.heap.size rs (TS i)) ∧ Below wr0.heap.size wr0 wr)
   case atStart => exact ⟨0, _, [], rfl, Nat.zero_le _, rfl, rfl, World.ownsRow_nil _ _ _ _, Lib.hid ⟨by rw [HT0.out]; rfl, fun r hr => by cases hr⟩, Below.refl _ _⟩
   case round =>
    clear hge hlt HG hin
    rename Nat => i0
    obtain ⟨i, v0, rs2, hg, hin, rfl, rfl, hown, hrows2, hb0⟩ := hrel
    rename World => wr1
    obtain ⟨ta, tc2, rfl⟩ := own_slice hown
    have HG := Lib.hid hg; clear hg qX
    have hX1 := hX.below hb0 hX.lt
    have qX := fun i => hX1.cell i
    by_cases hlt : i < n
    ·have hlti : (i : Int) < n := by omega
     go_wp2_with fail
     go_loopg [13, 14] (n + 1) (fun g v f wr => ∃ (q : Nat) (x : Int) (v0 : Value), g = n + 1 - q ∧ q ≤ n + 1 ∧ v = v0 ∧ f = .int .i64 x ∧ x = (q : Int) - 1 ∧ wr.ownsRow wr1.heap.size 3 1 v0 q (((frs n).take q).map fun f => .int .i64 (CP i f LL : Nat)) ∧ Below wr1.heap.size wr1 wr)
     case atStart => exact ⟨0, _, _, rfl, Nat.zero_le _, rfl, rfl, by omega, World.ownsRow_nil _ _ _ _, Below.refl _ _⟩
     case round =>
      clear qX
      obtain ⟨q, x, v0, hg, hq, rfl, rfl, hx, hown3, hb1⟩ := hrel
      rename World => wr
      obtain ⟨oa, oc, rfl⟩ := own_slice hown3
      have HG3 := Lib.hid hg; clear hg
      have qX := fun i => (hX1.below hb1 hX1.lt).cell i
      have hxlo : -1 ≤ x := by omega
      have hxhi : x ≤ 5 := by omega
      have hBs := hb1.size
      by_cases hlt3 : q < n + 1
      ·have hlti3 : x < (n : Int) := by omega
       have hc := HCP.out x i hlti3 hlt wr (hB.trans ((hb0.trans (hb1.mono hb0.size)).mono hB.size))
       have hc4 := HC4.out i hlt x hlti3
       have hS : ((frs n).take (q + 1)).map (fun f => Value.int .i64 (CP i f LL : Nat)) = ((frs n).take q).map (fun f => Value.int .i64 (CP i f LL : Nat)) ++ [.int .i64 (CP i x LL : Nat)] := by rw [frs_take n q hlt3, List.map_append, hx]; rfl
       generalize ((frs n).take q).map (fun f => Value.int .i64 (CP i f LL : Nat)) = xs at *
       generalize CP i x LL = C at *
       have HS := Lib.hid hS; have HXX := Lib.hid hx; have HC := Lib.hid hc; have HOWN := Lib.hid hown3; clear hS hx hc hown3
       go_wp2_with fail
       refine (HC.out).mono ?_; rintro e wc ⟨rfl, hb2⟩
       clear qX
       have hb2s := hb2.size
       go_wp2_with (at_builtin; refine wpList_append_any _ rfl _ _ 25 rfl wr1.heap.size 3 i3 (.int .i64 0) 1 8 Tryz.underlying25 hj hy0 hy1' hy2' rfl (by decide) (.slice oa q oc) q xs rfl ((ownsRow_below' HOWN.out hb2).alloc (.cells #[.int .i64 (C : Int)] 3)) (wc.heap.size + 1) (some ⟨wc.heap.size, 0, none⟩) 1 1 [.int .i64 (C : Int)] rfl (Rd.blkN (Blk.new wc 3 #[.int .i64 (C : Int)]) rfl (by omega)).reads (by simp [Value.oneCell']) (by unfold maxLen; omega) (by omega) (by simp only [World.size_alloc]; omega) (fun v3 w3 hown3 hg3 hob3 => ?_))
       have hB2 := ((hb1.trans (hb2.mono hBs)).alloc (by omega) (.cells #[.int .i64 (C : Int)] 3)).grown hg3 (by simp only [World.size_alloc]; omega) (fun g hg => (((ownsRow_below' HOWN.out hb2).alloc (.cells #[.int .i64 (C : Int)] 3)).lt g hg).1)
       go_roundg (n + 1 - (q + 1))
       case measure => rw [HG3.out]; omega
       case rel => exact ⟨q + 1, x + 1, v3, rfl, by omega, rfl, by go_num, by have := HXX.out; omega, by rw [HS.out]; exact hown3, hB2⟩
      ·have hge3 : ¬ x < (n : Int) := by omega
       have hqn : q = n + 1 := by omega
       have hS : ((frs n).take q).map (fun f => Value.int .i64 (CP i f LL : Nat)) = (TR i).map (Value.int .i64) := by
        rw [hqn, List.take_of_length_le (by rw [frs_len]; exact Nat.le_refl _), HT4.out i, List.map_map]; rfl
       rw [hS] at hown3
       have HOWN3 := Lib.hid hown3; have HOWN := Lib.hid hown
       clear hx hown3 hown hS hqn
       go_wp2_with (at_builtin; refine wpList_append_any _ rfl _ _ 46 rfl wr0.heap.size 25 i25 (.slice none 0 0) 1 24 Tryz.underlying46 hi hz0 hz1' hz2' rfl (by decide) (.slice ta i tc2) i (rs2.map RI.val) rfl ((ownsRow_below' HOWN.out hb1).alloc (.cells #[.slice oa q oc] 25)) (wr.heap.size + 1) (some ⟨wr.heap.size, 0, none⟩) 1 1 [.slice oa q oc] rfl (Rd.blkN (Blk.new wr 25 #[.slice oa q oc]) rfl (by omega)).reads (by simp [Value.oneCell']) (by unfold maxLen; omega) (by omega) (by have := hb0.size; simp only [World.size_alloc]; omega) (fun v3 w3 hown3 hg3 hob3 => ?_))
       have hoA := (ownsRow_below' HOWN.out hb1).alloc (.cells #[.slice oa q oc] 25)
       have hb0s := hb0.size
       have hB2 := ((hb0.trans (hb1.mono hb0s)).alloc (by omega) (.cells #[.slice oa q oc] 25)).grown hg3 (by simp only [World.size_alloc]; omega) (fun g hg => (hoA.lt g hg).1)
       have hrow2 : LRows w3 wr0.heap.size (rs2 ++ [⟨oa, q, oc, TR i⟩]) (TS (i + 1)) := by
        rw [HT1.out]
        refine ⟨by rw [List.map_append, hrows2.out.1]; rfl, fun r hr => ?_⟩
        rcases List.mem_append.1 hr with h | h
        ·have h1' := (ownsRow_below' (hrows2.out.2 r h) hb1).alloc (.cells #[.slice oa q oc] 25)
         exact h1'.kept hg3 (own_ne h1' hoA (by decide))
        ·obtain rfl := List.mem_singleton.1 h
         have h1' := (own_mono HOWN3.out hb0s).alloc (.cells #[.slice oa q oc] 25)
         exact h1'.kept hg3 (own_ne h1' hoA (by decide))
       go_roundg (n - (i + 1))
       case measure => rw [HG.out]; omega
       case rel => exact ⟨i + 1, v3, rs2 ++ [⟨oa, q, oc, TR i⟩], rfl, by omega, rfl, by go_num, by rw [List.map_append]; exact hown3, Lib.hid hrow2, hB2⟩
    ·have hge : ¬ (i : Int) < n := by omega
     have hin2 : i = n := by omega
     have htc := fun p (hp : p < n) => LRows.cells hown hrows2.out (HT2.out i p (by omega))
     have hac := fun k u (hu : LA[k]? = some u) => LRows.cells HOW.out hrows.out hu
     have HTC := Lib.hid htc; have HAC := Lib.hid hac; have HOWT := Lib.hid hown; have hb0s := hb0.size
     have hB1 := hB.trans (hb0.mono hB.size)
     have hni : (n : Int) ≤ i := by omega
     clear htc hac hown hin2
     go_wp2_with fail
     go_loopg [15, 16, 17] LA.length (fun g v1 v2 v3 wr => ∃ (k : Nat) (b s : Int), g = LA.length - k ∧ k ≤ LA.length ∧ v1 = .int .i64 b ∧ v2 = .int .i64 s ∧ v3 = .int .i64 k ∧ Hid (Sought (fun u => TF u n) LA k b s) ∧ -1 ≤ b ∧ b ≤ 7776 ∧ 0 ≤ s ∧ s ≤ 80 ∧ Below wr1.heap.size wr1 wr)
     case atStart => exact ⟨0, -1, 0, rfl, Nat.zero_le _, rfl, rfl, rfl, Lib.hid (Sought.zero _ _), by omega, by omega, by omega, by omega, Below.refl _ _⟩
     case round =>
      clear qX
      clear HG hge hlt
      obtain ⟨k, b, s, hg, hk, rfl, rfl, rfl, HSO, hb01, hb02, hs1, hs2, hb1⟩ := hrel
      rename World => wr2
      have HG := Lib.hid hg; clear hg
      have hX2 := hX1.below hb1 hX1.lt
      have qX := fun i => hX2.cell i
      by_cases hlt : k < LA.length
      ·have hlti : (k : Int) < LA.length := by omega
       obtain ⟨u, hu⟩ : ∃ u, LA[k]? = some u := ⟨_, List.getElem?_eq_getElem hlt⟩
       have huA : u ∈ AL n n := by rw [← HLA.out]; exact List.mem_of_getElem? hu
       obtain ⟨hul, hub⟩ := AL_ok huA
       obtain ⟨b1, off1, xa, xc, e1, hl1, hc1, hxu⟩ := HAC.out k u hu
       rw [hul] at hc1 hxu
       have hcA := (hb1.cell (p := ⟨b1, off1 + k, none⟩) (Nat.lt_of_lt_of_le hl1 hb0s)).trans ((hb0.cell (p := ⟨b1, off1 + k, none⟩) hl1).trans hc1)
       have hxu1 := (hxu.toW hb0).toW hb1
       have hl2 : b1 < wr2.heap.size := Nat.lt_of_lt_of_le (Nat.lt_of_lt_of_le hl1 hb0s) hb1.size
       subst e1
       have HU := Lib.hid hu; have HUL := Lib.hid hul; have HUB := Lib.hid hub; have HXU := Lib.hid hxu1; have HUA := Lib.hid huA
       clear hu hul hub hxu hxu1 huA hc1
       have hb1s := hb1.size
       go_wp2_with fail
       go_loopg [18, 19] n (fun g v f wr => ∃ (p z : Nat), g = n - p ∧ p ≤ n ∧ v = .int .i64 z ∧ f = .int .i64 p ∧ Hid (z = TF u p) ∧ z ≤ 16 * p ∧ Below wr2.heap.size wr2 wr)
       case atStart => exact ⟨0, 0, rfl, Nat.zero_le _, rfl, rfl, Lib.hid (HF0.out u).symm, Nat.zero_le _, Below.refl _ _⟩
       case round =>
        clear qX
        obtain ⟨p, z, hg, hp, rfl, rfl, HZ, hz16, hb2⟩ := hrel
        rename World => wr
        have HG2 := Lib.hid hg; clear hg
        have hcA2 := (hb2.cell (p := ⟨b1, off1 + k, none⟩) hl2).trans hcA
        have hX3 := hX2.below hb2 hX2.lt
        have qX := fun i => hX3.cell i
        have hb2s := hb2.size
        have hq1 := fun (x : Blw wr.heap.size wr) => ((Blw.h x).cell (p := ⟨b1, off1 + k, none⟩) (Nat.lt_of_lt_of_le hl2 hb2s)).trans hcA2
        have hq4 := fun (x : Blw wr.heap.size wr) j => blw_blk hX3 x j
        have hlX := hX3.lt
        by_cases hlt2 : p < n
        ·have hlti2 : (p : Int) < n := by omega
         obtain ⟨bx, offx, hzx, rfl, hbx, hcx⟩ := (HXU.out.toW hb2).2.2.atm hlt2
         have hpu : p < u.length := by rw [HUL.out]; exact hlt2
         have hxb := HUB.out _ (List.getElem_mem hpu)
         have hF1 := HF1.out u p
         rw [← HZ.out, List.getD_eq_getElem?_getD, List.getElem?_eq_getElem hpu, Option.getD_some] at hF1
         generalize u[p] = x at *
         obtain ⟨q, rfl⟩ : ∃ q : Nat, x = (q : Int) - 1 := ⟨(x + 1).toNat, by omega⟩
         have hpi : (p : Int) < i := by omega
         have hqn : q < n + 1 := by omega
         have hqi : (q : Int) < (n : Int) + 1 := by omega
         have hC4 := HC4.out p hlt2 ((q : Int) - 1) (by omega)
         obtain ⟨bt, offt, ya, yc, e2, hl3, hct, hy⟩ := HTC.out p hlt2
         have hTg := HT3.out p q hqn
         have hyl : (TR p).length = n + 1 := by rw [HT4.out, List.length_map, frs_len]
         have hct2 := (hb2.cell (p := ⟨bt, offt + p, none⟩) (Nat.lt_of_lt_of_le hl3 hb1s)).trans ((hb1.cell (p := ⟨bt, offt + p, none⟩) hl3).trans hct)
         have hy2 := (hy.toW hb1).toW hb2
         rw [hyl] at hct2 hy2
         obtain ⟨by1, offy, hzy, rfl, hby, hcy⟩ := hy2.2.2.atm hqn
         have hqT : q < (TR p).length := by omega
         rw [List.getElem?_eq_getElem hqT] at hTg
         injection hTg with hTg
         rw [hTg] at hcy
         generalize CP p ((q : Int) - 1) LL = C at *
         have hl4 : bt < wr.heap.size := by omega
         have hq2 := fun (x : Blw wr.heap.size wr) => ((Blw.h x).cell (p := ⟨bx, offx + p, none⟩) hbx).trans hcx
         have hq3 := fun (x : Blw wr.heap.size wr) => ((Blw.h x).cell (p := ⟨bt, offt + p, none⟩) hl4).trans hct2
         have hq5 := fun (x : Blw wr.heap.size wr) => ((Blw.h x).cell (p := ⟨by1, offy + q, none⟩) hby).trans hcy
         subst e2
         have HF2 := Lib.hid hF1
         clear hF1 hTg hy hy2 hct hct2 hcy hcx hzx hzy hqT hyl hpu
         go_upto_region 33 with (fail)
         refine wp_region_blw (by kernel_rfl) (by kernel_rfl) ?_
         repeat (go_big_quiet_step (fail))
         refine wpQuiet_nil ?_
         rintro W3 ⟨⟨_, hb4⟩, rfl⟩
         clear hq1 hq2 hq3 hq4 hq5 hlX qX hcA2
         go_wp2_with fail
         go_roundg (n - (p + 1))
         case measure => rw [HG2.out]; omega
         case rel => exact ⟨p + 1, z + C, rfl, by omega, by go_num, by go_num, Lib.hid HF2.out.symm, by omega, hb2.trans (hb4.mono hb2s)⟩
        ·have hge : ¬ (p : Int) < n := by omega
         have hpn : p = n := by omega
         have hz := HZ.out
         rw [hpn] at hz
         clear HZ
         have HZ := Lib.hid hz
         have hru := fun (x : Blw wr.heap.size wr) => HRE.out x.toW xa xc u (HXU.out.toW (hb2.trans (x.h.mono hb2s)))
         rw [AL_tree HUA.out] at hru
         have hz80 : z ≤ 80 := by omega
         clear hz hpn
         replace hb2 := hb1.trans (hb2.mono hb1s)
         by_cases hbn : b < 0
         ·have HBN := Lib.hid hbn
          cases htk : treeOK u with
          | false =>
           rw [htk] at hru
           have HRU := Lib.hid hru; have HTK := Lib.hid htk; clear hru htk
           go_upto_region 34 with (fail)
           refine wp_region_blw (by kernel_rfl) (by kernel_rfl) ?_
           repeat (go_big_quiet_step (fail))
           go_big_quiet_step ((go_at_call 66; exact Calls.blw_of _ (HRU.out _)))
           repeat (go_big_quiet_step (fail))
           refine wpQuiet_nil ?_
           rintro W3 ⟨⟨_, hb4⟩, rfl⟩
           clear hq1 hq4 hlX qX HRU
           go_wp2_with fail
           go_roundg (LA.length - (k + 1))
           case measure => rw [HG.out]; omega
           case rel => exact ⟨k + 1, b, s, rfl, by omega, rfl, rfl, by go_num, Lib.hid (HSO.out.keep HU.out (fun h => by rw [HTK.out] at h; cases h.2)), by omega, by omega, by omega, by omega, hb2.trans (hb4.mono hb2.size)⟩
          | true =>
           rw [htk] at hru
           have HRU := Lib.hid hru; have HTK := Lib.hid htk; clear hru htk
           go_upto_region 34 with (fail)
           refine wp_region_blw (by kernel_rfl) (by kernel_rfl) ?_
           repeat (go_big_quiet_step (fail))
           go_big_quiet_step ((go_at_call 66; exact Calls.blw_of _ (HRU.out _)))
           repeat (go_big_quiet_step (fail))
           refine wpQuiet_nil ?_
           rintro W3 ⟨⟨_, hb4⟩, rfl⟩
           clear hq1 hq4 hlX qX HRU
           go_wp2_with fail
           go_roundg (LA.length - (k + 1))
           case measure => rw [HG.out]; omega
           case rel => exact ⟨k + 1, (k : Int), (z : Int), rfl, by omega, rfl, rfl, by go_num, Lib.hid (by rw [HZ.out]; exact HSO.out.take HU.out (by rw [← HZ.out]; exact .inl HBN.out) HTK.out), by omega, by omega, by omega, by omega, hb2.trans (hb4.mono hb2.size)⟩
         ·by_cases hzs : (z : Int) < s
          ·have HZS := Lib.hid hzs
           cases htk : treeOK u with
           | false =>
            rw [htk] at hru
            have HRU := Lib.hid hru; have HTK := Lib.hid htk; clear hru htk
            go_upto_region 34 with (fail)
            refine wp_region_blw (by kernel_rfl) (by kernel_rfl) ?_
            repeat (go_big_quiet_step (fail))
            go_big_quiet_step ((go_at_call 66; exact Calls.blw_of _ (HRU.out _)))
            repeat (go_big_quiet_step (fail))
            refine wpQuiet_nil ?_
            rintro W3 ⟨⟨_, hb4⟩, rfl⟩
            clear hq1 hq4 hlX qX HRU
            go_wp2_with fail
            go_roundg (LA.length - (k + 1))
            case measure => rw [HG.out]; omega
            case rel => exact ⟨k + 1, b, s, rfl, by omega, rfl, rfl, by go_num, Lib.hid (HSO.out.keep HU.out (fun h => by rw [HTK.out] at h; cases h.2)), by omega, by omega, by omega, by omega, hb2.trans (hb4.mono hb2.size)⟩
           | true =>
            rw [htk] at hru
            have HRU := Lib.hid hru; have HTK := Lib.hid htk; clear hru htk
            go_upto_region 34 with (fail)
            refine wp_region_blw (by kernel_rfl) (by kernel_rfl) ?_
            repeat (go_big_quiet_step (fail))
            go_big_quiet_step ((go_at_call 66; exact Calls.blw_of _ (HRU.out _)))
            repeat (go_big_quiet_step (fail))
            refine wpQuiet_nil ?_
            rintro W3 ⟨⟨_, hb4⟩, rfl⟩
            clear hq1 hq4 hlX qX HRU
            go_wp2_with fail
            go_roundg (LA.length - (k + 1))
            case measure => rw [HG.out]; omega
            case rel => exact ⟨k + 1, (k : Int), (z : Int), rfl, by omega, rfl, rfl, by go_num, Lib.hid (by rw [HZ.out]; exact HSO.out.take HU.out (by rw [← HZ.out]; exact .inr HZS.out) HTK.out), by omega, by omega, by omega, by omega, hb2.trans (hb4.mono hb2.size)⟩
          ·clear hru
           have HRU : Hid True := Lib.hid trivial
           go_upto_region 34 with (fail)
           refine wp_region_blw (by kernel_rfl) (by kernel_rfl) ?_
           repeat (go_big_quiet_step (fail))
           refine wpQuiet_nil ?_
           rintro W3 ⟨⟨_, hb4⟩, rfl⟩
           clear hq1 hq4 hlX qX HRU
           go_wp2_with fail
           go_roundg (LA.length - (k + 1))
           case measure => rw [HG.out]; omega
           case rel => exact ⟨k + 1, b, s, rfl, by omega, rfl, rfl, by go_num, Lib.hid (HSO.out.keep HU.out (fun h => by rw [← HZ.out] at h; omega)), by omega, by omega, by omega, by omega, hb2.trans (hb4.mono hb2.size)⟩
      ·have hge : ¬ (k : Int) < LA.length := by omega
       have hkK : k = LA.length := by omega
       have hso := HSO.out
       rw [hkK] at hso
       have hso2 := HFIN.out b s (by rw [← HLA.out]; exact hso)
       obtain ⟨j, rfl, hj, hjt, rfl⟩ := hso2
       rw [← HLA.out] at hj hjt
       have htA : t ∈ AL n n := by rw [← HLA.out]; exact List.mem_of_getElem? hjt
       have htl := (AL_ok htA).1
       obtain ⟨b1, off1, xa, xc, e1, hl1, hc1, hxu⟩ := HAC.out j t hjt
       rw [htl] at hc1 hxu
       have hcA := (hb1.cell (p := ⟨b1, off1 + j, none⟩) (Nat.lt_of_lt_of_le hl1 hb0s)).trans ((hb0.cell (p := ⟨b1, off1 + j, none⟩) hl1).trans hc1)
       have HXU := Lib.hid ((hxu.toW hb0).toW hb1)
       subst e1
       have hji : (j : Int) < LA.length := by omega
       have hBF := hB1.trans (hb1.mono hB1.size)
       clear hso hkK htA htl hjt hc1 hxu HSO
       go_wp2_with fail
       go_ret2
       first | exact ⟨⟨_, _, rfl, HXU.out⟩, hBF⟩ | exact ⟨⟨_, _, ⟨rfl, rfl⟩, HXU.out⟩, hBF⟩
end
section
open Go.RowKit Go.Lib Go.Maps
theorem sources_parts {n : Nat} {t : List Int} (h : sourcesB n t = true) : t.length = n ∧ ∀ x ∈ t, -1 ≤ x ∧ x < (n : Int) := by
 unfold sourcesB at h
 rw [Bool.and_eq_true, decide_eq_true_eq, List.all_eq_true] at h
 refine ⟨h.1, fun x hx => ?_⟩
 have := h.2 x hx
 simp only [Bool.or_eq_true, beq_iff_eq, inB, Bool.and_eq_true, decide_eq_true_eq] at this
 omega
theorem totals_law (W : Int) (A : Option Addr) (n cap : Nat) (cs : List VC) (tA : Option Addr) (tn tc : Nat) (ts : List RI) (A1 : Option Addr) (n1 c1 : Nat) (t : List Int) (m : Int) (w : World) (hE : Env m w) (h : BkI w A n cap cs) (ht : TXI w tA tn tc ts) (h1 : IA w A1 n1 c1 t) :
  Calls Tryz.prog 15 #[.agg #[.int .i64 W, .slice A n cap], .slice tA tn tc, .slice A1 n1 c1] w fun e w' => e = .returned (.bool true) ∧ Below w.heap.size w w' := by
 have hX := Blk.new w 24 #[.int .i64 W, .slice A n cap]
 have hB : Below w.heap.size w (w.alloc (.cells #[.int .i64 W, .slice A n cap] 24)) := (Below.refl _ w).alloc (Nat.le_refl _) _
 have qX := fun i => hX.cell i
 go_enter Tryz.func15, Tryz.ntmps15
 go_wp2_with fail
 refine (short_any W A n cap cs _ (h.toW hB)).mono ?_; rintro e wc ⟨⟨b, rfl⟩, hb⟩
 replace hB := hB.trans (hb.mono hB.size); replace hX := hX.below hb hX.lt; clear hb qX; have qX := fun i => hX.cell i
 cases b with
 | false =>
  go_wp2_with fail
  refine (known_true m _ (hE.below hB)).mono ?_; rintro e wc ⟨rfl, hb⟩
  replace hB := hB.trans (hb.mono hB.size); clear hb
  go_wp2_with fail
  go_ret
  exact ⟨rfl, hB⟩
 | true =>
  go_wp2_with fail
  refine (brief_any tA tn tc ts _ (ht.toW hB)).mono ?_; rintro e wc ⟨⟨b, rfl, hbr⟩, hb⟩
  replace hB := hB.trans (hb.mono hB.size); replace hX := hX.below hb hX.lt; clear hb qX; have qX := fun i => hX.cell i
  clear hbr
  cases b with
  | false =>
   go_wp2_with fail
   refine (known_true m _ (hE.below hB)).mono ?_; rintro e wc ⟨rfl, hb⟩
   replace hB := hB.trans (hb.mono hB.size); clear hb
   go_wp2_with fail
   go_ret
   exact ⟨rfl, hB⟩
  | true =>
   by_cases h7 : (7 : Int) < n1
   ·skip
    go_wp2_with fail
    refine (known_true m _ (hE.below hB)).mono ?_; rintro e wc ⟨rfl, hb⟩
    replace hB := hB.trans (hb.mono hB.size); clear hb
    go_wp2_with fail
    go_ret
    exact ⟨rfl, hB⟩
   ·have hrb := fun wx hx => refBook_any W A n cap cs wx (h.toW hx)
    cases hbk : bookB W cs with
    | false =>
     have hc1 := fun wx hx => Total_no1 W A n cap cs tA tn tc A1 n1 c1 wx h.max (h.toW hx).2.2.1 (h.toW hx).2.2.2 hbk
     have hc2 := fun wx hx => Tree_no1 W A n cap cs tA tn tc wx h.max (h.toW hx).2.2.1 (h.toW hx).2.2.2 hbk
     simp only [hbk] at hrb
     have HC1 := Lib.hid hc1; have HC2 := Lib.hid hc2; have HRB := Lib.hid hrb; clear hc1 hc2 hrb hbk h ht h1
     go_wp2_with fail
     refine (HC1.out _ hB).mono ?_; rintro e wc ⟨rfl, hb⟩
     replace hB := hB.trans (hb.mono hB.size); replace hX := hX.below hb hX.lt; clear hb qX; have qX := fun i => hX.cell i
     go_wp2_with fail
     refine (HC2.out _ hB).mono ?_; rintro e wc ⟨rfl, hb⟩
     replace hB := hB.trans (hb.mono hB.size); replace hX := hX.below hb hX.lt; clear hb qX; have qX := fun i => hX.cell i
     go_wp2_with fail
     refine (HRB.out _ hB).mono ?_; rintro e wc ⟨rfl, hb⟩
     replace hB := hB.trans (hb.mono hB.size); replace hX := hX.below hb hX.lt; clear hb qX; have qX := fun i => hX.cell i
     go_wp2_with fail
     refine (known_true m _ (hE.below hB)).mono ?_; rintro e wc ⟨rfl, hb⟩
     replace hB := hB.trans (hb.mono hB.size); clear hb
     go_wp2_with fail
     go_ret
     exact ⟨rfl, hB⟩
    | true =>
     obtain ⟨wn, rfl, hG⟩ := BkG.of_book hbk h.2.2.1 h.2.2.2
     have hn5 := hG.2.1
     simp only [hbk] at hrb
     have hrt := fun wx hx => refText_any (w := wx) cap tA tn tc ts (hG.toW hx) (ht.toW hx)
     cases hk : textB (wn : Int) (headN cs) ts with
     | false =>
      have hc1 := fun wx hx => Total_no2 (w := wx) cap tA tn tc A1 n1 c1 (hG.toW hx) hbk ts ht.max (ht.toW hx).2.2.1 (ht.toW hx).2.2.2 hk
      have hc2 := fun wx hx => Tree_no2 (w := wx) cap tA tn tc (hG.toW hx) hbk ts ht.max (ht.toW hx).2.2.1 (ht.toW hx).2.2.2 hk
      simp only [hk] at hrt
      have HC1 := Lib.hid hc1; have HC2 := Lib.hid hc2; have HRB := Lib.hid hrb; have HRT := Lib.hid hrt; clear hc1 hc2 hrb hrt hbk hk h ht h1 hG
      go_wp2_with fail
      refine (HC1.out _ hB).mono ?_; rintro e wc ⟨rfl, hb⟩
      replace hB := hB.trans (hb.mono hB.size); replace hX := hX.below hb hX.lt; clear hb qX; have qX := fun i => hX.cell i
      go_wp2_with fail
      refine (HC2.out _ hB).mono ?_; rintro e wc ⟨rfl, hb⟩
      replace hB := hB.trans (hb.mono hB.size); replace hX := hX.below hb hX.lt; clear hb qX; have qX := fun i => hX.cell i
      go_wp2_with fail
      refine (HRB.out _ hB).mono ?_; rintro e wc ⟨rfl, hb⟩
      replace hB := hB.trans (hb.mono hB.size); replace hX := hX.below hb hX.lt; clear hb qX; have qX := fun i => hX.cell i
      go_wp2_with fail
      refine (HRT.out _ hB).mono ?_; rintro e wc ⟨rfl, hb⟩
      replace hB := hB.trans (hb.mono hB.size); replace hX := hX.below hb hX.lt; clear hb qX; have qX := fun i => hX.cell i
      go_wp2_with fail
      refine (known_true m _ (hE.below hB)).mono ?_; rintro e wc ⟨rfl, hb⟩
      replace hB := hB.trans (hb.mono hB.size); clear hb
      go_wp2_with fail
      go_ret
      exact ⟨rfl, hB⟩
     | true =>
      simp only [hk] at hrt
      obtain ⟨hT, htn, hTl⟩ := TxG.of ht hG.1.2 hG.1.1 hk
      obtain ⟨t0, c0, hbest, _⟩ := Tree_I (cap := cap) (tc := tc) hG hbk hT hk
      have hc1 : ∀ (wx : World) (_ : Below w.heap.size w wx), Calls Tryz.prog 64 #[.agg #[.int .i64 (wn : Int), .slice A n cap], .slice tA tn tc] wx fun e w' => (∃ vA vc, e = .returned (.tuple #[.slice vA n vc, .int .i64 c0, .int .i64 0]) ∧ IA w' vA n vc t0) ∧ Below wx.heap.size wx w' := fun wx hx => by
       obtain ⟨t', c', hb', hc⟩ := Tree_I (cap := cap) (tc := tc) (hG.toW hx) hbk (hT.toW hx) hk
       rw [hbest] at hb'
       injection hb' with hb'
       injection hb' with e1 e2
       rw [← e1, ← e2] at hc
       exact hc
      have hcb := fun (wx : World) (hx : Below w.heap.size w wx) => refBest_any cap tc (hG.toW hx) hbk (hT.toW hx) htn hTl t0 c0 hbest
      have hre := fun (wx : World) (hx : Below w.heap.size w wx) => refTree_any (wn := wn) (A := A) (w := wx) cap A1 n1 c1 t hn5 (h1.toW hx)
      have hcc : (c0 != c0) = false := by simp
      have HRT := Lib.hid hrt; have HRB := Lib.hid hrb; have HC1 := Lib.hid hc1; have HCB := Lib.hid hcb; clear hrt hrb hc1 hcb
      cases hkt : refTreeB n t with
      | false =>
       have hto : ∀ (wx : World) (_ : Below w.heap.size w wx), Calls Tryz.prog 58 #[.agg #[.int .i64 (wn : Int), .slice A n cap], .slice tA tn tc, .slice A1 n1 c1] wx fun e w' => e = .returned (.tuple #[.int .i64 0, .int .i64 2]) ∧ Below wx.heap.size wx w' := fun wx hx => by
        cases hs : sourcesB n t
        ·exact Total_no3 cap tA tn tc A1 n1 c1 (hG.toW hx) hbk ts ht.max (ht.toW hx).2.2.1 (ht.toW hx).2.2.2 hk t h1.max (h1.toW hx).2.2 hs
        ·have htok : treeOK t = false := by unfold refTreeB at hkt; rw [hs, Bool.true_and] at hkt; exact hkt
         obtain ⟨g1, g2⟩ := sources_parts hs
         have h9 := Total_yes cap tc A1 n1 c1 t (hG.toW hx) hbk (hT.toW hx) hk h1.max (h1.toW hx).2.2 hs (by rw [← g1]; exact h1.len.symm) g2
         rw [htok] at h9
         exact h9
       simp only [hkt] at hre
       have HRE := Lib.hid hre; have HTO := Lib.hid hto; clear hre hto h ht h1 hG hT hTl hbest hk hbk hkt htn
       go_wp2_with fail
       refine (HTO.out _ hB).mono ?_; rintro e wc ⟨rfl, hb⟩
       replace hB := hB.trans (hb.mono hB.size); replace hX := hX.below hb hX.lt; clear hb qX; have qX := fun i => hX.cell i
       go_wp2_with fail
       refine (HC1.out _ hB).mono ?_; rintro e wc ⟨⟨vA, vc, rfl, hV⟩, hb⟩
       replace hB := hB.trans (hb.mono hB.size); replace hX := hX.below hb hX.lt; clear hb qX; have qX := fun i => hX.cell i
       go_wp2_with fail
       refine (HRB.out _ hB).mono ?_; rintro e wc ⟨rfl, hb⟩
       replace hB := hB.trans (hb.mono hB.size); replace hX := hX.below hb hX.lt; replace hV := hV.toW hb; clear hb qX; have qX := fun i => hX.cell i
       go_wp2_with fail
       refine (HRT.out _ hB).mono ?_; rintro e wc ⟨rfl, hb⟩
       replace hB := hB.trans (hb.mono hB.size); replace hX := hX.below hb hX.lt; replace hV := hV.toW hb; clear hb qX; have qX := fun i => hX.cell i
       go_wp2_with fail
       refine (HCB.out _ hB).mono ?_; rintro e wc ⟨⟨xA, xc, rfl, hV2⟩, hb⟩
       replace hB := hB.trans (hb.mono hB.size); replace hX := hX.below hb hX.lt; replace hV := hV.toW hb; clear hb qX; have qX := fun i => hX.cell i
       go_wp2_with fail
       refine (Same_I hV hV2 (by omega) (by omega)).mono ?_; rintro e wc ⟨rfl, hb⟩
       replace hB := hB.trans (hb.mono hB.size); replace hX := hX.below hb hX.lt; clear hV hV2; clear hb qX; have qX := fun i => hX.cell i
       go_wp2_with fail
       refine (HRE.out _ hB).mono ?_; rintro e wc ⟨rfl, hb⟩
       replace hB := hB.trans (hb.mono hB.size); replace hX := hX.below hb hX.lt; clear hb qX; have qX := fun i => hX.cell i
       go_wp2_with fail
       refine (known_true m _ (hE.below hB)).mono ?_; rintro e wc ⟨rfl, hb⟩
       replace hB := hB.trans (hb.mono hB.size); clear hb
       go_wp2_with fail
       go_ret
       exact ⟨rfl, hB⟩
      | true =>
       obtain ⟨p1, p2, p3, p4⟩ := refTree_parts hkt
       have hn1 : n1 = n := by have := h1.len; omega
       subst hn1
       have hto := fun (wx : World) (hx : Below w.heap.size w wx) => Total_yes cap tc A1 n1 c1 t (hG.toW hx) hbk (hT.toW hx) hk h1.max (h1.toW hx).2.2 p3 rfl p2
       rw [if_pos p4, if_pos p4, treeS_F hG hbk hT.2.2.1 hTl p1 p2] at hto
       have htt := fun (wx : World) (hx : Below w.heap.size w wx) => total67_any cap tc A1 n1 c1 t (hG.toW hx) (hT.toW hx) htn (h1.toW hx) p1 (fun x hx => (p2 x hx).2)
       generalize trF cs ts t n1 = Z at *
       have hzz : ((Z : Int) == (Z : Int)) = true := by simp
       simp only [hkt] at hre
       have HRE := Lib.hid hre; have HTO := Lib.hid hto; have HTT := Lib.hid htt; clear hre hto htt h ht h1 hG hT hTl hbest hk hbk hkt htn p1 p2 p3 p4
       go_wp2_with fail
       refine (HTO.out _ hB).mono ?_; rintro e wc ⟨rfl, hb⟩
       replace hB := hB.trans (hb.mono hB.size); replace hX := hX.below hb hX.lt; clear hb qX; have qX := fun i => hX.cell i
       go_wp2_with fail
       refine (HC1.out _ hB).mono ?_; rintro e wc ⟨⟨vA, vc, rfl, hV⟩, hb⟩
       replace hB := hB.trans (hb.mono hB.size); replace hX := hX.below hb hX.lt; clear hb qX; have qX := fun i => hX.cell i
       go_wp2_with fail
       refine (HRB.out _ hB).mono ?_; rintro e wc ⟨rfl, hb⟩
       replace hB := hB.trans (hb.mono hB.size); replace hX := hX.below hb hX.lt; replace hV := hV.toW hb; clear hb qX; have qX := fun i => hX.cell i
       go_wp2_with fail
       refine (HRT.out _ hB).mono ?_; rintro e wc ⟨rfl, hb⟩
       replace hB := hB.trans (hb.mono hB.size); replace hX := hX.below hb hX.lt; replace hV := hV.toW hb; clear hb qX; have qX := fun i => hX.cell i
       go_wp2_with fail
       refine (HCB.out _ hB).mono ?_; rintro e wc ⟨⟨xA, xc, rfl, hV2⟩, hb⟩
       replace hB := hB.trans (hb.mono hB.size); replace hX := hX.below hb hX.lt; replace hV := hV.toW hb; clear hb qX; have qX := fun i => hX.cell i
       go_wp2_with fail
       refine (Same_I hV hV2 (by omega) (by omega)).mono ?_; rintro e wc ⟨rfl, hb⟩
       replace hB := hB.trans (hb.mono hB.size); replace hX := hX.below hb hX.lt; clear hV hV2; clear hb qX; have qX := fun i => hX.cell i
       go_wp2_with fail
       refine (HRE.out _ hB).mono ?_; rintro e wc ⟨rfl, hb⟩
       replace hB := hB.trans (hb.mono hB.size); replace hX := hX.below hb hX.lt; clear hb qX; have qX := fun i => hX.cell i
       go_wp2_with fail
       refine (HTT.out _ hB).mono ?_; rintro e wc ⟨rfl, hb⟩
       replace hB := hB.trans (hb.mono hB.size); replace hX := hX.below hb hX.lt; clear hb qX; have qX := fun i => hX.cell i
       go_wp2_with fail
       refine (known_true m _ (hE.below hB)).mono ?_; rintro e wc ⟨rfl, hb⟩
       replace hB := hB.trans (hb.mono hB.size); clear hb
       go_wp2_with fail
       go_ret
       exact ⟨rfl, hB⟩
end
end Go.Proofs.YtekmnelpkogppaaGreatDoor
