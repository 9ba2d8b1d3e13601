import Derived.Test.YtekmnelpkogppaaGreatDoorKw11
set_option linter.unusedVariables false
set_option linter.unusedSimpArgs false
set_option maxRecDepth 100000
set_option maxHeartbeats 40000000
namespace Go.Proofs.YtekmnelpkogppaaGreatDoor
section
theorem ed_map {α β : Type} [DecidableEq α] [DecidableEq β] (f : α → β) : ∀ (a b : List α), (∀ x ∈ a, ∀ y ∈ b, f x = f y → x = y) → ed (a.map f) (b.map f) = ed a b
 | [], b, _ => by simp [ed_nil]
 | x :: xs, b, h => by
  have ih := fun b hb => ed_map f xs b hb
  induction b with
  | nil => simp [ed_nil_r]
  | cons y ys ihb =>
   rw [List.map_cons, List.map_cons, ed_cons, ed_cons, ← List.map_cons, ← List.map_cons]
   rw [ih ys (fun p hp q hq => h p (by simp [hp]) q (by simp [hq])), ih (y :: ys) (fun p hp q hq => h p (by simp [hp]) q hq), ihb (fun p hp q hq => h p hp q (by simp [hq]))]
   by_cases e : x = y
   ·rw [if_pos e, if_pos (by rw [e])]
   ·rw [if_neg e, if_neg (fun e2 => e (h x (by simp) y (by simp) e2))]
end
section
open Go.RowKit Go.Lib Go.Maps
theorem Steps_x1 (W : Int) (A : Option Addr) (n cap : Nat) (cs : List VC) (A1 : Option Addr) (n1 c1 : Nat) (l1 : List Int) (A2 : Option Addr) (n2 c2 : Nat) (l2 : List Int) (w : World) (hn : n ≤ maxLen) (hr : Rd w w.heap.size 1 A n (cs.map VC.val)) (hc : ∀ c ∈ cs, c.ok w w.heap.size) (hn1 : n1 ≤ maxLen) (hr1 : Rd w w.heap.size 1 A1 n1 (l1.map (Value.int .i64))) (hn2 : n2 ≤ maxLen) (hr2 : Rd w w.heap.size 1 A2 n2 (l2.map (Value.int .i64))) (h1 : bookB W cs = false) :
  Calls Tryz.prog 32 #[.agg #[.int .i64 W, .slice A n cap], .slice A1 n1 c1, .slice A2 n2 c2] w fun e w' => e = .returned (.tuple #[.slice none 0 0, .int .i64 2]) ∧ Below w.heap.size w w' := by
 have hX := Blk.new w 24 #[.int .i64 W, .slice A n cap]
 have hB : Below w.heap.size w (w.alloc (.cells #[.int .i64 W, .slice A n cap] 24)) := (Below.refl _ w).alloc (Nat.le_refl _) _
 have qX := fun i => hX.cell i
 have hmm := @run_makeMap Tryz.prog
 have hgb := fun (wx : World) (hx : Below w.heap.size w wx) => goodBook_any W A n cap cs wx hn (rdB hr hx) (fun c h => okB (hc c h) hx)
 simp only [h1] at hgb
 have HGB := hid hgb; clear hgb h1
 go_enter Tryz.func32, Tryz.ntmps32
 go_wp2_with (first | (go_at_call 81; refine (HGB.out _ hB).mono ?_; rintro e w1 ⟨rfl, hb⟩; replace hX := hX.below hb hX.lt; replace hB := hB.trans (hb.mono hB.size); clear hb qX; have qX := fun i => hX.cell i))
 go_ret2
 exact ⟨rfl, hB⟩
theorem Steps_x2 (W : Int) (A : Option Addr) (n cap : Nat) (cs : List VC) (A1 : Option Addr) (n1 c1 : Nat) (l1 : List Int) (A2 : Option Addr) (n2 c2 : Nat) (l2 : List Int) (w : World) (hn : n ≤ maxLen) (hr : Rd w w.heap.size 1 A n (cs.map VC.val)) (hc : ∀ c ∈ cs, c.ok w w.heap.size) (hn1 : n1 ≤ maxLen) (hr1 : Rd w w.heap.size 1 A1 n1 (l1.map (Value.int .i64))) (hn2 : n2 ≤ maxLen) (hr2 : Rd w w.heap.size 1 A2 n2 (l2.map (Value.int .i64))) (h1 : bookB W cs = true) (h2 : lnB W l1 = false) :
  Calls Tryz.prog 32 #[.agg #[.int .i64 W, .slice A n cap], .slice A1 n1 c1, .slice A2 n2 c2] w fun e w' => e = .returned (.tuple #[.slice none 0 0, .int .i64 2]) ∧ Below w.heap.size w w' := by
 have hX := Blk.new w 24 #[.int .i64 W, .slice A n cap]
 have hB : Below w.heap.size w (w.alloc (.cells #[.int .i64 W, .slice A n cap] 24)) := (Below.refl _ w).alloc (Nat.le_refl _) _
 have qX := fun i => hX.cell i
 have hmm := @run_makeMap Tryz.prog
 have hgb := fun (wx : World) (hx : Below w.heap.size w wx) => goodBook_any W A n cap cs wx hn (rdB hr hx) (fun c h => okB (hc c h) hx)
 have hW : 1 ≤ W ∧ W ≤ 3 := by have := h1; unfold bookB at this; simp only [Bool.and_eq_true] at this; simpa [inB] using this.1.1.1
 simp only [h1] at hgb
 have hg1 := fun (wx : World) (hx : Below w.heap.size w wx) => goodLine_any W A n cap A1 n1 c1 l1 wx hW.1 hW.2 hn1 (rdB hr1 hx)
 simp only [h2] at hg1
 have HGB := hid hgb; have HG1 := hid hg1; clear hgb hg1 h1 h2
 go_enter Tryz.func32, Tryz.ntmps32
 go_wp2_with (first | (go_at_call 81; refine (HGB.out _ hB).mono ?_; rintro e w1 ⟨rfl, hb⟩; replace hX := hX.below hb hX.lt; replace hB := hB.trans (hb.mono hB.size); clear hb qX; have qX := fun i => hX.cell i) | (go_at_call 82; refine (HG1.out _ hB).mono ?_; rintro e w1 ⟨rfl, hb⟩; replace hX := hX.below hb hX.lt; replace hB := hB.trans (hb.mono hB.size); clear hb qX; have qX := fun i => hX.cell i))
 go_ret2
 exact ⟨rfl, hB⟩
theorem Steps_x3 (W : Int) (A : Option Addr) (n cap : Nat) (cs : List VC) (A1 : Option Addr) (n1 c1 : Nat) (l1 : List Int) (A2 : Option Addr) (n2 c2 : Nat) (l2 : List Int) (w : World) (hn : n ≤ maxLen) (hr : Rd w w.heap.size 1 A n (cs.map VC.val)) (hc : ∀ c ∈ cs, c.ok w w.heap.size) (hn1 : n1 ≤ maxLen) (hr1 : Rd w w.heap.size 1 A1 n1 (l1.map (Value.int .i64))) (hn2 : n2 ≤ maxLen) (hr2 : Rd w w.heap.size 1 A2 n2 (l2.map (Value.int .i64))) (h1 : bookB W cs = true) (h2 : lnB W l1 = true) (h3 : lnB W l2 = false) :
  Calls Tryz.prog 32 #[.agg #[.int .i64 W, .slice A n cap], .slice A1 n1 c1, .slice A2 n2 c2] w fun e w' => e = .returned (.tuple #[.slice none 0 0, .int .i64 2]) ∧ Below w.heap.size w w' := by
 have hX := Blk.new w 24 #[.int .i64 W, .slice A n cap]
 have hB : Below w.heap.size w (w.alloc (.cells #[.int .i64 W, .slice A n cap] 24)) := (Below.refl _ w).alloc (Nat.le_refl _) _
 have qX := fun i => hX.cell i
 have hmm := @run_makeMap Tryz.prog
 have hgb := fun (wx : World) (hx : Below w.heap.size w wx) => goodBook_any W A n cap cs wx hn (rdB hr hx) (fun c h => okB (hc c h) hx)
 have hW : 1 ≤ W ∧ W ≤ 3 := by have := h1; unfold bookB at this; simp only [Bool.and_eq_true] at this; simpa [inB] using this.1.1.1
 simp only [h1] at hgb
 have hg1 := fun (wx : World) (hx : Below w.heap.size w wx) => goodLine_any W A n cap A1 n1 c1 l1 wx hW.1 hW.2 hn1 (rdB hr1 hx)
 simp only [h2] at hg1
 have hg2 := fun (wx : World) (hx : Below w.heap.size w wx) => goodLine_any W A n cap A2 n2 c2 l2 wx hW.1 hW.2 hn2 (rdB hr2 hx)
 simp only [h3] at hg2
 have HGB := hid hgb; have HG1 := hid hg1; have HG2 := hid hg2; clear hgb hg1 hg2 h1 h2 h3
 go_enter Tryz.func32, Tryz.ntmps32
 go_wp2_with fail
 refine (HGB.out _ hB).mono ?_; rintro e w1 ⟨rfl, hb⟩; replace hX := hX.below hb hX.lt; replace hB := hB.trans (hb.mono hB.size); clear hb qX; have qX := fun i => hX.cell i
 go_wp2_with fail
 refine (HG1.out _ hB).mono ?_; rintro e w1 ⟨rfl, hb⟩; replace hX := hX.below hb hX.lt; replace hB := hB.trans (hb.mono hB.size); clear hb qX; have qX := fun i => hX.cell i
 go_wp2_with fail
 refine (HG2.out _ hB).mono ?_; rintro e w1 ⟨rfl, hb⟩; replace hX := hX.below hb hX.lt; replace hB := hB.trans (hb.mono hB.size); clear hb qX; have qX := fun i => hX.cell i
 go_wp2_with fail
 go_ret2
 exact ⟨rfl, hB⟩
end
section
open Go.RowKit Go.Lib Go.Maps
theorem refChanges_any (s : Nat) : ∀ (A : Option Addr) (n cap : Nat) (xs : List Int) (A2 : Option Addr) (n2 p2 : Nat) (ys : List Int) (w : World), n + n2 ≤ s → n ≤ 1000 → n2 ≤ 1000 → n ≤ cap → n2 ≤ p2 → Rd w w.heap.size 1 A n (xs.map (Value.int .i64)) → Rd w w.heap.size 1 A2 n2 (ys.map (Value.int .i64)) →
  Calls Tryz.prog 29 #[.slice A n cap, .slice A2 n2 p2] w fun e w' => e = .returned (.int .i64 (ed xs ys : Nat)) ∧ Below w.heap.size w w' := by
 induction s using Nat.strongRecOn with
 | ind s ih =>
 intro A n cap xs A2 n2 p2 ys w hs hn hn2 hc hc2 hr hr2
 have hl1 : xs.length = n := by simpa using hr.len
 have hl2 : ys.length = n2 := by simpa using hr2.len
 match xs, ys, hl1, hl2 with
 | [], ys, hl1, hl2 =>
  obtain rfl : n = 0 := hl1.symm
  have he : ((ed ([] : List Int) ys : Nat) : Int) = n2 := by rw [ed_nil, hl2]
  rw [he]
  clear he ih
  go_enter Tryz.func29, Tryz.ntmps29
  go_wp2_with (fail)
  go_ret
  exact ⟨rfl, Below.refl _ _⟩
 | x :: xs, [], hl1, hl2 =>
  obtain rfl : n2 = 0 := hl2.symm
  have he : ((ed (x :: xs) ([] : List Int) : Nat) : Int) = n := by rw [ed_nil_r, hl1]
  have hn0 : ((n : Int) == 0) = false := by rw [beq_eq_false_iff_ne]; simp at hl1; omega
  rw [he]
  clear he ih
  go_enter Tryz.func29, Tryz.ntmps29
  go_wp2_with (fail)
  go_ret
  exact ⟨rfl, Below.refl _ _⟩
 | x :: xs, y :: ys, hl1, hl2 =>
  simp only [List.length_cons] at hl1 hl2
  obtain ⟨b, z1, hz, rfl, hb, g1⟩ := hr.atm (show 0 < n by omega)
  obtain ⟨b2, z2, hz2, rfl, hb2, g2⟩ := hr2.atm (show 0 < n2 by omega)
  simp only [List.getElem_cons_zero, Nat.add_zero] at g1 g2
  have hni : (0 : Int) < n := by omega
  have hn2i : (0 : Int) < n2 := by omega
  have hn0 : ((n : Int) == 0) = false := by rw [beq_eq_false_iff_ne]; omega
  have hn20 : ((n2 : Int) == 0) = false := by rw [beq_eq_false_iff_ne]; omega
  have hd1 := hr.cutA' (k := 1) (m := n) (cap := cap) (by omega) (Nat.le_refl _) hc
  have hd2 := hr2.cutA' (k := 1) (m := n2) (cap := p2) (by omega) (Nat.le_refl _) hc2
  simp only [List.map_cons, Nat.mul_one, List.drop_succ_cons, List.drop_zero] at hd1 hd2
  rw [List.take_of_length_le (by rw [List.length_map]; omega)] at hd1 hd2
  have hS1 : ∀ w, (Instr.slice 25 (.slice (some ⟨b, z1, none⟩) n cap) (some (.int .i64 1)) none none).run Tryz.prog w = .ok (.slice (cutA (some ⟨b, z1, none⟩) cap 1 1) (n - 1) (cap - 1)) w := fun w => run_slice_lo (P := Tryz.prog) 25 3 1 Tryz.underlying25 Tryz.sizeOf3 _ n cap .i64 1 (by omega) hc w
  have hS2 : ∀ w, (Instr.slice 25 (.slice (some ⟨b2, z2, none⟩) n2 p2) (some (.int .i64 1)) none none).run Tryz.prog w = .ok (.slice (cutA (some ⟨b2, z2, none⟩) p2 1 1) (n2 - 1) (p2 - 1)) w := fun w => run_slice_lo (P := Tryz.prog) 25 3 1 Tryz.underlying25 Tryz.sizeOf3 _ n2 p2 .i64 1 (by omega) hc2 w
  have hr1 := fun wx (hx : Below w.heap.size w wx) => ih (n - 1 + (n2 - 1)) (by omega) (cutA (some ⟨b, z1, none⟩) cap 1 1) (n - 1) (cap - 1) xs (cutA (some ⟨b2, z2, none⟩) p2 1 1) (n2 - 1) (p2 - 1) ys wx (Nat.le_refl _) (by omega) (by omega) (by omega) (by omega) (rdB hd1 hx) (rdB hd2 hx)
  have hr2' := fun wx (hx : Below w.heap.size w wx) => ih (n - 1 + n2) (by omega) (cutA (some ⟨b, z1, none⟩) cap 1 1) (n - 1) (cap - 1) xs (some ⟨b2, z2, none⟩) n2 p2 (y :: ys) wx (Nat.le_refl _) (by omega) (by omega) (by omega) (by omega) (rdB hd1 hx) (rdB hr2 hx)
  have hr3 := fun wx (hx : Below w.heap.size w wx) => ih (n + (n2 - 1)) (by omega) (some ⟨b, z1, none⟩) n cap (x :: xs) (cutA (some ⟨b2, z2, none⟩) p2 1 1) (n2 - 1) (p2 - 1) ys wx (Nat.le_refl _) (by omega) (by omega) (by omega) (by omega) (rdB hr hx) (rdB hd2 hx)
  have hcc1 : ∀ wx, Below w.heap.size w wx → wx.cell? ⟨b, z1, none⟩ = some (.int .i64 x) := fun wx hx => by rw [hx.cell hb]; exact g1
  have hcc2 : ∀ wx, Below w.heap.size w wx → wx.cell? ⟨b2, z2, none⟩ = some (.int .i64 y) := fun wx hx => by rw [hx.cell hb2]; exact g2
  have hb1 := ed_le xs ys
  have hb2' := ed_le xs (y :: ys)
  have hb3 := ed_le (x :: xs) ys
  simp only [List.length_cons] at hb2' hb3
  have heq : ed (x :: xs) (y :: ys) = if x = y then ed xs ys else 1 + min (ed xs ys) (min (ed xs (y :: ys)) (ed (x :: xs) ys)) := rfl
  generalize cutA (some ⟨b, z1, none⟩) cap 1 1 = A1 at *
  generalize cutA (some ⟨b2, z2, none⟩) p2 1 1 = A21 at *
  obtain ⟨D, hD⟩ : ∃ D, D = ed (x :: xs) (y :: ys) := ⟨_, rfl⟩
  rw [← hD] at heq ⊢
  clear hD
  generalize ed xs ys = e1 at *
  generalize ed xs (y :: ys) = e2 at *
  generalize ed (x :: xs) ys = e3 at *
  have HR1 := hid hr1; have HR2 := hid hr2'; have HR3 := hid hr3; have HC1 := hid hcc1; have HC2 := hid hcc2; have HEQ := hid heq
  have hB : Below w.heap.size w w := Below.refl _ _
  clear hr1 hr2' hr3 hcc1 hcc2 heq g1 g2 hd1 hd2 hz hz2 ih
  by_cases hxy : x = y
  ·subst hxy
   have HD : Hid (D = e1) := hid (by rw [HEQ.out, if_pos rfl])
   clear HR2 HR3
   go_enter Tryz.func29, Tryz.ntmps29
   go_upto_region 5 with (fail)
   refine wp_region_blw (by kernel_rfl) (by kernel_rfl) ?_
   repeat (go_big_quiet_step (fail))
   go_big_quiet_step ((go_at_call 29; exact Calls.blw_of _ (HR1.out _ (hB.trans ((Blw.h _).mono hB.size)))))
   repeat (go_big_quiet_step (fail))
   refine wpQuiet_nil ?_
   rintro W3 ⟨⟨_, hb3⟩, rfl⟩
   replace hB := hB.trans (hb3.mono hB.size); clear hb3
   go_upto_region 6 with (fail)
   have hq1 := fun (p : Blw W3.heap.size W3) => HC1.out _ (hB.trans ((Blw.h p).mono hB.size))
   have hq2 := fun (p : Blw W3.heap.size W3) => HC2.out _ (hB.trans ((Blw.h p).mono hB.size))
   refine wp_region_blw (by kernel_rfl) (by kernel_rfl) ?_
   repeat (go_big_quiet_step (fail))
   refine wpQuiet_nil ?_
   rintro W4 ⟨⟨_, hb3⟩, rfl⟩
   replace hB := hB.trans (hb3.mono hB.size); clear hb3
   clear hq1 hq2
   go_wp2_with (fail)
   go_ret
   exact ⟨by rw [HD.out]; rfl, hB⟩
  ·have HD : Hid (D = 1 + min e1 (min e2 e3)) := hid (by rw [HEQ.out, if_neg hxy])
   have hw1 : IntKind.i64.wrap (1 + (e1 : Int)) = 1 + (e1 : Int) := IntWalk.i64_in _ (by omega)
   have hw2 : IntKind.i64.wrap (1 + (e2 : Int)) = 1 + (e2 : Int) := IntWalk.i64_in _ (by omega)
   have hw3 : IntKind.i64.wrap (1 + (e3 : Int)) = 1 + (e3 : Int) := IntWalk.i64_in _ (by omega)
   go_enter Tryz.func29, Tryz.ntmps29
   go_upto_region 5 with (fail)
   refine wp_region_blw (by kernel_rfl) (by kernel_rfl) ?_
   repeat (go_big_quiet_step (fail))
   go_big_quiet_step ((go_at_call 29; exact Calls.blw_of _ (HR1.out _ (hB.trans ((Blw.h _).mono hB.size)))))
   repeat (go_big_quiet_step (fail))
   refine wpQuiet_nil ?_
   rintro W3 ⟨⟨_, hb3⟩, rfl⟩
   replace hB := hB.trans (hb3.mono hB.size); clear hb3
   go_upto_region 6 with (fail)
   have hq1 := fun (p : Blw W3.heap.size W3) => HC1.out _ (hB.trans ((Blw.h p).mono hB.size))
   have hq2 := fun (p : Blw W3.heap.size W3) => HC2.out _ (hB.trans ((Blw.h p).mono hB.size))
   refine wp_region_blw (by kernel_rfl) (by kernel_rfl) ?_
   repeat (go_big_quiet_step (fail))
   refine wpQuiet_nil ?_
   rintro W4 ⟨⟨_, hb3⟩, rfl⟩
   replace hB := hB.trans (hb3.mono hB.size); clear hb3
   clear hq1 hq2
   go_upto_region 8 with (fail)
   refine wp_region_blw (by kernel_rfl) (by kernel_rfl) ?_
   repeat (go_big_quiet_step (fail))
   go_big_quiet_step ((go_at_call 29; exact Calls.blw_of _ (HR2.out _ (hB.trans ((Blw.h _).mono hB.size)))))
   repeat (go_big_quiet_step (fail))
   go_big_quiet_step ((go_at_call 29; exact Calls.blw_of _ (HR3.out _ (hB.trans ((Blw.h _).mono hB.size)))))
   repeat (go_big_quiet_step (fail))
   refine wpQuiet_nil ?_
   rintro W5 ⟨⟨_, hb3⟩, rfl⟩
   replace hB := hB.trans (hb3.mono hB.size); clear hb3
   all_goals try go_wp2_with (fail)
   all_goals
    go_ret
    refine ⟨congrArg Ending.returned (congrArg (Value.int .i64) ?_), hB⟩
    have h := HD.out
    omega
end
section
open Go.RowKit Go.Lib
theorem IA.toW {w w' : World} {A : Option Addr} {n cap : Nat} {l : List Int} (h : IA w A n cap l) (hb : Below w.heap.size w w') : IA w' A n cap l := ⟨h.1, h.2.1, rdB h.2.2 hb⟩
theorem IA.max {w : World} {A : Option Addr} {n cap : Nat} {l : List Int} (h : IA w A n cap l) : n ≤ maxLen := Nat.le_trans h.1 h.2.1
theorem IA.len {w : World} {A : Option Addr} {n cap : Nat} {l : List Int} (h : IA w A n cap l) : l.length = n := by simpa using h.2.2.len
theorem u8_inj {x y : Int} (hx : 0 ≤ x ∧ x ≤ 2) (hy : 0 ≤ y ∧ y ≤ 2) (e : UInt8.ofNat x.toNat = UInt8.ofNat y.toNat) : x = y := by
 have h := congrArg UInt8.toNat e
 simp only [UInt8.toNat_ofNat'] at h
 omega
theorem edB_int {a b : List Int} (ha : ∀ x ∈ a, 0 ≤ x ∧ x ≤ 2) (hb : ∀ x ∈ b, 0 ≤ x ∧ x ≤ 2) : edB (lbS a) (lbS b) = ed a b := by
 show ed (lbL a) (lbL b) = ed a b
 unfold lbL
 exact ed_map _ a b (fun x hx y hy e => u8_inj (ha x hx) (hb y hy) e)
theorem book_W {W : Int} {cs : List VC} (h : bookB W cs = true) : 1 ≤ W ∧ W ≤ 3 := by
 unfold bookB at h
 simp only [Bool.and_eq_true] at h
 simpa [inB] using h.1.1.1
section
variable {W : Int} {A : Option Addr} {n cap : Nat} {cs : List VC} {w : World} {A1 A2 : Option Addr} {n1 n2 c1 c2 : Nat} {l1 l2 : List Int}
theorem Line_I (h : BkI w A n cap cs) (hk : bookB W cs = true) (h1 : IA w A1 n1 c1 l1) : Calls Tryz.prog 28 #[.agg #[.int .i64 W, .slice A n cap], .slice A1 n1 c1] w fun e w' => e = .returned (.bool (lnB W l1)) ∧ Below w.heap.size w w' := refLine_any W A n cap A1 n1 c1 l1 w (by have := book_W hk; omega) (by have := book_W hk; omega) h1.max h1.2.2
end
end
section
open Go.RowKit Go.Lib
theorem lnB_len {W : Int} {l : List Int} (h : lnB W l = true) : l.length ≤ 4 := by
 unfold lnB at h
 simp only [Bool.and_eq_true, decide_eq_true_eq] at h
 exact h.1
end
section
open Go.RowKit Go.Lib Go.Maps
def stI (p : Int × Int) : List Value := [.int .i64 p.1, .int .i64 p.2]
def sF : Nat → List Int → List Int → List (Int × Int)
 | 0, _, _ => []
 | _ + 1, [], [] => []
 | k + 1, [], y :: ys => (3, y) :: sF k [] ys
 | k + 1, x :: xs, [] => (4, x) :: sF k xs []
 | k + 1, x :: xs, y :: ys =>
  if (if x = y then ed xs ys else 1 + ed xs ys) = ed (x :: xs) (y :: ys) then ((if x = y then 1 else 2), y) :: sF k xs ys
  else if 1 + ed (x :: xs) ys = ed (x :: xs) (y :: ys) then (3, y) :: sF k (x :: xs) ys else (4, x) :: sF k xs (y :: ys)
theorem sF_len : ∀ (k : Nat) (a b : List Int), (sF k a b).length ≤ a.length + b.length
 | 0, _, _ => Nat.zero_le _
 | _ + 1, [], [] => Nat.zero_le _
 | k + 1, [], y :: ys => by
  have := sF_len k [] ys
  rw [show sF (k + 1) [] (y :: ys) = (3, y) :: sF k [] ys from rfl]
  simp only [List.length_cons, List.length_nil] at this ⊢; omega
 | k + 1, x :: xs, [] => by
  have := sF_len k xs []
  rw [show sF (k + 1) (x :: xs) [] = (4, x) :: sF k xs [] from rfl]
  simp only [List.length_cons, List.length_nil] at this ⊢; omega
 | k + 1, x :: xs, y :: ys => by
  have h1 := sF_len k xs ys; have h2 := sF_len k (x :: xs) ys; have h3 := sF_len k xs (y :: ys)
  rw [sF]
  simp only [List.length_cons] at h2 h3 ⊢
  repeat' split
  all_goals (try simp only [List.length_cons])
  all_goals omega
def StR (B : Nat) (w' : World) (d : Int) (E : Nat) (L : List (Int × Int)) (e : Ending) : Prop :=
 ∃ v, e = .returned (.tuple #[v, .bool (decide (d = (E : Int)))]) ∧ (d = (E : Int) → w'.ownsRow B 116 2 v L.length (L.flatMap stI))
theorem ownS1 (w : World) (base : Nat) (k y : Int) (hb : base ≤ w.heap.size) : (w.alloc (.cells #[.int .i64 k, .int .i64 y] 116)).ownsRow base 116 2 (.slice (some ⟨w.heap.size, 0, none⟩) 1 1) 1 [.int .i64 k, .int .i64 y] :=
 ⟨by simp, .inr ⟨w.heap.size, 1, #[.int .i64 k, .int .i64 y], rfl, hb, heap_alloc_new w _, Nat.le_refl _, by unfold maxLen; omega, rfl, by simp⟩⟩
theorem one_stI : ∀ (l : List (Int × Int)), ∀ u ∈ l.flatMap stI, u.oneCell' = true := by
 intro l u hu
 obtain ⟨p, _, hp⟩ := List.mem_flatMap.1 hu
 simp only [stI, List.mem_cons, List.not_mem_nil, or_false] at hp
 rcases hp with rfl | rfl <;> rfl
theorem refSteps_any (s : Nat) : ∀ (k : Nat) (A : Option Addr) (n cap : Nat) (xs : List Int) (A2 : Option Addr) (n2 p2 : Nat) (ys : List Int) (d : Int) (w : World), n + n2 ≤ s → n + n2 < k → n ≤ 1000 → n2 ≤ 1000 → n ≤ cap → n2 ≤ p2 → Rd w w.heap.size 1 A n (xs.map (Value.int .i64)) → Rd w w.heap.size 1 A2 n2 (ys.map (Value.int .i64)) → d ≤ (ed xs ys : Nat) → -1000 ≤ d →
  Calls Tryz.prog 33 #[.slice A n cap, .slice A2 n2 p2, .int .i64 d] w fun e w' => StR w.heap.size w' d (ed xs ys) (sF k xs ys) e ∧ Below w.heap.size w w' := by
 obtain ⟨i116, hi, hz0, hz1', hz2'⟩ := info_parts info116
 induction s using Nat.strongRecOn with
 | ind s ih =>
 intro k A n cap xs A2 n2 p2 ys d w hs hsk hn hn2 hc hc2 hr hr2 hd hd0
 have hl1 : xs.length = n := by simpa using hr.len
 have hl2 : ys.length = n2 := by simpa using hr2.len
 by_cases hneg : d < 0
 ·have hne : ¬ d = ((ed xs ys : Nat) : Int) := by omega
  generalize ed xs ys = E at *
  have HNE := hid hne; clear ih hr hr2 hl1 hl2 hne hd
  go_enter Tryz.func33, Tryz.ntmps33
  go_wp2_with fail
  go_ret2
  exact ⟨⟨_, by rw [decide_eq_false HNE.out]; rfl, fun h => absurd h HNE.out⟩, Below.refl _ _⟩
 obtain ⟨k, rfl⟩ : ∃ k', k = k' + 1 := ⟨k - 1, by omega⟩
 match xs, ys, hl1, hl2 with
 | [], [], hl1, hl2 =>
  obtain rfl : n = 0 := hl1.symm
  obtain rfl : n2 = 0 := hl2.symm
  have hd' : d = 0 := by rw [ed_nil] at hd; simp at hd; omega
  subst hd'
  clear ih
  go_enter Tryz.func33, Tryz.ntmps33
  go_wp2_with (fail)
  go_ret2
  exact ⟨⟨_, by rw [ed_nil]; rfl, fun _ => World.ownsRow_nil _ _ _ _⟩, Below.refl _ _⟩
 | [], y :: ys, hl1, hl2 =>
  simp only [List.length_cons] at hl1 hl2
  obtain rfl : n = 0 := hl1.symm
  obtain ⟨b2, z2, hz2, rfl, hb2, g2⟩ := hr2.atm (show 0 < n2 by omega)
  simp only [List.getElem_cons_zero, Nat.add_zero] at g2
  have hn2i : (0 : Int) < n2 := by omega
  have hn20 : ((n2 : Int) == 0) = false := by rw [beq_eq_false_iff_ne]; omega
  have hd2 := hr2.cutA' (k := 1) (m := n2) (cap := p2) (by omega) (Nat.le_refl _) hc2
  simp only [List.map_cons, Nat.mul_one, List.drop_succ_cons, List.drop_zero] at hd2
  rw [List.take_of_length_le (by rw [List.length_map]; omega)] at hd2
  have hS2 : ∀ w, (Instr.slice 25 (.slice (some ⟨b2, z2, none⟩) n2 p2) (some (.int .i64 1)) none none).run Tryz.prog w = .ok (.slice (cutA (some ⟨b2, z2, none⟩) p2 1 1) (n2 - 1) (p2 - 1)) w := fun w => run_slice_lo (P := Tryz.prog) 25 3 1 Tryz.underlying25 Tryz.sizeOf3 _ n2 p2 .i64 1 (by omega) hc2 w
  have hE : ed ([] : List Int) (y :: ys) = ys.length + 1 := rfl
  have hE2 : ed ([] : List Int) ys = ys.length := rfl
  have hr1 := fun wx (hx : Below w.heap.size w wx) => ih (0 + (n2 - 1)) (by omega) k A 0 cap [] (cutA (some ⟨b2, z2, none⟩) p2 1 1) (n2 - 1) (p2 - 1) ys (d - 1) wx (Nat.le_refl _) (by omega) (by omega) (by omega) (by omega) (by omega) (rdB hr hx) (rdB hd2 hx) (by rw [hE2]; rw [hE] at hd; omega) (by omega)
  have hsl : sF (k + 1) [] (y :: ys) = (3, y) :: sF k [] ys := rfl
  have hle : (sF k [] ys).length ≤ 2000 := by have := sF_len k [] ys; simp only [List.length_nil] at this; omega
  rw [hE2] at hr1
  rw [hE] at hd ⊢
  have HSL := hid hsl
  generalize sF k [] ys = L at *
  generalize sF (k + 1) [] (y :: ys) = L0 at *
  generalize cutA (some ⟨b2, z2, none⟩) p2 1 1 = A21 at *
  have hlys : ys.length + 1 = n2 := hl2
  rw [hlys] at hd ⊢
  have hys : ys.length = n2 - 1 := by omega
  rw [hys] at hr1
  have HR1 := hid hr1
  have k2 : ∀ wx, Below w.heap.size w wx → wx.cell? ⟨b2, z2, none⟩ = some (.int .i64 y) := fun wx hx => by rw [hx.cell hb2]; exact g2
  have C2 := hid k2
  have hB : Below w.heap.size w w := Below.refl _ _
  clear hr1 k2 g2 hd2 hz2 ih hE hE2 hl1 hl2 hlys hys hsl hr hr2
  go_enter Tryz.func33, Tryz.ntmps33
  go_wp2_with (fail)
  refine (HR1.out _ hB).mono ?_
  rintro e wz ⟨⟨v1, rfl, hv1⟩, hb⟩
  replace hB := hB.trans (hb.mono hB.size); clear hb HR1
  by_cases hq : d - 1 = ((n2 - 1 : Nat) : Int)
  ·have hdE : d = (n2 : Int) := by omega
   have ho := hv1 hq
   rw [decide_eq_true hq]
   clear hv1 hq hS2
   have hc2' := C2.out _ hB
   obtain ⟨pa, pc, rfl⟩ := own_slice ho
   have hlen := hle
   have hBs := hB.size
   go_wp2_with (at_builtin; refine wpList_append_any _ rfl _ _ 37 rfl w.heap.size 116 i116 (.agg #[.int .i64 0, .int .i64 0]) 2 16 Tryz.underlying37 hi hz0 hz1' hz2' rfl (by decide) (.slice (some ⟨wz.heap.size, 0, none⟩) 1 1) 1 [.int .i64 3, .int .i64 y] rfl (ownS1 wz w.heap.size 3 y hBs) (wz.heap.size + 1) pa (L).length pc ((L).flatMap stI) rfl (((Rd.of_own ho).below ((Below.refl _ wz).alloc (Nat.le_refl _) (.cells #[.int .i64 3, .int .i64 y] 116))).more (by omega)).reads (one_stI _) (by unfold maxLen; omega) (by omega) (by simp only [World.size_alloc]; omega) (fun v' w' ho' hgrow hob => ?_))
   have hB2 := (hB.alloc hBs (.cells #[.int .i64 3, .int .i64 y] 116)).grown hgrow (by simp only [World.size_alloc]; omega) (fun g hg => ((ownS1 wz w.heap.size 3 y hBs).lt g hg).1)
   go_ret2
   exact ⟨⟨v', by first | (rw [decide_eq_true hdE]; rfl) | (rw [decide_eq_true rfl]; rfl), fun _ => (by rw [HSL.out, List.length_cons, Nat.add_comm, List.flatMap_cons]; exact ho')⟩, hB2⟩
  ·have hdE : ¬ d = (n2 : Int) := by omega
   have HDE := hid hdE
   rw [decide_eq_false hq]
   clear hv1 hq hS2 hdE
   go_wp2_with (fail)
   go_ret2
   exact ⟨⟨_, by rw [decide_eq_false HDE.out]; rfl, fun h => absurd h HDE.out⟩, hB⟩
 | x :: xs, [], hl1, hl2 =>
  simp only [List.length_cons] at hl1 hl2
  obtain rfl : n2 = 0 := hl2.symm
  obtain ⟨b, z1, hz, rfl, hb1, g1⟩ := hr.atm (show 0 < n by omega)
  simp only [List.getElem_cons_zero, Nat.add_zero] at g1
  have hni : (0 : Int) < n := by omega
  have hn0 : ((n : Int) == 0) = false := by rw [beq_eq_false_iff_ne]; omega
  have hd2 := hr.cutA' (k := 1) (m := n) (cap := cap) (by omega) (Nat.le_refl _) hc
  simp only [List.map_cons, Nat.mul_one, List.drop_succ_cons, List.drop_zero] at hd2
  rw [List.take_of_length_le (by rw [List.length_map]; omega)] at hd2
  have hS2 : ∀ w, (Instr.slice 25 (.slice (some ⟨b, z1, none⟩) n cap) (some (.int .i64 1)) none none).run Tryz.prog w = .ok (.slice (cutA (some ⟨b, z1, none⟩) cap 1 1) (n - 1) (cap - 1)) w := fun w => run_slice_lo (P := Tryz.prog) 25 3 1 Tryz.underlying25 Tryz.sizeOf3 _ n cap .i64 1 (by omega) hc w
  have hE : ed (x :: xs) ([] : List Int) = xs.length + 1 := by rw [ed_nil_r]; rfl
  have hE2 : ed xs ([] : List Int) = xs.length := ed_nil_r xs
  have hr1 := fun wx (hx : Below w.heap.size w wx) => ih (n - 1 + 0) (by omega) k (cutA (some ⟨b, z1, none⟩) cap 1 1) (n - 1) (cap - 1) xs A2 0 p2 [] (d - 1) wx (Nat.le_refl _) (by omega) (by omega) (by omega) (by omega) (by omega) (rdB hd2 hx) (rdB hr2 hx) (by rw [hE2]; rw [hE] at hd; omega) (by omega)
  have hsl : sF (k + 1) (x :: xs) [] = (4, x) :: sF k xs [] := rfl
  have hle : (sF k xs []).length ≤ 2000 := by have := sF_len k xs []; simp only [List.length_nil] at this; omega
  rw [hE2] at hr1
  rw [hE] at hd ⊢
  have HSL := hid hsl
  generalize sF k xs [] = L at *
  generalize sF (k + 1) (x :: xs) [] = L0 at *
  generalize cutA (some ⟨b, z1, none⟩) cap 1 1 = A21 at *
  have hlys : xs.length + 1 = n := hl1
  rw [hlys] at hd ⊢
  have hys : xs.length = n - 1 := by omega
  rw [hys] at hr1
  have HR1 := hid hr1
  have k2 : ∀ wx, Below w.heap.size w wx → wx.cell? ⟨b, z1, none⟩ = some (.int .i64 x) := fun wx hx => by rw [hx.cell hb1]; exact g1
  have C2 := hid k2
  have hB : Below w.heap.size w w := Below.refl _ _
  clear hr1 k2 g1 hd2 hz ih hE hE2 hl1 hl2 hlys hys hsl hr hr2
  go_enter Tryz.func33, Tryz.ntmps33
  go_wp2_with (fail)
  refine (HR1.out _ hB).mono ?_
  rintro e wz ⟨⟨v1, rfl, hv1⟩, hb⟩
  replace hB := hB.trans (hb.mono hB.size); clear hb HR1
  by_cases hq : d - 1 = ((n - 1 : Nat) : Int)
  ·have hdE : d = (n : Int) := by omega
   have ho := hv1 hq
   rw [decide_eq_true hq]
   clear hv1 hq hS2
   have hc2' := C2.out _ hB
   obtain ⟨pa, pc, rfl⟩ := own_slice ho
   have hlen := hle
   have hBs := hB.size
   go_wp2_with (at_builtin; refine wpList_append_any _ rfl _ _ 37 rfl w.heap.size 116 i116 (.agg #[.int .i64 0, .int .i64 0]) 2 16 Tryz.underlying37 hi hz0 hz1' hz2' rfl (by decide) (.slice (some ⟨wz.heap.size, 0, none⟩) 1 1) 1 [.int .i64 4, .int .i64 x] rfl (ownS1 wz w.heap.size 4 x hBs) (wz.heap.size + 1) pa (L).length pc ((L).flatMap stI) rfl (((Rd.of_own ho).below ((Below.refl _ wz).alloc (Nat.le_refl _) (.cells #[.int .i64 4, .int .i64 x] 116))).more (by omega)).reads (one_stI _) (by unfold maxLen; omega) (by omega) (by simp only [World.size_alloc]; omega) (fun v' w' ho' hgrow hob => ?_))
   have hB2 := (hB.alloc hBs (.cells #[.int .i64 4, .int .i64 x] 116)).grown hgrow (by simp only [World.size_alloc]; omega) (fun g hg => ((ownS1 wz w.heap.size 4 x hBs).lt g hg).1)
   go_ret2
   exact ⟨⟨v', by first | (rw [decide_eq_true hdE]; rfl) | (rw [decide_eq_true rfl]; rfl), fun _ => (by rw [HSL.out, List.length_cons, Nat.add_comm, List.flatMap_cons]; exact ho')⟩, hB2⟩
  ·have hdE : ¬ d = (n : Int) := by omega
   have HDE := hid hdE
   rw [decide_eq_false hq]
   clear hv1 hq hS2 hdE
   go_wp2_with (fail)
   go_ret2
   exact ⟨⟨_, by rw [decide_eq_false HDE.out]; rfl, fun h => absurd h HDE.out⟩, hB⟩
 | x :: xs, y :: ys, hl1, hl2 =>
  simp only [List.length_cons] at hl1 hl2
  obtain ⟨b, z1, hz, rfl, hb, g1⟩ := hr.atm (show 0 < n by omega)
  obtain ⟨b2, z2, hz2, rfl, hb2, g2⟩ := hr2.atm (show 0 < n2 by omega)
  simp only [List.getElem_cons_zero, Nat.add_zero] at g1 g2
  have hni : (0 : Int) < n := by omega
  have hn2i : (0 : Int) < n2 := by omega
  have hn0 : ((n : Int) == 0) = false := by rw [beq_eq_false_iff_ne]; omega
  have hn20 : ((n2 : Int) == 0) = false := by rw [beq_eq_false_iff_ne]; omega
  have hd1 := hr.cutA' (k := 1) (m := n) (cap := cap) (by omega) (Nat.le_refl _) hc
  have hd2 := hr2.cutA' (k := 1) (m := n2) (cap := p2) (by omega) (Nat.le_refl _) hc2
  simp only [List.map_cons, Nat.mul_one, List.drop_succ_cons, List.drop_zero] at hd1 hd2
  rw [List.take_of_length_le (by rw [List.length_map]; omega)] at hd1 hd2
  have hS1 : ∀ w, (Instr.slice 25 (.slice (some ⟨b, z1, none⟩) n cap) (some (.int .i64 1)) none none).run Tryz.prog w = .ok (.slice (cutA (some ⟨b, z1, none⟩) cap 1 1) (n - 1) (cap - 1)) w := fun w => run_slice_lo (P := Tryz.prog) 25 3 1 Tryz.underlying25 Tryz.sizeOf3 _ n cap .i64 1 (by omega) hc w
  have hS2 : ∀ w, (Instr.slice 25 (.slice (some ⟨b2, z2, none⟩) n2 p2) (some (.int .i64 1)) none none).run Tryz.prog w = .ok (.slice (cutA (some ⟨b2, z2, none⟩) p2 1 1) (n2 - 1) (p2 - 1)) w := fun w => run_slice_lo (P := Tryz.prog) 25 3 1 Tryz.underlying25 Tryz.sizeOf3 _ n2 p2 .i64 1 (by omega) hc2 w
  have hEm := ed_moves x y xs ys
  have hr1 := fun (d1 : Int) (h1 : d1 ≤ (ed xs ys : Nat)) (h2 : -1000 ≤ d1) wx (hx : Below w.heap.size w wx) => ih (n - 1 + (n2 - 1)) (by omega) k (cutA (some ⟨b, z1, none⟩) cap 1 1) (n - 1) (cap - 1) xs (cutA (some ⟨b2, z2, none⟩) p2 1 1) (n2 - 1) (p2 - 1) ys d1 wx (Nat.le_refl _) (by omega) (by omega) (by omega) (by omega) (by omega) (rdB hd1 hx) (rdB hd2 hx) h1 h2
  have hr2' := fun (h1 : d - 1 ≤ (ed (x :: xs) ys : Nat)) wx (hx : Below w.heap.size w wx) => ih (n + (n2 - 1)) (by omega) k (some ⟨b, z1, none⟩) n cap (x :: xs) (cutA (some ⟨b2, z2, none⟩) p2 1 1) (n2 - 1) (p2 - 1) ys (d - 1) wx (Nat.le_refl _) (by omega) (by omega) (by omega) (by omega) (by omega) (rdB hr hx) (rdB hd2 hx) h1 (by omega)
  have hr3 := fun (h1 : d - 1 ≤ (ed xs (y :: ys) : Nat)) wx (hx : Below w.heap.size w wx) => ih (n - 1 + n2) (by omega) k (cutA (some ⟨b, z1, none⟩) cap 1 1) (n - 1) (cap - 1) xs (some ⟨b2, z2, none⟩) n2 p2 (y :: ys) (d - 1) wx (Nat.le_refl _) (by omega) (by omega) (by omega) (by omega) (by omega) (rdB hd1 hx) (rdB hr2 hx) h1 (by omega)
  have k1 : ∀ wx, Below w.heap.size w wx → wx.cell? ⟨b, z1, none⟩ = some (.int .i64 x) := fun wx hx => by rw [hx.cell hb]; exact g1
  have k2 : ∀ wx, Below w.heap.size w wx → wx.cell? ⟨b2, z2, none⟩ = some (.int .i64 y) := fun wx hx => by rw [hx.cell hb2]; exact g2
  have hsl : sF (k + 1) (x :: xs) (y :: ys) = if (if x = y then ed xs ys else 1 + ed xs ys) = ed (x :: xs) (y :: ys) then ((if x = y then 1 else 2), y) :: sF k xs ys else if 1 + ed (x :: xs) ys = ed (x :: xs) (y :: ys) then (3, y) :: sF k (x :: xs) ys else (4, x) :: sF k xs (y :: ys) := rfl
  have hle1 : (sF k xs ys).length ≤ 2000 := by have := sF_len k xs ys; omega
  have hle2 : (sF k (x :: xs) ys).length ≤ 2000 := by have := sF_len k (x :: xs) ys; simp only [List.length_cons] at this; omega
  have hle3 : (sF k xs (y :: ys)).length ≤ 2000 := by have := sF_len k xs (y :: ys); simp only [List.length_cons] at this; omega
  have hle0 := ed_le (x :: xs) (y :: ys)
  simp only [List.length_cons] at hle0
  generalize cutA (some ⟨b, z1, none⟩) cap 1 1 = A1 at *
  generalize cutA (some ⟨b2, z2, none⟩) p2 1 1 = A21 at *
  generalize sF k xs ys = L1 at *
  generalize sF k (x :: xs) ys = L2 at *
  generalize sF k xs (y :: ys) = L3 at *
  generalize sF (k + 1) (x :: xs) (y :: ys) = L0 at *
  generalize ed (x :: xs) (y :: ys) = E at *
  generalize ed xs ys = e1 at *
  generalize ed (x :: xs) ys = e2 at *
  generalize ed xs (y :: ys) = e3 at *
  have hdm : d ≤ 1000 := by omega
  have M1 := hid hle1; have M2 := hid hle2; have M3 := hid hle3; have C1 := hid k1; have C2 := hid k2
  clear hle1 hle2 hle3 hle0 k1 k2 g1 g2 hd1 hd2 hz hz2 ih hr hr2 hl1 hl2
  by_cases hxy : x = y
  ·subst hxy
   rw [if_pos rfl] at hEm hsl
   have HE := hid hEm; have HDD := hid hd
   have HS1 : Hid (e1 = E → L0 = (1, x) :: L1) := hid (fun h => by rw [hsl, if_pos h, if_pos rfl])
   have HS2 : Hid (¬ e1 = E → 1 + e2 = E → L0 = (3, x) :: L2) := hid (fun h h' => by rw [hsl, if_neg h, if_pos h'])
   have HS3 : Hid (¬ e1 = E → ¬ 1 + e2 = E → L0 = (4, x) :: L3) := hid (fun h h' => by rw [hsl, if_neg h, if_neg h'])
   have HR1 := hid (hr1 d (by omega) (by omega)); have HR2 := hid (hr2' (by omega)); have HR3 := hid (hr3 (by omega))
   clear hr1 hr2' hr3 hEm hsl hd
   have q2 := C2.out w (Below.refl _ _)
   go_enter Tryz.func33, Tryz.ntmps33
   go_upto_region 8 with (fail)
   clear q2
   have hX := Blk.new w 116 #[.int .i64 1, .int .i64 x]
   have hB : Below w.heap.size w (w.alloc (.cells #[.int .i64 1, .int .i64 x] 116)) := (Below.refl _ w).alloc (Nat.le_refl _) _
   generalize w.alloc (.cells #[.int .i64 1, .int .i64 x] 116) = WB at *
   have hq1 := fun (p : Blw WB.heap.size WB) => C1.out _ (hB.trans ((Blw.h p).mono hB.size))
   have hq2 := fun (p : Blw WB.heap.size WB) => C2.out _ (hB.trans ((Blw.h p).mono hB.size))
   refine wp_region_blw (by kernel_rfl) (by kernel_rfl) ?_
   repeat (go_big_quiet_step (fail))
   refine wpQuiet_nil ?_
   rintro WD ⟨⟨_, hb3⟩, rfl⟩
   have hXl := hX.lt
   replace hX := hX.below hb3 hXl; replace hB := hB.trans (hb3.mono hB.size); clear hb3 hq1 hq2 hXl
   have qX := fun i => hX.cell i
   have qF := fun i => hX.frozen i
   go_upto_region 11 with (fail)
   clear qX qF
   rename World => WR
   refine wp_region_G (fun _ => True) 11 (by kernel_rfl) ?_
   replace hB := hB.drew; replace hX := hX.drew
   generalize WR.drew = WD at *
   have hTT : True := trivial
   refine wpG_take2 (i := 0) (v := ?v1_0) rfl (by kernel_rfl) (by kernel_rfl) (by kernel_rfl) rfl (fun _ _ _ h => h) (Or.inl ⟨by rfl, ?h1_0⟩) hTT ?r1_0
   case h1_0 => intro wq hSw; go_simp <;> with_reducible rfl
   simp only [List.getElem_toArray, List.getElem_cons_zero, List.getElem_cons_succ, Act.put, List.setIfInBounds_toArray, List.set_cons_zero, List.set_cons_succ]
   refine wpG_take2 (i := 1) (v := ?v1_1) rfl (by kernel_rfl) (by kernel_rfl) (by kernel_rfl) rfl (fun _ _ _ h => h) (Or.inl ⟨by rfl, ?h1_1⟩) hTT ?r1_1
   case h1_1 => intro wq hSw; go_simp <;> with_reducible rfl
   simp only [List.getElem_toArray, List.getElem_cons_zero, List.getElem_cons_succ, Act.put, List.setIfInBounds_toArray, List.set_cons_zero, List.set_cons_succ]
   refine wpG_take2 (i := 2) (v := ?v1_2) rfl (by kernel_rfl) (by kernel_rfl) (by kernel_rfl) rfl (fun _ _ _ h => h) (Or.inl ⟨by rfl, ?h1_2⟩) hTT ?r1_2
   case h1_2 => intro wq hSw; go_simp <;> with_reducible rfl
   simp only [List.getElem_toArray, List.getElem_cons_zero, List.getElem_cons_succ, Act.put, List.setIfInBounds_toArray, List.set_cons_zero, List.set_cons_succ]
   refine wpG_take2 (i := 3) (v := ?v1_3) rfl (by kernel_rfl) (by kernel_rfl) (by kernel_rfl) rfl (fun _ _ _ h => h) (Or.inl ⟨by rfl, ?h1_3⟩) hTT ?r1_3
   case h1_3 => intro wq hSw; go_simp <;> with_reducible rfl
   simp only [List.getElem_toArray, List.getElem_cons_zero, List.getElem_cons_succ, Act.put, List.setIfInBounds_toArray, List.set_cons_zero, List.set_cons_succ]
   refine wpG_take2 (i := 4) (v := ?v1_4) rfl (by kernel_rfl) (by kernel_rfl) (by kernel_rfl) rfl (fun _ _ _ h => h) (Or.inl ⟨by rfl, ?h1_4⟩) hTT ?r1_4
   case h1_4 => intro wq hSw; go_simp <;> with_reducible rfl
   simp only [List.getElem_toArray, List.getElem_cons_zero, List.getElem_cons_succ, Act.put, List.setIfInBounds_toArray, List.set_cons_zero, List.set_cons_succ]
   refine wpG_one (i := 5) rfl (by kernel_rfl) (fun K hK => ?_)
   go_simp
   refine (HR1.out _ hB).mono ?_
   rintro e wz ⟨⟨v1, rfl, hv1⟩, hb⟩
   have hBs := hB.size
   have hXl := hX.lt
   replace hX := hX.below hb hXl; replace hB := hB.trans (hb.mono hBs); replace hv1 := fun h => own_mono (hv1 h) hBs; clear hb hBs hXl
   refine hK _ _ (.inr hTT) ?_
   clear hK K
   try simp only [List.getElem_toArray, List.getElem_cons_zero, List.getElem_cons_succ, Act.put, List.setIfInBounds_toArray, List.set_cons_zero, List.set_cons_succ]
   refine wpG_take2 (i := 6) (v := ?v1_6) rfl (by kernel_rfl) (by kernel_rfl) (by kernel_rfl) rfl (fun _ _ _ h => h) (Or.inl ⟨by rfl, ?h1_6⟩) hTT ?r1_6
   case h1_6 => intro wq hSw; go_simp <;> with_reducible rfl
   simp only [List.getElem_toArray, List.getElem_cons_zero, List.getElem_cons_succ, Act.put, List.setIfInBounds_toArray, List.set_cons_zero, List.set_cons_succ]
   refine wpG_take2 (i := 7) (v := ?v1_7) rfl (by kernel_rfl) (by kernel_rfl) (by kernel_rfl) rfl (fun _ _ _ h => h) (Or.inl ⟨by rfl, ?h1_7⟩) hTT ?r1_7
   case h1_7 => intro wq hSw; go_simp <;> with_reducible rfl
   simp only [List.getElem_toArray, List.getElem_cons_zero, List.getElem_cons_succ, Act.put, List.setIfInBounds_toArray, List.set_cons_zero, List.set_cons_succ]
   refine wpG_take2 (i := 8) (v := ?v1_8) rfl (by kernel_rfl) (by kernel_rfl) (by kernel_rfl) rfl (fun _ _ _ h => h) (Or.inl ⟨by rfl, ?h1_8⟩) hTT ?r1_8
   case h1_8 => intro wq hSw; go_simp <;> with_reducible rfl
   simp only [List.getElem_toArray, List.getElem_cons_zero, List.getElem_cons_succ, Act.put, List.setIfInBounds_toArray, List.set_cons_zero, List.set_cons_succ]
   refine wpG_take2 (i := 9) (v := ?v1_9) rfl (by kernel_rfl) (by kernel_rfl) (by kernel_rfl) rfl (fun _ _ _ h => h) (Or.inl ⟨by rfl, ?h1_9⟩) hTT ?r1_9
   case h1_9 => intro wq hSw; go_simp <;> with_reducible rfl
   simp only [List.getElem_toArray, List.getElem_cons_zero, List.getElem_cons_succ, Act.put, List.setIfInBounds_toArray, List.set_cons_zero, List.set_cons_succ]
   refine wpG_one (i := 10) rfl (by kernel_rfl) (fun K hK => ?_)
   go_simp
   refine hK _ _ (.inr hTT) ?_
   clear hK K
   try simp only [List.getElem_toArray, List.getElem_cons_zero, List.getElem_cons_succ, Act.put, List.setIfInBounds_toArray, List.set_cons_zero, List.set_cons_succ]
   refine wpG_done (by kernel_rfl) ?_ _
   clear hTT
   clear HR1
   by_cases hq : d = (e1 : Int)
   ·have hdE : d = (E : Int) := by have := HE.out; have := HDD.out; omega
    have ho := hv1 hq
    rw [decide_eq_true hq]
    have HSL := hid (HS1.out (by have := HE.out; have := HDD.out; omega))
    clear hv1 hq hS2 hS1 HR2 HR3 HS1 HS2 HS3
    have qX := fun i => hX.cell i
    obtain ⟨pa, pc, rfl⟩ := own_slice ho
    have hlen := M1.out
    have hBs := hB.size
    go_wp2_with (at_builtin; refine wpList_append_any _ rfl _ _ 37 rfl w.heap.size 116 i116 (.agg #[.int .i64 0, .int .i64 0]) 2 16 Tryz.underlying37 hi hz0 hz1' hz2' rfl (by decide) (.slice (some ⟨wz.heap.size, 0, none⟩) 1 1) 1 [.int .i64 1, .int .i64 x] rfl (ownS1 wz w.heap.size 1 x hBs) (wz.heap.size + 1) pa (L1).length pc ((L1).flatMap stI) rfl (((Rd.of_own ho).below ((Below.refl _ wz).alloc (Nat.le_refl _) (.cells #[.int .i64 1, .int .i64 x] 116))).more (by omega)).reads (one_stI _) (by unfold maxLen; omega) (by omega) (by simp only [World.size_alloc]; omega) (fun v' w' ho' hgrow hob => ?_))
    have hB2 := (hB.alloc hBs (.cells #[.int .i64 1, .int .i64 x] 116)).grown hgrow (by simp only [World.size_alloc]; omega) (fun g hg => ((ownS1 wz w.heap.size 1 x hBs).lt g hg).1)
    go_ret2
    exact ⟨⟨v', by first | (rw [decide_eq_true hdE]; rfl) | (rw [decide_eq_true rfl]; rfl), fun _ => (by rw [HSL.out, List.length_cons, Nat.add_comm, List.flatMap_cons]; exact ho')⟩, hB2⟩
   ·rw [decide_eq_false hq]
    have HQ := hid hq
    clear hv1 hq HS1 hX
    go_wp2_with (fail)
    refine (HR2.out _ hB).mono ?_
    rintro e wz2 ⟨⟨v2, rfl, hv2⟩, hb⟩
    have hBs := hB.size
    replace hB := hB.trans (hb.mono hBs); replace hv2 := fun h => own_mono (hv2 h) hBs; clear hb HR2 hBs
    clear wz; rename World => wz
    by_cases hq : d - 1 = (e2 : Int)
    ·have hdE : d = (E : Int) := by have := HE.out; have := HDD.out; omega
     have ho := hv2 hq
     rw [decide_eq_true hq]
     have HSL := hid (HS2.out (by have := HE.out; have := HQ.out; have := HDD.out; omega) (by omega))
     clear hv2 hq hS2 hS1 HR3 HS2 HS3
     have hc2' := C2.out _ hB
     obtain ⟨pa, pc, rfl⟩ := own_slice ho
     have hlen := M2.out
     have hBs := hB.size
     go_wp2_with (at_builtin; refine wpList_append_any _ rfl _ _ 37 rfl w.heap.size 116 i116 (.agg #[.int .i64 0, .int .i64 0]) 2 16 Tryz.underlying37 hi hz0 hz1' hz2' rfl (by decide) (.slice (some ⟨wz.heap.size, 0, none⟩) 1 1) 1 [.int .i64 3, .int .i64 x] rfl (ownS1 wz w.heap.size 3 x hBs) (wz.heap.size + 1) pa (L2).length pc ((L2).flatMap stI) rfl (((Rd.of_own ho).below ((Below.refl _ wz).alloc (Nat.le_refl _) (.cells #[.int .i64 3, .int .i64 x] 116))).more (by omega)).reads (one_stI _) (by unfold maxLen; omega) (by omega) (by simp only [World.size_alloc]; omega) (fun v' w' ho' hgrow hob => ?_))
     have hB2 := (hB.alloc hBs (.cells #[.int .i64 3, .int .i64 x] 116)).grown hgrow (by simp only [World.size_alloc]; omega) (fun g hg => ((ownS1 wz w.heap.size 3 x hBs).lt g hg).1)
     go_ret2
     exact ⟨⟨v', by first | (rw [decide_eq_true hdE]; rfl) | (rw [decide_eq_true rfl]; rfl), fun _ => (by rw [HSL.out, List.length_cons, Nat.add_comm, List.flatMap_cons]; exact ho')⟩, hB2⟩
    ·rw [decide_eq_false hq]
     have HQ2 := hid hq
     clear hv2 hq HS2
     go_wp2_with (fail)
     refine (HR3.out _ hB).mono ?_
     rintro e wz3 ⟨⟨v3, rfl, hv3⟩, hb⟩
     have hBs := hB.size
     replace hB := hB.trans (hb.mono hBs); replace hv3 := fun h => own_mono (hv3 h) hBs; clear hb HR3 hBs
     clear wz; rename World => wz
     by_cases hq : d - 1 = (e3 : Int)
     ·have hdE : d = (E : Int) := by have := HE.out; have := HDD.out; omega
      have ho := hv3 hq
      rw [decide_eq_true hq]
      have HSL := hid (HS3.out (by have := HE.out; have := HQ.out; have := HDD.out; omega) (by have := HE.out; have := HQ2.out; have := HDD.out; omega))
      clear hv3 hq hS2 hS1 HS3
      have hc1' := C1.out _ hB
      obtain ⟨pa, pc, rfl⟩ := own_slice ho
      have hlen := M3.out
      have hBs := hB.size
      go_wp2_with (at_builtin; refine wpList_append_any _ rfl _ _ 37 rfl w.heap.size 116 i116 (.agg #[.int .i64 0, .int .i64 0]) 2 16 Tryz.underlying37 hi hz0 hz1' hz2' rfl (by decide) (.slice (some ⟨wz.heap.size, 0, none⟩) 1 1) 1 [.int .i64 4, .int .i64 x] rfl (ownS1 wz w.heap.size 4 x hBs) (wz.heap.size + 1) pa (L3).length pc ((L3).flatMap stI) rfl (((Rd.of_own ho).below ((Below.refl _ wz).alloc (Nat.le_refl _) (.cells #[.int .i64 4, .int .i64 x] 116))).more (by omega)).reads (one_stI _) (by unfold maxLen; omega) (by omega) (by simp only [World.size_alloc]; omega) (fun v' w' ho' hgrow hob => ?_))
      have hB2 := (hB.alloc hBs (.cells #[.int .i64 4, .int .i64 x] 116)).grown hgrow (by simp only [World.size_alloc]; omega) (fun g hg => ((ownS1 wz w.heap.size 4 x hBs).lt g hg).1)
      go_ret2
      exact ⟨⟨v', by first | (rw [decide_eq_true hdE]; rfl) | (rw [decide_eq_true rfl]; rfl), fun _ => (by rw [HSL.out, List.length_cons, Nat.add_comm, List.flatMap_cons]; exact ho')⟩, hB2⟩
     ·rw [decide_eq_false hq]
      have hdE : ¬ d = (E : Int) := by have := HE.out; have := HQ.out; have := HQ2.out; have := HDD.out; omega
      have HDE := hid hdE
      clear hv3 hq hS1 hS2 hdE
      go_wp2_with (fail)
      go_ret2
      exact ⟨⟨_, by rw [decide_eq_false HDE.out]; rfl, fun h => absurd h HDE.out⟩, hB⟩
  ·rw [if_neg hxy] at hEm hsl
   have HE := hid hEm; have HDD := hid hd
   have HS1 : Hid (1 + e1 = E → L0 = (2, y) :: L1) := hid (fun h => by rw [hsl, if_pos h, if_neg hxy])
   have HS2 : Hid (¬ 1 + e1 = E → 1 + e2 = E → L0 = (3, y) :: L2) := hid (fun h h' => by rw [hsl, if_neg h, if_pos h'])
   have HS3 : Hid (¬ 1 + e1 = E → ¬ 1 + e2 = E → L0 = (4, x) :: L3) := hid (fun h h' => by rw [hsl, if_neg h, if_neg h'])
   have HR1 := hid (hr1 (d - 1) (by omega) (by omega)); have HR2 := hid (hr2' (by omega)); have HR3 := hid (hr3 (by omega))
   clear hr1 hr2' hr3 hEm hsl hd
   have q2 := C2.out w (Below.refl _ _)
   go_enter Tryz.func33, Tryz.ntmps33
   go_upto_region 8 with (fail)
   clear q2
   have hX := Blk.new w 116 #[.int .i64 1, .int .i64 y]
   have hB : Below w.heap.size w (w.alloc (.cells #[.int .i64 1, .int .i64 y] 116)) := (Below.refl _ w).alloc (Nat.le_refl _) _
   generalize w.alloc (.cells #[.int .i64 1, .int .i64 y] 116) = WB at *
   have hq1 := fun (p : Blw WB.heap.size WB) => C1.out _ (hB.trans ((Blw.h p).mono hB.size))
   have hq2 := fun (p : Blw WB.heap.size WB) => C2.out _ (hB.trans ((Blw.h p).mono hB.size))
   refine wp_region_blw (by kernel_rfl) (by kernel_rfl) ?_
   repeat (go_big_quiet_step (fail))
   refine wpQuiet_nil ?_
   rintro WD ⟨⟨_, hb3⟩, rfl⟩
   have hXl := hX.lt
   replace hX := hX.below hb3 hXl; replace hB := hB.trans (hb3.mono hB.size); clear hb3 hq1 hq2 hXl
   have qX := fun i => hX.cell i
   have qF := fun i => hX.frozen i
   go_upto_region 11 with (fail)
   replace hX := hX.set_ 0 (.int .i64 2)
   replace hB := hB.setCell (p := ⟨w.heap.size, 0, none⟩) (Nat.le_refl _) (.int .i64 2)
   clear qX qF
   generalize WD.setCell ⟨w.heap.size, 0, none⟩ (.int .i64 2) = WC at *
   rename World => WR
   refine wp_region_G (fun _ => True) 11 (by kernel_rfl) ?_
   replace hB := hB.drew; replace hX := hX.drew
   generalize WR.drew = WD at *
   have hTT : True := trivial
   refine wpG_take2 (i := 0) (v := ?v2_0) rfl (by kernel_rfl) (by kernel_rfl) (by kernel_rfl) rfl (fun _ _ _ h => h) (Or.inl ⟨by rfl, ?h2_0⟩) hTT ?r2_0
   case h2_0 => intro wq hSw; go_simp <;> with_reducible rfl
   simp only [List.getElem_toArray, List.getElem_cons_zero, List.getElem_cons_succ, Act.put, List.setIfInBounds_toArray, List.set_cons_zero, List.set_cons_succ]
   refine wpG_take2 (i := 1) (v := ?v2_1) rfl (by kernel_rfl) (by kernel_rfl) (by kernel_rfl) rfl (fun _ _ _ h => h) (Or.inl ⟨by rfl, ?h2_1⟩) hTT ?r2_1
   case h2_1 => intro wq hSw; go_simp <;> with_reducible rfl
   simp only [List.getElem_toArray, List.getElem_cons_zero, List.getElem_cons_succ, Act.put, List.setIfInBounds_toArray, List.set_cons_zero, List.set_cons_succ]
   refine wpG_take2 (i := 2) (v := ?v2_2) rfl (by kernel_rfl) (by kernel_rfl) (by kernel_rfl) rfl (fun _ _ _ h => h) (Or.inl ⟨by rfl, ?h2_2⟩) hTT ?r2_2
   case h2_2 => intro wq hSw; go_simp <;> with_reducible rfl
   simp only [List.getElem_toArray, List.getElem_cons_zero, List.getElem_cons_succ, Act.put, List.setIfInBounds_toArray, List.set_cons_zero, List.set_cons_succ]
   refine wpG_take2 (i := 3) (v := ?v2_3) rfl (by kernel_rfl) (by kernel_rfl) (by kernel_rfl) rfl (fun _ _ _ h => h) (Or.inl ⟨by rfl, ?h2_3⟩) hTT ?r2_3
   case h2_3 => intro wq hSw; go_simp <;> with_reducible rfl
   simp only [List.getElem_toArray, List.getElem_cons_zero, List.getElem_cons_succ, Act.put, List.setIfInBounds_toArray, List.set_cons_zero, List.set_cons_succ]
   refine wpG_take2 (i := 4) (v := ?v2_4) rfl (by kernel_rfl) (by kernel_rfl) (by kernel_rfl) rfl (fun _ _ _ h => h) (Or.inl ⟨by rfl, ?h2_4⟩) hTT ?r2_4
   case h2_4 => intro wq hSw; go_simp <;> with_reducible rfl
   simp only [List.getElem_toArray, List.getElem_cons_zero, List.getElem_cons_succ, Act.put, List.setIfInBounds_toArray, List.set_cons_zero, List.set_cons_succ]
   refine wpG_one (i := 5) rfl (by kernel_rfl) (fun K hK => ?_)
   go_simp
   refine (HR1.out _ hB).mono ?_
   rintro e wz ⟨⟨v1, rfl, hv1⟩, hb⟩
   have hBs := hB.size
   have hXl := hX.lt
   replace hX := hX.below hb hXl; replace hB := hB.trans (hb.mono hBs); replace hv1 := fun h => own_mono (hv1 h) hBs; clear hb hBs hXl
   refine hK _ _ (.inr hTT) ?_
   clear hK K
   try simp only [List.getElem_toArray, List.getElem_cons_zero, List.getElem_cons_succ, Act.put, List.setIfInBounds_toArray, List.set_cons_zero, List.set_cons_succ]
   refine wpG_take2 (i := 6) (v := ?v2_6) rfl (by kernel_rfl) (by kernel_rfl) (by kernel_rfl) rfl (fun _ _ _ h => h) (Or.inl ⟨by rfl, ?h2_6⟩) hTT ?r2_6
   case h2_6 => intro wq hSw; go_simp <;> with_reducible rfl
   simp only [List.getElem_toArray, List.getElem_cons_zero, List.getElem_cons_succ, Act.put, List.setIfInBounds_toArray, List.set_cons_zero, List.set_cons_succ]
   refine wpG_take2 (i := 7) (v := ?v2_7) rfl (by kernel_rfl) (by kernel_rfl) (by kernel_rfl) rfl (fun _ _ _ h => h) (Or.inl ⟨by rfl, ?h2_7⟩) hTT ?r2_7
   case h2_7 => intro wq hSw; go_simp <;> with_reducible rfl
   simp only [List.getElem_toArray, List.getElem_cons_zero, List.getElem_cons_succ, Act.put, List.setIfInBounds_toArray, List.set_cons_zero, List.set_cons_succ]
   refine wpG_take2 (i := 8) (v := ?v2_8) rfl (by kernel_rfl) (by kernel_rfl) (by kernel_rfl) rfl (fun _ _ _ h => h) (Or.inl ⟨by rfl, ?h2_8⟩) hTT ?r2_8
   case h2_8 => intro wq hSw; go_simp <;> with_reducible rfl
   simp only [List.getElem_toArray, List.getElem_cons_zero, List.getElem_cons_succ, Act.put, List.setIfInBounds_toArray, List.set_cons_zero, List.set_cons_succ]
   refine wpG_take2 (i := 9) (v := ?v2_9) rfl (by kernel_rfl) (by kernel_rfl) (by kernel_rfl) rfl (fun _ _ _ h => h) (Or.inl ⟨by rfl, ?h2_9⟩) hTT ?r2_9
   case h2_9 => intro wq hSw; go_simp <;> with_reducible rfl
   simp only [List.getElem_toArray, List.getElem_cons_zero, List.getElem_cons_succ, Act.put, List.setIfInBounds_toArray, List.set_cons_zero, List.set_cons_succ]
   refine wpG_one (i := 10) rfl (by kernel_rfl) (fun K hK => ?_)
   go_simp
   refine hK _ _ (.inr hTT) ?_
   clear hK K
   try simp only [List.getElem_toArray, List.getElem_cons_zero, List.getElem_cons_succ, Act.put, List.setIfInBounds_toArray, List.set_cons_zero, List.set_cons_succ]
   refine wpG_done (by kernel_rfl) ?_ _
   clear hTT
   clear HR1
   by_cases hq : (d - 1) = (e1 : Int)
   ·have hdE : d = (E : Int) := by have := HE.out; have := HDD.out; omega
    have ho := hv1 hq
    rw [decide_eq_true hq]
    have HSL := hid (HS1.out (by have := HE.out; have := HDD.out; omega))
    clear hv1 hq hS2 hS1 HR2 HR3 HS1 HS2 HS3
    have qX := fun i => hX.cell i
    obtain ⟨pa, pc, rfl⟩ := own_slice ho
    have hlen := M1.out
    have hBs := hB.size
    go_wp2_with (at_builtin; refine wpList_append_any _ rfl _ _ 37 rfl w.heap.size 116 i116 (.agg #[.int .i64 0, .int .i64 0]) 2 16 Tryz.underlying37 hi hz0 hz1' hz2' rfl (by decide) (.slice (some ⟨wz.heap.size, 0, none⟩) 1 1) 1 [.int .i64 2, .int .i64 y] rfl (ownS1 wz w.heap.size 2 y hBs) (wz.heap.size + 1) pa (L1).length pc ((L1).flatMap stI) rfl (((Rd.of_own ho).below ((Below.refl _ wz).alloc (Nat.le_refl _) (.cells #[.int .i64 2, .int .i64 y] 116))).more (by omega)).reads (one_stI _) (by unfold maxLen; omega) (by omega) (by simp only [World.size_alloc]; omega) (fun v' w' ho' hgrow hob => ?_))
    have hB2 := (hB.alloc hBs (.cells #[.int .i64 2, .int .i64 y] 116)).grown hgrow (by simp only [World.size_alloc]; omega) (fun g hg => ((ownS1 wz w.heap.size 2 y hBs).lt g hg).1)
    go_ret2
    exact ⟨⟨v', by first | (rw [decide_eq_true hdE]; rfl) | (rw [decide_eq_true rfl]; rfl), fun _ => (by rw [HSL.out, List.length_cons, Nat.add_comm, List.flatMap_cons]; exact ho')⟩, hB2⟩
   ·rw [decide_eq_false hq]
    have HQ := hid hq
    clear hv1 hq HS1 hX
    go_wp2_with (fail)
    refine (HR2.out _ hB).mono ?_
    rintro e wz2 ⟨⟨v2, rfl, hv2⟩, hb⟩
    have hBs := hB.size
    replace hB := hB.trans (hb.mono hBs); replace hv2 := fun h => own_mono (hv2 h) hBs; clear hb HR2 hBs
    clear wz; rename World => wz
    by_cases hq : d - 1 = (e2 : Int)
    ·have hdE : d = (E : Int) := by have := HE.out; have := HDD.out; omega
     have ho := hv2 hq
     rw [decide_eq_true hq]
     have HSL := hid (HS2.out (by have := HE.out; have := HQ.out; have := HDD.out; omega) (by omega))
     clear hv2 hq hS2 hS1 HR3 HS2 HS3
     have hc2' := C2.out _ hB
     obtain ⟨pa, pc, rfl⟩ := own_slice ho
     have hlen := M2.out
     have hBs := hB.size
     go_wp2_with (at_builtin; refine wpList_append_any _ rfl _ _ 37 rfl w.heap.size 116 i116 (.agg #[.int .i64 0, .int .i64 0]) 2 16 Tryz.underlying37 hi hz0 hz1' hz2' rfl (by decide) (.slice (some ⟨wz.heap.size, 0, none⟩) 1 1) 1 [.int .i64 3, .int .i64 y] rfl (ownS1 wz w.heap.size 3 y hBs) (wz.heap.size + 1) pa (L2).length pc ((L2).flatMap stI) rfl (((Rd.of_own ho).below ((Below.refl _ wz).alloc (Nat.le_refl _) (.cells #[.int .i64 3, .int .i64 y] 116))).more (by omega)).reads (one_stI _) (by unfold maxLen; omega) (by omega) (by simp only [World.size_alloc]; omega) (fun v' w' ho' hgrow hob => ?_))
     have hB2 := (hB.alloc hBs (.cells #[.int .i64 3, .int .i64 y] 116)).grown hgrow (by simp only [World.size_alloc]; omega) (fun g hg => ((ownS1 wz w.heap.size 3 y hBs).lt g hg).1)
     go_ret2
     exact ⟨⟨v', by first | (rw [decide_eq_true hdE]; rfl) | (rw [decide_eq_true rfl]; rfl), fun _ => (by rw [HSL.out, List.length_cons, Nat.add_comm, List.flatMap_cons]; exact ho')⟩, hB2⟩
    ·rw [decide_eq_false hq]
     have HQ2 := hid hq
     clear hv2 hq HS2
     go_wp2_with (fail)
     refine (HR3.out _ hB).mono ?_
     rintro e wz3 ⟨⟨v3, rfl, hv3⟩, hb⟩
     have hBs := hB.size
     replace hB := hB.trans (hb.mono hBs); replace hv3 := fun h => own_mono (hv3 h) hBs; clear hb HR3 hBs
     clear wz; rename World => wz
     by_cases hq : d - 1 = (e3 : Int)
     ·have hdE : d = (E : Int) := by have := HE.out; have := HDD.out; omega
      have ho := hv3 hq
      rw [decide_eq_true hq]
      have HSL := hid (HS3.out (by have := HE.out; have := HQ.out; have := HDD.out; omega) (by have := HE.out; have := HQ2.out; have := HDD.out; omega))
      clear hv3 hq hS2 hS1 HS3
      have hc1' := C1.out _ hB
      obtain ⟨pa, pc, rfl⟩ := own_slice ho
      have hlen := M3.out
      have hBs := hB.size
      go_wp2_with (at_builtin; refine wpList_append_any _ rfl _ _ 37 rfl w.heap.size 116 i116 (.agg #[.int .i64 0, .int .i64 0]) 2 16 Tryz.underlying37 hi hz0 hz1' hz2' rfl (by decide) (.slice (some ⟨wz.heap.size, 0, none⟩) 1 1) 1 [.int .i64 4, .int .i64 x] rfl (ownS1 wz w.heap.size 4 x hBs) (wz.heap.size + 1) pa (L3).length pc ((L3).flatMap stI) rfl (((Rd.of_own ho).below ((Below.refl _ wz).alloc (Nat.le_refl _) (.cells #[.int .i64 4, .int .i64 x] 116))).more (by omega)).reads (one_stI _) (by unfold maxLen; omega) (by omega) (by simp only [World.size_alloc]; omega) (fun v' w' ho' hgrow hob => ?_))
      have hB2 := (hB.alloc hBs (.cells #[.int .i64 4, .int .i64 x] 116)).grown hgrow (by simp only [World.size_alloc]; omega) (fun g hg => ((ownS1 wz w.heap.size 4 x hBs).lt g hg).1)
      go_ret2
      exact ⟨⟨v', by first | (rw [decide_eq_true hdE]; rfl) | (rw [decide_eq_true rfl]; rfl), fun _ => (by rw [HSL.out, List.length_cons, Nat.add_comm, List.flatMap_cons]; exact ho')⟩, hB2⟩
     ·rw [decide_eq_false hq]
      have hdE : ¬ d = (E : Int) := by have := HE.out; have := HQ.out; have := HQ2.out; have := HDD.out; omega
      have HDE := hid hdE
      clear hv3 hq hS1 hS2 hdE
      go_wp2_with (fail)
      go_ret2
      exact ⟨⟨_, by rw [decide_eq_false HDE.out]; rfl, fun h => absurd h HDE.out⟩, hB⟩
end
section
open Go.RowKit Go.Lib Go.Maps
def toU (p : Int × Int) : Int × UInt8 := (p.1, UInt8.ofNat p.2.toNat)
theorem lbS_hd {x : Int} {xs : List Int} : hd (lbS (x :: xs)) = UInt8.ofNat x.toNat ∧ tl (lbS (x :: xs)) = lbS xs := by
 have h := sz_cons (lbS (x :: xs)) (by rw [lbS_size]; simp)
 have h1 : (lbS (x :: xs)).data.toList = UInt8.ofNat x.toNat :: lbL xs := rfl
 rw [h1] at h
 obtain ⟨h2, h3⟩ := List.cons.inj h
 refine ⟨h2.symm, ByteArray.ext (Array.ext' ?_)⟩
 exact h3.symm
theorem best3 {c0 c2 c3 E : Nat} (hE : E = min c0 (min c2 c3)) {m0 m2 m3 : MV} (h0 : costN m0 = c0) (h2 : costN m2 = c2) (h3 : costN m3 = c3) :
  bestF costN [m0, m2, m3] = some (if c0 = E then m0 else if c2 = E then m2 else m3) := by
 simp only [bestF, List.foldl_cons, List.foldl_nil, h0, h2]
 congr 1
 by_cases k1 : c2 < c0
 ·rw [if_pos k1, h2, h3, if_neg (by omega : ¬ c0 = E)]
  by_cases k2 : c3 < c2
  ·rw [if_pos k2, if_neg (by omega)]
  ·rw [if_neg k2, if_pos (by omega)]
 ·rw [if_neg k1, h0, h3]
  by_cases k2 : c3 < c0
  ·rw [if_pos k2, if_neg (by omega), if_neg (by omega)]
  ·rw [if_neg k2, if_pos (by omega)]
theorem stepsG_sF : ∀ (k : Nat) (a b : List Int), (∀ x ∈ a, 0 ≤ x ∧ x ≤ 2) → (∀ x ∈ b, 0 ≤ x ∧ x ≤ 2) → stepsG k (lbS a) (lbS b) = (sF k a b).map toU
 | 0, _, _, _, _ => rfl
 | k + 1, [], [], _, _ => by
  have e : movesP 4 (lbS []) (lbS []) = [] := by
   rw [movesP_four]
   simp only [mvO, lbS_size, List.length_nil, Nat.lt_irrefl, false_and, if_false, Option.toList_none, List.append_nil]
  rw [stepsG, e]
  rfl
 | k + 1, [], y :: ys, ha, hb => by
  have hy : ∀ x ∈ ys, 0 ≤ x ∧ x ≤ 2 := fun x hx => hb x (List.mem_cons_of_mem _ hx)
  have e : movesP 4 (lbS []) (lbS (y :: ys)) = [⟨3, UInt8.ofNat y.toNat, lbS [], lbS ys⟩] := by
   rw [movesP_four]
   simp only [mvO, lbS_size, lbS_hd, List.length_nil, List.length_cons, Nat.lt_irrefl, Nat.zero_lt_succ, false_and, if_false, if_true, Option.toList_none, Option.toList_some, List.append_nil, List.nil_append]
  rw [stepsG, e, show sF (k + 1) [] (y :: ys) = (3, y) :: sF k [] ys from rfl, List.map_cons, ← stepsG_sF k [] ys ha hy]
  rfl
 | k + 1, x :: xs, [], ha, hb => by
  have hx' : ∀ z ∈ xs, 0 ≤ z ∧ z ≤ 2 := fun z hz => ha z (List.mem_cons_of_mem _ hz)
  have e : movesP 4 (lbS (x :: xs)) (lbS []) = [⟨4, UInt8.ofNat x.toNat, lbS xs, lbS []⟩] := by
   rw [movesP_four]
   simp only [mvO, lbS_size, lbS_hd, List.length_nil, List.length_cons, Nat.lt_irrefl, Nat.zero_lt_succ, false_and, and_false, if_false, if_true, Option.toList_none, Option.toList_some, List.append_nil, List.nil_append]
  rw [stepsG, e, show sF (k + 1) (x :: xs) [] = (4, x) :: sF k xs [] from rfl, List.map_cons, ← stepsG_sF k xs [] hx' hb]
  rfl
 | k + 1, x :: xs, y :: ys, ha, hb => by
  have hx' : ∀ z ∈ xs, 0 ≤ z ∧ z ≤ 2 := fun z hz => ha z (List.mem_cons_of_mem _ hz)
  have hy : ∀ z ∈ ys, 0 ≤ z ∧ z ≤ 2 := fun z hz => hb z (List.mem_cons_of_mem _ hz)
  have hx0 := ha x List.mem_cons_self
  have hy0 := hb y List.mem_cons_self
  have hEm := ed_moves x y xs ys
  have s1 := stepsG_sF k xs ys hx' hy
  have s2 := stepsG_sF k (x :: xs) ys ha hy
  have s3 := stepsG_sF k xs (y :: ys) hx' hb
  have c1 := edB_int hx' hy
  have c2 := edB_int ha hy
  have c3 := edB_int hx' hb
  rw [stepsG, movesP_four]
  rw [sF]
  by_cases hxy : x = y
  ·subst hxy
   rw [if_pos rfl] at hEm
   have e0 : mvO 0 (lbS (x :: xs)) (lbS (x :: ys)) = some ⟨1, UInt8.ofNat x.toNat, lbS xs, lbS ys⟩ := by simp [mvO, lbS_size, lbS_hd]
   have e1 : mvO 1 (lbS (x :: xs)) (lbS (x :: ys)) = none := by simp [mvO, lbS_size, lbS_hd]
   have e2 : mvO 2 (lbS (x :: xs)) (lbS (x :: ys)) = some ⟨3, UInt8.ofNat x.toNat, lbS (x :: xs), lbS ys⟩ := by simp [mvO, lbS_size, lbS_hd]
   have e3 : mvO 3 (lbS (x :: xs)) (lbS (x :: ys)) = some ⟨4, UInt8.ofNat x.toNat, lbS xs, lbS (x :: ys)⟩ := by simp [mvO, lbS_size, lbS_hd]
   rw [e0, e1, e2, e3]
   simp only [Option.toList_some, Option.toList_none, List.append_nil, List.cons_append, List.nil_append]
   rw [best3 hEm (by simp [costN, c1]) (by simp [costN, c2, Nat.add_comm]) (by simp [costN, c3, Nat.add_comm])]
   simp only [if_true]
   by_cases k1 : ed xs ys = ed (x :: xs) (x :: ys)
   ·rw [if_pos k1, if_pos k1]
    rw [List.map_cons, ← s1]; rfl
   ·rw [if_neg k1, if_neg k1]
    by_cases k2 : 1 + ed (x :: xs) ys = ed (x :: xs) (x :: ys)
    ·rw [if_pos k2, if_pos k2]
     rw [List.map_cons, ← s2]; rfl
    ·rw [if_neg k2, if_neg k2]
     rw [List.map_cons, ← s3]; rfl
  ·rw [if_neg hxy] at hEm
   have hne : UInt8.ofNat x.toNat ≠ UInt8.ofNat y.toNat := fun h => hxy (u8_inj hx0 hy0 h)
   have e0 : mvO 0 (lbS (x :: xs)) (lbS (y :: ys)) = none := by simp [mvO, lbS_size, lbS_hd, hne]
   have e1 : mvO 1 (lbS (x :: xs)) (lbS (y :: ys)) = some ⟨2, UInt8.ofNat y.toNat, lbS xs, lbS ys⟩ := by simp [mvO, lbS_size, lbS_hd, hne]
   have e2 : mvO 2 (lbS (x :: xs)) (lbS (y :: ys)) = some ⟨3, UInt8.ofNat y.toNat, lbS (x :: xs), lbS ys⟩ := by simp [mvO, lbS_size, lbS_hd]
   have e3 : mvO 3 (lbS (x :: xs)) (lbS (y :: ys)) = some ⟨4, UInt8.ofNat x.toNat, lbS xs, lbS (y :: ys)⟩ := by simp [mvO, lbS_size, lbS_hd]
   rw [e0, e1, e2, e3]
   simp only [Option.toList_some, Option.toList_none, List.append_nil, List.cons_append, List.nil_append]
   rw [best3 hEm (by simp [costN, c1, Nat.add_comm]) (by simp [costN, c2, Nat.add_comm]) (by simp [costN, c3, Nat.add_comm])]
   simp only [if_neg hxy]
   by_cases k1 : 1 + ed xs ys = ed (x :: xs) (y :: ys)
   ·rw [if_pos k1, if_pos k1]
    rw [List.map_cons, ← s1]; rfl
   ·rw [if_neg k1, if_neg k1]
    by_cases k2 : 1 + ed (x :: xs) ys = ed (x :: xs) (y :: ys)
    ·rw [if_pos k2, if_pos k2]
     rw [List.map_cons, ← s2]; rfl
    ·rw [if_neg k2, if_neg k2]
     rw [List.map_cons, ← s3]; rfl
theorem sF_small : ∀ (k : Nat) (a b : List Int), (∀ x ∈ a, 0 ≤ x ∧ x ≤ 2) → (∀ x ∈ b, 0 ≤ x ∧ x ≤ 2) → ∀ p ∈ sF k a b, 0 ≤ p.2 ∧ p.2 ≤ 2
 | 0, _, _, _, _ => fun p hp => absurd hp List.not_mem_nil
 | k + 1, [], [], _, _ => fun p hp => absurd hp List.not_mem_nil
 | k + 1, [], y :: ys, ha, hb => by
  rw [show sF (k + 1) [] (y :: ys) = (3, y) :: sF k [] ys from rfl]
  intro p hp
  rcases List.mem_cons.1 hp with rfl | hp
  ·exact hb y List.mem_cons_self
  ·exact sF_small k [] ys ha (fun x hx => hb x (List.mem_cons_of_mem _ hx)) p hp
 | k + 1, x :: xs, [], ha, hb => by
  rw [show sF (k + 1) (x :: xs) [] = (4, x) :: sF k xs [] from rfl]
  intro p hp
  rcases List.mem_cons.1 hp with rfl | hp
  ·exact ha x List.mem_cons_self
  ·exact sF_small k xs [] (fun z hz => ha z (List.mem_cons_of_mem _ hz)) hb p hp
 | k + 1, x :: xs, y :: ys, ha, hb => by
  have hx' : ∀ z ∈ xs, 0 ≤ z ∧ z ≤ 2 := fun z hz => ha z (List.mem_cons_of_mem _ hz)
  have hy : ∀ z ∈ ys, 0 ≤ z ∧ z ≤ 2 := fun z hz => hb z (List.mem_cons_of_mem _ hz)
  intro p hp
  rw [sF] at hp
  by_cases q1 : (if x = y then ed xs ys else 1 + ed xs ys) = ed (x :: xs) (y :: ys)
  ·rw [if_pos q1] at hp
   rcases List.mem_cons.1 hp with rfl | hp
   ·exact hb y List.mem_cons_self
   ·exact sF_small k xs ys hx' hy p hp
  ·rw [if_neg q1] at hp
   by_cases q2 : 1 + ed (x :: xs) ys = ed (x :: xs) (y :: ys)
   ·rw [if_pos q2] at hp
    rcases List.mem_cons.1 hp with rfl | hp
    ·exact hb y List.mem_cons_self
    ·exact sF_small k (x :: xs) ys ha hy p hp
   ·rw [if_neg q2] at hp
    rcases List.mem_cons.1 hp with rfl | hp
    ·exact ha x List.mem_cons_self
    ·exact sF_small k xs (y :: ys) hx' hb p hp
theorem stI_toU : ∀ L : List (Int × Int), (∀ p ∈ L, 0 ≤ p.2 ∧ p.2 ≤ 2) → L.flatMap stI = (L.map toU).flatMap stC
 | [], _ => rfl
 | p :: L, h => by
  rw [List.flatMap_cons, List.map_cons, List.flatMap_cons, stI_toU L (fun q hq => h q (List.mem_cons_of_mem _ hq))]
  congr 1
  have := h p List.mem_cons_self
  have e : (((UInt8.ofNat p.2.toNat).toNat : Nat) : Int) = p.2 := by simp only [UInt8.toNat_ofNat']; omega
  simp only [stI, stC, toU, e]
end
section
open Go.RowKit Go.Lib
section
variable {W : Int} {A : Option Addr} {n cap : Nat} {cs : List VC} {w : World} {A1 A2 : Option Addr} {n1 n2 c1 c2 : Nat} {l1 l2 : List Int}
def stL (l1 l2 : List Int) : List (Int × UInt8) := (sF (l1.length + l2.length + 1) l1 l2).map toU
theorem Steps_I (h : BkI w A n cap cs) (hk : bookB W cs = true) (h1 : IA w A1 n1 c1 l1) (h2 : IA w A2 n2 c2 l2) (k1 : lnB W l1 = true) (k2 : lnB W l2 = true) :
  Calls Tryz.prog 32 #[.agg #[.int .i64 W, .slice A n cap], .slice A1 n1 c1, .slice A2 n2 c2] w fun e w' => (∃ u, e = .returned (.tuple #[u, .int .i64 0]) ∧ SL w' u (stL l1 l2)) ∧ Below w.heap.size w w' := by
 refine (Steps_yes W A n cap cs A1 n1 c1 l1 A2 n2 c2 l2 w h.max h.2.2.1 h.2.2.2 h1.max h1.2.2 h2.max h2.2.2 hk k1 k2).mono ?_
 rintro e w' ⟨⟨v, rfl, hown⟩, hb⟩
 have hw := book_W hk
 have e0 : stepsG ((lbS l1).size + (lbS l2).size + 1) (lbS l1) (lbS l2) = stL l1 l2 := by
  rw [lbS_size, lbS_size]; exact stepsG_sF _ l1 l2 (ln_small hw k1).2 (ln_small hw k2).2
 rw [e0] at hown
 have hl := sF_len (l1.length + l2.length + 1) l1 l2
 have m1 := lnB_len k1; have m2 := lnB_len k2
 refine ⟨⟨v, rfl, SL.of_own hown ?_⟩, hb⟩
 unfold stL; rw [List.length_map]; omega
theorem refSteps_I (hW : 1 ≤ W ∧ W ≤ 3) (h1 : IA w A1 n1 c1 l1) (h2 : IA w A2 n2 c2 l2) (k1 : lnB W l1 = true) (k2 : lnB W l2 = true) :
  Calls Tryz.prog 33 #[.slice A1 n1 c1, .slice A2 n2 c2, .int .i64 (ed l1 l2 : Nat)] w fun e w' => (∃ u, e = .returned (.tuple #[u, .bool true]) ∧ SL w' u (stL l1 l2)) ∧ Below w.heap.size w w' := by
 have m1 := lnB_len k1; have m2 := lnB_len k2
 have q1 := h1.len; have q2 := h2.len
 refine (refSteps_any (n1 + n2) (l1.length + l2.length + 1) A1 n1 c1 l1 A2 n2 c2 l2 _ w (Nat.le_refl _) (by omega) (by omega) (by omega) h1.1 h2.1 h1.2.2 h2.2.2 (Int.le_refl _) (by omega)).mono ?_
 rintro e w' ⟨⟨v, rfl, hown⟩, hb⟩
 have ho := hown rfl
 rw [stI_toU _ (sF_small _ _ _ (ln_small hW k1).2 (ln_small hW k2).2)] at ho
 have hl := sF_len (l1.length + l2.length + 1) l1 l2
 have hle : (sF (l1.length + l2.length + 1) l1 l2).length = (stL l1 l2).length := by unfold stL; rw [List.length_map]
 rw [hle] at ho hl
 exact ⟨⟨v, by rw [decide_eq_true rfl], SL.of_own ho (by omega)⟩, hb⟩
theorem same_SL_eq {v v2 : Value} {l : List (Int × UInt8)} (h : SL w v l) (h2 : SL w v2 l) : Calls Tryz.prog 34 #[v, v2] w fun e w' => e = .returned (.bool true) ∧ Below w.heap.size w w' := by
 have h3 := same_SL h h2
 rw [decide_eq_true rfl] at h3
 exact h3
theorem edc (h1 : IA w A1 n1 c1 l1) (h2 : IA w A2 n2 c2 l2) (k1 : n1 ≤ 6) (k2 : n2 ≤ 6) : Calls Tryz.prog 29 #[.slice A1 n1 c1, .slice A2 n2 c2] w fun e w' => e = .returned (.int .i64 (ed l1 l2 : Nat)) ∧ Below w.heap.size w w' :=
 refChanges_any (n1 + n2) A1 n1 c1 l1 A2 n2 c2 l2 w (Nat.le_refl _) (by omega) (by omega) h1.1 h2.1 h1.2.2 h2.2.2
end
theorem steps_law (W : Int) (A : Option Addr) (n cap : Nat) (cs : List VC) (A1 : Option Addr) (n1 c1 : Nat) (l1 : List Int) (A2 : Option Addr) (n2 c2 : Nat) (l2 : List Int) (m : Int) (w : World) (hE : Env m w) (h : BkI w A n cap cs) (h1 : IA w A1 n1 c1 l1) (h2 : IA w A2 n2 c2 l2) :
  Calls Tryz.prog 5 #[.agg #[.int .i64 W, .slice A n cap], .slice A1 n1 c1, .slice A2 n2 c2] w fun e w' => e = .returned (.bool true) ∧ Below w.heap.size w w' := by
 have hX := Blk.new w 24 #[.int .i64 W, .slice A n cap]
 have hB : Below w.heap.size w (w.alloc (.cells #[.int .i64 W, .slice A n cap] 24)) := (Below.refl _ w).alloc (Nat.le_refl _) _
 have qX := fun i => hX.cell i
 go_enter Tryz.func5, Tryz.ntmps5
 go_wp2_with fail
 refine (short_any W A n cap cs _ (h.toW hB)).mono ?_; rintro e wc ⟨⟨b, rfl⟩, hb⟩
 replace hB := hB.trans (hb.mono hB.size); replace hX := hX.below hb hX.lt; clear hb qX; have qX := fun i => hX.cell i
 cases b with
 | false =>
  clear h1 h2
  go_wp2_with fail
  refine (known_true m _ (hE.below hB)).mono ?_; rintro e wc ⟨rfl, hb⟩
  replace hB := hB.trans (hb.mono hB.size); clear hb
  go_wp2_with fail
  go_ret
  exact ⟨rfl, hB⟩
 | true =>
  by_cases hn1 : (6 : Int) < (n1 : Int)
  ·clear h1 h2
   go_wp2_with fail
   refine (known_true m _ (hE.below hB)).mono ?_; rintro e wc ⟨rfl, hb⟩
   replace hB := hB.trans (hb.mono hB.size); clear hb
   go_wp2_with fail
   go_ret
   exact ⟨rfl, hB⟩
  ·by_cases hn2 : (6 : Int) < (n2 : Int)
   ·clear h1 h2
    go_wp2_with fail
    refine (known_true m _ (hE.below hB)).mono ?_; rintro e wc ⟨rfl, hb⟩
    replace hB := hB.trans (hb.mono hB.size); clear hb
    go_wp2_with fail
    go_ret
    exact ⟨rfl, hB⟩
   ·have hrb := fun wx hx => refBook_any W A n cap cs wx (h.toW hx)
    cases hbk : bookB W cs with
    | false =>
     have hch := fun wx hx => Steps_x1 W A n cap cs A1 n1 c1 l1 A2 n2 c2 l2 wx h.max (h.toW hx).2.2.1 (h.toW hx).2.2.2 h1.max (h1.toW hx).2.2 h2.max (h2.toW hx).2.2 hbk
     simp only [hbk] at hrb
     have HCH := hid hch; have HRB := hid hrb; clear hch hrb hbk h h1 h2
     go_wp2_with fail
     refine (HCH.out _ hB).mono ?_; rintro e wc ⟨rfl, hb⟩
     replace hB := hB.trans (hb.mono hB.size); replace hX := hX.below hb hX.lt; clear hb qX; have qX := fun i => hX.cell i
     go_wp2_with fail
     refine (HRB.out _ hB).mono ?_; rintro e wc ⟨rfl, hb⟩
     replace hB := hB.trans (hb.mono hB.size); replace hX := hX.below hb hX.lt; clear hb qX; have qX := fun i => hX.cell i
     go_wp2_with fail
     refine (known_true m _ (hE.below hB)).mono ?_; rintro e wc ⟨rfl, hb⟩
     replace hB := hB.trans (hb.mono hB.size); clear hb
     go_wp2_with fail
     go_ret
     exact ⟨rfl, hB⟩
    | true =>
     have hl1 := fun wx hx => Line_I (w := wx) (h.toW hx) hbk (h1.toW hx)
     have hl2 := fun wx hx => Line_I (w := wx) (h.toW hx) hbk (h2.toW hx)
     simp only [hbk] at hrb
     cases hk1 : lnB W l1 with
     | false =>
      have hch := fun wx hx => Steps_x2 W A n cap cs A1 n1 c1 l1 A2 n2 c2 l2 wx h.max (h.toW hx).2.2.1 (h.toW hx).2.2.2 h1.max (h1.toW hx).2.2 h2.max (h2.toW hx).2.2 hbk hk1
      simp only [hk1] at hl1
      have HCH := hid hch; have HRB := hid hrb; have HL1 := hid hl1; clear hch hrb hl1 hl2 hbk hk1 h h1 h2
      go_wp2_with fail
      refine (HCH.out _ hB).mono ?_; rintro e wc ⟨rfl, hb⟩
      replace hB := hB.trans (hb.mono hB.size); replace hX := hX.below hb hX.lt; clear hb qX; have qX := fun i => hX.cell i
      go_wp2_with fail
      refine (HRB.out _ hB).mono ?_; rintro e wc ⟨rfl, hb⟩
      replace hB := hB.trans (hb.mono hB.size); replace hX := hX.below hb hX.lt; clear hb qX; have qX := fun i => hX.cell i
      go_wp2_with fail
      refine (HL1.out _ hB).mono ?_; rintro e wc ⟨rfl, hb⟩
      replace hB := hB.trans (hb.mono hB.size); replace hX := hX.below hb hX.lt; clear hb qX; have qX := fun i => hX.cell i
      go_wp2_with fail
      refine (known_true m _ (hE.below hB)).mono ?_; rintro e wc ⟨rfl, hb⟩
      replace hB := hB.trans (hb.mono hB.size); clear hb
      go_wp2_with fail
      go_ret
      exact ⟨rfl, hB⟩
     | true =>
      cases hk2 : lnB W l2 with
      | false =>
       have hch := fun wx hx => Steps_x3 W A n cap cs A1 n1 c1 l1 A2 n2 c2 l2 wx h.max (h.toW hx).2.2.1 (h.toW hx).2.2.2 h1.max (h1.toW hx).2.2 h2.max (h2.toW hx).2.2 hbk hk1 hk2
       simp only [hk1] at hl1
       simp only [hk2] at hl2
       have HCH := hid hch; have HRB := hid hrb; have HL1 := hid hl1; have HL2 := hid hl2; clear hch hrb hl1 hl2 hbk hk1 hk2 h h1 h2
       go_wp2_with fail
       refine (HCH.out _ hB).mono ?_; rintro e wc ⟨rfl, hb⟩
       replace hB := hB.trans (hb.mono hB.size); replace hX := hX.below hb hX.lt; clear hb qX; have qX := fun i => hX.cell i
       go_wp2_with fail
       refine (HRB.out _ hB).mono ?_; rintro e wc ⟨rfl, hb⟩
       replace hB := hB.trans (hb.mono hB.size); replace hX := hX.below hb hX.lt; clear hb qX; have qX := fun i => hX.cell i
       go_wp2_with fail
       refine (HL1.out _ hB).mono ?_; rintro e wc ⟨rfl, hb⟩
       replace hB := hB.trans (hb.mono hB.size); replace hX := hX.below hb hX.lt; clear hb qX; have qX := fun i => hX.cell i
       go_wp2_with fail
       refine (HL2.out _ hB).mono ?_; rintro e wc ⟨rfl, hb⟩
       replace hB := hB.trans (hb.mono hB.size); replace hX := hX.below hb hX.lt; clear hb qX; have qX := fun i => hX.cell i
       go_wp2_with fail
       refine (known_true m _ (hE.below hB)).mono ?_; rintro e wc ⟨rfl, hb⟩
       replace hB := hB.trans (hb.mono hB.size); clear hb
       go_wp2_with fail
       go_ret
       exact ⟨rfl, hB⟩
      | true =>
       have hch := fun wx hx => Steps_I (w := wx) (h.toW hx) hbk (h1.toW hx) (h2.toW hx) hk1 hk2
       have hrf := fun wx hx => refSteps_I (W := W) (w := wx) (book_W hbk) (h1.toW hx) (h2.toW hx) hk1 hk2
       have hrc := fun wx hx => edc (w := wx) (h1.toW hx) (h2.toW hx) (by omega) (by omega)
       simp only [hk1] at hl1
       simp only [hk2] at hl2
       generalize stL l1 l2 = L at *
       generalize ed l1 l2 = D at *
       have HCH := hid hch; have HRF := hid hrf; have HRC := hid hrc; have HRB := hid hrb; have HL1 := hid hl1; have HL2 := hid hl2; clear hch hrf hrc hrb hl1 hl2 hbk hk1 hk2 h h1 h2
       go_wp2_with fail
       refine (HCH.out _ hB).mono ?_; rintro e wc ⟨⟨u, rfl, hU⟩, hb⟩
       replace hB := hB.trans (hb.mono hB.size); replace hX := hX.below hb hX.lt; clear hb qX; have qX := fun i => hX.cell i
       go_wp2_with fail
       refine (HRB.out _ hB).mono ?_; rintro e wc ⟨rfl, hb⟩
       replace hB := hB.trans (hb.mono hB.size); replace hX := hX.below hb hX.lt; replace hU := hU.below hb; clear hb qX; have qX := fun i => hX.cell i
       go_wp2_with fail
       refine (HL1.out _ hB).mono ?_; rintro e wc ⟨rfl, hb⟩
       replace hB := hB.trans (hb.mono hB.size); replace hX := hX.below hb hX.lt; replace hU := hU.below hb; clear hb qX; have qX := fun i => hX.cell i
       go_wp2_with fail
       refine (HL2.out _ hB).mono ?_; rintro e wc ⟨rfl, hb⟩
       replace hB := hB.trans (hb.mono hB.size); replace hX := hX.below hb hX.lt; replace hU := hU.below hb; clear hb qX; have qX := fun i => hX.cell i
       go_wp2_with fail
       refine (HRC.out _ hB).mono ?_; rintro e wc ⟨rfl, hb⟩
       replace hB := hB.trans (hb.mono hB.size); replace hX := hX.below hb hX.lt; replace hU := hU.below hb; clear hb qX; have qX := fun i => hX.cell i
       go_wp2_with fail
       refine (HRF.out _ hB).mono ?_; rintro e wc ⟨⟨v, rfl, hV⟩, hb⟩
       replace hB := hB.trans (hb.mono hB.size); replace hX := hX.below hb hX.lt; replace hU := hU.below hb; clear hb qX; have qX := fun i => hX.cell i
       go_wp2_with fail
       refine (same_SL_eq hU hV).mono ?_; rintro e wc ⟨rfl, hb⟩
       replace hB := hB.trans (hb.mono hB.size); replace hX := hX.below hb hX.lt; clear hU hV; clear hb qX; have qX := fun i => hX.cell i
       go_wp2_with fail
       refine (known_true m _ (hE.below hB)).mono ?_; rintro e wc ⟨rfl, hb⟩
       replace hB := hB.trans (hb.mono hB.size); clear hb
       go_wp2_with fail
       go_ret
       exact ⟨rfl, hB⟩
end
end Go.Proofs.YtekmnelpkogppaaGreatDoor
