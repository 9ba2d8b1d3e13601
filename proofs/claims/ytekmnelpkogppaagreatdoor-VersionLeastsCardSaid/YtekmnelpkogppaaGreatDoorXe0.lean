import Derived.Test.YtekmnelpkogppaaGreatDoorKx11
set_option linter.unusedVariables false
set_option linter.unusedSimpArgs false
set_option maxRecDepth 100000
set_option maxHeartbeats 40000000
namespace Go.Proofs.YtekmnelpkogppaaGreatDoor
section
open Go.RowKit Go.Lib
theorem refNumber_any (W l : Int) (A : Option Addr) (n cap : Nat) (cs : List VC) (w : World) (hn : 1 ≤ n) (hr : Rd w w.heap.size 1 A n (cs.map VC.val)) (hc : ∀ c ∈ cs, c.ok w w.heap.size) (hh : headN cs ≤ 100) :
  Calls Tryz.prog 45 #[.agg #[.int .i64 W, .slice A n cap], .int .i64 l] w fun e w' => e = .returned (.bool (inB l 0 (headN cs - 1))) ∧ Below w.heap.size w w' := by
 obtain ⟨b, off, hz, rfl, hb, hq⟩ := hr.atm (show 0 < n by omega)
 match cs, hz with
 | c :: rest, _ =>
  have hl := (hc c (by simp)).2.2.2.len2
  simp only [List.getElem_cons_zero, VC.val, Nat.add_zero] at hq
  have e : (headN (c :: rest) : Nat) = c.n := hl
  rw [e] at hh ⊢
  have hn0 : (0 : Int) < n := by omega
  clear hl e
  go_enter Tryz.func45, Tryz.ntmps45
  have hq2 := (World.cell?_alloc_lt w (.cells #[.int .i64 W, .slice (some ⟨b, off, none⟩) n cap] 24) ⟨b, off, none⟩ hb).trans hq
  go_wp2_with (go_at_call 85; refine (in_any _ _ _ _).mono ?_; rintro e w1 ⟨rfl, rfl⟩)
  go_ret
  exact ⟨rfl, (Below.refl _ w).alloc (Nat.le_refl _) _⟩
end
section
theorem ed_map {α β : Type} [DecidableEq α] [DecidableEq β] (f : α → β) : ∀ (a b : List α), (∀ x ∈ a, ∀ y ∈ b, f x = f y → x = y) → ed (a.map f) (b.map f) = ed a b
 | [], b, _ => by simp [ed_nil]
 | x :: xs, b, h => by
  have ih := fun b hb => ed_map f xs b hb
  induction b with
  | nil => simp [ed_nil_r]
  | cons y ys ihb =>
   rw [List.map_cons, List.map_cons, ed_cons, ed_cons, ← List.map_cons, ← List.map_cons]
   rw [ih ys (fun p hp q hq => h p (by simp [hp]) q (by simp [hq])), ih (y :: ys) (fun p hp q hq => h p (by simp [hp]) q hq), ihb (fun p hp q hq => h p hp q (by simp [hq]))]
   by_cases e : x = y
   ·rw [if_pos e, if_pos (by rw [e])]
   ·rw [if_neg e, if_neg (fun e2 => e (h x (by simp) y (by simp) e2))]
end
section
open Go.RowKit Go.Lib Go.Maps
theorem refChanges_any (s : Nat) : ∀ (A : Option Addr) (n cap : Nat) (xs : List Int) (A2 : Option Addr) (n2 cap2 : Nat) (ys : List Int) (w : World), n + n2 ≤ s → n ≤ 1000 → n2 ≤ 1000 → n ≤ cap → n2 ≤ cap2 → Rd w w.heap.size 1 A n (xs.map (Value.int .i64)) → Rd w w.heap.size 1 A2 n2 (ys.map (Value.int .i64)) →
  Calls Tryz.prog 29 #[.slice A n cap, .slice A2 n2 cap2] w fun e w' => e = .returned (.int .i64 (ed xs ys : Nat)) ∧ Below w.heap.size w w' := by
 induction s using Nat.strongRecOn with
 | ind s ih =>
 intro A n cap xs A2 n2 cap2 ys w hs hn hn2 hc hc2 hr hr2
 have hl1 : xs.length = n := by simpa using hr.len
 have hl2 : ys.length = n2 := by simpa using hr2.len
 match xs, ys, hl1, hl2 with
 | [], ys, hl1, hl2 =>
  obtain rfl : n = 0 := hl1.symm
  have he : ((ed ([] : List Int) ys : Nat) : Int) = n2 := by rw [ed_nil, hl2]
  rw [he]
  clear he ih
  go_enter Tryz.func29, Tryz.ntmps29
  go_wp2_with (fail)
  go_ret
  exact ⟨rfl, Below.refl _ _⟩
 | x :: xs, [], hl1, hl2 =>
  obtain rfl : n2 = 0 := hl2.symm
  have he : ((ed (x :: xs) ([] : List Int) : Nat) : Int) = n := by rw [ed_nil_r, hl1]
  have hn0 : ((n : Int) == 0) = false := by rw [beq_eq_false_iff_ne]; simp at hl1; omega
  rw [he]
  clear he ih
  go_enter Tryz.func29, Tryz.ntmps29
  go_wp2_with (fail)
  go_ret
  exact ⟨rfl, Below.refl _ _⟩
 | x :: xs, y :: ys, hl1, hl2 =>
  simp only [List.length_cons] at hl1 hl2
  obtain ⟨b, off, hz, rfl, hb, hcell⟩ := hr.atm (show 0 < n by omega)
  obtain ⟨b2, off2, hz2, rfl, hb2, hcell2⟩ := hr2.atm (show 0 < n2 by omega)
  simp only [List.getElem_cons_zero, Nat.add_zero] at hcell hcell2
  have hni : (0 : Int) < n := by omega
  have hn2i : (0 : Int) < n2 := by omega
  have hn0 : ((n : Int) == 0) = false := by rw [beq_eq_false_iff_ne]; omega
  have hn20 : ((n2 : Int) == 0) = false := by rw [beq_eq_false_iff_ne]; omega
  have hd1 := hr.cutA' (k := 1) (m := n) (cap := cap) (by omega) (Nat.le_refl _) hc
  have hd2 := hr2.cutA' (k := 1) (m := n2) (cap := cap2) (by omega) (Nat.le_refl _) hc2
  simp only [List.map_cons, Nat.mul_one, List.drop_succ_cons, List.drop_zero] at hd1 hd2
  rw [List.take_of_length_le (by rw [List.length_map]; omega)] at hd1 hd2
  have hS1 : ∀ w, (Instr.slice 25 (.slice (some ⟨b, off, none⟩) n cap) (some (.int .i64 1)) none none).run Tryz.prog w = .ok (.slice (cutA (some ⟨b, off, none⟩) cap 1 1) (n - 1) (cap - 1)) w := fun w => run_slice_lo (P := Tryz.prog) 25 3 1 Tryz.underlying25 Tryz.sizeOf3 _ n cap .i64 1 (by omega) hc w
  have hS2 : ∀ w, (Instr.slice 25 (.slice (some ⟨b2, off2, none⟩) n2 cap2) (some (.int .i64 1)) none none).run Tryz.prog w = .ok (.slice (cutA (some ⟨b2, off2, none⟩) cap2 1 1) (n2 - 1) (cap2 - 1)) w := fun w => run_slice_lo (P := Tryz.prog) 25 3 1 Tryz.underlying25 Tryz.sizeOf3 _ n2 cap2 .i64 1 (by omega) hc2 w
  have hr1 := fun wx (hx : Below w.heap.size w wx) => ih (n - 1 + (n2 - 1)) (by omega) (cutA (some ⟨b, off, none⟩) cap 1 1) (n - 1) (cap - 1) xs (cutA (some ⟨b2, off2, none⟩) cap2 1 1) (n2 - 1) (cap2 - 1) ys wx (Nat.le_refl _) (by omega) (by omega) (by omega) (by omega) (rdB hd1 hx) (rdB hd2 hx)
  have hr2' := fun wx (hx : Below w.heap.size w wx) => ih (n - 1 + n2) (by omega) (cutA (some ⟨b, off, none⟩) cap 1 1) (n - 1) (cap - 1) xs (some ⟨b2, off2, none⟩) n2 cap2 (y :: ys) wx (Nat.le_refl _) (by omega) (by omega) (by omega) (by omega) (rdB hd1 hx) (rdB hr2 hx)
  have hr3 := fun wx (hx : Below w.heap.size w wx) => ih (n + (n2 - 1)) (by omega) (some ⟨b, off, none⟩) n cap (x :: xs) (cutA (some ⟨b2, off2, none⟩) cap2 1 1) (n2 - 1) (cap2 - 1) ys wx (Nat.le_refl _) (by omega) (by omega) (by omega) (by omega) (rdB hr hx) (rdB hd2 hx)
  have hcc1 : ∀ wx, Below w.heap.size w wx → wx.cell? ⟨b, off, none⟩ = some (.int .i64 x) := fun wx hx => by rw [hx.cell hb]; exact hcell
  have hcc2 : ∀ wx, Below w.heap.size w wx → wx.cell? ⟨b2, off2, none⟩ = some (.int .i64 y) := fun wx hx => by rw [hx.cell hb2]; exact hcell2
  have hb1 := ed_le xs ys
  have hb2' := ed_le xs (y :: ys)
  have hb3 := ed_le (x :: xs) ys
  simp only [List.length_cons] at hb2' hb3
  have heq : ed (x :: xs) (y :: ys) = if x = y then ed xs ys else 1 + min (ed xs ys) (min (ed xs (y :: ys)) (ed (x :: xs) ys)) := rfl
  generalize cutA (some ⟨b, off, none⟩) cap 1 1 = A1 at *
  generalize cutA (some ⟨b2, off2, none⟩) cap2 1 1 = A21 at *
  obtain ⟨D, hD⟩ : ∃ D, D = ed (x :: xs) (y :: ys) := ⟨_, rfl⟩
  rw [← hD] at heq ⊢
  clear hD
  generalize ed xs ys = e1 at *
  generalize ed xs (y :: ys) = e2 at *
  generalize ed (x :: xs) ys = e3 at *
  have HR1 := Lib.hid hr1; have HR2 := Lib.hid hr2'; have HR3 := Lib.hid hr3; have HC1 := Lib.hid hcc1; have HC2 := Lib.hid hcc2; have HEQ := Lib.hid heq
  have hB : Below w.heap.size w w := Below.refl _ _
  clear hr1 hr2' hr3 hcc1 hcc2 heq hcell hcell2 hd1 hd2 hz hz2 ih
  by_cases hxy : x = y
  ·subst hxy
   have HD : Hid (D = e1) := Lib.hid (by rw [HEQ.out, if_pos rfl])
   clear HR2 HR3
   go_enter Tryz.func29, Tryz.ntmps29
   go_upto_region 5 with (fail)
   refine wp_region_blw (by kernel_rfl) (by kernel_rfl) ?_
   repeat (go_big_quiet_step (fail))
   go_big_quiet_step ((go_at_call 29; exact Calls.blw_of _ (HR1.out _ (hB.trans ((Blw.h _).mono hB.size)))))
   repeat (go_big_quiet_step (fail))
   refine wpQuiet_nil ?_
   rintro W3 ⟨⟨_, hb3⟩, rfl⟩
   replace hB := hB.trans (hb3.mono hB.size); clear hb3
   go_upto_region 6 with (fail)
   have hq1 := fun (p : Blw W3.heap.size W3) => HC1.out _ (hB.trans ((Blw.h p).mono hB.size))
   have hq2 := fun (p : Blw W3.heap.size W3) => HC2.out _ (hB.trans ((Blw.h p).mono hB.size))
   refine wp_region_blw (by kernel_rfl) (by kernel_rfl) ?_
   repeat (go_big_quiet_step (fail))
   refine wpQuiet_nil ?_
   rintro W4 ⟨⟨_, hb3⟩, rfl⟩
   replace hB := hB.trans (hb3.mono hB.size); clear hb3
   clear hq1 hq2
   go_wp2_with (fail)
   go_ret
   exact ⟨by rw [HD.out]; rfl, hB⟩
  ·have HD : Hid (D = 1 + min e1 (min e2 e3)) := Lib.hid (by rw [HEQ.out, if_neg hxy])
   have hw1 : IntKind.i64.wrap (1 + (e1 : Int)) = 1 + (e1 : Int) := IntWalk.i64_in _ (by omega)
   have hw2 : IntKind.i64.wrap (1 + (e2 : Int)) = 1 + (e2 : Int) := IntWalk.i64_in _ (by omega)
   have hw3 : IntKind.i64.wrap (1 + (e3 : Int)) = 1 + (e3 : Int) := IntWalk.i64_in _ (by omega)
   go_enter Tryz.func29, Tryz.ntmps29
   go_upto_region 5 with (fail)
   refine wp_region_blw (by kernel_rfl) (by kernel_rfl) ?_
   repeat (go_big_quiet_step (fail))
   go_big_quiet_step ((go_at_call 29; exact Calls.blw_of _ (HR1.out _ (hB.trans ((Blw.h _).mono hB.size)))))
   repeat (go_big_quiet_step (fail))
   refine wpQuiet_nil ?_
   rintro W3 ⟨⟨_, hb3⟩, rfl⟩
   replace hB := hB.trans (hb3.mono hB.size); clear hb3
   go_upto_region 6 with (fail)
   have hq1 := fun (p : Blw W3.heap.size W3) => HC1.out _ (hB.trans ((Blw.h p).mono hB.size))
   have hq2 := fun (p : Blw W3.heap.size W3) => HC2.out _ (hB.trans ((Blw.h p).mono hB.size))
   refine wp_region_blw (by kernel_rfl) (by kernel_rfl) ?_
   repeat (go_big_quiet_step (fail))
   refine wpQuiet_nil ?_
   rintro W4 ⟨⟨_, hb3⟩, rfl⟩
   replace hB := hB.trans (hb3.mono hB.size); clear hb3
   clear hq1 hq2
   go_upto_region 8 with (fail)
   refine wp_region_blw (by kernel_rfl) (by kernel_rfl) ?_
   repeat (go_big_quiet_step (fail))
   go_big_quiet_step ((go_at_call 29; exact Calls.blw_of _ (HR2.out _ (hB.trans ((Blw.h _).mono hB.size)))))
   repeat (go_big_quiet_step (fail))
   go_big_quiet_step ((go_at_call 29; exact Calls.blw_of _ (HR3.out _ (hB.trans ((Blw.h _).mono hB.size)))))
   repeat (go_big_quiet_step (fail))
   refine wpQuiet_nil ?_
   rintro W5 ⟨⟨_, hb3⟩, rfl⟩
   replace hB := hB.trans (hb3.mono hB.size); clear hb3
   all_goals try go_wp2_with (fail)
   all_goals
    go_ret
    refine ⟨congrArg Ending.returned (congrArg (Value.int .i64) ?_), hB⟩
    have h := HD.out
    omega
end
section
open Go.RowKit Go.Lib Go.Maps
theorem Least_no1 (W : Int) (A : Option Addr) (n cap : Nat) (cs : List VC) (q : Int) (w : World) (hn : n ≤ maxLen) (hr : Rd w w.heap.size 1 A n (cs.map VC.val)) (hc : ∀ c ∈ cs, c.ok w w.heap.size) (h1 : bookB W cs = false) :
  Calls Tryz.prog 43 #[.agg #[.int .i64 W, .slice A n cap], .int .i64 q] w fun e w' => e = .returned (.tuple #[.slice none 0 0, .int .i64 0, .int .i64 2]) ∧ Below w.heap.size w w' := by
 have hX := Blk.new w 24 #[.int .i64 W, .slice A n cap]
 have hB : Below w.heap.size w (w.alloc (.cells #[.int .i64 W, .slice A n cap] 24)) := (Below.refl _ w).alloc (Nat.le_refl _) _
 have qX := fun i => hX.cell i
 have hgb := fun (wx : World) (hx : Below w.heap.size w wx) => goodBook_any W A n cap cs wx hn (rdB hr hx) (fun c h => okB (hc c h) hx)
 simp only [h1] at hgb
 have HGB := Lib.hid hgb
 clear hgb h1 hr hc
 go_enter Tryz.func43, Tryz.ntmps43
 go_wp2_with fail
 refine (HGB.out _ hB).mono ?_; rintro e w1 ⟨rfl, hb⟩; replace hX := hX.below hb hX.lt; replace hB := hB.trans (hb.mono hB.size); clear hb qX; have qX := fun i => hX.cell i
 go_wp2_with fail
 refine bodyPost_ret (v := .tuple #[.slice none 0 0, .int .i64 0, .int .i64 2]) (by simp [results, Tryz.results43, go_sem]) rfl ⟨rfl, hB⟩
theorem Common_no1 (W : Int) (A : Option Addr) (n cap : Nat) (cs : List VC) (q : Int) (w : World) (hn : n ≤ maxLen) (hr : Rd w w.heap.size 1 A n (cs.map VC.val)) (hc : ∀ c ∈ cs, c.ok w w.heap.size) (h1 : bookB W cs = false) :
  Calls Tryz.prog 44 #[.agg #[.int .i64 W, .slice A n cap], .int .i64 q] w fun e w' => e = .returned (.tuple #[.slice none 0 0, .int .i64 2]) ∧ Below w.heap.size w w' := by
 have hX := Blk.new w 24 #[.int .i64 W, .slice A n cap]
 have hB : Below w.heap.size w (w.alloc (.cells #[.int .i64 W, .slice A n cap] 24)) := (Below.refl _ w).alloc (Nat.le_refl _) _
 have qX := fun i => hX.cell i
 have hgb := fun (wx : World) (hx : Below w.heap.size w wx) => goodBook_any W A n cap cs wx hn (rdB hr hx) (fun c h => okB (hc c h) hx)
 simp only [h1] at hgb
 have HGB := Lib.hid hgb
 clear hgb h1 hr hc
 go_enter Tryz.func44, Tryz.ntmps44
 go_wp2_with fail
 refine (HGB.out _ hB).mono ?_; rintro e w1 ⟨rfl, hb⟩; replace hX := hX.below hb hX.lt; replace hB := hB.trans (hb.mono hB.size); clear hb qX; have qX := fun i => hX.cell i
 go_wp2_with fail
 refine bodyPost_ret (v := .tuple #[.slice none 0 0, .int .i64 2]) (by simp [results, Tryz.results44, go_sem]) rfl ⟨rfl, hB⟩
theorem Least_no2 {wn : Nat} {A : Option Addr} {n : Nat} (cap : Nat) {cs : List VC} (q : Int) {w : World} (hb : BkG wn A n cs w w.heap.size) (h1 : bookB (wn : Int) cs = true) (h2 : inB q 0 ((headN cs : Int) - 1) = false) :
  Calls Tryz.prog 43 #[.agg #[.int .i64 (wn : Int), .slice A n cap], .int .i64 q] w fun e w' => e = .returned (.tuple #[.slice none 0 0, .int .i64 0, .int .i64 2]) ∧ Below w.heap.size w w' := by
 have hX := Blk.new w 24 #[.int .i64 (wn : Int), .slice A n cap]
 have hB : Below w.heap.size w (w.alloc (.cells #[.int .i64 (wn : Int), .slice A n cap] 24)) := (Below.refl _ w).alloc (Nat.le_refl _) _
 have qX := fun i => hX.cell i
 have hgb := fun (wx : World) (hx : Below w.heap.size w wx) => goodBook_any (wn : Int) A n cap cs wx (by have := hb.2.1.2; unfold maxLen; omega) (rdB hb.2.2.2.1 hx) (fun c h => okB (hb.2.2.2.2.1 c h) hx)
 simp only [h1] at hgb
 have hhl := fun (wx : World) (hx : Below w.heap.size w wx) => hasLine_any (wn : Int) q A n cap cs wx hb.2.1.1 (rdB hb.2.2.2.1 hx) (fun c h => okB (hb.2.2.2.2.1 c h) hx) (by have := hb.2.2.1.2; omega)
 simp only [h2] at hhl
 have HGB := Lib.hid hgb; have HHL := Lib.hid hhl
 clear hgb hhl h1 h2 hb
 go_enter Tryz.func43, Tryz.ntmps43
 go_wp2_with fail
 refine (HGB.out _ hB).mono ?_; rintro e w1 ⟨rfl, hb⟩; replace hX := hX.below hb hX.lt; replace hB := hB.trans (hb.mono hB.size); clear hb qX; have qX := fun i => hX.cell i
 go_wp2_with fail
 refine (HHL.out _ hB).mono ?_; rintro e w1 ⟨rfl, hb⟩; replace hX := hX.below hb hX.lt; replace hB := hB.trans (hb.mono hB.size); clear hb qX; have qX := fun i => hX.cell i
 go_wp2_with fail
 refine bodyPost_ret (v := .tuple #[.slice none 0 0, .int .i64 0, .int .i64 2]) (by simp [results, Tryz.results43, go_sem]) rfl ⟨rfl, hB⟩
theorem Common_no2 {wn : Nat} {A : Option Addr} {n : Nat} (cap : Nat) {cs : List VC} (q : Int) {w : World} (hb : BkG wn A n cs w w.heap.size) (h1 : bookB (wn : Int) cs = true) (h2 : inB q 0 ((headN cs : Int) - 1) = false) :
  Calls Tryz.prog 44 #[.agg #[.int .i64 (wn : Int), .slice A n cap], .int .i64 q] w fun e w' => e = .returned (.tuple #[.slice none 0 0, .int .i64 2]) ∧ Below w.heap.size w w' := by
 have hX := Blk.new w 24 #[.int .i64 (wn : Int), .slice A n cap]
 have hB : Below w.heap.size w (w.alloc (.cells #[.int .i64 (wn : Int), .slice A n cap] 24)) := (Below.refl _ w).alloc (Nat.le_refl _) _
 have qX := fun i => hX.cell i
 have hgb := fun (wx : World) (hx : Below w.heap.size w wx) => goodBook_any (wn : Int) A n cap cs wx (by have := hb.2.1.2; unfold maxLen; omega) (rdB hb.2.2.2.1 hx) (fun c h => okB (hb.2.2.2.2.1 c h) hx)
 simp only [h1] at hgb
 have hhl := fun (wx : World) (hx : Below w.heap.size w wx) => hasLine_any (wn : Int) q A n cap cs wx hb.2.1.1 (rdB hb.2.2.2.1 hx) (fun c h => okB (hb.2.2.2.2.1 c h) hx) (by have := hb.2.2.1.2; omega)
 simp only [h2] at hhl
 have HGB := Lib.hid hgb; have HHL := Lib.hid hhl
 clear hgb hhl h1 h2 hb
 go_enter Tryz.func44, Tryz.ntmps44
 go_wp2_with fail
 refine (HGB.out _ hB).mono ?_; rintro e w1 ⟨rfl, hb⟩; replace hX := hX.below hb hX.lt; replace hB := hB.trans (hb.mono hB.size); clear hb qX; have qX := fun i => hX.cell i
 go_wp2_with fail
 refine (HHL.out _ hB).mono ?_; rintro e w1 ⟨rfl, hb⟩; replace hX := hX.below hb hX.lt; replace hB := hB.trans (hb.mono hB.size); clear hb qX; have qX := fun i => hX.cell i
 go_wp2_with fail
 refine bodyPost_ret (v := .tuple #[.slice none 0 0, .int .i64 2]) (by simp [results, Tryz.results44, go_sem]) rfl ⟨rfl, hB⟩
end
section
open Go.RowKit Go.Lib
theorem IA.toW {w w' : World} {A : Option Addr} {n cap : Nat} {l : List Int} (h : IA w A n cap l) (hb : Below w.heap.size w w') : IA w' A n cap l := ⟨h.1, h.2.1, rdB h.2.2 hb⟩
theorem IA.len {w : World} {A : Option Addr} {n cap : Nat} {l : List Int} (h : IA w A n cap l) : l.length = n := by simpa using h.2.2.len
theorem u8_inj {x y : Int} (hx : 0 ≤ x ∧ x ≤ 2) (hy : 0 ≤ y ∧ y ≤ 2) (e : UInt8.ofNat x.toNat = UInt8.ofNat y.toNat) : x = y := by
 have h := congrArg UInt8.toNat e
 simp only [UInt8.toNat_ofNat'] at h
 omega
theorem edB_int {a b : List Int} (ha : ∀ x ∈ a, 0 ≤ x ∧ x ≤ 2) (hb : ∀ x ∈ b, 0 ≤ x ∧ x ≤ 2) : edB (lbS a) (lbS b) = ed a b := by
 show ed (lbL a) (lbL b) = ed a b
 unfold lbL
 exact ed_map _ a b (fun x hx y hy e => u8_inj (ha x hx) (hb y hy) e)
theorem book_W {W : Int} {cs : List VC} (h : bookB W cs = true) : 1 ≤ W ∧ W ≤ 3 := by
 unfold bookB at h
 simp only [Bool.and_eq_true] at h
 simpa [inB] using h.1.1.1
end
section
open Go.RowKit Go.Lib
def allLL (wn : Nat) : List (List Int) := (List.range 5).flatMap fun k => allLs k wn
def allW (l : List Int) (W : Nat) : Nat → List (List Int) → List (List Int)
 | 0, out => out
 | r + 1, out => allW l W r (out ++ [l ++ [((W - (r + 1) : Nat) : Int)]])
def allI (W : Nat) : Nat → Nat → List (List Int) → List (List Int)
 | 0, _, out => out
 | c + 1, i, out => allI W c (i + 1) (allW (out.getD i []) W W out)
def allK (W : Nat) : Nat → Nat → List (List Int) → List (List Int)
 | 0, _, out => out
 | c + 1, fr, out => allK W c out.length (allI W (out.length - fr) fr out)
theorem allW_pre (l : List Int) (W : Nat) : ∀ (r : Nat) (out : List (List Int)), out <+: allW l W r out
 | 0, out => List.prefix_refl out
 | r + 1, out => (List.prefix_append out _).trans (allW_pre l W r _)
theorem allI_pre (W : Nat) : ∀ (c i : Nat) (out : List (List Int)), out <+: allI W c i out
 | 0, _, out => List.prefix_refl out
 | c + 1, i, out => (allW_pre _ W W out).trans (allI_pre W c (i + 1) _)
theorem allK_pre (W : Nat) : ∀ (c fr : Nat) (out : List (List Int)), out <+: allK W c fr out
 | 0, _, out => List.prefix_refl out
 | c + 1, fr, out => (allI_pre W _ fr out).trans (allK_pre W c _ _)
theorem allK_fin {wn : Nat} (h1 : 1 ≤ wn) (h3 : wn ≤ 3) : allK wn 4 0 [[]] = allLL wn := by
 have : wn = 1 ∨ wn = 2 ∨ wn = 3 := by omega
 rcases this with rfl | rfl | rfl
 ·exact (by kernel_rfl : allK 1 4 0 [[]] = allLL 1)
 ·exact (by kernel_rfl : allK 2 4 0 [[]] = allLL 2)
 ·exact (by kernel_rfl : allK 3 4 0 [[]] = allLL 3)
theorem allLL_mem {wn : Nat} {l : List Int} (h : l ∈ allLL wn) : l.length ≤ 4 ∧ ∀ x ∈ l, 0 ≤ x ∧ x < (wn : Int) := by
 obtain ⟨k, hk, hl⟩ := List.mem_flatMap.1 h
 obtain ⟨h1, h2⟩ := allLs_mem hl
 have := List.mem_range.1 hk
 exact ⟨by omega, h2⟩
theorem allLL_len {wn : Nat} (h1 : 1 ≤ wn) (h3 : wn ≤ 3) : (allLL wn).length ≤ 121 := by
 have : wn = 1 ∨ wn = 2 ∨ wn = 3 := by omega
 rcases this with rfl | rfl | rfl
 ·exact of_decide_eq_true (by kernel_rfl)
 ·exact of_decide_eq_true (by kernel_rfl)
 ·exact of_decide_eq_true (by kernel_rfl)
theorem pre_len {out fin : List (List Int)} (h : out <+: fin) : out.length ≤ fin.length := h.length_le
def LRows (w : World) (B : Nat) (rs : List RI) (L : List (List Int)) : Prop := rs.map RI.ws = L ∧ ∀ r ∈ rs, w.ownsRow B 3 1 r.val r.n (r.ws.map (Value.int .i64))
theorem LRows.below {w w' : World} {B : Nat} {rs : List RI} {L : List (List Int)} (h : LRows w B rs L) (hb : Below w.heap.size w w') : LRows w' B rs L :=
 ⟨h.1, fun r hr => ownsRow_below' (h.2 r hr) hb⟩
theorem LRows.len {w : World} {B : Nat} {rs : List RI} {L : List (List Int)} (h : LRows w B rs L) : L.length = rs.length := by rw [← h.1, List.length_map]
def leftW (wn k T i : Nat) (l : List Int) (q : Nat) (L FIN : List (List Int)) : Prop := i < T ∧ T ≤ L.length ∧ L[i]? = some l ∧ allK wn (4 - (k + 1)) T (allI wn (T - (i + 1)) (i + 1) (allW l wn (wn - q) L)) = FIN
def leftI (wn k T i : Nat) (L FIN : List (List Int)) : Prop := i ≤ T ∧ T ≤ L.length ∧ allK wn (4 - (k + 1)) T (allI wn (T - i) i L) = FIN
def leftK (wn k F : Nat) (L FIN : List (List Int)) : Prop := F ≤ L.length ∧ allK wn (4 - k) F L = FIN
theorem leftK.start {wn k F : Nat} {L FIN : List (List Int)} (h : leftK wn k F L FIN) (hk : k < 4) : leftI wn k L.length F L FIN := by
 refine ⟨h.1, Nat.le_refl _, ?_⟩
 have h2 := h.2
 rw [show 4 - k = (4 - (k + 1)) + 1 by omega, allK] at h2
 exact h2
theorem leftI.start {wn k T i : Nat} {L FIN : List (List Int)} (h : leftI wn k T i L FIN) (hi : i < T) : ∃ l, leftW wn k T i l 0 L FIN := by
 have hl : i < L.length := Nat.lt_of_lt_of_le hi h.2.1
 refine ⟨L[i], hi, h.2.1, List.getElem?_eq_getElem hl, ?_⟩
 have h2 := h.2.2
 rw [show T - i = (T - (i + 1)) + 1 by omega, allI] at h2
 rw [Nat.sub_zero, ← h2]
 congr 4
 simp [List.getD_eq_getElem?_getD, hl]
theorem leftI.done {wn k T i : Nat} {L FIN : List (List Int)} (h : leftI wn k T i L FIN) (hi : ¬ i < T) : leftK wn (k + 1) T L FIN := by
 have e : i = T := by have := h.1; omega
 refine ⟨h.2.1, ?_⟩
 have h2 := h.2.2
 rw [e, Nat.sub_self, allI] at h2
 exact h2
theorem leftW.step {wn k T i q : Nat} {l : List Int} {L FIN : List (List Int)} (h : leftW wn k T i l q L FIN) (hq : q < wn) : leftW wn k T i l (q + 1) (L ++ [l ++ [(q : Int)]]) FIN := by
 refine ⟨h.1, by rw [List.length_append]; have := h.2.1; omega, ?_, ?_⟩
 ·rw [List.getElem?_append_left (Nat.lt_of_lt_of_le h.1 h.2.1)]; exact h.2.2.1
 ·have h2 := h.2.2.2
  rw [show wn - q = (wn - (q + 1)) + 1 by omega, allW, show wn - (wn - (q + 1) + 1) = q by omega] at h2
  exact h2
theorem leftW.done {wn k T i q : Nat} {l : List Int} {L FIN : List (List Int)} (h : leftW wn k T i l q L FIN) (hq : ¬ q < wn) : leftI wn k T (i + 1) L FIN := by
 refine ⟨h.1, h.2.1, ?_⟩
 have h2 := h.2.2.2
 rw [show wn - q = 0 by omega, allW] at h2
 exact h2
theorem leftW.pre {wn k T i q : Nat} {l : List Int} {L FIN : List (List Int)} (h : leftW wn k T i l q L FIN) : L <+: FIN := by
 rw [← h.2.2.2]
 exact ((allW_pre _ _ _ _).trans (allI_pre _ _ _ _)).trans (allK_pre _ _ _ _)
theorem leftK.fin {wn k F : Nat} {L FIN : List (List Int)} (h : leftK wn k F L FIN) (hk : ¬ k < 4) : L = FIN := by
 have h2 := h.2
 rw [show 4 - k = 0 by omega, allK] at h2
 exact h2
end
section
open Go.RowKit Go.Lib
theorem ownL1 (w : World) (base : Nat) (e : TypeId) (v : Value) (hb : base ≤ w.heap.size) : (w.alloc (.cells #[v] e)).ownsRow base e 1 (.slice (some ⟨w.heap.size, 0, none⟩) 1 1) 1 [v] :=
 ⟨by simp, .inr ⟨w.heap.size, 1, #[v], rfl, hb, heap_alloc_new w _, Nat.le_refl _, by unfold maxLen; omega, rfl, by simp⟩⟩
theorem refAll_any (wn : Nat) (h1 : 1 ≤ wn) (h3 : wn ≤ 3) (A : Option Addr) (n cap : Nat) (w : World) :
  Calls Tryz.prog 63 #[.agg #[.int .i64 (wn : Int), .slice A n cap]] w fun e w' => ∃ v rs, e = .returned v ∧ w'.ownsRow w.heap.size 25 1 v (allLL wn).length (rs.map RI.val) ∧ LRows w' w.heap.size rs (allLL wn) ∧ Below w.heap.size w w' := by
 have hfin := allK_fin h1 h3
 have hfl := allLL_len h1 h3
 have hfm : ∀ l ∈ allLL wn, l.length ≤ 4 := fun l hl => (allLL_mem hl).1
 generalize allLL wn = FIN at *
 have HFM := Lib.hid hfm; clear hfm
 have hX := Blk.new w 24 #[.int .i64 (wn : Int), .slice A n cap]
 have hB : Below w.heap.size w (w.alloc (.cells #[.int .i64 (wn : Int), .slice A n cap] 24)) := (Below.refl _ w).alloc (Nat.le_refl _) _
 have qX := fun i => hX.cell i
 go_enter Tryz.func63, Tryz.ntmps63
 go_wp2_with fail
 obtain ⟨i25, hi, hz0, hz1', hz2'⟩ := info_parts info25
 obtain ⟨i3, hj, hy0, hy1', hy2'⟩ := info_parts info3
 have hX2 := hX.alloc (.cells #[.slice none 0 0] 25)
 have hB2 := hB.alloc (by rw [World.size_alloc]; omega) (.cells #[.slice none 0 0] 25)
 have hO := ownL1 (w.alloc (.cells #[.int .i64 (wn : Int), .slice A n cap] 24)) w.heap.size 25 (.slice none 0 0) (by rw [World.size_alloc]; omega)
 simp only [World.size_alloc] at hO
 clear hX hB qX
 have qX := fun i => hX2.cell i
 go_wp2_with fail
 go_loopg [3, 4, 5] 4 (fun g v f k wr => ∃ (kk F : Nat) (v0 : Value) (rs : List RI) (L : List (List Int)), g = 4 - kk ∧ kk ≤ 4 ∧ v = v0 ∧ f = .int .i64 F ∧ k = .int .i64 kk ∧ wr.ownsRow w.heap.size 25 1 v0 L.length (rs.map RI.val) ∧ Hid (LRows wr w.heap.size rs L) ∧ Hid (leftK wn kk F L FIN) ∧ Below w.heap.size w wr ∧ Blk wr w.heap.size 24 #[.int .i64 (wn : Int), .slice A n cap])
 case atStart => exact ⟨0, 0, _, [⟨none, 0, 0, []⟩], [[]], rfl, by omega, rfl, rfl, rfl, hO, Lib.hid ⟨rfl, fun r hr => by obtain rfl := List.mem_singleton.1 hr; exact World.ownsRow_nil _ _ _ _⟩, Lib.hid ⟨Nat.zero_le _, hfin⟩, hB2, hX2⟩
 case round =>
  clear hX2 hB2 hO qX hfin
  obtain ⟨kk, F, v0, rs, L, hg, hk, rfl, rfl, rfl, hown, hrows, hleft, hB, hX⟩ := hrel
  rename World => wr
  obtain ⟨va, vc, rfl⟩ := own_slice hown
  have HG := Lib.hid hg; clear hg
  have qX := fun i => hX.cell i
  by_cases hlt : kk < 4
  ·have hlti : (kk : Int) < 4 := by omega
   have HI := Lib.hid (hleft.out.start hlt); clear hleft
   obtain ⟨T, hT⟩ : ∃ T, T = L.length := ⟨_, rfl⟩
   rw [← hT] at HI hown ⊢
   have HT := Lib.hid hT; clear hT
   have hFT := HI.out.1
   have hwr := hB.size
   go_wp2_with fail
   go_loopg [3, 7] (T - F) (fun g v i wr => ∃ (ii : Nat) (v0 : Value) (rs : List RI) (L : List (List Int)), g = T - ii ∧ ii ≤ T ∧ v = v0 ∧ i = .int .i64 ii ∧ wr.ownsRow w.heap.size 25 1 v0 L.length (rs.map RI.val) ∧ Hid (LRows wr w.heap.size rs L) ∧ Hid (leftI wn kk T ii L FIN) ∧ Below w.heap.size w wr ∧ Blk wr w.heap.size 24 #[.int .i64 (wn : Int), .slice A n cap])
   case atStart => exact ⟨F, _, rs, L, rfl, hFT, rfl, rfl, by rw [← HT.out]; exact hown, hrows, HI, hB, hX⟩
   case round =>
    clear hown hrows HI HT hB hX qX hwr hFT
    rename World => wr0
    obtain ⟨ii, v0, rs, L, hg, hii, rfl, rfl, hown, hrows, HI, hB, hX⟩ := hrel
    rename World => wr
    obtain ⟨va, vc, rfl⟩ := own_slice hown
    have HG2 := Lib.hid hg; clear hg
    have qX := fun i => hX.cell i
    by_cases hlt2 : ii < T
    ·have hlti2 : (ii : Int) < T := by omega
     obtain ⟨l, hl⟩ := HI.out.start hlt2
     have HW := Lib.hid hl; clear hl HI
     have hwr := hB.size
     go_wp2_with fail
     go_loopg [3, 8] wn (fun g v i wr => ∃ (q : Nat) (v0 : Value) (rs : List RI) (L : List (List Int)), g = wn - q ∧ q ≤ wn ∧ v = v0 ∧ i = .int .i64 q ∧ wr.ownsRow w.heap.size 25 1 v0 L.length (rs.map RI.val) ∧ Hid (LRows wr w.heap.size rs L) ∧ Hid (leftW wn kk T ii l q L FIN) ∧ Below w.heap.size w wr ∧ Blk wr w.heap.size 24 #[.int .i64 (wn : Int), .slice A n cap])
     case atStart => exact ⟨0, _, rs, L, rfl, Nat.zero_le _, rfl, rfl, hown, hrows, HW, hB, hX⟩
     case round =>
      clear hown hrows HW hB hX qX hwr
      rename World => wr1
      obtain ⟨q, v0, rs, L, hg, hq, rfl, rfl, hown, hrows, HW, hB, hX⟩ := hrel
      rename World => wr
      obtain ⟨va, vc, rfl⟩ := own_slice hown
      have HG3 := Lib.hid hg; clear hg
      have qX := fun i => hX.cell i
      by_cases hlt3 : q < wn
      ·have hlti3 : (q : Int) < wn := by omega
       have hiL : ii < L.length := Nat.lt_of_lt_of_le HW.out.1 HW.out.2.1
       have hrl := hrows.out.len
       have hLf := pre_len HW.out.pre
       obtain ⟨b, off, hz, rfl, hb, hc0⟩ := (Rd.of_own hown).atm hiL
       have hzr : ii < rs.length := by simpa using hz
       have hxm := hrows.out.2 _ (List.getElem_mem hzr)
       have hxl : rs[ii].ws = l := by
        have h5 := HW.out.2.2.1
        rw [← hrows.out.1, List.getElem?_map, List.getElem?_eq_getElem hzr] at h5
        simpa using h5
       have hl4 : l.length ≤ 4 := HFM.out l (HW.out.pre.subset (List.mem_of_getElem? HW.out.2.2.1))
       rw [hxl] at hxm
       have hxn : rs[ii].n = l.length := by have h6 := hxm.1; simpa using h6.symm
       have hstep := HW.out.step hlt3
       have HS := Lib.hid hstep; clear hstep hxl
       unfold RI.val at hc0 hxm
       generalize rs[ii] = x at *
       obtain ⟨xa, xn, xc, xw⟩ := x
       simp only at hc0 hxm hxn
       subst hxn
       clear hz hzr hrl
       have hBs := hB.size
       go_wp2_with (first
         | (at_builtin; refine wpList_append_any _ rfl _ _ 25 rfl wr.heap.size 3 i3 (.int .i64 0) 1 8 Tryz.underlying25 hj hy0 hy1' hy2' rfl (by decide) (.slice none 0 0) 0 [] rfl (World.ownsRow_nil _ _ _ _) wr.heap.size xa l.length xc (l.map (Value.int .i64)) rfl ((Rd.of_own hxm).reads) (by simp [Value.oneCell']) (by unfold maxLen; omega) (by omega) (Nat.le_refl _) (fun v1 w1 hown1 hg1 hob1 => ?_); rw [Nat.zero_add, List.nil_append] at hown1; have hb1 : Below wr.heap.size wr w1 := (Below.refl _ wr).grown hg1 (Nat.le_refl _) (fun g hg => by cases hg); obtain ⟨ya, yc, rfl⟩ := own_slice hown1; clear hg1 hob1)
         | (at_builtin; refine wpList_append_any _ rfl _ _ 25 rfl wr.heap.size 3 i3 (.int .i64 0) 1 8 Tryz.underlying25 hj hy0 hy1' hy2' rfl (by decide) (.slice ya l.length yc) l.length (l.map (Value.int .i64)) rfl (hown1.alloc (.cells #[.int .i64 (q : Int)] 3)) (w1.heap.size + 1) (some ⟨w1.heap.size, 0, none⟩) 1 1 [.int .i64 (q : Int)] rfl (Rd.blkN (Blk.new w1 3 #[.int .i64 (q : Int)]) rfl (by omega)).reads (by simp [Value.oneCell']) (by unfold maxLen; omega) (by omega) (by have := hb1.size; simp only [World.size_alloc]; omega) (fun v2 w2 hown2 hg2 hob2 => ?_); have hb2 : Below wr.heap.size wr w2 := (hb1.alloc hb1.size (.cells #[.int .i64 (q : Int)] 3)).grown hg2 (by have := hb1.size; simp only [World.size_alloc]; omega) (fun g hg => ((hown1.alloc (.cells #[.int .i64 (q : Int)] 3)).lt g hg).1); obtain ⟨za, zc, rfl⟩ := own_slice hown2; clear hg2 hob2)
         | (at_builtin; refine wpList_append_any _ rfl _ _ 46 rfl w.heap.size 25 i25 (.slice none 0 0) 1 24 Tryz.underlying46 hi hz0 hz1' hz2' rfl (by decide) (.slice (some ⟨b, off, none⟩) L.length vc) L.length (rs.map RI.val) rfl ((ownsRow_below' hown hb2).alloc (.cells #[.slice za (l.length + 1) zc] 25)) (w2.heap.size + 1) (some ⟨w2.heap.size, 0, none⟩) 1 1 [.slice za (l.length + 1) zc] rfl (Rd.blkN (Blk.new w2 25 #[.slice za (l.length + 1) zc]) rfl (by omega)).reads (by simp [Value.oneCell']) (by unfold maxLen; omega) (by omega) (by have := hb2.size; simp only [World.size_alloc]; omega) (fun v3 w3 hown3 hg3 hob3 => ?_)))
       have hoA := (ownsRow_below' hown hb2).alloc (.cells #[.slice za (l.length + 1) zc] 25)
       have hB2 := ((hB.trans (hb2.mono hBs)).alloc (by have := hb2.size; omega) (.cells #[.slice za (l.length + 1) zc] 25)).grown hg3 (by have := hb2.size; simp only [World.size_alloc]; omega) (fun g hg => (hoA.lt g hg).1)
       have hX3 := ((hX.below hb2 hX.lt).alloc (.cells #[.slice za (l.length + 1) zc] 25)).grown hg3 (fun e' => own_blk_ne hoA ((hX.below hb2 hX.lt).alloc (.cells #[.slice za (l.length + 1) zc] 25)) (by decide) e'.symm)
       have hrow2 : LRows w3 w.heap.size (rs ++ [⟨za, l.length + 1, zc, l ++ [(q : Int)]⟩]) (L ++ [l ++ [(q : Int)]]) := by
        refine ⟨by rw [List.map_append, hrows.out.1]; rfl, fun r hr => ?_⟩
        rcases List.mem_append.1 hr with h | h
        ·have h1' := (ownsRow_below' (hrows.out.2 r h) hb2).alloc (.cells #[.slice za (l.length + 1) zc] 25)
         exact h1'.kept hg3 (own_ne h1' hoA (by decide))
        ·obtain rfl := List.mem_singleton.1 h
         have h1' := (own_mono hown2 hBs).alloc (.cells #[.slice za (l.length + 1) zc] 25)
         have h2' := h1'.kept hg3 (own_ne h1' hoA (by decide))
         show w3.ownsRow w.heap.size 3 1 (.slice za (l.length + 1) zc) (l.length + 1) ((l ++ [(q : Int)]).map (Value.int .i64))
         rw [List.map_append]; exact h2'
       go_roundg (wn - (q + 1))
       case measure => rw [HG3.out]; omega
       case rel => exact ⟨q + 1, v3, rs ++ [⟨za, l.length + 1, zc, l ++ [(q : Int)]⟩], L ++ [l ++ [(q : Int)]], rfl, by omega, rfl, by go_num, by rw [List.length_append, List.map_append]; exact hown3, Lib.hid hrow2, HS, hB2, hX3⟩
      ·have hge3 : ¬ (q : Int) < wn := by omega
       have hTb : T ≤ 121 := by have h5 := pre_len HW.out.pre; have h6 := HW.out.2.1; omega
       have HI := Lib.hid (HW.out.done hlt3); clear HW
       go_wp2_with fail
       go_roundg (T - (ii + 1))
       case measure => rw [HG2.out]; omega
       case rel => exact ⟨ii + 1, _, rs, L, rfl, by omega, rfl, by go_num, hown, hrows, HI, hB, hX⟩
    ·have hge2 : ¬ (ii : Int) < T := by omega
     have HK := Lib.hid (HI.out.done hlt2); clear HI
     go_wp2_with fail
     go_roundg (4 - (kk + 1))
     case measure => rw [HG.out]; omega
     case rel => exact ⟨kk + 1, T, _, rs, L, rfl, by omega, rfl, rfl, by go_num, hown, hrows, HK, hB, hX⟩
  ·have hge : ¬ (kk : Int) < 4 := by omega
   have hLF := hleft.out.fin hlt
   go_wp2_with (fail)
   go_ret
   exact ⟨_, rfl, rs, by rw [← hLF]; exact hown, by rw [← hLF]; exact hrows.out, hB⟩
end
section
open Go.RowKit Go.Lib
theorem nwL_lbS {l : List Int} (h : ∀ x ∈ l, 0 ≤ x ∧ x ≤ 2) : nwL (lbS l) = l := by
 unfold nwL lbS lbL
 show (l.map fun x => UInt8.ofNat x.toNat).map (fun b => ((b.toNat : Nat) : Int)) = l
 rw [List.map_map]
 conv => rhs; rw [← List.map_id l]
 refine List.map_congr_left fun x hx => ?_
 have := h x hx
 simp only [Function.comp_apply, UInt8.toNat_ofNat', id]
 omega
theorem allLn_LL (wn : Nat) : allLn wn = (allLL wn).map lbS := by
 unfold allLn allLL
 rw [List.map_flatMap]
theorem allLL_small {wn : Nat} (h3 : wn ≤ 3) {l : List Int} (h : l ∈ allLL wn) : ∀ x ∈ l, 0 ≤ x ∧ x ≤ 2 := fun x hx => by
 have := (allLL_mem h).2 x hx
 omega
theorem LL.of_lrows {w : World} {base N : Nat} {v : Value} {rs : List RI} {L : List (List Int)} (h : w.ownsRow base 25 1 v N (rs.map RI.val)) (hR : LRows w base rs L) (hN : N ≤ 1000000) (hl : ∀ l ∈ L, l.length ≤ 1000) : LL w v L := by
 obtain ⟨a, c, rfl⟩ := own_slice h
 refine ⟨a, N, c, rs, rfl, own_le0 h, own_cap h, hN, Rd.of_own h, fun r hr => ?_, hR.1⟩
 have h2 := hR.2 r hr
 have h4 := hl r.ws (by rw [← hR.1]; exact List.mem_map_of_mem hr)
 have h5 : r.ws.length = r.n := by have := h2.1; simpa using this
 exact ⟨⟨own_le0 h2, own_cap h2, Rd.of_own h2⟩, by omega⟩
section
variable {wn : Nat} {A : Option Addr} {n cap : Nat} {cs : List VC} {w : World} {A1 A2 : Option Addr} {n1 n2 c1 c2 : Nat} {l1 l2 : List Int}
theorem same_LL_eq {w : World} {v v2 : Value} {l : List (List Int)} (h : LL w v l) (h2 : LL w v2 l) : Calls Tryz.prog 39 #[v, v2] w fun e w' => e = .returned (.bool true) ∧ Below w.heap.size w w' := by
 have h3 := same_LL h h2
 rw [decide_eq_true rfl] at h3
 exact h3
end
end
section
open Go.RowKit Go.Lib
def wk (l : List Int) (k : Nat) (x : Int) : Nat := if l[k]? = some x then k + 1 else k
def wkAll (l line : List Int) : Nat := line.foldl (wk l) 0
def wtnB (l line : List Int) : Bool := decide (wkAll l line = l.length)
theorem wk_full (l : List Int) (k : Nat) (h : l.length ≤ k) : ∀ ys : List Int, ys.foldl (wk l) k = k
 | [] => rfl
 | y :: ys => by
  rw [List.foldl_cons, wk, List.getElem?_eq_none h, if_neg (by simp)]
  exact wk_full l k h ys
theorem within49_any (A : Option Addr) (n cap : Nat) (xs : List Int) (A2 : Option Addr) (n2 cap2 : Nat) (ys : List Int) (w : World) (h1 : IA w A n cap xs) (h2 : IA w A2 n2 cap2 ys) (hn : n ≤ 1000000) (hn2 : n2 ≤ 1000000) :
  Calls Tryz.prog 49 #[.slice A n cap, .slice A2 n2 cap2] w fun e w' => e = .returned (.bool (wtnB xs ys)) ∧ Below w.heap.size w w' := by
 have hl1 := h1.len; have hl2 := h2.len
 obtain ⟨R, hR⟩ : ∃ R, R = wkAll xs ys := ⟨_, rfl⟩
 have HR0 : Hid (wtnB xs ys = decide (R = n)) := Lib.hid (by rw [hR, ← hl1]; rfl)
 have H1 := Lib.hid h1; have H2 := Lib.hid h2; clear h1 h2
 go_enter Tryz.func49, Tryz.ntmps49
 go_wp2_with fail
 go_loopg [5, 6] n2 (fun g v i wr => ∃ j k : Nat, g = n2 - j ∧ j ≤ n2 ∧ k ≤ n ∧ v = .int .i64 k ∧ i = .int .i64 j ∧ Hid (R = (ys.drop j).foldl (wk xs) k) ∧ Below w.heap.size w wr)
 case atStart => exact ⟨0, 0, rfl, Nat.zero_le _, Nat.zero_le _, rfl, rfl, Lib.hid hR, Below.refl _ _⟩
 case round =>
  clear hR
  obtain ⟨j, k, hg, hj, hk, rfl, rfl, hpre, hB⟩ := hrel
  rename World => wr
  have HG := Lib.hid hg; clear hg
  by_cases hlt : j < n2
  ·by_cases hlk : k < n
   ·have hlti : (j : Int) < n2 := by omega
    have hlki : (k : Int) < n := by omega
    obtain ⟨b, off, hz, rfl, hb, hc1⟩ := (H1.out.toW hB).2.2.atm hlk
    obtain ⟨b2, off2, hz2, rfl, hb2, hc2⟩ := (H2.out.toW hB).2.2.atm hlt
    have e2 : ys.drop j = ys[j] :: ys.drop (j + 1) := List.drop_eq_getElem_cons hz2
    have hp := hpre.out
    rw [e2, List.foldl_cons, wk, List.getElem?_eq_getElem hz] at hp
    generalize xs[k] = x at *
    generalize ys[j] = y at *
    have HP := Lib.hid hp; clear hp e2 hz hz2 hpre
    have hq1 := fun (p : Blw wr.heap.size wr) => ((Blw.h p).cell (p := ⟨b, off + k, none⟩) hb).trans hc1
    have hq2 := fun (p : Blw wr.heap.size wr) => ((Blw.h p).cell (p := ⟨b2, off2 + j, none⟩) hb2).trans hc2
    go_upto_region 5 with (fail)
    refine wp_region_blw (by kernel_rfl) (by kernel_rfl) ?_
    repeat (go_big_quiet_step (fail))
    refine wpQuiet_nil ?_
    rintro W3 ⟨⟨_, hb3⟩, rfl⟩
    clear hq1 hq2
    replace hB := hB.trans (hb3.mono hB.size)
    clear hb3 hc1 hc2 hb hb2
    by_cases hxy : y = x
    ·subst hxy
     have HP2 : Hid (R = (ys.drop (j + 1)).foldl (wk xs) (k + 1)) := Lib.hid (by rw [HP.out, if_pos rfl])
     clear HP
     go_wp2_with fail
     go_roundg (n2 - (j + 1))
     case measure => rw [HG.out]; omega
     case rel => exact ⟨j + 1, k + 1, rfl, by omega, by omega, by go_num, by go_num, HP2, hB⟩
    ·have HP2 : Hid (R = (ys.drop (j + 1)).foldl (wk xs) k) := Lib.hid (by rw [HP.out, if_neg (fun h => hxy (Option.some.inj h).symm)])
     clear HP
     go_wp2_with fail
     go_roundg (n2 - (j + 1))
     case measure => rw [HG.out]; omega
     case rel => exact ⟨j + 1, k, rfl, by omega, hk, rfl, by go_num, HP2, hB⟩
   ·obtain rfl : k = n := by omega
    have hlti : (j : Int) < n2 := by omega
    have hge : ¬ (k : Int) < k := by omega
    have hp := hpre.out
    rw [wk_full _ _ (by omega)] at hp
    have HP := Lib.hid hp; clear hp hpre
    go_wp2_with fail
    go_ret
    exact ⟨by rw [HR0.out, HP.out, decide_eq_true rfl]; simp, hB⟩
  ·have hge : ¬ (j : Int) < n2 := by omega
   have hp := hpre.out
   rw [List.drop_eq_nil_of_le (by omega)] at hp
   have HP := Lib.hid hp; clear hp hpre
   go_wp2_with fail
   go_ret
   refine ⟨?_, hB⟩
   rw [HR0.out, HP.out]
   by_cases e : k = n
   ·subst e; simp
   ·have : ¬ (k : Int) = n := by omega
    simp [e, this]
end
section
open Go.RowKit Go.Lib
def costC (q : Nat) (l : List Int) (c : VC) : Nat := match c.ls[q]? with | some v => if v.lost then 0 else ed l v.ws | none => 0
def cost1 (q : Nat) (l : List Int) (cs : List VC) : Nat := (cs.map (costC q l)).sum
theorem cost1_snoc (q : Nat) (l : List Int) (cs : List VC) (c : VC) : cost1 q l (cs ++ [c]) = cost1 q l cs + costC q l c := by unfold cost1; simp
theorem cost1_any {wn : Nat} {A : Option Addr} {n : Nat} (cap : Nat) {cs : List VC} (q : Nat) (A1 : Option Addr) (n1 c1 : Nat) (l : List Int) {w : World} (hb : BkG wn A n cs w w.heap.size) (hq : q < headN cs) (h1 : IA w A1 n1 c1 l) (hn1 : n1 ≤ 6) :
  Calls Tryz.prog 141 #[.agg #[.int .i64 (wn : Int), .slice A n cap], .int .i64 (q : Int), .slice A1 n1 c1] w fun e w' => e = .returned (.int .i64 (cost1 q l cs : Nat)) ∧ cost1 q l cs ≤ 30 ∧ Below w.heap.size w w' := by
 have hlen := hb.len
 have hn5 := hb.2.1
 have hq4 : q < 4 := by have := hb.2.2.1; omega
 have hX := Blk.new w 24 #[.int .i64 (wn : Int), .slice A n cap]
 have hB : Below w.heap.size w (w.alloc (.cells #[.int .i64 (wn : Int), .slice A n cap] 24)) := (Below.refl _ w).alloc (Nat.le_refl _) _
 have qX := fun i => hX.cell i
 obtain ⟨S, hS⟩ : ∃ S, S = cost1 q l cs := ⟨_, rfl⟩
 rw [← hS]
 have HBK := Lib.hid hb; have HQ := Lib.hid hq; have HS := Lib.hid hS; have HL := Lib.hid hlen; have H1 := Lib.hid h1; clear hb hq hS hlen h1
 go_enter Tryz.func141, Tryz.ntmps141
 go_wp2_with fail
 go_loopg [7, 8] n (fun g v i wr => ∃ k z : Nat, g = n - k ∧ k ≤ n ∧ v = .int .i64 z ∧ i = .int .i64 k ∧ Hid (z = cost1 q l (cs.take k)) ∧ z ≤ 6 * k ∧ Below w.heap.size w wr ∧ Blk wr w.heap.size 24 #[.int .i64 (wn : Int), .slice A n cap])
 case atStart => exact ⟨0, 0, rfl, Nat.zero_le _, rfl, rfl, Lib.hid rfl, Nat.le_refl _, hB, hX⟩
 case round =>
  clear hX hB qX
  obtain ⟨k, z, hg, hk, rfl, rfl, hz, hzk, hB, hX⟩ := hrel
  rename World => wr
  have HG := Lib.hid hg; clear hg
  have qX := fun i => hX.cell i
  by_cases hlt : k < n
  ·have hlti : (k : Int) < n := by omega
   have hb2 := HBK.out.toW hB
   obtain ⟨b, off, hzk2, rfl, hbw, hcell⟩ := hb2.2.2.2.1.atm hlt
   have hin := List.getElem_mem hzk2
   have hco := hb2.2.2.2.2.1 _ hin
   have hcn := hb2.2.2.2.2.2.1 _ hin
   have hcv := hb2.2.2.2.2.2.2 _ hin
   have hap := cost1_snoc q l (cs.take k) cs[k]
   rw [← List.take_succ_eq_append_getElem hzk2, ← hz.out] at hap
   generalize cs[k] = c at *
   obtain ⟨cA, cn, ccap, cls⟩ := c
   obtain ⟨k1, k2, k3, k4⟩ := hco
   dsimp only at k1 k2 k3 k4 hcn hcv
   simp only [VC.val] at hcell
   have hqn : q < cn := by rw [hcn.1]; exact HQ.out
   have hqi : (q : Int) < cn := by omega
   obtain ⟨b2, off2, hz2, rfl, hb2', hv0, hv1⟩ := k4.at2 hqn
   have hvin := List.getElem_mem hz2
   have hvok := k3 _ hvin
   have hvw := hcv _ hvin
   have hcc : costC q l ⟨some ⟨b2, off2, none⟩, cn, ccap, cls⟩ = if cls[q].lost then 0 else ed l cls[q].ws := by
    unfold costC
    simp only [List.getElem?_eq_getElem hz2]
   generalize cls[q] = v at *
   obtain ⟨lost, vA, vn, vc, vws⟩ := v
   dsimp only at hv0 hv1 hvok hvw hcc
   obtain ⟨v1, v2, v3⟩ := hvok
   dsimp only at v1 v2 v3
   rw [hcc] at hap
   have hll := H1.out.len
   have hed := ed_le l vws
   have hE6 : ed l vws ≤ 6 := by have := hvw.2.1; omega
   have hvn := hvw.1
   have HAP := Lib.hid hap; have HV3 := Lib.hid v3
   clear hap hcc hvw hvin hz2 k3 k4 hcv hin hzk2 hb2 hcn hed hz
   have hBa : Below wr.heap.size wr (wr.alloc (.cells #[.bool lost, .slice vA vn vc] 76)) := (Below.refl _ wr).alloc (Nat.le_refl _) _
   have hY := Blk.new wr 76 #[.bool lost, .slice vA vn vc]
   have qY := fun i => hY.cell i
   have hB2 := hB.trans (hBa.mono hB.size)
   have hX2 := hX.below hBa hX.lt
   cases lost
   ·have hrc := refChanges_any (n1 + vn) A1 n1 c1 l vA vn vc vws (wr.alloc (.cells #[.bool false, .slice vA vn vc] 76)) (Nat.le_refl _) (by omega) (by omega) H1.out.1 v1 (H1.out.toW hB2).2.2 (rdB HV3.out hBa)
    have HRC := Lib.hid hrc; clear hrc
    rw [if_neg (by decide)] at HAP
    generalize ed l vws = E at *
    have hzE : z + E ≤ 6 * (k + 1) := by omega
    clear hX hB
    go_wp2_with fail
    refine HRC.out.mono ?_; rintro e w1 ⟨rfl, hb1⟩
    replace hB2 := hB2.trans (hb1.mono hB2.size); replace hX2 := hX2.below hb1 hX2.lt
    clear hb1 qX qY hY
    go_wp2_with fail
    go_roundg (n - (k + 1))
    case measure => rw [HG.out]; omega
    case rel => exact ⟨k + 1, z + E, rfl, by omega, by go_num, by go_num, Lib.hid HAP.out.symm, hzE, hB2, hX2⟩
   ·rw [if_pos rfl] at HAP
    clear hX hB
    go_wp2_with fail
    go_roundg (n - (k + 1))
    case measure => rw [HG.out]; omega
    case rel => exact ⟨k + 1, z, rfl, by omega, rfl, by go_num, Lib.hid HAP.out.symm, by omega, hB2, hX2⟩
  ·obtain rfl : k = n := by omega
   have hge : ¬ (k : Int) < k := by omega
   have htk : cs.take k = cs := List.take_of_length_le (by rw [HL.out]; exact Nat.le_refl _)
   have hzS : z = S := by rw [hz.out, htk, HS.out]
   subst hzS
   go_wp2_with fail
   go_ret
   exact ⟨rfl, by omega, hB⟩
end
section
open Go.RowKit Go.Lib
theorem cost1_le {wn : Nat} {A : Option Addr} {n : Nat} {cs : List VC} {w : World} {B : Nat} (hb : BkG wn A n cs w B) (q : Nat) (l : List Int) (hl : l.length ≤ 6) : cost1 q l cs ≤ 30 := by
 have h1 : ∀ c ∈ cs, costC q l c ≤ 6 := fun c hc => by
  unfold costC
  split
  ·rename_i v hv
   split
   ·omega
   ·have h2 := ed_le l v.ws
    have h3 := (hb.2.2.2.2.2.2 c hc v (List.mem_of_getElem? hv)).2.1
    omega
  ·omega
 have h2 : ∀ xs : List VC, (∀ c ∈ xs, costC q l c ≤ 6) → (xs.map (costC q l)).sum ≤ 6 * xs.length := by
  intro xs
  induction xs with
  | nil => intro _; simp
  | cons c xs ih =>
   intro h
   have a1 := h c (by simp)
   have a2 := ih (fun c hc => h c (by simp [hc]))
   simp only [List.map_cons, List.sum_cons, List.length_cons]
   omega
 have h3 := h2 cs h1
 have h4 := hb.len
 have h5 := hb.2.1
 unfold cost1
 omega
def costsL (wn q : Nat) (cs : List VC) : List Int := (allLL wn).map fun l => (cost1 q l cs : Nat)
theorem costs96_any {wn : Nat} {A : Option Addr} {n : Nat} (cap : Nat) {cs : List VC} (q : Nat) {w : World} (hb : BkG wn A n cs w w.heap.size) (hq : q < headN cs) :
  Calls Tryz.prog 96 #[.agg #[.int .i64 (wn : Int), .slice A n cap], .int .i64 (q : Int)] w fun e w' => ∃ v, e = .returned v ∧ w'.ownsRow w.heap.size 3 1 v (costsL wn q cs).length ((costsL wn q cs).map (Value.int .i64)) ∧ Below w.heap.size w w' := by
 obtain ⟨i3, hi, hz0, hz1', hz2'⟩ := info_parts info3
 have hX := Blk.new w 24 #[.int .i64 (wn : Int), .slice A n cap]
 have hB : Below w.heap.size w (w.alloc (.cells #[.int .i64 (wn : Int), .slice A n cap] 24)) := (Below.refl _ w).alloc (Nat.le_refl _) _
 have qX := fun i => hX.cell i
 have hal := refAll_any wn hb.1.1 hb.1.2 A n cap
 have hfl := allLL_len hb.1.1 hb.1.2
 have hfm : ∀ l ∈ allLL wn, l.length ≤ 4 := fun l hl => (allLL_mem hl).1
 have hc1 := fun (wx : World) (A1 : Option Addr) (n1 c1 : Nat) (l : List Int) (hx : Below w.heap.size w wx) (h1 : IA wx A1 n1 c1 l) (hn1 : n1 ≤ 6) => cost1_any cap q A1 n1 c1 l (hb.toW hx) hq h1 hn1
 have hcl := fun (l : List Int) (hl : l.length ≤ 6) => cost1_le hb q l hl
 obtain ⟨f, hf⟩ : ∃ f : List Int → Int, f = fun l => ((cost1 q l cs : Nat) : Int) := ⟨_, rfl⟩
 have hCL : costsL wn q cs = (allLL wn).map f := by rw [hf]; rfl
 rw [hCL, List.length_map]
 clear hCL
 generalize allLL wn = FIN at *
 obtain ⟨N, hN⟩ : ∃ N, N = FIN.length := ⟨_, rfl⟩
 rw [← hN] at hal hfl ⊢
 have HF := Lib.hid hf; have HN := Lib.hid hN; clear hf hN
 have HFM := Lib.hid hfm; have HAL := Lib.hid hal; have HC1 := Lib.hid hc1; have HCL := Lib.hid hcl; clear hfm hal hc1 hcl hb hq
 go_enter Tryz.func96, Tryz.ntmps96
 go_wp2_with fail
 refine (HAL.out _).mono ?_; rintro e wc ⟨va0, rs, rfl, hown, hrows, hbw⟩
 have hsz := hB.size
 replace hown := own_mono hown hsz
 replace hB := hB.trans (hbw.mono hsz); replace hX := hX.below hbw hX.lt; clear hbw qX hsz HAL
 have hrows' : LRows wc w.heap.size rs FIN := ⟨hrows.1, fun r hr => own_mono (hrows.2 r hr) (by simp)⟩
 have HR := Lib.hid hrows'; clear hrows hrows'
 obtain ⟨va, vc, rfl⟩ := own_slice hown
 have hrN : rs.length = N := by rw [HN.out, HR.out.len]
 have HRN := Lib.hid hrN; clear hrN
 have hwc := hB.size
 go_wp2_with fail
 go_loopg [6, 7] N (fun g v i wr => ∃ (k : Nat) (v0 : Value), g = N - k ∧ k ≤ N ∧ v = v0 ∧ i = .int .i64 k ∧ wr.ownsRow wc.heap.size 3 1 v0 k (((FIN.take k).map f).map (Value.int .i64)) ∧ Below wc.heap.size wc wr ∧ Blk wr w.heap.size 24 #[.int .i64 (wn : Int), .slice A n cap])
 case atStart => exact ⟨0, _, rfl, Nat.zero_le _, rfl, rfl, World.ownsRow_nil _ _ _ _, Below.refl _ _, hX⟩
 case round =>
  clear hX
  obtain ⟨k, v0, hg, hk, rfl, rfl, hout, hBd, hX⟩ := hrel
  rename World => wr
  obtain ⟨oa, oc, rfl⟩ := own_slice hout
  have HG := Lib.hid hg; clear hg
  by_cases hlt : k < N
  ·have hlti : (k : Int) < N := by omega
   obtain ⟨b', off, hz, rfl, hbb, hc00⟩ := (Rd.of_own hown).atm hlt
   have hzr : k < rs.length := by simpa using hz
   have hkF : k < FIN.length := by rw [← HN.out]; exact hlt
   have hxm := (HR.out.below hBd).2 _ (List.getElem_mem hzr)
   have hFk : FIN[k] = rs[k].ws := by
    have h9 := HR.out.1
    subst h9
    simp
   have htk : FIN.take (k + 1) = FIN.take k ++ [rs[k].ws] := by rw [← hFk]; exact List.take_succ_eq_append_getElem hkF
   have hl4 : rs[k].ws.length ≤ 4 := HFM.out _ (by rw [← hFk]; exact List.getElem_mem hkF)
   have HTK := Lib.hid htk; clear htk hFk hkF
   unfold RI.val at hc00 hxm
   generalize rs[k] = xx at *
   clear hz hzr
   obtain ⟨xa, xn, xc, l⟩ := xx
   simp only at hc00 hxm hl4
   have hxn : xn = l.length := by have h6 := hxm.1; simpa using h6.symm
   subst hxn
   have hC30 := HCL.out l (by omega)
   have hIA : IA wr xa l.length xc l := ⟨own_le0 hxm, own_cap hxm, Rd.of_own hxm⟩
   have HIA := Lib.hid hIA; clear hIA
   obtain ⟨E, hE⟩ : ∃ E, E = cost1 q l cs := ⟨_, rfl⟩
   rw [← hE] at hC30
   have HE := Lib.hid hE
   have HFE : Hid (f l = (E : Int)) := Lib.hid (by rw [HF.out, hE])
   have hHC := fun (wx : World) (hx : Below wr.heap.size wr wx) => HC1.out wx xa l.length xc l ((hB.trans (hBd.mono hwc)).trans (hx.mono (Nat.le_trans hwc hBd.size))) (HIA.out.toW hx) (by omega)
   rw [← hE] at hHC
   have HHC := Lib.hid hHC; clear hHC hE hxm
   obtain ⟨ys, hys⟩ : ∃ ys, ys = ((FIN.take k).map f).map (Value.int .i64) := ⟨_, rfl⟩
   rw [← hys] at hout
   have HYS := Lib.hid hys; clear hys
   have HC0 : Hid (∀ W : World, Below wc.heap.size wc W → W.cell? ⟨b', off + k, none⟩ = some (.slice xa l.length xc)) := Lib.hid fun W hW => (hW.cell (p := ⟨b', off + k, none⟩) hbb).trans hc00
   clear hc00
   go_upto_region 6 with (fail)
   rename World => WR
   refine wp_region_G (fun w' => Blk w' w.heap.size 24 #[.int .i64 (wn : Int), .slice A n cap] ∧ w'.cell? ⟨b', off + k, none⟩ = some (.slice xa l.length xc)) 10 (by kernel_rfl) ?_
   replace hX := hX.drew; replace hout := hout.drew; replace hBd := hBd.drew
   have hW : Below WR.heap.size WR WR.drew := (Below.refl _ WR).drew
   generalize WR.drew = WD at *
   have hTT : Blk WD w.heap.size 24 #[.int .i64 (wn : Int), .slice A n cap] ∧ WD.cell? ⟨b', off + k, none⟩ = some (.slice xa l.length xc) := ⟨hX, HC0.out _ hBd⟩
   refine wpG_take (i := 0) (v := ?vx1_0) rfl (by kernel_rfl) (by kernel_rfl) (by kernel_rfl) (by kernel_rfl) (fun _ _ _ h => h) (Or.inl ⟨by rfl, ?hyx1_0⟩) hTT ?restx1_0
   case hyx1_0 => intro wq hSw; have q0 := fun i => hSw.1.cell i; have q2 := hSw.2; skip; go_simp <;> with_reducible rfl
   simp only [LS, Act.put]
   refine wpG_take (i := 1) (v := ?vx1_1) rfl (by kernel_rfl) (by kernel_rfl) (by kernel_rfl) (by kernel_rfl) (fun _ _ _ h => h) (Or.inl ⟨by rfl, ?hyx1_1⟩) hTT ?restx1_1
   case hyx1_1 => intro wq hSw; have q0 := fun i => hSw.1.cell i; have q2 := hSw.2; skip; go_simp <;> with_reducible rfl
   simp only [LS, Act.put]
   refine wpG_take (i := 2) (v := ?vx1_2) rfl (by kernel_rfl) (by kernel_rfl) (by kernel_rfl) (by kernel_rfl) (fun _ _ _ h => h) (Or.inl ⟨by rfl, ?hyx1_2⟩) hTT ?restx1_2
   case hyx1_2 => intro wq hSw; have q0 := fun i => hSw.1.cell i; have q2 := hSw.2; skip; go_simp <;> with_reducible rfl
   simp only [LS, Act.put]
   refine wpG_take (i := 3) (v := ?vx1_3) rfl (by kernel_rfl) (by kernel_rfl) (by kernel_rfl) (by kernel_rfl) (fun _ _ _ h => h) (Or.inl ⟨by rfl, ?hyx1_3⟩) hTT ?restx1_3
   case hyx1_3 => intro wq hSw; have q0 := fun i => hSw.1.cell i; have q2 := hSw.2; skip; go_simp <;> with_reducible rfl
   simp only [LS, Act.put]
   refine wpG_take (i := 4) (v := ?vx1_4) rfl (by kernel_rfl) (by kernel_rfl) (by kernel_rfl) (by kernel_rfl) (fun _ _ _ h => h) (Or.inl ⟨by rfl, ?hyx1_4⟩) hTT ?restx1_4
   case hyx1_4 => intro wq hSw; have q0 := fun i => hSw.1.cell i; have q2 := hSw.2; skip; go_simp <;> with_reducible rfl
   simp only [LS, Act.put]
   refine wpG_take (i := 5) (v := ?vx1_5) rfl (by kernel_rfl) (by kernel_rfl) (by kernel_rfl) (by kernel_rfl) (fun _ _ _ h => h) (Or.inl ⟨by rfl, ?hyx1_5⟩) hTT ?restx1_5
   case hyx1_5 => intro wq hSw; have q0 := fun i => hSw.1.cell i; have q2 := hSw.2; skip; go_simp <;> with_reducible rfl
   simp only [LS, Act.put]
   refine wpG_take (i := 6) (v := ?vx1_6) rfl (by kernel_rfl) (by kernel_rfl) (by kernel_rfl) (by kernel_rfl) (fun _ _ _ h => h) (Or.inl ⟨by rfl, ?hyx1_6⟩) hTT ?restx1_6
   case hyx1_6 => intro wq hSw; have q0 := fun i => hSw.1.cell i; have q2 := hSw.2; skip; go_simp <;> with_reducible rfl
   simp only [LS, Act.put]
   refine wpG_one (i := 7) rfl (by kernel_rfl) (fun K hK => ?_)
   go_simp
   refine (HHC.out _ hW).mono ?_
   rintro e w2 ⟨rfl, _, hb2⟩
   replace hX := hX.below hb2 hX.lt; replace hout := ownsRow_below' hout hb2; replace hBd := hBd.trans (hb2.mono hBd.size); replace hTT := And.intro hX (HC0.out _ hBd); clear hb2 hW
   refine hK _ _ (.inr hTT) ?_
   clear hK K
   try simp only [LS, Act.put]
   refine wpG_one (i := 8) rfl (by kernel_rfl) (fun K hK => ?_)
   go_simp
   replace hX := hX.alloc (.cells #[.int .i64 (E : Int)] 3); replace hout := hout.alloc (.cells #[.int .i64 (E : Int)] 3); replace hBd := hBd.alloc hBd.size (.cells #[.int .i64 (E : Int)] 3); replace hTT := And.intro hX (HC0.out _ hBd)
   have hn3 := Blk.new w2 3 #[.int .i64 (E : Int)]
   refine hK _ _ (.inr hTT) ?_
   clear hK K
   try simp only [LS, Act.put]
   refine wpG_one (i := 9) rfl (by kernel_rfl) (fun K hK => ?_)
   rw [if_pos (by rfl)]
   refine wp_append_any _ _ _ 25 rfl wc.heap.size 3 i3 (.int .i64 0) 1 8 Tryz.underlying25 hi hz0 hz1' hz2' rfl (by decide) (.slice oa k oc) k ys rfl hout (w2.heap.size + 1) (some ⟨w2.heap.size, 0, none⟩) 1 1 [.int .i64 (E : Int)] rfl (Rd.blkN hn3 rfl (Nat.lt_succ_self _)).reads (by simp [Value.oneCell']) (by unfold maxLen; omega) (by omega) (by have := hBd.size; simp only [World.size_alloc] at *; omega) (fun v3 w3 hown3 hgrow hob => ?_)
   have hX3 := hX.kept_own hout (by decide) hgrow
   have hBd3 := hBd.grown hgrow (by have := hBd.size; omega) (fun g hg => (hout.lt g hg).1)
   replace hTT := And.intro hX3 (HC0.out _ hBd3)
   refine hK _ _ (.inr hTT) ?_
   clear hK K
   try simp only [LS, Act.put]
   refine wpG_one (i := 10) rfl (by kernel_rfl) (fun K hK => ?_)
   go_simp
   refine hK _ _ (.inl rfl) ?_
   clear hK K
   try simp only [LS, Act.put]
   refine wpG_done (by kernel_rfl) ?_ _
   clear hTT
   go_wp2_with fail
   go_roundg (N - (k + 1))
   case measure => rw [HG.out]; omega
   case rel => exact ⟨k + 1, v3, rfl, by omega, rfl, by go_num, by rw [HTK.out, List.map_append, List.map_append, ← HYS.out]; simp only [List.map_cons, List.map_nil]; rw [HFE.out]; exact hown3, hBd3, hX3⟩
  ·obtain rfl : k = N := by omega
   have hge : ¬ (k : Int) < k := by omega
   have htk : FIN.take k = FIN := List.take_of_length_le (by rw [HN.out]; exact Nat.le_refl _)
   rw [htk] at hout
   have HOUT := Lib.hid hout; clear hout htk
   go_wp2_with fail
   go_ret
   have h9 := own_mono HOUT.out hwc
   rw [List.map_map] at h9
   exact ⟨_, rfl, h9, hB.trans (hBd.mono hwc)⟩
end
section
open Go.RowKit Go.Lib
def minF (f : List Int → Nat) (L : List (List Int)) : Nat := L.foldl (fun m x => min m (f x)) (match L with | [] => 0 | l :: _ => f l)
def leastF (f : List Int → Nat) (L : List (List Int)) : List (List Int) := L.filter fun l => f l == minF f L
theorem least95_any (A : Option Addr) (n cap : Nat) (rs : List RI) (B : Nat) (L : List (List Int)) (f : List Int → Nat) (A2 : Option Addr) (n2 c2 : Nat) (w : World) (ha4 : Rd w w.heap.size 1 A n (rs.map RI.val)) (ha5 : LRows w B rs L) (h0 : 0 < L.length) (hL : L.length ≤ 1000) (hf : ∀ l ∈ L, f l ≤ 1000) (h2 : IA w A2 n2 c2 (L.map fun l => (f l : Int))) :
  Calls Tryz.prog 95 #[.slice A n cap, .slice A2 n2 c2] w fun e w' => (∃ u rs2, e = .returned (.tuple #[u, .int .i64 (minF f L : Nat)]) ∧ w'.ownsRow w.heap.size 25 1 u (leastF f L).length (rs2.map RI.val) ∧ LRows w' B rs2 (leastF f L)) ∧ Below w.heap.size w w' := by
 obtain ⟨i25, hi, hz0, hz1', hz2'⟩ := info_parts info25
 have hrs := ha5.1
 have hn : L.length = n := by have := ha4.len; rw [← hrs]; simpa using this
 have hn2 : n = n2 := by have := h2.len; simpa [hn] using this
 subst hn2
 obtain ⟨S, hS⟩ : ∃ S, S = minF f L := ⟨_, rfl⟩
 have HLF : Hid (leastF f L = (rs.filter fun r => f r.ws == S).map RI.ws) := Lib.hid (by unfold leastF; rw [← hS, ← hrs, List.filter_map]; rfl)
 rw [← hS]
 obtain ⟨z0, hz0v⟩ : ∃ z0, z0 = (match L with | [] => 0 | l :: _ => f l) := ⟨_, rfl⟩
 have HS : Hid (S = L.foldl (fun m x => min m (f x)) z0) := Lib.hid (by rw [hS, hz0v]; rfl)
 have hz01 : z0 ≤ 1000 := by
  rw [hz0v]
  cases L with
  | nil => exact Nat.zero_le _
  | cons l ls => exact hf l (by simp)
 have hc0 : ∃ b off, A2 = some ⟨b, off, none⟩ ∧ b < w.heap.size ∧ w.cell? ⟨b, off, none⟩ = some (.int .i64 (z0 : Int)) := by
  obtain ⟨b, off, hz, e, hb, hc⟩ := h2.2.2.atm (show 0 < n by omega)
  refine ⟨b, off, e, hb, ?_⟩
  rw [Nat.add_zero] at hc
  rw [hc, hz0v]
  cases L with
  | nil => cases h0
  | cons l ls => simp
 obtain ⟨b, off, rfl, hb, hc0⟩ := hc0
 have HH2 := Lib.hid h2; have HN := Lib.hid hn; have HF := Lib.hid hf; have HRS := Lib.hid hrs; have HOK := Lib.hid ha5; have HRD := Lib.hid ha4
 clear h2 hn hf hrs ha5 ha4 hS hz0v
 have hn1 : (0 : Int) < (n : Int) := by have := HN.out; omega
 have hnn : n ≤ 1000 := by have := HN.out; omega
 clear h0 hL
 go_enter Tryz.func95, Tryz.ntmps95
 go_wp2_with fail
 go_loopg [6, 7] n (fun g v i wr => ∃ k z : Nat, g = n - k ∧ k ≤ n ∧ v = .int .i64 z ∧ i = .int .i64 k ∧ z ≤ 1000 ∧ Hid (z = (L.take k).foldl (fun m x => min m (f x)) z0) ∧ wr = w)
 case atStart => exact ⟨0, z0, rfl, Nat.zero_le _, rfl, rfl, hz01, Lib.hid rfl, rfl⟩
 case round =>
  obtain ⟨k, z, hg, hk, rfl, rfl, hz1, hz, rfl⟩ := hrel
  rename World => w
  have HG := Lib.hid hg; clear hg
  by_cases hlt : k < n
  ·have hlti : (k : Int) < n := by omega
   obtain ⟨b2, off2, hzk, e2, hbw, hcell⟩ := HH2.out.2.2.atm hlt
   cases e2
   have hzL : k < L.length := by simpa using hzk
   rw [List.getElem_map] at hcell
   have hst : (L.take (k + 1)).foldl (fun m x => min m (f x)) z0 = min z (f L[k]) := by rw [List.take_succ_eq_append_getElem hzL, List.foldl_append, ← hz.out]; rfl
   have hfk : f L[k] ≤ 1000 := HF.out _ (List.getElem_mem hzL)
   generalize f L[k] = y at *
   have HST := Lib.hid hst; clear hst hzk hzL hz
   by_cases hle : y < z
   ·have hlei : (y : Int) < z := by omega
    go_wp2_with fail
    go_roundg (n - (k + 1))
    case measure => rw [HG.out]; omega
    case rel => exact ⟨k + 1, y, rfl, by omega, by first | rfl | (congr 1; omega), by go_num, by omega, Lib.hid (by rw [HST.out]; omega), rfl⟩
   ·have hlei : ¬ (y : Int) < z := by omega
    go_wp2_with fail
    go_roundg (n - (k + 1))
    case measure => rw [HG.out]; omega
    case rel => exact ⟨k + 1, z, rfl, by omega, by first | rfl | (congr 1; omega), by go_num, by omega, Lib.hid (by rw [HST.out]; omega), rfl⟩
  ·obtain rfl : k = n := by omega
   have hge : ¬ (k : Int) < k := by omega
   have hzS : z = S := by rw [hz.out, HS.out, List.take_of_length_le (by rw [HN.out]; exact Nat.le_refl _)]
   subst hzS
   clear hz
   obtain ⟨P, hP⟩ : ∃ P : RI → Bool, P = fun r => f r.ws == z := ⟨_, rfl⟩
   rw [← hP] at HLF
   have HP := Lib.hid hP; clear hP
   have hrn : rs.length = k := by have := HN.out; rw [← HRS.out] at this; simpa using this
   have HRN := Lib.hid hrn; clear hrn
   have hfl0 := List.length_filter_le P rs
   rw [HRN.out] at hfl0
   go_wp2_with fail
   go_loopg [8, 9] k (fun g v i wr => ∃ (j : Nat) (v0 : Value), g = k - j ∧ j ≤ k ∧ v = v0 ∧ i = .int .i64 j ∧ wr.ownsRow w.heap.size 25 1 v0 ((rs.take j).filter P).length (((rs.take j).filter P).map RI.val) ∧ Below w.heap.size w wr)
   case atStart => exact ⟨0, _, rfl, Nat.zero_le _, rfl, rfl, World.ownsRow_nil _ _ _ _, Below.refl _ _⟩
   case round =>
    obtain ⟨j, v0, hg, hj, rfl, rfl, hout, hBd⟩ := hrel
    rename World => wr
    obtain ⟨oa, oc, rfl⟩ := own_slice hout
    have HG := Lib.hid hg; clear hg
    by_cases hlt : j < k
    ·have hlti : (j : Int) < k := by omega
     obtain ⟨b2, off2, hzk, e2, hbw, hcell⟩ := (HH2.out.toW hBd).2.2.atm hlt
     cases e2
     have hzL : j < L.length := by simpa using hzk
     rw [List.getElem_map] at hcell
     obtain ⟨b3, off3, hz3, rfl, hbw3, hcell3⟩ := (rdB HRD.out hBd).atm hlt
     have htk : rs.take (j + 1) = rs.take j ++ [rs[j]] := List.take_succ_eq_append_getElem hz3
     have hLj : L[j] = rs[j].ws := by
      have h9 := HRS.out
      subst h9
      simp
     have hfk : f L[j] ≤ 1000 := HF.out _ (List.getElem_mem hzL)
     rw [hLj] at hcell hfk
     have hPx : P rs[j] = (f rs[j].ws == z) := by rw [HP.out]
     have HTK := Lib.hid htk; clear htk hLj hzk hzL
     have hfl := List.length_filter_le P (rs.take j)
     rw [List.length_take, HRN.out] at hfl
     have hF1000 : ((rs.take j).filter P).length ≤ 1000 := by omega
     clear hfl
     unfold RI.val at hcell3
     generalize rs[j] = xx at *
     clear hz3
     obtain ⟨xa, xn, xc, l⟩ := xx
     simp only at hcell hcell3 hPx hfk
     generalize f l = y at *
     have HPX := Lib.hid hPx; clear hPx
     by_cases hcc : y = z
     ·have hPt : P ⟨xa, xn, xc, l⟩ = true := by rw [HPX.out]; simp [hcc]
      have hft : (rs.take (j + 1)).filter P = (rs.take j).filter P ++ [⟨xa, xn, xc, l⟩] := by rw [HTK.out, List.filter_append, List.filter_cons_of_pos hPt]; rfl
      have HFT := Lib.hid hft; clear hft hPt HPX
      subst hcc
      have hBs := hBd.size
      go_wp2_with (at_builtin; refine wpList_append_any _ rfl _ _ 46 rfl w.heap.size 25 i25 (.slice none 0 0) 1 24 Tryz.underlying46 hi hz0 hz1' hz2' rfl (by decide) (.slice oa ((rs.take j).filter P).length oc) ((rs.take j).filter P).length (((rs.take j).filter P).map RI.val) rfl (hout.alloc (.cells #[.slice xa xn xc] 25)) (wr.heap.size + 1) (some ⟨wr.heap.size, 0, none⟩) 1 1 [.slice xa xn xc] rfl (Rd.blkN (Blk.new wr 25 #[.slice xa xn xc]) rfl (by omega)).reads (by simp [Value.oneCell']) (by unfold maxLen; omega) (by omega) (by simp only [World.size_alloc]; omega) (fun v3 w3 hown3 hg3 hob3 => ?_))
      have hB2 := (hBd.alloc hBs (.cells #[.slice xa xn xc] 25)).grown hg3 (by simp only [World.size_alloc]; omega) (fun g hg => ((hout.alloc (.cells #[.slice xa xn xc] 25)).lt g hg).1)
      go_roundg (k - (j + 1))
      case measure => rw [HG.out]; omega
      case rel => exact ⟨j + 1, v3, rfl, by omega, rfl, by go_num, by rw [HFT.out, List.length_append, List.map_append]; exact hown3, hB2⟩
     ·have hcci : ¬ (y : Int) = z := by omega
      have hPf : ¬ P ⟨xa, xn, xc, l⟩ = true := by rw [HPX.out]; simp [hcc]
      have hft : (rs.take (j + 1)).filter P = (rs.take j).filter P := by rw [HTK.out, List.filter_append, List.filter_cons_of_neg hPf]; simp
      have HFT := Lib.hid hft; clear hft hPf HPX
      go_wp2_with fail
      go_roundg (k - (j + 1))
      case measure => rw [HG.out]; omega
      case rel => exact ⟨j + 1, _, rfl, by omega, rfl, by go_num, by rw [HFT.out]; exact hout, hBd⟩
    ·obtain rfl : j = k := by omega
     have hge : ¬ (j : Int) < j := by omega
     have htk : rs.take j = rs := List.take_of_length_le (by rw [HRN.out]; exact Nat.le_refl _)
     rw [htk] at hout
     have hfl := List.length_filter_le P rs
     rw [HRN.out] at hfl
     rw [htk]
     have hll : (leastF f L).length = (rs.filter P).length := by rw [HLF.out, List.length_map]
     have hown : wr.ownsRow w.heap.size 25 1 (.slice oa (rs.filter P).length oc) (leastF f L).length ((rs.filter P).map RI.val) := by rw [hll]; exact hout
     have hLR : LRows wr B (rs.filter P) (leastF f L) := ⟨HLF.out.symm, fun r hr => ownsRow_below' (HOK.out.2 r (List.mem_filter.1 hr).1) hBd⟩
     clear hll
     clear htk hout
     go_wp2_with fail
     go_ret2
     first | exact ⟨⟨_, _, rfl, hown, hLR⟩, hBd⟩ | exact ⟨⟨_, rfl, _, hown, hLR⟩, hBd⟩ | exact ⟨⟨_, hown, hLR⟩, hBd⟩
end
section
open Go.RowKit Go.Lib Go.Maps
section
variable {f : List Int → Nat}
theorem minFold_le (f : List Int → Nat) : ∀ (L : List (List Int)) (z : Nat), L.foldl (fun m x => min m (f x)) z ≤ z ∧ ∀ l ∈ L, L.foldl (fun m x => min m (f x)) z ≤ f l
 | [], z => ⟨Nat.le_refl _, fun l h => by cases h⟩
 | a :: L, z => by
  obtain ⟨h1, h2⟩ := minFold_le f L (min z (f a))
  rw [List.foldl_cons]
  refine ⟨by omega, fun l h => ?_⟩
  rcases List.mem_cons.1 h with rfl | h
  ·omega
  ·exact h2 l h
theorem minFold_mem (f : List Int → Nat) : ∀ (L : List (List Int)) (z : Nat), L.foldl (fun m x => min m (f x)) z = z ∨ ∃ l ∈ L, f l = L.foldl (fun m x => min m (f x)) z
 | [], z => .inl rfl
 | a :: L, z => by
  rw [List.foldl_cons]
  rcases minFold_mem f L (min z (f a)) with h | ⟨l, h1, h2⟩
  ·by_cases hc : z ≤ f a
   ·exact .inl (by rw [h]; omega)
   ·exact .inr ⟨a, by simp, by rw [h]; omega⟩
  ·exact .inr ⟨l, by simp [h1], h2⟩
theorem minF_le {L : List (List Int)} {l : List Int} (h : l ∈ L) : minF f L ≤ f l := (minFold_le f L _).2 l h
theorem minF_mem {L : List (List Int)} (h : L ≠ []) : ∃ l ∈ L, f l = minF f L := by
 cases L with
 | nil => exact absurd rfl h
 | cons a L =>
  rcases minFold_mem f (a :: L) (f a) with h | h
  ·exact ⟨a, by simp, h.symm⟩
  ·exact h
theorem leastF_mem {L : List (List Int)} {l : List Int} : l ∈ leastF f L ↔ l ∈ L ∧ f l = minF f L := by
 unfold leastF
 rw [List.mem_filter]
 simp
end
theorem sumI_app (a : List Int) : ∀ (b : List Int), sumI (a ++ b) = sumI a + sumI b := by
 refine revInd ?_ ?_
 ·rw [List.append_nil]; show sumI a = sumI a + 0; omega
 ·intro l x ih
  rw [← List.append_assoc, sumI_snoc, sumI_snoc, ih]; omega
theorem olL_cost {q : Nat} {l : List Int} (hl : ∀ x ∈ l, 0 ≤ x ∧ x ≤ 2) : ∀ (cs : List VC), (∀ c ∈ cs, ∀ v ∈ c.ls, ∀ x ∈ v.ws, 0 ≤ x ∧ x ≤ 2) → sumI (olL q (lbS l) cs) = (cost1 q l cs : Nat) := by
 refine revInd (fun _ => rfl) ?_
 intro cs c ih h
 rw [olL_snoc, sumI_app, cost1_snoc, ih (fun c hc => h c (by simp [hc]))]
 have h2 := h c (by simp)
 unfold edO costC
 cases hv : c.ls[q]? with
 | none => rfl
 | some v =>
  dsimp only
  have h3 := h2 v (List.mem_of_getElem? hv)
  cases v.lost
  ·rw [if_neg (by decide), if_neg (by decide), edB_int hl h3]
   show _ + (0 + (ed l v.ws : Int)) = _
   omega
  ·rfl
theorem book_small {wn : Nat} {cs : List VC} (h : bookB (wn : Int) cs = true) : ∀ c ∈ cs, ∀ v ∈ c.ls, ∀ x ∈ v.ws, 0 ≤ x ∧ x ≤ 2 := fun c hc v hv => by
 have hW := book_W h
 unfold bookB at h
 simp only [Bool.and_eq_true, List.all_eq_true] at h
 have h2 := (h.2 c hc).2 v hv
 unfold vlB at h2
 rw [Bool.and_eq_true] at h2
 exact (ln_small hW h2.1).2
def costF (q : Nat) (cs : List VC) (l : List Int) : Nat := cost1 q l cs
def refL (wn q : Nat) (cs : List VC) : List (List Int) := leastF (costF q cs) (allLL wn)
def refC (wn q : Nat) (cs : List VC) : Nat := minF (costF q cs) (allLL wn)
section
variable {wn q : Nat} {cs : List VC}
theorem rated_ref (h3 : wn ≤ 3) (h : bookB (wn : Int) cs = true) : ratedL wn q cs = (allLL wn).map fun l => ⟨lbS l, (costF q cs l : Nat)⟩ := by
 unfold ratedL
 rw [allLn_LL, List.map_map]
 refine List.map_congr_left fun l hl => ?_
 show rateR q cs (lbS l) = _
 unfold rateR
 rw [olL_cost (allLL_small h3 hl) cs (book_small h)]
 rfl
theorem allLL_ne : allLL wn ≠ [] := fun e => by
 have : ([] : List Int) ∈ allLL wn := List.mem_flatMap.2 ⟨0, by simp, by show [] ∈ [[]]; simp⟩
 rw [e] at this; cases this
theorem leastQ_ref (h3 : wn ≤ 3) (h : bookB (wn : Int) cs = true) : leastQ wn q cs = (refL wn q cs).map fun l => ⟨lbS l, (costF q cs l : Nat)⟩ := by
 unfold leastQ leastR
 rw [rated_ref h3 h]
 obtain ⟨b, hb⟩ := bestI_some RT.c (l := (allLL wn).map fun l => (⟨lbS l, (costF q cs l : Nat)⟩ : RT)) (fun e => allLL_ne (List.map_eq_nil_iff.1 e))
 obtain ⟨h1, h2⟩ := bestI_mem _ _ _ hb
 rw [hb]
 obtain ⟨l0, hl0, rfl⟩ := List.mem_map.1 h1
 dsimp only at h2 ⊢
 have hm : costF q cs l0 = minF (costF q cs) (allLL wn) := by
  obtain ⟨l1, hl1, e⟩ := minF_mem (f := costF q cs) (allLL_ne (wn := wn))
  have a1 := h2 _ (List.mem_map_of_mem hl1)
  dsimp only at a1
  have a2 := minF_le (f := costF q cs) hl0
  omega
 unfold keepR refL leastF
 rw [List.filter_map]
 congr 1
 refine List.filter_congr fun l hl => ?_
 have a2 := minF_le (f := costF q cs) hl
 simp only [Function.comp_apply, hm]
 by_cases e : costF q cs l = minF (costF q cs) (allLL wn)
 ·rw [decide_eq_true (by omega)]; simp [e]
 ·rw [decide_eq_false (by omega)]; simp [e]
theorem leastL_ref (h3 : wn ≤ 3) (h : bookB (wn : Int) cs = true) : leastL wn q cs = (refL wn q cs).map lbS := by
 unfold leastL; rw [leastQ_ref h3 h, List.map_map]; rfl
theorem refL_small (h3 : wn ≤ 3) : ∀ l ∈ refL wn q cs, l.length ≤ 4 ∧ ∀ x ∈ l, 0 ≤ x ∧ x ≤ 2 := fun l hl => ⟨(allLL_mem (leastF_mem.1 hl).1).1, allLL_small h3 (leastF_mem.1 hl).1⟩
theorem leastL_nw (h3 : wn ≤ 3) (h : bookB (wn : Int) cs = true) : (leastL wn q cs).map nwL = refL wn q cs := by
 rw [leastL_ref h3 h, List.map_map]
 conv => rhs; rw [← List.map_id (refL wn q cs)]
 exact List.map_congr_left fun l hl => nwL_lbS (refL_small h3 l hl).2
theorem leastC_ref (h3 : wn ≤ 3) (h : bookB (wn : Int) cs = true) : leastC wn q cs = (refC wn q cs : Nat) := by
 have hp := leastQ_pos wn q cs
 unfold leastC
 rw [leastQ_ref h3 h] at hp ⊢
 cases hl : refL wn q cs with
 | nil => rw [hl] at hp; simp at hp
 | cons l ls =>
  have hm : l ∈ refL wn q cs := by rw [hl]; simp
  simp only [List.map_cons, List.head?_cons, Option.map_some, Option.getD_some]
  rw [(leastF_mem.1 hm).2]; rfl
end
def comStep (P : List Int → Bool) (out l : List Int) : List Int := if decide (out.length < l.length) && P l then l else out
def comF (P : List Int → Bool) (L : List (List Int)) : List Int := L.foldl (comStep P) []
theorem com_late (P : List Int → Bool) (k : Nat) : ∀ (L : List (List Int)) (out : List Int), (∀ l ∈ L, l.length = k) → k ≤ out.length → L.foldl (comStep P) out = out
 | [], _, _, _ => rfl
 | a :: L, out, h, ho => by
  have ha := h a (by simp)
  rw [List.foldl_cons, comStep, decide_eq_false (by omega)]
  exact com_late P k L out (fun l hl => h l (by simp [hl])) ho
theorem com_level (P : List Int → Bool) (k : Nat) : ∀ (L : List (List Int)) (out : List Int), (∀ l ∈ L, l.length = k) → out.length < k → L.foldl (comStep P) out = (L.find? P).getD out
 | [], _, _, _ => rfl
 | a :: L, out, h, ho => by
  have ha := h a (by simp)
  rw [List.foldl_cons, comStep, decide_eq_true (by omega), Bool.true_and, List.find?_cons]
  cases hp : P a
  ·exact com_level P k L out (fun l hl => h l (by simp [hl])) ho
  ·exact com_late P k L a (fun l hl => h l (by simp [hl])) (by omega)
theorem com_all (P : List Int → Bool) (wn : Nat) : comF P (allLL wn) = ((((List.range 5).flatMap fun k => allLs (4 - k) wn).find? P).getD []) := by
 have hL : ∀ k, ∀ l ∈ allLs k wn, l.length = k := fun k l h => (allLs_mem h).1
 have hlt : ∀ (k : Nat) (o : List Int), o.length < k → ((allLs k wn).find? P).getD o = o ∨ (((allLs k wn).find? P).getD o).length = k := fun k o _ => by
  cases h : (allLs k wn).find? P with
  | none => exact .inl rfl
  | some a => exact .inr (hL k a (List.mem_of_find?_eq_some h))
 have e1 : allLL wn = allLs 0 wn ++ (allLs 1 wn ++ (allLs 2 wn ++ (allLs 3 wn ++ allLs 4 wn))) := by
  unfold allLL
  rw [show List.range 5 = [0, 1, 2, 3, 4] from rfl]
  simp only [List.flatMap_cons, List.flatMap_nil, List.append_nil]
 have e2 : ((List.range 5).flatMap fun k => allLs (4 - k) wn) = allLs 4 wn ++ (allLs 3 wn ++ (allLs 2 wn ++ (allLs 1 wn ++ allLs 0 wn))) := by
  rw [show List.range 5 = [0, 1, 2, 3, 4] from rfl]
  simp only [List.flatMap_cons, List.flatMap_nil, List.append_nil]
 have e0 : allLs 0 wn = [[]] := rfl
 unfold comF
 rw [e1, e2]
 simp only [List.foldl_append, List.find?_append]
 rw [com_late P 0 _ [] (hL 0) (Nat.le_refl _)]
 rw [com_level P 1 _ [] (hL 1) (by decide)]
 have a1 : (((allLs 1 wn).find? P).getD []).length < 2 := by rcases hlt 1 [] (by decide) with h | h <;> rw [h] <;> decide
 rw [com_level P 2 _ _ (hL 2) a1]
 have a2 : (((allLs 2 wn).find? P).getD (((allLs 1 wn).find? P).getD [])).length < 3 := by
  rcases hlt 2 _ a1 with h | h <;> rw [h]
  ·omega
  ·decide
 rw [com_level P 3 _ _ (hL 3) a2]
 have a3 : (((allLs 3 wn).find? P).getD (((allLs 2 wn).find? P).getD (((allLs 1 wn).find? P).getD []))).length < 4 := by
  rcases hlt 3 _ a2 with h | h <;> rw [h]
  ·omega
  ·decide
 rw [com_level P 4 _ _ (hL 4) a3, e0]
 have a0 : (([[]] : List (List Int)).find? P).getD [] = [] := by rw [List.find?_cons]; cases P [] <;> rfl
 generalize ([[]] : List (List Int)).find? P = o0 at *
 generalize (allLs 1 wn).find? P = o1 at *
 generalize (allLs 2 wn).find? P = o2 at *
 generalize (allLs 3 wn).find? P = o3 at *
 generalize (allLs 4 wn).find? P = o4 at *
 cases o4 <;> cases o3 <;> cases o2 <;> cases o1 <;> first | rfl | exact a0.symm
theorem subL_with {o l : List Int} (ho : ∀ x ∈ o, 0 ≤ x ∧ x ≤ 2) (hl : ∀ x ∈ l, 0 ≤ x ∧ x ≤ 2) : ∀ k, k ≤ l.length → subL (lbL o) ((lbL l).drop k) = (lbL l).drop (o.foldl (wk l) k) := by
 induction o with
 | nil => intro k _; rfl
 | cons x o ih =>
  intro k hk
  have ih' := ih (fun y hy => ho y (by simp [hy]))
  have hx := ho x (by simp)
  rw [List.foldl_cons]
  by_cases hkl : k < l.length
  ·have hkb : k < (lbL l).length := by unfold lbL; simpa using hkl
   have hd : (lbL l).drop k = (lbL l)[k] :: (lbL l).drop (k + 1) := List.drop_eq_getElem_cons hkb
   have he : (lbL l)[k] = UInt8.ofNat (l[k]).toNat := List.getElem_map ..
   rw [hd]
   show subL (UInt8.ofNat x.toNat :: lbL o) _ = _
   rw [subL, he, wk, List.getElem?_eq_getElem hkl]
   by_cases e : l[k] = x
   ·rw [if_pos (by rw [e]), if_pos (by rw [e])]
    exact ih' (k + 1) (by omega)
   ·rw [if_neg (fun h => e (u8_inj hx (hl _ (List.getElem_mem hkl)) h).symm), if_neg (fun h => e (Option.some.inj h)), ← he, ← hd]
    exact ih' k hk
  ·have e : (lbL l).drop k = [] := List.drop_eq_nil_of_le (by unfold lbL; simpa using hkl)
   have e2 : wk l k x = k := by unfold wk; rw [List.getElem?_eq_none (by omega), if_neg (by simp)]
   rw [e, subL_nil, e2, wk_full l k (by omega), e]
theorem wk_le (l : List Int) : ∀ (o : List Int) (k : Nat), k ≤ l.length → o.foldl (wk l) k ≤ l.length
 | [], k, h => h
 | x :: o, k, h => by
  rw [List.foldl_cons]
  refine wk_le l o _ ?_
  unfold wk
  split
  ·rename_i h2
   have := (List.getElem?_eq_some_iff.1 h2).1
   omega
  ·exact h
theorem has_with {o l : List Int} (ho : ∀ x ∈ o, 0 ≤ x ∧ x ≤ 2) (hl : ∀ x ∈ l, 0 ≤ x ∧ x ≤ 2) : hasW (lbS o) (lbS l) = wtnB l o := by
 have h := subL_with ho hl 0 (Nat.zero_le _)
 rw [List.drop_zero] at h
 show (subL (lbL o) (lbL l)).isEmpty = _
 rw [h]
 show _ = decide (o.foldl (wk l) 0 = l.length)
 have h2 := wk_le l o 0 (Nat.zero_le _)
 have h3 : (lbL l).length = l.length := by unfold lbL; simp
 by_cases e : o.foldl (wk l) 0 = l.length
 ·rw [decide_eq_true e, e, ← h3, List.drop_length]; rfl
 ·rw [decide_eq_false e]
  have : (lbL l).drop (o.foldl (wk l) 0) ≠ [] := fun h4 => by
   have := List.drop_eq_nil_iff.1 h4
   omega
  exact List.isEmpty_eq_false_iff.2 this
theorem find_congr' {α : Type} {p q : α → Bool} : ∀ {L : List α}, (∀ l ∈ L, p l = q l) → L.find? p = L.find? q
 | [], _ => rfl
 | a :: L, h => by rw [List.find?_cons, List.find?_cons, h a (by simp), find_congr' (L := L) fun l hl => h l (by simp [hl])]
theorem all_congr' {α : Type} {p q : α → Bool} : ∀ {L : List α}, (∀ l ∈ L, p l = q l) → L.all p = L.all q
 | [], _ => rfl
 | a :: L, h => by rw [List.all_cons, List.all_cons, h a (by simp), all_congr' (L := L) fun l hl => h l (by simp [hl])]
def inAll (lines : List (List Int)) (l : List Int) : Bool := lines.all (wtnB l)
def refCom (wn : Nat) (lines : List (List Int)) : List Int := comF (inAll lines) (allLL wn)
theorem refCom_mem {wn : Nat} (lines : List (List Int)) : refCom wn lines ∈ allLL wn := by
 unfold refCom
 rw [com_all]
 cases h : ((List.range 5).flatMap fun k => allLs (4 - k) wn).find? (inAll lines) with
 | none => exact List.mem_flatMap.2 ⟨0, by simp, by show [] ∈ [[]]; simp⟩
 | some a =>
  obtain ⟨k, hk, hm⟩ := List.mem_flatMap.1 (List.mem_of_find?_eq_some h)
  have := List.mem_range.1 hk
  exact List.mem_flatMap.2 ⟨4 - k, List.mem_range.2 (by omega), hm⟩
theorem common_ref {wn : Nat} (h3 : wn ≤ 3) {lines : List (List Int)} (hl : ∀ l ∈ lines, ∀ x ∈ l, 0 ≤ x ∧ x ≤ 2) : commonS wn (lines.map lbS) = lbS (refCom wn lines) := by
 have hD : descL wn = ((List.range 5).flatMap fun k => allLs (4 - k) wn).map lbS := by
  unfold descL descT
  rw [List.map_flatMap]
 unfold commonS refCom
 rw [com_all, hD, List.find?_map]
 have e : ∀ l ∈ ((List.range 5).flatMap fun k => allLs (4 - k) wn), (allHave (lines.map lbS) ∘ lbS) l = inAll lines l := fun l hm => by
  obtain ⟨k, hk, hm⟩ := List.mem_flatMap.1 hm
  have hs : ∀ x ∈ l, 0 ≤ x ∧ x ≤ 2 := fun x hx => by have := (allLs_mem hm).2 x hx; omega
  show (!((lines.map lbS).any fun o => !hasW o (lbS l))) = lines.all (wtnB l)
  rw [List.any_map, List.not_any_eq_all_not]
  refine all_congr' fun o ho => ?_
  show (!(!hasW (lbS o) (lbS l))) = wtnB l o
  rw [Bool.not_not, has_with (hl o ho) hs]
 rw [find_congr' e]
 cases ((List.range 5).flatMap fun k => allLs (4 - k) wn).find? (inAll lines) <;> rfl
end
section
open Go.RowKit Go.Lib Go.Maps
theorem refCommon_any {wn : Nat} {A : Option Addr} {n : Nat} (cap : Nat) (h1 : 1 ≤ wn) (h3 : wn ≤ 3) (v : Value) (lines : List (List Int)) (w : World) (h : LL w v lines) (hl6 : lines.length ≤ 1000) :
  Calls Tryz.prog 47 #[.agg #[.int .i64 (wn : Int), .slice A n cap], v] w fun e w' => (∃ u, e = .returned u ∧ IL w' u (refCom wn lines)) ∧ Below w.heap.size w w' := by
 obtain ⟨A2, m, c2, ls, rfl, ha1, ha2, ha3, ha4, ha5, hls⟩ := h
 have hX := Blk.new w 24 #[.int .i64 (wn : Int), .slice A n cap]
 have hB : Below w.heap.size w (w.alloc (.cells #[.int .i64 (wn : Int), .slice A n cap] 24)) := (Below.refl _ w).alloc (Nat.le_refl _) _
 have qX := fun i => hX.cell i
 have hal := refAll_any wn h1 h3 A n cap
 have hfl := allLL_len h1 h3
 have hfm : ∀ l ∈ allLL wn, l.length ≤ 4 := fun l hl => (allLL_mem hl).1
 have hm : ls.length = m := by simpa using ha4.len
 obtain ⟨S, hS⟩ : ∃ S, S = refCom wn lines := ⟨_, rfl⟩
 rw [← hS]
 unfold refCom comF at hS
 generalize allLL wn = FIN at *
 obtain ⟨N, hN⟩ : ∃ N, N = FIN.length := ⟨_, rfl⟩
 rw [← hN] at hal hfl
 have HN := Lib.hid hN; clear hN
 obtain ⟨P, hP⟩ : ∃ P, P = inAll lines := ⟨_, rfl⟩
 rw [← hP] at hS
 have HFM := Lib.hid hfm; have HAL := Lib.hid hal; have HS := Lib.hid hS; have HP := Lib.hid hP; have HLS := Lib.hid hls; have HM := Lib.hid hm; have HRD := Lib.hid ha4; have HOK := Lib.hid ha5
 have hm6 : m ≤ 1000 := by rw [← hm]; rw [← hls] at hl6; simpa using hl6
 clear hfm hal hS hP hls hm ha4 ha5 hl6
 go_enter Tryz.func47, Tryz.ntmps47
 go_wp2_with fail
 refine (HAL.out _).mono ?_; rintro e wc ⟨va0, rs, rfl, hown, hrows, hbw⟩
 have hsz := hB.size
 replace hown := own_mono hown hsz
 replace hB := hB.trans (hbw.mono hsz); clear hbw qX hsz HAL hX
 have hrows' : LRows wc w.heap.size rs FIN := ⟨hrows.1, fun r hr => own_mono (hrows.2 r hr) (by simp)⟩
 have HR := Lib.hid hrows'; clear hrows hrows'
 obtain ⟨va, vc, rfl⟩ := own_slice hown
 have hrN : rs.length = N := by rw [HN.out, HR.out.len]
 have HRN := Lib.hid hrN; clear hrN
 have hwc := hB.size
 go_wp2_with fail
 go_loopg [6, 7] N (fun g v i wr => ∃ (k : Nat) (r : RI), g = N - k ∧ k ≤ N ∧ v = .slice r.A r.n r.cap ∧ i = .int .i64 k ∧ Hid (r.ws = (FIN.take k).foldl (comStep P) []) ∧ r.n ≤ 4 ∧ IA wr r.A r.n r.cap r.ws ∧ Below wc.heap.size wc wr)
 case atStart => exact ⟨0, ⟨none, 0, 0, []⟩, rfl, Nat.zero_le _, rfl, rfl, Lib.hid rfl, Nat.zero_le _, ⟨Nat.le_refl _, Nat.zero_le _, Rd.nil ..⟩, Below.refl _ _⟩
 case round =>
  obtain ⟨k, ⟨oA, on, oc, ows⟩, hg, hk, rfl, rfl, hows, hon4, hIA, hBd⟩ := hrel
  dsimp only at hows hon4 hIA ⊢
  rename World => wr
  have HG := Lib.hid hg; clear hg
  by_cases hlt : k < N
  ·have hlti : (k : Int) < N := by omega
   obtain ⟨b', off, hz, rfl, hbb, hc00⟩ := (Rd.of_own hown).atm hlt
   have hzr : k < rs.length := by simpa using hz
   have hkF : k < FIN.length := by rw [← HN.out]; exact hlt
   have hxm := (HR.out.below hBd).2 _ (List.getElem_mem hzr)
   have hFk : FIN[k] = rs[k].ws := by
    have h9 := HR.out.1
    subst h9
    simp
   have htk : (FIN.take (k + 1)).foldl (comStep P) [] = comStep P ows rs[k].ws := by rw [List.take_succ_eq_append_getElem hkF, List.foldl_append, ← hows.out, hFk]; rfl
   have hl4 : rs[k].ws.length ≤ 4 := HFM.out _ (by rw [← hFk]; exact List.getElem_mem hkF)
   have HTK := Lib.hid htk; clear htk hFk hkF
   unfold RI.val at hc00 hxm
   generalize rs[k] = xx at *
   clear hz hzr
   obtain ⟨xa, xn, xc, l⟩ := xx
   simp only at hc00 hxm hl4
   have hxn : xn = l.length := by have h6 := hxm.1; simpa using h6.symm
   subst hxn
   have hIX : IA wr xa l.length xc l := ⟨own_le0 hxm, own_cap hxm, Rd.of_own hxm⟩
   have hol := hIA.len
   have HOL := Lib.hid hol; have HIX := Lib.hid hIX; have HIA := Lib.hid hIA; clear hIX hIA hxm hol
   have HC0 : Hid (∀ W : World, Below wc.heap.size wc W → W.cell? ⟨b', off + k, none⟩ = some (.slice xa l.length xc)) := Lib.hid fun W hW => (hW.cell (p := ⟨b', off + k, none⟩) hbb).trans hc00
   clear hc00
   have hc0 := HC0.out _ hBd
   obtain ⟨gt, hgt⟩ : ∃ gt : Bool, gt = decide (ows.length < l.length) := ⟨_, rfl⟩
   have hgt2 : decide (on < l.length) = gt := by rw [hgt, HOL.out]
   have HGT := Lib.hid hgt; have HGT2 := Lib.hid hgt2; clear hgt hgt2
   go_wp2_with fail
   go_loopg [8, 9] m (fun g v i wx => ∃ (j : Nat) (cu : Bool), g = m - j ∧ j ≤ m ∧ v = .bool cu ∧ i = .int .i64 j ∧ Hid (cu = (gt && (lines.take j).all (wtnB l))) ∧ Below wr.heap.size wr wx)
   case atStart => exact ⟨0, gt, rfl, Nat.zero_le _, congrArg Value.bool HGT2.out, rfl, Lib.hid (by simp), Below.refl _ _⟩
   case round =>
    obtain ⟨j, cu, hg, hj, rfl, rfl, hcu, hBx⟩ := hrel
    rename World => wx
    have HG2 := Lib.hid hg; clear hg
    have hBdx := hBd.trans (hBx.mono hBd.size)
    by_cases hjt : j < m
    ·have hjti : (j : Int) < m := by omega
     have hRdx := rdB (rdB HRD.out hB) (hBdx)
     obtain ⟨b2, off2, hz2, rfl, hbb2, hcj⟩ := hRdx.atm hjt
     have hxo := HOK.out _ (List.getElem_mem hz2)
     have hjL : j < lines.length := by rw [← HLS.out]; simpa using hz2
     have hLj : lines[j] = ls[j].ws := by
      have h9 := HLS.out
      subst h9
      simp
     have htj : (lines.take (j + 1)).all (wtnB l) = ((lines.take j).all (wtnB l) && wtnB l ls[j].ws) := by rw [List.take_succ_eq_append_getElem hjL, List.all_append, hLj]; simp
     unfold RI.val at hcj
     generalize ls[j] = yy at *
     obtain ⟨ya, yn, yc, y⟩ := yy
     simp only at hcj hxo htj
     have hIY : IA wx ya yn yc y := ⟨hxo.1.1, hxo.1.2.1, rdB (rdB hxo.1.2.2 hB) hBdx⟩
     have hyn : yn ≤ 1000000 := hxo.2
     have hcu2 : ∀ z : Bool, z = wtnB l y → (gt && (lines.take (j + 1)).all (wtnB l)) = (cu && z) := fun z hz => by rw [htj, hcu.out, hz, Bool.and_assoc]
     have HCU := Lib.hid hcu2
     clear hcu2 htj hcu hLj hjL hz2 hxo hRdx
     have hc1 := fun (p : Blw wx.heap.size wx) => within49_any xa l.length xc l ya yn yc y p.toW ((HIX.out.toW hBx).toW p.h) (hIY.toW p.h) (by omega) hyn
     have hq1 := fun (p : Blw wx.heap.size wx) => ((Blw.h p).cell (p := ⟨b', off + k, none⟩) (Nat.lt_of_lt_of_le hbb hBdx.size)).trans (HC0.out _ hBdx)
     have hq2 := fun (p : Blw wx.heap.size wx) => ((Blw.h p).cell (p := ⟨b2, off2 + j, none⟩) hbb2).trans hcj
     generalize hR : wtnB l y = R at *
     have HC1 := Lib.hid hc1; clear hc1 hcj hIY
     cases cu
     ·have HCU2 : Hid ((gt && (lines.take (j + 1)).all (wtnB l)) = false) := Lib.hid (by rw [HCU.out R rfl]; rfl)
      go_upto_region 10 with (fail)
      refine wp_region_blw (by kernel_rfl) (by kernel_rfl) ?_
      repeat (go_big_quiet_step (fail))
      refine wpQuiet_nil ?_
      rintro W3 ⟨⟨_, hb3⟩, rfl⟩
      clear hq1 hq2 HC1 HCU
      go_wp2_with fail
      go_roundg (m - (j + 1))
      case measure => rw [HG2.out]; omega
      case rel => exact ⟨j + 1, _, rfl, by omega, rfl, by go_num, Lib.hid HCU2.out.symm, hBx.trans (hb3.mono hBx.size)⟩
     ·have HCU2 : Hid ((gt && (lines.take (j + 1)).all (wtnB l)) = R) := Lib.hid (by rw [HCU.out R rfl]; rfl)
      go_upto_region 10 with (fail)
      refine wp_region_blw (by kernel_rfl) (by kernel_rfl) ?_
      repeat (go_big_quiet_step (fail))
      go_big_quiet_step ((go_at_call 49; exact Calls.blw_of _ (HC1.out _)))
      repeat (go_big_quiet_step (fail))
      refine wpQuiet_nil ?_
      rintro W3 ⟨⟨_, hb3⟩, rfl⟩
      clear hq1 hq2 HC1 HCU
      go_wp2_with fail
      go_roundg (m - (j + 1))
      case measure => rw [HG2.out]; omega
      case rel => exact ⟨j + 1, _, rfl, by omega, rfl, by go_num, Lib.hid HCU2.out.symm, hBx.trans (hb3.mono hBx.size)⟩
    ·obtain rfl : j = m := by omega
     have hge : ¬ (j : Int) < j := by omega
     have hall : lines.take j = lines := List.take_of_length_le (by rw [← HLS.out, List.length_map, HM.out]; exact Nat.le_refl _)
     have hst : comStep P ows l = if cu then l else ows := by
      unfold comStep
      rw [hcu.out, hall, HGT.out, HP.out]; rfl
     have HST := Lib.hid hst; clear hst hall hcu
     have hq1 := HC0.out _ hBdx
     cases cu
     ·go_wp2_with fail
      go_roundg (N - (k + 1))
      case measure => rw [HG.out]; omega
      case rel => exact ⟨k + 1, ⟨oA, on, oc, ows⟩, rfl, by omega, rfl, by go_num, Lib.hid (by rw [HTK.out, HST.out]; rfl), hon4, HIA.out.toW hBx, hBdx⟩
     ·go_wp2_with fail
      go_roundg (N - (k + 1))
      case measure => rw [HG.out]; omega
      case rel => exact ⟨k + 1, ⟨xa, l.length, xc, l⟩, rfl, by omega, rfl, by go_num, Lib.hid (by rw [HTK.out, HST.out]; rfl), hl4, HIX.out.toW hBx, hBdx⟩
  ·obtain rfl : k = N := by omega
   have hge : ¬ (k : Int) < k := by omega
   have hfin : ows = S := by rw [hows.out, List.take_of_length_le (by rw [HN.out]; exact Nat.le_refl _), HS.out]
   subst hfin
   go_wp2_with fail
   go_ret
   exact ⟨⟨_, rfl, oA, on, oc, rfl, hIA.1, hIA.2.1, by omega, hIA.2.2⟩, hB.trans (hBd.mono hwc)⟩
end
section
open Go.RowKit Go.Lib Go.Maps
section
variable {wn : Nat} {A : Option Addr} {n cap q : Nat} {cs : List VC} {w : World}
theorem refL_len (h1 : 1 ≤ wn) (h3 : wn ≤ 3) : (refL wn q cs).length ≤ 121 := Nat.le_trans (List.length_filter_le _ _) (allLL_len h1 h3)
theorem Least_I (h : BkG wn A n cs w w.heap.size) (hk : bookB (wn : Int) cs = true) (hq : q < headN cs) :
  Calls Tryz.prog 43 #[.agg #[.int .i64 (wn : Int), .slice A n cap], .int .i64 (q : Int)] w fun e w' => (∃ u, e = .returned (.tuple #[u, .int .i64 (refC wn q cs : Nat), .int .i64 0]) ∧ LL w' u (refL wn q cs)) ∧ Below w.heap.size w w' := by
 refine (Least_yes cap q h hk hq).mono ?_
 rintro e w' ⟨⟨v, rs, rfl, hown, hrows⟩, hb⟩
 refine ⟨⟨v, by rw [leastC_ref h.1.2 hk], ?_⟩, hb⟩
 have h2 := LL.of_rows hown hrows (by have := refL_len (q := q) (cs := cs) h.1.1 h.1.2; rw [leastL_ref h.1.2 hk, List.length_map]; omega) (fun l hl => by
   rw [leastL_ref h.1.2 hk] at hl
   obtain ⟨z, hz, rfl⟩ := List.mem_map.1 hl
   rw [lbS_size]
   have := (refL_small h.1.2 z hz).1; omega)
 rw [leastL_nw h.1.2 hk] at h2
 exact h2
theorem Common_I (h : BkG wn A n cs w w.heap.size) (hk : bookB (wn : Int) cs = true) (hq : q < headN cs) :
  Calls Tryz.prog 44 #[.agg #[.int .i64 (wn : Int), .slice A n cap], .int .i64 (q : Int)] w fun e w' => (∃ u, e = .returned (.tuple #[u, .int .i64 0]) ∧ IL w' u (refCom wn (refL wn q cs))) ∧ Below w.heap.size w w' := by
 refine (Common_yes cap q h hk hq).mono ?_
 rintro e w' ⟨⟨v, rfl, hown⟩, hb⟩
 have hs : ∀ l ∈ refL wn q cs, ∀ x ∈ l, 0 ≤ x ∧ x ≤ 2 := fun l hl => (refL_small h.1.2 l hl).2
 rw [leastL_ref h.1.2 hk, common_ref h.1.2 hs] at hown
 have hm := refCom_mem (wn := wn) (refL wn q cs)
 rw [nwL_lbS (allLL_small h.1.2 hm), lbS_size] at hown
 exact ⟨⟨v, rfl, IL.of_own hown (by have := (allLL_mem hm).1; omega)⟩, hb⟩
theorem refLeast_O (h : BkG wn A n cs w w.heap.size) (hq : q < headN cs) :
  Calls Tryz.prog 46 #[.agg #[.int .i64 (wn : Int), .slice A n cap], .int .i64 (q : Int)] w fun e w' => (∃ u rs, e = .returned (.tuple #[u, .int .i64 (refC wn q cs : Nat)]) ∧ w'.ownsRow w.heap.size 25 1 u (refL wn q cs).length (rs.map RI.val) ∧ LRows w' w.heap.size rs (refL wn q cs)) ∧ Below w.heap.size w w' := by
 have hX := Blk.new w 24 #[.int .i64 (wn : Int), .slice A n cap]
 have hB : Below w.heap.size w (w.alloc (.cells #[.int .i64 (wn : Int), .slice A n cap] 24)) := (Below.refl _ w).alloc (Nat.le_refl _) _
 have qX := fun i => hX.cell i
 have hal := refAll_any wn h.1.1 h.1.2 A n cap
 have hco := fun (wx : World) (hx : Below w.heap.size w wx) => costs96_any cap q (h.toW hx) hq
 have hfl := allLL_len h.1.1 h.1.2
 have hfm : ∀ l ∈ allLL wn, l.length ≤ 4 := fun l hl => (allLL_mem hl).1
 have h0 : 0 < (allLL wn).length := List.length_pos_iff.2 allLL_ne
 have hls := fun (A1 : Option Addr) (n1 c1 : Nat) (rs : List RI) (B : Nat) (A2 : Option Addr) (n2 c2 : Nat) (wx : World) (h1 : Rd wx wx.heap.size 1 A1 n1 (rs.map RI.val)) (h1b : LRows wx B rs (allLL wn)) (h2 : IA wx A2 n2 c2 (costsL wn q cs)) => least95_any A1 n1 c1 rs B (allLL wn) (costF q cs) A2 n2 c2 wx h1 h1b h0 (by omega) (fun l hl => by have := cost1_le h q l (by have := hfm l hl; omega); unfold costF; omega) h2
 have hcn : (costsL wn q cs).length ≤ 121 := by unfold costsL; rw [List.length_map]; exact hfl
 obtain ⟨R1, hR1⟩ : ∃ R1, R1 = refL wn q cs := ⟨_, rfl⟩
 obtain ⟨C1, hC1⟩ : ∃ C1, C1 = refC wn q cs := ⟨_, rfl⟩
 have e1 : leastF (costF q cs) (allLL wn) = R1 := by rw [hR1]; rfl
 have e2 : minF (costF q cs) (allLL wn) = C1 := by rw [hC1]; rfl
 simp only [e1, e2] at hls
 rw [← hR1, ← hC1]
 generalize allLL wn = FIN at *
 generalize costsL wn q cs = CL at *
 have HAL := Lib.hid hal; have HCO := Lib.hid hco; have HLS := Lib.hid hls; have HFM := Lib.hid hfm; clear hal hco hls hfm h hq hR1 hC1 e1 e2 h0
 go_enter Tryz.func46, Tryz.ntmps46
 go_wp2_with fail
 clear qX
 generalize w.alloc (.cells #[.int .i64 (wn : Int), .slice A n cap] 24) = W0 at *
 rename World => WR
 refine wp_region_G (fun w' => Blk w' w.heap.size 24 #[.int .i64 (wn : Int), .slice A n cap]) 9 (by kernel_rfl) ?_
 replace hX := hX.drew; replace hB := hB.drew
 generalize WR.drew = WD at *
 have hTT : Blk WD w.heap.size 24 #[.int .i64 (wn : Int), .slice A n cap] := hX
 refine wpG_take (i := 0) (v := ?vx1_0) rfl (by kernel_rfl) (by kernel_rfl) (by kernel_rfl) (by kernel_rfl) (fun _ _ _ h => h) (Or.inl ⟨by rfl, ?hyx1_0⟩) hTT ?restx1_0
 case hyx1_0 => intro wq hSw; have q0 := fun i => hSw.cell i; skip; go_simp <;> with_reducible rfl
 simp only [LS, Act.put]
 refine wpG_take (i := 2) (v := ?vx1_2) rfl (by kernel_rfl) (by kernel_rfl) (by kernel_rfl) (by kernel_rfl) (fun _ _ _ h => h) (Or.inl ⟨by rfl, ?hyx1_2⟩) hTT ?restx1_2
 case hyx1_2 => intro wq hSw; have q0 := fun i => hSw.cell i; skip; go_simp <;> with_reducible rfl
 simp only [LS, Act.put]
 refine wpG_take (i := 3) (v := ?vx1_3) rfl (by kernel_rfl) (by kernel_rfl) (by kernel_rfl) (by kernel_rfl) (fun _ _ _ h => h) (Or.inl ⟨by rfl, ?hyx1_3⟩) hTT ?restx1_3
 case hyx1_3 => intro wq hSw; have q0 := fun i => hSw.cell i; skip; go_simp <;> with_reducible rfl
 simp only [LS, Act.put]
 refine wpG_one (i := 1) rfl (by kernel_rfl) (fun K hK => ?_)
 go_simp
 refine (HAL.out _).mono ?_
 rintro e w2 ⟨va0, rs, rfl, hown, hrows, hb2⟩
 obtain ⟨pa, pc, rfl⟩ := own_slice hown
 have hW := hB.size
 replace hX := hX.below hb2 hX.lt; replace hB := hB.trans (hb2.mono hB.size); replace hTT := hX; clear hb2
 refine hK _ _ (.inr hTT) ?_
 clear hK K
 try simp only [LS, Act.put]
 refine wpG_one (i := 4) rfl (by kernel_rfl) (fun K hK => ?_)
 go_simp
 refine (HCO.out _ hB).mono ?_
 rintro e w3 ⟨vb0, rfl, hown2, hb2⟩
 obtain ⟨va, vc, rfl⟩ := own_slice hown2
 have hIA : IA w3 va CL.length vc CL := ⟨own_le0 hown2, own_cap hown2, Rd.of_own hown2⟩
 replace hX := hX.below hb2 hX.lt; replace hB := hB.trans (hb2.mono hB.size); replace hTT := hX; replace hown := ownsRow_below' hown hb2; replace hrows := hrows.below hb2; have hw3 := hB.size; clear hb2 hown2
 refine hK _ _ (.inr hTT) ?_
 clear hK K
 try simp only [LS, Act.put]
 refine wpG_one (i := 5) rfl (by kernel_rfl) (fun K hK => ?_)
 go_simp
 refine (HLS.out _ _ _ _ _ _ _ _ _ (Rd.of_own hown) hrows hIA).mono ?_
 rintro e w4 ⟨⟨u, rs2, rfl, hown4, hLR⟩, hb2⟩
 have hown5 := own_mono hown4 hw3
 have hLR5 : LRows w4 w.heap.size rs2 R1 := ⟨hLR.1, fun r hr => own_mono (hLR.2 r hr) hW⟩
 replace hX := hX.below hb2 hX.lt; replace hB := hB.trans (hb2.mono hB.size); replace hTT := hX; clear hb2 hIA hown hrows
 refine hK _ _ (.inr hTT) ?_
 clear hK K
 try simp only [LS, Act.put]
 refine wpG_take (i := 6) (v := ?vx1_6) rfl (by kernel_rfl) (by kernel_rfl) (by kernel_rfl) (by kernel_rfl) (fun _ _ _ h => h) (Or.inl ⟨by rfl, ?hyx1_6⟩) hTT ?restx1_6
 case hyx1_6 => intro wq hSw; have q0 := fun i => hSw.cell i; skip; go_simp <;> with_reducible rfl
 simp only [LS, Act.put]
 refine wpG_take (i := 7) (v := ?vx1_7) rfl (by kernel_rfl) (by kernel_rfl) (by kernel_rfl) (by kernel_rfl) (fun _ _ _ h => h) (Or.inl ⟨by rfl, ?hyx1_7⟩) hTT ?restx1_7
 case hyx1_7 => intro wq hSw; have q0 := fun i => hSw.cell i; skip; go_simp <;> with_reducible rfl
 simp only [LS, Act.put]
 refine wpG_take (i := 8) (v := ?vx1_8) rfl (by kernel_rfl) (by kernel_rfl) (by kernel_rfl) (by kernel_rfl) (fun _ _ _ h => h) (Or.inl ⟨by rfl, ?hyx1_8⟩) hTT ?restx1_8
 case hyx1_8 => intro wq hSw; have q0 := fun i => hSw.cell i; skip; go_simp <;> with_reducible rfl
 simp only [LS, Act.put]
 refine wpG_one (i := 9) rfl (by kernel_rfl) (fun K hK => ?_)
 go_simp
 refine hK _ _ (.inl rfl) ?_
 clear hK K
 try simp only [LS, Act.put]
 refine wpG_done (by kernel_rfl) ?_ _
 clear hTT
 go_wp2_with fail
 go_ret2
 first | exact ⟨⟨_, _, rfl, hown5, hLR5⟩, hB⟩ | exact ⟨⟨_, rfl, _, hown5, hLR5⟩, hB⟩ | exact ⟨⟨_, hown5, hLR5⟩, hB⟩
theorem refLeast_I (h : BkG wn A n cs w w.heap.size) (hq : q < headN cs) :
  Calls Tryz.prog 46 #[.agg #[.int .i64 (wn : Int), .slice A n cap], .int .i64 (q : Int)] w fun e w' => (∃ u, e = .returned (.tuple #[u, .int .i64 (refC wn q cs : Nat)]) ∧ LL w' u (refL wn q cs)) ∧ Below w.heap.size w w' := by
 refine (refLeast_O h hq).mono ?_
 rintro e w' ⟨⟨u, rs, rfl, hown, hrows⟩, hb⟩
 exact ⟨⟨u, rfl, LL.of_lrows hown hrows (by have := refL_len (q := q) (cs := cs) h.1.1 h.1.2; omega) (fun l hl => by have := (refL_small h.1.2 l hl).1; omega)⟩, hb⟩
end
theorem same_IL_eq {w : World} {v v2 : Value} {l : List Int} (h : IL w v l) (h2 : IL w v2 l) : Calls Tryz.prog 31 #[v, v2] w fun e w' => e = .returned (.bool true) ∧ Below w.heap.size w w' := by
 have h3 := same_IL h h2
 rw [decide_eq_true rfl] at h3
 exact h3
theorem leasts_law (W : Int) (A : Option Addr) (n cap : Nat) (cs : List VC) (q : Int) (m : Int) (w : World) (hE : Env m w) (h : BkI w A n cap cs) (hq1 : -9223372036854775808 ≤ q) (hq2 : q ≤ 9223372036854775807) :
  Calls Tryz.prog 9 #[.agg #[.int .i64 W, .slice A n cap], .int .i64 q] w fun e w' => e = .returned (.bool true) ∧ Below w.heap.size w w' := by
 have hX := Blk.new w 24 #[.int .i64 W, .slice A n cap]
 have hB : Below w.heap.size w (w.alloc (.cells #[.int .i64 W, .slice A n cap] 24)) := (Below.refl _ w).alloc (Nat.le_refl _) _
 have qX := fun i => hX.cell i
 go_enter Tryz.func9, Tryz.ntmps9
 go_wp2_with fail
 refine (short_any W A n cap cs _ (h.toW hB)).mono ?_; rintro e wc ⟨⟨b, rfl⟩, hb⟩
 replace hB := hB.trans (hb.mono hB.size); replace hX := hX.below hb hX.lt; clear hb qX; have qX := fun i => hX.cell i
 cases b with
 | false =>
  go_wp2_with fail
  refine (known_true m _ (hE.below hB)).mono ?_; rintro e wc ⟨rfl, hb⟩
  replace hB := hB.trans (hb.mono hB.size); clear hb
  go_wp2_with fail
  go_ret
  exact ⟨rfl, hB⟩
 | true =>
  have hrb := fun wx hx => refBook_any W A n cap cs wx (h.toW hx)
  cases hbk : bookB W cs with
  | false =>
   have hc1 := fun wx hx => Least_no1 W A n cap cs q wx h.max (h.toW hx).2.2.1 (h.toW hx).2.2.2 hbk
   have hc2 := fun wx hx => Common_no1 W A n cap cs q wx h.max (h.toW hx).2.2.1 (h.toW hx).2.2.2 hbk
   simp only [hbk] at hrb
   have HC1 := Lib.hid hc1; have HC2 := Lib.hid hc2; have HRB := Lib.hid hrb; clear hc1 hc2 hrb hbk h
   go_wp2_with fail
   refine (HC1.out _ hB).mono ?_; rintro e wc ⟨rfl, hb⟩
   replace hB := hB.trans (hb.mono hB.size); replace hX := hX.below hb hX.lt; clear hb qX; have qX := fun i => hX.cell i
   go_wp2_with fail
   refine (HC2.out _ hB).mono ?_; rintro e wc ⟨rfl, hb⟩
   replace hB := hB.trans (hb.mono hB.size); replace hX := hX.below hb hX.lt; clear hb qX; have qX := fun i => hX.cell i
   go_wp2_with fail
   refine (HRB.out _ hB).mono ?_; rintro e wc ⟨rfl, hb⟩
   replace hB := hB.trans (hb.mono hB.size); replace hX := hX.below hb hX.lt; clear hb qX; have qX := fun i => hX.cell i
   go_wp2_with fail
   refine (known_true m _ (hE.below hB)).mono ?_; rintro e wc ⟨rfl, hb⟩
   replace hB := hB.trans (hb.mono hB.size); clear hb
   go_wp2_with fail
   go_ret
   exact ⟨rfl, hB⟩
  | true =>
   obtain ⟨wn, rfl, hG⟩ := BkG.of_book hbk h.2.2.1 h.2.2.2
   have hrn := fun wx hx => refNumber_any (wn : Int) q A n cap cs wx hG.2.1.1 (h.toW hx).2.2.1 (h.toW hx).2.2.2 (by have := hG.2.2.1.2; omega)
   simp only [hbk] at hrb
   cases hk : inB q 0 ((headN cs : Int) - 1) with
   | false =>
    have hc1 := fun wx hx => Least_no2 cap q (w := wx) (hG.toW hx) hbk hk
    have hc2 := fun wx hx => Common_no2 cap q (w := wx) (hG.toW hx) hbk hk
    simp only [hk] at hrn
    have HC1 := Lib.hid hc1; have HC2 := Lib.hid hc2; have HRB := Lib.hid hrb; have HRN := Lib.hid hrn; clear hc1 hc2 hrb hrn hbk hk h hG
    go_wp2_with fail
    refine (HC1.out _ hB).mono ?_; rintro e wc ⟨rfl, hb⟩
    replace hB := hB.trans (hb.mono hB.size); replace hX := hX.below hb hX.lt; clear hb qX; have qX := fun i => hX.cell i
    go_wp2_with fail
    refine (HC2.out _ hB).mono ?_; rintro e wc ⟨rfl, hb⟩
    replace hB := hB.trans (hb.mono hB.size); replace hX := hX.below hb hX.lt; clear hb qX; have qX := fun i => hX.cell i
    go_wp2_with fail
    refine (HRB.out _ hB).mono ?_; rintro e wc ⟨rfl, hb⟩
    replace hB := hB.trans (hb.mono hB.size); replace hX := hX.below hb hX.lt; clear hb qX; have qX := fun i => hX.cell i
    go_wp2_with fail
    refine (HRN.out _ hB).mono ?_; rintro e wc ⟨rfl, hb⟩
    replace hB := hB.trans (hb.mono hB.size); replace hX := hX.below hb hX.lt; clear hb qX; have qX := fun i => hX.cell i
    go_wp2_with fail
    refine (known_true m _ (hE.below hB)).mono ?_; rintro e wc ⟨rfl, hb⟩
    replace hB := hB.trans (hb.mono hB.size); clear hb
    go_wp2_with fail
    go_ret
    exact ⟨rfl, hB⟩
   | true =>
    have hq3 : 0 ≤ q ∧ q ≤ (headN cs : Int) - 1 := by simpa [inB] using hk
    obtain ⟨p, rfl⟩ : ∃ p : Nat, q = p := ⟨q.toNat, by omega⟩
    have hp : p < headN cs := by omega
    have hc1 := fun wx hx => Least_I (cap := cap) (w := wx) (hG.toW hx) hbk hp
    have hc2 := fun wx hx => Common_I (cap := cap) (w := wx) (hG.toW hx) hbk hp
    have hrf := fun wx hx => refLeast_I (cap := cap) (w := wx) (hG.toW hx) hp
    have hw1 := hG.1.1; have hw3 := hG.1.2
    have hrl := refL_len (q := p) (cs := cs) hw1 hw3
    simp only [hk] at hrn
    generalize refL wn p cs = RL at *
    generalize refC wn p cs = RC at *
    have HC1 := Lib.hid hc1; have HC2 := Lib.hid hc2; have HRF := Lib.hid hrf; have HRB := Lib.hid hrb; have HRN := Lib.hid hrn; clear hc1 hc2 hrf hrb hrn hbk hk h hG hp hq1 hq2 hq3
    go_wp2_with fail
    refine (HC1.out _ hB).mono ?_; rintro e wc ⟨⟨u, rfl, hU⟩, hb⟩
    replace hB := hB.trans (hb.mono hB.size); replace hX := hX.below hb hX.lt; clear hb qX; have qX := fun i => hX.cell i
    go_wp2_with fail
    refine (HC2.out _ hB).mono ?_; rintro e wc ⟨⟨v, rfl, hV⟩, hb⟩
    replace hB := hB.trans (hb.mono hB.size); replace hX := hX.below hb hX.lt; replace hU := hU.below hb; clear hb qX; have qX := fun i => hX.cell i
    go_wp2_with fail
    refine (HRB.out _ hB).mono ?_; rintro e wc ⟨rfl, hb⟩
    replace hB := hB.trans (hb.mono hB.size); replace hX := hX.below hb hX.lt; replace hU := hU.below hb; replace hV := hV.below hb; clear hb qX; have qX := fun i => hX.cell i
    go_wp2_with fail
    refine (HRN.out _ hB).mono ?_; rintro e wc ⟨rfl, hb⟩
    replace hB := hB.trans (hb.mono hB.size); replace hX := hX.below hb hX.lt; replace hU := hU.below hb; replace hV := hV.below hb; clear hb qX; have qX := fun i => hX.cell i
    go_wp2_with fail
    refine (HRF.out _ hB).mono ?_; rintro e wc ⟨⟨x, rfl, hY⟩, hb⟩
    replace hB := hB.trans (hb.mono hB.size); replace hX := hX.below hb hX.lt; replace hU := hU.below hb; replace hV := hV.below hb; clear hb qX; have qX := fun i => hX.cell i
    go_wp2_with fail
    refine (same_LL_eq hU hY).mono ?_; rintro e wc ⟨rfl, hb⟩
    replace hB := hB.trans (hb.mono hB.size); replace hX := hX.below hb hX.lt; replace hV := hV.below hb; replace hY := hY.below hb; clear hU; clear hb qX; have qX := fun i => hX.cell i
    go_wp2_with fail
    refine (refCommon_any cap hw1 hw3 _ RL _ hY (by omega)).mono ?_; rintro e wc ⟨⟨z, rfl, hZ⟩, hb⟩
    replace hB := hB.trans (hb.mono hB.size); replace hX := hX.below hb hX.lt; replace hV := hV.below hb; clear hY; clear hb qX; have qX := fun i => hX.cell i
    go_wp2_with fail
    refine (same_IL_eq hV hZ).mono ?_; rintro e wc ⟨rfl, hb⟩
    replace hB := hB.trans (hb.mono hB.size); replace hX := hX.below hb hX.lt; clear hV hZ; clear hb qX; have qX := fun i => hX.cell i
    go_wp2_with fail
    refine (known_true m _ (hE.below hB)).mono ?_; rintro e wc ⟨rfl, hb⟩
    replace hB := hB.trans (hb.mono hB.size); clear hb
    go_wp2_with fail
    go_ret
    exact ⟨rfl, hB⟩
end
section
open Go.ChangeShapes Go.WideShapes Go.ChangeAt Go.RowKit Go.Deep Go.Lib
set_option maxRecDepth 100000
section
variable {H : Type} {enc : TypeId × Value → H} {P : Program} {w : World} {base : Nat} {spare : Nat → Bool} {held : Bool}
theorem law_two {s0 s1 : TypeId} {args : Array Value} {ds : List (DataW H)} {ps : List MemPlace} (h : DataW.TrodAll enc P w base spare held [s0, s1] args.toList ds ps) :
  ∃ v0 v1 d0 d1 p0 p1, args = #[v0, v1] ∧ ds = [d0, d1] ∧ DataW.Trod enc P w base spare held s0 v0 d0 p0 ∧ DataW.Trod enc P w base spare held s1 v1 d1 p1 := by
 obtain ⟨v0, r0, d0, e0, p0, q0, hargs, rfl, rfl, t0, h0⟩ := trodAll_cons h
 obtain ⟨v1, r1, d1, e1, p1, q1, rfl, rfl, rfl, t1, h1⟩ := trodAll_cons h0
 obtain ⟨rfl, rfl, rfl⟩ := trodAll_nil h1
 exact ⟨v0, v1, d0, d1, p0, p1, by cases args; simp_all, rfl, t0, t1⟩
end
section
variable {H : Type} {enc : TypeId × Value → H} {w : World} {base : Nat} {spare : Nat → Bool} {held : Bool} {r : Reach} {b0 : Nat} {v : Value} {d : DataW H} {p : List MemPlace}
theorem law_num (hv : Value.okWide Tryz.prog w r b0 3 v) (h : DataW.Trod enc Tryz.prog w base spare held 3 v d p) : ∃ k : Int, v = .int .i64 k ∧ -9223372036854775808 ≤ k ∧ k ≤ 9223372036854775807 := by
 obtain ⟨k, rfl, rfl, rfl, wk⟩ := open_int Tryz.underlying3 hv h
 have := wk
 simp [Lit.wf, IntKind.min, IntKind.max, IntKind.signed, IntKind.bits] at this
 exact ⟨k, rfl, by omega, by omega⟩
end
end
end Go.Proofs.YtekmnelpkogppaaGreatDoor
