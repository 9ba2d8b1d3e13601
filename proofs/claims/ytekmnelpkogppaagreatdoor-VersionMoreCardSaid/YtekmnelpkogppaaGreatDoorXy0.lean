import Derived.Test.YtekmnelpkogppaaGreatDoorKx11
set_option linter.unusedVariables false
set_option linter.unusedSimpArgs false
set_option maxRecDepth 100000
set_option maxHeartbeats 40000000
namespace Go.Proofs.YtekmnelpkogppaaGreatDoor
section
open Go.RowKit Go.Lib
theorem refNumber_any (W l : Int) (A : Option Addr) (n cap : Nat) (cs : List VC) (w : World) (hn : 1 ≤ n) (hr : Rd w w.heap.size 1 A n (cs.map VC.val)) (hc : ∀ c ∈ cs, c.ok w w.heap.size) (hh : headN cs ≤ 100) :
  Calls Tryz.prog 45 #[.agg #[.int .i64 W, .slice A n cap], .int .i64 l] w fun e w' => e = .returned (.bool (inB l 0 (headN cs - 1))) ∧ Below w.heap.size w w' := by
 obtain ⟨b, off, hz, rfl, hb, hq⟩ := hr.atm (show 0 < n by omega)
 match cs, hz with
 | c :: rest, _ =>
  have hl := (hc c (by simp)).2.2.2.len2
  simp only [List.getElem_cons_zero, VC.val, Nat.add_zero] at hq
  have e : (headN (c :: rest) : Nat) = c.n := hl
  rw [e] at hh ⊢
  have hn0 : (0 : Int) < n := by omega
  clear hl e
  go_enter Tryz.func45, Tryz.ntmps45
  have hq2 := (World.cell?_alloc_lt w (.cells #[.int .i64 W, .slice (some ⟨b, off, none⟩) n cap] 24) ⟨b, off, none⟩ hb).trans hq
  go_wp2_with (go_at_call 85; refine (in_any _ _ _ _).mono ?_; rintro e w1 ⟨rfl, rfl⟩)
  go_ret
  exact ⟨rfl, (Below.refl _ w).alloc (Nat.le_refl _) _⟩
end
section
theorem scr_zero {α : Type} {a b : List α} {n : Nat} (h : Scr a b n) (hn : n = 0) : a = b := by
 induction h with
 | nil => rfl
 | keep x _ ih => rw [ih hn]
 | change => omega
 | add => omega
 | drop => omega
section
variable {α : Type} [DecidableEq α]
theorem ed_zero {a b : List α} (h : ed a b = 0) : a = b := scr_zero (ed_scr a b) h
theorem ed_self (a : List α) : ed a a = 0 := Nat.le_zero.1 (scr_ed _ _ (scr_refl a))
end
theorem ed_map {α β : Type} [DecidableEq α] [DecidableEq β] (f : α → β) : ∀ (a b : List α), (∀ x ∈ a, ∀ y ∈ b, f x = f y → x = y) → ed (a.map f) (b.map f) = ed a b
 | [], b, _ => by simp [ed_nil]
 | x :: xs, b, h => by
  have ih := fun b hb => ed_map f xs b hb
  induction b with
  | nil => simp [ed_nil_r]
  | cons y ys ihb =>
   rw [List.map_cons, List.map_cons, ed_cons, ed_cons, ← List.map_cons, ← List.map_cons]
   rw [ih ys (fun p hp q hq => h p (by simp [hp]) q (by simp [hq])), ih (y :: ys) (fun p hp q hq => h p (by simp [hp]) q hq), ihb (fun p hp q hq => h p hp q (by simp [hq]))]
   by_cases e : x = y
   ·rw [if_pos e, if_pos (by rw [e])]
   ·rw [if_neg e, if_neg (fun e2 => e (h x (by simp) y (by simp) e2))]
end
section
open Go.RowKit Go.Lib
theorem IA.toW {w w' : World} {A : Option Addr} {n cap : Nat} {l : List Int} (h : IA w A n cap l) (hb : Below w.heap.size w w') : IA w' A n cap l := ⟨h.1, h.2.1, rdB h.2.2 hb⟩
theorem IA.max {w : World} {A : Option Addr} {n cap : Nat} {l : List Int} (h : IA w A n cap l) : n ≤ maxLen := Nat.le_trans h.1 h.2.1
theorem IA.len {w : World} {A : Option Addr} {n cap : Nat} {l : List Int} (h : IA w A n cap l) : l.length = n := by simpa using h.2.2.len
theorem u8_inj {x y : Int} (hx : 0 ≤ x ∧ x ≤ 2) (hy : 0 ≤ y ∧ y ≤ 2) (e : UInt8.ofNat x.toNat = UInt8.ofNat y.toNat) : x = y := by
 have h := congrArg UInt8.toNat e
 simp only [UInt8.toNat_ofNat'] at h
 omega
theorem edB_int {a b : List Int} (ha : ∀ x ∈ a, 0 ≤ x ∧ x ≤ 2) (hb : ∀ x ∈ b, 0 ≤ x ∧ x ≤ 2) : edB (lbS a) (lbS b) = ed a b := by
 show ed (lbL a) (lbL b) = ed a b
 unfold lbL
 exact ed_map _ a b (fun x hx y hy e => u8_inj (ha x hx) (hb y hy) e)
theorem book_W {W : Int} {cs : List VC} (h : bookB W cs = true) : 1 ≤ W ∧ W ≤ 3 := by
 unfold bookB at h
 simp only [Bool.and_eq_true] at h
 simpa [inB] using h.1.1.1
section
variable {W : Int} {A : Option Addr} {n cap : Nat} {cs : List VC} {w : World} {A1 A2 : Option Addr} {n1 n2 c1 c2 : Nat} {l1 l2 : List Int}
theorem Line_I (h : BkI w A n cap cs) (hk : bookB W cs = true) (h1 : IA w A1 n1 c1 l1) : Calls Tryz.prog 28 #[.agg #[.int .i64 W, .slice A n cap], .slice A1 n1 c1] w fun e w' => e = .returned (.bool (lnB W l1)) ∧ Below w.heap.size w w' := refLine_any W A n cap A1 n1 c1 l1 w (by have := book_W hk; omega) (by have := book_W hk; omega) h1.max h1.2.2
theorem Changes_I (h : BkI w A n cap cs) (hk : bookB W cs = true) (h1 : IA w A1 n1 c1 l1) (h2 : IA w A2 n2 c2 l2) (k1 : lnB W l1 = true) (k2 : lnB W l2 = true) :
  Calls Tryz.prog 26 #[.agg #[.int .i64 W, .slice A n cap], .slice A1 n1 c1, .slice A2 n2 c2] w fun e w' => e = .returned (.tuple #[.int .i64 (ed l1 l2 : Nat), .int .i64 0]) ∧ Below w.heap.size w w' := by
 have h3 := Changes_yes W A n cap cs A1 n1 c1 l1 A2 n2 c2 l2 w h.max h.2.2.1 h.2.2.2 h1.max h1.2.2 h2.max h2.2.2 hk k1 k2
 rw [edB_int (ln_small (book_W hk) k1).2 (ln_small (book_W hk) k2).2] at h3
 exact h3
def RightB (W : Int) (cs : List VC) (e : Ending) : Prop := ∃ b : Bool, e = .returned (.bool b) ∧ (b = true → bookB W cs = true)
theorem right_any (h : BkI w A n cap cs) : Calls Tryz.prog 30 #[.agg #[.int .i64 W, .slice A n cap]] w fun e w' => RightB W cs e ∧ Below w.heap.size w w' := by
 have hX := Blk.new w 24 #[.int .i64 W, .slice A n cap]
 have hB : Below w.heap.size w (w.alloc (.cells #[.int .i64 W, .slice A n cap] 24)) := (Below.refl _ w).alloc (Nat.le_refl _) _
 have qX := fun i => hX.cell i
 go_enter Tryz.func30, Tryz.ntmps30
 go_wp2_with fail
 refine (short_any W A n cap cs _ (h.toW hB)).mono ?_; rintro e wc ⟨⟨b, rfl⟩, hb⟩
 replace hB := hB.trans (hb.mono hB.size); replace hX := hX.below hb hX.lt; clear hb qX; have qX := fun i => hX.cell i
 cases b with
 | false =>
  go_wp2_with fail
  go_ret
  exact ⟨⟨false, rfl, fun h => by cases h⟩, hB⟩
 | true =>
  have hbk := refBook_any W A n cap cs
  obtain ⟨R, hR⟩ : ∃ R, R = bookB W cs := ⟨_, rfl⟩
  rw [← hR] at hbk
  have HR := Lib.hid hR; clear hR
  go_wp2_with fail
  refine (hbk _ (h.toW hB)).mono ?_; rintro e wc ⟨rfl, hb⟩
  replace hB := hB.trans (hb.mono hB.size); clear hb qX
  go_wp2_with fail
  go_ret
  exact ⟨⟨R, rfl, fun h => by rw [← HR.out]; exact h⟩, hB⟩
end
end
section
open Go.RowKit Go.Lib
theorem lnB_len {W : Int} {l : List Int} (h : lnB W l = true) : l.length ≤ 4 := by
 unfold lnB at h
 simp only [Bool.and_eq_true, decide_eq_true_eq] at h
 exact h.1
end
section
open Go.RowKit Go.Lib
section
variable {w : World} {A1 A2 : Option Addr} {n1 n2 c1 c2 : Nat} {l1 l2 : List Int}
theorem Same_I (h1 : IA w A1 n1 c1 l1) (h2 : IA w A2 n2 c2 l2) (k1 : n1 ≤ 6) (k2 : n2 ≤ 6) : Calls Tryz.prog 31 #[.slice A1 n1 c1, .slice A2 n2 c2] w fun e w' => e = .returned (.bool (decide (l1 = l2))) ∧ Below w.heap.size w w' :=
 same_any A1 n1 c1 l1 A2 n2 c2 l2 w (by omega) (by omega) h1.2.2 h2.2.2
end
end
section
open Go.RowKit Go.Lib
def allLL (wn : Nat) : List (List Int) := (List.range 5).flatMap fun k => allLs k wn
theorem allLL_mem {wn : Nat} {l : List Int} (h : l ∈ allLL wn) : l.length ≤ 4 ∧ ∀ x ∈ l, 0 ≤ x ∧ x < (wn : Int) := by
 obtain ⟨k, hk, hl⟩ := List.mem_flatMap.1 h
 obtain ⟨h1, h2⟩ := allLs_mem hl
 have := List.mem_range.1 hk
 exact ⟨by omega, h2⟩
theorem allLL_len {wn : Nat} (h1 : 1 ≤ wn) (h3 : wn ≤ 3) : (allLL wn).length ≤ 121 := by
 have : wn = 1 ∨ wn = 2 ∨ wn = 3 := by omega
 rcases this with rfl | rfl | rfl
 ·exact of_decide_eq_true (by kernel_rfl)
 ·exact of_decide_eq_true (by kernel_rfl)
 ·exact of_decide_eq_true (by kernel_rfl)
end
section
open Go.RowKit Go.Lib
theorem nwL_lbS {l : List Int} (h : ∀ x ∈ l, 0 ≤ x ∧ x ≤ 2) : nwL (lbS l) = l := by
 unfold nwL lbS lbL
 show (l.map fun x => UInt8.ofNat x.toNat).map (fun b => ((b.toNat : Nat) : Int)) = l
 rw [List.map_map]
 conv => rhs; rw [← List.map_id l]
 refine List.map_congr_left fun x hx => ?_
 have := h x hx
 simp only [Function.comp_apply, UInt8.toNat_ofNat', id]
 omega
theorem allLn_LL (wn : Nat) : allLn wn = (allLL wn).map lbS := by
 unfold allLn allLL
 rw [List.map_flatMap]
theorem allLL_small {wn : Nat} (h3 : wn ≤ 3) {l : List Int} (h : l ∈ allLL wn) : ∀ x ∈ l, 0 ≤ x ∧ x ≤ 2 := fun x hx => by
 have := (allLL_mem h).2 x hx
 omega
end
section
open Go.RowKit Go.Lib
def befL : List Int → List Int → Bool
 | [], b => decide (0 < b.length)
 | _ :: _, [] => false
 | x :: xs, y :: ys => if x = y then befL xs ys else decide (x < y)
def b89 (a b : List Int) : Bool := if a.length = b.length then befL a b else decide (a.length < b.length)
theorem befL_end : ∀ (a b : List Int) (_ : a = [] ∨ b = []), befL a b = decide (a.length < b.length)
 | [], b, _ => rfl
 | x :: xs, [], _ => by simp [befL]
 | x :: xs, y :: ys, h => by rcases h with h | h <;> cases h
theorem before_any (A : Option Addr) (n cap : Nat) (xs : List Int) (A2 : Option Addr) (n2 cap2 : Nat) (ys : List Int) (w : World) (h1 : IA w A n cap xs) (h2 : IA w A2 n2 cap2 ys) (hn : n ≤ 1000000) (hn2 : n2 ≤ 1000000) :
  Calls Tryz.prog 50 #[.slice A n cap, .slice A2 n2 cap2] w fun e w' => e = .returned (.bool (befL xs ys)) ∧ Below w.heap.size w w' := by
 have hl1 := h1.len; have hl2 := h2.len
 obtain ⟨R, hR⟩ : ∃ R, R = befL xs ys := ⟨_, rfl⟩
 rw [← hR]
 have H1 := Lib.hid h1; have H2 := Lib.hid h2; clear h1 h2
 go_enter Tryz.func50, Tryz.ntmps50
 go_wp2_with fail
 go_loopg [5] n (fun g i wr => ∃ k : Nat, g = n - k ∧ k ≤ n ∧ k ≤ n2 ∧ i = .int .i64 k ∧ Hid (R = befL (xs.drop k) (ys.drop k)) ∧ Below w.heap.size w wr)
 case atStart => exact ⟨0, rfl, Nat.zero_le _, Nat.zero_le _, rfl, Lib.hid hR, Below.refl _ _⟩
 case round =>
  clear hR
  obtain ⟨k, hg, hk, hk2, rfl, hpre, hB⟩ := hrel
  rename World => wr
  have HG := Lib.hid hg; clear hg
  by_cases hlt : k < n
  ·by_cases hlt2 : k < n2
   ·have hlti : (k : Int) < n := by omega
    have hlti2 : (k : Int) < n2 := by omega
    obtain ⟨b, off, hz, rfl, hb, hc1⟩ := (H1.out.toW hB).2.2.atm hlt
    obtain ⟨b2, off2, hz2, rfl, hb2, hc2⟩ := (H2.out.toW hB).2.2.atm hlt2
    have e1 : xs.drop k = xs[k] :: xs.drop (k + 1) := List.drop_eq_getElem_cons hz
    have e2 : ys.drop k = ys[k] :: ys.drop (k + 1) := List.drop_eq_getElem_cons hz2
    have hp := hpre.out
    rw [e1, e2, befL] at hp
    generalize xs[k] = x at *
    generalize ys[k] = y at *
    have HP := Lib.hid hp; clear hp e1 e2 hz hz2 hpre
    have hq1 := fun (p : Blw wr.heap.size wr) => ((Blw.h p).cell (p := ⟨b, off + k, none⟩) hb).trans hc1
    have hq2 := fun (p : Blw wr.heap.size wr) => ((Blw.h p).cell (p := ⟨b2, off2 + k, none⟩) hb2).trans hc2
    go_upto_region 4 with (fail)
    refine wp_region_blw (by kernel_rfl) (by kernel_rfl) ?_
    repeat (go_big_quiet_step (fail))
    refine wpQuiet_nil ?_
    rintro W3 ⟨⟨_, hb3⟩, rfl⟩
    clear hq1 hq2
    replace hc1 := (hb3.cell (p := ⟨b, off + k, none⟩) hb).trans hc1
    replace hc2 := (hb3.cell (p := ⟨b2, off2 + k, none⟩) hb2).trans hc2
    replace hb := Nat.lt_of_lt_of_le hb hb3.size
    replace hb2 := Nat.lt_of_lt_of_le hb2 hb3.size
    replace hB := hB.trans (hb3.mono hB.size)
    clear hb3
    by_cases hxy : x = y
    ·subst hxy
     have HP2 : Hid (R = befL (xs.drop (k + 1)) (ys.drop (k + 1))) := Lib.hid (by rw [HP.out, if_pos rfl])
     clear HP
     go_wp2_with fail
     go_roundg (n - (k + 1))
     case measure => rw [HG.out]; omega
     case rel => exact ⟨k + 1, rfl, by omega, by omega, by go_num, HP2, hB⟩
    ·have HP2 : Hid (R = decide (x < y)) := Lib.hid (by rw [HP.out, if_neg hxy])
     clear HP
     have hq1 := fun (p : Blw W3.heap.size W3) => ((Blw.h p).cell (p := ⟨b, off + k, none⟩) hb).trans hc1
     have hq2 := fun (p : Blw W3.heap.size W3) => ((Blw.h p).cell (p := ⟨b2, off2 + k, none⟩) hb2).trans hc2
     go_upto_region 5 with (fail)
     refine wp_region_blw (by kernel_rfl) (by kernel_rfl) ?_
     repeat (go_big_quiet_step (fail))
     refine wpQuiet_nil ?_
     rintro W4 ⟨⟨_, hb3⟩, rfl⟩
     go_wp2_with fail
     go_ret
     exact ⟨by rw [HP2.out]; rfl, hB.trans (hb3.mono hB.size)⟩
   ·have hge : ¬ (k : Int) < n2 := by omega
    have hlti : (k : Int) < n := by omega
    have hp := hpre.out
    rw [befL_end _ _ (.inr (List.drop_eq_nil_of_le (by omega))), List.length_drop, List.length_drop, hl1, hl2] at hp
    have hp2 : R = false := by rw [hp, decide_eq_false (by omega)]
    have hno : ¬ (n : Int) < n2 := by omega
    have HP := Lib.hid hp2; clear hp hp2 hpre
    go_wp2_with fail
    go_ret
    refine ⟨?_, hB⟩
    rw [HP.out]
    first | rfl | (show Ending.returned (.bool (decide ((n : Int) < n2))) = _; rw [decide_eq_false hno])
  ·have hge : ¬ (k : Int) < n := by omega
   have hp := hpre.out
   rw [befL_end _ _ (.inl (List.drop_eq_nil_of_le (by omega))), List.length_drop, List.length_drop, hl1, hl2] at hp
   have hp2 : R = decide (n < n2) := by rw [hp]; congr 1; apply propext; omega
   have HP := Lib.hid hp2; clear hp hp2 hpre
   go_wp2_with fail
   go_ret
   exact ⟨by rw [HP.out]; rfl, hB⟩
theorem before89_any (A : Option Addr) (n cap : Nat) (xs : List Int) (A2 : Option Addr) (n2 cap2 : Nat) (ys : List Int) (w : World) (h1 : IA w A n cap xs) (h2 : IA w A2 n2 cap2 ys) (hn : n ≤ 1000000) (hn2 : n2 ≤ 1000000) :
  Calls Tryz.prog 89 #[.slice A n cap, .slice A2 n2 cap2] w fun e w' => e = .returned (.bool (b89 xs ys)) ∧ Below w.heap.size w w' := by
 have hl1 := h1.len; have hl2 := h2.len
 by_cases he : n = n2
 ·subst he
  have e : b89 xs ys = befL xs ys := by unfold b89; rw [if_pos (by omega)]
  rw [e]
  have hc := before_any A n cap xs A2 n cap2 ys w h1 h2 hn hn2
  generalize befL xs ys = R at *
  have HC := Lib.hid hc; clear hc h1 h2 e hl1 hl2
  have hne : ((n : Int) != (n : Int)) = false := by simp
  go_enter Tryz.func89, Tryz.ntmps89
  go_wp2_with fail
  refine HC.out.mono ?_; rintro e w1 ⟨rfl, hb⟩
  go_wp2_with fail
  go_ret
  exact ⟨rfl, hb⟩
 ·have e : b89 xs ys = decide (n < n2) := by
   unfold b89; rw [if_neg (by omega)]; congr 1; apply propext; omega
  rw [e]
  clear h1 h2 e hl1 hl2
  go_enter Tryz.func89, Tryz.ntmps89
  go_wp2_with fail
  go_ret
  exact ⟨rfl, Below.refl _ _⟩
theorem met_any {v : Value} {ls : List (List Int)} {w : World} (A2 : Option Addr) (n2 cap2 : Nat) (x : List Int) (h : LL w v ls) (hx : IA w A2 n2 cap2 x) (hn2 : n2 ≤ 1000000) :
  Calls Tryz.prog 42 #[v, .slice A2 n2 cap2] w fun e w' => e = .returned (.bool (decide (x ∈ ls))) ∧ Below w.heap.size w w' := by
 obtain ⟨A, n, cap, rs, rfl, _, _, hn, hr, hok, hws⟩ := h
 have hl : rs.length = n := by simpa using hr.len
 obtain ⟨R, hR⟩ : ∃ R, R = decide (x ∈ ls) := ⟨_, rfl⟩
 rw [← hR]
 have HR := Lib.hid hR; have HX := Lib.hid hx; have HO := Lib.hid hok; have HL := Lib.hid hl; have HW := Lib.hid hws; clear hR hx hok hl hws
 go_enter Tryz.func42, Tryz.ntmps42
 go_wp2_with fail
 go_loopg [5] n (fun g i wr => ∃ k : Nat, g = n - k ∧ k ≤ n ∧ i = .int .i64 k ∧ Hid (∀ r ∈ rs.take k, r.ws ≠ x) ∧ Below w.heap.size w wr)
 case atStart => exact ⟨0, rfl, Nat.zero_le _, rfl, Lib.hid (fun r hr => absurd hr List.not_mem_nil), Below.refl _ _⟩
 case round =>
  obtain ⟨k, hg, hk, rfl, hpre, hB⟩ := hrel
  rename World => wr
  have HG := Lib.hid hg; clear hg
  by_cases hlt : k < n
  ·have hlti : (k : Int) < n := by omega
   obtain ⟨b, off, hz, rfl, hb, hc1⟩ := (rdB hr hB).atm hlt
   have hzr : k < rs.length := by simpa using hz
   have htk : rs.take (k + 1) = rs.take k ++ [rs[k]] := List.take_succ_eq_append_getElem hzr
   obtain ⟨o1, o2⟩ := HO.out _ (List.getElem_mem hzr)
   have hmem : rs[k].ws ∈ ls := by rw [← HW.out]; exact List.mem_map_of_mem (List.getElem_mem hzr)
   generalize rs[k] = y at *
   obtain ⟨yA, yn, yc, yw⟩ := y
   obtain ⟨-, -, o1⟩ := o1
   simp only [RI.val] at hc1 o1 o2 hmem
   have hsm := same_any yA yn yc yw A2 n2 cap2 x wr o2 hn2 ((o1.below hB).more hB.size) (HX.out.toW hB).2.2
   have HTK := Lib.hid htk; have HM := Lib.hid hmem; clear htk hmem hz hzr o1 o2
   cases hd : decide (yw = x) with
   | true =>
    rw [hd] at hsm
    have e : R = true := by rw [HR.out, ← of_decide_eq_true hd]; exact decide_eq_true HM.out
    subst e
    have HS := Lib.hid hsm; clear hsm hd HR
    go_wp2_with fail
    refine HS.out.mono ?_; rintro e w1 ⟨rfl, hb1⟩
    go_wp2_with fail
    go_ret
    exact ⟨rfl, hB.trans (hb1.mono hB.size)⟩
   | false =>
    rw [hd] at hsm
    have hne : yw ≠ x := of_decide_eq_false hd
    have HS := Lib.hid hsm; have HNE := Lib.hid hne; clear hsm hd hne
    go_wp2_with fail
    refine HS.out.mono ?_; rintro e w1 ⟨rfl, hb1⟩
    replace hB := hB.trans (hb1.mono hB.size); clear hb1
    go_wp2_with fail
    go_roundg (n - (k + 1))
    case measure => rw [HG.out]; omega
    case rel =>
     refine ⟨k + 1, rfl, by omega, by go_num, Lib.hid ?_, hB⟩
     rw [HTK.out]
     intro r hr
     rcases List.mem_append.1 hr with h | h
     ·exact hpre.out r h
     ·obtain rfl := List.mem_singleton.1 h
      exact HNE.out
  ·obtain rfl : k = n := by omega
   have hge : ¬ (k : Int) < k := by omega
   have e : R = false := by
    rw [HR.out, decide_eq_false_iff_not, ← HW.out]
    intro h
    obtain ⟨r, hr, rfl⟩ := List.mem_map.1 h
    exact hpre.out r (by rw [List.take_of_length_le (by rw [HL.out]; exact Nat.le_refl _)]; exact hr) rfl
   subst e
   clear HR hpre
   go_wp2_with fail
   go_ret
   exact ⟨rfl, hB⟩
end
section
open Go.RowKit Go.Lib
def costC (q : Nat) (l : List Int) (c : VC) : Nat := match c.ls[q]? with | some v => if v.lost then 0 else ed l v.ws | none => 0
def cost1 (q : Nat) (l : List Int) (cs : List VC) : Nat := (cs.map (costC q l)).sum
theorem cost1_snoc (q : Nat) (l : List Int) (cs : List VC) (c : VC) : cost1 q l (cs ++ [c]) = cost1 q l cs + costC q l c := by unfold cost1; simp
end
section
open Go.RowKit Go.Lib
theorem cost1_le {wn : Nat} {A : Option Addr} {n : Nat} {cs : List VC} {w : World} {B : Nat} (hb : BkG wn A n cs w B) (q : Nat) (l : List Int) (hl : l.length ≤ 6) : cost1 q l cs ≤ 30 := by
 have h1 : ∀ c ∈ cs, costC q l c ≤ 6 := fun c hc => by
  unfold costC
  split
  ·rename_i v hv
   split
   ·omega
   ·have h2 := ed_le l v.ws
    have h3 := (hb.2.2.2.2.2.2 c hc v (List.mem_of_getElem? hv)).2.1
    omega
  ·omega
 have h2 : ∀ xs : List VC, (∀ c ∈ xs, costC q l c ≤ 6) → (xs.map (costC q l)).sum ≤ 6 * xs.length := by
  intro xs
  induction xs with
  | nil => intro _; simp
  | cons c xs ih =>
   intro h
   have a1 := h c (by simp)
   have a2 := ih (fun c hc => h c (by simp [hc]))
   simp only [List.map_cons, List.sum_cons, List.length_cons]
   omega
 have h3 := h2 cs h1
 have h4 := hb.len
 have h5 := hb.2.1
 unfold cost1
 omega
end
section
open Go.RowKit Go.Lib
def minF (f : List Int → Nat) (L : List (List Int)) : Nat := L.foldl (fun m x => min m (f x)) (match L with | [] => 0 | l :: _ => f l)
def leastF (f : List Int → Nat) (L : List (List Int)) : List (List Int) := L.filter fun l => f l == minF f L
end
section
open Go.RowKit Go.Lib
def pwB : List (List Int) → Bool
 | [] => true
 | a :: l => l.all (b89 a) && pwB l
theorem pwB_pw : ∀ l : List (List Int), pwB l = true → l.Pairwise fun a b => b89 a b = true
 | [], _ => List.Pairwise.nil
 | a :: l, h => by
  rw [pwB, Bool.and_eq_true, List.all_eq_true] at h
  exact List.Pairwise.cons h.1 (pwB_pw l h.2)
theorem allLL_pw {wn : Nat} (h1 : 1 ≤ wn) (h3 : wn ≤ 3) : (allLL wn).Pairwise fun a b => b89 a b = true := by
 have : wn = 1 ∨ wn = 2 ∨ wn = 3 := by omega
 rcases this with rfl | rfl | rfl
 ·exact pwB_pw _ (by kernel_rfl : pwB (allLL 1) = true)
 ·exact pwB_pw _ (by kernel_rfl : pwB (allLL 2) = true)
 ·exact pwB_pw _ (by kernel_rfl : pwB (allLL 3) = true)
theorem allLL_lnB {wn : Nat} {l : List Int} (h : l ∈ allLL wn) : lnB (wn : Int) l = true := by
 have h2 := allLL_mem h
 unfold lnB
 rw [Bool.and_eq_true, decide_eq_true_eq, List.all_eq_true]
 refine ⟨h2.1, fun x hx => ?_⟩
 have := h2.2 x hx
 simp only [inB, Bool.and_eq_true, decide_eq_true_eq]
 omega
theorem lawlines_any {W : Int} {A : Option Addr} {n cap : Nat} {cs : List VC} {v : Value} {ls : List (List Int)} {w : World} (hb : BkI w A n cap cs) (hk : bookB W cs = true) (h : LL w v ls) (hg : ∀ l ∈ ls, lnB W l = true) (hp : ls.Pairwise fun a b => b89 a b = true) (hm : ls.length ≤ 121) :
  Calls Tryz.prog 41 #[.agg #[.int .i64 W, .slice A n cap], v] w fun e w' => e = .returned (.bool true) ∧ Below w.heap.size w w' := by
 obtain ⟨lA, ln, lc, rs, rfl, _, _, hn, hr, hok, hws⟩ := h
 have hl : rs.length = ln := by simpa using hr.len
 have hll : ls.length = rs.length := by rw [← hws, List.length_map]
 have hn121 : ln ≤ 121 := by omega
 have HBK := Lib.hid hb; have HO := Lib.hid hok; have HW := Lib.hid hws; have HGD := Lib.hid hg; have HP := Lib.hid hp; have HK := Lib.hid hk; have HRL := Lib.hid hl
 clear hb hok hws hg hp hk hm hll hl hn
 have hX := Blk.new w 24 #[.int .i64 W, .slice A n cap]
 have hB : Below w.heap.size w (w.alloc (.cells #[.int .i64 W, .slice A n cap] 24)) := (Below.refl _ w).alloc (Nat.le_refl _) _
 have qX := fun i => hX.cell i
 have hrB := rdB hr hB
 have W0e : (w.alloc (.cells #[.int .i64 W, .slice A n cap] 24)) = (w.alloc (.cells #[.int .i64 W, .slice A n cap] 24)) := rfl
 clear W0e hrB
 go_enter Tryz.func41, Tryz.ntmps41
 go_wp2_with fail
 go_loopg [5] ln (fun g i wr => ∃ k : Nat, g = ln - k ∧ k ≤ ln ∧ i = .int .i64 k ∧ Below w.heap.size w wr ∧ Blk wr w.heap.size 24 #[.int .i64 W, .slice A n cap])
 case atStart => exact ⟨0, rfl, Nat.zero_le _, rfl, hB, hX⟩
 case round =>
  clear hX qX hB
  obtain ⟨k, hg, hk, rfl, hB, hX⟩ := hrel
  rename World => wr
  have HG := Lib.hid hg; clear hg
  by_cases hlt : k < ln
  ·have hlti : (k : Int) < ln := by omega
   have hlt200 : (k : Int) < 200 := by omega
   obtain ⟨b, off, hz, rfl, hbb, hc1⟩ := (rdB hr hB).atm hlt
   have hzr : k < rs.length := by simpa using hz
   have hmem : rs[k].ws ∈ ls := by rw [← HW.out]; exact List.mem_map_of_mem (List.getElem_mem hzr)
   obtain ⟨o1, o2⟩ := HO.out _ (List.getElem_mem hzr)
   have hgk := HGD.out _ hmem
   have hbf : ∀ (h0 : 0 < k), b89 rs[k - 1].ws rs[k].ws = true := fun h0 => by
    have h5 := List.pairwise_iff_getElem.1 HP.out (k - 1) k (by rw [← HW.out, List.length_map]; omega) (by rw [← HW.out, List.length_map]; omega) (by omega)
    have h6 : ∀ (i : Nat) (hi : i < ls.length) (hj : i < rs.length), ls[i] = rs[i].ws := by
     intro i hi hj
     have := List.getElem_of_eq HW.out.symm hi
     rw [this, List.getElem_map]
    rw [h6 _ _ (by omega), h6 _ _ hzr] at h5
    exact h5
   have hq1 := fun (p : Blw wr.heap.size wr) => ((Blw.h p).cell (p := ⟨b, off + k, none⟩) (Nat.lt_of_lt_of_le hbb (Nat.le_refl _))).trans hc1
   have hq3 := fun (p : Blw wr.heap.size wr) i => blw_blk hX p i
   have hlX := hX.lt
   have hxI : ∀ wx, Below w.heap.size w wx → IA wx rs[k].A rs[k].n rs[k].cap rs[k].ws := fun wx hx => ⟨o1.1, o1.2.1, (o1.2.2.below hx).more hx.size⟩
   have c28 := fun (p : Blw wr.heap.size wr) => Line_I (W := W) (w := p.toW) (HBK.out.toW (hB.trans (p.h.mono hB.size))) HK.out (hxI _ (hB.trans (p.h.mono hB.size)))
   rw [hgk] at c28
   have C28 := Lib.hid c28; clear c28 hmem hgk
   by_cases h0 : k = 0
   ·subst h0
    clear hbf hxI
    obtain ⟨xx, hxx⟩ : ∃ xx, xx = rs[0] := ⟨_, rfl⟩
    rw [← hxx] at C28 hq1
    clear hxx o1 o2 hz hzr hc1
    obtain ⟨xa, xn, xc, xw⟩ := xx
    simp only [RI.val] at hq1 C28
    simp only [Nat.add_zero] at hq1
    go_upto_region 4 with (fail)
    refine wp_region_blw (by kernel_rfl) (by kernel_rfl) ?_
    repeat (go_big_quiet_step (fail))
    go_big_quiet_step ((go_at_call 28; exact Calls.blw_of _ (C28.out _)))
    repeat (go_big_quiet_step (fail))
    refine wpQuiet_nil ?_
    rintro W3 ⟨⟨_, hb3⟩, rfl⟩
    clear hq1 hq3
    replace hX := hX.below hb3 hlX; replace hB := hB.trans (hb3.mono hB.size); clear hb3 hlX
    go_wp2_with fail
    go_roundg (ln - 1)
    case measure => rw [HG.out]; omega
    case rel => exact ⟨1, rfl, by omega, by go_num, hB, hX⟩
   ·obtain ⟨j, rfl⟩ : ∃ j, k = j + 1 := ⟨k - 1, by omega⟩
    have hzj : j < rs.length := by omega
    obtain ⟨p1, p2⟩ := HO.out _ (List.getElem_mem hzj)
    have hbf' := hbf (by omega)
    simp only [Nat.add_sub_cancel] at hbf'
    have hyI : ∀ wx, Below w.heap.size w wx → IA wx rs[j].A rs[j].n rs[j].cap rs[j].ws := fun wx hx => ⟨p1.1, p1.2.1, (p1.2.2.below hx).more hx.size⟩
    have c89 := fun (p : Blw wr.heap.size wr) => before89_any _ _ _ _ _ _ _ _ p.toW (hyI _ (hB.trans (p.h.mono hB.size))) (hxI _ (hB.trans (p.h.mono hB.size))) p2 o2
    rw [hbf'] at c89
    obtain ⟨b', off', hz', e', hbb', hc2⟩ := (rdB hr hB).atm (show j < ln by omega)
    obtain ⟨rfl, rfl⟩ : b = b' ∧ off = off' := by simpa using e'
    have hq2 := fun (p : Blw wr.heap.size wr) => ((Blw.h p).cell (p := ⟨b, off + j, none⟩) (Nat.lt_of_lt_of_le hbb (Nat.le_refl _))).trans hc2
    have C89 := Lib.hid c89; clear c89 hbf hbf' hxI hyI e' hbb'
    obtain ⟨xx, hxx⟩ : ∃ xx, xx = rs[j + 1] := ⟨_, rfl⟩
    rw [← hxx] at C28 C89 hq1
    obtain ⟨yy, hyy⟩ : ∃ yy, yy = rs[j] := ⟨_, rfl⟩
    rw [← hyy] at C89 hq2
    clear hxx hyy o1 o2 p1 p2 hz hzr hc1 hz' hc2 hzj
    obtain ⟨xa, xn, xc, xw⟩ := xx
    obtain ⟨ya, yn, yc, yw⟩ := yy
    simp only [RI.val] at hq1 hq2 C28 C89
    have hjl : j < ln := by omega
    have hjp : (0 : Int) < (j : Int) + 1 := by omega
    go_upto_region 4 with (fail)
    refine wp_region_blw (by kernel_rfl) (by kernel_rfl) ?_
    repeat (go_big_quiet_step (fail))
    go_big_quiet_step ((go_at_call 28; exact Calls.blw_of _ (C28.out _)))
    repeat (go_big_quiet_step (fail))
    go_big_quiet_step ((go_at_call 89; exact Calls.blw_of _ (C89.out _)))
    repeat (go_big_quiet_step (fail))
    refine wpQuiet_nil ?_
    rintro W3 ⟨⟨_, hb3⟩, rfl⟩
    clear hq1 hq2 hq3
    replace hX := hX.below hb3 hlX; replace hB := hB.trans (hb3.mono hB.size); clear hb3 hlX
    go_wp2_with fail
    go_roundg (ln - (j + 1 + 1))
    case measure => rw [HG.out]; omega
    case rel => exact ⟨j + 1 + 1, rfl, by omega, by go_num, hB, hX⟩
  ·have hge : ¬ (k : Int) < ln := by omega
   have hle : (ln : Int) ≤ 121 := by omega
   go_wp2_with fail
   go_ret
   exact ⟨rfl, hB⟩
end
section
open Go.RowKit Go.Lib Go.Maps
section
variable {f : List Int → Nat}
theorem minFold_le (f : List Int → Nat) : ∀ (L : List (List Int)) (z : Nat), L.foldl (fun m x => min m (f x)) z ≤ z ∧ ∀ l ∈ L, L.foldl (fun m x => min m (f x)) z ≤ f l
 | [], z => ⟨Nat.le_refl _, fun l h => by cases h⟩
 | a :: L, z => by
  obtain ⟨h1, h2⟩ := minFold_le f L (min z (f a))
  rw [List.foldl_cons]
  refine ⟨by omega, fun l h => ?_⟩
  rcases List.mem_cons.1 h with rfl | h
  ·omega
  ·exact h2 l h
theorem minFold_mem (f : List Int → Nat) : ∀ (L : List (List Int)) (z : Nat), L.foldl (fun m x => min m (f x)) z = z ∨ ∃ l ∈ L, f l = L.foldl (fun m x => min m (f x)) z
 | [], z => .inl rfl
 | a :: L, z => by
  rw [List.foldl_cons]
  rcases minFold_mem f L (min z (f a)) with h | ⟨l, h1, h2⟩
  ·by_cases hc : z ≤ f a
   ·exact .inl (by rw [h]; omega)
   ·exact .inr ⟨a, by simp, by rw [h]; omega⟩
  ·exact .inr ⟨l, by simp [h1], h2⟩
theorem minF_le {L : List (List Int)} {l : List Int} (h : l ∈ L) : minF f L ≤ f l := (minFold_le f L _).2 l h
theorem minF_mem {L : List (List Int)} (h : L ≠ []) : ∃ l ∈ L, f l = minF f L := by
 cases L with
 | nil => exact absurd rfl h
 | cons a L =>
  rcases minFold_mem f (a :: L) (f a) with h | h
  ·exact ⟨a, by simp, h.symm⟩
  ·exact h
theorem leastF_mem {L : List (List Int)} {l : List Int} : l ∈ leastF f L ↔ l ∈ L ∧ f l = minF f L := by
 unfold leastF
 rw [List.mem_filter]
 simp
end
theorem sumI_app (a : List Int) : ∀ (b : List Int), sumI (a ++ b) = sumI a + sumI b := by
 refine revInd ?_ ?_
 ·rw [List.append_nil]; show sumI a = sumI a + 0; omega
 ·intro l x ih
  rw [← List.append_assoc, sumI_snoc, sumI_snoc, ih]; omega
theorem olL_cost {q : Nat} {l : List Int} (hl : ∀ x ∈ l, 0 ≤ x ∧ x ≤ 2) : ∀ (cs : List VC), (∀ c ∈ cs, ∀ v ∈ c.ls, ∀ x ∈ v.ws, 0 ≤ x ∧ x ≤ 2) → sumI (olL q (lbS l) cs) = (cost1 q l cs : Nat) := by
 refine revInd (fun _ => rfl) ?_
 intro cs c ih h
 rw [olL_snoc, sumI_app, cost1_snoc, ih (fun c hc => h c (by simp [hc]))]
 have h2 := h c (by simp)
 unfold edO costC
 cases hv : c.ls[q]? with
 | none => rfl
 | some v =>
  dsimp only
  have h3 := h2 v (List.mem_of_getElem? hv)
  cases v.lost
  ·rw [if_neg (by decide), if_neg (by decide), edB_int hl h3]
   show _ + (0 + (ed l v.ws : Int)) = _
   omega
  ·rfl
theorem book_small {wn : Nat} {cs : List VC} (h : bookB (wn : Int) cs = true) : ∀ c ∈ cs, ∀ v ∈ c.ls, ∀ x ∈ v.ws, 0 ≤ x ∧ x ≤ 2 := fun c hc v hv => by
 have hW := book_W h
 unfold bookB at h
 simp only [Bool.and_eq_true, List.all_eq_true] at h
 have h2 := (h.2 c hc).2 v hv
 unfold vlB at h2
 rw [Bool.and_eq_true] at h2
 exact (ln_small hW h2.1).2
def costF (q : Nat) (cs : List VC) (l : List Int) : Nat := cost1 q l cs
def refL (wn q : Nat) (cs : List VC) : List (List Int) := leastF (costF q cs) (allLL wn)
def refC (wn q : Nat) (cs : List VC) : Nat := minF (costF q cs) (allLL wn)
section
variable {wn q : Nat} {cs : List VC}
theorem rated_ref (h3 : wn ≤ 3) (h : bookB (wn : Int) cs = true) : ratedL wn q cs = (allLL wn).map fun l => ⟨lbS l, (costF q cs l : Nat)⟩ := by
 unfold ratedL
 rw [allLn_LL, List.map_map]
 refine List.map_congr_left fun l hl => ?_
 show rateR q cs (lbS l) = _
 unfold rateR
 rw [olL_cost (allLL_small h3 hl) cs (book_small h)]
 rfl
theorem allLL_ne : allLL wn ≠ [] := fun e => by
 have : ([] : List Int) ∈ allLL wn := List.mem_flatMap.2 ⟨0, by simp, by show [] ∈ [[]]; simp⟩
 rw [e] at this; cases this
theorem leastQ_ref (h3 : wn ≤ 3) (h : bookB (wn : Int) cs = true) : leastQ wn q cs = (refL wn q cs).map fun l => ⟨lbS l, (costF q cs l : Nat)⟩ := by
 unfold leastQ leastR
 rw [rated_ref h3 h]
 obtain ⟨b, hb⟩ := bestI_some RT.c (l := (allLL wn).map fun l => (⟨lbS l, (costF q cs l : Nat)⟩ : RT)) (fun e => allLL_ne (List.map_eq_nil_iff.1 e))
 obtain ⟨h1, h2⟩ := bestI_mem _ _ _ hb
 rw [hb]
 obtain ⟨l0, hl0, rfl⟩ := List.mem_map.1 h1
 dsimp only at h2 ⊢
 have hm : costF q cs l0 = minF (costF q cs) (allLL wn) := by
  obtain ⟨l1, hl1, e⟩ := minF_mem (f := costF q cs) (allLL_ne (wn := wn))
  have a1 := h2 _ (List.mem_map_of_mem hl1)
  dsimp only at a1
  have a2 := minF_le (f := costF q cs) hl0
  omega
 unfold keepR refL leastF
 rw [List.filter_map]
 congr 1
 refine List.filter_congr fun l hl => ?_
 have a2 := minF_le (f := costF q cs) hl
 simp only [Function.comp_apply, hm]
 by_cases e : costF q cs l = minF (costF q cs) (allLL wn)
 ·rw [decide_eq_true (by omega)]; simp [e]
 ·rw [decide_eq_false (by omega)]; simp [e]
theorem leastL_ref (h3 : wn ≤ 3) (h : bookB (wn : Int) cs = true) : leastL wn q cs = (refL wn q cs).map lbS := by
 unfold leastL; rw [leastQ_ref h3 h, List.map_map]; rfl
theorem refL_small (h3 : wn ≤ 3) : ∀ l ∈ refL wn q cs, l.length ≤ 4 ∧ ∀ x ∈ l, 0 ≤ x ∧ x ≤ 2 := fun l hl => ⟨(allLL_mem (leastF_mem.1 hl).1).1, allLL_small h3 (leastF_mem.1 hl).1⟩
theorem leastL_nw (h3 : wn ≤ 3) (h : bookB (wn : Int) cs = true) : (leastL wn q cs).map nwL = refL wn q cs := by
 rw [leastL_ref h3 h, List.map_map]
 conv => rhs; rw [← List.map_id (refL wn q cs)]
 exact List.map_congr_left fun l hl => nwL_lbS (refL_small h3 l hl).2
theorem leastC_ref (h3 : wn ≤ 3) (h : bookB (wn : Int) cs = true) : leastC wn q cs = (refC wn q cs : Nat) := by
 have hp := leastQ_pos wn q cs
 unfold leastC
 rw [leastQ_ref h3 h] at hp ⊢
 cases hl : refL wn q cs with
 | nil => rw [hl] at hp; simp at hp
 | cons l ls =>
  have hm : l ∈ refL wn q cs := by rw [hl]; simp
  simp only [List.map_cons, List.head?_cons, Option.map_some, Option.getD_some]
  rw [(leastF_mem.1 hm).2]; rfl
end
end
section
open Go.RowKit Go.Lib Go.Maps
section
variable {wn : Nat} {A : Option Addr} {n cap q : Nat} {cs : List VC} {w : World}
theorem refL_len (h1 : 1 ≤ wn) (h3 : wn ≤ 3) : (refL wn q cs).length ≤ 121 := Nat.le_trans (List.length_filter_le _ _) (allLL_len h1 h3)
theorem Least_I (h : BkG wn A n cs w w.heap.size) (hk : bookB (wn : Int) cs = true) (hq : q < headN cs) :
  Calls Tryz.prog 43 #[.agg #[.int .i64 (wn : Int), .slice A n cap], .int .i64 (q : Int)] w fun e w' => (∃ u, e = .returned (.tuple #[u, .int .i64 (refC wn q cs : Nat), .int .i64 0]) ∧ LL w' u (refL wn q cs)) ∧ Below w.heap.size w w' := by
 refine (Least_yes cap q h hk hq).mono ?_
 rintro e w' ⟨⟨v, rs, rfl, hown, hrows⟩, hb⟩
 refine ⟨⟨v, by rw [leastC_ref h.1.2 hk], ?_⟩, hb⟩
 have h2 := LL.of_rows hown hrows (by have := refL_len (q := q) (cs := cs) h.1.1 h.1.2; rw [leastL_ref h.1.2 hk, List.length_map]; omega) (fun l hl => by
   rw [leastL_ref h.1.2 hk] at hl
   obtain ⟨z, hz, rfl⟩ := List.mem_map.1 hl
   rw [lbS_size]
   have := (refL_small h.1.2 z hz).1; omega)
 rw [leastL_nw h.1.2 hk] at h2
 exact h2
end
end
section
open Go.RowKit Go.Lib
theorem refL_good {wn q : Nat} {cs : List VC} (h1 : 1 ≤ wn) (h3 : wn ≤ 3) : (∀ l ∈ refL wn q cs, lnB (wn : Int) l = true) ∧ (refL wn q cs).Pairwise (fun a b => b89 a b = true) ∧ (refL wn q cs).length ≤ 121 :=
 ⟨fun l hl => allLL_lnB (leastF_mem.1 hl).1, by unfold refL leastF; exact (allLL_pw h1 h3).filter _, refL_len h1 h3⟩
theorem refL_pos {wn q : Nat} {cs : List VC} : 0 < (refL wn q cs).length := by
 obtain ⟨l, hl, e⟩ := minF_mem (f := costF q cs) (allLL_ne (wn := wn))
 exact List.length_pos_of_mem (leastF_mem.2 ⟨hl, e⟩)
theorem befL_self : ∀ a : List Int, befL a a = false
 | [] => rfl
 | x :: xs => by rw [befL, if_pos rfl]; exact befL_self xs
end
section
open Go.RowKit Go.Lib Go.Maps
section
variable {wn : Nat} {cs : List VC}
theorem refC_le30 {A : Option Addr} {n : Nat} {w : World} {B : Nat} (hb : BkG wn A n cs w B) (q : Nat) : refC wn q cs ≤ 30 := by
 obtain ⟨l, hl, e⟩ := minF_mem (f := costF q cs) (allLL_ne (wn := wn))
 have h2 := cost1_le hb q l (by have := (allLL_mem hl).1; omega)
 show minF (costF q cs) (allLL wn) ≤ 30
 rw [← e]; exact h2
end
theorem BkG.head0 {wn : Nat} {A : Option Addr} {n : Nat} {cs : List VC} {w : World} {B : Nat} (h : BkG wn A n cs w B) : ∃ b off a0 k0, A = some ⟨b, off, none⟩ ∧ b < B ∧ w.cell? ⟨b, off, none⟩ = some (.slice a0 (headN cs) k0) := by
 obtain ⟨b, off, hz, e, hb, hc⟩ := h.2.2.2.1.atm (show 0 < n by have := h.2.1; omega)
 refine ⟨b, off, cs[0].A, cs[0].cap, e, hb, ?_⟩
 rw [Nat.add_zero] at hc
 rw [hc, ← (h.2.2.2.2.2.1 _ (List.getElem_mem hz)).1]; rfl
end
section
open Go.RowKit Go.Lib Go.Maps
theorem refL_ne {wn q : Nat} {cs : List VC} : refL wn q cs ≠ [] := fun e => by have := refL_pos (wn := wn) (q := q) (cs := cs); rw [e] at this; cases this
end
section
open Go.ChangeShapes Go.WideShapes Go.ChangeAt Go.RowKit Go.Deep Go.Lib
set_option maxRecDepth 100000
section
variable {H : Type} {enc : TypeId × Value → H} {w : World} {base : Nat} {spare : Nat → Bool} {held : Bool} {r : Reach} {b0 : Nat} {v : Value} {d : DataW H} {p : List MemPlace}
theorem law_num (hv : Value.okWide Tryz.prog w r b0 3 v) (h : DataW.Trod enc Tryz.prog w base spare held 3 v d p) : ∃ k : Int, v = .int .i64 k ∧ -9223372036854775808 ≤ k ∧ k ≤ 9223372036854775807 := by
 obtain ⟨k, rfl, rfl, rfl, wk⟩ := open_int Tryz.underlying3 hv h
 have := wk
 simp [Lit.wf, IntKind.min, IntKind.max, IntKind.signed, IntKind.bits] at this
 exact ⟨k, rfl, by omega, by omega⟩
end
end
section
open Go.RowKit Go.Lib Go.Maps
def TXI (w : World) (A : Option Addr) (n cap : Nat) (rs : List RI) : Prop := n ≤ cap ∧ cap ≤ maxLen ∧ Rd w w.heap.size 1 A n (rs.map RI.val) ∧ ∀ r ∈ rs, r.ok w w.heap.size
theorem TXI.len {w : World} {A : Option Addr} {n cap : Nat} {rs : List RI} (h : TXI w A n cap rs) : rs.length = n := by simpa using h.2.2.1.len
end
section
open Go.RowKit Go.Lib Go.Maps
theorem LL.txi {w : World} {v : Value} {ls : List (List Int)} (h : LL w v ls) : ∃ A n cap rs, v = .slice A n cap ∧ TXI w A n cap rs ∧ rs.map RI.ws = ls := by
 obtain ⟨A, n, cap, rs, rfl, h1, h2, _, hr, hok, hws⟩ := h
 exact ⟨A, n, cap, rs, rfl, ⟨h1, h2, hr, fun r hr => (hok r hr).1⟩, hws⟩
end
section
open Go.RowKit Go.Lib Go.Maps
theorem Same_T {w : World} {A1 A2 : Option Addr} {n1 c1 n2 c2 : Nat} {l : List Int} (h1 : IA w A1 n1 c1 l) (h2 : IA w A2 n2 c2 l) (k1 : n1 ≤ 6) (k2 : n2 ≤ 6) : Calls Tryz.prog 31 #[.slice A1 n1 c1, .slice A2 n2 c2] w fun e w' => e = .returned (.bool true) ∧ Below w.heap.size w w' := by
 have h := Same_I h1 h2 k1 k2
 rw [decide_eq_true rfl] at h
 exact h
end
section
open Go.RowKit Go.Lib Go.Maps
def lostV : VL := ⟨true, none, 0, 0, []⟩
def oneLs (q : Nat) (v : VL) (k : Nat) : List VL := (List.range k).map fun j => if j = q then v else lostV
theorem oneLs_succ (q : Nat) (v : VL) (k : Nat) : oneLs q v (k + 1) = oneLs q v k ++ [if k = q then v else lostV] := by unfold oneLs; rw [List.range_succ, List.map_append]; rfl
theorem oneLs_len (q : Nat) (v : VL) (k : Nat) : (oneLs q v k).length = k := by unfold oneLs; simp
theorem oneLs_get (q : Nat) (v : VL) {j k : Nat} (h : j < k) : (oneLs q v k)[j]? = some (if j = q then v else lostV) := by
 unfold oneLs; rw [List.getElem?_map, List.getElem?_range h]; rfl
theorem oneLs_mem {q : Nat} {v : VL} {k : Nat} {x : VL} (h : x ∈ oneLs q v k) : x = v ∨ x = lostV := by
 unfold oneLs at h
 obtain ⟨j, _, e⟩ := List.mem_map.1 h
 by_cases hj : j = q
 ·rw [if_pos hj] at e; exact .inl e.symm
 ·rw [if_neg hj] at e; exact .inr e.symm
theorem headN_app {cs : List VC} (h : 0 < cs.length) (c : VC) : headN (cs ++ [c]) = headN cs := by cases cs with | nil => cases h | cons a b => rfl
theorem book_app {W : Int} {cs : List VC} (h : bookB W cs = true) (h0 : 0 < cs.length) (hn : cs.length < 5) (c : VC) (hc : c.ls.length = headN cs) (hv : ∀ v ∈ c.ls, vlB W v = true) : bookB W (cs ++ [c]) = true := by
 unfold bookB at h ⊢
 rw [headN_app h0]
 simp only [Bool.and_eq_true, List.all_eq_true, beq_iff_eq] at h ⊢
 obtain ⟨⟨⟨h1, h2⟩, h3⟩, h4⟩ := h
 refine ⟨⟨⟨h1, ?_⟩, h3⟩, fun x hx => ?_⟩
 ·unfold inB at h2 ⊢
  rw [List.length_append, List.length_singleton]
  simp only [Bool.and_eq_true, decide_eq_true_eq] at h2 ⊢
  omega
 ·rcases List.mem_append.1 hx with hx | hx
  ·exact h4 x hx
  ·rw [List.mem_singleton.1 hx]; exact ⟨hc, fun v hv' => hv v hv'⟩
theorem cost1_more (q : Nat) (l : List Int) (cs : List VC) {c : VC} {v : VL} (hc : c.ls[q]? = some v) (hv : v.lost = false) : cost1 q l (cs ++ [c]) = cost1 q l cs + ed l v.ws := by
 rw [cost1_snoc]; unfold costC; rw [hc]; simp [hv]
section
variable {wn q : Nat} {cs : List VC} {c : VC} {v : VL}
theorem more_ge (hc : c.ls[q]? = some v) (hv : v.lost = false) : refC wn q cs ≤ refC wn q (cs ++ [c]) := by
 obtain ⟨l, hl, e⟩ := minF_mem (f := costF q (cs ++ [c])) (L := allLL wn) allLL_ne
 have h1 : refC wn q cs ≤ costF q cs l := minF_le hl
 have h2 : costF q (cs ++ [c]) l = costF q cs l + ed l v.ws := cost1_more q l cs hc hv
 show refC wn q cs ≤ minF (costF q (cs ++ [c])) (allLL wn)
 rw [← e, h2]; omega
theorem more_le (hc : c.ls[q]? = some v) (hv : v.lost = false) {l : List Int} (hl : l ∈ refL wn q cs) : refC wn q (cs ++ [c]) ≤ refC wn q cs + ed l v.ws := by
 obtain ⟨h1, h2⟩ := leastF_mem.1 hl
 have h3 : refC wn q (cs ++ [c]) ≤ costF q (cs ++ [c]) l := minF_le h1
 have h4 : costF q (cs ++ [c]) l = costF q cs l + ed l v.ws := cost1_more q l cs hc hv
 have h5 : refC wn q cs = minF (costF q cs) (allLL wn) := rfl
 rw [h4, h2, ← h5] at h3
 exact h3
theorem b89_irr (a : List Int) : b89 a a = false := by unfold b89; rw [if_pos rfl]; exact befL_self a
theorem all_eq_one {L : List (List Int)} {x : List Int} (hne : L ≠ []) (hp : L.Pairwise fun a b => b89 a b = true) (h : ∀ l ∈ L, l = x) : L = [x] := by
 match L, hne, hp, h with
 | [a], _, _, h => rw [h a (by simp)]
 | a :: b :: L, _, hp, h =>
  have h1 := (List.pairwise_cons.1 hp).1 b (by simp)
  rw [h a (by simp), h b (by simp), b89_irr] at h1
  cases h1
theorem more_only (h1 : 1 ≤ wn) (h3 : wn ≤ 3) (hc : c.ls[q]? = some v) (hv : v.lost = false) (hm : v.ws ∈ refL wn q cs) : refC wn q (cs ++ [c]) = refC wn q cs ∧ refL wn q (cs ++ [c]) = [v.ws] := by
 have e1 : refC wn q (cs ++ [c]) = refC wn q cs := by
  have h4 := more_le (wn := wn) hc hv hm
  rw [ed_self] at h4
  have h5 := more_ge (wn := wn) (cs := cs) hc hv
  omega
 refine ⟨e1, all_eq_one refL_ne (refL_good h1 h3).2.1 fun l hl => ?_⟩
 obtain ⟨g1, g2⟩ := leastF_mem.1 hl
 have g3 : refC wn q (cs ++ [c]) = minF (costF q (cs ++ [c])) (allLL wn) := rfl
 have g4 : costF q (cs ++ [c]) l = costF q cs l + ed l v.ws := cost1_more q l cs hc hv
 have g5 : refC wn q cs ≤ costF q cs l := minF_le g1
 rw [← g3, e1, g4] at g2
 exact ed_zero (by omega)
end
end
section
open Go.RowKit Go.Lib Go.Maps
theorem lostV_ok (w : World) (B : Nat) : lostV.ok w B := ⟨Nat.le_refl _, Nat.zero_le _, rfl, fun h => absurd h (Nat.lt_irrefl _)⟩
theorem BkI.app {w : World} {A A5 A0 : Option Addr} {n cap c5 L c0 b5 b0 : Nat} {cs : List VC} {ls : List VL} (h : BkI w A n cap cs) (ho : w.ownsRow b5 77 1 (.slice A5 (n + 1) c5) (n + 1) (cs.map VC.val ++ [.slice A0 L c0])) (hr : w.ownsRow b0 76 2 (.slice A0 L c0) L (ls.flatMap VL.cells)) (hl : ∀ v ∈ ls, v.ok w w.heap.size) : BkI w A5 (n + 1) c5 (cs ++ [⟨A0, L, c0, ls⟩]) := by
 refine ⟨own_le0 ho, own_cap ho, ?_, fun c hc => ?_⟩
 ·rw [List.map_append]; exact Rd.of_own ho
 ·rcases List.mem_append.1 hc with hc | hc
  ·exact h.2.2.2 c hc
  ·rw [List.mem_singleton.1 hc]
   exact ⟨own_le0 hr, own_cap hr, hl, Rd.of_own hr⟩
theorem more_law (W : Int) (A : Option Addr) (n cap : Nat) (cs : List VC) (q : Int) (A1 : Option Addr) (n1 c1 : Nat) (l1 : List Int) (m : Int) (w : World) (hE : Env m w) (h : BkI w A n cap cs) (hq1 : -9223372036854775808 ≤ q) (hq2 : q ≤ 9223372036854775807) (h1 : IA w A1 n1 c1 l1) :
  Calls Tryz.prog 19 #[.agg #[.int .i64 W, .slice A n cap], .int .i64 q, .slice A1 n1 c1] w fun e w' => e = .returned (.bool true) ∧ Below w.heap.size w w' := by
 have hX := Blk.new w 24 #[.int .i64 W, .slice A n cap]
 have hB : Below w.heap.size w (w.alloc (.cells #[.int .i64 W, .slice A n cap] 24)) := (Below.refl _ w).alloc (Nat.le_refl _) _
 have qX := fun i => hX.cell i
 go_enter Tryz.func19, Tryz.ntmps19
 go_wp2_with fail
 refine (right_any (h.toW hB)).mono ?_; rintro e wc ⟨⟨b, rfl, hrb⟩, hb⟩
 replace hB := hB.trans (hb.mono hB.size); replace hX := hX.below hb hX.lt; clear hb qX; have qX := fun i => hX.cell i
 cases b with
 | false =>
  go_wp2_with fail
  refine (known_true m _ (hE.below hB)).mono ?_; rintro e wc ⟨rfl, hb⟩
  replace hB := hB.trans (hb.mono hB.size); clear hb
  go_wp2_with fail
  go_ret
  exact ⟨rfl, hB⟩
 | true =>
  have hbk := hrb rfl; clear hrb
  obtain ⟨wn, rfl, hG⟩ := BkG.of_book hbk h.2.2.1 h.2.2.2
  have hn5 := hG.2.1; have hL4 := hG.2.2.1; have hw3 := hG.1
  have hrn := fun (wx : World) (hx : Below w.heap.size w wx) => refNumber_any (wn : Int) q A n cap cs wx hn5.1 (h.toW hx).2.2.1 (h.toW hx).2.2.2 (by omega)
  have hrl := fun (wx : World) (hx : Below w.heap.size w wx) => refLine_any (wn : Int) A n cap A1 n1 c1 l1 wx (by omega) (by omega) h1.max (h1.toW hx).2.2
  cases hkq : inB q 0 ((headN cs : Int) - 1) with
  | false =>
   simp only [hkq] at hrn
   have HRN := Lib.hid hrn; clear hrn hrl
   go_wp2_with fail
   refine (HRN.out _ hB).mono ?_; rintro e wc ⟨rfl, hb⟩
   replace hB := hB.trans (hb.mono hB.size); replace hX := hX.below hb hX.lt; clear hb qX; have qX := fun i => hX.cell i
   go_wp2_with fail
   refine (known_true m _ (hE.below hB)).mono ?_; rintro e wc ⟨rfl, hb⟩
   replace hB := hB.trans (hb.mono hB.size); clear hb
   go_wp2_with fail
   go_ret
   exact ⟨rfl, hB⟩
  | true =>
   simp only [hkq] at hrn
   have hq3 : 0 ≤ q ∧ q ≤ (headN cs : Int) - 1 := by simpa [inB] using hkq
   obtain ⟨p, rfl⟩ : ∃ p : Nat, q = p := ⟨q.toNat, by omega⟩
   have hp : p < headN cs := by omega
   have HRN := Lib.hid hrn; clear hrn
   by_cases h7 : (6 : Int) < n1
   ·skip
    go_wp2_with fail
    refine (HRN.out _ hB).mono ?_; rintro e wc ⟨rfl, hb⟩
    replace hB := hB.trans (hb.mono hB.size); replace hX := hX.below hb hX.lt; clear hb qX; have qX := fun i => hX.cell i
    go_wp2_with fail
    refine (known_true m _ (hE.below hB)).mono ?_; rintro e wc ⟨rfl, hb⟩
    replace hB := hB.trans (hb.mono hB.size); clear hb
    go_wp2_with fail
    go_ret
    exact ⟨rfl, hB⟩
   ·skip
    cases hkl : lnB (wn : Int) l1 with
    | false =>
     simp only [hkl] at hrl
     have HRL := Lib.hid hrl; clear hrl
     go_wp2_with fail
     refine (HRN.out _ hB).mono ?_; rintro e wc ⟨rfl, hb⟩
     replace hB := hB.trans (hb.mono hB.size); replace hX := hX.below hb hX.lt; clear hb qX; have qX := fun i => hX.cell i
     go_wp2_with fail
     refine (HRL.out _ hB).mono ?_; rintro e wc ⟨rfl, hb⟩
     replace hB := hB.trans (hb.mono hB.size); replace hX := hX.below hb hX.lt; clear hb qX; have qX := fun i => hX.cell i
     go_wp2_with fail
     refine (known_true m _ (hE.below hB)).mono ?_; rintro e wc ⟨rfl, hb⟩
     replace hB := hB.trans (hb.mono hB.size); clear hb
     go_wp2_with fail
     go_ret
     exact ⟨rfl, hB⟩
    | true =>
     simp only [hkl] at hrl
     have HRL := Lib.hid hrl; clear hrl
     by_cases h5 : (5 : Int) ≤ n
     ·skip
      go_wp2_with fail
      refine (HRN.out _ hB).mono ?_; rintro e wc ⟨rfl, hb⟩
      replace hB := hB.trans (hb.mono hB.size); replace hX := hX.below hb hX.lt; clear hb qX; have qX := fun i => hX.cell i
      go_wp2_with fail
      refine (HRL.out _ hB).mono ?_; rintro e wc ⟨rfl, hb⟩
      replace hB := hB.trans (hb.mono hB.size); replace hX := hX.below hb hX.lt; clear hb qX; have qX := fun i => hX.cell i
      go_wp2_with fail
      refine (known_true m _ (hE.below hB)).mono ?_; rintro e wc ⟨rfl, hb⟩
      replace hB := hB.trans (hb.mono hB.size); clear hb
      go_wp2_with fail
      go_ret
      exact ⟨rfl, hB⟩
     ·skip
      obtain ⟨i76, gi, gz0, gz1, gz2⟩ := info_parts info76
      obtain ⟨i77, fi, fz0, fz1, fz2⟩ := info_parts info77
      obtain ⟨bb, off, a0, k0, rfl, hbw, hcell⟩ := hG.head0
      have hls := fun (wx : World) (hx : Below w.heap.size w wx) => Least_I (cap := cap) (q := p) (w := wx) (hG.toW hx) hbk hp
      have hli := fun (v : Value) (wx : World) (hx : Below w.heap.size w wx) (hv : LL wx v (refL wn p cs)) => lawlines_any (h.toW hx) hbk hv (refL_good hw3.1 hw3.2).1 (refL_good hw3.1 hw3.2).2.1 (refL_good hw3.1 hw3.2).2.2
      have hch := fun (wx : World) (hx : Below w.heap.size w wx) (Ax : Option Addr) (nx cx : Nat) (lx : List Int) (hxx : IA wx Ax nx cx lx) (kx : lnB (wn : Int) lx = true) => Changes_I (h.toW hx) hbk hxx (h1.toW hx) kx hkl
      have h30 := refC_le30 hG p
      have hn0 : (0 : Int) < n := by omega
      have hl4 := lnB_len hkl
      have hn14 : n1 ≤ 6 := by omega
      obtain ⟨LL0, hLe⟩ : ∃ z, z = headN cs := ⟨_, rfl⟩
      rw [← hLe] at hcell hp hL4
      have hcl5 : cs.length ≤ 4 ∧ 1 ≤ cs.length := by have := hG.len; omega
      have HLS := Lib.hid hls; have HLI := Lib.hid hli; have HCH := Lib.hid hch; have HLe := Lib.hid hLe; have HG := Lib.hid hG; have HBK := Lib.hid hbk; have HKL := Lib.hid hkl; have HI := Lib.hid h; have H1 := Lib.hid h1
      clear hls hli hch hLe hG hbk hkl h h1 hq1 hq2 hq3 hkq
      go_wp2_with fail
      refine (HRN.out _ hB).mono ?_; rintro e wc ⟨rfl, hb⟩
      replace hB := hB.trans (hb.mono hB.size); replace hX := hX.below hb hX.lt; clear hb qX; have qX := fun i => hX.cell i
      go_wp2_with fail
      refine (HRL.out _ hB).mono ?_; rintro e wc ⟨rfl, hb⟩
      replace hB := hB.trans (hb.mono hB.size); replace hX := hX.below hb hX.lt; clear hb qX; have qX := fun i => hX.cell i
      have hS0 := Blk.new wc 24 #[.int .i64 0, .slice none 0 0]; have q24 := fun i => hS0.cell i; have f24 := fun i => hS0.frozen i; have l24 := hS0.lt
      go_wp2_with fail
      have hY := Blk.new wc 24 #[.int .i64 (wn : Int), .slice (some ⟨bb, off, none⟩) n cap]
      have hKeep : Below wc.heap.size wc (wc.alloc (.cells #[.int .i64 (wn : Int), .slice (some ⟨bb, off, none⟩) n cap] 24)) := (Below.refl _ wc).alloc (Nat.le_refl _) _
      have hsY := hX.lt
      replace hB := hB.trans (hKeep.mono hB.size); replace hX := hX.below hKeep hX.lt
      clear hKeep hS0 q24 f24 l24 qX
      generalize wc.alloc (.cells #[.int .i64 (wn : Int), .slice (some ⟨bb, off, none⟩) n cap] 24) = W6 at *
      generalize wc.heap.size = sY at hY hsY ⊢
      go_loopg [8, 9] LL0 (fun g v i wr => ∃ (k : Nat) (v0 : Value), g = LL0 - k ∧ k ≤ LL0 ∧ v = v0 ∧ i = .int .i64 k ∧ wr.ownsRow W6.heap.size 76 2 v0 k ((oneLs p ⟨false, A1, n1, c1, l1⟩ k).flatMap VL.cells) ∧ Below W6.heap.size W6 wr)
      case atStart => exact ⟨0, _, rfl, Nat.zero_le _, rfl, rfl, World.ownsRow_nil _ _ _ _, Below.refl _ _⟩
      case round =>
       obtain ⟨k, v0, hg, hk, rfl, rfl, hown, hB6⟩ := hrel
       rename World => wr
       obtain ⟨oa, oc, rfl⟩ := own_slice hown
       have HG1 := Lib.hid hg; clear hg
       have hBr := hB.trans (hB6.mono hB.size)
       have hX6 := hX.below hB6 hX.lt
       have qX := fun i => hX6.cell i
       have hc0 := (hBr.cell (p := ⟨bb, off, none⟩) hbw).trans hcell
       by_cases hkt : k < LL0
       ·have hkti : (k : Int) < LL0 := by omega
        have hsu := oneLs_succ p ⟨false, A1, n1, c1, l1⟩ k
        have hfm : ∀ (x : VL), (oneLs p ⟨false, A1, n1, c1, l1⟩ k ++ [x]).flatMap VL.cells = (oneLs p ⟨false, A1, n1, c1, l1⟩ k).flatMap VL.cells ++ [.bool x.lost, .slice x.A x.n x.cap] := fun x => by rw [List.flatMap_append]; rfl
        have HSU := Lib.hid hsu; have HFM := Lib.hid hfm; clear hsu hfm
        generalize hxs : (oneLs p ⟨false, A1, n1, c1, l1⟩ k).flatMap VL.cells = xs at *
        have HXS := Lib.hid hxs; clear hxs
        go_wp2_with fail
        refine (lost_any _).mono ?_; rintro e w1 ⟨rfl, hb⟩
        replace hown := ownsRow_below' hown hb; replace hB6 := hB6.trans (hb.mono hB6.size); clear hb hc0 qX hX6 hBr
        have hS0 := Blk.new w1 76 #[.bool false, .slice none 0 0]; have q76 := fun i => hS0.cell i; have f76 := fun i => hS0.frozen i; have l76 := hS0.lt
        have hwv : (Value.slice oa k oc).ownBlock = none ∨ (Value.slice oa k oc).ownBlock ≠ some w1.heap.size := .inr fun e => by have := (hown.lt _ e).2; omega
        have hs6 := hB6.size
        by_cases hkq : k = p
        ·subst hkq
         have hkk : ((k : Int) == (k : Int)) = true := by simp
         go_wp2_with fail
         have hT := Blk.new w1 76 #[.bool true, .slice none 0 0]
         refine (written_any A1 n1 c1 _).mono ?_; rintro e w2 ⟨rfl, hb⟩
         replace hown := ownsRow_below' (hown.alloc (.cells #[.bool true, .slice none 0 0] 76)) hb
         replace hB6 := (hB6.alloc hs6 (.cells #[.bool true, .slice none 0 0] 76)).trans (hb.mono (by simp only [World.size_alloc]; omega))
         replace hT := hT.below hb hT.lt
         clear hb hS0 q76 f76 l76 hkk
         have qT := fun i => hT.cell i; have fT := fun i => hT.frozen i; have lT := hT.lt
         go_upto_region 11 with (fail)
         have G : Blk ((w2.setCell ⟨w1.heap.size, 0, none⟩ (.bool false)).setCell ⟨w1.heap.size, 1, none⟩ (.slice A1 n1 c1)) w1.heap.size 76 #[.bool false, .slice A1 n1 c1] := by simpa using ((hT.set_ 0 (.bool false)).set_ 1 (.slice A1 n1 c1))
         replace hown := (hown.kept (grown_set w2 ⟨w1.heap.size, 0, none⟩ (.bool false)) hwv).kept (grown_set _ ⟨w1.heap.size, 1, none⟩ (.slice A1 n1 c1)) hwv
         replace hB6 := (hB6.setCell (p := ⟨w1.heap.size, 0, none⟩) hs6 (.bool false)).setCell (p := ⟨w1.heap.size, 1, none⟩) hs6 (.slice A1 n1 c1)
         clear qT fT lT hT
         generalize (w2.setCell ⟨w1.heap.size, 0, none⟩ (.bool false)).setCell ⟨w1.heap.size, 1, none⟩ (.slice A1 n1 c1) = W9 at *
         have qG := fun i => G.cell i
         have hs9 := hB6.size
         go_wp2_with (at_builtin; refine wpList_append_any _ rfl _ _ 77 rfl W6.heap.size 76 i76 (.agg #[.bool false, .slice none 0 0]) 2 32 Tryz.underlying77 gi gz0 gz1 gz2 rfl (by decide) (.slice oa k oc) k xs rfl (hown.alloc (.cells #[.bool false, .slice A1 n1 c1] 76)) (W9.heap.size + 1) (some ⟨W9.heap.size, 0, none⟩) 1 1 [.bool false, .slice A1 n1 c1] rfl (Rd.blkN (Blk.new W9 76 #[.bool false, .slice A1 n1 c1]) rfl (Nat.lt_succ_self _)).reads (fun u hu => by rcases (by simpa using hu : u = .bool false ∨ u = .slice A1 n1 c1) with rfl | rfl <;> rfl) (by unfold maxLen; omega) (by omega) (by simp only [World.size_alloc]; omega) (fun v3 w3 hown3 hg3 hob3 => ?_))
         have hoA := hown.alloc (.cells #[.bool false, .slice A1 n1 c1] 76)
         have hB7 := (hB6.alloc hs9 (.cells #[.bool false, .slice A1 n1 c1] 76)).grown hg3 (by simp only [World.size_alloc]; omega) (fun g hg => (hoA.lt g hg).1)
         clear qG G hown hoA hg3 hob3 hB6
         go_roundg (LL0 - (k + 1))
         case measure => rw [HG1.out]; omega
         case rel => exact ⟨k + 1, v3, rfl, by omega, rfl, by go_num, by rw [HSU.out, if_pos trivial, HFM.out]; exact hown3, hB7⟩
        ·have hkk : ((k : Int) == (p : Int)) = false := beq_false_of_ne (by omega)
         go_upto_region 11 with (fail)
         have G := Blk.new w1 76 #[.bool true, .slice none 0 0]
         replace hown := hown.alloc (.cells #[.bool true, .slice none 0 0] 76)
         replace hB6 := hB6.alloc hs6 (.cells #[.bool true, .slice none 0 0] 76)
         clear hS0 q76 f76 l76 hkk
         generalize w1.alloc (.cells #[.bool true, .slice none 0 0] 76) = W9 at *
         have qG := fun i => G.cell i
         have hs9 := hB6.size
         go_wp2_with (at_builtin; refine wpList_append_any _ rfl _ _ 77 rfl W6.heap.size 76 i76 (.agg #[.bool false, .slice none 0 0]) 2 32 Tryz.underlying77 gi gz0 gz1 gz2 rfl (by decide) (.slice oa k oc) k xs rfl (hown.alloc (.cells #[.bool true, .slice none 0 0] 76)) (W9.heap.size + 1) (some ⟨W9.heap.size, 0, none⟩) 1 1 [.bool true, .slice none 0 0] rfl (Rd.blkN (Blk.new W9 76 #[.bool true, .slice none 0 0]) rfl (Nat.lt_succ_self _)).reads (fun u hu => by rcases (by simpa using hu : u = .bool true ∨ u = .slice none 0 0) with rfl | rfl <;> rfl) (by unfold maxLen; omega) (by omega) (by simp only [World.size_alloc]; omega) (fun v3 w3 hown3 hg3 hob3 => ?_))
         have hoA := hown.alloc (.cells #[.bool true, .slice none 0 0] 76)
         have hB7 := (hB6.alloc hs9 (.cells #[.bool true, .slice none 0 0] 76)).grown hg3 (by simp only [World.size_alloc]; omega) (fun g hg => (hoA.lt g hg).1)
         clear qG G hown hoA hg3 hob3 hB6
         go_roundg (LL0 - (k + 1))
         case measure => rw [HG1.out]; omega
         case rel => exact ⟨k + 1, v3, rfl, by omega, rfl, by go_num, by rw [HSU.out, if_neg hkq, HFM.out]; exact hown3, hB7⟩
       ·have hkge : ¬ (k : Int) < LL0 := by omega
        obtain rfl : k = LL0 := by omega
        clear hk
        have hbs := (HI.out.toW hBr).2.2.1.reads
        have hone : ∀ u ∈ cs.map VC.val, u.oneCell' = true := fun u hu => by obtain ⟨c, _, rfl⟩ := List.mem_map.1 hu; rfl
        have hs6 := hB6.size
        go_upto_region 13 with (at_builtin; first
          | (refine wpList_append_any _ rfl _ _ 22 rfl wr.heap.size 77 i77 (.slice none 0 0) 1 24 Tryz.underlying22 fi fz0 fz1 fz2 rfl (by decide) (.slice pa n pc) n (cs.map VC.val) rfl ho5 (w4.heap.size + 1) (some ⟨w4.heap.size, 0, none⟩) 1 1 [.slice oa k oc] rfl (Rd.blkN (Blk.new w4 77 #[.slice oa k oc]) rfl (Nat.lt_succ_self _)).reads (by simp [Value.oneCell']) (by unfold maxLen; omega) (by omega) (by simp only [World.size_alloc]; omega) (fun v5 w5 hown5 hg5 hob5 => ?_); (obtain ⟨na, nc, rfl⟩ := own_slice hown5); (have hY6 := hY5.kept_own ho5 (by decide) hg5); (have qY := fun i => hY6.cell i); (have fY := fun i => hY6.frozen i); (have lY := hY6.lt); (have hX6' := hX5.kept_own ho5 (by decide) hg5); (have qX' := fun i => hX6'.cell i))
          | (refine wpList_append_any _ rfl _ _ 22 rfl wr.heap.size 77 i77 (.slice none 0 0) 1 24 Tryz.underlying22 fi fz0 fz1 fz2 rfl (by decide) (.slice none 0 0) 0 [] rfl (World.ownsRow_nil _ _ _ _) wr.heap.size (some ⟨bb, off, none⟩) n cap (cs.map VC.val) rfl hbs hone (by unfold maxLen; omega) (by omega) (Nat.le_refl _) (fun v4 w4 hown4 hg4 hob4 => ?_); (rw [Nat.zero_add, List.nil_append] at hown4); (obtain ⟨pa, pc, rfl⟩ := own_slice hown4); (have hX4 := hX6.grown hg4 (fun e => by cases e)); (have hB4 := hB6.grown hg4 hs6 (fun g hg => by cases hg)); (have hBW : Below wr.heap.size wr w4 := (Below.refl _ wr).grown hg4 (Nat.le_refl _) (fun g hg => by cases hg)); (have hY4 := hY.below (hB4.mono (Nat.le_refl _)) hY.lt); (have hsw := hBW.size); (have hs4 := hB4.size); (have hX5 := hX4.alloc (.cells #[.slice oa k oc] 77)); (have hY5 := hY4.alloc (.cells #[.slice oa k oc] 77)); (have ho5 := hown4.alloc (.cells #[.slice oa k oc] 77))))
        replace hown := hown.kept hg4 (own_ne hown (World.ownsRow_nil wr 0 77 1) (by decide))
        have hl5 := (hown.alloc (.cells #[.slice oa k oc] 77)).kept hg5 (own_ne (hown.alloc (.cells #[.slice oa k oc] 77)) ho5 (by decide))
        have hB5 := (hB4.alloc hs4 (.cells #[.slice oa k oc] 77)).grown hg5 (by simp only [World.size_alloc]; omega) (fun g hg => Nat.le_trans hs6 (ho5.lt g hg).1)
        clear hX4 hY4 hY5 hX5 ho5 hown hown4 hB4 hBW hg5 hg4 qX' hbs qX
        replace hB := (hB.trans (hB5.mono hB.size)).setCell (p := ⟨sY, 1, none⟩) (Nat.le_of_lt hsY) (.slice na (n + 1) nc)
        replace hX := hX6'.far (p := ⟨sY, 1, none⟩) (show w.heap.size ≠ sY by omega) (.slice na (n + 1) nc)
        have hy1 := own_blkL hown5 hY6 (by decide); have hy2 := own_blkL hl5 hY6 (by decide)
        replace hown5 := hown5.kept (grown_set w5 ⟨sY, 1, none⟩ (.slice na (n + 1) nc)) hy1
        replace hl5 := hl5.kept (grown_set w5 ⟨sY, 1, none⟩ (.slice na (n + 1) nc)) hy2
        replace hY : Blk (w5.setCell ⟨sY, 1, none⟩ (.slice na (n + 1) nc)) sY 24 #[.int .i64 (wn : Int), .slice na (n + 1) nc] := by simpa using hY6.set_ 1 (.slice na (n + 1) nc)
        clear hX6 hX6' hB6 hY6 qY fY lY hy1 hy2 hB5
        generalize w5.setCell ⟨sY, 1, none⟩ (.slice na (n + 1) nc) = W8 at *
        have h1W := H1.out.toW hB
        have hnew := (HI.out.toW hB).app hown5 hl5 fun v hv => by
         rcases oneLs_mem hv with rfl | rfl
         ·exact ⟨h1W.1, h1W.2.1, h1W.2.2⟩
         ·exact lostV_ok _ _
        obtain ⟨c', hc'⟩ : ∃ c' : VC, c' = ⟨oa, k, oc, oneLs p ⟨false, A1, n1, c1, l1⟩ k⟩ := ⟨_, rfl⟩
        rw [← hc'] at hnew
        have hcl : c'.ls.length = headN cs := by rw [hc']; dsimp only; rw [oneLs_len, HLe.out]
        have hcq : c'.ls[p]? = some ⟨false, A1, n1, c1, l1⟩ := by rw [hc']; dsimp only; rw [oneLs_get _ _ hp, if_pos rfl]
        have hbk2 : bookB (wn : Int) (cs ++ [c']) = true := book_app HBK.out (by omega) (by omega) c' hcl fun v hv => by
         rw [hc'] at hv
         rcases oneLs_mem hv with rfl | rfl
         ·unfold vlB; rw [HKL.out]; rfl
         ·unfold vlB lostV lnB; rfl
        obtain ⟨wn2, hwe, hG2⟩ := BkG.of_book hbk2 hnew.2.2.1 hnew.2.2.2
        obtain rfl : wn = wn2 := by omega
        have hp2 : p < headN (cs ++ [c']) := by rw [headN_app (by omega), ← HLe.out]; exact hp
        have hls2 := fun (wx : World) (hx : Below W8.heap.size W8 wx) => Least_I (cap := nc) (q := p) (w := wx) (hG2.toW hx) hbk2 hp2
        have hli2 := fun (v : Value) (wx : World) (hx : Below w.heap.size w wx) (hv : LL wx v (refL wn p (cs ++ [c']))) => lawlines_any (HI.out.toW hx) HBK.out hv (refL_good hw3.1 hw3.2).1 (refL_good hw3.1 hw3.2).2.1 (refL_good hw3.1 hw3.2).2.2
        have hge : refC wn p cs ≤ refC wn p (cs ++ [c']) := more_ge hcq rfl
        have hmle := fun (l : List Int) (hl : l ∈ refL wn p cs) => more_le (wn := wn) hcq rfl hl
        have honly := fun hm => more_only (wn := wn) (q := p) (cs := cs) hw3.1 hw3.2 hcq rfl hm
        dsimp only at hmle honly
        have hgood := (refL_good (wn := wn) (q := p) (cs := cs) hw3.1 hw3.2)
        generalize refC wn p (cs ++ [c']) = RC2 at *
        generalize refL wn p (cs ++ [c']) = RL2 at *
        generalize refC wn p cs = RC at *
        generalize refL wn p cs = RL at *
        have HLS2 := Lib.hid hls2; have HLI2 := Lib.hid hli2; have HMLE := Lib.hid hmle; have HONLY := Lib.hid honly; have HGOOD := Lib.hid hgood
        clear hls2 hli2 hmle honly hgood hG2 hnew hown5 hl5 hbk2 hcq hcl hc' hwe hp2 h1W hc0 hcell hBr
        have hB8 := Below.refl W8.heap.size W8
        have hnn1 : ¬ (RC : Int) < 0 := by omega
        have hnn2 : ¬ (100 : Int) < RC := by omega
        have hnn3 : ¬ (RC2 : Int) < RC := by omega
        have hnn4 : decide (RC2 < RC) = false := decide_eq_false (by omega)
        have hnn5 : ¬ RC2 < RC := by omega
        have qX := fun i => hX.cell i; have qY := fun i => hY.cell i
        go_wp2_with fail
        refine (HLS.out _ hB).mono ?_; rintro e wc ⟨⟨u, rfl, hU⟩, hb⟩
        replace hB := hB.trans (hb.mono hB.size); replace hX := hX.below hb hX.lt; replace hY := hY.below hb hY.lt; replace hB8 := hB8.trans (hb.mono hB8.size); clear hb qX; have qX := fun i => hX.cell i
        have qY := fun i => hY.cell i
        go_wp2_with fail
        refine (HLS2.out _ hB8).mono ?_; rintro e wc ⟨⟨u2, rfl, hV⟩, hb⟩
        replace hB := hB.trans (hb.mono hB.size); replace hX := hX.below hb hX.lt; replace hY := hY.below hb hY.lt; replace hB8 := hB8.trans (hb.mono hB8.size); replace hU := hU.below hb; clear hb qX; have qX := fun i => hX.cell i
        have qY := fun i => hY.cell i
        go_wp2_with fail
        refine (HLI.out _ _ hB hU).mono ?_; rintro e wc ⟨rfl, hb⟩
        replace hB := hB.trans (hb.mono hB.size); replace hX := hX.below hb hX.lt; replace hY := hY.below hb hY.lt; replace hB8 := hB8.trans (hb.mono hB8.size); replace hU := hU.below hb; replace hV := hV.below hb; clear hb qX; have qX := fun i => hX.cell i
        have qY := fun i => hY.cell i
        go_wp2_with fail
        refine (HLI2.out _ _ hB hV).mono ?_; rintro e wc ⟨rfl, hb⟩
        replace hB := hB.trans (hb.mono hB.size); replace hX := hX.below hb hX.lt; replace hY := hY.below hb hY.lt; replace hB8 := hB8.trans (hb.mono hB8.size); replace hU := hU.below hb; replace hV := hV.below hb; clear hb qX; have qX := fun i => hX.cell i
        have qY := fun i => hY.cell i
        clear hnn1 hnn2 hnn3 hnn5
        obtain ⟨xA, xn, xc, xs, rfl, hxT, hxe⟩ := hU.txi
        have hxl := hxT.len
        have hxm : xn ≤ 121 := by have h9 := HGOOD.out.2.2; rw [← hxe, List.length_map, hxl] at h9; exact h9
        have hrow : ∀ j, j < xn → ∃ b9 o9 jA jn jc l, xA = some ⟨b9, o9, none⟩ ∧ b9 < wc.heap.size ∧ l ∈ RL ∧ wc.cell? ⟨b9, o9 + j, none⟩ = some (.slice jA jn jc) ∧ IA wc jA jn jc l ∧ lnB (wn : Int) l = true := fun j hj => by
         obtain ⟨b9, o9, hz9, e9, hb9, hc9⟩ := hxT.2.2.1.atm hj
         have hzj : j < xs.length := by rw [hxl]; exact hj
         have hok := hxT.2.2.2 _ (List.getElem_mem hzj)
         have hl : xs[j].ws ∈ RL := by rw [← hxe]; exact List.mem_map_of_mem (List.getElem_mem hzj)
         refine ⟨b9, o9, xs[j].A, xs[j].n, xs[j].cap, xs[j].ws, e9, hb9, hl, ?_, ⟨hok.1, hok.2.1, hok.2.2⟩, HGOOD.out.1 _ hl⟩
         rw [hc9]; rfl
        have HROW := Lib.hid hrow; clear hrow hxe hxl hxT
        go_wp2_with fail
        go_loopg [17] xn (fun g i wr => ∃ j : Nat, g = xn - j ∧ j ≤ xn ∧ i = .int .i64 j ∧ Below wc.heap.size wc wr)
        case atStart => exact ⟨0, rfl, Nat.zero_le _, rfl, Below.refl _ _⟩
        case round =>
         obtain ⟨j, hg, hj, rfl, hBx⟩ := hrel
         rename World => wx
         have HG3 := Lib.hid hg; clear hg
         by_cases hjt : j < xn
         ·have hjti : (j : Int) < xn := by omega
          obtain ⟨b9, o9, jA, jn, jc, l, rfl, hb9, hlR, hcj, hIJ, hlj⟩ := HROW.out j hjt
          have hmj := HMLE.out l hlR
          have hE4 : ed l l1 ≤ 4 := by have e1 := ed_le l l1; have e2 := lnB_len hlj; omega
          have hBy := hB.trans (hBx.mono hB.size)
          have hcc := fun (z : Blw wx.heap.size wx) => HCH.out z.toW (hBy.trans (z.h.mono hBy.size)) jA jn jc l ((hIJ.toW hBx).toW z.h) hlj
          have HCC := Lib.hid hcc
          generalize ed l l1 = t at *
          have hti : (t : Int) ≤ 4 := by omega
          have htg : ¬ (4 : Int) < t := by omega
          have hgt : ¬ ((RC : Int) + t) < RC2 := by omega
          have hcj2 := (hBx.cell (p := ⟨b9, o9 + j, none⟩) hb9).trans hcj
          have hb92 := Nat.lt_of_lt_of_le hb9 hBx.size
          have hX8 := hX.below hBx hX.lt
          have hq1 := fun (z : Blw wx.heap.size wx) i => blw_blk hX8 z i
          have hq2 := fun (z : Blw wx.heap.size wx) => ((Blw.h z).cell (p := ⟨b9, o9 + j, none⟩) hb92).trans hcj2
          have hlX := hX8.lt
          clear hcc hIJ hcj hmj qX qY
          go_upto_region 20 with (fail)
          refine wp_region_blw (by kernel_rfl) (by kernel_rfl) ?_
          repeat (go_big_quiet_step (fail))
          go_big_quiet_step ((go_at_call 26; exact Calls.blw_of _ (HCC.out _)))
          repeat (go_big_quiet_step (fail))
          refine wpQuiet_nil ?_
          rintro W5 ⟨⟨_, hb5⟩, rfl⟩
          clear hq1 hq2 HCC hlX hX8 hcj2 hb92
          go_wp2_with fail
          go_roundg (xn - (j + 1))
          case measure => rw [HG3.out]; omega
          case rel => exact ⟨j + 1, rfl, by omega, by go_num, hBx.trans (hb5.mono hBx.size)⟩
         ·have hjge : ¬ (j : Int) < xn := by omega
          replace hU := hU.below hBx; replace hV := hV.below hBx; replace hX := hX.below hBx hX.lt; replace hB := hB.trans (hBx.mono hB.size)
          have hI1 := H1.out.toW hB
          clear hBx qX qY hY hB8
          have qX := fun i => hX.cell i
          have hn1m : n1 ≤ 1000000 := by omega
          go_wp2_with fail
          refine (met_any _ _ _ _ hU hI1 hn1m).mono ?_; rintro e w9 ⟨rfl, hb⟩
          replace hV := hV.below hb; replace hX := hX.below hb hX.lt; replace hI1 := hI1.toW hb; replace hB := hB.trans (hb.mono hB.size); clear hb qX
          have qX := fun i => hX.cell i
          by_cases hm : l1 ∈ RL
          ·have hmd : decide (l1 ∈ RL) = true := decide_eq_true hm
           obtain ⟨e1, e2⟩ := HONLY.out hm
           subst e2
           have hRR : ((RC2 : Int) == (RC : Int)) = true := by rw [e1]; simp
           obtain ⟨kA, kn, kc, ks, rfl, hkT, hke⟩ := hV.txi
           have hkn : kn = 1 := by have h9 := hkT.len; have h8 := congrArg List.length hke; rw [List.length_map] at h8; simp at h8; omega
           subst hkn
           obtain ⟨b9, o9, hz9, rfl, hb9, hc9⟩ := hkT.2.2.1.atm (show 0 < 1 by omega)
           have hzj : 0 < ks.length := by have := hkT.len; omega
           have hok := hkT.2.2.2 _ (List.getElem_mem hzj)
           have hkw : ks[0].ws = l1 := by
            have h8 := congrArg (fun L => L[0]?) hke
            simp only [List.getElem?_map, List.getElem?_eq_getElem hzj] at h8
            simpa using h8
           have hc92 : w9.cell? ⟨b9, o9 + 0, none⟩ = some (.slice ks[0].A ks[0].n ks[0].cap) := hc9
           have hK := (⟨hok.1, hok.2.1, hok.2.2⟩ : IA w9 ks[0].A ks[0].n ks[0].cap ks[0].ws)
           rw [hkw] at hK
           rw [Nat.add_zero] at hc92
           have hkl4 : ks[0].n ≤ 6 := by have := IA.len hK; omega
           clear hc9 hok hkw hkT hke hV
           generalize ks[0].A = kA0 at *
           generalize ks[0].n = kn0 at *
           generalize ks[0].cap = kc0 at *
           have h16 : n1 ≤ 6 := hn14
           have hsame := Same_T hK hI1 hkl4 h16
           have HSAME := Lib.hid hsame
           clear hsame hK hI1 hU hm hzj hz9
           go_wp2_with fail
           refine (HSAME.out).mono ?_; rintro e wd ⟨rfl, hb⟩
           replace hX := hX.below hb hX.lt; replace hB := hB.trans (hb.mono hB.size); clear hb qX HSAME hc92
           have qX := fun i => hX.cell i
           go_wp2_with fail
           refine (known_true m _ (hE.below hB)).mono ?_; rintro e wc ⟨rfl, hb⟩
           replace hB := hB.trans (hb.mono hB.size); clear hb
           go_wp2_with fail
           go_ret
           exact ⟨rfl, hB⟩
          ·have hmd : decide (l1 ∈ RL) = false := decide_eq_false hm
           go_wp2_with fail
           refine (known_true m _ (hE.below hB)).mono ?_; rintro e wc ⟨rfl, hb⟩
           replace hB := hB.trans (hb.mono hB.size); clear hb
           go_wp2_with fail
           go_ret
           exact ⟨rfl, hB⟩
end
end Go.Proofs.YtekmnelpkogppaaGreatDoor
