import Derived.Test.YtekmnelpkogppaaGreatDoorKx11
set_option linter.unusedVariables false
set_option linter.unusedSimpArgs false
set_option maxRecDepth 100000
set_option maxHeartbeats 40000000
namespace Go.Proofs.YtekmnelpkogppaaGreatDoor
section
open Go.RowKit Go.Lib
theorem refNumber_any (W l : Int) (A : Option Addr) (n cap : Nat) (cs : List VC) (w : World) (hn : 1 ≤ n) (hr : Rd w w.heap.size 1 A n (cs.map VC.val)) (hc : ∀ c ∈ cs, c.ok w w.heap.size) (hh : headN cs ≤ 100) :
  Calls Tryz.prog 45 #[.agg #[.int .i64 W, .slice A n cap], .int .i64 l] w fun e w' => e = .returned (.bool (inB l 0 (headN cs - 1))) ∧ Below w.heap.size w w' := by
 obtain ⟨b, off, hz, rfl, hb, hq⟩ := hr.atm (show 0 < n by omega)
 match cs, hz with
 | c :: rest, _ =>
  have hl := (hc c (by simp)).2.2.2.len2
  simp only [List.getElem_cons_zero, VC.val, Nat.add_zero] at hq
  have e : (headN (c :: rest) : Nat) = c.n := hl
  rw [e] at hh ⊢
  have hn0 : (0 : Int) < n := by omega
  clear hl e
  go_enter Tryz.func45, Tryz.ntmps45
  have hq2 := (World.cell?_alloc_lt w (.cells #[.int .i64 W, .slice (some ⟨b, off, none⟩) n cap] 24) ⟨b, off, none⟩ hb).trans hq
  go_wp2_with (go_at_call 85; refine (in_any _ _ _ _).mono ?_; rintro e w1 ⟨rfl, rfl⟩)
  go_ret
  exact ⟨rfl, (Below.refl _ w).alloc (Nat.le_refl _) _⟩
end
section
theorem ed_map {α β : Type} [DecidableEq α] [DecidableEq β] (f : α → β) : ∀ (a b : List α), (∀ x ∈ a, ∀ y ∈ b, f x = f y → x = y) → ed (a.map f) (b.map f) = ed a b
 | [], b, _ => by simp [ed_nil]
 | x :: xs, b, h => by
  have ih := fun b hb => ed_map f xs b hb
  induction b with
  | nil => simp [ed_nil_r]
  | cons y ys ihb =>
   rw [List.map_cons, List.map_cons, ed_cons, ed_cons, ← List.map_cons, ← List.map_cons]
   rw [ih ys (fun p hp q hq => h p (by simp [hp]) q (by simp [hq])), ih (y :: ys) (fun p hp q hq => h p (by simp [hp]) q hq), ihb (fun p hp q hq => h p hp q (by simp [hq]))]
   by_cases e : x = y
   ·rw [if_pos e, if_pos (by rw [e])]
   ·rw [if_neg e, if_neg (fun e2 => e (h x (by simp) y (by simp) e2))]
end
section
open Go.RowKit Go.Lib
theorem IA.toW {w w' : World} {A : Option Addr} {n cap : Nat} {l : List Int} (h : IA w A n cap l) (hb : Below w.heap.size w w') : IA w' A n cap l := ⟨h.1, h.2.1, rdB h.2.2 hb⟩
theorem IA.max {w : World} {A : Option Addr} {n cap : Nat} {l : List Int} (h : IA w A n cap l) : n ≤ maxLen := Nat.le_trans h.1 h.2.1
theorem IA.len {w : World} {A : Option Addr} {n cap : Nat} {l : List Int} (h : IA w A n cap l) : l.length = n := by simpa using h.2.2.len
theorem u8_inj {x y : Int} (hx : 0 ≤ x ∧ x ≤ 2) (hy : 0 ≤ y ∧ y ≤ 2) (e : UInt8.ofNat x.toNat = UInt8.ofNat y.toNat) : x = y := by
 have h := congrArg UInt8.toNat e
 simp only [UInt8.toNat_ofNat'] at h
 omega
theorem edB_int {a b : List Int} (ha : ∀ x ∈ a, 0 ≤ x ∧ x ≤ 2) (hb : ∀ x ∈ b, 0 ≤ x ∧ x ≤ 2) : edB (lbS a) (lbS b) = ed a b := by
 show ed (lbL a) (lbL b) = ed a b
 unfold lbL
 exact ed_map _ a b (fun x hx y hy e => u8_inj (ha x hx) (hb y hy) e)
theorem book_W {W : Int} {cs : List VC} (h : bookB W cs = true) : 1 ≤ W ∧ W ≤ 3 := by
 unfold bookB at h
 simp only [Bool.and_eq_true] at h
 simpa [inB] using h.1.1.1
section
variable {W : Int} {A : Option Addr} {n cap : Nat} {cs : List VC} {w : World} {A1 A2 : Option Addr} {n1 n2 c1 c2 : Nat} {l1 l2 : List Int}
theorem Line_I (h : BkI w A n cap cs) (hk : bookB W cs = true) (h1 : IA w A1 n1 c1 l1) : Calls Tryz.prog 28 #[.agg #[.int .i64 W, .slice A n cap], .slice A1 n1 c1] w fun e w' => e = .returned (.bool (lnB W l1)) ∧ Below w.heap.size w w' := refLine_any W A n cap A1 n1 c1 l1 w (by have := book_W hk; omega) (by have := book_W hk; omega) h1.max h1.2.2
theorem Changes_I (h : BkI w A n cap cs) (hk : bookB W cs = true) (h1 : IA w A1 n1 c1 l1) (h2 : IA w A2 n2 c2 l2) (k1 : lnB W l1 = true) (k2 : lnB W l2 = true) :
  Calls Tryz.prog 26 #[.agg #[.int .i64 W, .slice A n cap], .slice A1 n1 c1, .slice A2 n2 c2] w fun e w' => e = .returned (.tuple #[.int .i64 (ed l1 l2 : Nat), .int .i64 0]) ∧ Below w.heap.size w w' := by
 have h3 := Changes_yes W A n cap cs A1 n1 c1 l1 A2 n2 c2 l2 w h.max h.2.2.1 h.2.2.2 h1.max h1.2.2 h2.max h2.2.2 hk k1 k2
 rw [edB_int (ln_small (book_W hk) k1).2 (ln_small (book_W hk) k2).2] at h3
 exact h3
def RightB (W : Int) (cs : List VC) (e : Ending) : Prop := ∃ b : Bool, e = .returned (.bool b) ∧ (b = true → bookB W cs = true)
theorem right_any (h : BkI w A n cap cs) : Calls Tryz.prog 30 #[.agg #[.int .i64 W, .slice A n cap]] w fun e w' => RightB W cs e ∧ Below w.heap.size w w' := by
 have hX := Blk.new w 24 #[.int .i64 W, .slice A n cap]
 have hB : Below w.heap.size w (w.alloc (.cells #[.int .i64 W, .slice A n cap] 24)) := (Below.refl _ w).alloc (Nat.le_refl _) _
 have qX := fun i => hX.cell i
 go_enter Tryz.func30, Tryz.ntmps30
 go_wp2_with fail
 refine (short_any W A n cap cs _ (h.toW hB)).mono ?_; rintro e wc ⟨⟨b, rfl⟩, hb⟩
 replace hB := hB.trans (hb.mono hB.size); replace hX := hX.below hb hX.lt; clear hb qX; have qX := fun i => hX.cell i
 cases b with
 | false =>
  go_wp2_with fail
  go_ret
  exact ⟨⟨false, rfl, fun h => by cases h⟩, hB⟩
 | true =>
  have hbk := refBook_any W A n cap cs
  obtain ⟨R, hR⟩ : ∃ R, R = bookB W cs := ⟨_, rfl⟩
  rw [← hR] at hbk
  have HR := Lib.hid hR; clear hR
  go_wp2_with fail
  refine (hbk _ (h.toW hB)).mono ?_; rintro e wc ⟨rfl, hb⟩
  replace hB := hB.trans (hb.mono hB.size); clear hb qX
  go_wp2_with fail
  go_ret
  exact ⟨⟨R, rfl, fun h => by rw [← HR.out]; exact h⟩, hB⟩
end
end
section
open Go.RowKit Go.Lib
theorem lnB_len {W : Int} {l : List Int} (h : lnB W l = true) : l.length ≤ 4 := by
 unfold lnB at h
 simp only [Bool.and_eq_true, decide_eq_true_eq] at h
 exact h.1
end
section
open Go.RowKit Go.Lib
def allLL (wn : Nat) : List (List Int) := (List.range 5).flatMap fun k => allLs k wn
theorem allLL_mem {wn : Nat} {l : List Int} (h : l ∈ allLL wn) : l.length ≤ 4 ∧ ∀ x ∈ l, 0 ≤ x ∧ x < (wn : Int) := by
 obtain ⟨k, hk, hl⟩ := List.mem_flatMap.1 h
 obtain ⟨h1, h2⟩ := allLs_mem hl
 have := List.mem_range.1 hk
 exact ⟨by omega, h2⟩
theorem allLL_len {wn : Nat} (h1 : 1 ≤ wn) (h3 : wn ≤ 3) : (allLL wn).length ≤ 121 := by
 have : wn = 1 ∨ wn = 2 ∨ wn = 3 := by omega
 rcases this with rfl | rfl | rfl
 ·exact of_decide_eq_true (by kernel_rfl)
 ·exact of_decide_eq_true (by kernel_rfl)
 ·exact of_decide_eq_true (by kernel_rfl)
end
section
open Go.RowKit Go.Lib
theorem nwL_lbS {l : List Int} (h : ∀ x ∈ l, 0 ≤ x ∧ x ≤ 2) : nwL (lbS l) = l := by
 unfold nwL lbS lbL
 show (l.map fun x => UInt8.ofNat x.toNat).map (fun b => ((b.toNat : Nat) : Int)) = l
 rw [List.map_map]
 conv => rhs; rw [← List.map_id l]
 refine List.map_congr_left fun x hx => ?_
 have := h x hx
 simp only [Function.comp_apply, UInt8.toNat_ofNat', id]
 omega
theorem allLn_LL (wn : Nat) : allLn wn = (allLL wn).map lbS := by
 unfold allLn allLL
 rw [List.map_flatMap]
theorem allLL_small {wn : Nat} (h3 : wn ≤ 3) {l : List Int} (h : l ∈ allLL wn) : ∀ x ∈ l, 0 ≤ x ∧ x ≤ 2 := fun x hx => by
 have := (allLL_mem h).2 x hx
 omega
end
section
open Go.RowKit Go.Lib
def befL : List Int → List Int → Bool
 | [], b => decide (0 < b.length)
 | _ :: _, [] => false
 | x :: xs, y :: ys => if x = y then befL xs ys else decide (x < y)
def b89 (a b : List Int) : Bool := if a.length = b.length then befL a b else decide (a.length < b.length)
theorem befL_end : ∀ (a b : List Int) (_ : a = [] ∨ b = []), befL a b = decide (a.length < b.length)
 | [], b, _ => rfl
 | x :: xs, [], _ => by simp [befL]
 | x :: xs, y :: ys, h => by rcases h with h | h <;> cases h
theorem before_any (A : Option Addr) (n cap : Nat) (xs : List Int) (A2 : Option Addr) (n2 cap2 : Nat) (ys : List Int) (w : World) (h1 : IA w A n cap xs) (h2 : IA w A2 n2 cap2 ys) (hn : n ≤ 1000000) (hn2 : n2 ≤ 1000000) :
  Calls Tryz.prog 50 #[.slice A n cap, .slice A2 n2 cap2] w fun e w' => e = .returned (.bool (befL xs ys)) ∧ Below w.heap.size w w' := by
 have hl1 := h1.len; have hl2 := h2.len
 obtain ⟨R, hR⟩ : ∃ R, R = befL xs ys := ⟨_, rfl⟩
 rw [← hR]
 have H1 := Lib.hid h1; have H2 := Lib.hid h2; clear h1 h2
 go_enter Tryz.func50, Tryz.ntmps50
 go_wp2_with fail
 go_loopg [5] n (fun g i wr => ∃ k : Nat, g = n - k ∧ k ≤ n ∧ k ≤ n2 ∧ i = .int .i64 k ∧ Hid (R = befL (xs.drop k) (ys.drop k)) ∧ Below w.heap.size w wr)
 case atStart => exact ⟨0, rfl, Nat.zero_le _, Nat.zero_le _, rfl, Lib.hid hR, Below.refl _ _⟩
 case round =>
  clear hR
  obtain ⟨k, hg, hk, hk2, rfl, hpre, hB⟩ := hrel
  rename World => wr
  have HG := Lib.hid hg; clear hg
  by_cases hlt : k < n
  ·by_cases hlt2 : k < n2
   ·have hlti : (k : Int) < n := by omega
    have hlti2 : (k : Int) < n2 := by omega
    obtain ⟨b, off, hz, rfl, hb, hc1⟩ := (H1.out.toW hB).2.2.atm hlt
    obtain ⟨b2, off2, hz2, rfl, hb2, hc2⟩ := (H2.out.toW hB).2.2.atm hlt2
    have e1 : xs.drop k = xs[k] :: xs.drop (k + 1) := List.drop_eq_getElem_cons hz
    have e2 : ys.drop k = ys[k] :: ys.drop (k + 1) := List.drop_eq_getElem_cons hz2
    have hp := hpre.out
    rw [e1, e2, befL] at hp
    generalize xs[k] = x at *
    generalize ys[k] = y at *
    have HP := Lib.hid hp; clear hp e1 e2 hz hz2 hpre
    have hq1 := fun (p : Blw wr.heap.size wr) => ((Blw.h p).cell (p := ⟨b, off + k, none⟩) hb).trans hc1
    have hq2 := fun (p : Blw wr.heap.size wr) => ((Blw.h p).cell (p := ⟨b2, off2 + k, none⟩) hb2).trans hc2
    go_upto_region 4 with (fail)
    refine wp_region_blw (by kernel_rfl) (by kernel_rfl) ?_
    repeat (go_big_quiet_step (fail))
    refine wpQuiet_nil ?_
    rintro W3 ⟨⟨_, hb3⟩, rfl⟩
    clear hq1 hq2
    replace hc1 := (hb3.cell (p := ⟨b, off + k, none⟩) hb).trans hc1
    replace hc2 := (hb3.cell (p := ⟨b2, off2 + k, none⟩) hb2).trans hc2
    replace hb := Nat.lt_of_lt_of_le hb hb3.size
    replace hb2 := Nat.lt_of_lt_of_le hb2 hb3.size
    replace hB := hB.trans (hb3.mono hB.size)
    clear hb3
    by_cases hxy : x = y
    ·subst hxy
     have HP2 : Hid (R = befL (xs.drop (k + 1)) (ys.drop (k + 1))) := Lib.hid (by rw [HP.out, if_pos rfl])
     clear HP
     go_wp2_with fail
     go_roundg (n - (k + 1))
     case measure => rw [HG.out]; omega
     case rel => exact ⟨k + 1, rfl, by omega, by omega, by go_num, HP2, hB⟩
    ·have HP2 : Hid (R = decide (x < y)) := Lib.hid (by rw [HP.out, if_neg hxy])
     clear HP
     have hq1 := fun (p : Blw W3.heap.size W3) => ((Blw.h p).cell (p := ⟨b, off + k, none⟩) hb).trans hc1
     have hq2 := fun (p : Blw W3.heap.size W3) => ((Blw.h p).cell (p := ⟨b2, off2 + k, none⟩) hb2).trans hc2
     go_upto_region 5 with (fail)
     refine wp_region_blw (by kernel_rfl) (by kernel_rfl) ?_
     repeat (go_big_quiet_step (fail))
     refine wpQuiet_nil ?_
     rintro W4 ⟨⟨_, hb3⟩, rfl⟩
     go_wp2_with fail
     go_ret
     exact ⟨by rw [HP2.out]; rfl, hB.trans (hb3.mono hB.size)⟩
   ·have hge : ¬ (k : Int) < n2 := by omega
    have hlti : (k : Int) < n := by omega
    have hp := hpre.out
    rw [befL_end _ _ (.inr (List.drop_eq_nil_of_le (by omega))), List.length_drop, List.length_drop, hl1, hl2] at hp
    have hp2 : R = false := by rw [hp, decide_eq_false (by omega)]
    have hno : ¬ (n : Int) < n2 := by omega
    have HP := Lib.hid hp2; clear hp hp2 hpre
    go_wp2_with fail
    go_ret
    refine ⟨?_, hB⟩
    rw [HP.out]
    first | rfl | (show Ending.returned (.bool (decide ((n : Int) < n2))) = _; rw [decide_eq_false hno])
  ·have hge : ¬ (k : Int) < n := by omega
   have hp := hpre.out
   rw [befL_end _ _ (.inl (List.drop_eq_nil_of_le (by omega))), List.length_drop, List.length_drop, hl1, hl2] at hp
   have hp2 : R = decide (n < n2) := by rw [hp]; congr 1; apply propext; omega
   have HP := Lib.hid hp2; clear hp hp2 hpre
   go_wp2_with fail
   go_ret
   exact ⟨by rw [HP.out]; rfl, hB⟩
theorem before89_any (A : Option Addr) (n cap : Nat) (xs : List Int) (A2 : Option Addr) (n2 cap2 : Nat) (ys : List Int) (w : World) (h1 : IA w A n cap xs) (h2 : IA w A2 n2 cap2 ys) (hn : n ≤ 1000000) (hn2 : n2 ≤ 1000000) :
  Calls Tryz.prog 89 #[.slice A n cap, .slice A2 n2 cap2] w fun e w' => e = .returned (.bool (b89 xs ys)) ∧ Below w.heap.size w w' := by
 have hl1 := h1.len; have hl2 := h2.len
 by_cases he : n = n2
 ·subst he
  have e : b89 xs ys = befL xs ys := by unfold b89; rw [if_pos (by omega)]
  rw [e]
  have hc := before_any A n cap xs A2 n cap2 ys w h1 h2 hn hn2
  generalize befL xs ys = R at *
  have HC := Lib.hid hc; clear hc h1 h2 e hl1 hl2
  have hne : ((n : Int) != (n : Int)) = false := by simp
  go_enter Tryz.func89, Tryz.ntmps89
  go_wp2_with fail
  refine HC.out.mono ?_; rintro e w1 ⟨rfl, hb⟩
  go_wp2_with fail
  go_ret
  exact ⟨rfl, hb⟩
 ·have e : b89 xs ys = decide (n < n2) := by
   unfold b89; rw [if_neg (by omega)]; congr 1; apply propext; omega
  rw [e]
  clear h1 h2 e hl1 hl2
  go_enter Tryz.func89, Tryz.ntmps89
  go_wp2_with fail
  go_ret
  exact ⟨rfl, Below.refl _ _⟩
theorem met_any {v : Value} {ls : List (List Int)} {w : World} (A2 : Option Addr) (n2 cap2 : Nat) (x : List Int) (h : LL w v ls) (hx : IA w A2 n2 cap2 x) (hn2 : n2 ≤ 1000000) :
  Calls Tryz.prog 42 #[v, .slice A2 n2 cap2] w fun e w' => e = .returned (.bool (decide (x ∈ ls))) ∧ Below w.heap.size w w' := by
 obtain ⟨A, n, cap, rs, rfl, _, _, hn, hr, hok, hws⟩ := h
 have hl : rs.length = n := by simpa using hr.len
 obtain ⟨R, hR⟩ : ∃ R, R = decide (x ∈ ls) := ⟨_, rfl⟩
 rw [← hR]
 have HR := Lib.hid hR; have HX := Lib.hid hx; have HO := Lib.hid hok; have HL := Lib.hid hl; have HW := Lib.hid hws; clear hR hx hok hl hws
 go_enter Tryz.func42, Tryz.ntmps42
 go_wp2_with fail
 go_loopg [5] n (fun g i wr => ∃ k : Nat, g = n - k ∧ k ≤ n ∧ i = .int .i64 k ∧ Hid (∀ r ∈ rs.take k, r.ws ≠ x) ∧ Below w.heap.size w wr)
 case atStart => exact ⟨0, rfl, Nat.zero_le _, rfl, Lib.hid (fun r hr => absurd hr List.not_mem_nil), Below.refl _ _⟩
 case round =>
  obtain ⟨k, hg, hk, rfl, hpre, hB⟩ := hrel
  rename World => wr
  have HG := Lib.hid hg; clear hg
  by_cases hlt : k < n
  ·have hlti : (k : Int) < n := by omega
   obtain ⟨b, off, hz, rfl, hb, hc1⟩ := (rdB hr hB).atm hlt
   have hzr : k < rs.length := by simpa using hz
   have htk : rs.take (k + 1) = rs.take k ++ [rs[k]] := List.take_succ_eq_append_getElem hzr
   obtain ⟨o1, o2⟩ := HO.out _ (List.getElem_mem hzr)
   have hmem : rs[k].ws ∈ ls := by rw [← HW.out]; exact List.mem_map_of_mem (List.getElem_mem hzr)
   generalize rs[k] = y at *
   obtain ⟨yA, yn, yc, yw⟩ := y
   obtain ⟨-, -, o1⟩ := o1
   simp only [RI.val] at hc1 o1 o2 hmem
   have hsm := same_any yA yn yc yw A2 n2 cap2 x wr o2 hn2 ((o1.below hB).more hB.size) (HX.out.toW hB).2.2
   have HTK := Lib.hid htk; have HM := Lib.hid hmem; clear htk hmem hz hzr o1 o2
   cases hd : decide (yw = x) with
   | true =>
    rw [hd] at hsm
    have e : R = true := by rw [HR.out, ← of_decide_eq_true hd]; exact decide_eq_true HM.out
    subst e
    have HS := Lib.hid hsm; clear hsm hd HR
    go_wp2_with fail
    refine HS.out.mono ?_; rintro e w1 ⟨rfl, hb1⟩
    go_wp2_with fail
    go_ret
    exact ⟨rfl, hB.trans (hb1.mono hB.size)⟩
   | false =>
    rw [hd] at hsm
    have hne : yw ≠ x := of_decide_eq_false hd
    have HS := Lib.hid hsm; have HNE := Lib.hid hne; clear hsm hd hne
    go_wp2_with fail
    refine HS.out.mono ?_; rintro e w1 ⟨rfl, hb1⟩
    replace hB := hB.trans (hb1.mono hB.size); clear hb1
    go_wp2_with fail
    go_roundg (n - (k + 1))
    case measure => rw [HG.out]; omega
    case rel =>
     refine ⟨k + 1, rfl, by omega, by go_num, Lib.hid ?_, hB⟩
     rw [HTK.out]
     intro r hr
     rcases List.mem_append.1 hr with h | h
     ·exact hpre.out r h
     ·obtain rfl := List.mem_singleton.1 h
      exact HNE.out
  ·obtain rfl : k = n := by omega
   have hge : ¬ (k : Int) < k := by omega
   have e : R = false := by
    rw [HR.out, decide_eq_false_iff_not, ← HW.out]
    intro h
    obtain ⟨r, hr, rfl⟩ := List.mem_map.1 h
    exact hpre.out r (by rw [List.take_of_length_le (by rw [HL.out]; exact Nat.le_refl _)]; exact hr) rfl
   subst e
   clear HR hpre
   go_wp2_with fail
   go_ret
   exact ⟨rfl, hB⟩
end
section
open Go.RowKit Go.Lib
def wk (l : List Int) (k : Nat) (x : Int) : Nat := if l[k]? = some x then k + 1 else k
def wkAll (l line : List Int) : Nat := line.foldl (wk l) 0
def wtnB (l line : List Int) : Bool := decide (wkAll l line = l.length)
theorem wk_full (l : List Int) (k : Nat) (h : l.length ≤ k) : ∀ ys : List Int, ys.foldl (wk l) k = k
 | [] => rfl
 | y :: ys => by
  rw [List.foldl_cons, wk, List.getElem?_eq_none h, if_neg (by simp)]
  exact wk_full l k h ys
theorem within49_any (A : Option Addr) (n cap : Nat) (xs : List Int) (A2 : Option Addr) (n2 cap2 : Nat) (ys : List Int) (w : World) (h1 : IA w A n cap xs) (h2 : IA w A2 n2 cap2 ys) (hn : n ≤ 1000000) (hn2 : n2 ≤ 1000000) :
  Calls Tryz.prog 49 #[.slice A n cap, .slice A2 n2 cap2] w fun e w' => e = .returned (.bool (wtnB xs ys)) ∧ Below w.heap.size w w' := by
 have hl1 := h1.len; have hl2 := h2.len
 obtain ⟨R, hR⟩ : ∃ R, R = wkAll xs ys := ⟨_, rfl⟩
 have HR0 : Hid (wtnB xs ys = decide (R = n)) := Lib.hid (by rw [hR, ← hl1]; rfl)
 have H1 := Lib.hid h1; have H2 := Lib.hid h2; clear h1 h2
 go_enter Tryz.func49, Tryz.ntmps49
 go_wp2_with fail
 go_loopg [5, 6] n2 (fun g v i wr => ∃ j k : Nat, g = n2 - j ∧ j ≤ n2 ∧ k ≤ n ∧ v = .int .i64 k ∧ i = .int .i64 j ∧ Hid (R = (ys.drop j).foldl (wk xs) k) ∧ Below w.heap.size w wr)
 case atStart => exact ⟨0, 0, rfl, Nat.zero_le _, Nat.zero_le _, rfl, rfl, Lib.hid hR, Below.refl _ _⟩
 case round =>
  clear hR
  obtain ⟨j, k, hg, hj, hk, rfl, rfl, hpre, hB⟩ := hrel
  rename World => wr
  have HG := Lib.hid hg; clear hg
  by_cases hlt : j < n2
  ·by_cases hlk : k < n
   ·have hlti : (j : Int) < n2 := by omega
    have hlki : (k : Int) < n := by omega
    obtain ⟨b, off, hz, rfl, hb, hc1⟩ := (H1.out.toW hB).2.2.atm hlk
    obtain ⟨b2, off2, hz2, rfl, hb2, hc2⟩ := (H2.out.toW hB).2.2.atm hlt
    have e2 : ys.drop j = ys[j] :: ys.drop (j + 1) := List.drop_eq_getElem_cons hz2
    have hp := hpre.out
    rw [e2, List.foldl_cons, wk, List.getElem?_eq_getElem hz] at hp
    generalize xs[k] = x at *
    generalize ys[j] = y at *
    have HP := Lib.hid hp; clear hp e2 hz hz2 hpre
    have hq1 := fun (p : Blw wr.heap.size wr) => ((Blw.h p).cell (p := ⟨b, off + k, none⟩) hb).trans hc1
    have hq2 := fun (p : Blw wr.heap.size wr) => ((Blw.h p).cell (p := ⟨b2, off2 + j, none⟩) hb2).trans hc2
    go_upto_region 5 with (fail)
    refine wp_region_blw (by kernel_rfl) (by kernel_rfl) ?_
    repeat (go_big_quiet_step (fail))
    refine wpQuiet_nil ?_
    rintro W3 ⟨⟨_, hb3⟩, rfl⟩
    clear hq1 hq2
    replace hB := hB.trans (hb3.mono hB.size)
    clear hb3 hc1 hc2 hb hb2
    by_cases hxy : y = x
    ·subst hxy
     have HP2 : Hid (R = (ys.drop (j + 1)).foldl (wk xs) (k + 1)) := Lib.hid (by rw [HP.out, if_pos rfl])
     clear HP
     go_wp2_with fail
     go_roundg (n2 - (j + 1))
     case measure => rw [HG.out]; omega
     case rel => exact ⟨j + 1, k + 1, rfl, by omega, by omega, by go_num, by go_num, HP2, hB⟩
    ·have HP2 : Hid (R = (ys.drop (j + 1)).foldl (wk xs) k) := Lib.hid (by rw [HP.out, if_neg (fun h => hxy (Option.some.inj h).symm)])
     clear HP
     go_wp2_with fail
     go_roundg (n2 - (j + 1))
     case measure => rw [HG.out]; omega
     case rel => exact ⟨j + 1, k, rfl, by omega, hk, rfl, by go_num, HP2, hB⟩
   ·obtain rfl : k = n := by omega
    have hlti : (j : Int) < n2 := by omega
    have hge : ¬ (k : Int) < k := by omega
    have hp := hpre.out
    rw [wk_full _ _ (by omega)] at hp
    have HP := Lib.hid hp; clear hp hpre
    go_wp2_with fail
    go_ret
    exact ⟨by rw [HR0.out, HP.out, decide_eq_true rfl]; simp, hB⟩
  ·have hge : ¬ (j : Int) < n2 := by omega
   have hp := hpre.out
   rw [List.drop_eq_nil_of_le (by omega)] at hp
   have HP := Lib.hid hp; clear hp hpre
   go_wp2_with fail
   go_ret
   refine ⟨?_, hB⟩
   rw [HR0.out, HP.out]
   by_cases e : k = n
   ·subst e; simp
   ·have : ¬ (k : Int) = n := by omega
    simp [e, this]
end
section
open Go.RowKit Go.Lib
def costC (q : Nat) (l : List Int) (c : VC) : Nat := match c.ls[q]? with | some v => if v.lost then 0 else ed l v.ws | none => 0
def cost1 (q : Nat) (l : List Int) (cs : List VC) : Nat := (cs.map (costC q l)).sum
theorem cost1_snoc (q : Nat) (l : List Int) (cs : List VC) (c : VC) : cost1 q l (cs ++ [c]) = cost1 q l cs + costC q l c := by unfold cost1; simp
end
section
open Go.RowKit Go.Lib
theorem cost1_le {wn : Nat} {A : Option Addr} {n : Nat} {cs : List VC} {w : World} {B : Nat} (hb : BkG wn A n cs w B) (q : Nat) (l : List Int) (hl : l.length ≤ 6) : cost1 q l cs ≤ 30 := by
 have h1 : ∀ c ∈ cs, costC q l c ≤ 6 := fun c hc => by
  unfold costC
  split
  ·rename_i v hv
   split
   ·omega
   ·have h2 := ed_le l v.ws
    have h3 := (hb.2.2.2.2.2.2 c hc v (List.mem_of_getElem? hv)).2.1
    omega
  ·omega
 have h2 : ∀ xs : List VC, (∀ c ∈ xs, costC q l c ≤ 6) → (xs.map (costC q l)).sum ≤ 6 * xs.length := by
  intro xs
  induction xs with
  | nil => intro _; simp
  | cons c xs ih =>
   intro h
   have a1 := h c (by simp)
   have a2 := ih (fun c hc => h c (by simp [hc]))
   simp only [List.map_cons, List.sum_cons, List.length_cons]
   omega
 have h3 := h2 cs h1
 have h4 := hb.len
 have h5 := hb.2.1
 unfold cost1
 omega
end
section
open Go.RowKit Go.Lib
def minF (f : List Int → Nat) (L : List (List Int)) : Nat := L.foldl (fun m x => min m (f x)) (match L with | [] => 0 | l :: _ => f l)
def leastF (f : List Int → Nat) (L : List (List Int)) : List (List Int) := L.filter fun l => f l == minF f L
end
section
open Go.RowKit Go.Lib
def pwB : List (List Int) → Bool
 | [] => true
 | a :: l => l.all (b89 a) && pwB l
theorem pwB_pw : ∀ l : List (List Int), pwB l = true → l.Pairwise fun a b => b89 a b = true
 | [], _ => List.Pairwise.nil
 | a :: l, h => by
  rw [pwB, Bool.and_eq_true, List.all_eq_true] at h
  exact List.Pairwise.cons h.1 (pwB_pw l h.2)
theorem allLL_pw {wn : Nat} (h1 : 1 ≤ wn) (h3 : wn ≤ 3) : (allLL wn).Pairwise fun a b => b89 a b = true := by
 have : wn = 1 ∨ wn = 2 ∨ wn = 3 := by omega
 rcases this with rfl | rfl | rfl
 ·exact pwB_pw _ (by kernel_rfl : pwB (allLL 1) = true)
 ·exact pwB_pw _ (by kernel_rfl : pwB (allLL 2) = true)
 ·exact pwB_pw _ (by kernel_rfl : pwB (allLL 3) = true)
theorem allLL_has {wn : Nat} {l : List Int} (h : lnB (wn : Int) l = true) : l ∈ allLL wn := by
 unfold lnB at h
 rw [Bool.and_eq_true, decide_eq_true_eq, List.all_eq_true] at h
 refine List.mem_flatMap.2 ⟨l.length, List.mem_range.2 (by omega), allLs_has rfl fun x hx => ?_⟩
 have := h.2 x hx
 simp only [inB, Bool.and_eq_true, decide_eq_true_eq] at this
 omega
theorem allLL_lnB {wn : Nat} {l : List Int} (h : l ∈ allLL wn) : lnB (wn : Int) l = true := by
 have h2 := allLL_mem h
 unfold lnB
 rw [Bool.and_eq_true, decide_eq_true_eq, List.all_eq_true]
 refine ⟨h2.1, fun x hx => ?_⟩
 have := h2.2 x hx
 simp only [inB, Bool.and_eq_true, decide_eq_true_eq]
 omega
theorem lawlines_any {W : Int} {A : Option Addr} {n cap : Nat} {cs : List VC} {v : Value} {ls : List (List Int)} {w : World} (hb : BkI w A n cap cs) (hk : bookB W cs = true) (h : LL w v ls) (hg : ∀ l ∈ ls, lnB W l = true) (hp : ls.Pairwise fun a b => b89 a b = true) (hm : ls.length ≤ 121) :
  Calls Tryz.prog 41 #[.agg #[.int .i64 W, .slice A n cap], v] w fun e w' => e = .returned (.bool true) ∧ Below w.heap.size w w' := by
 obtain ⟨lA, ln, lc, rs, rfl, _, _, hn, hr, hok, hws⟩ := h
 have hl : rs.length = ln := by simpa using hr.len
 have hll : ls.length = rs.length := by rw [← hws, List.length_map]
 have hn121 : ln ≤ 121 := by omega
 have HBK := Lib.hid hb; have HO := Lib.hid hok; have HW := Lib.hid hws; have HGD := Lib.hid hg; have HP := Lib.hid hp; have HK := Lib.hid hk; have HRL := Lib.hid hl
 clear hb hok hws hg hp hk hm hll hl hn
 have hX := Blk.new w 24 #[.int .i64 W, .slice A n cap]
 have hB : Below w.heap.size w (w.alloc (.cells #[.int .i64 W, .slice A n cap] 24)) := (Below.refl _ w).alloc (Nat.le_refl _) _
 have qX := fun i => hX.cell i
 have hrB := rdB hr hB
 have W0e : (w.alloc (.cells #[.int .i64 W, .slice A n cap] 24)) = (w.alloc (.cells #[.int .i64 W, .slice A n cap] 24)) := rfl
 clear W0e hrB
 go_enter Tryz.func41, Tryz.ntmps41
 go_wp2_with fail
 go_loopg [5] ln (fun g i wr => ∃ k : Nat, g = ln - k ∧ k ≤ ln ∧ i = .int .i64 k ∧ Below w.heap.size w wr ∧ Blk wr w.heap.size 24 #[.int .i64 W, .slice A n cap])
 case atStart => exact ⟨0, rfl, Nat.zero_le _, rfl, hB, hX⟩
 case round =>
  clear hX qX hB
  obtain ⟨k, hg, hk, rfl, hB, hX⟩ := hrel
  rename World => wr
  have HG := Lib.hid hg; clear hg
  by_cases hlt : k < ln
  ·have hlti : (k : Int) < ln := by omega
   have hlt200 : (k : Int) < 200 := by omega
   obtain ⟨b, off, hz, rfl, hbb, hc1⟩ := (rdB hr hB).atm hlt
   have hzr : k < rs.length := by simpa using hz
   have hmem : rs[k].ws ∈ ls := by rw [← HW.out]; exact List.mem_map_of_mem (List.getElem_mem hzr)
   obtain ⟨o1, o2⟩ := HO.out _ (List.getElem_mem hzr)
   have hgk := HGD.out _ hmem
   have hbf : ∀ (h0 : 0 < k), b89 rs[k - 1].ws rs[k].ws = true := fun h0 => by
    have h5 := List.pairwise_iff_getElem.1 HP.out (k - 1) k (by rw [← HW.out, List.length_map]; omega) (by rw [← HW.out, List.length_map]; omega) (by omega)
    have h6 : ∀ (i : Nat) (hi : i < ls.length) (hj : i < rs.length), ls[i] = rs[i].ws := by
     intro i hi hj
     have := List.getElem_of_eq HW.out.symm hi
     rw [this, List.getElem_map]
    rw [h6 _ _ (by omega), h6 _ _ hzr] at h5
    exact h5
   have hq1 := fun (p : Blw wr.heap.size wr) => ((Blw.h p).cell (p := ⟨b, off + k, none⟩) (Nat.lt_of_lt_of_le hbb (Nat.le_refl _))).trans hc1
   have hq3 := fun (p : Blw wr.heap.size wr) i => blw_blk hX p i
   have hlX := hX.lt
   have hxI : ∀ wx, Below w.heap.size w wx → IA wx rs[k].A rs[k].n rs[k].cap rs[k].ws := fun wx hx => ⟨o1.1, o1.2.1, (o1.2.2.below hx).more hx.size⟩
   have c28 := fun (p : Blw wr.heap.size wr) => Line_I (W := W) (w := p.toW) (HBK.out.toW (hB.trans (p.h.mono hB.size))) HK.out (hxI _ (hB.trans (p.h.mono hB.size)))
   rw [hgk] at c28
   have C28 := Lib.hid c28; clear c28 hmem hgk
   by_cases h0 : k = 0
   ·subst h0
    clear hbf hxI
    obtain ⟨xx, hxx⟩ : ∃ xx, xx = rs[0] := ⟨_, rfl⟩
    rw [← hxx] at C28 hq1
    clear hxx o1 o2 hz hzr hc1
    obtain ⟨xa, xn, xc, xw⟩ := xx
    simp only [RI.val] at hq1 C28
    simp only [Nat.add_zero] at hq1
    go_upto_region 4 with (fail)
    refine wp_region_blw (by kernel_rfl) (by kernel_rfl) ?_
    repeat (go_big_quiet_step (fail))
    go_big_quiet_step ((go_at_call 28; exact Calls.blw_of _ (C28.out _)))
    repeat (go_big_quiet_step (fail))
    refine wpQuiet_nil ?_
    rintro W3 ⟨⟨_, hb3⟩, rfl⟩
    clear hq1 hq3
    replace hX := hX.below hb3 hlX; replace hB := hB.trans (hb3.mono hB.size); clear hb3 hlX
    go_wp2_with fail
    go_roundg (ln - 1)
    case measure => rw [HG.out]; omega
    case rel => exact ⟨1, rfl, by omega, by go_num, hB, hX⟩
   ·obtain ⟨j, rfl⟩ : ∃ j, k = j + 1 := ⟨k - 1, by omega⟩
    have hzj : j < rs.length := by omega
    obtain ⟨p1, p2⟩ := HO.out _ (List.getElem_mem hzj)
    have hbf' := hbf (by omega)
    simp only [Nat.add_sub_cancel] at hbf'
    have hyI : ∀ wx, Below w.heap.size w wx → IA wx rs[j].A rs[j].n rs[j].cap rs[j].ws := fun wx hx => ⟨p1.1, p1.2.1, (p1.2.2.below hx).more hx.size⟩
    have c89 := fun (p : Blw wr.heap.size wr) => before89_any _ _ _ _ _ _ _ _ p.toW (hyI _ (hB.trans (p.h.mono hB.size))) (hxI _ (hB.trans (p.h.mono hB.size))) p2 o2
    rw [hbf'] at c89
    obtain ⟨b', off', hz', e', hbb', hc2⟩ := (rdB hr hB).atm (show j < ln by omega)
    obtain ⟨rfl, rfl⟩ : b = b' ∧ off = off' := by simpa using e'
    have hq2 := fun (p : Blw wr.heap.size wr) => ((Blw.h p).cell (p := ⟨b, off + j, none⟩) (Nat.lt_of_lt_of_le hbb (Nat.le_refl _))).trans hc2
    have C89 := Lib.hid c89; clear c89 hbf hbf' hxI hyI e' hbb'
    obtain ⟨xx, hxx⟩ : ∃ xx, xx = rs[j + 1] := ⟨_, rfl⟩
    rw [← hxx] at C28 C89 hq1
    obtain ⟨yy, hyy⟩ : ∃ yy, yy = rs[j] := ⟨_, rfl⟩
    rw [← hyy] at C89 hq2
    clear hxx hyy o1 o2 p1 p2 hz hzr hc1 hz' hc2 hzj
    obtain ⟨xa, xn, xc, xw⟩ := xx
    obtain ⟨ya, yn, yc, yw⟩ := yy
    simp only [RI.val] at hq1 hq2 C28 C89
    have hjl : j < ln := by omega
    have hjp : (0 : Int) < (j : Int) + 1 := by omega
    go_upto_region 4 with (fail)
    refine wp_region_blw (by kernel_rfl) (by kernel_rfl) ?_
    repeat (go_big_quiet_step (fail))
    go_big_quiet_step ((go_at_call 28; exact Calls.blw_of _ (C28.out _)))
    repeat (go_big_quiet_step (fail))
    go_big_quiet_step ((go_at_call 89; exact Calls.blw_of _ (C89.out _)))
    repeat (go_big_quiet_step (fail))
    refine wpQuiet_nil ?_
    rintro W3 ⟨⟨_, hb3⟩, rfl⟩
    clear hq1 hq2 hq3
    replace hX := hX.below hb3 hlX; replace hB := hB.trans (hb3.mono hB.size); clear hb3 hlX
    go_wp2_with fail
    go_roundg (ln - (j + 1 + 1))
    case measure => rw [HG.out]; omega
    case rel => exact ⟨j + 1 + 1, rfl, by omega, by go_num, hB, hX⟩
  ·have hge : ¬ (k : Int) < ln := by omega
   have hle : (ln : Int) ≤ 121 := by omega
   go_wp2_with fail
   go_ret
   exact ⟨rfl, hB⟩
end
section
open Go.RowKit Go.Lib Go.Maps
section
variable {f : List Int → Nat}
theorem minFold_le (f : List Int → Nat) : ∀ (L : List (List Int)) (z : Nat), L.foldl (fun m x => min m (f x)) z ≤ z ∧ ∀ l ∈ L, L.foldl (fun m x => min m (f x)) z ≤ f l
 | [], z => ⟨Nat.le_refl _, fun l h => by cases h⟩
 | a :: L, z => by
  obtain ⟨h1, h2⟩ := minFold_le f L (min z (f a))
  rw [List.foldl_cons]
  refine ⟨by omega, fun l h => ?_⟩
  rcases List.mem_cons.1 h with rfl | h
  ·omega
  ·exact h2 l h
theorem minFold_mem (f : List Int → Nat) : ∀ (L : List (List Int)) (z : Nat), L.foldl (fun m x => min m (f x)) z = z ∨ ∃ l ∈ L, f l = L.foldl (fun m x => min m (f x)) z
 | [], z => .inl rfl
 | a :: L, z => by
  rw [List.foldl_cons]
  rcases minFold_mem f L (min z (f a)) with h | ⟨l, h1, h2⟩
  ·by_cases hc : z ≤ f a
   ·exact .inl (by rw [h]; omega)
   ·exact .inr ⟨a, by simp, by rw [h]; omega⟩
  ·exact .inr ⟨l, by simp [h1], h2⟩
theorem minF_le {L : List (List Int)} {l : List Int} (h : l ∈ L) : minF f L ≤ f l := (minFold_le f L _).2 l h
theorem minF_mem {L : List (List Int)} (h : L ≠ []) : ∃ l ∈ L, f l = minF f L := by
 cases L with
 | nil => exact absurd rfl h
 | cons a L =>
  rcases minFold_mem f (a :: L) (f a) with h | h
  ·exact ⟨a, by simp, h.symm⟩
  ·exact h
theorem leastF_mem {L : List (List Int)} {l : List Int} : l ∈ leastF f L ↔ l ∈ L ∧ f l = minF f L := by
 unfold leastF
 rw [List.mem_filter]
 simp
end
theorem sumI_app (a : List Int) : ∀ (b : List Int), sumI (a ++ b) = sumI a + sumI b := by
 refine revInd ?_ ?_
 ·rw [List.append_nil]; show sumI a = sumI a + 0; omega
 ·intro l x ih
  rw [← List.append_assoc, sumI_snoc, sumI_snoc, ih]; omega
theorem olL_cost {q : Nat} {l : List Int} (hl : ∀ x ∈ l, 0 ≤ x ∧ x ≤ 2) : ∀ (cs : List VC), (∀ c ∈ cs, ∀ v ∈ c.ls, ∀ x ∈ v.ws, 0 ≤ x ∧ x ≤ 2) → sumI (olL q (lbS l) cs) = (cost1 q l cs : Nat) := by
 refine revInd (fun _ => rfl) ?_
 intro cs c ih h
 rw [olL_snoc, sumI_app, cost1_snoc, ih (fun c hc => h c (by simp [hc]))]
 have h2 := h c (by simp)
 unfold edO costC
 cases hv : c.ls[q]? with
 | none => rfl
 | some v =>
  dsimp only
  have h3 := h2 v (List.mem_of_getElem? hv)
  cases v.lost
  ·rw [if_neg (by decide), if_neg (by decide), edB_int hl h3]
   show _ + (0 + (ed l v.ws : Int)) = _
   omega
  ·rfl
theorem book_small {wn : Nat} {cs : List VC} (h : bookB (wn : Int) cs = true) : ∀ c ∈ cs, ∀ v ∈ c.ls, ∀ x ∈ v.ws, 0 ≤ x ∧ x ≤ 2 := fun c hc v hv => by
 have hW := book_W h
 unfold bookB at h
 simp only [Bool.and_eq_true, List.all_eq_true] at h
 have h2 := (h.2 c hc).2 v hv
 unfold vlB at h2
 rw [Bool.and_eq_true] at h2
 exact (ln_small hW h2.1).2
def costF (q : Nat) (cs : List VC) (l : List Int) : Nat := cost1 q l cs
def refL (wn q : Nat) (cs : List VC) : List (List Int) := leastF (costF q cs) (allLL wn)
def refC (wn q : Nat) (cs : List VC) : Nat := minF (costF q cs) (allLL wn)
section
variable {wn q : Nat} {cs : List VC}
theorem rated_ref (h3 : wn ≤ 3) (h : bookB (wn : Int) cs = true) : ratedL wn q cs = (allLL wn).map fun l => ⟨lbS l, (costF q cs l : Nat)⟩ := by
 unfold ratedL
 rw [allLn_LL, List.map_map]
 refine List.map_congr_left fun l hl => ?_
 show rateR q cs (lbS l) = _
 unfold rateR
 rw [olL_cost (allLL_small h3 hl) cs (book_small h)]
 rfl
theorem allLL_ne : allLL wn ≠ [] := fun e => by
 have : ([] : List Int) ∈ allLL wn := List.mem_flatMap.2 ⟨0, by simp, by show [] ∈ [[]]; simp⟩
 rw [e] at this; cases this
theorem leastQ_ref (h3 : wn ≤ 3) (h : bookB (wn : Int) cs = true) : leastQ wn q cs = (refL wn q cs).map fun l => ⟨lbS l, (costF q cs l : Nat)⟩ := by
 unfold leastQ leastR
 rw [rated_ref h3 h]
 obtain ⟨b, hb⟩ := bestI_some RT.c (l := (allLL wn).map fun l => (⟨lbS l, (costF q cs l : Nat)⟩ : RT)) (fun e => allLL_ne (List.map_eq_nil_iff.1 e))
 obtain ⟨h1, h2⟩ := bestI_mem _ _ _ hb
 rw [hb]
 obtain ⟨l0, hl0, rfl⟩ := List.mem_map.1 h1
 dsimp only at h2 ⊢
 have hm : costF q cs l0 = minF (costF q cs) (allLL wn) := by
  obtain ⟨l1, hl1, e⟩ := minF_mem (f := costF q cs) (allLL_ne (wn := wn))
  have a1 := h2 _ (List.mem_map_of_mem hl1)
  dsimp only at a1
  have a2 := minF_le (f := costF q cs) hl0
  omega
 unfold keepR refL leastF
 rw [List.filter_map]
 congr 1
 refine List.filter_congr fun l hl => ?_
 have a2 := minF_le (f := costF q cs) hl
 simp only [Function.comp_apply, hm]
 by_cases e : costF q cs l = minF (costF q cs) (allLL wn)
 ·rw [decide_eq_true (by omega)]; simp [e]
 ·rw [decide_eq_false (by omega)]; simp [e]
theorem leastL_ref (h3 : wn ≤ 3) (h : bookB (wn : Int) cs = true) : leastL wn q cs = (refL wn q cs).map lbS := by
 unfold leastL; rw [leastQ_ref h3 h, List.map_map]; rfl
theorem refL_small (h3 : wn ≤ 3) : ∀ l ∈ refL wn q cs, l.length ≤ 4 ∧ ∀ x ∈ l, 0 ≤ x ∧ x ≤ 2 := fun l hl => ⟨(allLL_mem (leastF_mem.1 hl).1).1, allLL_small h3 (leastF_mem.1 hl).1⟩
theorem leastL_nw (h3 : wn ≤ 3) (h : bookB (wn : Int) cs = true) : (leastL wn q cs).map nwL = refL wn q cs := by
 rw [leastL_ref h3 h, List.map_map]
 conv => rhs; rw [← List.map_id (refL wn q cs)]
 exact List.map_congr_left fun l hl => nwL_lbS (refL_small h3 l hl).2
theorem leastC_ref (h3 : wn ≤ 3) (h : bookB (wn : Int) cs = true) : leastC wn q cs = (refC wn q cs : Nat) := by
 have hp := leastQ_pos wn q cs
 unfold leastC
 rw [leastQ_ref h3 h] at hp ⊢
 cases hl : refL wn q cs with
 | nil => rw [hl] at hp; simp at hp
 | cons l ls =>
  have hm : l ∈ refL wn q cs := by rw [hl]; simp
  simp only [List.map_cons, List.head?_cons, Option.map_some, Option.getD_some]
  rw [(leastF_mem.1 hm).2]; rfl
end
def comStep (P : List Int → Bool) (out l : List Int) : List Int := if decide (out.length < l.length) && P l then l else out
def comF (P : List Int → Bool) (L : List (List Int)) : List Int := L.foldl (comStep P) []
theorem com_late (P : List Int → Bool) (k : Nat) : ∀ (L : List (List Int)) (out : List Int), (∀ l ∈ L, l.length = k) → k ≤ out.length → L.foldl (comStep P) out = out
 | [], _, _, _ => rfl
 | a :: L, out, h, ho => by
  have ha := h a (by simp)
  rw [List.foldl_cons, comStep, decide_eq_false (by omega)]
  exact com_late P k L out (fun l hl => h l (by simp [hl])) ho
theorem com_level (P : List Int → Bool) (k : Nat) : ∀ (L : List (List Int)) (out : List Int), (∀ l ∈ L, l.length = k) → out.length < k → L.foldl (comStep P) out = (L.find? P).getD out
 | [], _, _, _ => rfl
 | a :: L, out, h, ho => by
  have ha := h a (by simp)
  rw [List.foldl_cons, comStep, decide_eq_true (by omega), Bool.true_and, List.find?_cons]
  cases hp : P a
  ·exact com_level P k L out (fun l hl => h l (by simp [hl])) ho
  ·exact com_late P k L a (fun l hl => h l (by simp [hl])) (by omega)
theorem com_all (P : List Int → Bool) (wn : Nat) : comF P (allLL wn) = ((((List.range 5).flatMap fun k => allLs (4 - k) wn).find? P).getD []) := by
 have hL : ∀ k, ∀ l ∈ allLs k wn, l.length = k := fun k l h => (allLs_mem h).1
 have hlt : ∀ (k : Nat) (o : List Int), o.length < k → ((allLs k wn).find? P).getD o = o ∨ (((allLs k wn).find? P).getD o).length = k := fun k o _ => by
  cases h : (allLs k wn).find? P with
  | none => exact .inl rfl
  | some a => exact .inr (hL k a (List.mem_of_find?_eq_some h))
 have e1 : allLL wn = allLs 0 wn ++ (allLs 1 wn ++ (allLs 2 wn ++ (allLs 3 wn ++ allLs 4 wn))) := by
  unfold allLL
  rw [show List.range 5 = [0, 1, 2, 3, 4] from rfl]
  simp only [List.flatMap_cons, List.flatMap_nil, List.append_nil]
 have e2 : ((List.range 5).flatMap fun k => allLs (4 - k) wn) = allLs 4 wn ++ (allLs 3 wn ++ (allLs 2 wn ++ (allLs 1 wn ++ allLs 0 wn))) := by
  rw [show List.range 5 = [0, 1, 2, 3, 4] from rfl]
  simp only [List.flatMap_cons, List.flatMap_nil, List.append_nil]
 have e0 : allLs 0 wn = [[]] := rfl
 unfold comF
 rw [e1, e2]
 simp only [List.foldl_append, List.find?_append]
 rw [com_late P 0 _ [] (hL 0) (Nat.le_refl _)]
 rw [com_level P 1 _ [] (hL 1) (by decide)]
 have a1 : (((allLs 1 wn).find? P).getD []).length < 2 := by rcases hlt 1 [] (by decide) with h | h <;> rw [h] <;> decide
 rw [com_level P 2 _ _ (hL 2) a1]
 have a2 : (((allLs 2 wn).find? P).getD (((allLs 1 wn).find? P).getD [])).length < 3 := by
  rcases hlt 2 _ a1 with h | h <;> rw [h]
  ·omega
  ·decide
 rw [com_level P 3 _ _ (hL 3) a2]
 have a3 : (((allLs 3 wn).find? P).getD (((allLs 2 wn).find? P).getD (((allLs 1 wn).find? P).getD []))).length < 4 := by
  rcases hlt 3 _ a2 with h | h <;> rw [h]
  ·omega
  ·decide
 rw [com_level P 4 _ _ (hL 4) a3, e0]
 have a0 : (([[]] : List (List Int)).find? P).getD [] = [] := by rw [List.find?_cons]; cases P [] <;> rfl
 generalize ([[]] : List (List Int)).find? P = o0 at *
 generalize (allLs 1 wn).find? P = o1 at *
 generalize (allLs 2 wn).find? P = o2 at *
 generalize (allLs 3 wn).find? P = o3 at *
 generalize (allLs 4 wn).find? P = o4 at *
 cases o4 <;> cases o3 <;> cases o2 <;> cases o1 <;> first | rfl | exact a0.symm
theorem subL_with {o l : List Int} (ho : ∀ x ∈ o, 0 ≤ x ∧ x ≤ 2) (hl : ∀ x ∈ l, 0 ≤ x ∧ x ≤ 2) : ∀ k, k ≤ l.length → subL (lbL o) ((lbL l).drop k) = (lbL l).drop (o.foldl (wk l) k) := by
 induction o with
 | nil => intro k _; rfl
 | cons x o ih =>
  intro k hk
  have ih' := ih (fun y hy => ho y (by simp [hy]))
  have hx := ho x (by simp)
  rw [List.foldl_cons]
  by_cases hkl : k < l.length
  ·have hkb : k < (lbL l).length := by unfold lbL; simpa using hkl
   have hd : (lbL l).drop k = (lbL l)[k] :: (lbL l).drop (k + 1) := List.drop_eq_getElem_cons hkb
   have he : (lbL l)[k] = UInt8.ofNat (l[k]).toNat := List.getElem_map ..
   rw [hd]
   show subL (UInt8.ofNat x.toNat :: lbL o) _ = _
   rw [subL, he, wk, List.getElem?_eq_getElem hkl]
   by_cases e : l[k] = x
   ·rw [if_pos (by rw [e]), if_pos (by rw [e])]
    exact ih' (k + 1) (by omega)
   ·rw [if_neg (fun h => e (u8_inj hx (hl _ (List.getElem_mem hkl)) h).symm), if_neg (fun h => e (Option.some.inj h)), ← he, ← hd]
    exact ih' k hk
  ·have e : (lbL l).drop k = [] := List.drop_eq_nil_of_le (by unfold lbL; simpa using hkl)
   have e2 : wk l k x = k := by unfold wk; rw [List.getElem?_eq_none (by omega), if_neg (by simp)]
   rw [e, subL_nil, e2, wk_full l k (by omega), e]
theorem wk_le (l : List Int) : ∀ (o : List Int) (k : Nat), k ≤ l.length → o.foldl (wk l) k ≤ l.length
 | [], k, h => h
 | x :: o, k, h => by
  rw [List.foldl_cons]
  refine wk_le l o _ ?_
  unfold wk
  split
  ·rename_i h2
   have := (List.getElem?_eq_some_iff.1 h2).1
   omega
  ·exact h
theorem has_with {o l : List Int} (ho : ∀ x ∈ o, 0 ≤ x ∧ x ≤ 2) (hl : ∀ x ∈ l, 0 ≤ x ∧ x ≤ 2) : hasW (lbS o) (lbS l) = wtnB l o := by
 have h := subL_with ho hl 0 (Nat.zero_le _)
 rw [List.drop_zero] at h
 show (subL (lbL o) (lbL l)).isEmpty = _
 rw [h]
 show _ = decide (o.foldl (wk l) 0 = l.length)
 have h2 := wk_le l o 0 (Nat.zero_le _)
 have h3 : (lbL l).length = l.length := by unfold lbL; simp
 by_cases e : o.foldl (wk l) 0 = l.length
 ·rw [decide_eq_true e, e, ← h3, List.drop_length]; rfl
 ·rw [decide_eq_false e]
  have : (lbL l).drop (o.foldl (wk l) 0) ≠ [] := fun h4 => by
   have := List.drop_eq_nil_iff.1 h4
   omega
  exact List.isEmpty_eq_false_iff.2 this
theorem find_congr' {α : Type} {p q : α → Bool} : ∀ {L : List α}, (∀ l ∈ L, p l = q l) → L.find? p = L.find? q
 | [], _ => rfl
 | a :: L, h => by rw [List.find?_cons, List.find?_cons, h a (by simp), find_congr' (L := L) fun l hl => h l (by simp [hl])]
theorem all_congr' {α : Type} {p q : α → Bool} : ∀ {L : List α}, (∀ l ∈ L, p l = q l) → L.all p = L.all q
 | [], _ => rfl
 | a :: L, h => by rw [List.all_cons, List.all_cons, h a (by simp), all_congr' (L := L) fun l hl => h l (by simp [hl])]
def inAll (lines : List (List Int)) (l : List Int) : Bool := lines.all (wtnB l)
def refCom (wn : Nat) (lines : List (List Int)) : List Int := comF (inAll lines) (allLL wn)
theorem refCom_mem {wn : Nat} (lines : List (List Int)) : refCom wn lines ∈ allLL wn := by
 unfold refCom
 rw [com_all]
 cases h : ((List.range 5).flatMap fun k => allLs (4 - k) wn).find? (inAll lines) with
 | none => exact List.mem_flatMap.2 ⟨0, by simp, by show [] ∈ [[]]; simp⟩
 | some a =>
  obtain ⟨k, hk, hm⟩ := List.mem_flatMap.1 (List.mem_of_find?_eq_some h)
  have := List.mem_range.1 hk
  exact List.mem_flatMap.2 ⟨4 - k, List.mem_range.2 (by omega), hm⟩
theorem common_ref {wn : Nat} (h3 : wn ≤ 3) {lines : List (List Int)} (hl : ∀ l ∈ lines, ∀ x ∈ l, 0 ≤ x ∧ x ≤ 2) : commonS wn (lines.map lbS) = lbS (refCom wn lines) := by
 have hD : descL wn = ((List.range 5).flatMap fun k => allLs (4 - k) wn).map lbS := by
  unfold descL descT
  rw [List.map_flatMap]
 unfold commonS refCom
 rw [com_all, hD, List.find?_map]
 have e : ∀ l ∈ ((List.range 5).flatMap fun k => allLs (4 - k) wn), (allHave (lines.map lbS) ∘ lbS) l = inAll lines l := fun l hm => by
  obtain ⟨k, hk, hm⟩ := List.mem_flatMap.1 hm
  have hs : ∀ x ∈ l, 0 ≤ x ∧ x ≤ 2 := fun x hx => by have := (allLs_mem hm).2 x hx; omega
  show (!((lines.map lbS).any fun o => !hasW o (lbS l))) = lines.all (wtnB l)
  rw [List.any_map, List.not_any_eq_all_not]
  refine all_congr' fun o ho => ?_
  show (!(!hasW (lbS o) (lbS l))) = wtnB l o
  rw [Bool.not_not, has_with (hl o ho) hs]
 rw [find_congr' e]
 cases ((List.range 5).flatMap fun k => allLs (4 - k) wn).find? (inAll lines) <;> rfl
end
section
open Go.RowKit Go.Lib Go.Maps
section
variable {wn : Nat} {A : Option Addr} {n cap q : Nat} {cs : List VC} {w : World}
theorem refL_len (h1 : 1 ≤ wn) (h3 : wn ≤ 3) : (refL wn q cs).length ≤ 121 := Nat.le_trans (List.length_filter_le _ _) (allLL_len h1 h3)
theorem Least_I (h : BkG wn A n cs w w.heap.size) (hk : bookB (wn : Int) cs = true) (hq : q < headN cs) :
  Calls Tryz.prog 43 #[.agg #[.int .i64 (wn : Int), .slice A n cap], .int .i64 (q : Int)] w fun e w' => (∃ u, e = .returned (.tuple #[u, .int .i64 (refC wn q cs : Nat), .int .i64 0]) ∧ LL w' u (refL wn q cs)) ∧ Below w.heap.size w w' := by
 refine (Least_yes cap q h hk hq).mono ?_
 rintro e w' ⟨⟨v, rs, rfl, hown, hrows⟩, hb⟩
 refine ⟨⟨v, by rw [leastC_ref h.1.2 hk], ?_⟩, hb⟩
 have h2 := LL.of_rows hown hrows (by have := refL_len (q := q) (cs := cs) h.1.1 h.1.2; rw [leastL_ref h.1.2 hk, List.length_map]; omega) (fun l hl => by
   rw [leastL_ref h.1.2 hk] at hl
   obtain ⟨z, hz, rfl⟩ := List.mem_map.1 hl
   rw [lbS_size]
   have := (refL_small h.1.2 z hz).1; omega)
 rw [leastL_nw h.1.2 hk] at h2
 exact h2
theorem Common_I (h : BkG wn A n cs w w.heap.size) (hk : bookB (wn : Int) cs = true) (hq : q < headN cs) :
  Calls Tryz.prog 44 #[.agg #[.int .i64 (wn : Int), .slice A n cap], .int .i64 (q : Int)] w fun e w' => (∃ u, e = .returned (.tuple #[u, .int .i64 0]) ∧ IL w' u (refCom wn (refL wn q cs))) ∧ Below w.heap.size w w' := by
 refine (Common_yes cap q h hk hq).mono ?_
 rintro e w' ⟨⟨v, rfl, hown⟩, hb⟩
 have hs : ∀ l ∈ refL wn q cs, ∀ x ∈ l, 0 ≤ x ∧ x ≤ 2 := fun l hl => (refL_small h.1.2 l hl).2
 rw [leastL_ref h.1.2 hk, common_ref h.1.2 hs] at hown
 have hm := refCom_mem (wn := wn) (refL wn q cs)
 rw [nwL_lbS (allLL_small h.1.2 hm), lbS_size] at hown
 exact ⟨⟨v, rfl, IL.of_own hown (by have := (allLL_mem hm).1; omega)⟩, hb⟩
end
end
section
open Go.RowKit Go.Lib
theorem book_lnB {W : Int} {cs : List VC} (h : bookB W cs = true) : ∀ c ∈ cs, ∀ v ∈ c.ls, lnB W v.ws = true := fun c hc v hv => by
 unfold bookB at h
 simp only [Bool.and_eq_true, List.all_eq_true] at h
 have h2 := (h.2 c hc).2 v hv
 unfold vlB at h2
 rw [Bool.and_eq_true] at h2
 exact h2.1
theorem changes48_any {wn : Nat} {A : Option Addr} {n cap : Nat} {cs : List VC} (q : Nat) (A1 : Option Addr) (n1 c1 : Nat) (l : List Int) {w : World} (h : BkI w A n cap cs) (hbk : bookB (wn : Int) cs = true) (hb : BkG wn A n cs w w.heap.size) (hq : q < headN cs) (h1 : IA w A1 n1 c1 l) (k1 : lnB (wn : Int) l = true) :
  Calls Tryz.prog 48 #[.agg #[.int .i64 (wn : Int), .slice A n cap], .int .i64 (q : Int), .slice A1 n1 c1] w fun e w' => e = .returned (.int .i64 (cost1 q l cs : Nat)) ∧ Below w.heap.size w w' := by
 have hlen := hb.len
 have hn5 := hb.2.1
 have hq4 : q < 4 := by have := hb.2.2.1; omega
 have hX := Blk.new w 24 #[.int .i64 (wn : Int), .slice A n cap]
 have hB : Below w.heap.size w (w.alloc (.cells #[.int .i64 (wn : Int), .slice A n cap] 24)) := (Below.refl _ w).alloc (Nat.le_refl _) _
 have qX := fun i => hX.cell i
 obtain ⟨S, hS⟩ : ∃ S, S = cost1 q l cs := ⟨_, rfl⟩
 rw [← hS]
 have hl4 := lnB_len k1
 have HBK := Lib.hid hb; have HQ := Lib.hid hq; have HS := Lib.hid hS; have HL := Lib.hid hlen; have H1 := Lib.hid h1; have HI := Lib.hid h; have HK := Lib.hid hbk; have HK1 := Lib.hid k1; clear hb hq hS hlen h1 h hbk k1
 go_enter Tryz.func48, Tryz.ntmps48
 go_wp2_with fail
 go_loopg [7, 8] n (fun g v i wr => ∃ k z : Nat, g = n - k ∧ k ≤ n ∧ v = .int .i64 z ∧ i = .int .i64 k ∧ Hid (z = cost1 q l (cs.take k)) ∧ z ≤ 4 * k ∧ Below w.heap.size w wr ∧ Blk wr w.heap.size 24 #[.int .i64 (wn : Int), .slice A n cap])
 case atStart => exact ⟨0, 0, rfl, Nat.zero_le _, rfl, rfl, Lib.hid rfl, Nat.le_refl _, hB, hX⟩
 case round =>
  clear hX hB qX
  obtain ⟨k, z, hg, hk, rfl, rfl, hz, hzk, hB, hX⟩ := hrel
  rename World => wr
  have HG := Lib.hid hg; clear hg
  have qX := fun i => hX.cell i
  by_cases hlt : k < n
  ·have hlti : (k : Int) < n := by omega
   have hb2 := HBK.out.toW hB
   obtain ⟨b, off, hzk2, rfl, hbw, hcell⟩ := hb2.2.2.2.1.atm hlt
   have hin := List.getElem_mem hzk2
   have hco := hb2.2.2.2.2.1 _ hin
   have hcn := hb2.2.2.2.2.2.1 _ hin
   have hcv := hb2.2.2.2.2.2.2 _ hin
   have hlv := book_lnB HK.out _ hin
   have hap := cost1_snoc q l (cs.take k) cs[k]
   rw [← List.take_succ_eq_append_getElem hzk2, ← hz.out] at hap
   generalize cs[k] = c at *
   obtain ⟨cA, cn, ccap, cls⟩ := c
   obtain ⟨k1, k2, k3, k4⟩ := hco
   dsimp only at k1 k2 k3 k4 hcn hcv hlv
   simp only [VC.val] at hcell
   have hqn : q < cn := by rw [hcn.1]; exact HQ.out
   have hqi : (q : Int) < cn := by omega
   obtain ⟨b2, off2, hz2, rfl, hb2', hv0, hv1⟩ := k4.at2 hqn
   have hvin := List.getElem_mem hz2
   have hvok := k3 _ hvin
   have hvl := hlv _ hvin
   have hcc : costC q l ⟨some ⟨b2, off2, none⟩, cn, ccap, cls⟩ = if cls[q].lost then 0 else ed l cls[q].ws := by
    unfold costC
    simp only [List.getElem?_eq_getElem hz2]
   generalize cls[q] = v at *
   obtain ⟨lost, vA, vn, vc, vws⟩ := v
   dsimp only at hv0 hv1 hvok hvl hcc
   obtain ⟨v1, v2, v3⟩ := hvok
   dsimp only at v1 v2 v3
   rw [hcc] at hap
   have hed := ed_le l vws
   have hE4 : ed l vws ≤ 4 := by have := lnB_len hvl; omega
   have HAP := Lib.hid hap
   have hIV : IA wr vA vn vc vws := ⟨v1, v2, v3⟩
   have hc1 := fun (p : Blw wr.heap.size wr) => Changes_I (w := p.toW) (HI.out.toW (hB.trans (p.h.mono hB.size))) HK.out (H1.out.toW (hB.trans (p.h.mono hB.size))) (hIV.toW p.h) HK1.out hvl
   have HC1 := Lib.hid hc1
   clear hap hcc hvin hz2 k3 k4 hcv hin hzk2 hb2 hcn hed hz hc1 hIV hvl hlv v3
   have hq1 := fun (p : Blw wr.heap.size wr) => ((Blw.h p).cell (p := ⟨b, off + k, none⟩) hbw).trans hcell
   have hq2 := fun (p : Blw wr.heap.size wr) => ((Blw.h p).cell (p := ⟨b2, off2 + q * 2 + 1, none⟩) hb2').trans hv1
   have hq3 := fun (p : Blw wr.heap.size wr) i => blw_blk hX p i
   have hlX := hX.lt
   cases lost
   ·rw [if_neg (by decide)] at HAP
    generalize ed l vws = E at *
    have hEi : (E : Int) ≤ 4 := by omega
    have hzE : z + E ≤ 4 * (k + 1) := by omega
    go_upto_region 6 with (fail)
    refine wp_region_blw (by kernel_rfl) (by kernel_rfl) ?_
    repeat (go_big_quiet_step (fail))
    go_big_quiet_step ((go_at_call 26; exact Calls.blw_of _ (HC1.out _)))
    repeat (go_big_quiet_step (fail))
    refine wpQuiet_nil ?_
    rintro W3 ⟨⟨_, hb3⟩, rfl⟩
    clear hq1 hq2 hq3 hlX qX HC1
    replace hX := hX.below hb3 hX.lt; replace hB := hB.trans (hb3.mono hB.size)
    clear hb3
    go_wp2_with fail
    go_roundg (n - (k + 1))
    case measure => rw [HG.out]; omega
    case rel => exact ⟨k + 1, z + E, rfl, by omega, by go_num, by go_num, Lib.hid HAP.out.symm, hzE, hB, hX⟩
   ·rw [if_pos rfl] at HAP
    clear hq1 hq2 hq3 HC1
    go_wp2_with fail
    go_roundg (n - (k + 1))
    case measure => rw [HG.out]; omega
    case rel => exact ⟨k + 1, z, rfl, by omega, rfl, by go_num, Lib.hid HAP.out.symm, by omega, hB, hX⟩
  ·obtain rfl : k = n := by omega
   have hge : ¬ (k : Int) < k := by omega
   have htk : cs.take k = cs := List.take_of_length_le (by rw [HL.out]; exact Nat.le_refl _)
   have hzS : z = S := by rw [hz.out, htk, HS.out]
   subst hzS
   go_wp2_with fail
   go_ret
   exact ⟨rfl, hB⟩
theorem refL_good {wn q : Nat} {cs : List VC} (h1 : 1 ≤ wn) (h3 : wn ≤ 3) : (∀ l ∈ refL wn q cs, lnB (wn : Int) l = true) ∧ (refL wn q cs).Pairwise (fun a b => b89 a b = true) ∧ (refL wn q cs).length ≤ 121 :=
 ⟨fun l hl => allLL_lnB (leastF_mem.1 hl).1, by unfold refL leastF; exact (allLL_pw h1 h3).filter _, refL_len h1 h3⟩
theorem refL_pos {wn q : Nat} {cs : List VC} : 0 < (refL wn q cs).length := by
 obtain ⟨l, hl, e⟩ := minF_mem (f := costF q cs) (allLL_ne (wn := wn))
 exact List.length_pos_of_mem (leastF_mem.2 ⟨hl, e⟩)
theorem refL_mem {wn q : Nat} {cs : List VC} {l : List Int} (h : lnB (wn : Int) l = true) : l ∈ refL wn q cs ↔ cost1 q l cs = refC wn q cs :=
 ⟨fun h2 => (leastF_mem.1 h2).2, fun h2 => leastF_mem.2 ⟨allLL_has h, h2⟩⟩
theorem refC_le {wn q : Nat} {cs : List VC} {l : List Int} (h : lnB (wn : Int) l = true) : refC wn q cs ≤ cost1 q l cs := minF_le (f := costF q cs) (allLL_has h)
theorem wtn_nil (o : List Int) : wtnB [] o = true := by
 unfold wtnB wkAll
 rw [wk_full [] 0 (Nat.zero_le _)]; rfl
theorem refCom_in {wn : Nat} (lines : List (List Int)) : inAll lines (refCom wn lines) = true := by
 unfold refCom
 rw [com_all]
 cases h : ((List.range 5).flatMap fun k => allLs (4 - k) wn).find? (inAll lines) with
 | none => exact List.all_eq_true.2 fun o _ => wtn_nil o
 | some a => exact List.find?_some h
theorem befL_irr : ∀ (a b : List Int), a.length = b.length → befL a b = true → befL b a = false
 | [], [], _, h => by simp [befL] at h
 | [], _ :: _, h, _ => by simp at h
 | _ :: _, [], h, _ => by simp at h
 | x :: xs, y :: ys, hl, h => by
  rw [befL] at h ⊢
  by_cases e : x = y
  ·subst e; rw [if_pos rfl] at h ⊢; exact befL_irr xs ys (by simpa using hl) h
  ·rw [if_neg e] at h; rw [if_neg (fun h => e h.symm)]
   have := of_decide_eq_true h
   exact decide_eq_false (by omega)
theorem befL_self : ∀ a : List Int, befL a a = false
 | [] => rfl
 | x :: xs => by rw [befL, if_pos rfl]; exact befL_self xs
theorem refCom_best {wn : Nat} (h1 : 1 ≤ wn) (h3 : wn ≤ 3) {lines : List (List Int)} {o : List Int} (ho : o ∈ allLL wn) (hi : inAll lines o = true) : o.length < (refCom wn lines).length ∨ (o.length = (refCom wn lines).length ∧ befL o (refCom wn lines) = false) := by
 have hpw := allLL_pw h1 h3
 unfold refCom comF
 suffices H : ∀ (L : List (List Int)) (out : List Int), L.Pairwise (fun a b => b89 a b = true) → o ∈ L → (∀ x ∈ L, b89 out x = true ∨ out.length = 0) → o.length < (L.foldl (comStep (inAll lines)) out).length ∨ (o.length = (L.foldl (comStep (inAll lines)) out).length ∧ befL o (L.foldl (comStep (inAll lines)) out) = false) by
  exact H _ [] hpw ho (fun x _ => .inr rfl)
 have hmono : ∀ (L : List (List Int)) (out : List Int), out.length < (L.foldl (comStep (inAll lines)) out).length ∨ L.foldl (comStep (inAll lines)) out = out := by
  intro L
  induction L with
  | nil => intro out; exact .inr rfl
  | cons a L ih =>
   intro out
   rw [List.foldl_cons]
   unfold comStep
   by_cases hc : (decide (out.length < a.length) && inAll lines a) = true
   ·rw [if_pos hc]
    have h5 : out.length < a.length := of_decide_eq_true (Bool.and_eq_true_iff.1 hc).1
    rcases ih a with h | h
    ·exact .inl (Nat.lt_trans h5 h)
    ·exact .inl (by unfold comStep at h; rw [h]; exact h5)
   ·rw [if_neg hc]; exact ih out
 intro L
 induction L with
 | nil => intro out _ h _; cases h
 | cons a L ih =>
  intro out hp hm hb
  rw [List.foldl_cons]
  rcases List.mem_cons.1 hm with rfl | hm
  · -- o is taken, or out was as long already
   have hin : inAll lines o = true := hi
   by_cases hl : out.length < o.length
   ·have e : comStep (inAll lines) out o = o := by unfold comStep; rw [decide_eq_true hl, hin]; rfl
    rw [e]
    rcases hmono L o with h | h
    ·exact .inl h
    ·exact .inr ⟨by rw [h], by rw [h]; exact befL_self o⟩
   ·have e : comStep (inAll lines) out o = out := by unfold comStep; rw [decide_eq_false hl]; rfl
    rw [e]
    have hoo : o.length < out.length ∨ (o.length = out.length ∧ befL o out = false) := by
     rcases hb o (by simp) with h | h
     ·unfold b89 at h
      split at h
      ·rename_i e2; exact .inr ⟨e2.symm, befL_irr _ _ e2 h⟩
      ·have := of_decide_eq_true h; omega
     ·have h0 : o.length = 0 := by omega
      have e1 : o = [] := List.length_eq_zero_iff.1 h0
      have e2 : out = [] := List.length_eq_zero_iff.1 h
      exact .inr ⟨by omega, by rw [e1, e2]; rfl⟩
    rcases hmono L out with h | h
    ·exact .inl (by omega)
    ·rw [h]; exact hoo
  ·obtain ⟨hp1, hp2⟩ := List.pairwise_cons.1 hp
   refine ih _ hp2 hm fun x hx => ?_
   unfold comStep
   split
   ·exact .inl (hp1 x hx)
   ·exact hb x (by simp [hx])
end
section
open Go.RowKit Go.Lib
theorem rival_law (W : Int) (A : Option Addr) (n cap : Nat) (cs : List VC) (q : Int) (A1 : Option Addr) (n1 c1 : Nat) (l1 : List Int) (m : Int) (w : World) (hE : Env m w) (h : BkI w A n cap cs) (hq1 : -9223372036854775808 ≤ q) (hq2 : q ≤ 9223372036854775807) (h1 : IA w A1 n1 c1 l1) :
  Calls Tryz.prog 10 #[.agg #[.int .i64 W, .slice A n cap], .int .i64 q, .slice A1 n1 c1] w fun e w' => e = .returned (.bool true) ∧ Below w.heap.size w w' := by
 have hX := Blk.new w 24 #[.int .i64 W, .slice A n cap]
 have hB : Below w.heap.size w (w.alloc (.cells #[.int .i64 W, .slice A n cap] 24)) := (Below.refl _ w).alloc (Nat.le_refl _) _
 have qX := fun i => hX.cell i
 go_enter Tryz.func10, Tryz.ntmps10
 go_wp2_with fail
 refine (right_any (h.toW hB)).mono ?_; rintro e wc ⟨⟨b, rfl, hrb⟩, hb⟩
 replace hB := hB.trans (hb.mono hB.size); replace hX := hX.below hb hX.lt; clear hb qX; have qX := fun i => hX.cell i
 cases b with
 | false =>
  clear h1
  go_wp2_with fail
  refine (known_true m _ (hE.below hB)).mono ?_; rintro e wc ⟨rfl, hb⟩
  replace hB := hB.trans (hb.mono hB.size); clear hb
  go_wp2_with fail
  go_ret
  exact ⟨rfl, hB⟩
 | true =>
  have hbk := hrb rfl; clear hrb
  obtain ⟨wn, rfl, hG⟩ := BkG.of_book hbk h.2.2.1 h.2.2.2
  have hrn := fun wx hx => refNumber_any (wn : Int) q A n cap cs wx hG.2.1.1 (h.toW hx).2.2.1 (h.toW hx).2.2.2 (by have := hG.2.2.1.2; omega)
  cases hk : inB q 0 ((headN cs : Int) - 1) with
  | false =>
   simp only [hk] at hrn
   have HRN := Lib.hid hrn; clear hrn hk h h1 hG hbk
   go_wp2_with fail
   refine (HRN.out _ hB).mono ?_; rintro e wc ⟨rfl, hb⟩
   replace hB := hB.trans (hb.mono hB.size); replace hX := hX.below hb hX.lt; clear hb qX; have qX := fun i => hX.cell i
   go_wp2_with fail
   refine (known_true m _ (hE.below hB)).mono ?_; rintro e wc ⟨rfl, hb⟩
   replace hB := hB.trans (hb.mono hB.size); clear hb
   go_wp2_with fail
   go_ret
   exact ⟨rfl, hB⟩
  | true =>
   simp only [hk] at hrn
   have HRN := Lib.hid hrn; clear hrn
   by_cases hn1 : (6 : Int) < (n1 : Int)
   ·clear h h1 hG hbk hk
    go_wp2_with fail
    refine (HRN.out _ hB).mono ?_; rintro e wc ⟨rfl, hb⟩
    replace hB := hB.trans (hb.mono hB.size); replace hX := hX.below hb hX.lt; clear hb qX; have qX := fun i => hX.cell i
    go_wp2_with fail
    refine (known_true m _ (hE.below hB)).mono ?_; rintro e wc ⟨rfl, hb⟩
    replace hB := hB.trans (hb.mono hB.size); clear hb
    go_wp2_with fail
    go_ret
    exact ⟨rfl, hB⟩
   ·have hl1 := fun wx hx => Line_I (w := wx) (h.toW hx) hbk (h1.toW hx)
    cases hk1 : lnB (wn : Int) l1 with
    | false =>
     simp only [hk1] at hl1
     have HL1 := Lib.hid hl1; clear hl1 h h1 hG hbk hk hk1
     go_wp2_with fail
     refine (HRN.out _ hB).mono ?_; rintro e wc ⟨rfl, hb⟩
     replace hB := hB.trans (hb.mono hB.size); replace hX := hX.below hb hX.lt; clear hb qX; have qX := fun i => hX.cell i
     go_wp2_with fail
     refine (HL1.out _ hB).mono ?_; rintro e wc ⟨rfl, hb⟩
     replace hB := hB.trans (hb.mono hB.size); replace hX := hX.below hb hX.lt; clear hb qX; have qX := fun i => hX.cell i
     go_wp2_with fail
     refine (known_true m _ (hE.below hB)).mono ?_; rintro e wc ⟨rfl, hb⟩
     replace hB := hB.trans (hb.mono hB.size); clear hb
     go_wp2_with fail
     go_ret
     exact ⟨rfl, hB⟩
    | true =>
     have hq3 : 0 ≤ q ∧ q ≤ (headN cs : Int) - 1 := by simpa [inB] using hk
     obtain ⟨p, rfl⟩ : ∃ p : Nat, q = p := ⟨q.toNat, by omega⟩
     have hp : p < headN cs := by omega
     have hc1 := fun wx hx => Least_I (cap := cap) (w := wx) (hG.toW hx) hbk hp
     have hc2 := fun wx hx => Common_I (cap := cap) (w := wx) (hG.toW hx) hbk hp
     have hw1 := hG.1.1; have hw3 := hG.1.2
     have hg := refL_good (q := p) (cs := cs) hw1 hw3
     have hpos := refL_pos (wn := wn) (q := p) (cs := cs)
     have hmem := refL_mem (q := p) (cs := cs) hk1
     have hmle := refC_le (q := p) (cs := cs) hk1
     have hcin := refCom_in (wn := wn) (refL wn p cs)
     have hbest := refCom_best hw1 hw3 (lines := refL wn p cs) (allLL_has hk1)
     have hcm := (allLL_mem (refCom_mem (wn := wn) (refL wn p cs))).1
     have hch := fun (wx : World) (hx : Below w.heap.size w wx) (Ax : Option Addr) (nx cx : Nat) (lx : List Int) (hxx : IA wx Ax nx cx lx) (kx : lnB (wn : Int) lx = true) => changes48_any p Ax nx cx lx (h.toW hx) hbk (hG.toW hx) hp hxx kx
     have hcost : ∀ l ∈ refL wn p cs, cost1 p l cs = refC wn p cs := fun l hl => (leastF_mem.1 hl).2
     have hln := fun (wx : World) (hx : Below w.heap.size w wx) (v : Value) (hv : LL wx v (refL wn p cs)) => lawlines_any (h.toW hx) hbk hv hg.1 hg.2.1 hg.2.2
     have hmt := fun (wx : World) (hx : Below w.heap.size w wx) (v : Value) (hv : LL wx v (refL wn p cs)) => met_any A1 n1 c1 l1 hv (h1.toW hx) (by omega)
     have hM30 := cost1_le hG p l1 (by have := lnB_len hk1; omega)
     simp only [hk1] at hl1
     have hbf := fun (wx : World) (hx : Below w.heap.size w wx) (A6 : Option Addr) (n6 c6 : Nat) (l6 : List Int) (h6 : IA wx A6 n6 c6 l6) (hn6 : n6 ≤ 1000000) => before_any A1 n1 c1 l1 A6 n6 c6 l6 wx (h1.toW hx) h6 (by omega) hn6
     have hwi := fun (wx : World) (hx : Below w.heap.size w wx) (A6 : Option Addr) (n6 c6 : Nat) (l6 : List Int) (h6 : IA wx A6 n6 c6 l6) (hn6 : n6 ≤ 1000000) => within49_any A1 n1 c1 l1 A6 n6 c6 l6 wx (h1.toW hx) h6 (by omega) hn6
     have hln1 := h1.len
     generalize refL wn p cs = RL at *
     generalize refC wn p cs = RC at *
     obtain ⟨M, hM⟩ : ∃ M, M = cost1 p l1 cs := ⟨_, rfl⟩
     rw [← hM] at hmem hmle hM30
     obtain ⟨CM, hCM⟩ : ∃ CM, CM = refCom wn RL := ⟨_, rfl⟩
     rw [← hCM] at hcin hbest hcm
     simp only [← hCM] at hc2
     have HC1 := Lib.hid hc1; have HC2 := Lib.hid hc2; have HL1 := Lib.hid hl1; have HG0 := Lib.hid hg; have HMEM := Lib.hid hmem; have HCIN := Lib.hid hcin; have HBEST := Lib.hid hbest; have HCH := Lib.hid hch; have HCOST := Lib.hid hcost; have HLN := Lib.hid hln; have HMT := Lib.hid hmt; have HBF := Lib.hid hbf; have HWI := Lib.hid hwi; have HM := Lib.hid hM; have HN1 := Lib.hid hln1; have HH1 := Lib.hid h1; have HK1 := Lib.hid hk1
     clear hc1 hc2 hl1 hg hmem hcin hbest hch hcost hln hmt hbf hwi hM hln1 hCM h h1 hG hbk hk hk1 hp hq1 hq2 hq3
     go_wp2_with fail
     refine (HRN.out _ hB).mono ?_; rintro e wc ⟨rfl, hb⟩
     replace hB := hB.trans (hb.mono hB.size); replace hX := hX.below hb hX.lt; clear hb qX; have qX := fun i => hX.cell i
     go_wp2_with fail
     refine (HL1.out _ hB).mono ?_; rintro e wc ⟨rfl, hb⟩
     replace hB := hB.trans (hb.mono hB.size); replace hX := hX.below hb hX.lt; clear hb qX; have qX := fun i => hX.cell i
     go_wp2_with fail
     refine (HC1.out _ hB).mono ?_; rintro e wc ⟨⟨u, rfl, hU⟩, hb⟩
     replace hB := hB.trans (hb.mono hB.size); replace hX := hX.below hb hX.lt; clear hb qX; have qX := fun i => hX.cell i
     go_wp2_with fail
     refine (HC2.out _ hB).mono ?_; rintro e wc ⟨⟨v, rfl, hV⟩, hb⟩
     replace hB := hB.trans (hb.mono hB.size); replace hX := hX.below hb hX.lt; replace hU := hU.below hb; clear hb qX; have qX := fun i => hX.cell i
     obtain ⟨A5, m5, c5, rs, rfl, a1, a2, a3, a4, a5, a6⟩ := id hU
     obtain ⟨A6, n6, c6, rfl, b1, b2, b3, b4⟩ := id hV
     have hm5 : RL.length = m5 := by have := a4.len; rw [← a6]; simpa using this
     have hn6 : CM.length = n6 := by simpa using b4.len
     have hm1 : ¬ (m5 : Int) < 1 := by omega
     have hm121 : m5 ≤ 121 := by rw [← hm5]; exact HG0.out.2.2
     have hn4 : ¬ (4 : Int) < (n6 : Int) := by omega
     have HM5 := Lib.hid hm5; have HN6 := Lib.hid hn6; have HRS := Lib.hid a6
     clear hm5 hn6 a1 a2 a3 a4 a5 a6 b1 b2 b3 b4 hcm hpos
     go_wp2_with fail
     refine (HLN.out _ hB _ hU).mono ?_; rintro e wc ⟨rfl, hb⟩
     replace hB := hB.trans (hb.mono hB.size); replace hX := hX.below hb hX.lt; replace hU := hU.below hb; replace hV := hV.below hb; clear hb qX; have qX := fun i => hX.cell i
     go_wp2_with fail
     rename World => wz
     have hBz := hB
     go_loopg [12, 13, 14] m5 (fun g a c i wr => ∃ (k : Nat) (wi : Bool), g = m5 - k ∧ k ≤ m5 ∧ a = .bool wi ∧ c = .bool true ∧ i = .int .i64 k ∧ Hid (wi = (RL.take k).all (wtnB l1)) ∧ Below wz.heap.size wz wr ∧ Blk wr w.heap.size 24 #[.int .i64 (wn : Int), .slice A n cap])
     case atStart => exact ⟨0, true, rfl, Nat.zero_le _, rfl, rfl, rfl, Lib.hid rfl, Below.refl _ _, hX⟩
     case round =>
      clear hX qX hB
      obtain ⟨k, wi, hg, hk, rfl, rfl, rfl, hwi, hBd, hX⟩ := hrel
      rename World => wr
      have HG := Lib.hid hg; clear hg
      have hB := hBz.trans (hBd.mono hBz.size)
      have qX := fun i => hX.cell i
      have hUr := hU.below hBd; have hVr := hV.below hBd
      by_cases hlt : k < m5
      ·have hlti : (k : Int) < m5 := by omega
       obtain ⟨A5', m5', c5', rs', e', a1, a2, a3, a4, a5, a6⟩ := id hUr
       cases e'
       obtain ⟨b', off, hz, rfl, hbb, hc0⟩ := a4.atm hlt
       have hkL : k < RL.length := by rw [HM5.out]; exact hlt
       have hLk : RL[k] = rs'[k].ws := by
        have h9 := a6
        subst h9
        simp
       have hxo := a5 _ (List.getElem_mem hz)
       have htk : (RL.take (k + 1)).all (wtnB l1) = (wi && wtnB l1 rs'[k].ws) := by rw [List.take_succ_eq_append_getElem hkL, List.all_append, hLk, hwi.out]; simp
       have hmx : rs'[k].ws ∈ RL := by rw [← hLk]; exact List.getElem_mem hkL
       have hci : wtnB CM rs'[k].ws = true := List.all_eq_true.1 HCIN.out _ hmx
       have hgx := HG0.out.1 _ hmx
       have hcx := HCOST.out _ hmx
       unfold RI.val at hc0
       generalize rs'[k] = yy at *
       obtain ⟨ya, yn, yc, y⟩ := yy
       simp only at hc0 hxo htk hci hgx hcx
       have hIY : IA wr ya yn yc y := ⟨hxo.1.1, hxo.1.2.1, hxo.1.2.2⟩
       have hyn : yn ≤ 1000000 := hxo.2
       clear hmx hLk hkL hz hxo a4 a5 a6 a1 a2 a3
       have hcc := fun (z : Blw wr.heap.size wr) => HCH.out z.toW (hB.trans (z.h.mono hB.size)) ya yn yc y (hIY.toW z.h) hgx
       rw [hcx] at hcc
       have hq1 := fun (z : Blw wr.heap.size wr) => ((Blw.h z).cell (p := ⟨b', off + k, none⟩) hbb).trans hc0
       have hq3 := fun (z : Blw wr.heap.size wr) i => blw_blk hX z i
       have hlX := hX.lt
       have HCC := Lib.hid hcc; have HTK := Lib.hid htk; have HIY := Lib.hid hIY; have HCI := Lib.hid hci; have HGX := Lib.hid hgx; clear hcc htk hIY hci hgx hcx hwi
       go_upto_region 11 with (fail)
       refine wp_region_blw (by kernel_rfl) (by kernel_rfl) ?_
       repeat (go_big_quiet_step (fail))
       go_big_quiet_step ((go_at_call 48; exact Calls.blw_of _ (HCC.out _)))
       repeat (go_big_quiet_step (fail))
       refine wpQuiet_nil ?_
       rintro W3 ⟨⟨_, hb3⟩, rfl⟩
       clear hq1 hq3 hlX qX HCC
       replace hc0 := (hb3.cell (p := ⟨b', off + k, none⟩) hbb).trans hc0
       replace hbb := Nat.lt_of_lt_of_le hbb hb3.size
       replace hX := hX.below hb3 hX.lt; replace hB := hB.trans (hb3.mono hB.size); replace hBd := hBd.trans (hb3.mono hBd.size); replace hVr := hVr.below hb3
       have hIY3 := HIY.out.toW hb3
       obtain ⟨A6', n6', c6', e6, d1, d2, d3, d4⟩ := id hVr
       cases e6
       clear hb3 hUr
       have hne : ((RC : Int) != (RC : Int)) = false := by simp
       generalize hR : wtnB l1 y = R at *
       cases wi
       ·have hw2 := fun (wx : World) (hx : Below W3.heap.size W3 wx) => within49_any A6 n6 c6 CM ya yn yc y wx ⟨d1, d2, rdB d4 hx⟩ (hIY3.toW hx) d3 hyn
        rw [HCI.out] at hw2
        have HW2 := Lib.hid hw2; clear hw2 d1 d2 d3 d4
        go_wp2_with fail
        refine (HW2.out _ (Below.refl _ _)).mono ?_; rintro e wc ⟨rfl, hb⟩
        replace hX := hX.below hb hX.lt; replace hBd := hBd.trans (hb.mono hBd.size)
        clear hb
        go_wp2_with fail
        go_roundg (m5 - (k + 1))
        case measure => rw [HG.out]; omega
        case rel => exact ⟨k + 1, false, rfl, by omega, rfl, rfl, by go_num, Lib.hid (by rw [HTK.out]; rfl), hBd, hX⟩
       ·have hw2 := fun (wx : World) (hx : Below W3.heap.size W3 wx) => within49_any A6 n6 c6 CM ya yn yc y wx ⟨d1, d2, rdB d4 hx⟩ (hIY3.toW hx) d3 hyn
        rw [HCI.out] at hw2
        have hw1 := HWI.out W3 hB ya yn yc y hIY3 hyn
        rw [hR] at hw1
        have HW2 := Lib.hid hw2; have HW1 := Lib.hid hw1; clear hw2 hw1 d1 d2 d3 d4
        go_wp2_with fail
        refine (HW1.out).mono ?_; rintro e wc ⟨rfl, hb⟩
        replace hX := hX.below hb hX.lt; replace hBd := hBd.trans (hb.mono hBd.size)
        replace hc0 := (hb.cell (p := ⟨b', off + k, none⟩) hbb).trans hc0
        go_wp2_with fail
        refine (HW2.out _ hb).mono ?_; rintro e wc2 ⟨rfl, hb2⟩
        replace hX := hX.below hb2 hX.lt; replace hBd := hBd.trans (hb2.mono hBd.size)
        clear hb hb2
        go_wp2_with fail
        go_roundg (m5 - (k + 1))
        case measure => rw [HG.out]; omega
        case rel => exact ⟨k + 1, R, rfl, by omega, rfl, rfl, by go_num, Lib.hid (by rw [HTK.out]; rfl), hBd, hX⟩
      ·obtain rfl : k = m5 := by omega
       have hge : ¬ (k : Int) < k := by omega
       have hwi2 : wi = inAll RL l1 := by rw [hwi.out, List.take_of_length_le (by rw [HM5.out]; exact Nat.le_refl _)]; rfl
       have HW := Lib.hid hwi2; clear hwi2 hwi
       have hcc := HCH.out wr hB A1 n1 c1 l1 (HH1.out.toW hB) HK1.out
       rw [← HM.out] at hcc
       have HCC := Lib.hid hcc; clear hcc
       have hnlt : ¬ (M : Int) < (RC : Int) := by omega
       go_wp2_with fail
       refine (HCC.out).mono ?_; rintro e wc ⟨rfl, hb⟩
       replace hX := hX.below hb hX.lt; replace hB := hB.trans (hb.mono hB.size); replace hUr := hUr.below hb; replace hVr := hVr.below hb
       clear hb qX
       have hmt := HMT.out wc hB _ hUr
       by_cases hmr : M = RC
       ·rw [decide_eq_true (HMEM.out.2 hmr)] at hmt
        have HMT2 := Lib.hid hmt; clear hmt
        subst hmr
        have heqM : ((M : Int) == (M : Int)) = true := by simp
        go_wp2_with fail
        refine (HMT2.out).mono ?_; rintro e wd ⟨rfl, hb⟩
        replace hX := hX.below hb hX.lt; replace hB := hB.trans (hb.mono hB.size); replace hVr := hVr.below hb
        clear hb
        cases wi
        ·go_wp2_with fail
         refine (known_true m _ (hE.below hB)).mono ?_; rintro e wc ⟨rfl, hb⟩
         replace hB := hB.trans (hb.mono hB.size); clear hb
         go_wp2_with fail
         go_ret
         exact ⟨rfl, hB⟩
        ·rcases HBEST.out HW.out.symm with hbl | ⟨hbe, hbf⟩
         ·have hlt6 : (n1 : Int) < (n6 : Int) := by have := HN1.out; have := HN6.out; omega
          go_wp2_with fail
          refine (known_true m _ (hE.below hB)).mono ?_; rintro e wc ⟨rfl, hb⟩
          replace hB := hB.trans (hb.mono hB.size); clear hb
          go_wp2_with fail
          go_ret
          exact ⟨rfl, hB⟩
         ·have heq6 : (n1 : Int) = (n6 : Int) := by have := HN1.out; have := HN6.out; omega
          have hnl6 : ¬ (n1 : Int) < (n6 : Int) := by omega
          obtain ⟨A6', n6', c6', e6, d1, d2, d3, d4⟩ := id hVr
          cases e6
          have hbb := HBF.out wd hB A6 n6 c6 CM ⟨d1, d2, d4⟩ d3
          rw [hbf] at hbb
          have HBB := Lib.hid hbb; clear hbb d1 d2 d3 d4 hbe hbf
          go_wp2_with fail
          refine (HBB.out).mono ?_; rintro e wf ⟨rfl, hb⟩
          replace hB := hB.trans (hb.mono hB.size); clear hb
          go_wp2_with fail
          refine (known_true m _ (hE.below hB)).mono ?_; rintro e wc ⟨rfl, hb⟩
          replace hB := hB.trans (hb.mono hB.size); clear hb
          go_wp2_with fail
          go_ret
          exact ⟨rfl, hB⟩
       ·rw [decide_eq_false (fun h => hmr (HMEM.out.1 h))] at hmt
        have HMT2 := Lib.hid hmt; clear hmt
        have hmri : ((M : Int) == (RC : Int)) = false := beq_false_of_ne (by omega)
        go_wp2_with fail
        refine (HMT2.out).mono ?_; rintro e wd ⟨rfl, hb⟩
        replace hX := hX.below hb hX.lt; replace hB := hB.trans (hb.mono hB.size); replace hVr := hVr.below hb
        clear hb
        cases wi
        ·go_wp2_with fail
         refine (known_true m _ (hE.below hB)).mono ?_; rintro e wc ⟨rfl, hb⟩
         replace hB := hB.trans (hb.mono hB.size); clear hb
         go_wp2_with fail
         go_ret
         exact ⟨rfl, hB⟩
        ·rcases HBEST.out HW.out.symm with hbl | ⟨hbe, hbf⟩
         ·have hlt6 : (n1 : Int) < (n6 : Int) := by have := HN1.out; have := HN6.out; omega
          go_wp2_with fail
          refine (known_true m _ (hE.below hB)).mono ?_; rintro e wc ⟨rfl, hb⟩
          replace hB := hB.trans (hb.mono hB.size); clear hb
          go_wp2_with fail
          go_ret
          exact ⟨rfl, hB⟩
         ·have heq6 : (n1 : Int) = (n6 : Int) := by have := HN1.out; have := HN6.out; omega
          have hnl6 : ¬ (n1 : Int) < (n6 : Int) := by omega
          obtain ⟨A6', n6', c6', e6, d1, d2, d3, d4⟩ := id hVr
          cases e6
          have hbb := HBF.out wd hB A6 n6 c6 CM ⟨d1, d2, d4⟩ d3
          rw [hbf] at hbb
          have HBB := Lib.hid hbb; clear hbb d1 d2 d3 d4 hbe hbf
          go_wp2_with fail
          refine (HBB.out).mono ?_; rintro e wf ⟨rfl, hb⟩
          replace hB := hB.trans (hb.mono hB.size); clear hb
          go_wp2_with fail
          refine (known_true m _ (hE.below hB)).mono ?_; rintro e wc ⟨rfl, hb⟩
          replace hB := hB.trans (hb.mono hB.size); clear hb
          go_wp2_with fail
          go_ret
          exact ⟨rfl, hB⟩
end
section
open Go.ChangeShapes Go.WideShapes Go.ChangeAt Go.RowKit Go.Deep Go.Lib
set_option maxRecDepth 100000
section
variable {H : Type} {enc : TypeId × Value → H} {w : World} {base : Nat} {spare : Nat → Bool} {held : Bool} {r : Reach} {b0 : Nat} {v : Value} {d : DataW H} {p : List MemPlace}
theorem law_num (hv : Value.okWide Tryz.prog w r b0 3 v) (h : DataW.Trod enc Tryz.prog w base spare held 3 v d p) : ∃ k : Int, v = .int .i64 k ∧ -9223372036854775808 ≤ k ∧ k ≤ 9223372036854775807 := by
 obtain ⟨k, rfl, rfl, rfl, wk⟩ := open_int Tryz.underlying3 hv h
 have := wk
 simp [Lit.wf, IntKind.min, IntKind.max, IntKind.signed, IntKind.bits] at this
 exact ⟨k, rfl, by omega, by omega⟩
end
end
end Go.Proofs.YtekmnelpkogppaaGreatDoor
