import Derived.Test.YtekmnelpkogppaaGreatDoorKw11
set_option linter.unusedVariables false
set_option linter.unusedSimpArgs false
set_option maxRecDepth 100000
set_option maxHeartbeats 40000000
namespace Go.Proofs.YtekmnelpkogppaaGreatDoor
section
section
variable {α : Type} [DecidableEq α]
theorem ed_tri (a b c : List α) : ed a c ≤ ed a b + ed b c := by
 obtain ⟨l, hl, hs⟩ := scr_comp _ (Nat.lt_succ_self _) (ed_scr a b) (ed_scr b c)
 exact Nat.le_trans (scr_ed _ _ hs) hl
theorem ed_self (a : List α) : ed a a = 0 := Nat.le_zero.1 (scr_ed _ _ (scr_refl a))
end
theorem ed_map {α β : Type} [DecidableEq α] [DecidableEq β] (f : α → β) : ∀ (a b : List α), (∀ x ∈ a, ∀ y ∈ b, f x = f y → x = y) → ed (a.map f) (b.map f) = ed a b
 | [], b, _ => by simp [ed_nil]
 | x :: xs, b, h => by
  have ih := fun b hb => ed_map f xs b hb
  induction b with
  | nil => simp [ed_nil_r]
  | cons y ys ihb =>
   rw [List.map_cons, List.map_cons, ed_cons, ed_cons, ← List.map_cons, ← List.map_cons]
   rw [ih ys (fun p hp q hq => h p (by simp [hp]) q (by simp [hq])), ih (y :: ys) (fun p hp q hq => h p (by simp [hp]) q hq), ihb (fun p hp q hq => h p hp q (by simp [hq]))]
   by_cases e : x = y
   ·rw [if_pos e, if_pos (by rw [e])]
   ·rw [if_neg e, if_neg (fun e2 => e (h x (by simp) y (by simp) e2))]
end
section
open Go.RowKit Go.Lib
theorem IA.toW {w w' : World} {A : Option Addr} {n cap : Nat} {l : List Int} (h : IA w A n cap l) (hb : Below w.heap.size w w') : IA w' A n cap l := ⟨h.1, h.2.1, rdB h.2.2 hb⟩
theorem IA.max {w : World} {A : Option Addr} {n cap : Nat} {l : List Int} (h : IA w A n cap l) : n ≤ maxLen := Nat.le_trans h.1 h.2.1
theorem IA.len {w : World} {A : Option Addr} {n cap : Nat} {l : List Int} (h : IA w A n cap l) : l.length = n := by simpa using h.2.2.len
theorem u8_inj {x y : Int} (hx : 0 ≤ x ∧ x ≤ 2) (hy : 0 ≤ y ∧ y ≤ 2) (e : UInt8.ofNat x.toNat = UInt8.ofNat y.toNat) : x = y := by
 have h := congrArg UInt8.toNat e
 simp only [UInt8.toNat_ofNat'] at h
 omega
theorem edB_int {a b : List Int} (ha : ∀ x ∈ a, 0 ≤ x ∧ x ≤ 2) (hb : ∀ x ∈ b, 0 ≤ x ∧ x ≤ 2) : edB (lbS a) (lbS b) = ed a b := by
 show ed (lbL a) (lbL b) = ed a b
 unfold lbL
 exact ed_map _ a b (fun x hx y hy e => u8_inj (ha x hx) (hb y hy) e)
theorem book_W {W : Int} {cs : List VC} (h : bookB W cs = true) : 1 ≤ W ∧ W ≤ 3 := by
 unfold bookB at h
 simp only [Bool.and_eq_true] at h
 simpa [inB] using h.1.1.1
section
variable {W : Int} {A : Option Addr} {n cap : Nat} {cs : List VC} {w : World} {A1 A2 : Option Addr} {n1 n2 c1 c2 : Nat} {l1 l2 : List Int}
theorem Line_I (h : BkI w A n cap cs) (hk : bookB W cs = true) (h1 : IA w A1 n1 c1 l1) : Calls Tryz.prog 28 #[.agg #[.int .i64 W, .slice A n cap], .slice A1 n1 c1] w fun e w' => e = .returned (.bool (lnB W l1)) ∧ Below w.heap.size w w' := refLine_any W A n cap A1 n1 c1 l1 w (by have := book_W hk; omega) (by have := book_W hk; omega) h1.max h1.2.2
theorem Changes_I (h : BkI w A n cap cs) (hk : bookB W cs = true) (h1 : IA w A1 n1 c1 l1) (h2 : IA w A2 n2 c2 l2) (k1 : lnB W l1 = true) (k2 : lnB W l2 = true) :
  Calls Tryz.prog 26 #[.agg #[.int .i64 W, .slice A n cap], .slice A1 n1 c1, .slice A2 n2 c2] w fun e w' => e = .returned (.tuple #[.int .i64 (ed l1 l2 : Nat), .int .i64 0]) ∧ Below w.heap.size w w' := by
 have h3 := Changes_yes W A n cap cs A1 n1 c1 l1 A2 n2 c2 l2 w h.max h.2.2.1 h.2.2.2 h1.max h1.2.2 h2.max h2.2.2 hk k1 k2
 rw [edB_int (ln_small (book_W hk) k1).2 (ln_small (book_W hk) k2).2] at h3
 exact h3
def RightB (W : Int) (cs : List VC) (e : Ending) : Prop := ∃ b : Bool, e = .returned (.bool b) ∧ (b = true → bookB W cs = true)
theorem right_any (h : BkI w A n cap cs) : Calls Tryz.prog 30 #[.agg #[.int .i64 W, .slice A n cap]] w fun e w' => RightB W cs e ∧ Below w.heap.size w w' := by
 have hX := Blk.new w 24 #[.int .i64 W, .slice A n cap]
 have hB : Below w.heap.size w (w.alloc (.cells #[.int .i64 W, .slice A n cap] 24)) := (Below.refl _ w).alloc (Nat.le_refl _) _
 have qX := fun i => hX.cell i
 go_enter Tryz.func30, Tryz.ntmps30
 go_wp2_with fail
 refine (short_any W A n cap cs _ (h.toW hB)).mono ?_; rintro e wc ⟨⟨b, rfl⟩, hb⟩
 replace hB := hB.trans (hb.mono hB.size); replace hX := hX.below hb hX.lt; clear hb qX; have qX := fun i => hX.cell i
 cases b with
 | false =>
  go_wp2_with fail
  go_ret
  exact ⟨⟨false, rfl, fun h => by cases h⟩, hB⟩
 | true =>
  have hbk := refBook_any W A n cap cs
  obtain ⟨R, hR⟩ : ∃ R, R = bookB W cs := ⟨_, rfl⟩
  rw [← hR] at hbk
  have HR := Lib.hid hR; clear hR
  go_wp2_with fail
  refine (hbk _ (h.toW hB)).mono ?_; rintro e wc ⟨rfl, hb⟩
  replace hB := hB.trans (hb.mono hB.size); clear hb qX
  go_wp2_with fail
  go_ret
  exact ⟨⟨R, rfl, fun h => by rw [← HR.out]; exact h⟩, hB⟩
end
end
section
open Go.RowKit Go.Lib
theorem lnB_len {W : Int} {l : List Int} (h : lnB W l = true) : l.length ≤ 4 := by
 unfold lnB at h
 simp only [Bool.and_eq_true, decide_eq_true_eq] at h
 exact h.1
end
section
open Go.RowKit Go.Lib
def allLL (wn : Nat) : List (List Int) := (List.range 5).flatMap fun k => allLs k wn
theorem allLL_mem {wn : Nat} {l : List Int} (h : l ∈ allLL wn) : l.length ≤ 4 ∧ ∀ x ∈ l, 0 ≤ x ∧ x < (wn : Int) := by
 obtain ⟨k, hk, hl⟩ := List.mem_flatMap.1 h
 obtain ⟨h1, h2⟩ := allLs_mem hl
 have := List.mem_range.1 hk
 exact ⟨by omega, h2⟩
theorem allLL_len {wn : Nat} (h1 : 1 ≤ wn) (h3 : wn ≤ 3) : (allLL wn).length ≤ 121 := by
 have : wn = 1 ∨ wn = 2 ∨ wn = 3 := by omega
 rcases this with rfl | rfl | rfl
 ·exact of_decide_eq_true (by kernel_rfl)
 ·exact of_decide_eq_true (by kernel_rfl)
 ·exact of_decide_eq_true (by kernel_rfl)
def LRows (w : World) (B : Nat) (rs : List RI) (L : List (List Int)) : Prop := rs.map RI.ws = L ∧ ∀ r ∈ rs, w.ownsRow B 3 1 r.val r.n (r.ws.map (Value.int .i64))
end
section
open Go.RowKit Go.Lib
def betL (wn : Nat) (a b : List Int) : List (List Int) := (allLL wn).filter fun l => ed a l + ed l b == ed a b
end
section
open Go.RowKit Go.Lib
theorem nwL_lbS {l : List Int} (h : ∀ x ∈ l, 0 ≤ x ∧ x ≤ 2) : nwL (lbS l) = l := by
 unfold nwL lbS lbL
 show (l.map fun x => UInt8.ofNat x.toNat).map (fun b => ((b.toNat : Nat) : Int)) = l
 rw [List.map_map]
 conv => rhs; rw [← List.map_id l]
 refine List.map_congr_left fun x hx => ?_
 have := h x hx
 simp only [Function.comp_apply, UInt8.toNat_ofNat', id]
 omega
theorem allLn_LL (wn : Nat) : allLn wn = (allLL wn).map lbS := by
 unfold allLn allLL
 rw [List.map_flatMap]
theorem allLL_small {wn : Nat} (h3 : wn ≤ 3) {l : List Int} (h : l ∈ allLL wn) : ∀ x ∈ l, 0 ≤ x ∧ x ≤ 2 := fun x hx => by
 have := (allLL_mem h).2 x hx
 omega
theorem between_bet {wn : Nat} (h3 : wn ≤ 3) {a b : List Int} (ha : ∀ x ∈ a, 0 ≤ x ∧ x ≤ 2) (hb : ∀ x ∈ b, 0 ≤ x ∧ x ≤ 2) : (betweenL wn (lbS a) (lbS b)).map nwL = betL wn a b := by
 unfold betweenL betL
 rw [allLn_LL, List.filter_map, List.map_map]
 have e1 : (allLL wn).filter (liesB (lbS a) (lbS b) ∘ lbS) = (allLL wn).filter fun l => ed a l + ed l b == ed a b := by
  refine List.filter_congr fun l hl => ?_
  have hs := allLL_small h3 hl
  simp only [Function.comp_apply, liesB]
  rw [edB_int ha hs, edB_int hs hb, edB_int ha hb]
  by_cases h : ed a l + ed l b = ed a b
  ·rw [decide_eq_true (by omega)]; simp [h]
  ·rw [decide_eq_false (by omega)]; simp [h]
 rw [e1]
 conv => rhs; rw [← List.map_id (List.filter _ (allLL wn))]
 refine List.map_congr_left fun l hl => ?_
 exact nwL_lbS (allLL_small h3 (List.mem_filter.1 hl).1)
theorem LL.of_lrows {w : World} {base N : Nat} {v : Value} {rs : List RI} {L : List (List Int)} (h : w.ownsRow base 25 1 v N (rs.map RI.val)) (hR : LRows w base rs L) (hN : N ≤ 1000000) (hl : ∀ l ∈ L, l.length ≤ 1000) : LL w v L := by
 obtain ⟨a, c, rfl⟩ := own_slice h
 refine ⟨a, N, c, rs, rfl, own_le0 h, own_cap h, hN, Rd.of_own h, fun r hr => ?_, hR.1⟩
 have h2 := hR.2 r hr
 have h4 := hl r.ws (by rw [← hR.1]; exact List.mem_map_of_mem hr)
 have h5 : r.ws.length = r.n := by have := h2.1; simpa using this
 exact ⟨⟨own_le0 h2, own_cap h2, Rd.of_own h2⟩, by omega⟩
theorem betL_le {wn : Nat} (h1 : 1 ≤ wn) (h3 : wn ≤ 3) (a b : List Int) : (betL wn a b).length ≤ 121 ∧ ∀ l ∈ betL wn a b, l.length ≤ 4 :=
 ⟨Nat.le_trans (List.length_filter_le _ _) (allLL_len h1 h3), fun l hl => (allLL_mem (List.mem_filter.1 hl).1).1⟩
section
variable {wn : Nat} {A : Option Addr} {n cap : Nat} {cs : List VC} {w : World} {A1 A2 : Option Addr} {n1 n2 c1 c2 : Nat} {l1 l2 : List Int}
theorem Between_I (h : BkG wn A n cs w w.heap.size) (hk : bookB (wn : Int) cs = true) (h1 : IA w A1 n1 c1 l1) (h2 : IA w A2 n2 c2 l2) (k1 : lnB (wn : Int) l1 = true) (k2 : lnB (wn : Int) l2 = true) :
  Calls Tryz.prog 38 #[.agg #[.int .i64 (wn : Int), .slice A n cap], .slice A1 n1 c1, .slice A2 n2 c2] w fun e w' => (∃ u, e = .returned (.tuple #[u, .int .i64 0]) ∧ LL w' u (betL wn l1 l2)) ∧ Below w.heap.size w w' := by
 refine (Between_yes cap A1 n1 c1 l1 A2 n2 c2 l2 h hk h1.max h1.2.2 h2.max h2.2.2 k1 k2).mono ?_
 rintro e w' ⟨⟨v, rfl, rs, hown, hrows⟩, hb⟩
 have hw := book_W hk
 have s1 := (ln_small hw k1).2; have s2 := (ln_small hw k2).2
 have hl := betL_le h.1.1 h.1.2 l1 l2
 have e0 := between_bet h.1.2 s1 s2
 have e1 : (betweenL wn (lbS l1) (lbS l2)).length = (betL wn l1 l2).length := by rw [← e0, List.length_map]
 refine ⟨⟨v, rfl, LL.of_lrows (L := betL wn l1 l2) (base := w.heap.size) hown ⟨hrows.1.trans e0, fun r hr => (hrows.2 r hr).1⟩ (by omega) (fun l hl' => by have := hl.2 l hl'; omega)⟩, hb⟩
end
end
section
open Go.RowKit Go.Lib
def befL : List Int → List Int → Bool
 | [], b => decide (0 < b.length)
 | _ :: _, [] => false
 | x :: xs, y :: ys => if x = y then befL xs ys else decide (x < y)
def b89 (a b : List Int) : Bool := if a.length = b.length then befL a b else decide (a.length < b.length)
theorem befL_end : ∀ (a b : List Int) (_ : a = [] ∨ b = []), befL a b = decide (a.length < b.length)
 | [], b, _ => rfl
 | x :: xs, [], _ => by simp [befL]
 | x :: xs, y :: ys, h => by rcases h with h | h <;> cases h
theorem before_any (A : Option Addr) (n cap : Nat) (xs : List Int) (A2 : Option Addr) (n2 cap2 : Nat) (ys : List Int) (w : World) (h1 : IA w A n cap xs) (h2 : IA w A2 n2 cap2 ys) (hn : n ≤ 1000000) (hn2 : n2 ≤ 1000000) :
  Calls Tryz.prog 50 #[.slice A n cap, .slice A2 n2 cap2] w fun e w' => e = .returned (.bool (befL xs ys)) ∧ Below w.heap.size w w' := by
 have hl1 := h1.len; have hl2 := h2.len
 obtain ⟨R, hR⟩ : ∃ R, R = befL xs ys := ⟨_, rfl⟩
 rw [← hR]
 have H1 := Lib.hid h1; have H2 := Lib.hid h2; clear h1 h2
 go_enter Tryz.func50, Tryz.ntmps50
 go_wp2_with fail
 go_loopg [5] n (fun g i wr => ∃ k : Nat, g = n - k ∧ k ≤ n ∧ k ≤ n2 ∧ i = .int .i64 k ∧ Hid (R = befL (xs.drop k) (ys.drop k)) ∧ Below w.heap.size w wr)
 case atStart => exact ⟨0, rfl, Nat.zero_le _, Nat.zero_le _, rfl, Lib.hid hR, Below.refl _ _⟩
 case round =>
  clear hR
  obtain ⟨k, hg, hk, hk2, rfl, hpre, hB⟩ := hrel
  rename World => wr
  have HG := Lib.hid hg; clear hg
  by_cases hlt : k < n
  ·by_cases hlt2 : k < n2
   ·have hlti : (k : Int) < n := by omega
    have hlti2 : (k : Int) < n2 := by omega
    obtain ⟨b, off, hz, rfl, hb, hc1⟩ := (H1.out.toW hB).2.2.atm hlt
    obtain ⟨b2, off2, hz2, rfl, hb2, hc2⟩ := (H2.out.toW hB).2.2.atm hlt2
    have e1 : xs.drop k = xs[k] :: xs.drop (k + 1) := List.drop_eq_getElem_cons hz
    have e2 : ys.drop k = ys[k] :: ys.drop (k + 1) := List.drop_eq_getElem_cons hz2
    have hp := hpre.out
    rw [e1, e2, befL] at hp
    generalize xs[k] = x at *
    generalize ys[k] = y at *
    have HP := Lib.hid hp; clear hp e1 e2 hz hz2 hpre
    have hq1 := fun (p : Blw wr.heap.size wr) => ((Blw.h p).cell (p := ⟨b, off + k, none⟩) hb).trans hc1
    have hq2 := fun (p : Blw wr.heap.size wr) => ((Blw.h p).cell (p := ⟨b2, off2 + k, none⟩) hb2).trans hc2
    go_upto_region 4 with (fail)
    refine wp_region_blw (by kernel_rfl) (by kernel_rfl) ?_
    repeat (go_big_quiet_step (fail))
    refine wpQuiet_nil ?_
    rintro W3 ⟨⟨_, hb3⟩, rfl⟩
    clear hq1 hq2
    replace hc1 := (hb3.cell (p := ⟨b, off + k, none⟩) hb).trans hc1
    replace hc2 := (hb3.cell (p := ⟨b2, off2 + k, none⟩) hb2).trans hc2
    replace hb := Nat.lt_of_lt_of_le hb hb3.size
    replace hb2 := Nat.lt_of_lt_of_le hb2 hb3.size
    replace hB := hB.trans (hb3.mono hB.size)
    clear hb3
    by_cases hxy : x = y
    ·subst hxy
     have HP2 : Hid (R = befL (xs.drop (k + 1)) (ys.drop (k + 1))) := Lib.hid (by rw [HP.out, if_pos rfl])
     clear HP
     go_wp2_with fail
     go_roundg (n - (k + 1))
     case measure => rw [HG.out]; omega
     case rel => exact ⟨k + 1, rfl, by omega, by omega, by go_num, HP2, hB⟩
    ·have HP2 : Hid (R = decide (x < y)) := Lib.hid (by rw [HP.out, if_neg hxy])
     clear HP
     have hq1 := fun (p : Blw W3.heap.size W3) => ((Blw.h p).cell (p := ⟨b, off + k, none⟩) hb).trans hc1
     have hq2 := fun (p : Blw W3.heap.size W3) => ((Blw.h p).cell (p := ⟨b2, off2 + k, none⟩) hb2).trans hc2
     go_upto_region 5 with (fail)
     refine wp_region_blw (by kernel_rfl) (by kernel_rfl) ?_
     repeat (go_big_quiet_step (fail))
     refine wpQuiet_nil ?_
     rintro W4 ⟨⟨_, hb3⟩, rfl⟩
     go_wp2_with fail
     go_ret
     exact ⟨by rw [HP2.out]; rfl, hB.trans (hb3.mono hB.size)⟩
   ·have hge : ¬ (k : Int) < n2 := by omega
    have hlti : (k : Int) < n := by omega
    have hp := hpre.out
    rw [befL_end _ _ (.inr (List.drop_eq_nil_of_le (by omega))), List.length_drop, List.length_drop, hl1, hl2] at hp
    have hp2 : R = false := by rw [hp, decide_eq_false (by omega)]
    have hno : ¬ (n : Int) < n2 := by omega
    have HP := Lib.hid hp2; clear hp hp2 hpre
    go_wp2_with fail
    go_ret
    refine ⟨?_, hB⟩
    rw [HP.out]
    first | rfl | (show Ending.returned (.bool (decide ((n : Int) < n2))) = _; rw [decide_eq_false hno])
  ·have hge : ¬ (k : Int) < n := by omega
   have hp := hpre.out
   rw [befL_end _ _ (.inl (List.drop_eq_nil_of_le (by omega))), List.length_drop, List.length_drop, hl1, hl2] at hp
   have hp2 : R = decide (n < n2) := by rw [hp]; congr 1; apply propext; omega
   have HP := Lib.hid hp2; clear hp hp2 hpre
   go_wp2_with fail
   go_ret
   exact ⟨by rw [HP.out]; rfl, hB⟩
theorem before89_any (A : Option Addr) (n cap : Nat) (xs : List Int) (A2 : Option Addr) (n2 cap2 : Nat) (ys : List Int) (w : World) (h1 : IA w A n cap xs) (h2 : IA w A2 n2 cap2 ys) (hn : n ≤ 1000000) (hn2 : n2 ≤ 1000000) :
  Calls Tryz.prog 89 #[.slice A n cap, .slice A2 n2 cap2] w fun e w' => e = .returned (.bool (b89 xs ys)) ∧ Below w.heap.size w w' := by
 have hl1 := h1.len; have hl2 := h2.len
 by_cases he : n = n2
 ·subst he
  have e : b89 xs ys = befL xs ys := by unfold b89; rw [if_pos (by omega)]
  rw [e]
  have hc := before_any A n cap xs A2 n cap2 ys w h1 h2 hn hn2
  generalize befL xs ys = R at *
  have HC := Lib.hid hc; clear hc h1 h2 e hl1 hl2
  have hne : ((n : Int) != (n : Int)) = false := by simp
  go_enter Tryz.func89, Tryz.ntmps89
  go_wp2_with fail
  refine HC.out.mono ?_; rintro e w1 ⟨rfl, hb⟩
  go_wp2_with fail
  go_ret
  exact ⟨rfl, hb⟩
 ·have e : b89 xs ys = decide (n < n2) := by
   unfold b89; rw [if_neg (by omega)]; congr 1; apply propext; omega
  rw [e]
  clear h1 h2 e hl1 hl2
  go_enter Tryz.func89, Tryz.ntmps89
  go_wp2_with fail
  go_ret
  exact ⟨rfl, Below.refl _ _⟩
theorem met_any {v : Value} {ls : List (List Int)} {w : World} (A2 : Option Addr) (n2 cap2 : Nat) (x : List Int) (h : LL w v ls) (hx : IA w A2 n2 cap2 x) (hn2 : n2 ≤ 1000000) :
  Calls Tryz.prog 42 #[v, .slice A2 n2 cap2] w fun e w' => e = .returned (.bool (decide (x ∈ ls))) ∧ Below w.heap.size w w' := by
 obtain ⟨A, n, cap, rs, rfl, _, _, hn, hr, hok, hws⟩ := h
 have hl : rs.length = n := by simpa using hr.len
 obtain ⟨R, hR⟩ : ∃ R, R = decide (x ∈ ls) := ⟨_, rfl⟩
 rw [← hR]
 have HR := Lib.hid hR; have HX := Lib.hid hx; have HO := Lib.hid hok; have HL := Lib.hid hl; have HW := Lib.hid hws; clear hR hx hok hl hws
 go_enter Tryz.func42, Tryz.ntmps42
 go_wp2_with fail
 go_loopg [5] n (fun g i wr => ∃ k : Nat, g = n - k ∧ k ≤ n ∧ i = .int .i64 k ∧ Hid (∀ r ∈ rs.take k, r.ws ≠ x) ∧ Below w.heap.size w wr)
 case atStart => exact ⟨0, rfl, Nat.zero_le _, rfl, Lib.hid (fun r hr => absurd hr List.not_mem_nil), Below.refl _ _⟩
 case round =>
  obtain ⟨k, hg, hk, rfl, hpre, hB⟩ := hrel
  rename World => wr
  have HG := Lib.hid hg; clear hg
  by_cases hlt : k < n
  ·have hlti : (k : Int) < n := by omega
   obtain ⟨b, off, hz, rfl, hb, hc1⟩ := (rdB hr hB).atm hlt
   have hzr : k < rs.length := by simpa using hz
   have htk : rs.take (k + 1) = rs.take k ++ [rs[k]] := List.take_succ_eq_append_getElem hzr
   obtain ⟨o1, o2⟩ := HO.out _ (List.getElem_mem hzr)
   have hmem : rs[k].ws ∈ ls := by rw [← HW.out]; exact List.mem_map_of_mem (List.getElem_mem hzr)
   generalize rs[k] = y at *
   obtain ⟨yA, yn, yc, yw⟩ := y
   obtain ⟨-, -, o1⟩ := o1
   simp only [RI.val] at hc1 o1 o2 hmem
   have hsm := same_any yA yn yc yw A2 n2 cap2 x wr o2 hn2 ((o1.below hB).more hB.size) (HX.out.toW hB).2.2
   have HTK := Lib.hid htk; have HM := Lib.hid hmem; clear htk hmem hz hzr o1 o2
   cases hd : decide (yw = x) with
   | true =>
    rw [hd] at hsm
    have e : R = true := by rw [HR.out, ← of_decide_eq_true hd]; exact decide_eq_true HM.out
    subst e
    have HS := Lib.hid hsm; clear hsm hd HR
    go_wp2_with fail
    refine HS.out.mono ?_; rintro e w1 ⟨rfl, hb1⟩
    go_wp2_with fail
    go_ret
    exact ⟨rfl, hB.trans (hb1.mono hB.size)⟩
   | false =>
    rw [hd] at hsm
    have hne : yw ≠ x := of_decide_eq_false hd
    have HS := Lib.hid hsm; have HNE := Lib.hid hne; clear hsm hd hne
    go_wp2_with fail
    refine HS.out.mono ?_; rintro e w1 ⟨rfl, hb1⟩
    replace hB := hB.trans (hb1.mono hB.size); clear hb1
    go_wp2_with fail
    go_roundg (n - (k + 1))
    case measure => rw [HG.out]; omega
    case rel =>
     refine ⟨k + 1, rfl, by omega, by go_num, Lib.hid ?_, hB⟩
     rw [HTK.out]
     intro r hr
     rcases List.mem_append.1 hr with h | h
     ·exact hpre.out r h
     ·obtain rfl := List.mem_singleton.1 h
      exact HNE.out
  ·obtain rfl : k = n := by omega
   have hge : ¬ (k : Int) < k := by omega
   have e : R = false := by
    rw [HR.out, decide_eq_false_iff_not, ← HW.out]
    intro h
    obtain ⟨r, hr, rfl⟩ := List.mem_map.1 h
    exact hpre.out r (by rw [List.take_of_length_le (by rw [HL.out]; exact Nat.le_refl _)]; exact hr) rfl
   subst e
   clear HR hpre
   go_wp2_with fail
   go_ret
   exact ⟨rfl, hB⟩
end
section
open Go.RowKit Go.Lib
def pwB : List (List Int) → Bool
 | [] => true
 | a :: l => l.all (b89 a) && pwB l
theorem pwB_pw : ∀ l : List (List Int), pwB l = true → l.Pairwise fun a b => b89 a b = true
 | [], _ => List.Pairwise.nil
 | a :: l, h => by
  rw [pwB, Bool.and_eq_true, List.all_eq_true] at h
  exact List.Pairwise.cons h.1 (pwB_pw l h.2)
theorem allLL_pw {wn : Nat} (h1 : 1 ≤ wn) (h3 : wn ≤ 3) : (allLL wn).Pairwise fun a b => b89 a b = true := by
 have : wn = 1 ∨ wn = 2 ∨ wn = 3 := by omega
 rcases this with rfl | rfl | rfl
 ·exact pwB_pw _ (by kernel_rfl : pwB (allLL 1) = true)
 ·exact pwB_pw _ (by kernel_rfl : pwB (allLL 2) = true)
 ·exact pwB_pw _ (by kernel_rfl : pwB (allLL 3) = true)
theorem allLL_has {wn : Nat} {l : List Int} (h : lnB (wn : Int) l = true) : l ∈ allLL wn := by
 unfold lnB at h
 rw [Bool.and_eq_true, decide_eq_true_eq, List.all_eq_true] at h
 refine List.mem_flatMap.2 ⟨l.length, List.mem_range.2 (by omega), allLs_has rfl fun x hx => ?_⟩
 have := h.2 x hx
 simp only [inB, Bool.and_eq_true, decide_eq_true_eq] at this
 omega
theorem allLL_lnB {wn : Nat} {l : List Int} (h : l ∈ allLL wn) : lnB (wn : Int) l = true := by
 have h2 := allLL_mem h
 unfold lnB
 rw [Bool.and_eq_true, decide_eq_true_eq, List.all_eq_true]
 refine ⟨h2.1, fun x hx => ?_⟩
 have := h2.2 x hx
 simp only [inB, Bool.and_eq_true, decide_eq_true_eq]
 omega
theorem betL_mem {wn : Nat} {a b l : List Int} (h : lnB (wn : Int) l = true) : l ∈ betL wn a b ↔ ed a l + ed l b = ed a b := by
 unfold betL
 rw [List.mem_filter]
 exact ⟨fun h => by simpa using h.2, fun h2 => ⟨allLL_has h, by simpa using h2⟩⟩
theorem betL_sub {wn : Nat} {a b c l : List Int} (hc : ed a c + ed c b = ed a b) (h : l ∈ betL wn a c) : l ∈ betL wn a b := by
 have hl := allLL_lnB (List.mem_filter.1 h).1
 rw [betL_mem hl] at h ⊢
 have h1 := ed_tri l c b
 have h2 := ed_tri a l b
 omega
theorem lawlines_any {W : Int} {A : Option Addr} {n cap : Nat} {cs : List VC} {v : Value} {ls : List (List Int)} {w : World} (hb : BkI w A n cap cs) (hk : bookB W cs = true) (h : LL w v ls) (hg : ∀ l ∈ ls, lnB W l = true) (hp : ls.Pairwise fun a b => b89 a b = true) (hm : ls.length ≤ 121) :
  Calls Tryz.prog 41 #[.agg #[.int .i64 W, .slice A n cap], v] w fun e w' => e = .returned (.bool true) ∧ Below w.heap.size w w' := by
 obtain ⟨lA, ln, lc, rs, rfl, _, _, hn, hr, hok, hws⟩ := h
 have hl : rs.length = ln := by simpa using hr.len
 have hll : ls.length = rs.length := by rw [← hws, List.length_map]
 have hn121 : ln ≤ 121 := by omega
 have HBK := Lib.hid hb; have HO := Lib.hid hok; have HW := Lib.hid hws; have HGD := Lib.hid hg; have HP := Lib.hid hp; have HK := Lib.hid hk; have HRL := Lib.hid hl
 clear hb hok hws hg hp hk hm hll hl hn
 have hX := Blk.new w 24 #[.int .i64 W, .slice A n cap]
 have hB : Below w.heap.size w (w.alloc (.cells #[.int .i64 W, .slice A n cap] 24)) := (Below.refl _ w).alloc (Nat.le_refl _) _
 have qX := fun i => hX.cell i
 have hrB := rdB hr hB
 have W0e : (w.alloc (.cells #[.int .i64 W, .slice A n cap] 24)) = (w.alloc (.cells #[.int .i64 W, .slice A n cap] 24)) := rfl
 clear W0e hrB
 go_enter Tryz.func41, Tryz.ntmps41
 go_wp2_with fail
 go_loopg [5] ln (fun g i wr => ∃ k : Nat, g = ln - k ∧ k ≤ ln ∧ i = .int .i64 k ∧ Below w.heap.size w wr ∧ Blk wr w.heap.size 24 #[.int .i64 W, .slice A n cap])
 case atStart => exact ⟨0, rfl, Nat.zero_le _, rfl, hB, hX⟩
 case round =>
  clear hX qX hB
  obtain ⟨k, hg, hk, rfl, hB, hX⟩ := hrel
  rename World => wr
  have HG := Lib.hid hg; clear hg
  by_cases hlt : k < ln
  ·have hlti : (k : Int) < ln := by omega
   have hlt200 : (k : Int) < 200 := by omega
   obtain ⟨b, off, hz, rfl, hbb, hc1⟩ := (rdB hr hB).atm hlt
   have hzr : k < rs.length := by simpa using hz
   have hmem : rs[k].ws ∈ ls := by rw [← HW.out]; exact List.mem_map_of_mem (List.getElem_mem hzr)
   obtain ⟨o1, o2⟩ := HO.out _ (List.getElem_mem hzr)
   have hgk := HGD.out _ hmem
   have hbf : ∀ (h0 : 0 < k), b89 rs[k - 1].ws rs[k].ws = true := fun h0 => by
    have h5 := List.pairwise_iff_getElem.1 HP.out (k - 1) k (by rw [← HW.out, List.length_map]; omega) (by rw [← HW.out, List.length_map]; omega) (by omega)
    have h6 : ∀ (i : Nat) (hi : i < ls.length) (hj : i < rs.length), ls[i] = rs[i].ws := by
     intro i hi hj
     have := List.getElem_of_eq HW.out.symm hi
     rw [this, List.getElem_map]
    rw [h6 _ _ (by omega), h6 _ _ hzr] at h5
    exact h5
   have hq1 := fun (p : Blw wr.heap.size wr) => ((Blw.h p).cell (p := ⟨b, off + k, none⟩) (Nat.lt_of_lt_of_le hbb (Nat.le_refl _))).trans hc1
   have hq3 := fun (p : Blw wr.heap.size wr) i => blw_blk hX p i
   have hlX := hX.lt
   have hxI : ∀ wx, Below w.heap.size w wx → IA wx rs[k].A rs[k].n rs[k].cap rs[k].ws := fun wx hx => ⟨o1.1, o1.2.1, (o1.2.2.below hx).more hx.size⟩
   have c28 := fun (p : Blw wr.heap.size wr) => Line_I (W := W) (w := p.toW) (HBK.out.toW (hB.trans (p.h.mono hB.size))) HK.out (hxI _ (hB.trans (p.h.mono hB.size)))
   rw [hgk] at c28
   have C28 := Lib.hid c28; clear c28 hmem hgk
   by_cases h0 : k = 0
   ·subst h0
    clear hbf hxI
    obtain ⟨xx, hxx⟩ : ∃ xx, xx = rs[0] := ⟨_, rfl⟩
    rw [← hxx] at C28 hq1
    clear hxx o1 o2 hz hzr hc1
    obtain ⟨xa, xn, xc, xw⟩ := xx
    simp only [RI.val] at hq1 C28
    simp only [Nat.add_zero] at hq1
    go_upto_region 4 with (fail)
    refine wp_region_blw (by kernel_rfl) (by kernel_rfl) ?_
    repeat (go_big_quiet_step (fail))
    go_big_quiet_step ((go_at_call 28; exact Calls.blw_of _ (C28.out _)))
    repeat (go_big_quiet_step (fail))
    refine wpQuiet_nil ?_
    rintro W3 ⟨⟨_, hb3⟩, rfl⟩
    clear hq1 hq3
    replace hX := hX.below hb3 hlX; replace hB := hB.trans (hb3.mono hB.size); clear hb3 hlX
    go_wp2_with fail
    go_roundg (ln - 1)
    case measure => rw [HG.out]; omega
    case rel => exact ⟨1, rfl, by omega, by go_num, hB, hX⟩
   ·obtain ⟨j, rfl⟩ : ∃ j, k = j + 1 := ⟨k - 1, by omega⟩
    have hzj : j < rs.length := by omega
    obtain ⟨p1, p2⟩ := HO.out _ (List.getElem_mem hzj)
    have hbf' := hbf (by omega)
    simp only [Nat.add_sub_cancel] at hbf'
    have hyI : ∀ wx, Below w.heap.size w wx → IA wx rs[j].A rs[j].n rs[j].cap rs[j].ws := fun wx hx => ⟨p1.1, p1.2.1, (p1.2.2.below hx).more hx.size⟩
    have c89 := fun (p : Blw wr.heap.size wr) => before89_any _ _ _ _ _ _ _ _ p.toW (hyI _ (hB.trans (p.h.mono hB.size))) (hxI _ (hB.trans (p.h.mono hB.size))) p2 o2
    rw [hbf'] at c89
    obtain ⟨b', off', hz', e', hbb', hc2⟩ := (rdB hr hB).atm (show j < ln by omega)
    obtain ⟨rfl, rfl⟩ : b = b' ∧ off = off' := by simpa using e'
    have hq2 := fun (p : Blw wr.heap.size wr) => ((Blw.h p).cell (p := ⟨b, off + j, none⟩) (Nat.lt_of_lt_of_le hbb (Nat.le_refl _))).trans hc2
    have C89 := Lib.hid c89; clear c89 hbf hbf' hxI hyI e' hbb'
    obtain ⟨xx, hxx⟩ : ∃ xx, xx = rs[j + 1] := ⟨_, rfl⟩
    rw [← hxx] at C28 C89 hq1
    obtain ⟨yy, hyy⟩ : ∃ yy, yy = rs[j] := ⟨_, rfl⟩
    rw [← hyy] at C89 hq2
    clear hxx hyy o1 o2 p1 p2 hz hzr hc1 hz' hc2 hzj
    obtain ⟨xa, xn, xc, xw⟩ := xx
    obtain ⟨ya, yn, yc, yw⟩ := yy
    simp only [RI.val] at hq1 hq2 C28 C89
    have hjl : j < ln := by omega
    have hjp : (0 : Int) < (j : Int) + 1 := by omega
    go_upto_region 4 with (fail)
    refine wp_region_blw (by kernel_rfl) (by kernel_rfl) ?_
    repeat (go_big_quiet_step (fail))
    go_big_quiet_step ((go_at_call 28; exact Calls.blw_of _ (C28.out _)))
    repeat (go_big_quiet_step (fail))
    go_big_quiet_step ((go_at_call 89; exact Calls.blw_of _ (C89.out _)))
    repeat (go_big_quiet_step (fail))
    refine wpQuiet_nil ?_
    rintro W3 ⟨⟨_, hb3⟩, rfl⟩
    clear hq1 hq2 hq3
    replace hX := hX.below hb3 hlX; replace hB := hB.trans (hb3.mono hB.size); clear hb3 hlX
    go_wp2_with fail
    go_roundg (ln - (j + 1 + 1))
    case measure => rw [HG.out]; omega
    case rel => exact ⟨j + 1 + 1, rfl, by omega, by go_num, hB, hX⟩
  ·have hge : ¬ (k : Int) < ln := by omega
   have hle : (ln : Int) ≤ 121 := by omega
   go_wp2_with fail
   go_ret
   exact ⟨rfl, hB⟩
end
section
open Go.RowKit Go.Lib
theorem betL_good {wn : Nat} (h1 : 1 ≤ wn) (h3 : wn ≤ 3) (a b : List Int) : (∀ l ∈ betL wn a b, lnB (wn : Int) l = true) ∧ (betL wn a b).Pairwise (fun a b => b89 a b = true) ∧ (betL wn a b).length ≤ 121 :=
 ⟨fun l hl => allLL_lnB (List.mem_filter.1 hl).1, (allLL_pw h1 h3).filter _, (betL_le h1 h3 a b).1⟩
theorem lies_law (W : Int) (A : Option Addr) (n cap : Nat) (cs : List VC) (A1 : Option Addr) (n1 c1 : Nat) (l1 : List Int) (A2 : Option Addr) (n2 c2 : Nat) (l2 : List Int) (A3 : Option Addr) (n3 c3 : Nat) (l3 : List Int) (m : Int) (w : World) (hE : Env m w) (h : BkI w A n cap cs) (h1 : IA w A1 n1 c1 l1) (h2 : IA w A2 n2 c2 l2) (h3 : IA w A3 n3 c3 l3) :
  Calls Tryz.prog 8 #[.agg #[.int .i64 W, .slice A n cap], .slice A1 n1 c1, .slice A2 n2 c2, .slice A3 n3 c3] w fun e w' => e = .returned (.bool true) ∧ Below w.heap.size w w' := by
 have hX := Blk.new w 24 #[.int .i64 W, .slice A n cap]
 have hB : Below w.heap.size w (w.alloc (.cells #[.int .i64 W, .slice A n cap] 24)) := (Below.refl _ w).alloc (Nat.le_refl _) _
 have qX := fun i => hX.cell i
 go_enter Tryz.func8, Tryz.ntmps8
 go_wp2_with fail
 refine (right_any (h.toW hB)).mono ?_; rintro e wc ⟨⟨b, rfl, hrb⟩, hb⟩
 replace hB := hB.trans (hb.mono hB.size); replace hX := hX.below hb hX.lt; clear hb qX; have qX := fun i => hX.cell i
 cases b with
 | false =>
  clear h1 h2 h3
  go_wp2_with fail
  refine (known_true m _ (hE.below hB)).mono ?_; rintro e wc ⟨rfl, hb⟩
  replace hB := hB.trans (hb.mono hB.size); clear hb
  go_wp2_with fail
  go_ret
  exact ⟨rfl, hB⟩
 | true =>
  have hbk := hrb rfl; clear hrb
  obtain ⟨wn, rfl, hG⟩ := BkG.of_book hbk h.2.2.1 h.2.2.2
  by_cases hn1 : (6 : Int) < (n1 : Int)
  ·clear h1 h2 h3
   go_wp2_with fail
   refine (known_true m _ (hE.below hB)).mono ?_; rintro e wc ⟨rfl, hb⟩
   replace hB := hB.trans (hb.mono hB.size); clear hb
   go_wp2_with fail
   go_ret
   exact ⟨rfl, hB⟩
  ·by_cases hn2 : (6 : Int) < (n2 : Int)
   ·clear h1 h2 h3
    go_wp2_with fail
    refine (known_true m _ (hE.below hB)).mono ?_; rintro e wc ⟨rfl, hb⟩
    replace hB := hB.trans (hb.mono hB.size); clear hb
    go_wp2_with fail
    go_ret
    exact ⟨rfl, hB⟩
   ·by_cases hn3 : (6 : Int) < (n3 : Int)
    ·clear h1 h2 h3
     go_wp2_with fail
     refine (known_true m _ (hE.below hB)).mono ?_; rintro e wc ⟨rfl, hb⟩
     replace hB := hB.trans (hb.mono hB.size); clear hb
     go_wp2_with fail
     go_ret
     exact ⟨rfl, hB⟩
    ·have hl1 := fun wx hx => Line_I (w := wx) (h.toW hx) hbk (h1.toW hx)
     have hl2 := fun wx hx => Line_I (w := wx) (h.toW hx) hbk (h2.toW hx)
     have hl3 := fun wx hx => Line_I (w := wx) (h.toW hx) hbk (h3.toW hx)
     cases hk1 : lnB (wn : Int) l1 with
     | false =>
      simp only [hk1] at hl1
      have HL1 := Lib.hid hl1; clear hl1 hl2 hl3 hbk hk1 h h1 h2 h3
      go_wp2_with fail
      refine (HL1.out _ hB).mono ?_; rintro e wc ⟨rfl, hb⟩
      replace hB := hB.trans (hb.mono hB.size); replace hX := hX.below hb hX.lt; clear hb qX; have qX := fun i => hX.cell i
      go_wp2_with fail
      refine (known_true m _ (hE.below hB)).mono ?_; rintro e wc ⟨rfl, hb⟩
      replace hB := hB.trans (hb.mono hB.size); clear hb
      go_wp2_with fail
      go_ret
      exact ⟨rfl, hB⟩
     | true =>
      cases hk2 : lnB (wn : Int) l2 with
      | false =>
       simp only [hk1] at hl1
       simp only [hk2] at hl2
       have HL1 := Lib.hid hl1; have HL2 := Lib.hid hl2; clear hl1 hl2 hl3 hbk hk1 hk2 h h1 h2 h3
       go_wp2_with fail
       refine (HL1.out _ hB).mono ?_; rintro e wc ⟨rfl, hb⟩
       replace hB := hB.trans (hb.mono hB.size); replace hX := hX.below hb hX.lt; clear hb qX; have qX := fun i => hX.cell i
       go_wp2_with fail
       refine (HL2.out _ hB).mono ?_; rintro e wc ⟨rfl, hb⟩
       replace hB := hB.trans (hb.mono hB.size); replace hX := hX.below hb hX.lt; clear hb qX; have qX := fun i => hX.cell i
       go_wp2_with fail
       refine (known_true m _ (hE.below hB)).mono ?_; rintro e wc ⟨rfl, hb⟩
       replace hB := hB.trans (hb.mono hB.size); clear hb
       go_wp2_with fail
       go_ret
       exact ⟨rfl, hB⟩
      | true =>
       cases hk3 : lnB (wn : Int) l3 with
       | false =>
        simp only [hk1] at hl1
        simp only [hk2] at hl2
        simp only [hk3] at hl3
        have HL1 := Lib.hid hl1; have HL2 := Lib.hid hl2; have HL3 := Lib.hid hl3; clear hl1 hl2 hl3 hbk hk1 hk2 hk3 h h1 h2 h3
        go_wp2_with fail
        refine (HL1.out _ hB).mono ?_; rintro e wc ⟨rfl, hb⟩
        replace hB := hB.trans (hb.mono hB.size); replace hX := hX.below hb hX.lt; clear hb qX; have qX := fun i => hX.cell i
        go_wp2_with fail
        refine (HL2.out _ hB).mono ?_; rintro e wc ⟨rfl, hb⟩
        replace hB := hB.trans (hb.mono hB.size); replace hX := hX.below hb hX.lt; clear hb qX; have qX := fun i => hX.cell i
        go_wp2_with fail
        refine (HL3.out _ hB).mono ?_; rintro e wc ⟨rfl, hb⟩
        replace hB := hB.trans (hb.mono hB.size); replace hX := hX.below hb hX.lt; clear hb qX; have qX := fun i => hX.cell i
        go_wp2_with fail
        refine (known_true m _ (hE.below hB)).mono ?_; rintro e wc ⟨rfl, hb⟩
        replace hB := hB.trans (hb.mono hB.size); clear hb
        go_wp2_with fail
        go_ret
        exact ⟨rfl, hB⟩
       | true =>
        have hb12 := fun wx hx => Between_I (cap := cap) (w := wx) (hG.toW hx) hbk (h1.toW hx) (h2.toW hx) hk1 hk2
        have hb13 := fun wx hx => Between_I (cap := cap) (w := wx) (hG.toW hx) hbk (h1.toW hx) (h3.toW hx) hk1 hk3
        have hc12 := fun wx hx => Changes_I (w := wx) (h.toW hx) hbk (h1.toW hx) (h2.toW hx) hk1 hk2
        have hc13 := fun wx hx => Changes_I (w := wx) (h.toW hx) hbk (h1.toW hx) (h3.toW hx) hk1 hk3
        have hc32 := fun wx hx => Changes_I (w := wx) (h.toW hx) hbk (h3.toW hx) (h2.toW hx) hk3 hk2
        have q1 := h1.len; have q2 := h2.len; have q3 := h3.len
        have m1 := lnB_len hk1; have m2 := lnB_len hk2; have m3 := lnB_len hk3
        have f1 := ed_le l1 l2; have f3 := ed_tri l1 l3 l2; have f5 := ed_le l1 l3; have f6 := ed_le l3 l2
        have g12 := betL_good hG.1.1 hG.1.2 l1 l2
        have g13 := betL_good hG.1.1 hG.1.2 l1 l3
        have e1 : l1 ∈ betL wn l1 l2 := (betL_mem hk1).2 (by rw [ed_self]; omega)
        have e2 : l2 ∈ betL wn l1 l2 := (betL_mem hk2).2 (by rw [ed_self]; omega)
        have e3 : l3 ∈ betL wn l1 l2 ↔ ed l1 l3 + ed l3 l2 = ed l1 l2 := betL_mem hk3
        have e4 : ed l1 l3 + ed l3 l2 = ed l1 l2 → ∀ l ∈ betL wn l1 l3, l ∈ betL wn l1 l2 := fun hc l hl => betL_sub hc hl
        simp only [hk1] at hl1
        simp only [hk2] at hl2
        simp only [hk3] at hl3
        have hln := fun (wx : World) (hx : Below w.heap.size w wx) (v : Value) (hv : LL wx v (betL wn l1 l2)) => lawlines_any (h.toW hx) hbk hv g12.1 g12.2.1 g12.2.2
        have hln3 := fun (wx : World) (hx : Below w.heap.size w wx) (v : Value) (hv : LL wx v (betL wn l1 l3)) => lawlines_any (h.toW hx) hbk hv g13.1 g13.2.1 g13.2.2
        have hm1 := fun (wx : World) (hx : Below w.heap.size w wx) (v : Value) (hv : LL wx v (betL wn l1 l2)) => met_any A1 n1 c1 l1 hv (h1.toW hx) (by omega)
        have hm2 := fun (wx : World) (hx : Below w.heap.size w wx) (v : Value) (hv : LL wx v (betL wn l1 l2)) => met_any A2 n2 c2 l2 hv (h2.toW hx) (by omega)
        have hm3 := fun (wx : World) (hx : Below w.heap.size w wx) (v : Value) (hv : LL wx v (betL wn l1 l2)) => met_any A3 n3 c3 l3 hv (h3.toW hx) (by omega)
        rw [decide_eq_true e1] at hm1
        rw [decide_eq_true e2] at hm2
        have hML := g13.2.2
        clear g12 g13 e1 e2
        have E4 : ed l1 l3 ≤ 4 := by omega
        have F4 : ed l3 l2 ≤ 4 := by omega
        have D6 : ed l1 l2 ≤ 4 := by omega
        have hmm : ∀ l ∈ betL wn l1 l3, l.length ≤ 4 := (betL_le hG.1.1 hG.1.2 l1 l3).2
        generalize betL wn l1 l2 = L at *
        generalize betL wn l1 l3 = M at *
        generalize ed l1 l2 = D at *
        generalize ed l1 l3 = E at *
        generalize ed l3 l2 = F at *
        have HL1 := Lib.hid hl1; have HL2 := Lib.hid hl2; have HL3 := Lib.hid hl3; have HC12 := Lib.hid hc12; have HC13 := Lib.hid hc13; have HC32 := Lib.hid hc32; have HB12 := Lib.hid hb12; have HB13 := Lib.hid hb13; have HLN := Lib.hid hln; have HLN3 := Lib.hid hln3; have HM1 := Lib.hid hm1; have HM2 := Lib.hid hm2; have HSUB := Lib.hid e4; have HMM := Lib.hid hmm
        by_cases hc : E + F = D
        ·rw [decide_eq_true (e3.2 hc)] at hm3
         have HM3 := Lib.hid hm3; have HCC := Lib.hid hc
         have le1 : E + F ≤ D := by omega
         have le2 : D ≤ E + F := by omega
         have hqe : (((E : Nat) : Int) + ((F : Nat) : Int) == ((D : Nat) : Int)) = true := by simp; omega
         clear hl1 hl2 hl3 hc12 hc13 hc32 hb12 hb13 hln hln3 hm1 hm2 hm3 e3 e4 hc hbk hk1 hk2 hk3 h h1 h2 h3 q1 q2 q3 m1 m2 m3 f1 f3 f5 f6 hmm hG
         go_wp2_with fail
         refine (HL1.out _ hB).mono ?_; rintro e wc ⟨rfl, hb⟩
         replace hB := hB.trans (hb.mono hB.size); replace hX := hX.below hb hX.lt; clear hb qX; have qX := fun i => hX.cell i
         go_wp2_with fail
         refine (HL2.out _ hB).mono ?_; rintro e wc ⟨rfl, hb⟩
         replace hB := hB.trans (hb.mono hB.size); replace hX := hX.below hb hX.lt; clear hb qX; have qX := fun i => hX.cell i
         go_wp2_with fail
         refine (HL3.out _ hB).mono ?_; rintro e wc ⟨rfl, hb⟩
         replace hB := hB.trans (hb.mono hB.size); replace hX := hX.below hb hX.lt; clear hb qX; have qX := fun i => hX.cell i
         go_wp2_with fail
         refine (HB12.out _ hB).mono ?_; rintro e wc ⟨⟨u, rfl, hU⟩, hb⟩
         replace hB := hB.trans (hb.mono hB.size); replace hX := hX.below hb hX.lt; clear hb qX; have qX := fun i => hX.cell i
         go_wp2_with fail
         refine (HC12.out _ hB).mono ?_; rintro e wc ⟨rfl, hb⟩
         replace hB := hB.trans (hb.mono hB.size); replace hX := hX.below hb hX.lt; replace hU := hU.below hb; clear hb qX; have qX := fun i => hX.cell i
         go_wp2_with fail
         refine (HC13.out _ hB).mono ?_; rintro e wc ⟨rfl, hb⟩
         replace hB := hB.trans (hb.mono hB.size); replace hX := hX.below hb hX.lt; replace hU := hU.below hb; clear hb qX; have qX := fun i => hX.cell i
         go_wp2_with fail
         refine (HC32.out _ hB).mono ?_; rintro e wc ⟨rfl, hb⟩
         replace hB := hB.trans (hb.mono hB.size); replace hX := hX.below hb hX.lt; replace hU := hU.below hb; clear hb qX; have qX := fun i => hX.cell i
         go_wp2_with fail
         refine (HLN.out _ hB _ hU).mono ?_; rintro e wc ⟨rfl, hb⟩
         replace hB := hB.trans (hb.mono hB.size); replace hX := hX.below hb hX.lt; replace hU := hU.below hb; clear hb qX; have qX := fun i => hX.cell i
         go_wp2_with fail
         refine (HM1.out _ hB _ hU).mono ?_; rintro e wc ⟨rfl, hb⟩
         replace hB := hB.trans (hb.mono hB.size); replace hX := hX.below hb hX.lt; replace hU := hU.below hb; clear hb qX; have qX := fun i => hX.cell i
         go_wp2_with fail
         refine (HM2.out _ hB _ hU).mono ?_; rintro e wc ⟨rfl, hb⟩
         replace hB := hB.trans (hb.mono hB.size); replace hX := hX.below hb hX.lt; replace hU := hU.below hb; clear hb qX; have qX := fun i => hX.cell i
         go_wp2_with fail
         refine (HM3.out _ hB _ hU).mono ?_; rintro e wc ⟨rfl, hb⟩
         replace hB := hB.trans (hb.mono hB.size); replace hX := hX.below hb hX.lt; replace hU := hU.below hb; clear hb qX; have qX := fun i => hX.cell i
         go_wp2_with fail
         refine (HB13.out _ hB).mono ?_; rintro e wc ⟨⟨v, rfl, hV⟩, hb⟩
         replace hB := hB.trans (hb.mono hB.size); replace hX := hX.below hb hX.lt; replace hU := hU.below hb; clear hb qX; have qX := fun i => hX.cell i
         go_wp2_with fail
         refine (HLN3.out _ hB _ hV).mono ?_; rintro e wc ⟨rfl, hb⟩
         replace hB := hB.trans (hb.mono hB.size); replace hX := hX.below hb hX.lt; replace hU := hU.below hb; replace hV := hV.below hb; clear hb qX; have qX := fun i => hX.cell i
         obtain ⟨lA, ln, lc, rs, rfl, _, _, _, hr, hok, hws⟩ := hV
         have hl : rs.length = ln := by simpa using hr.len
         have hn121 : ln ≤ 121 := by rw [← hl]; have := hML; rw [← hws, List.length_map] at this; exact this
         have HO := Lib.hid hok; have HW := Lib.hid hws; have HUU := Lib.hid hU; clear hok hws hl hU hML
         rename World => wd
         have hwd := hB.size
         go_wp2_with fail
         go_loopg [19] ln (fun g i wr => ∃ k : Nat, g = ln - k ∧ k ≤ ln ∧ i = .int .i64 k ∧ Below wd.heap.size wd wr)
         case atStart => exact ⟨0, rfl, Nat.zero_le _, rfl, Below.refl _ _⟩
         case round =>
          clear hX qX
          obtain ⟨k, hg, hk, rfl, hBd⟩ := hrel
          rename World => wr
          have HG := Lib.hid hg; clear hg
          by_cases hlt : k < ln
          ·have hlti : (k : Int) < ln := by omega
           obtain ⟨bb, off, hz, rfl, hbb, hc1⟩ := (rdB hr hBd).atm hlt
           have hzr : k < rs.length := by simpa using hz
           have hmem : rs[k].ws ∈ M := by rw [← HW.out]; exact List.mem_map_of_mem (List.getElem_mem hzr)
           obtain ⟨o1, o2⟩ := HO.out _ (List.getElem_mem hzr)
           have hmt := met_any rs[k].A rs[k].n rs[k].cap rs[k].ws (HUU.out.below hBd) ⟨o1.1, o1.2.1, (o1.2.2.below hBd).more hBd.size⟩ o2
           rw [decide_eq_true (HSUB.out HCC.out _ hmem)] at hmt
           generalize rs[k] = xx at *
           obtain ⟨xa, xn, xc, xw⟩ := xx
           simp only [RI.val] at hc1 hmt
           have HMT := Lib.hid hmt; clear hmt hmem o1 o2 hz hzr
           go_wp2_with fail
           refine HMT.out.mono ?_; rintro e w1 ⟨rfl, hb1⟩
           replace hBd := hBd.trans (hb1.mono hBd.size); clear hb1
           go_wp2_with fail
           go_roundg (ln - (k + 1))
           case measure => rw [HG.out]; omega
           case rel => exact ⟨k + 1, rfl, by omega, by go_num, hBd⟩
          ·have hge : ¬ (k : Int) < ln := by omega
           replace hB := hB.trans (hBd.mono hwd)
           go_wp2_with fail
           refine (known_true m _ (hE.below hB)).mono ?_; rintro e wc ⟨rfl, hb⟩
           replace hB := hB.trans (hb.mono hB.size); clear hb
           go_wp2_with fail
           go_ret
           exact ⟨rfl, hB⟩
        ·rw [decide_eq_false (fun h => hc (e3.1 h))] at hm3
         have HM3 := Lib.hid hm3
         have lt : D < E + F := by omega
         have hqe : (((E : Nat) : Int) + ((F : Nat) : Int) == ((D : Nat) : Int)) = false := by simp; omega
         clear hl1 hl2 hl3 hc12 hc13 hc32 hb12 hb13 hln hln3 hm1 hm2 hm3 e3 e4 hc hbk hk1 hk2 hk3 h h1 h2 h3 q1 q2 q3 m1 m2 m3 f1 f3 f5 f6 hmm hG
         go_wp2_with fail
         refine (HL1.out _ hB).mono ?_; rintro e wc ⟨rfl, hb⟩
         replace hB := hB.trans (hb.mono hB.size); replace hX := hX.below hb hX.lt; clear hb qX; have qX := fun i => hX.cell i
         go_wp2_with fail
         refine (HL2.out _ hB).mono ?_; rintro e wc ⟨rfl, hb⟩
         replace hB := hB.trans (hb.mono hB.size); replace hX := hX.below hb hX.lt; clear hb qX; have qX := fun i => hX.cell i
         go_wp2_with fail
         refine (HL3.out _ hB).mono ?_; rintro e wc ⟨rfl, hb⟩
         replace hB := hB.trans (hb.mono hB.size); replace hX := hX.below hb hX.lt; clear hb qX; have qX := fun i => hX.cell i
         go_wp2_with fail
         refine (HB12.out _ hB).mono ?_; rintro e wc ⟨⟨u, rfl, hU⟩, hb⟩
         replace hB := hB.trans (hb.mono hB.size); replace hX := hX.below hb hX.lt; clear hb qX; have qX := fun i => hX.cell i
         go_wp2_with fail
         refine (HC12.out _ hB).mono ?_; rintro e wc ⟨rfl, hb⟩
         replace hB := hB.trans (hb.mono hB.size); replace hX := hX.below hb hX.lt; replace hU := hU.below hb; clear hb qX; have qX := fun i => hX.cell i
         go_wp2_with fail
         refine (HC13.out _ hB).mono ?_; rintro e wc ⟨rfl, hb⟩
         replace hB := hB.trans (hb.mono hB.size); replace hX := hX.below hb hX.lt; replace hU := hU.below hb; clear hb qX; have qX := fun i => hX.cell i
         go_wp2_with fail
         refine (HC32.out _ hB).mono ?_; rintro e wc ⟨rfl, hb⟩
         replace hB := hB.trans (hb.mono hB.size); replace hX := hX.below hb hX.lt; replace hU := hU.below hb; clear hb qX; have qX := fun i => hX.cell i
         go_wp2_with fail
         refine (HLN.out _ hB _ hU).mono ?_; rintro e wc ⟨rfl, hb⟩
         replace hB := hB.trans (hb.mono hB.size); replace hX := hX.below hb hX.lt; replace hU := hU.below hb; clear hb qX; have qX := fun i => hX.cell i
         go_wp2_with fail
         refine (HM1.out _ hB _ hU).mono ?_; rintro e wc ⟨rfl, hb⟩
         replace hB := hB.trans (hb.mono hB.size); replace hX := hX.below hb hX.lt; replace hU := hU.below hb; clear hb qX; have qX := fun i => hX.cell i
         go_wp2_with fail
         refine (HM2.out _ hB _ hU).mono ?_; rintro e wc ⟨rfl, hb⟩
         replace hB := hB.trans (hb.mono hB.size); replace hX := hX.below hb hX.lt; replace hU := hU.below hb; clear hb qX; have qX := fun i => hX.cell i
         go_wp2_with fail
         refine (HM3.out _ hB _ hU).mono ?_; rintro e wc ⟨rfl, hb⟩
         replace hB := hB.trans (hb.mono hB.size); replace hX := hX.below hb hX.lt; replace hU := hU.below hb; clear hb qX; have qX := fun i => hX.cell i
         go_wp2_with fail
         refine (known_true m _ (hE.below hB)).mono ?_; rintro e wc ⟨rfl, hb⟩
         replace hB := hB.trans (hb.mono hB.size); clear hb
         go_wp2_with fail
         go_ret
         exact ⟨rfl, hB⟩
end
section
open Go.ChangeShapes Go.WideShapes Go.ChangeAt Go.RowKit Go.Deep Go.Lib
set_option maxRecDepth 100000
section
variable {H : Type} {enc : TypeId × Value → H} {P : Program} {w : World} {base : Nat} {spare : Nat → Bool} {held : Bool}
theorem law_four {s0 s1 s2 s3 : TypeId} {args : Array Value} {ds : List (DataW H)} {ps : List MemPlace} (h : DataW.TrodAll enc P w base spare held [s0, s1, s2, s3] args.toList ds ps) :
  ∃ v0 v1 v2 v3 d0 d1 d2 d3 p0 p1 p2 p3, args = #[v0, v1, v2, v3] ∧ ds = [d0, d1, d2, d3] ∧ DataW.Trod enc P w base spare held s0 v0 d0 p0 ∧ DataW.Trod enc P w base spare held s1 v1 d1 p1 ∧ DataW.Trod enc P w base spare held s2 v2 d2 p2 ∧ DataW.Trod enc P w base spare held s3 v3 d3 p3 := by
 obtain ⟨v0, r0, d0, e0, p0, q0, hargs, rfl, rfl, t0, h0⟩ := trodAll_cons h
 obtain ⟨v1, r1, d1, e1, p1, q1, rfl, rfl, rfl, t1, h1⟩ := trodAll_cons h0
 obtain ⟨v2, r2, d2, e2, p2, q2, rfl, rfl, rfl, t2, h2⟩ := trodAll_cons h1
 obtain ⟨v3, r3, d3, e3, p3, q3, rfl, rfl, rfl, t3, h3⟩ := trodAll_cons h2
 obtain ⟨rfl, rfl, rfl⟩ := trodAll_nil h3
 exact ⟨v0, v1, v2, v3, d0, d1, d2, d3, p0, p1, p2, p3, by cases args; simp_all, rfl, t0, t1, t2, t3⟩
end
end
end Go.Proofs.YtekmnelpkogppaaGreatDoor
