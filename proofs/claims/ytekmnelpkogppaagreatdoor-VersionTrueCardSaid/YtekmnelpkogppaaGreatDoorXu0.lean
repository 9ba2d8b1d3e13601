import Derived.Test.YtekmnelpkogppaaGreatDoorKx11
set_option linter.unusedVariables false
set_option linter.unusedSimpArgs false
set_option maxRecDepth 100000
set_option maxHeartbeats 40000000
namespace Go.Proofs.YtekmnelpkogppaaGreatDoor
section
open Go.RowKit Go.Lib
theorem argument_any (b : Bool) (w : World) : Calls Tryz.prog 80 #[.bool b] w fun e w' => e = .returned (.int .i64 (if b then 0 else 2)) ∧ w = w' := by
 cases b
 all_goals
  go_enter Tryz.func80, Tryz.ntmps80
  go_wp2
  go_ret
  exact ⟨rfl, rfl⟩
end
section
open Go.RowKit Go.Lib
theorem refCopy_any (W l : Int) (A : Option Addr) (n cap : Nat) (w : World) (hn : n ≤ 1000) :
  Calls Tryz.prog 54 #[.agg #[.int .i64 W, .slice A n cap], .int .i64 l] w fun e w' => e = .returned (.bool (inB l 0 (n - 1))) ∧ Below w.heap.size w w' := by
 go_enter Tryz.func54, Tryz.ntmps54
 go_wp2_with (go_at_call 85; refine (in_any _ _ _ _).mono ?_; rintro e w1 ⟨rfl, rfl⟩)
 go_ret
 exact ⟨rfl, (Below.refl _ w).alloc (Nat.le_refl _) _⟩
end
section
open Go.RowKit Go.Lib
theorem badSource_any (x W : Int) (A : Option Addr) (n cap g : Nat) (w : World) (hn : n ≤ 1000) (hb : Blk w g 24 #[.int .i64 W, .slice A n cap]) :
  Calls Tryz.prog 147 #[.int .i64 x, .pointer (some ⟨g, 0, none⟩)] w fun e w' => e = .returned (.bool (!(x == -1 || inB x 0 (n - 1)))) ∧ Below w.heap.size w w' := by
 have qX := fun i => hb.cell i
 have hh := hasCopy_any W x A n cap w hn
 have HH := Lib.hid hh; clear hh
 by_cases h : x = -1
 ·have h1 : (x != -1) = false := by rw [h]; rfl
  have h2 : (x == -1) = true := by rw [h]; rfl
  rw [h2]
  clear h h2
  go_enter Tryz.func147, Tryz.ntmps147
  go_wp2_with (fail)
  go_ret
  exact ⟨rfl, Below.refl _ _⟩
 ·have h1 : (x != -1) = true := by rw [bne_iff_ne]; exact h
  have h2 : (x == -1) = false := by rw [beq_eq_false_iff_ne]; exact h
  rw [h2]
  clear h h2
  go_enter Tryz.func147, Tryz.ntmps147
  go_wp2_with (go_at_call 99; refine HH.out.mono ?_; rintro e w1 ⟨rfl, hb1⟩)
  go_ret
  exact ⟨rfl, hb1⟩
def sourcesB (n : Nat) (t : List Int) : Bool := decide (t.length = n) && t.all fun x => x == -1 || inB x 0 (n - 1)
theorem goodSources_any (W : Int) (A : Option Addr) (n cap : Nat) (tA : Option Addr) (tn tc : Nat) (t : List Int) (w : World) (hn : n ≤ 1000) (htn : tn ≤ maxLen) (htr : Rd w w.heap.size 1 tA tn (t.map (Value.int .i64))) :
  Calls Tryz.prog 103 #[.agg #[.int .i64 W, .slice A n cap], .slice tA tn tc] w fun e w' => e = .returned (.bool (sourcesB n t)) ∧ Below w.heap.size w w' := by
 have hmf : ∀ (fn : Fn) (first cap : Array Value) (w : World), (Instr.makeFunc fn first cap).run Tryz.prog w = .ok (.func fn first cap) w := fun _ _ _ _ => rfl
 have hlen : t.length = tn := by simpa using htr.len
 have hB : Below w.heap.size w (w.alloc (.cells #[.int .i64 W, .slice A n cap] 24)) := (Below.refl _ w).alloc (Nat.le_refl _) _
 have hX := Blk.new w 24 #[.int .i64 W, .slice A n cap]
 have q0 := fun i => hX.cell i
 have hct := contains_int 147 (.pointer (some ⟨w.heap.size, 0, none⟩)) (fun x => !(x == -1 || inB x 0 (n - 1))) tA tn tc t _ htn (rdB htr hB) (fun _ _ => rfl) (Lib.hid fun x _ wy hy => badSource_any x W A n cap w.heap.size wy hn (hX.below hy hX.lt))
 have he : sourcesB n t = (decide (tn = n) && !(t.any fun x => !(x == -1 || inB x 0 (n - 1)))) := by unfold sourcesB; rw [hlen, List.all_eq_not_any_not]
 rw [he]
 generalize (t.any fun x => !(x == -1 || inB x 0 (n - 1))) = bad at *
 have HCT := Lib.hid hct; clear hct he hlen
 by_cases hh : tn = n
 ·have hb : ((tn : Int) == n) = true := by rw [beq_iff_eq]; omega
  rw [decide_eq_true hh]
  clear hh
  cases bad
  all_goals
   go_enter Tryz.func103, Tryz.ntmps103
   go_wp2_with (go_at_call 130; refine HCT.out.mono ?_; rintro e w2 ⟨rfl, hb2⟩; replace hB := hB.trans (hb2.mono hB.size); clear hb2)
   go_ret
   exact ⟨rfl, hB⟩
 ·have hb : ((tn : Int) == n) = false := by rw [beq_eq_false_iff_ne]; omega
  rw [decide_eq_false hh]
  clear hh
  go_enter Tryz.func103, Tryz.ntmps103
  go_wp2_with (fail)
  go_ret
  exact ⟨rfl, hB⟩
end
section
theorem ed_map {α β : Type} [DecidableEq α] [DecidableEq β] (f : α → β) : ∀ (a b : List α), (∀ x ∈ a, ∀ y ∈ b, f x = f y → x = y) → ed (a.map f) (b.map f) = ed a b
 | [], b, _ => by simp [ed_nil]
 | x :: xs, b, h => by
  have ih := fun b hb => ed_map f xs b hb
  induction b with
  | nil => simp [ed_nil_r]
  | cons y ys ihb =>
   rw [List.map_cons, List.map_cons, ed_cons, ed_cons, ← List.map_cons, ← List.map_cons]
   rw [ih ys (fun p hp q hq => h p (by simp [hp]) q (by simp [hq])), ih (y :: ys) (fun p hp q hq => h p (by simp [hp]) q hq), ihb (fun p hp q hq => h p hp q (by simp [hq]))]
   by_cases e : x = y
   ·rw [if_pos e, if_pos (by rw [e])]
   ·rw [if_neg e, if_neg (fun e2 => e (h x (by simp) y (by simp) e2))]
end
section
open Go.RowKit Go.Lib Go.Maps
theorem Total_yes {wn : Nat} {A : Option Addr} {n : Nat} (cap : Nat) {cs : List VC} {tA : Option Addr} {tn : Nat} (tc : Nat) {ts : List RI} (rA : Option Addr) (rn rc : Nat) (t : List Int) {w : World} (hb : BkG wn A n cs w w.heap.size) (h1 : bookB (wn : Int) cs = true) (ht : TxG cs tA tn ts w w.heap.size) (h2 : textB (wn : Int) (headN cs) ts = true)
  (hrn : rn ≤ maxLen) (hr : Rd w w.heap.size 1 rA rn (t.map (Value.int .i64))) (h3 : sourcesB n t = true) (hrn2 : rn = n) (htb : ∀ x ∈ t, -1 ≤ x ∧ x < n) :
  Calls Tryz.prog 58 #[.agg #[.int .i64 (wn : Int), .slice A n cap], .slice tA tn tc, .slice rA rn rc] w fun e w' => e = .returned (.tuple #[.int .i64 (if treeOK t then treeS (costV cs ts) t else 0), .int .i64 (if treeOK t then 0 else 2)]) ∧ Below w.heap.size w w' := by
 have hX := Blk.new w 24 #[.int .i64 (wn : Int), .slice A n cap]
 have hB : Below w.heap.size w (w.alloc (.cells #[.int .i64 (wn : Int), .slice A n cap] 24)) := (Below.refl _ w).alloc (Nat.le_refl _) _
 have qX := fun i => hX.cell i
 have hmm := @run_makeMap Tryz.prog
 have hgb := fun (wx : World) (hx : Below w.heap.size w wx) => goodBook_any (wn : Int) A n cap cs wx (by have := hb.2.1.2; unfold maxLen; omega) (rdB hb.2.2.2.1 hx) (fun c h => okB (hb.2.2.2.2.1 c h) hx)
 simp only [h1] at hgb
 have hgt := fun (wx : World) (hx : Below w.heap.size w wx) => goodText_any (wn : Int) A n cap cs tA tn tc ts wx (by have := hb.1.1; omega) (by have := hb.1.2; omega) hb.2.1.1 (rdB hb.2.2.2.1 hx) (fun c h => okB (hb.2.2.2.2.1 c h) hx) (by have h0 : ts.length = tn := (by simpa using ht.1.len); have h := ht.2.2.1; have := hb.2.2.1.2; unfold maxLen; omega) (rdB ht.1 hx) (fun r h => okB2 (ht.2.1 r h) hx)
 simp only [h2] at hgt
 have hgs := fun (wx : World) (hx : Below w.heap.size w wx) => goodSources_any (wn : Int) A n cap rA rn rc t wx (by have := hb.2.1.2; omega) hrn (rdB hr hx)
 simp only [h3] at hgs
 have hco := fun (wx : World) (mb : Nat) (hx : Below w.heap.size w wx) (hmb : w.heap.size ≤ mb) (hm : Memo wx mb 0) => costs_any cap (tc := tc) mb 0 (hb.below hx) (ht.below hx) hmb hm (by unfold maxLen; omega)
 have hCB := fun (p q : Int) (h1 : 0 ≤ p) (h2 : p < n) (h3 : -1 ≤ q) (h4 : q < n) => costV_bd hb ht (k := p) (f := q) ⟨h1, h2⟩ h3 h4
 have hn5 := hb.2.1
 subst hrn2
 obtain ⟨c, hc⟩ : ∃ c, c = (if treeOK t then treeS (costV cs ts) t else 0) := ⟨_, rfl⟩
 obtain ⟨ok, hok⟩ : ∃ ok, ok = treeOK t := ⟨_, rfl⟩
 rw [← hc, ← hok]
 have HC := Lib.hid hc; have HOK := Lib.hid hok
 clear hc hok
 have HGB := Lib.hid hgb; have HGT := Lib.hid hgt; have HGS := Lib.hid hgs; have HCO := Lib.hid hco; have HCB := Lib.hid hCB; have HR := Lib.hid hr; have HTB := Lib.hid htb
 clear hgb hgt hgs hco hCB h1 h2 h3 hb ht hr htb
 go_enter Tryz.func58, Tryz.ntmps58
 go_wp2_with fail
 refine (HGB.out _ hB).mono ?_; rintro e w1 ⟨rfl, hb⟩; replace hX := hX.below hb hX.lt; replace hB := hB.trans (hb.mono hB.size); clear hb qX; have qX := fun i => hX.cell i
 go_wp2_with fail
 refine (HGT.out _ hB).mono ?_; rintro e w2 ⟨rfl, hb⟩; replace hX := hX.below hb hX.lt; replace hB := hB.trans (hb.mono hB.size); clear hb qX; have qX := fun i => hX.cell i
 go_wp2_with fail
 refine (HGS.out _ hB).mono ?_; rintro e w3 ⟨rfl, hb⟩; replace hX := hX.below hb hX.lt; replace hB := hB.trans (hb.mono hB.size); clear hb qX; have qX := fun i => hX.cell i
 have hlX := hX.lt
 go_wp2_with fail
 have hB3 := hB.alloc hB.size (.map #[] 0)
 have hBs := hB.size
 refine (HCO.out _ w3.heap.size hB3 hBs (Memo.made w3)).mono ?_
 rintro e w4 ⟨cb, rfl, hcb, ⟨S, hCM, hin⟩, hg⟩
 have hB4 := below_gb hB3 hg hBs hB3.size
 have htt := total_any rA rn rc cb t (costV cs ts) S w.heap.size w4 (by omega) HTB.out (HR.out.below hB4) hB4.size hCM (fun p q h1 h2 h3 h4 => ⟨hin p q h1 h2 h3 h4, HCB.out p q h1 h2 h3 h4⟩)
 have HTT := Lib.hid htt
 clear htt hin hg hX qX hlX
 rw [← HC.out, ← HOK.out] at HTT
 go_wp2_with fail
 refine HTT.out.mono ?_
 rintro e w5 ⟨rfl, hb⟩
 have hB5 := hB4.trans (hb.mono hB4.size)
 clear hb
 go_wp2_with fail
 refine (argument_any ok w5).mono ?_
 rintro e w6 ⟨rfl, rfl⟩
 go_wp2_with fail
 ·refine bodyPost_ret (v := .tuple #[.int .i64 c, .int .i64 0]) (by simp [results, Tryz.results58, go_sem]) rfl ?_
  exact ⟨rfl, hB5⟩
 ·refine bodyPost_ret (v := .tuple #[.int .i64 c, .int .i64 2]) (by simp [results, Tryz.results58, go_sem]) rfl ?_
  exact ⟨rfl, hB5⟩
end
section
open Go.RowKit Go.Lib
theorem IA.toW {w w' : World} {A : Option Addr} {n cap : Nat} {l : List Int} (h : IA w A n cap l) (hb : Below w.heap.size w w') : IA w' A n cap l := ⟨h.1, h.2.1, rdB h.2.2 hb⟩
theorem IA.max {w : World} {A : Option Addr} {n cap : Nat} {l : List Int} (h : IA w A n cap l) : n ≤ maxLen := Nat.le_trans h.1 h.2.1
theorem IA.len {w : World} {A : Option Addr} {n cap : Nat} {l : List Int} (h : IA w A n cap l) : l.length = n := by simpa using h.2.2.len
theorem u8_inj {x y : Int} (hx : 0 ≤ x ∧ x ≤ 2) (hy : 0 ≤ y ∧ y ≤ 2) (e : UInt8.ofNat x.toNat = UInt8.ofNat y.toNat) : x = y := by
 have h := congrArg UInt8.toNat e
 simp only [UInt8.toNat_ofNat'] at h
 omega
theorem edB_int {a b : List Int} (ha : ∀ x ∈ a, 0 ≤ x ∧ x ≤ 2) (hb : ∀ x ∈ b, 0 ≤ x ∧ x ≤ 2) : edB (lbS a) (lbS b) = ed a b := by
 show ed (lbL a) (lbL b) = ed a b
 unfold lbL
 exact ed_map _ a b (fun x hx y hy e => u8_inj (ha x hx) (hb y hy) e)
theorem book_W {W : Int} {cs : List VC} (h : bookB W cs = true) : 1 ≤ W ∧ W ≤ 3 := by
 unfold bookB at h
 simp only [Bool.and_eq_true] at h
 simpa [inB] using h.1.1.1
section
variable {W : Int} {A : Option Addr} {n cap : Nat} {cs : List VC} {w : World} {A1 A2 : Option Addr} {n1 n2 c1 c2 : Nat} {l1 l2 : List Int}
theorem Line_I (h : BkI w A n cap cs) (hk : bookB W cs = true) (h1 : IA w A1 n1 c1 l1) : Calls Tryz.prog 28 #[.agg #[.int .i64 W, .slice A n cap], .slice A1 n1 c1] w fun e w' => e = .returned (.bool (lnB W l1)) ∧ Below w.heap.size w w' := refLine_any W A n cap A1 n1 c1 l1 w (by have := book_W hk; omega) (by have := book_W hk; omega) h1.max h1.2.2
theorem Changes_I (h : BkI w A n cap cs) (hk : bookB W cs = true) (h1 : IA w A1 n1 c1 l1) (h2 : IA w A2 n2 c2 l2) (k1 : lnB W l1 = true) (k2 : lnB W l2 = true) :
  Calls Tryz.prog 26 #[.agg #[.int .i64 W, .slice A n cap], .slice A1 n1 c1, .slice A2 n2 c2] w fun e w' => e = .returned (.tuple #[.int .i64 (ed l1 l2 : Nat), .int .i64 0]) ∧ Below w.heap.size w w' := by
 have h3 := Changes_yes W A n cap cs A1 n1 c1 l1 A2 n2 c2 l2 w h.max h.2.2.1 h.2.2.2 h1.max h1.2.2 h2.max h2.2.2 hk k1 k2
 rw [edB_int (ln_small (book_W hk) k1).2 (ln_small (book_W hk) k2).2] at h3
 exact h3
def RightB (W : Int) (cs : List VC) (e : Ending) : Prop := ∃ b : Bool, e = .returned (.bool b) ∧ (b = true → bookB W cs = true)
theorem right_any (h : BkI w A n cap cs) : Calls Tryz.prog 30 #[.agg #[.int .i64 W, .slice A n cap]] w fun e w' => RightB W cs e ∧ Below w.heap.size w w' := by
 have hX := Blk.new w 24 #[.int .i64 W, .slice A n cap]
 have hB : Below w.heap.size w (w.alloc (.cells #[.int .i64 W, .slice A n cap] 24)) := (Below.refl _ w).alloc (Nat.le_refl _) _
 have qX := fun i => hX.cell i
 go_enter Tryz.func30, Tryz.ntmps30
 go_wp2_with fail
 refine (short_any W A n cap cs _ (h.toW hB)).mono ?_; rintro e wc ⟨⟨b, rfl⟩, hb⟩
 replace hB := hB.trans (hb.mono hB.size); replace hX := hX.below hb hX.lt; clear hb qX; have qX := fun i => hX.cell i
 cases b with
 | false =>
  go_wp2_with fail
  go_ret
  exact ⟨⟨false, rfl, fun h => by cases h⟩, hB⟩
 | true =>
  have hbk := refBook_any W A n cap cs
  obtain ⟨R, hR⟩ : ∃ R, R = bookB W cs := ⟨_, rfl⟩
  rw [← hR] at hbk
  have HR := Lib.hid hR; clear hR
  go_wp2_with fail
  refine (hbk _ (h.toW hB)).mono ?_; rintro e wc ⟨rfl, hb⟩
  replace hB := hB.trans (hb.mono hB.size); clear hb qX
  go_wp2_with fail
  go_ret
  exact ⟨⟨R, rfl, fun h => by rw [← HR.out]; exact h⟩, hB⟩
end
end
section
open Go.RowKit Go.Lib
theorem lnB_len {W : Int} {l : List Int} (h : lnB W l = true) : l.length ≤ 4 := by
 unfold lnB at h
 simp only [Bool.and_eq_true, decide_eq_true_eq] at h
 exact h.1
end
section
open Go.RowKit Go.Lib
section
variable {w : World} {A1 A2 : Option Addr} {n1 n2 c1 c2 : Nat} {l1 l2 : List Int}
theorem Same_I (h1 : IA w A1 n1 c1 l1) (h2 : IA w A2 n2 c2 l2) (k1 : n1 ≤ 6) (k2 : n2 ≤ 6) : Calls Tryz.prog 31 #[.slice A1 n1 c1, .slice A2 n2 c2] w fun e w' => e = .returned (.bool (decide (l1 = l2))) ∧ Below w.heap.size w w' :=
 same_any A1 n1 c1 l1 A2 n2 c2 l2 w (by omega) (by omega) h1.2.2 h2.2.2
end
end
section
open Go.RowKit Go.Lib
def allLL (wn : Nat) : List (List Int) := (List.range 5).flatMap fun k => allLs k wn
theorem allLL_mem {wn : Nat} {l : List Int} (h : l ∈ allLL wn) : l.length ≤ 4 ∧ ∀ x ∈ l, 0 ≤ x ∧ x < (wn : Int) := by
 obtain ⟨k, hk, hl⟩ := List.mem_flatMap.1 h
 obtain ⟨h1, h2⟩ := allLs_mem hl
 have := List.mem_range.1 hk
 exact ⟨by omega, h2⟩
theorem allLL_len {wn : Nat} (h1 : 1 ≤ wn) (h3 : wn ≤ 3) : (allLL wn).length ≤ 121 := by
 have : wn = 1 ∨ wn = 2 ∨ wn = 3 := by omega
 rcases this with rfl | rfl | rfl
 ·exact of_decide_eq_true (by kernel_rfl)
 ·exact of_decide_eq_true (by kernel_rfl)
 ·exact of_decide_eq_true (by kernel_rfl)
end
section
open Go.RowKit Go.Lib
theorem nwL_lbS {l : List Int} (h : ∀ x ∈ l, 0 ≤ x ∧ x ≤ 2) : nwL (lbS l) = l := by
 unfold nwL lbS lbL
 show (l.map fun x => UInt8.ofNat x.toNat).map (fun b => ((b.toNat : Nat) : Int)) = l
 rw [List.map_map]
 conv => rhs; rw [← List.map_id l]
 refine List.map_congr_left fun x hx => ?_
 have := h x hx
 simp only [Function.comp_apply, UInt8.toNat_ofNat', id]
 omega
theorem allLn_LL (wn : Nat) : allLn wn = (allLL wn).map lbS := by
 unfold allLn allLL
 rw [List.map_flatMap]
theorem allLL_small {wn : Nat} (h3 : wn ≤ 3) {l : List Int} (h : l ∈ allLL wn) : ∀ x ∈ l, 0 ≤ x ∧ x ≤ 2 := fun x hx => by
 have := (allLL_mem h).2 x hx
 omega
end
section
open Go.RowKit Go.Lib
def befL : List Int → List Int → Bool
 | [], b => decide (0 < b.length)
 | _ :: _, [] => false
 | x :: xs, y :: ys => if x = y then befL xs ys else decide (x < y)
def b89 (a b : List Int) : Bool := if a.length = b.length then befL a b else decide (a.length < b.length)
theorem befL_end : ∀ (a b : List Int) (_ : a = [] ∨ b = []), befL a b = decide (a.length < b.length)
 | [], b, _ => rfl
 | x :: xs, [], _ => by simp [befL]
 | x :: xs, y :: ys, h => by rcases h with h | h <;> cases h
theorem before_any (A : Option Addr) (n cap : Nat) (xs : List Int) (A2 : Option Addr) (n2 cap2 : Nat) (ys : List Int) (w : World) (h1 : IA w A n cap xs) (h2 : IA w A2 n2 cap2 ys) (hn : n ≤ 1000000) (hn2 : n2 ≤ 1000000) :
  Calls Tryz.prog 50 #[.slice A n cap, .slice A2 n2 cap2] w fun e w' => e = .returned (.bool (befL xs ys)) ∧ Below w.heap.size w w' := by
 have hl1 := h1.len; have hl2 := h2.len
 obtain ⟨R, hR⟩ : ∃ R, R = befL xs ys := ⟨_, rfl⟩
 rw [← hR]
 have H1 := Lib.hid h1; have H2 := Lib.hid h2; clear h1 h2
 go_enter Tryz.func50, Tryz.ntmps50
 go_wp2_with fail
 go_loopg [5] n (fun g i wr => ∃ k : Nat, g = n - k ∧ k ≤ n ∧ k ≤ n2 ∧ i = .int .i64 k ∧ Hid (R = befL (xs.drop k) (ys.drop k)) ∧ Below w.heap.size w wr)
 case atStart => exact ⟨0, rfl, Nat.zero_le _, Nat.zero_le _, rfl, Lib.hid hR, Below.refl _ _⟩
 case round =>
  clear hR
  obtain ⟨k, hg, hk, hk2, rfl, hpre, hB⟩ := hrel
  rename World => wr
  have HG := Lib.hid hg; clear hg
  by_cases hlt : k < n
  ·by_cases hlt2 : k < n2
   ·have hlti : (k : Int) < n := by omega
    have hlti2 : (k : Int) < n2 := by omega
    obtain ⟨b, off, hz, rfl, hb, hc1⟩ := (H1.out.toW hB).2.2.atm hlt
    obtain ⟨b2, off2, hz2, rfl, hb2, hc2⟩ := (H2.out.toW hB).2.2.atm hlt2
    have e1 : xs.drop k = xs[k] :: xs.drop (k + 1) := List.drop_eq_getElem_cons hz
    have e2 : ys.drop k = ys[k] :: ys.drop (k + 1) := List.drop_eq_getElem_cons hz2
    have hp := hpre.out
    rw [e1, e2, befL] at hp
    generalize xs[k] = x at *
    generalize ys[k] = y at *
    have HP := Lib.hid hp; clear hp e1 e2 hz hz2 hpre
    have hq1 := fun (p : Blw wr.heap.size wr) => ((Blw.h p).cell (p := ⟨b, off + k, none⟩) hb).trans hc1
    have hq2 := fun (p : Blw wr.heap.size wr) => ((Blw.h p).cell (p := ⟨b2, off2 + k, none⟩) hb2).trans hc2
    go_upto_region 4 with (fail)
    refine wp_region_blw (by kernel_rfl) (by kernel_rfl) ?_
    repeat (go_big_quiet_step (fail))
    refine wpQuiet_nil ?_
    rintro W3 ⟨⟨_, hb3⟩, rfl⟩
    clear hq1 hq2
    replace hc1 := (hb3.cell (p := ⟨b, off + k, none⟩) hb).trans hc1
    replace hc2 := (hb3.cell (p := ⟨b2, off2 + k, none⟩) hb2).trans hc2
    replace hb := Nat.lt_of_lt_of_le hb hb3.size
    replace hb2 := Nat.lt_of_lt_of_le hb2 hb3.size
    replace hB := hB.trans (hb3.mono hB.size)
    clear hb3
    by_cases hxy : x = y
    ·subst hxy
     have HP2 : Hid (R = befL (xs.drop (k + 1)) (ys.drop (k + 1))) := Lib.hid (by rw [HP.out, if_pos rfl])
     clear HP
     go_wp2_with fail
     go_roundg (n - (k + 1))
     case measure => rw [HG.out]; omega
     case rel => exact ⟨k + 1, rfl, by omega, by omega, by go_num, HP2, hB⟩
    ·have HP2 : Hid (R = decide (x < y)) := Lib.hid (by rw [HP.out, if_neg hxy])
     clear HP
     have hq1 := fun (p : Blw W3.heap.size W3) => ((Blw.h p).cell (p := ⟨b, off + k, none⟩) hb).trans hc1
     have hq2 := fun (p : Blw W3.heap.size W3) => ((Blw.h p).cell (p := ⟨b2, off2 + k, none⟩) hb2).trans hc2
     go_upto_region 5 with (fail)
     refine wp_region_blw (by kernel_rfl) (by kernel_rfl) ?_
     repeat (go_big_quiet_step (fail))
     refine wpQuiet_nil ?_
     rintro W4 ⟨⟨_, hb3⟩, rfl⟩
     go_wp2_with fail
     go_ret
     exact ⟨by rw [HP2.out]; rfl, hB.trans (hb3.mono hB.size)⟩
   ·have hge : ¬ (k : Int) < n2 := by omega
    have hlti : (k : Int) < n := by omega
    have hp := hpre.out
    rw [befL_end _ _ (.inr (List.drop_eq_nil_of_le (by omega))), List.length_drop, List.length_drop, hl1, hl2] at hp
    have hp2 : R = false := by rw [hp, decide_eq_false (by omega)]
    have hno : ¬ (n : Int) < n2 := by omega
    have HP := Lib.hid hp2; clear hp hp2 hpre
    go_wp2_with fail
    go_ret
    refine ⟨?_, hB⟩
    rw [HP.out]
    first | rfl | (show Ending.returned (.bool (decide ((n : Int) < n2))) = _; rw [decide_eq_false hno])
  ·have hge : ¬ (k : Int) < n := by omega
   have hp := hpre.out
   rw [befL_end _ _ (.inl (List.drop_eq_nil_of_le (by omega))), List.length_drop, List.length_drop, hl1, hl2] at hp
   have hp2 : R = decide (n < n2) := by rw [hp]; congr 1; apply propext; omega
   have HP := Lib.hid hp2; clear hp hp2 hpre
   go_wp2_with fail
   go_ret
   exact ⟨by rw [HP.out]; rfl, hB⟩
theorem before89_any (A : Option Addr) (n cap : Nat) (xs : List Int) (A2 : Option Addr) (n2 cap2 : Nat) (ys : List Int) (w : World) (h1 : IA w A n cap xs) (h2 : IA w A2 n2 cap2 ys) (hn : n ≤ 1000000) (hn2 : n2 ≤ 1000000) :
  Calls Tryz.prog 89 #[.slice A n cap, .slice A2 n2 cap2] w fun e w' => e = .returned (.bool (b89 xs ys)) ∧ Below w.heap.size w w' := by
 have hl1 := h1.len; have hl2 := h2.len
 by_cases he : n = n2
 ·subst he
  have e : b89 xs ys = befL xs ys := by unfold b89; rw [if_pos (by omega)]
  rw [e]
  have hc := before_any A n cap xs A2 n cap2 ys w h1 h2 hn hn2
  generalize befL xs ys = R at *
  have HC := Lib.hid hc; clear hc h1 h2 e hl1 hl2
  have hne : ((n : Int) != (n : Int)) = false := by simp
  go_enter Tryz.func89, Tryz.ntmps89
  go_wp2_with fail
  refine HC.out.mono ?_; rintro e w1 ⟨rfl, hb⟩
  go_wp2_with fail
  go_ret
  exact ⟨rfl, hb⟩
 ·have e : b89 xs ys = decide (n < n2) := by
   unfold b89; rw [if_neg (by omega)]; congr 1; apply propext; omega
  rw [e]
  clear h1 h2 e hl1 hl2
  go_enter Tryz.func89, Tryz.ntmps89
  go_wp2_with fail
  go_ret
  exact ⟨rfl, Below.refl _ _⟩
theorem met_any {v : Value} {ls : List (List Int)} {w : World} (A2 : Option Addr) (n2 cap2 : Nat) (x : List Int) (h : LL w v ls) (hx : IA w A2 n2 cap2 x) (hn2 : n2 ≤ 1000000) :
  Calls Tryz.prog 42 #[v, .slice A2 n2 cap2] w fun e w' => e = .returned (.bool (decide (x ∈ ls))) ∧ Below w.heap.size w w' := by
 obtain ⟨A, n, cap, rs, rfl, _, _, hn, hr, hok, hws⟩ := h
 have hl : rs.length = n := by simpa using hr.len
 obtain ⟨R, hR⟩ : ∃ R, R = decide (x ∈ ls) := ⟨_, rfl⟩
 rw [← hR]
 have HR := Lib.hid hR; have HX := Lib.hid hx; have HO := Lib.hid hok; have HL := Lib.hid hl; have HW := Lib.hid hws; clear hR hx hok hl hws
 go_enter Tryz.func42, Tryz.ntmps42
 go_wp2_with fail
 go_loopg [5] n (fun g i wr => ∃ k : Nat, g = n - k ∧ k ≤ n ∧ i = .int .i64 k ∧ Hid (∀ r ∈ rs.take k, r.ws ≠ x) ∧ Below w.heap.size w wr)
 case atStart => exact ⟨0, rfl, Nat.zero_le _, rfl, Lib.hid (fun r hr => absurd hr List.not_mem_nil), Below.refl _ _⟩
 case round =>
  obtain ⟨k, hg, hk, rfl, hpre, hB⟩ := hrel
  rename World => wr
  have HG := Lib.hid hg; clear hg
  by_cases hlt : k < n
  ·have hlti : (k : Int) < n := by omega
   obtain ⟨b, off, hz, rfl, hb, hc1⟩ := (rdB hr hB).atm hlt
   have hzr : k < rs.length := by simpa using hz
   have htk : rs.take (k + 1) = rs.take k ++ [rs[k]] := List.take_succ_eq_append_getElem hzr
   obtain ⟨o1, o2⟩ := HO.out _ (List.getElem_mem hzr)
   have hmem : rs[k].ws ∈ ls := by rw [← HW.out]; exact List.mem_map_of_mem (List.getElem_mem hzr)
   generalize rs[k] = y at *
   obtain ⟨yA, yn, yc, yw⟩ := y
   obtain ⟨-, -, o1⟩ := o1
   simp only [RI.val] at hc1 o1 o2 hmem
   have hsm := same_any yA yn yc yw A2 n2 cap2 x wr o2 hn2 ((o1.below hB).more hB.size) (HX.out.toW hB).2.2
   have HTK := Lib.hid htk; have HM := Lib.hid hmem; clear htk hmem hz hzr o1 o2
   cases hd : decide (yw = x) with
   | true =>
    rw [hd] at hsm
    have e : R = true := by rw [HR.out, ← of_decide_eq_true hd]; exact decide_eq_true HM.out
    subst e
    have HS := Lib.hid hsm; clear hsm hd HR
    go_wp2_with fail
    refine HS.out.mono ?_; rintro e w1 ⟨rfl, hb1⟩
    go_wp2_with fail
    go_ret
    exact ⟨rfl, hB.trans (hb1.mono hB.size)⟩
   | false =>
    rw [hd] at hsm
    have hne : yw ≠ x := of_decide_eq_false hd
    have HS := Lib.hid hsm; have HNE := Lib.hid hne; clear hsm hd hne
    go_wp2_with fail
    refine HS.out.mono ?_; rintro e w1 ⟨rfl, hb1⟩
    replace hB := hB.trans (hb1.mono hB.size); clear hb1
    go_wp2_with fail
    go_roundg (n - (k + 1))
    case measure => rw [HG.out]; omega
    case rel =>
     refine ⟨k + 1, rfl, by omega, by go_num, Lib.hid ?_, hB⟩
     rw [HTK.out]
     intro r hr
     rcases List.mem_append.1 hr with h | h
     ·exact hpre.out r h
     ·obtain rfl := List.mem_singleton.1 h
      exact HNE.out
  ·obtain rfl : k = n := by omega
   have hge : ¬ (k : Int) < k := by omega
   have e : R = false := by
    rw [HR.out, decide_eq_false_iff_not, ← HW.out]
    intro h
    obtain ⟨r, hr, rfl⟩ := List.mem_map.1 h
    exact hpre.out r (by rw [List.take_of_length_le (by rw [HL.out]; exact Nat.le_refl _)]; exact hr) rfl
   subst e
   clear HR hpre
   go_wp2_with fail
   go_ret
   exact ⟨rfl, hB⟩
end
section
open Go.RowKit Go.Lib
def costC (q : Nat) (l : List Int) (c : VC) : Nat := match c.ls[q]? with | some v => if v.lost then 0 else ed l v.ws | none => 0
def cost1 (q : Nat) (l : List Int) (cs : List VC) : Nat := (cs.map (costC q l)).sum
theorem cost1_snoc (q : Nat) (l : List Int) (cs : List VC) (c : VC) : cost1 q l (cs ++ [c]) = cost1 q l cs + costC q l c := by unfold cost1; simp
end
section
open Go.RowKit Go.Lib
def minF (f : List Int → Nat) (L : List (List Int)) : Nat := L.foldl (fun m x => min m (f x)) (match L with | [] => 0 | l :: _ => f l)
def leastF (f : List Int → Nat) (L : List (List Int)) : List (List Int) := L.filter fun l => f l == minF f L
end
section
open Go.RowKit Go.Lib
def pwB : List (List Int) → Bool
 | [] => true
 | a :: l => l.all (b89 a) && pwB l
theorem pwB_pw : ∀ l : List (List Int), pwB l = true → l.Pairwise fun a b => b89 a b = true
 | [], _ => List.Pairwise.nil
 | a :: l, h => by
  rw [pwB, Bool.and_eq_true, List.all_eq_true] at h
  exact List.Pairwise.cons h.1 (pwB_pw l h.2)
theorem allLL_pw {wn : Nat} (h1 : 1 ≤ wn) (h3 : wn ≤ 3) : (allLL wn).Pairwise fun a b => b89 a b = true := by
 have : wn = 1 ∨ wn = 2 ∨ wn = 3 := by omega
 rcases this with rfl | rfl | rfl
 ·exact pwB_pw _ (by kernel_rfl : pwB (allLL 1) = true)
 ·exact pwB_pw _ (by kernel_rfl : pwB (allLL 2) = true)
 ·exact pwB_pw _ (by kernel_rfl : pwB (allLL 3) = true)
theorem allLL_has {wn : Nat} {l : List Int} (h : lnB (wn : Int) l = true) : l ∈ allLL wn := by
 unfold lnB at h
 rw [Bool.and_eq_true, decide_eq_true_eq, List.all_eq_true] at h
 refine List.mem_flatMap.2 ⟨l.length, List.mem_range.2 (by omega), allLs_has rfl fun x hx => ?_⟩
 have := h.2 x hx
 simp only [inB, Bool.and_eq_true, decide_eq_true_eq] at this
 omega
theorem allLL_lnB {wn : Nat} {l : List Int} (h : l ∈ allLL wn) : lnB (wn : Int) l = true := by
 have h2 := allLL_mem h
 unfold lnB
 rw [Bool.and_eq_true, decide_eq_true_eq, List.all_eq_true]
 refine ⟨h2.1, fun x hx => ?_⟩
 have := h2.2 x hx
 simp only [inB, Bool.and_eq_true, decide_eq_true_eq]
 omega
theorem lawlines_any {W : Int} {A : Option Addr} {n cap : Nat} {cs : List VC} {v : Value} {ls : List (List Int)} {w : World} (hb : BkI w A n cap cs) (hk : bookB W cs = true) (h : LL w v ls) (hg : ∀ l ∈ ls, lnB W l = true) (hp : ls.Pairwise fun a b => b89 a b = true) (hm : ls.length ≤ 121) :
  Calls Tryz.prog 41 #[.agg #[.int .i64 W, .slice A n cap], v] w fun e w' => e = .returned (.bool true) ∧ Below w.heap.size w w' := by
 obtain ⟨lA, ln, lc, rs, rfl, _, _, hn, hr, hok, hws⟩ := h
 have hl : rs.length = ln := by simpa using hr.len
 have hll : ls.length = rs.length := by rw [← hws, List.length_map]
 have hn121 : ln ≤ 121 := by omega
 have HBK := Lib.hid hb; have HO := Lib.hid hok; have HW := Lib.hid hws; have HGD := Lib.hid hg; have HP := Lib.hid hp; have HK := Lib.hid hk; have HRL := Lib.hid hl
 clear hb hok hws hg hp hk hm hll hl hn
 have hX := Blk.new w 24 #[.int .i64 W, .slice A n cap]
 have hB : Below w.heap.size w (w.alloc (.cells #[.int .i64 W, .slice A n cap] 24)) := (Below.refl _ w).alloc (Nat.le_refl _) _
 have qX := fun i => hX.cell i
 have hrB := rdB hr hB
 have W0e : (w.alloc (.cells #[.int .i64 W, .slice A n cap] 24)) = (w.alloc (.cells #[.int .i64 W, .slice A n cap] 24)) := rfl
 clear W0e hrB
 go_enter Tryz.func41, Tryz.ntmps41
 go_wp2_with fail
 go_loopg [5] ln (fun g i wr => ∃ k : Nat, g = ln - k ∧ k ≤ ln ∧ i = .int .i64 k ∧ Below w.heap.size w wr ∧ Blk wr w.heap.size 24 #[.int .i64 W, .slice A n cap])
 case atStart => exact ⟨0, rfl, Nat.zero_le _, rfl, hB, hX⟩
 case round =>
  clear hX qX hB
  obtain ⟨k, hg, hk, rfl, hB, hX⟩ := hrel
  rename World => wr
  have HG := Lib.hid hg; clear hg
  by_cases hlt : k < ln
  ·have hlti : (k : Int) < ln := by omega
   have hlt200 : (k : Int) < 200 := by omega
   obtain ⟨b, off, hz, rfl, hbb, hc1⟩ := (rdB hr hB).atm hlt
   have hzr : k < rs.length := by simpa using hz
   have hmem : rs[k].ws ∈ ls := by rw [← HW.out]; exact List.mem_map_of_mem (List.getElem_mem hzr)
   obtain ⟨o1, o2⟩ := HO.out _ (List.getElem_mem hzr)
   have hgk := HGD.out _ hmem
   have hbf : ∀ (h0 : 0 < k), b89 rs[k - 1].ws rs[k].ws = true := fun h0 => by
    have h5 := List.pairwise_iff_getElem.1 HP.out (k - 1) k (by rw [← HW.out, List.length_map]; omega) (by rw [← HW.out, List.length_map]; omega) (by omega)
    have h6 : ∀ (i : Nat) (hi : i < ls.length) (hj : i < rs.length), ls[i] = rs[i].ws := by
     intro i hi hj
     have := List.getElem_of_eq HW.out.symm hi
     rw [this, List.getElem_map]
    rw [h6 _ _ (by omega), h6 _ _ hzr] at h5
    exact h5
   have hq1 := fun (p : Blw wr.heap.size wr) => ((Blw.h p).cell (p := ⟨b, off + k, none⟩) (Nat.lt_of_lt_of_le hbb (Nat.le_refl _))).trans hc1
   have hq3 := fun (p : Blw wr.heap.size wr) i => blw_blk hX p i
   have hlX := hX.lt
   have hxI : ∀ wx, Below w.heap.size w wx → IA wx rs[k].A rs[k].n rs[k].cap rs[k].ws := fun wx hx => ⟨o1.1, o1.2.1, (o1.2.2.below hx).more hx.size⟩
   have c28 := fun (p : Blw wr.heap.size wr) => Line_I (W := W) (w := p.toW) (HBK.out.toW (hB.trans (p.h.mono hB.size))) HK.out (hxI _ (hB.trans (p.h.mono hB.size)))
   rw [hgk] at c28
   have C28 := Lib.hid c28; clear c28 hmem hgk
   by_cases h0 : k = 0
   ·subst h0
    clear hbf hxI
    obtain ⟨xx, hxx⟩ : ∃ xx, xx = rs[0] := ⟨_, rfl⟩
    rw [← hxx] at C28 hq1
    clear hxx o1 o2 hz hzr hc1
    obtain ⟨xa, xn, xc, xw⟩ := xx
    simp only [RI.val] at hq1 C28
    simp only [Nat.add_zero] at hq1
    go_upto_region 4 with (fail)
    refine wp_region_blw (by kernel_rfl) (by kernel_rfl) ?_
    repeat (go_big_quiet_step (fail))
    go_big_quiet_step ((go_at_call 28; exact Calls.blw_of _ (C28.out _)))
    repeat (go_big_quiet_step (fail))
    refine wpQuiet_nil ?_
    rintro W3 ⟨⟨_, hb3⟩, rfl⟩
    clear hq1 hq3
    replace hX := hX.below hb3 hlX; replace hB := hB.trans (hb3.mono hB.size); clear hb3 hlX
    go_wp2_with fail
    go_roundg (ln - 1)
    case measure => rw [HG.out]; omega
    case rel => exact ⟨1, rfl, by omega, by go_num, hB, hX⟩
   ·obtain ⟨j, rfl⟩ : ∃ j, k = j + 1 := ⟨k - 1, by omega⟩
    have hzj : j < rs.length := by omega
    obtain ⟨p1, p2⟩ := HO.out _ (List.getElem_mem hzj)
    have hbf' := hbf (by omega)
    simp only [Nat.add_sub_cancel] at hbf'
    have hyI : ∀ wx, Below w.heap.size w wx → IA wx rs[j].A rs[j].n rs[j].cap rs[j].ws := fun wx hx => ⟨p1.1, p1.2.1, (p1.2.2.below hx).more hx.size⟩
    have c89 := fun (p : Blw wr.heap.size wr) => before89_any _ _ _ _ _ _ _ _ p.toW (hyI _ (hB.trans (p.h.mono hB.size))) (hxI _ (hB.trans (p.h.mono hB.size))) p2 o2
    rw [hbf'] at c89
    obtain ⟨b', off', hz', e', hbb', hc2⟩ := (rdB hr hB).atm (show j < ln by omega)
    obtain ⟨rfl, rfl⟩ : b = b' ∧ off = off' := by simpa using e'
    have hq2 := fun (p : Blw wr.heap.size wr) => ((Blw.h p).cell (p := ⟨b, off + j, none⟩) (Nat.lt_of_lt_of_le hbb (Nat.le_refl _))).trans hc2
    have C89 := Lib.hid c89; clear c89 hbf hbf' hxI hyI e' hbb'
    obtain ⟨xx, hxx⟩ : ∃ xx, xx = rs[j + 1] := ⟨_, rfl⟩
    rw [← hxx] at C28 C89 hq1
    obtain ⟨yy, hyy⟩ : ∃ yy, yy = rs[j] := ⟨_, rfl⟩
    rw [← hyy] at C89 hq2
    clear hxx hyy o1 o2 p1 p2 hz hzr hc1 hz' hc2 hzj
    obtain ⟨xa, xn, xc, xw⟩ := xx
    obtain ⟨ya, yn, yc, yw⟩ := yy
    simp only [RI.val] at hq1 hq2 C28 C89
    have hjl : j < ln := by omega
    have hjp : (0 : Int) < (j : Int) + 1 := by omega
    go_upto_region 4 with (fail)
    refine wp_region_blw (by kernel_rfl) (by kernel_rfl) ?_
    repeat (go_big_quiet_step (fail))
    go_big_quiet_step ((go_at_call 28; exact Calls.blw_of _ (C28.out _)))
    repeat (go_big_quiet_step (fail))
    go_big_quiet_step ((go_at_call 89; exact Calls.blw_of _ (C89.out _)))
    repeat (go_big_quiet_step (fail))
    refine wpQuiet_nil ?_
    rintro W3 ⟨⟨_, hb3⟩, rfl⟩
    clear hq1 hq2 hq3
    replace hX := hX.below hb3 hlX; replace hB := hB.trans (hb3.mono hB.size); clear hb3 hlX
    go_wp2_with fail
    go_roundg (ln - (j + 1 + 1))
    case measure => rw [HG.out]; omega
    case rel => exact ⟨j + 1 + 1, rfl, by omega, by go_num, hB, hX⟩
  ·have hge : ¬ (k : Int) < ln := by omega
   have hle : (ln : Int) ≤ 121 := by omega
   go_wp2_with fail
   go_ret
   exact ⟨rfl, hB⟩
end
section
open Go.RowKit Go.Lib Go.Maps
section
variable {f : List Int → Nat}
theorem minFold_le (f : List Int → Nat) : ∀ (L : List (List Int)) (z : Nat), L.foldl (fun m x => min m (f x)) z ≤ z ∧ ∀ l ∈ L, L.foldl (fun m x => min m (f x)) z ≤ f l
 | [], z => ⟨Nat.le_refl _, fun l h => by cases h⟩
 | a :: L, z => by
  obtain ⟨h1, h2⟩ := minFold_le f L (min z (f a))
  rw [List.foldl_cons]
  refine ⟨by omega, fun l h => ?_⟩
  rcases List.mem_cons.1 h with rfl | h
  ·omega
  ·exact h2 l h
theorem minFold_mem (f : List Int → Nat) : ∀ (L : List (List Int)) (z : Nat), L.foldl (fun m x => min m (f x)) z = z ∨ ∃ l ∈ L, f l = L.foldl (fun m x => min m (f x)) z
 | [], z => .inl rfl
 | a :: L, z => by
  rw [List.foldl_cons]
  rcases minFold_mem f L (min z (f a)) with h | ⟨l, h1, h2⟩
  ·by_cases hc : z ≤ f a
   ·exact .inl (by rw [h]; omega)
   ·exact .inr ⟨a, by simp, by rw [h]; omega⟩
  ·exact .inr ⟨l, by simp [h1], h2⟩
theorem minF_le {L : List (List Int)} {l : List Int} (h : l ∈ L) : minF f L ≤ f l := (minFold_le f L _).2 l h
theorem minF_mem {L : List (List Int)} (h : L ≠ []) : ∃ l ∈ L, f l = minF f L := by
 cases L with
 | nil => exact absurd rfl h
 | cons a L =>
  rcases minFold_mem f (a :: L) (f a) with h | h
  ·exact ⟨a, by simp, h.symm⟩
  ·exact h
theorem leastF_mem {L : List (List Int)} {l : List Int} : l ∈ leastF f L ↔ l ∈ L ∧ f l = minF f L := by
 unfold leastF
 rw [List.mem_filter]
 simp
end
theorem sumI_app (a : List Int) : ∀ (b : List Int), sumI (a ++ b) = sumI a + sumI b := by
 refine revInd ?_ ?_
 ·rw [List.append_nil]; show sumI a = sumI a + 0; omega
 ·intro l x ih
  rw [← List.append_assoc, sumI_snoc, sumI_snoc, ih]; omega
theorem olL_cost {q : Nat} {l : List Int} (hl : ∀ x ∈ l, 0 ≤ x ∧ x ≤ 2) : ∀ (cs : List VC), (∀ c ∈ cs, ∀ v ∈ c.ls, ∀ x ∈ v.ws, 0 ≤ x ∧ x ≤ 2) → sumI (olL q (lbS l) cs) = (cost1 q l cs : Nat) := by
 refine revInd (fun _ => rfl) ?_
 intro cs c ih h
 rw [olL_snoc, sumI_app, cost1_snoc, ih (fun c hc => h c (by simp [hc]))]
 have h2 := h c (by simp)
 unfold edO costC
 cases hv : c.ls[q]? with
 | none => rfl
 | some v =>
  dsimp only
  have h3 := h2 v (List.mem_of_getElem? hv)
  cases v.lost
  ·rw [if_neg (by decide), if_neg (by decide), edB_int hl h3]
   show _ + (0 + (ed l v.ws : Int)) = _
   omega
  ·rfl
theorem book_small {wn : Nat} {cs : List VC} (h : bookB (wn : Int) cs = true) : ∀ c ∈ cs, ∀ v ∈ c.ls, ∀ x ∈ v.ws, 0 ≤ x ∧ x ≤ 2 := fun c hc v hv => by
 have hW := book_W h
 unfold bookB at h
 simp only [Bool.and_eq_true, List.all_eq_true] at h
 have h2 := (h.2 c hc).2 v hv
 unfold vlB at h2
 rw [Bool.and_eq_true] at h2
 exact (ln_small hW h2.1).2
def costF (q : Nat) (cs : List VC) (l : List Int) : Nat := cost1 q l cs
def refL (wn q : Nat) (cs : List VC) : List (List Int) := leastF (costF q cs) (allLL wn)
def refC (wn q : Nat) (cs : List VC) : Nat := minF (costF q cs) (allLL wn)
section
variable {wn q : Nat} {cs : List VC}
theorem rated_ref (h3 : wn ≤ 3) (h : bookB (wn : Int) cs = true) : ratedL wn q cs = (allLL wn).map fun l => ⟨lbS l, (costF q cs l : Nat)⟩ := by
 unfold ratedL
 rw [allLn_LL, List.map_map]
 refine List.map_congr_left fun l hl => ?_
 show rateR q cs (lbS l) = _
 unfold rateR
 rw [olL_cost (allLL_small h3 hl) cs (book_small h)]
 rfl
theorem allLL_ne : allLL wn ≠ [] := fun e => by
 have : ([] : List Int) ∈ allLL wn := List.mem_flatMap.2 ⟨0, by simp, by show [] ∈ [[]]; simp⟩
 rw [e] at this; cases this
theorem leastQ_ref (h3 : wn ≤ 3) (h : bookB (wn : Int) cs = true) : leastQ wn q cs = (refL wn q cs).map fun l => ⟨lbS l, (costF q cs l : Nat)⟩ := by
 unfold leastQ leastR
 rw [rated_ref h3 h]
 obtain ⟨b, hb⟩ := bestI_some RT.c (l := (allLL wn).map fun l => (⟨lbS l, (costF q cs l : Nat)⟩ : RT)) (fun e => allLL_ne (List.map_eq_nil_iff.1 e))
 obtain ⟨h1, h2⟩ := bestI_mem _ _ _ hb
 rw [hb]
 obtain ⟨l0, hl0, rfl⟩ := List.mem_map.1 h1
 dsimp only at h2 ⊢
 have hm : costF q cs l0 = minF (costF q cs) (allLL wn) := by
  obtain ⟨l1, hl1, e⟩ := minF_mem (f := costF q cs) (allLL_ne (wn := wn))
  have a1 := h2 _ (List.mem_map_of_mem hl1)
  dsimp only at a1
  have a2 := minF_le (f := costF q cs) hl0
  omega
 unfold keepR refL leastF
 rw [List.filter_map]
 congr 1
 refine List.filter_congr fun l hl => ?_
 have a2 := minF_le (f := costF q cs) hl
 simp only [Function.comp_apply, hm]
 by_cases e : costF q cs l = minF (costF q cs) (allLL wn)
 ·rw [decide_eq_true (by omega)]; simp [e]
 ·rw [decide_eq_false (by omega)]; simp [e]
theorem leastL_ref (h3 : wn ≤ 3) (h : bookB (wn : Int) cs = true) : leastL wn q cs = (refL wn q cs).map lbS := by
 unfold leastL; rw [leastQ_ref h3 h, List.map_map]; rfl
theorem refL_small (h3 : wn ≤ 3) : ∀ l ∈ refL wn q cs, l.length ≤ 4 ∧ ∀ x ∈ l, 0 ≤ x ∧ x ≤ 2 := fun l hl => ⟨(allLL_mem (leastF_mem.1 hl).1).1, allLL_small h3 (leastF_mem.1 hl).1⟩
theorem leastL_nw (h3 : wn ≤ 3) (h : bookB (wn : Int) cs = true) : (leastL wn q cs).map nwL = refL wn q cs := by
 rw [leastL_ref h3 h, List.map_map]
 conv => rhs; rw [← List.map_id (refL wn q cs)]
 exact List.map_congr_left fun l hl => nwL_lbS (refL_small h3 l hl).2
theorem leastC_ref (h3 : wn ≤ 3) (h : bookB (wn : Int) cs = true) : leastC wn q cs = (refC wn q cs : Nat) := by
 have hp := leastQ_pos wn q cs
 unfold leastC
 rw [leastQ_ref h3 h] at hp ⊢
 cases hl : refL wn q cs with
 | nil => rw [hl] at hp; simp at hp
 | cons l ls =>
  have hm : l ∈ refL wn q cs := by rw [hl]; simp
  simp only [List.map_cons, List.head?_cons, Option.map_some, Option.getD_some]
  rw [(leastF_mem.1 hm).2]; rfl
end
end
section
open Go.RowKit Go.Lib Go.Maps
section
variable {wn : Nat} {A : Option Addr} {n cap q : Nat} {cs : List VC} {w : World}
theorem refL_len (h1 : 1 ≤ wn) (h3 : wn ≤ 3) : (refL wn q cs).length ≤ 121 := Nat.le_trans (List.length_filter_le _ _) (allLL_len h1 h3)
theorem Least_I (h : BkG wn A n cs w w.heap.size) (hk : bookB (wn : Int) cs = true) (hq : q < headN cs) :
  Calls Tryz.prog 43 #[.agg #[.int .i64 (wn : Int), .slice A n cap], .int .i64 (q : Int)] w fun e w' => (∃ u, e = .returned (.tuple #[u, .int .i64 (refC wn q cs : Nat), .int .i64 0]) ∧ LL w' u (refL wn q cs)) ∧ Below w.heap.size w w' := by
 refine (Least_yes cap q h hk hq).mono ?_
 rintro e w' ⟨⟨v, rs, rfl, hown, hrows⟩, hb⟩
 refine ⟨⟨v, by rw [leastC_ref h.1.2 hk], ?_⟩, hb⟩
 have h2 := LL.of_rows hown hrows (by have := refL_len (q := q) (cs := cs) h.1.1 h.1.2; rw [leastL_ref h.1.2 hk, List.length_map]; omega) (fun l hl => by
   rw [leastL_ref h.1.2 hk] at hl
   obtain ⟨z, hz, rfl⟩ := List.mem_map.1 hl
   rw [lbS_size]
   have := (refL_small h.1.2 z hz).1; omega)
 rw [leastL_nw h.1.2 hk] at h2
 exact h2
end
end
section
open Go.RowKit Go.Lib
theorem book_lnB {W : Int} {cs : List VC} (h : bookB W cs = true) : ∀ c ∈ cs, ∀ v ∈ c.ls, lnB W v.ws = true := fun c hc v hv => by
 unfold bookB at h
 simp only [Bool.and_eq_true, List.all_eq_true] at h
 have h2 := (h.2 c hc).2 v hv
 unfold vlB at h2
 rw [Bool.and_eq_true] at h2
 exact h2.1
theorem refL_good {wn q : Nat} {cs : List VC} (h1 : 1 ≤ wn) (h3 : wn ≤ 3) : (∀ l ∈ refL wn q cs, lnB (wn : Int) l = true) ∧ (refL wn q cs).Pairwise (fun a b => b89 a b = true) ∧ (refL wn q cs).length ≤ 121 :=
 ⟨fun l hl => allLL_lnB (leastF_mem.1 hl).1, by unfold refL leastF; exact (allLL_pw h1 h3).filter _, refL_len h1 h3⟩
theorem refL_pos {wn q : Nat} {cs : List VC} : 0 < (refL wn q cs).length := by
 obtain ⟨l, hl, e⟩ := minF_mem (f := costF q cs) (allLL_ne (wn := wn))
 exact List.length_pos_of_mem (leastF_mem.2 ⟨hl, e⟩)
end
section
open Go.RowKit Go.Lib Go.Maps
def frsF (wn q : Nat) (cs : List VC) : List Int := (refL wn q cs).head?.getD []
def wholeL (wn : Nat) (cs : List VC) (k : Nat) : List (List Int) := (List.range k).map fun q => frsF wn q cs
def refM (wn : Nat) (cs : List VC) : Nat → Nat
 | 0 => 1
 | k + 1 => refM wn cs k * (refL wn k cs).length
def refS (wn : Nat) (cs : List VC) : Nat → Nat
 | 0 => 0
 | k + 1 => refS wn cs k + refC wn k cs
section
variable {wn : Nat} {cs : List VC}
theorem refM_text (h3 : wn ≤ 3) (h : bookB (wn : Int) cs = true) : ∀ k, textM wn cs k = refM wn cs k
 | 0 => rfl
 | k + 1 => by rw [textM, refM, refM_text h3 h k, leastQ_ref h3 h, List.length_map]
theorem refM_le (h1 : 1 ≤ wn) (h3 : wn ≤ 3) : ∀ k, refM wn cs k ≤ 121 ^ k
 | 0 => Nat.le_refl _
 | k + 1 => by rw [refM, Nat.pow_succ]; exact Nat.mul_le_mul (refM_le h1 h3 k) (refL_len h1 h3)
theorem refS_text (h3 : wn ≤ 3) (h : bookB (wn : Int) cs = true) : ∀ k, sumI (textCs wn cs k) = (refS wn cs k : Nat)
 | 0 => rfl
 | k + 1 => by
  have e : textCs wn cs (k + 1) = textCs wn cs k ++ [leastC wn k cs] := by unfold textCs; rw [List.range_succ, List.map_append]; rfl
  rw [e, sumI_snoc, refS_text h3 h k, leastC_ref h3 h, refS]; omega
theorem firstL_ref (h3 : wn ≤ 3) (h : bookB (wn : Int) cs = true) (q : Nat) : firstL wn q cs = lbS (frsF wn q cs) := by
 unfold firstL frsF
 rw [leastQ_ref h3 h]
 cases refL wn q cs <;> rfl
theorem frsF_mem (q : Nat) : frsF wn q cs ∈ refL wn q cs := by
 obtain ⟨l, hl, e⟩ := minF_mem (f := costF q cs) (allLL_ne (wn := wn))
 have hm : l ∈ refL wn q cs := leastF_mem.2 ⟨hl, e⟩
 unfold frsF
 cases h : refL wn q cs with
 | nil => rw [h] at hm; cases hm
 | cons a b => simp
theorem textLs_ref (h3 : wn ≤ 3) (h : bookB (wn : Int) cs = true) (k : Nat) : (textLs wn cs k).map nwL = wholeL wn cs k := by
 unfold textLs wholeL
 rw [List.map_map]
 refine List.map_congr_left fun q _ => ?_
 show nwL (firstL wn q cs) = _
 rw [firstL_ref h3 h, nwL_lbS (refL_small h3 _ (frsF_mem q)).2]
end
theorem BkG.head0 {wn : Nat} {A : Option Addr} {n : Nat} {cs : List VC} {w : World} {B : Nat} (h : BkG wn A n cs w B) : ∃ b off a0 k0, A = some ⟨b, off, none⟩ ∧ b < B ∧ w.cell? ⟨b, off, none⟩ = some (.slice a0 (headN cs) k0) := by
 obtain ⟨b, off, hz, e, hb, hc⟩ := h.2.2.2.1.atm (show 0 < n by have := h.2.1; omega)
 refine ⟨b, off, cs[0].A, cs[0].cap, e, hb, ?_⟩
 rw [Nat.add_zero] at hc
 rw [hc, ← (h.2.2.2.2.2.1 _ (List.getElem_mem hz)).1]; rfl
section
variable {wn : Nat} {A : Option Addr} {n cap : Nat} {cs : List VC} {w : World}
theorem Text_I (h : BkG wn A n cs w w.heap.size) (hk : bookB (wn : Int) cs = true) :
  Calls Tryz.prog 51 #[.agg #[.int .i64 (wn : Int), .slice A n cap]] w fun e w' => (∃ u, e = .returned (.tuple #[u, .int .i64 (refM wn cs (headN cs) : Nat), .int .i64 (refS wn cs (headN cs) : Nat), .int .i64 0]) ∧ LL w' u (wholeL wn cs (headN cs))) ∧ Below w.heap.size w w' := by
 refine (Text_yes cap h hk).mono ?_
 rintro e w' ⟨v, rfl, rs, hown, hrows, hb⟩
 refine ⟨⟨v, by rw [refM_text h.1.2 hk, refS_text h.1.2 hk], ?_⟩, hb⟩
 have h4 := h.2.2.1
 have h2 := LL.of_rows hown hrows (by omega) (fun l hl => by
   unfold textLs at hl
   obtain ⟨z, _, rfl⟩ := List.mem_map.1 hl
   rw [firstL_ref h.1.2 hk, lbS_size]
   have := (refL_small h.1.2 _ (frsF_mem (wn := wn) (cs := cs) z)).1; omega)
 rw [textLs_ref h.1.2 hk] at h2
 exact h2
end
end
section
open Go.RowKit Go.Lib Go.Maps
def tkF (v : VL) (l : List Int) : Nat := if v.lost then 0 else ed l v.ws
def maxF (f : List Int → Nat) (L : List (List Int)) : Nat := L.foldl (fun m x => max m (f x)) 0
def tkC (c : VC) (q : Nat) (l : List Int) : Nat := match c.ls[q]? with | some v => tkF v l | none => 0
def farLo (wn : Nat) (cs : List VC) (c : VC) : Nat → Nat
 | 0 => 0
 | k + 1 => farLo wn cs c k + minF (tkC c k) (refL wn k cs)
def farHi (wn : Nat) (cs : List VC) (c : VC) : Nat → Nat
 | 0 => 0
 | k + 1 => farHi wn cs c k + maxF (tkC c k) (refL wn k cs)
theorem minL_F (f : List Int → Nat) : ∀ L : List (List Int), L ≠ [] → minL (L.map fun l => (f l : Int)) = (minF f L : Nat)
 | [], h => absurd rfl h
 | l :: L, _ => by
  have h : ∀ (L : List (List Int)) (z : Nat), (L.map fun l => (f l : Int)).foldl min (z : Int) = ((L.foldl (fun m x => min m (f x)) z : Nat) : Int) := by
   intro L
   induction L with
   | nil => intro z; rfl
   | cons a L ih =>
    intro z
    rw [List.map_cons, List.foldl_cons, List.foldl_cons, ← ih, show min (z : Int) (f a : Int) = ((min z (f a) : Nat) : Int) by omega]
  rw [List.map_cons]
  show (L.map fun l => (f l : Int)).foldl min ((f l : Nat) : Int) = _
  rw [h]
  show _ = (((l :: L).foldl (fun m x => min m (f x)) (f l) : Nat) : Int)
  rw [List.foldl_cons, Nat.min_self]
theorem maxL_F (f : List Int → Nat) : ∀ L : List (List Int), L ≠ [] → maxL (L.map fun l => (f l : Int)) = (maxF f L : Nat)
 | [], h => absurd rfl h
 | l :: L, _ => by
  have h : ∀ (L : List (List Int)) (z : Nat), (L.map fun l => (f l : Int)).foldl max (z : Int) = ((L.foldl (fun m x => max m (f x)) z : Nat) : Int) := by
   intro L
   induction L with
   | nil => intro z; rfl
   | cons a L ih =>
    intro z
    rw [List.map_cons, List.foldl_cons, List.foldl_cons, ← ih, show max (z : Int) (f a : Int) = ((max z (f a) : Nat) : Int) by omega]
  rw [List.map_cons]
  show (L.map fun l => (f l : Int)).foldl max ((f l : Nat) : Int) = _
  rw [h]
  show _ = (((l :: L).foldl (fun m x => max m (f x)) 0 : Nat) : Int)
  rw [List.foldl_cons, Nat.zero_max]
theorem minF_zero {f : List Int → Nat} {L : List (List Int)} (hf : ∀ l ∈ L, f l = 0) : minF f L = 0 := by
 cases L with
 | nil => rfl
 | cons a L => have := minF_le (f := f) (L := a :: L) (l := a) (by simp); rw [hf a (by simp)] at this; omega
theorem maxF_zero {f : List Int → Nat} : ∀ {L : List (List Int)}, (∀ l ∈ L, f l = 0) → maxF f L = 0 := by
 intro L h
 have : ∀ (L : List (List Int)), (∀ l ∈ L, f l = 0) → ∀ z, L.foldl (fun m x => max m (f x)) z = z := by
  intro L
  induction L with
  | nil => intro _ z; rfl
  | cons a L ih => intro h z; rw [List.foldl_cons, h a (by simp), Nat.max_zero]; exact ih (fun l hl => h l (by simp [hl])) z
 exact this L h 0
theorem refL_ne {wn q : Nat} {cs : List VC} : refL wn q cs ≠ [] := fun e => by have := refL_pos (wn := wn) (q := q) (cs := cs); rw [e] at this; cases this
theorem far_ref {wn : Nat} {cs : List VC} (h3 : wn ≤ 3) (h : bookB (wn : Int) cs = true) {c : VC} (hc : c ∈ cs) : ∀ k, sumI ((farL wn cs c k).map Prod.fst) = (farLo wn cs c k : Nat) ∧ sumI ((farL wn cs c k).map Prod.snd) = (farHi wn cs c k : Nat)
 | 0 => ⟨rfl, rfl⟩
 | k + 1 => by
  obtain ⟨i1, i2⟩ := far_ref h3 h hc k
  rw [farL_succ, List.map_append, List.map_append, sumI_app, sumI_app, i1, i2]
  have hs := book_small h c hc
  rw [show farLo wn cs c (k + 1) = farLo wn cs c k + minF (tkC c k) (refL wn k cs) from rfl, show farHi wn cs c (k + 1) = farHi wn cs c k + maxF (tkC c k) (refL wn k cs) from rfl]
  unfold farO
  have z1 : ∀ (f : List Int → Nat), (∀ l, f l = 0) → minF f (refL wn k cs) = 0 ∧ maxF f (refL wn k cs) = 0 := fun f hf => ⟨minF_zero fun l _ => hf l, maxF_zero fun l _ => hf l⟩
  cases hv : c.ls[k]? with
  | none =>
   obtain ⟨a1, a2⟩ := z1 (tkC c k) (fun l => by unfold tkC; rw [hv])
   rw [a1, a2]
   exact ⟨by show _ + (0 : Int) = _; omega, by show _ + (0 : Int) = _; omega⟩
  | some v =>
   dsimp only
   have hsv := hs v (List.mem_of_getElem? hv)
   cases hl : v.lost
   ·rw [if_neg (by decide)]
    have e : farD (leastQ wn k cs) v.ws = (refL wn k cs).map fun l => (tkC c k l : Int) := by
     unfold farD
     rw [leastQ_ref h3 h, List.map_map]
     refine List.map_congr_left fun l hl2 => ?_
     show (edB (lbS l) (lbS v.ws) : Int) = _
     rw [edB_int (refL_small h3 l hl2).2 hsv]
     unfold tkC tkF
     rw [hv]; simp [hl]
    rw [e, minL_F _ _ refL_ne, maxL_F _ _ refL_ne]
    exact ⟨by show _ + (0 + _) = _; omega, by show _ + (0 + _) = _; omega⟩
   ·rw [if_pos rfl]
    obtain ⟨a1, a2⟩ := z1 (tkC c k) (fun l => by unfold tkC tkF; rw [hv]; simp [hl])
    rw [a1, a2]
    exact ⟨by show _ + (0 : Int) = _; omega, by show _ + (0 : Int) = _; omega⟩
end
section
open Go.RowKit Go.Lib Go.Maps
def vlAt (cs : List VC) (p k : Nat) : VL := ((cs[p]?).bind fun c => c.ls[k]?).getD ⟨true, none, 0, 0, []⟩
theorem vlAt_ls {cs : List VC} {p k : Nat} {c : VC} (h : cs[p]? = some c) (hk : k < c.ls.length) : c.ls[k]? = some (vlAt cs p k) := by
 unfold vlAt
 rw [h, Option.bind_some, List.getElem?_eq_getElem hk]; rfl
theorem BkG.rows {wn : Nat} {A : Option Addr} {n : Nat} {cs : List VC} {w : World} {B : Nat} (h : BkG wn A n cs w B) : ∃ b off, A = some ⟨b, off, none⟩ ∧ b < B ∧ ∀ p, p < n → ∃ b2 off2 cc, w.cell? ⟨b, off + p, none⟩ = some (.slice (some ⟨b2, off2, none⟩) (headN cs) cc) ∧ b2 < B ∧
  ∀ k, k < headN cs → w.cell? ⟨b2, off2 + k * 2, none⟩ = some (.bool (vlAt cs p k).lost) ∧ w.cell? ⟨b2, off2 + k * 2 + 1, none⟩ = some (.slice (vlAt cs p k).A (vlAt cs p k).n (vlAt cs p k).cap) ∧ (vlAt cs p k).ok w B ∧ (vlAt cs p k).n ≤ 4 ∧ (vlAt cs p k).ws.length ≤ 4 := by
 obtain ⟨b, off, hz, e, hb, hc⟩ := h.2.2.2.1.atm (show 0 < n by have := h.2.1; omega)
 refine ⟨b, off, e, hb, fun p hp => ?_⟩
 obtain ⟨b', off', hz', e', _, hc'⟩ := h.2.2.2.1.atm hp
 rw [e] at e'
 cases e'
 have hin := List.getElem_mem hz'
 have hco := h.2.2.2.2.1 _ hin
 have hcn := h.2.2.2.2.2.1 _ hin
 have hcv := h.2.2.2.2.2.2 _ hin
 have hp2 : cs[p]? = some cs[p] := List.getElem?_eq_getElem hz'
 have hL := h.2.2.1.1
 have h0 := hco.2.2.2.at2 (show 0 < cs[p].n by omega)
 obtain ⟨b2, off2, _, e2, hb2, _, _⟩ := h0
 refine ⟨b2, off2, cs[p].cap, by rw [hc', ← hcn.1, ← e2]; rfl, hb2, fun k hk => ?_⟩
 obtain ⟨b3, off3, hz3, e3, _, hv0, hv1⟩ := hco.2.2.2.at2 (show k < cs[p].n by omega)
 rw [e2] at e3
 cases e3
 have hl := vlAt_ls hp2 hz3
 rw [List.getElem?_eq_getElem hz3] at hl
 have hl2 := Option.some.inj hl
 rw [← hl2]
 have hv := hcv _ (List.getElem_mem hz3)
 exact ⟨hv0, hv1, hco.2.2.1 _ (List.getElem_mem hz3), hv.1, hv.2.1⟩
end
section
open Go.RowKit Go.Lib Go.Maps
theorem vlAt_lnB {W : Int} {cs : List VC} (h : bookB W cs = true) {p k : Nat} (hp : p < cs.length) (hk : k < headN cs) : lnB W (vlAt cs p k).ws = true := by
 have hin := List.getElem_mem hp
 have hl : (cs[p]).ls.length = headN cs := by
  unfold bookB at h
  simp only [Bool.and_eq_true, List.all_eq_true, beq_iff_eq] at h
  exact (h.2 _ hin).1
 have e := vlAt_ls (List.getElem?_eq_getElem hp) (show k < (cs[p]).ls.length by omega)
 exact book_lnB h _ hin _ (List.mem_of_getElem? e)
end
section
open Go.ChangeShapes Go.WideShapes Go.ChangeAt Go.RowKit Go.Deep Go.Lib
set_option maxRecDepth 100000
section
variable {H : Type} {enc : TypeId × Value → H} {w : World} {base : Nat} {spare : Nat → Bool} {held : Bool} {r : Reach} {b0 : Nat} {v : Value} {d : DataW H} {p : List MemPlace}
theorem law_num (hv : Value.okWide Tryz.prog w r b0 3 v) (h : DataW.Trod enc Tryz.prog w base spare held 3 v d p) : ∃ k : Int, v = .int .i64 k ∧ -9223372036854775808 ≤ k ∧ k ≤ 9223372036854775807 := by
 obtain ⟨k, rfl, rfl, rfl, wk⟩ := open_int Tryz.underlying3 hv h
 have := wk
 simp [Lit.wf, IntKind.min, IntKind.max, IntKind.signed, IntKind.bits] at this
 exact ⟨k, rfl, by omega, by omega⟩
end
end
section
open Go.RowKit Go.Lib Go.Maps
def TXI (w : World) (A : Option Addr) (n cap : Nat) (rs : List RI) : Prop := n ≤ cap ∧ cap ≤ maxLen ∧ Rd w w.heap.size 1 A n (rs.map RI.val) ∧ ∀ r ∈ rs, r.ok w w.heap.size
theorem TXI.toW {w w' : World} {A : Option Addr} {n cap : Nat} {rs : List RI} (h : TXI w A n cap rs) (hb : Below w.heap.size w w') : TXI w' A n cap rs := ⟨h.1, h.2.1, rdB h.2.2.1 hb, fun r hr => okB2 (h.2.2.2 r hr) hb⟩
theorem TXI.max {w : World} {A : Option Addr} {n cap : Nat} {rs : List RI} (h : TXI w A n cap rs) : n ≤ maxLen := Nat.le_trans h.1 h.2.1
theorem TXI.len {w : World} {A : Option Addr} {n cap : Nat} {rs : List RI} (h : TXI w A n cap rs) : rs.length = n := by simpa using h.2.2.1.len
open Go.ChangeShapes Go.WideShapes Go.ChangeAt Go.Deep in
theorem law_texts {H : Type} {enc : TypeId × Value → H} {w : World} {base : Nat} {spare : Nat → Bool} {held : Bool} {r : Reach} {b0 : Nat} {v : Value} {d : DataW H} {p : List MemPlace} (hv : Value.okWide Tryz.prog w r b0 46 v) (h : DataW.Trod enc Tryz.prog w base spare held 46 v d p) : ∃ (A : Option Addr) (n cap : Nat) (rs : List RI), v = .slice A n cap ∧ TXI w A n cap rs := by
 obtain ⟨a0, n0, c0, rfl⟩ := okWide_slice Tryz.underlying46 hv
 obtain ⟨fuel, h⟩ := h
 have h : DataW.trod enc Tryz.prog w base spare held fuel 46 [.slice a0 n0 c0] = some (d, p) := by simpa [Value.cells] using h
 rcases open_slice1 Tryz.underlying46 (by kernel_rfl) h with ⟨hc, _⟩ | ⟨a, len, cap, m, n, V, D, Pl, hc, _, hl, hm, hmm, _, hx⟩
 ·obtain ⟨rfl, rfl, rfl⟩ : a0 = none ∧ n0 = 0 ∧ c0 = 0 := by simpa using hc
  exact ⟨none, 0, 0, [], rfl, Nat.le_refl _, Nat.zero_le _, Rd.nil .., fun r hr => (by cases hr)⟩
 ·have hc2 : a0 = some a ∧ n0 = len ∧ c0 = cap := by simpa using hc
  obtain ⟨rfl, rfl, rfl⟩ := hc2
  rename Addr => a
  have hlm : n0 ≤ m := by rw [hmm]; split <;> omega
  have each : ∀ i, ∃ f : RI, i < n0 → w.cell? (a.add i) = some f.val ∧ f.ok w w.heap.size := by
   intro i
   by_cases hi : i < n0
   ·obtain ⟨h1, h2⟩ := hx i (by omega)
    obtain ⟨A, n, cap, l, e, ho⟩ := law_intsF h2
    exact ⟨⟨A, n, cap, l⟩, fun _ => ⟨by rw [h1, e]; rfl, ho⟩⟩
   ·exact ⟨⟨none, 0, 0, []⟩, fun h => absurd h hi⟩
  obtain ⟨g, hg⟩ : ∃ g : Nat → RI, ∀ i, i < n0 → w.cell? (a.add i) = some (g i).val ∧ (g i).ok w w.heap.size :=
   ⟨fun i => Classical.choose (each i), fun i => Classical.choose_spec (each i)⟩
  refine ⟨some a, n0, c0, (List.range n0).map g, rfl, hl, hm, ⟨by simp, fun h0 => ?_⟩, fun f hf => ?_⟩
  ·have g0 := (hg 0 h0).1
   obtain ⟨b, off, spot⟩ := a
   have hspot : spot = none := by simpa [Addr.add] using World.cell?_spot g0
   subst hspot
   refine ⟨b, off, rfl, block_lt_of_cell g0, fun i u hu => ?_⟩
   rw [List.getElem?_map, List.getElem?_map] at hu
   by_cases hi : i < n0
   ·rw [List.getElem?_range hi] at hu
    have hu' : (g i).val = u := by simpa using hu
    rw [← hu']
    have hci := (hg i hi).1
    rcases i with _ | i <;> simpa [Addr.add] using hci
   ·rw [List.getElem?_eq_none (by simpa using hi)] at hu
    cases hu
  ·obtain ⟨i, hi, rfl⟩ := List.mem_map.1 hf
   exact (hg i (List.mem_range.1 hi)).2
def BriefB (n : Nat) (rs : List RI) (e : Ending) : Prop := ∃ b : Bool, e = .returned (.bool b) ∧ (b = true → n ≤ 6 ∧ ∀ r ∈ rs, r.n ≤ 6)
theorem brief_any (A : Option Addr) (n cap : Nat) (rs : List RI) (w : World) (h : TXI w A n cap rs) : Calls Tryz.prog 56 #[.slice A n cap] w fun e w' => BriefB n rs e ∧ Below w.heap.size w w' := by
 have hl := h.len
 have hm := h.max
 unfold maxLen at hm
 have HL := Lib.hid hl; have H := Lib.hid h; clear hl h
 go_enter Tryz.func56, Tryz.ntmps56
 go_wp2_with fail
 go_loopg [3] n (fun g i wr => ∃ k : Nat, g = n - k ∧ k ≤ n ∧ k ≤ 6 ∧ i = .int .i64 k ∧ Hid (∀ r ∈ rs.take k, r.n ≤ 6) ∧ wr = w)
 case atStart => exact ⟨0, rfl, Nat.zero_le _, Nat.zero_le _, rfl, Lib.hid (fun r h => by cases h), rfl⟩
 case round =>
  obtain ⟨k, hg, hk, hk6, rfl, hpre, rfl⟩ := hrel
  rename World => w
  have HG := Lib.hid hg; clear hg
  by_cases hlt : k < n
  ·have hlti : (k : Int) < n := by omega
   by_cases h6 : k < 6
   ·have h6i : (k : Int) < 6 := by omega
    obtain ⟨b, off, hz, rfl, hbw, hcell⟩ := H.out.2.2.1.atm hlt
    have hok := H.out.2.2.2 _ (List.getElem_mem hz)
    have htk : rs.take (k + 1) = rs.take k ++ [rs[k]] := List.take_succ_eq_append_getElem hz
    generalize rs[k] = r at *
    obtain ⟨rA, rn, rc, l⟩ := r
    simp only [RI.val] at hcell
    have hrm : rn ≤ maxLen := Nat.le_trans hok.1 hok.2.1
    unfold maxLen at hrm
    have HTK := Lib.hid htk; clear htk hok hz
    by_cases hr6 : (6 : Int) < rn
    ·go_wp2_with fail
     go_ret
     exact ⟨⟨false, rfl, fun h => by cases h⟩, Below.refl _ _⟩
    ·have hp2 : Hid (∀ r ∈ rs.take (k + 1), r.n ≤ 6) := Lib.hid (fun r hr => by
       rw [HTK.out] at hr
       rcases List.mem_append.1 hr with hr | hr
       · exact hpre.out r hr
       · rw [List.mem_singleton.1 hr]; show rn ≤ 6; omega)
     go_wp2_with fail
     go_roundg (n - (k + 1))
     case measure => rw [HG.out]; omega
     case rel => exact ⟨k + 1, rfl, by omega, by omega, by go_num, hp2, rfl⟩
   ·have h6i : ¬ (k : Int) < 6 := by omega
    have hn6 : ¬ (n : Int) ≤ 6 := by omega
    go_wp2_with fail
    go_ret
    refine ⟨⟨false, rfl, fun h => by cases h⟩, Below.refl _ _⟩
  ·obtain rfl : k = n := by omega
   have hge : ¬ (k : Int) < k := by omega
   have hn6 : (k : Int) ≤ 6 := by omega
   have htk : rs.take k = rs := List.take_of_length_le (by rw [HL.out]; exact Nat.le_refl _)
   have hp2 := hpre.out
   rw [htk] at hp2
   have HP := Lib.hid hp2; clear hp2 htk hpre
   go_wp2_with fail
   go_ret
   refine ⟨⟨true, rfl, fun _ => ⟨hk6, HP.out⟩⟩, Below.refl _ _⟩
theorem refText_any {wn : Nat} {A : Option Addr} {n : Nat} (cap : Nat) {cs : List VC} (tA : Option Addr) (tn tc : Nat) (ts : List RI) {w : World} (h : BkG wn A n cs w w.heap.size) (ht : TXI w tA tn tc ts) :
  Calls Tryz.prog 57 #[.agg #[.int .i64 (wn : Int), .slice A n cap], .slice tA tn tc] w fun e w' => e = .returned (.bool (textB (wn : Int) (headN cs) ts)) ∧ Below w.heap.size w w' := by
 have hl := ht.len
 have hm := ht.max
 unfold maxLen at hm
 have hn5 := h.2.1
 have hrl := fun (wx : World) (A1 : Option Addr) (n1 c1 : Nat) (l1 : List Int) (h1 : IA wx A1 n1 c1 l1) => refLine_any (wn : Int) A n cap A1 n1 c1 l1 wx (by have := h.1.1; omega) (by have := h.1.2; omega) h1.max h1.2.2
 obtain ⟨bb, off, a0, k0, rfl, hbw, hcell⟩ := h.head0
 obtain ⟨R, hR⟩ : ∃ R, R = textB (wn : Int) (headN cs) ts := ⟨_, rfl⟩
 rw [← hR]
 obtain ⟨L, hL⟩ : ∃ L, L = headN cs := ⟨_, rfl⟩
 rw [← hL] at hR hcell
 have hL4 : L ≤ 4 := by have := h.2.2.1; omega
 have hX := Blk.new w 24 #[.int .i64 (wn : Int), .slice (some ⟨bb, off, none⟩) n cap]
 have hB : Below w.heap.size w (w.alloc (.cells #[.int .i64 (wn : Int), .slice (some ⟨bb, off, none⟩) n cap] 24)) := (Below.refl _ w).alloc (Nat.le_refl _) _
 have hn0 : (0 : Int) < n := by omega
 have hR2 : R = (decide ((tn : Int) = L) && ts.all fun r => lnB (wn : Int) r.ws) := by rw [hR, ← hl]; rfl
 have HR := Lib.hid hR2; have HRL := Lib.hid hrl; have HL := Lib.hid hl; have HT := Lib.hid ht; clear hR hR2 hrl hl ht h hL
 have qX := fun i => hX.cell i
 go_enter Tryz.func57, Tryz.ntmps57
 go_wp2_with fail
 clear qX
 generalize w.alloc (.cells #[.int .i64 (wn : Int), .slice (some ⟨bb, off, none⟩) n cap] 24) = W0 at *
 go_loopg [5] tn (fun g i wr => ∃ k : Nat, g = tn - k ∧ k ≤ tn ∧ i = .int .i64 k ∧ Hid ((ts.take k).all (fun r => lnB (wn : Int) r.ws) = true) ∧ Below w.heap.size w wr ∧ Blk wr w.heap.size 24 #[.int .i64 (wn : Int), .slice (some ⟨bb, off, none⟩) n cap])
 case atStart => exact ⟨0, rfl, Nat.zero_le _, rfl, Lib.hid rfl, hB, hX⟩
 case round =>
  clear hX hB
  obtain ⟨k, hg, hk, rfl, hpre, hB, hX⟩ := hrel
  rename World => wr
  have HG := Lib.hid hg; clear hg
  have qX := fun i => hX.cell i
  have hc0 := (hB.cell (p := ⟨bb, off, none⟩) hbw).trans hcell
  by_cases hlt : k < tn
  ·have hlti : (k : Int) < tn := by omega
   obtain ⟨b2, off2, hz, rfl, hb2, hc2⟩ := HT.out.2.2.1.atm hlt
   have hok := HT.out.2.2.2 _ (List.getElem_mem hz)
   have htk : (ts.take (k + 1)).all (fun r => lnB (wn : Int) r.ws) = (lnB (wn : Int) ts[k].ws) := by rw [List.take_succ_eq_append_getElem hz, List.all_append, hpre.out]; simp
   have hbad : lnB (wn : Int) ts[k].ws = false → R = false := fun h => by
    rw [HR.out]
    have : ts.all (fun r => lnB (wn : Int) r.ws) = false := by rw [List.all_eq_false]; exact ⟨_, List.getElem_mem hz, by rw [h]; decide⟩
    rw [this, Bool.and_false]
   generalize ts[k] = r at *
   obtain ⟨rA, rn, rc, l⟩ := r
   simp only [RI.val] at hc2
   have hc2r := (hB.cell (p := ⟨b2, off2 + k, none⟩) hb2).trans hc2
   have hln := fun (z : Blw wr.heap.size wr) => HRL.out z.toW rA rn rc l ⟨hok.1, hok.2.1, rdB hok.2.2 (hB.trans (z.h.mono hB.size))⟩
   have hq1 := fun (z : Blw wr.heap.size wr) => ((Blw.h z).cell (p := ⟨b2, off2 + k, none⟩) (Nat.lt_of_lt_of_le hb2 hB.size)).trans hc2r
   have hq2 := fun (z : Blw wr.heap.size wr) j => blw_blk hX z j
   have hlX := hX.lt
   have HTK := Lib.hid htk; have HBAD := Lib.hid hbad; clear htk hbad hok hz hpre hc2r
   dsimp only at HTK HBAD
   cases hlb : lnB (wn : Int) l with
   | false =>
    rw [hlb] at hln
    have HLN := Lib.hid hln; have hRf : Hid (R = false) := Lib.hid (HBAD.out hlb); clear hln hlb
    go_upto_region 4 with (fail)
    refine wp_region_blw (by kernel_rfl) (by kernel_rfl) ?_
    repeat (go_big_quiet_step (fail))
    go_big_quiet_step ((go_at_call 28; exact Calls.blw_of _ (HLN.out _)))
    repeat (go_big_quiet_step (fail))
    refine wpQuiet_nil ?_
    rintro W3 ⟨⟨_, hb3⟩, rfl⟩
    clear hq1 hq2 hlX qX
    go_wp2_with fail
    go_ret
    exact ⟨by rw [hRf.out]; rfl, hB.trans (hb3.mono hB.size)⟩
   | true =>
    rw [hlb] at hln HTK
    have HLN := Lib.hid hln; clear hln hlb
    go_upto_region 4 with (fail)
    refine wp_region_blw (by kernel_rfl) (by kernel_rfl) ?_
    repeat (go_big_quiet_step (fail))
    go_big_quiet_step ((go_at_call 28; exact Calls.blw_of _ (HLN.out _)))
    repeat (go_big_quiet_step (fail))
    refine wpQuiet_nil ?_
    rintro W3 ⟨⟨_, hb3⟩, rfl⟩
    clear hq1 hq2 hlX qX
    go_wp2_with fail
    go_roundg (tn - (k + 1))
    case measure => rw [HG.out]; omega
    case rel => exact ⟨k + 1, rfl, by omega, by go_num, HTK, hB.trans (hb3.mono hB.size), hX.below hb3 hX.lt⟩
  ·obtain rfl : k = tn := by omega
   have hge : ¬ (k : Int) < k := by omega
   have hall : R = decide ((k : Int) = L) := by
    have h9 := hpre.out
    rw [List.take_of_length_le (by rw [HL.out]; exact Nat.le_refl _)] at h9
    rw [HR.out, h9, Bool.and_true]
   have HA := Lib.hid hall; clear hall hpre
   by_cases hkl : (k : Int) = L
   ·have hb1 : ((k : Int) == (L : Int)) = true := by simp [hkl]
    go_wp2_with fail
    go_ret
    refine ⟨?_, hB⟩
    rw [HA.out, decide_eq_true hkl]
    first | rfl | simp [hkl]
   ·have hb1 : ((k : Int) == (L : Int)) = false := beq_false_of_ne hkl
    go_wp2_with fail
    go_ret
    refine ⟨?_, hB⟩
    rw [HA.out, decide_eq_false hkl]
    first | rfl | simp [hb1]
end
section
open Go.RowKit Go.Lib Go.Maps
def fromW (cs : List VC) (ts : List RI) (f : Int) (k : Nat) : List Int := if f < 0 then ((ts[k]?).map RI.ws).getD [] else (vlAt cs f.toNat k).ws
def cpF (cs : List VC) (ts : List RI) (p : Nat) (f : Int) : Nat → Nat
 | 0 => 0
 | k + 1 => cpF cs ts p f k + tkF (vlAt cs p k) (fromW cs ts f k)
def trF (cs : List VC) (ts : List RI) (t : List Int) : Nat → Nat
 | 0 => 0
 | k + 1 => trF cs ts t k + cpF cs ts k (t.getD k 0) (headN cs)
section
variable {wn : Nat} {A : Option Addr} {n : Nat} {cs : List VC} {w : World} {B : Nat} {tA : Option Addr} {tn tc : Nat} {ts : List RI}
theorem TxG.of (h : TXI w tA tn tc ts) (hw : wn ≤ 3) (h1 : 1 ≤ wn) (h2 : textB (wn : Int) (headN cs) ts = true) : TxG cs tA tn ts w w.heap.size ∧ tn = headN cs ∧ ∀ r ∈ ts, lnB (wn : Int) r.ws = true := by
 unfold textB at h2
 rw [Bool.and_eq_true, decide_eq_true_eq, List.all_eq_true] at h2
 have hl := h.len
 refine ⟨⟨h.2.2.1, h.2.2.2, by omega, fun r hr => ?_⟩, by omega, h2.2⟩
 have h3 := ln_small ⟨by omega, by omega⟩ (h2.2 r hr)
 have h4 : r.ws.length = r.n := by have := (h.2.2.2 r hr).2.2.len; simpa using this
 exact ⟨by omega, h3.1, fun x hx => by have := h3.2 x hx; omega⟩
theorem TxG.toW (h : TxG cs tA tn ts w w.heap.size) {w' : World} (hb : Below w.heap.size w w') : TxG cs tA tn ts w' w'.heap.size := (h.below hb).more hb.size
theorem costV_F (h : BkG wn A n cs w B) (hk : bookB (wn : Int) cs = true) (hts : ts.length = headN cs) (hl : ∀ r ∈ ts, lnB (wn : Int) r.ws = true) {p : Nat} (hp : p < n) {f : Int} (h0 : -1 ≤ f) (h1 : f < n) : costV cs ts (p : Int) f = (cpF cs ts p f (headN cs) : Nat) := by
 have hlen := h.len
 have hs := book_small hk
 have hL : ∀ q, q < n → ∃ c, cs[q]? = some c ∧ c ∈ cs ∧ c.ls.length = headN cs := fun q hq => by
  have hq2 : q < cs.length := by omega
  exact ⟨cs[q], List.getElem?_eq_getElem hq2, List.getElem_mem hq2, (h.2.2.2.2.2.1 _ (List.getElem_mem hq2)).2⟩
 obtain ⟨cp, ep, mp, lp⟩ := hL p hp
 have hsrc : ∃ src : List ByteArray, srcL cs ts f = src ∧ src.length = headN cs ∧ ∀ k (hk : k < src.length), src[k] = lbS (fromW cs ts f k) ∧ ∀ x ∈ fromW cs ts f k, 0 ≤ x ∧ x ≤ 2 := by
  by_cases hf : f = -1
  ·refine ⟨ts.map fun r => lbS r.ws, by unfold srcL; rw [if_pos hf], by simpa using hts, fun k hk => ?_⟩
   have hkt : k < ts.length := by simpa using hk
   have e : fromW cs ts f k = (ts[k]).ws := by unfold fromW; rw [if_pos (by omega), List.getElem?_eq_getElem hkt]; rfl
   rw [e]
   exact ⟨by simp, (ln_small ⟨by have := h.1.1; omega, by have := h.1.2; omega⟩ (hl _ (List.getElem_mem hkt))).2⟩
  ·obtain ⟨ca, ea, ma, la⟩ := hL f.toNat (by omega)
   refine ⟨ca.ls.map fun r => lbS r.ws, by unfold srcL; rw [if_neg hf, ea]; rfl, by simpa using la, fun k hk => ?_⟩
   have hkl : k < ca.ls.length := by simpa using hk
   have e1 := vlAt_ls ea hkl
   have e2 := e1
   rw [List.getElem?_eq_getElem hkl] at e1
   have e : fromW cs ts f k = (vlAt cs f.toNat k).ws := by unfold fromW; rw [if_neg (by omega)]
   rw [e, ← Option.some.inj e1]
   exact ⟨by simp, hs _ ma _ (List.getElem_mem hkl)⟩
 obtain ⟨src, e1, e2, e3⟩ := hsrc
 unfold costV
 rw [e1, Int.toNat_natCast, ep, Option.map_some, Option.getD_some]
 obtain ⟨z, hz⟩ : ∃ z, z = src.zip cp.ls := ⟨_, rfl⟩
 rw [← hz]
 have hzl : z.length = headN cs := by rw [hz, List.length_zip, e2, lp]; omega
 have hsum : ∀ k, k ≤ headN cs → sumI (cgL (z.take k)) = (cpF cs ts p f k : Nat) := by
  intro k
  induction k with
  | zero => intro _; rfl
  | succ k ih =>
   intro hk1
   have hkz : k < z.length := by omega
   have hks : k < src.length := by omega
   have hkl : k < cp.ls.length := by omega
   have hat : z[k] = (lbS (fromW cs ts f k), vlAt cs p k) := by
    have e4 := vlAt_ls ep hkl
    rw [List.getElem?_eq_getElem hkl] at e4
    subst hz
    rw [List.getElem_zip, Option.some.inj e4, (e3 k hks).1]
   rw [List.take_succ_eq_append_getElem hkz, hat]
   have e : cgL (z.take k ++ [(lbS (fromW cs ts f k), vlAt cs p k)]) = cgL (z.take k) ++ cgO (lbS (fromW cs ts f k), vlAt cs p k) := by unfold cgL; rw [List.flatMap_append]; simp
   rw [e, sumI_app, ih (by omega), cpF]
   have hv : ∀ x ∈ (vlAt cs p k).ws, 0 ≤ x ∧ x ≤ 2 := hs cp mp _ (List.mem_of_getElem? (vlAt_ls ep hkl))
   have hu := (e3 k hks).2
   unfold cgO tkF
   dsimp only
   generalize fromW cs ts f k = u at *
   cases (vlAt cs p k).lost
   ·rw [if_neg (by decide), if_neg (by decide), edB_int hu hv]
    show _ + (0 + _) = _
    omega
   ·rw [if_pos rfl, if_pos rfl]
    show _ + (0 : Int) = _
    omega
 have h2 := hsum (headN cs) (Nat.le_refl _)
 rw [List.take_of_length_le (by omega)] at h2
 exact h2
theorem treeS_F (h : BkG wn A n cs w B) (hk : bookB (wn : Int) cs = true) (hts : ts.length = headN cs) (hl : ∀ r ∈ ts, lnB (wn : Int) r.ws = true) {t : List Int} (htl : t.length = n) (htb : ∀ x ∈ t, -1 ≤ x ∧ x < (n : Int)) : treeS (costV cs ts) t = (trF cs ts t n : Nat) := by
 have hsum : ∀ k, k ≤ n → sumI (treeL (costV cs ts) t k) = (trF cs ts t k : Nat) := by
  intro k
  induction k with
  | zero => intro _; rfl
  | succ k ih =>
   intro hk1
   have hkt : k < t.length := by omega
   have hb := htb _ (List.getElem_mem hkt)
   have e : t.getD k 0 = t[k] := by rw [List.getD_eq_getElem?_getD, List.getElem?_eq_getElem hkt]; rfl
   rw [treeL_snoc, sumI_snoc, ih (by omega), trF, e, costV_F h hk hts hl (by omega) hb.1 hb.2]
   omega
 unfold treeS
 rw [htl]
 exact hsum n (Nat.le_refl _)
end
end
section
open Go.RowKit Go.Lib Go.Maps
theorem Far_I {wn : Nat} {A : Option Addr} {n cap : Nat} {cs : List VC} {p : Nat} {c0 : VC} {w : World} (h : BkG wn A n cs w w.heap.size) (hk : bookB (wn : Int) cs = true) (hp : p < n) (hcp : cs[p]? = some c0) :
  Calls Tryz.prog 52 #[.agg #[.int .i64 (wn : Int), .slice A n cap], .int .i64 (p : Int)] w fun e w' => e = .returned (.tuple #[.agg #[.int .i64 (farLo wn cs c0 (headN cs) : Nat), .int .i64 (farHi wn cs c0 (headN cs) : Nat)], .int .i64 0]) ∧ Below w.heap.size w w' := by
 have h2 := Far_yes cap p c0 h hk hp hcp
 obtain ⟨e1, e2⟩ := far_ref h.1.2 hk (List.mem_of_getElem? hcp) (headN cs)
 rw [e1, e2] at h2
 exact h2
end
section
open Go.RowKit Go.Lib Go.Maps
theorem brief_yes {A : Option Addr} {n cap : Nat} {rs : List RI} {w : World} (h : TXI w A n cap rs) (h6 : n ≤ 6) (hr : ∀ r ∈ rs, r.n ≤ 6) : Calls Tryz.prog 56 #[.slice A n cap] w fun e w' => e = .returned (.bool true) ∧ Below w.heap.size w w' := by
 have hl := h.len
 have HL := Lib.hid hl; have H := Lib.hid h; have HR := Lib.hid hr; clear hl h hr
 go_enter Tryz.func56, Tryz.ntmps56
 go_wp2_with fail
 go_loopg [3] n (fun g i wr => ∃ k : Nat, g = n - k ∧ k ≤ n ∧ i = .int .i64 k ∧ wr = w)
 case atStart => exact ⟨0, rfl, Nat.zero_le _, rfl, rfl⟩
 case round =>
  obtain ⟨k, hg, hk, rfl, rfl⟩ := hrel
  rename World => w
  have HG := Lib.hid hg; clear hg
  by_cases hlt : k < n
  ·have hlti : (k : Int) < n := by omega
   have h6i : (k : Int) < 6 := by omega
   obtain ⟨b, off, hz, rfl, hbw, hcell⟩ := H.out.2.2.1.atm hlt
   have hrn := HR.out _ (List.getElem_mem hz)
   generalize rs[k] = r at *
   obtain ⟨rA, rn, rc, l⟩ := r
   simp only [RI.val] at hcell
   have hr6 : ¬ (6 : Int) < rn := by dsimp only at hrn; omega
   clear hz
   go_wp2_with fail
   go_roundg (n - (k + 1))
   case measure => rw [HG.out]; omega
   case rel => exact ⟨k + 1, rfl, by omega, by go_num, rfl⟩
  ·have hge : ¬ (k : Int) < n := by omega
   have hn6 : (n : Int) ≤ 6 := by omega
   go_wp2_with fail
   go_ret
   exact ⟨rfl, Below.refl _ _⟩
theorem star59_any {wn : Nat} (A : Option Addr) (n cap : Nat) (w : World) (hn : n ≤ 5) :
  Calls Tryz.prog 59 #[.agg #[.int .i64 (wn : Int), .slice A n cap]] w fun e w' => (∃ vA vc, e = .returned (.slice vA n vc) ∧ IA w' vA n vc (List.replicate n (-1))) ∧ Below w.heap.size w w' := by
 obtain ⟨i3, hi, hz0, hz1', hz2'⟩ := info_parts info3
 have hX := Blk.new w 24 #[.int .i64 (wn : Int), .slice A n cap]
 have hB : Below w.heap.size w (w.alloc (.cells #[.int .i64 (wn : Int), .slice A n cap] 24)) := (Below.refl _ w).alloc (Nat.le_refl _) _
 have qX := fun i => hX.cell i
 go_enter Tryz.func59, Tryz.ntmps59
 go_wp2_with fail
 generalize (w.alloc (.cells #[.int .i64 (wn : Int), .slice A n cap] 24)) = W0 at *
 go_loopg [3, 4] n (fun g v f wr => ∃ (k : Nat) (v0 : Value), g = n - k ∧ k ≤ n ∧ v = v0 ∧ f = .int .i64 k ∧ wr.ownsRow w.heap.size 3 1 v0 k ((List.replicate k (-1)).map (Value.int .i64)) ∧ Below w.heap.size w wr ∧ Blk wr w.heap.size 24 #[.int .i64 (wn : Int), .slice A n cap])
 case atStart => exact ⟨0, _, rfl, Nat.zero_le _, rfl, rfl, World.ownsRow_nil _ _ _ _, hB, hX⟩
 case round =>
  clear hX hB qX
  obtain ⟨k, v0, hg, hk, rfl, rfl, hout, hB, hX⟩ := hrel
  rename World => wr
  obtain ⟨oa, oc, rfl⟩ := own_slice hout
  have HG := Lib.hid hg; clear hg
  have qX := fun i => hX.cell i
  have hBs := hB.size
  by_cases hlt : k < n
  ·have hlti : (k : Int) < n := by omega
   have hS : (List.replicate (k + 1) (-1 : Int)).map (Value.int .i64) = (List.replicate k (-1 : Int)).map (Value.int .i64) ++ [.int .i64 (-1)] := by rw [List.replicate_succ', List.map_append]; rfl
   generalize (List.replicate k (-1 : Int)).map (Value.int .i64) = xs at *
   have HS := Lib.hid hS; have HOWN := Lib.hid hout; clear hS hout
   go_wp2_with (at_builtin; refine wpList_append_any _ rfl _ _ 25 rfl w.heap.size 3 i3 (.int .i64 0) 1 8 Tryz.underlying25 hi hz0 hz1' hz2' rfl (by decide) (.slice oa k oc) k xs rfl (HOWN.out.alloc (.cells #[.int .i64 (-1)] 3)) (wr.heap.size + 1) (some ⟨wr.heap.size, 0, none⟩) 1 1 [.int .i64 (-1)] rfl (Rd.blkN (Blk.new wr 3 #[.int .i64 (-1)]) rfl (by omega)).reads (by simp [Value.oneCell']) (by unfold maxLen; omega) (by omega) (by simp only [World.size_alloc]; omega) (fun v3 w3 hown3 hg3 hob3 => ?_))
   have hoA := HOWN.out.alloc (.cells #[.int .i64 (-1)] 3)
   have hB2 := (hB.alloc hBs (.cells #[.int .i64 (-1)] 3)).grown hg3 (by simp only [World.size_alloc]; omega) (fun g hg => (hoA.lt g hg).1)
   have hX2 := (hX.alloc (.cells #[.int .i64 (-1)] 3)).grown hg3 (fun e' => own_blk_ne hoA (hX.alloc (.cells #[.int .i64 (-1)] 3)) (by decide) e'.symm)
   go_roundg (n - (k + 1))
   case measure => rw [HG.out]; omega
   case rel => exact ⟨k + 1, v3, rfl, by omega, rfl, by go_num, by rw [HS.out]; exact hown3, hB2, hX2⟩
  ·have hge : ¬ (k : Int) < n := by omega
   obtain rfl : k = n := by omega
   have HO := Lib.hid hout; clear hout
   go_wp2_with fail
   go_ret
   exact ⟨⟨_, _, rfl, own_le0 HO.out, own_cap HO.out, Rd.of_own HO.out⟩, hB⟩
end
section
open Go.RowKit Go.Lib Go.Maps
def wsAt (ts : List RI) (k : Nat) : List Int := ((ts[k]?).map RI.ws).getD []
def stF (cs : List VC) (ts : List RI) : Nat → Nat
 | 0 => 0
 | k + 1 => stF cs ts k + cost1 k (wsAt ts k) cs
def colF (cs : List VC) (k : Nat) (l : List Int) : Nat → Nat
 | 0 => 0
 | m + 1 => colF cs k l m + tkF (vlAt cs m k) l
def gridF (cs : List VC) (ts : List RI) (K : Nat) : Nat → Nat
 | 0 => 0
 | m + 1 => gridF cs ts K m + cpF cs ts m (-1) K
theorem gridF_succ (cs : List VC) (ts : List RI) (K : Nat) : ∀ m, gridF cs ts (K + 1) m = gridF cs ts K m + colF cs K (wsAt ts K) m
 | 0 => rfl
 | m + 1 => by
  rw [gridF, gridF, colF, gridF_succ cs ts K m, cpF]
  have e : fromW cs ts (-1) K = wsAt ts K := by unfold fromW wsAt; rw [if_pos (by omega)]
  rw [e]; omega
theorem gridF_zero (cs : List VC) (ts : List RI) : ∀ m, gridF cs ts 0 m = 0
 | 0 => rfl
 | m + 1 => by rw [gridF, gridF_zero cs ts m]; rfl
theorem colF_take {wn : Nat} {A : Option Addr} {n : Nat} {cs : List VC} {w : World} {B : Nat} (h : BkG wn A n cs w B) {k : Nat} (hk : k < headN cs) (l : List Int) : ∀ m, m ≤ n → colF cs k l m = cost1 k l (cs.take m)
 | 0, _ => rfl
 | m + 1, hm => by
  have hlen := h.len
  have hc := List.getElem?_eq_getElem (show m < cs.length by omega)
  have hcl := (h.2.2.2.2.2.1 _ (List.getElem_mem (show m < cs.length by omega))).2
  rw [colF, colF_take h hk l m (by omega), List.take_succ_eq_append_getElem (show m < cs.length by omega), cost1_snoc]
  congr 1
  unfold costC tkF
  rw [vlAt_ls hc (by omega)]
theorem star_tr {wn : Nat} {A : Option Addr} {n : Nat} {cs : List VC} {w : World} {B : Nat} (h : BkG wn A n cs w B) (ts : List RI) : trF cs ts (List.replicate n (-1)) n = stF cs ts (headN cs) := by
 have h1 : ∀ m, m ≤ n → trF cs ts (List.replicate n (-1)) m = gridF cs ts (headN cs) m := by
  intro m
  induction m with
  | zero => intro _; rfl
  | succ m ih =>
   intro hm
   rw [trF, gridF, ih (by omega)]
   congr 2
   rw [List.getD_eq_getElem?_getD, List.getElem?_replicate, if_pos (by omega)]; rfl
 have h2 : ∀ K, K ≤ headN cs → gridF cs ts K n = stF cs ts K := by
  intro K
  induction K with
  | zero => intro _; exact gridF_zero cs ts n
  | succ K ih =>
   intro hK
   have hlen := h.len
   rw [gridF_succ, ih (by omega), stF, colF_take h (by omega) _ n (Nat.le_refl _), List.take_of_length_le (by omega)]
 rw [h1 n (Nat.le_refl _), h2 _ (Nat.le_refl _)]
def minS (wn : Nat) (cs : List VC) : Nat → Nat
 | 0 => 0
 | k + 1 => minS wn cs k + refC wn k cs
theorem stF_min {wn : Nat} {cs : List VC} {ts : List RI} (hl : ∀ k, k < headN cs → wsAt ts k ∈ allLL wn) : ∀ K, K ≤ headN cs → minS wn cs K ≤ stF cs ts K ∧ (stF cs ts K = minS wn cs K ↔ ∀ k, k < K → wsAt ts k ∈ refL wn k cs)
 | 0, _ => ⟨Nat.le_refl _, ⟨fun _ k hk => (by cases hk), fun _ => rfl⟩⟩
 | K + 1, hK => by
  obtain ⟨h1, h2⟩ := stF_min hl K (by omega)
  have hin := hl K (by omega)
  have hle : refC wn K cs ≤ cost1 K (wsAt ts K) cs := minF_le (f := costF K cs) hin
  refine ⟨by rw [minS, stF]; omega, ?_⟩
  rw [minS, stF]
  constructor
  ·intro e k hk
   have e1 : stF cs ts K = minS wn cs K := by omega
   by_cases hkK : k < K
   ·exact h2.1 e1 k hkK
   ·obtain rfl : k = K := by omega
    exact leastF_mem.2 ⟨hin, by show cost1 k (wsAt ts k) cs = refC wn k cs; omega⟩
  ·intro hall
   have e1 := h2.2 fun k hk => hall k (by omega)
   have e2 : cost1 K (wsAt ts K) cs = refC wn K cs := (leastF_mem.1 (hall K (by omega))).2
   omega
end
section
open Go.RowKit Go.Lib Go.Maps
theorem LL.txi {w : World} {v : Value} {ls : List (List Int)} (h : LL w v ls) : ∃ A n cap rs, v = .slice A n cap ∧ TXI w A n cap rs ∧ rs.map RI.ws = ls := by
 obtain ⟨A, n, cap, rs, rfl, h1, h2, _, hr, hok, hws⟩ := h
 exact ⟨A, n, cap, rs, rfl, ⟨h1, h2, hr, fun r hr => (hok r hr).1⟩, hws⟩
theorem wsAt_of {rs : List RI} {ls : List (List Int)} (h : rs.map RI.ws = ls) (k : Nat) : wsAt rs k = (ls[k]?).getD [] := by
 unfold wsAt; rw [← h, List.getElem?_map]
theorem minS_ref {wn : Nat} {cs : List VC} : ∀ k, minS wn cs k = refS wn cs k
 | 0 => rfl
 | k + 1 => by rw [minS, refS, minS_ref k]
theorem frs_in {wn : Nat} {cs : List VC} (k : Nat) : frsF wn k cs ∈ refL wn k cs := by
 unfold frsF
 have := refL_ne (wn := wn) (q := k) (cs := cs)
 cases h : refL wn k cs with
 | nil => exact absurd h this
 | cons a L => simp
theorem whole_at {wn : Nat} {cs : List VC} {rs : List RI} {L : Nat} (h : rs.map RI.ws = wholeL wn cs L) {k : Nat} (hk : k < L) : wsAt rs k = frsF wn k cs := by
 rw [wsAt_of h]; unfold wholeL
 rw [List.getElem?_map, List.getElem?_range hk]; rfl
theorem whole_min {wn : Nat} {cs : List VC} {rs : List RI} (h : rs.map RI.ws = wholeL wn cs (headN cs)) : stF cs rs (headN cs) = refS wn cs (headN cs) := by
 rw [← minS_ref]
 have hl : ∀ k, k < headN cs → wsAt rs k ∈ allLL wn := fun k hk => by rw [whole_at h hk]; exact (leastF_mem.1 (frs_in k)).1
 exact (stF_min hl (headN cs) (Nat.le_refl _)).2.2 fun k hk => by rw [whole_at h hk]; exact frs_in k
end
section
open Go.RowKit Go.Lib Go.Maps
def inF (wn : Nat) (cs : List VC) (ts : List RI) : Nat → Bool
 | 0 => true
 | k + 1 => inF wn cs ts k && decide (wsAt ts k ∈ refL wn k cs)
theorem inF_iff {wn : Nat} {cs : List VC} {ts : List RI} : ∀ K, inF wn cs ts K = true ↔ ∀ k, k < K → wsAt ts k ∈ refL wn k cs
 | 0 => ⟨fun _ k hk => (by cases hk), fun _ => rfl⟩
 | K + 1 => by
  rw [inF, Bool.and_eq_true, inF_iff K, decide_eq_true_eq]
  constructor
  ·rintro ⟨h1, h2⟩ k hk
   by_cases hkK : k < K
   ·exact h1 k hkK
   ·obtain rfl : k = K := by omega
    exact h2
  ·intro h
   exact ⟨fun k hk => h k (by omega), h K (by omega)⟩
theorem maxFold_ge (f : List Int → Nat) : ∀ (L : List (List Int)) (z : Nat), z ≤ L.foldl (fun m x => max m (f x)) z ∧ ∀ l ∈ L, f l ≤ L.foldl (fun m x => max m (f x)) z
 | [], z => ⟨Nat.le_refl _, fun l hl => by cases hl⟩
 | a :: L, z => by
  obtain ⟨h1, h2⟩ := maxFold_ge f L (max z (f a))
  rw [List.foldl_cons]
  refine ⟨by omega, fun l hl => ?_⟩
  rcases List.mem_cons.1 hl with rfl | hl
  ·omega
  ·exact h2 l hl
theorem maxF_ge {f : List Int → Nat} {L : List (List Int)} {l : List Int} (h : l ∈ L) : f l ≤ maxF f L := (maxFold_ge f L 0).2 l h
theorem tkC_at {cs : List VC} {p k : Nat} {c0 : VC} (hc : cs[p]? = some c0) (hk : k < c0.ls.length) (l : List Int) : tkC c0 k l = tkF (vlAt cs p k) l := by
 unfold tkC
 rw [vlAt_ls hc hk]
theorem tkC_fun {cs : List VC} {p k : Nat} {c0 : VC} (hc : cs[p]? = some c0) (hk : k < c0.ls.length) : tkC c0 k = tkF (vlAt cs p k) := funext fun l => tkC_at hc hk l
theorem fromW_text {cs : List VC} {ts : List RI} (k : Nat) : fromW cs ts (-1) k = wsAt ts k := by unfold fromW wsAt; rw [if_pos (by omega)]
theorem far_in {wn : Nat} {cs : List VC} {ts : List RI} {p : Nat} {c0 : VC} (hc : cs[p]? = some c0) : ∀ K, K ≤ c0.ls.length → inF wn cs ts K = true → farLo wn cs c0 K ≤ cpF cs ts p (-1) K ∧ cpF cs ts p (-1) K ≤ farHi wn cs c0 K
 | 0, _, _ => ⟨Nat.le_refl _, Nat.le_refl _⟩
 | K + 1, hK, h => by
  rw [inF, Bool.and_eq_true, decide_eq_true_eq] at h
  obtain ⟨h1, h2⟩ := far_in hc K (by omega) h.1
  rw [farLo, farHi, cpF, tkC_fun hc (by omega), fromW_text]
  have a1 : minF (tkF (vlAt cs p K)) (refL wn K cs) ≤ tkF (vlAt cs p K) (wsAt ts K) := minF_le h.2
  have a2 : tkF (vlAt cs p K) (wsAt ts K) ≤ maxF (tkF (vlAt cs p K)) (refL wn K cs) := maxF_ge h.2
  omega
theorem stF_ref {wn : Nat} {cs : List VC} {ts : List RI} (hl : ∀ k, k < headN cs → wsAt ts k ∈ allLL wn) : refS wn cs (headN cs) ≤ stF cs ts (headN cs) ∧ (stF cs ts (headN cs) = refS wn cs (headN cs) ↔ inF wn cs ts (headN cs) = true) := by
 rw [← minS_ref, inF_iff]
 exact stF_min hl _ (Nat.le_refl _)
theorem whole_text {wn : Nat} {cs : List VC} {rs : List RI} (h1 : 1 ≤ wn) (h3 : wn ≤ 3) (h : rs.map RI.ws = wholeL wn cs (headN cs)) : textB (wn : Int) (headN cs) rs = true ∧ rs.length = headN cs ∧ ∀ r ∈ rs, r.ws.length ≤ 4 := by
 have hlen : rs.length = headN cs := by rw [← List.length_map (f := RI.ws), h]; unfold wholeL; simp
 have hmem : ∀ r ∈ rs, ∃ k, r.ws = frsF wn k cs := fun r hr => by
  have : r.ws ∈ wholeL wn cs (headN cs) := by rw [← h]; exact List.mem_map_of_mem hr
  unfold wholeL at this
  obtain ⟨k, _, e⟩ := List.mem_map.1 this
  exact ⟨k, e.symm⟩
 refine ⟨?_, hlen, fun r hr => ?_⟩
 ·unfold textB
  rw [Bool.and_eq_true, decide_eq_true_eq, List.all_eq_true]
  refine ⟨by rw [hlen], fun r hr => ?_⟩
  obtain ⟨k, e⟩ := hmem r hr
  rw [e]
  exact (refL_good h1 h3).1 _ (frs_in k)
 ·obtain ⟨k, e⟩ := hmem r hr
  rw [e]
  exact (refL_small h3 _ (frs_in k)).1
theorem lowF {f : List Int → Nat} {L : List (List Int)} (hne : L ≠ []) (M : Nat) (hM : ∀ l ∈ L, f l ≤ M) : L.foldl (fun m x => min m (f x)) M = minF f L := by
 obtain ⟨l, hl, e⟩ := minF_mem (f := f) hne
 have h1 := (minFold_le f L M).2 l hl
 rcases minFold_mem f L M with h | ⟨l2, h2, e2⟩
 ·have h3 := minF_le (f := f) hl
  have := hM l hl
  omega
 ·have h3 := minF_le (f := f) h2
  omega
theorem star_ok {n : Nat} (hn : n ≤ 5) : treeOK (List.replicate n (-1)) = true ∧ sourcesB n (List.replicate n (-1)) = true := by
 rcases (by omega : n = 0 ∨ n = 1 ∨ n = 2 ∨ n = 3 ∨ n = 4 ∨ n = 5) with rfl | rfl | rfl | rfl | rfl | rfl <;> decide
theorem star_bd {n : Nat} (h1 : 1 ≤ n) : ∀ x ∈ List.replicate n (-1 : Int), -1 ≤ x ∧ x < (n : Int) := fun x hx => by
 rw [List.eq_of_mem_replicate hx]; omega
theorem star_total {wn : Nat} {A : Option Addr} {n : Nat} (cap : Nat) {cs : List VC} {tA : Option Addr} (tc : Nat) {ts : List RI} {w : World} (h : BkG wn A n cs w w.heap.size) (hbk : bookB (wn : Int) cs = true) (hT : TxG cs tA (headN cs) ts w w.heap.size) (hk : textB (wn : Int) (headN cs) ts = true) (hTl : ∀ r ∈ ts, lnB (wn : Int) r.ws = true) (vA : Option Addr) (vc : Nat) (hv : IA w vA n vc (List.replicate n (-1))) :
  Calls Tryz.prog 58 #[.agg #[.int .i64 (wn : Int), .slice A n cap], .slice tA (headN cs) tc, .slice vA n vc] w fun e w' => e = .returned (.tuple #[.int .i64 (stF cs ts (headN cs) : Nat), .int .i64 0]) ∧ Below w.heap.size w w' := by
 have h5 := h.2.1
 have hs := star_ok (n := n) (by omega)
 have h9 := Total_yes cap tc vA n vc (List.replicate n (-1)) h hbk hT hk hv.max hv.2.2 hs.2 rfl (star_bd (by omega))
 rw [if_pos hs.1, if_pos hs.1, treeS_F h hbk hT.2.2.1 hTl (List.length_replicate ..) (star_bd (by omega)), star_tr h] at h9
 exact h9
theorem Same_T {w : World} {A1 A2 : Option Addr} {n1 c1 n2 c2 : Nat} {l : List Int} (h1 : IA w A1 n1 c1 l) (h2 : IA w A2 n2 c2 l) (k1 : n1 ≤ 6) (k2 : n2 ≤ 6) : Calls Tryz.prog 31 #[.slice A1 n1 c1, .slice A2 n2 c2] w fun e w' => e = .returned (.bool true) ∧ Below w.heap.size w w' := by
 have h := Same_I h1 h2 k1 k2
 rw [decide_eq_true rfl] at h
 exact h
end
section
open Go.RowKit Go.Lib Go.Maps
theorem true_law (W : Int) (A : Option Addr) (n cap : Nat) (cs : List VC) (tA : Option Addr) (tn tc : Nat) (ts : List RI) (q : Int) (m : Int) (w : World) (hE : Env m w) (h : BkI w A n cap cs) (ht : TXI w tA tn tc ts) (hq1 : -9223372036854775808 ≤ q) (hq2 : q ≤ 9223372036854775807) :
  Calls Tryz.prog 12 #[.agg #[.int .i64 W, .slice A n cap], .slice tA tn tc, .int .i64 q] w fun e w' => e = .returned (.bool true) ∧ Below w.heap.size w w' := by
 have hX := Blk.new w 24 #[.int .i64 W, .slice A n cap]
 have hB : Below w.heap.size w (w.alloc (.cells #[.int .i64 W, .slice A n cap] 24)) := (Below.refl _ w).alloc (Nat.le_refl _) _
 have qX := fun i => hX.cell i
 go_enter Tryz.func12, Tryz.ntmps12
 go_wp2_with fail
 refine (right_any (h.toW hB)).mono ?_; rintro e wc ⟨⟨b, rfl, hrb⟩, hb⟩
 replace hB := hB.trans (hb.mono hB.size); replace hX := hX.below hb hX.lt; clear hb qX; have qX := fun i => hX.cell i
 cases b with
 | false =>
  go_wp2_with fail
  refine (known_true m _ (hE.below hB)).mono ?_; rintro e wc ⟨rfl, hb⟩
  replace hB := hB.trans (hb.mono hB.size); clear hb
  go_wp2_with fail
  go_ret
  exact ⟨rfl, hB⟩
 | true =>
  have hbk := hrb rfl; clear hrb
  obtain ⟨wn, rfl, hG⟩ := BkG.of_book hbk h.2.2.1 h.2.2.2
  have hn5 := hG.2.1; have hL4 := hG.2.2.1
  go_wp2_with fail
  refine (brief_any tA tn tc ts _ (ht.toW hB)).mono ?_; rintro e wc ⟨⟨b, rfl, hbr⟩, hb⟩
  replace hB := hB.trans (hb.mono hB.size); replace hX := hX.below hb hX.lt; clear hb qX; have qX := fun i => hX.cell i
  cases b with
  | false =>
   go_wp2_with fail
   refine (known_true m _ (hE.below hB)).mono ?_; rintro e wc ⟨rfl, hb⟩
   replace hB := hB.trans (hb.mono hB.size); clear hb
   go_wp2_with fail
   go_ret
   exact ⟨rfl, hB⟩
  | true =>
   clear hbr
   have hrt := fun wx hx => refText_any (w := wx) cap tA tn tc ts (hG.toW hx) (ht.toW hx)
   have hcy := fun wx => refCopy_any (wn : Int) q A n cap wx (by omega)
   cases hk : textB (wn : Int) (headN cs) ts with
   | false =>
    simp only [hk] at hrt
    have HRT := Lib.hid hrt; clear hrt hcy
    go_wp2_with fail
    refine (HRT.out _ hB).mono ?_; rintro e wc ⟨rfl, hb⟩
    replace hB := hB.trans (hb.mono hB.size); replace hX := hX.below hb hX.lt; clear hb qX; have qX := fun i => hX.cell i
    go_wp2_with fail
    refine (known_true m _ (hE.below hB)).mono ?_; rintro e wc ⟨rfl, hb⟩
    replace hB := hB.trans (hb.mono hB.size); clear hb
    go_wp2_with fail
    go_ret
    exact ⟨rfl, hB⟩
   | true =>
    simp only [hk] at hrt
    have HRT := Lib.hid hrt; clear hrt
    cases hkq : inB q 0 ((n : Int) - 1) with
    | false =>
     simp only [hkq] at hcy
     have HCY := Lib.hid hcy; clear hcy
     go_wp2_with fail
     refine (HRT.out _ hB).mono ?_; rintro e wc ⟨rfl, hb⟩
     replace hB := hB.trans (hb.mono hB.size); replace hX := hX.below hb hX.lt; clear hb qX; have qX := fun i => hX.cell i
     go_wp2_with fail
     refine (HCY.out _).mono ?_; rintro e wc ⟨rfl, hb⟩
     replace hB := hB.trans (hb.mono hB.size); replace hX := hX.below hb hX.lt; clear hb qX; have qX := fun i => hX.cell i
     go_wp2_with fail
     refine (known_true m _ (hE.below hB)).mono ?_; rintro e wc ⟨rfl, hb⟩
     replace hB := hB.trans (hb.mono hB.size); clear hb
     go_wp2_with fail
     go_ret
     exact ⟨rfl, hB⟩
    | true =>
     simp only [hkq] at hcy
     have hq3 : 0 ≤ q ∧ q ≤ (n : Int) - 1 := by simpa [inB] using hkq
     obtain ⟨p, rfl⟩ : ∃ p : Nat, q = p := ⟨q.toNat, by omega⟩
     have hp : p < n := by omega
     have hlc := hG.len
     obtain ⟨c0, hcp⟩ : ∃ c0, cs[p]? = some c0 := ⟨_, List.getElem?_eq_getElem (by omega)⟩
     have hcl : c0.ls.length = headN cs := (hG.2.2.2.2.2.1 _ (List.mem_of_getElem? hcp)).2
     obtain ⟨hT, htn, hTl⟩ := TxG.of ht hG.1.2 hG.1.1 hk
     subst htn
     have hwsm : ∀ k, k < headN cs → ∃ hk : k < ts.length, wsAt ts k = ts[k].ws ∧ lnB (wn : Int) (wsAt ts k) = true := fun k hk => by
      have h1 : k < ts.length := by have := hT.2.2.1; omega
      have h2 : wsAt ts k = ts[k].ws := by unfold wsAt; rw [List.getElem?_eq_getElem h1]; rfl
      exact ⟨h1, h2, by rw [h2]; exact hTl _ (List.getElem_mem h1)⟩
     have hsr := stF_ref (cs := cs) (ts := ts) fun k hk => (allLL_has (hwsm k hk).2.2)
     have hfi := far_in (wn := wn) (ts := ts) hcp (headN cs) (by omega)
     have hrl1 := fun k => refL_good (wn := wn) (q := k) (cs := cs) hG.1.1 hG.1.2
     have hc1 := fun (wx : World) (hx : Below w.heap.size w wx) => Text_I (cap := cap) (w := wx) (hG.toW hx) hbk
     have hc2 := fun (wx : World) (hx : Below w.heap.size w wx) => Far_I (cap := cap) (w := wx) (hG.toW hx) hbk hp hcp
     have hst := fun (wx : World) => star59_any (wn := wn) A n cap wx (by omega)
     have hta := fun (wx : World) (hx : Below w.heap.size w wx) (vA : Option Addr) (vc : Nat) (hv : IA wx vA n vc (List.replicate n (-1))) => star_total cap tc (hG.toW hx) hbk (hT.toW hx) hk hTl vA vc hv
     have hwt := fun (xs : List RI) (he : xs.map RI.ws = wholeL wn cs (headN cs)) => whole_text hG.1.1 hG.1.2 he
     have htw : ∀ (wx : World) (hx : Below w.heap.size w wx) (xA : Option Addr) (xc : Nat) (xs : List RI) (hxt : TXI wx xA (headN cs) xc xs) (he : xs.map RI.ws = wholeL wn cs (headN cs)) (vA : Option Addr) (vc : Nat) (hv : IA wx vA n vc (List.replicate n (-1))), Calls Tryz.prog 58 #[.agg #[.int .i64 (wn : Int), .slice A n cap], .slice xA (headN cs) xc, .slice vA n vc] wx fun e w' => e = .returned (.tuple #[.int .i64 (refS wn cs (headN cs) : Nat), .int .i64 0]) ∧ Below wx.heap.size wx w' := fun wx hx xA xc xs hxt he vA vc hv => by
      obtain ⟨t1, _, _⟩ := hwt xs he
      obtain ⟨u1, _, u3⟩ := TxG.of hxt hG.1.2 hG.1.1 t1
      have h9 := star_total cap xc (hG.toW hx) hbk u1 t1 u3 vA vc hv
      rw [whole_min he] at h9
      exact h9
     have hbf : ∀ (wx : World) (xA : Option Addr) (xc : Nat) (xs : List RI) (hxt : TXI wx xA (headN cs) xc xs) (he : xs.map RI.ws = wholeL wn cs (headN cs)), Calls Tryz.prog 56 #[.slice xA (headN cs) xc] wx fun e w' => e = .returned (.bool true) ∧ Below wx.heap.size wx w' := fun wx xA xc xs hxt he =>
      brief_yes hxt (by omega) fun r hr => by
       have h1 := (hwt xs he).2.2 r hr
       have h2 : r.ws.length = r.n := by simpa using (hxt.2.2.2 r hr).2.2.len
       omega
     have hrt2 : ∀ (wx : World) (hx : Below w.heap.size w wx) (xA : Option Addr) (xc : Nat) (xs : List RI) (hxt : TXI wx xA (headN cs) xc xs) (he : xs.map RI.ws = wholeL wn cs (headN cs)), Calls Tryz.prog 57 #[.agg #[.int .i64 (wn : Int), .slice A n cap], .slice xA (headN cs) xc] wx fun e w' => e = .returned (.bool true) ∧ Below wx.heap.size wx w' := fun wx hx xA xc xs hxt he => by
      have h9 := refText_any (w := wx) cap xA (headN cs) xc xs (hG.toW hx) hxt
      rw [(hwt xs he).1] at h9
      exact h9
     have hle := fun (i : Nat) (hi : i < headN cs) (wx : World) (hx : Below w.heap.size w wx) => Least_I (cap := cap) (q := i) (w := wx) (hG.toW hx) hbk hi
     have hli := fun (i : Nat) (v : Value) (wx : World) (hx : Below w.heap.size w wx) (hv : LL wx v (refL wn i cs)) => lawlines_any (h.toW hx) hbk hv (hrl1 i).1 (hrl1 i).2.1 (hrl1 i).2.2
     have hch := fun (wx : World) (hx : Below w.heap.size w wx) (Ax : Option Addr) (nx cx : Nat) (lx : List Int) (hxx : IA wx Ax nx cx lx) (kx : lnB (wn : Int) lx = true) (Ay : Option Addr) (ny cy : Nat) (ly : List Int) (hyy : IA wx Ay ny cy ly) (ky : lnB (wn : Int) ly = true) => Changes_I (h.toW hx) hbk hxx hyy kx ky
     have hln := fun k (hk : k < headN cs) => vlAt_lnB hbk (p := p) (k := k) (by omega) hk
     have hM4 := fun k (hk : k ≤ 4) => Nat.le_trans (refM_le (cs := cs) hG.1.1 hG.1.2 k) (Nat.pow_le_pow_right (show 0 < 121 by omega) hk)
     have hfs := fun k (hk : k < headN cs) => frs_in (wn := wn) (cs := cs) k
     obtain ⟨bb, off, rfl, hbw, hr⟩ := hG.rows
     obtain ⟨bp, offp, ccp, hcp0, hbp, hlp⟩ := hr p hp
     have htr := ht.2.2.1; have hto := ht.2.2.2
     obtain ⟨FL, hFL⟩ : ∃ FL, FL = farLo wn cs c0 := ⟨_, rfl⟩
     obtain ⟨FH, hFH⟩ : ∃ FH, FH = farHi wn cs c0 := ⟨_, rfl⟩
     obtain ⟨CP, hCP⟩ : ∃ CP, CP = cpF cs ts p (-1) := ⟨_, rfl⟩
     obtain ⟨IN, hIN⟩ : ∃ IN, IN = inF wn cs ts := ⟨_, rfl⟩
     obtain ⟨RM, hRM⟩ : ∃ RM, RM = refM wn cs := ⟨_, rfl⟩
     have hFL1 : ∀ k, k < headN cs → FL (k + 1) = FL k + minF (tkF (vlAt cs p k)) (refL wn k cs) := fun k hk => by rw [hFL, farLo, tkC_fun hcp (by omega)]
     have hFH1 : ∀ k, k < headN cs → FH (k + 1) = FH k + maxF (tkF (vlAt cs p k)) (refL wn k cs) := fun k hk => by rw [hFH, farHi, tkC_fun hcp (by omega)]
     have hCP1 : ∀ k, CP (k + 1) = CP k + tkF (vlAt cs p k) (wsAt ts k) := fun k => by rw [hCP, cpF, fromW_text]
     have hIN1 : ∀ k, IN (k + 1) = (IN k && decide (wsAt ts k ∈ refL wn k cs)) := fun k => by rw [hIN, inF]
     have hRM1 : ∀ k, RM (k + 1) = RM k * (refL wn k cs).length := fun k => by rw [hRM, refM]
     have hZ0 : FL 0 = 0 ∧ FH 0 = 0 ∧ CP 0 = 0 ∧ IN 0 = true ∧ RM 0 = 1 := by rw [hFL, hFH, hCP, hIN, hRM]; exact ⟨rfl, rfl, rfl, rfl, rfl⟩
     simp only [← hFL, ← hFH, ← hCP, ← hIN, ← hRM] at hsr hfi hc1 hc2 hM4
     clear hFL hFH hCP hIN hRM hcp hq1 hq2 hq3 hkq
     have hwa := fun (xs : List RI) (he : xs.map RI.ws = wholeL wn cs (headN cs)) (k : Nat) (hk : k < headN cs) => whole_at he hk
     generalize hLe : headN cs = LL0 at *
     generalize stF cs ts LL0 = AL at *
     generalize refS wn cs LL0 = RS at *
     have HC1 := Lib.hid hc1; have HC2 := Lib.hid hc2; have HST := Lib.hid hst; have HTA := Lib.hid hta; have HTW := Lib.hid htw; have HBF := Lib.hid hbf; have HRT2 := Lib.hid hrt2; have HLE := Lib.hid hle; have HLI := Lib.hid hli; have HCH := Lib.hid hch; have HLN := Lib.hid hln; have HM4 := Lib.hid hM4; have HLP := Lib.hid hlp; have HTR := Lib.hid htr; have HTO := Lib.hid hto; have HFL1 := Lib.hid hFL1; have HFH1 := Lib.hid hFH1; have HCP1 := Lib.hid hCP1; have HIN1 := Lib.hid hIN1; have HRM1 := Lib.hid hRM1; have HZ0 := Lib.hid hZ0; have HSR := Lib.hid hsr; have HFI := Lib.hid hfi; have HWT := Lib.hid hwt; have HWA := Lib.hid hwa; have HWSM := Lib.hid hwsm; have HFS := Lib.hid hfs; have HCY := Lib.hid hcy; have HRL1 := Lib.hid hrl1
     clear hc1 hc2 hst hta htw hbf hrt2 hle hli hch hln hM4 hlp htr hto hFL1 hFH1 hCP1 hIN1 hRM1 hZ0 hsr hfi hwt hwa hwsm hfs hcy hrl1 hr hT hTl hk hbk hG h ht hLe hlc hcl
     go_wp2_with fail
     refine (HRT.out _ hB).mono ?_; rintro e wc ⟨rfl, hb⟩
     replace hB := hB.trans (hb.mono hB.size); replace hX := hX.below hb hX.lt; clear hb qX; have qX := fun i => hX.cell i
     go_wp2_with fail
     refine (HCY.out _).mono ?_; rintro e wc ⟨rfl, hb⟩
     replace hB := hB.trans (hb.mono hB.size); replace hX := hX.below hb hX.lt; clear hb qX; have qX := fun i => hX.cell i
     go_wp2_with fail
     refine (HC1.out _ hB).mono ?_; rintro e wc ⟨⟨u, rfl, hU⟩, hb⟩
     replace hB := hB.trans (hb.mono hB.size); replace hX := hX.below hb hX.lt; clear hb qX; have qX := fun i => hX.cell i
     obtain ⟨xA, xn, xc, xs, rfl, hxT, hxe⟩ := hU.txi
     obtain rfl : xn = LL0 := by have h1 := hxT.len; have h2 := (HWT.out xs hxe).2.1; omega
     clear hU
     have HXE := Lib.hid hxe; clear hxe
     go_wp2_with fail
     refine (HC2.out _ hB).mono ?_; rintro e wc ⟨rfl, hb⟩
     replace hB := hB.trans (hb.mono hB.size); replace hX := hX.below hb hX.lt; replace hxT := hxT.toW hb; clear hb qX
     have hS0 := Blk.new wc 66 #[.int .i64 0, .int .i64 0]; have q66 := fun i => hS0.cell i; have f66 := fun i => hS0.frozen i; have l66 := hS0.lt
     go_upto_region 5 with (fail)
     have hS := Blk.new wc 66 #[.int .i64 (FL xn : Nat), .int .i64 (FH xn : Nat)]
     have hKeep : Below wc.heap.size wc (wc.alloc (.cells #[.int .i64 (FL xn : Nat), .int .i64 (FH xn : Nat)] 66)) := (Below.refl _ wc).alloc (Nat.le_refl _) _
     replace hB := hB.trans (hKeep.mono hB.size); replace hX := hX.below hKeep hX.lt
     replace hxT := hxT.toW hKeep; clear hKeep hS0 q66 f66 l66
     generalize wc.alloc (.cells #[.int .i64 (FL xn : Nat), .int .i64 (FH xn : Nat)] 66) = W5 at *
     generalize wc.heap.size = sS at hS ⊢
     have qX := fun i => hX.cell i; have qS := fun i => hS.cell i
     go_wp2_with fail
     refine (HBF.out _ _ _ _ hxT HXE.out).mono ?_; rintro e wc ⟨rfl, hb⟩
     replace hB := hB.trans (hb.mono hB.size); replace hX := hX.below hb hX.lt; replace hxT := hxT.toW hb; replace hS := hS.below hb hS.lt; clear hb qX; have qX := fun i => hX.cell i
     have qS := fun i => hS.cell i
     go_wp2_with fail
     refine (HRT2.out _ hB _ _ _ hxT HXE.out).mono ?_; rintro e wc ⟨rfl, hb⟩
     replace hB := hB.trans (hb.mono hB.size); replace hX := hX.below hb hX.lt; replace hxT := hxT.toW hb; replace hS := hS.below hb hS.lt; clear hb qX; have qX := fun i => hX.cell i
     have qS := fun i => hS.cell i
     go_upto_region 7 with (fail)
     clear qX qS
     rename World => WR
     refine wp_region_G (fun w' => Blk w' w.heap.size 24 #[.int .i64 (wn : Int), .slice (some ⟨bb, off, none⟩) n cap]) 9 (by kernel_rfl) ?_
     have hdr := (Below.refl WR.heap.size WR).drew; replace hX := hX.drew; replace hS := hS.drew; replace hxT := hxT.toW hdr; replace hB := hB.drew; clear hdr
     generalize WR.drew = WD at *
     have hTT : Blk WD w.heap.size 24 #[.int .i64 (wn : Int), .slice (some ⟨bb, off, none⟩) n cap] := hX
     refine wpG_take (i := 0) (v := ?vx1_0) rfl (by kernel_rfl) (by kernel_rfl) (by kernel_rfl) (by kernel_rfl) (fun _ _ _ h => h) (Or.inl ⟨by rfl, ?hyx1_0⟩) hTT ?restx1_0
     case hyx1_0 => intro wq hSw; have q0 := fun i => hSw.cell i; skip; go_simp <;> with_reducible rfl
     simp only [LS, Act.put]
     refine wpG_take (i := 1) (v := ?vx1_1) rfl (by kernel_rfl) (by kernel_rfl) (by kernel_rfl) (by kernel_rfl) (fun _ _ _ h => h) (Or.inl ⟨by rfl, ?hyx1_1⟩) hTT ?restx1_1
     case hyx1_1 => intro wq hSw; have q0 := fun i => hSw.cell i; skip; go_simp <;> with_reducible rfl
     simp only [LS, Act.put]
     refine wpG_take (i := 2) (v := ?vx1_2) rfl (by kernel_rfl) (by kernel_rfl) (by kernel_rfl) (by kernel_rfl) (fun _ _ _ h => h) (Or.inl ⟨by rfl, ?hyx1_2⟩) hTT ?restx1_2
     case hyx1_2 => intro wq hSw; have q0 := fun i => hSw.cell i; skip; go_simp <;> with_reducible rfl
     simp only [LS, Act.put]
     refine wpG_one (i := 3) rfl (by kernel_rfl) (fun K hK => ?_)
     go_simp
     refine (HST.out _).mono ?_
     rintro e w1 ⟨⟨vA, vc, rfl, hV⟩, hb⟩
     replace hX := hX.below hb hX.lt; replace hS := hS.below hb hS.lt; replace hxT := hxT.toW hb; replace hB := hB.trans (hb.mono hB.size); replace hTT := hX; clear hb
     refine hK _ _ (.inr hTT) ?_
     clear hK K
     try simp only [LS, Act.put]
     refine wpG_one (i := 4) rfl (by kernel_rfl) (fun K hK => ?_)
     go_simp
     refine (HTW.out _ hB _ _ _ hxT HXE.out _ _ hV).mono ?_
     rintro e w2 ⟨rfl, hb⟩
     replace hX := hX.below hb hX.lt; replace hS := hS.below hb hS.lt; replace hxT := hxT.toW hb; replace hB := hB.trans (hb.mono hB.size); replace hTT := hX; clear hb hV
     refine hK _ _ (.inr hTT) ?_
     clear hK K
     try simp only [LS, Act.put]
     refine wpG_take (i := 5) (v := ?vx1_5) rfl (by kernel_rfl) (by kernel_rfl) (by kernel_rfl) (by kernel_rfl) (fun _ _ _ h => h) (Or.inl ⟨by rfl, ?hyx1_5⟩) hTT ?restx1_5
     case hyx1_5 => intro wq hSw; have q0 := fun i => hSw.cell i; skip; go_simp <;> with_reducible rfl
     simp only [LS, Act.put]
     refine wpG_take (i := 6) (v := ?vx1_6) rfl (by kernel_rfl) (by kernel_rfl) (by kernel_rfl) (by kernel_rfl) (fun _ _ _ h => h) (Or.inl ⟨by rfl, ?hyx1_6⟩) hTT ?restx1_6
     case hyx1_6 => intro wq hSw; have q0 := fun i => hSw.cell i; skip; go_simp <;> with_reducible rfl
     simp only [LS, Act.put]
     refine wpG_take (i := 7) (v := ?vx1_7) rfl (by kernel_rfl) (by kernel_rfl) (by kernel_rfl) (by kernel_rfl) (fun _ _ _ h => h) (Or.inl ⟨by rfl, ?hyx1_7⟩) hTT ?restx1_7
     case hyx1_7 => intro wq hSw; have q0 := fun i => hSw.cell i; skip; go_simp <;> with_reducible rfl
     simp only [LS, Act.put]
     refine wpG_take (i := 8) (v := ?vx1_8) rfl (by kernel_rfl) (by kernel_rfl) (by kernel_rfl) (by kernel_rfl) (fun _ _ _ h => h) (Or.inl ⟨by rfl, ?hyx1_8⟩) hTT ?restx1_8
     case hyx1_8 => intro wq hSw; have q0 := fun i => hSw.cell i; skip; go_simp <;> with_reducible rfl
     simp only [LS, Act.put]
     refine wpG_one (i := 9) rfl (by kernel_rfl) (fun K hK => ?_)
     go_simp
     refine hK _ _ (.inl rfl) ?_
     clear hK K
     try simp only [LS, Act.put]
     refine wpG_done (by kernel_rfl) ?_ _
     clear hTT
     have qX := fun i => hX.cell i; have qS := fun i => hS.cell i
     go_upto_region 8 with (fail)
     clear qX qS
     rename World => WR
     refine wp_region_G (fun w' => Blk w' w.heap.size 24 #[.int .i64 (wn : Int), .slice (some ⟨bb, off, none⟩) n cap]) 9 (by kernel_rfl) ?_
     have hdr := (Below.refl WR.heap.size WR).drew; replace hX := hX.drew; replace hS := hS.drew; replace hxT := hxT.toW hdr; replace hB := hB.drew; clear hdr
     generalize WR.drew = WD at *
     have hTT : Blk WD w.heap.size 24 #[.int .i64 (wn : Int), .slice (some ⟨bb, off, none⟩) n cap] := hX
     refine wpG_take (i := 0) (v := ?vx2_0) rfl (by kernel_rfl) (by kernel_rfl) (by kernel_rfl) (by kernel_rfl) (fun _ _ _ h => h) (Or.inl ⟨by rfl, ?hyx2_0⟩) hTT ?restx2_0
     case hyx2_0 => intro wq hSw; have q0 := fun i => hSw.cell i; skip; go_simp <;> with_reducible rfl
     simp only [LS, Act.put]
     refine wpG_take (i := 1) (v := ?vx2_1) rfl (by kernel_rfl) (by kernel_rfl) (by kernel_rfl) (by kernel_rfl) (fun _ _ _ h => h) (Or.inl ⟨by rfl, ?hyx2_1⟩) hTT ?restx2_1
     case hyx2_1 => intro wq hSw; have q0 := fun i => hSw.cell i; skip; go_simp <;> with_reducible rfl
     simp only [LS, Act.put]
     refine wpG_take (i := 2) (v := ?vx2_2) rfl (by kernel_rfl) (by kernel_rfl) (by kernel_rfl) (by kernel_rfl) (fun _ _ _ h => h) (Or.inl ⟨by rfl, ?hyx2_2⟩) hTT ?restx2_2
     case hyx2_2 => intro wq hSw; have q0 := fun i => hSw.cell i; skip; go_simp <;> with_reducible rfl
     simp only [LS, Act.put]
     refine wpG_one (i := 3) rfl (by kernel_rfl) (fun K hK => ?_)
     go_simp
     refine (HST.out _).mono ?_
     rintro e w1 ⟨⟨vA, vc, rfl, hV⟩, hb⟩
     replace hX := hX.below hb hX.lt; replace hS := hS.below hb hS.lt; replace hxT := hxT.toW hb; replace hB := hB.trans (hb.mono hB.size); replace hTT := hX; clear hb
     refine hK _ _ (.inr hTT) ?_
     clear hK K
     try simp only [LS, Act.put]
     refine wpG_one (i := 4) rfl (by kernel_rfl) (fun K hK => ?_)
     go_simp
     refine (HTA.out _ hB _ _ hV).mono ?_
     rintro e w2 ⟨rfl, hb⟩
     replace hX := hX.below hb hX.lt; replace hS := hS.below hb hS.lt; replace hxT := hxT.toW hb; replace hB := hB.trans (hb.mono hB.size); replace hTT := hX; clear hb hV
     refine hK _ _ (.inr hTT) ?_
     clear hK K
     try simp only [LS, Act.put]
     refine wpG_take (i := 5) (v := ?vx2_5) rfl (by kernel_rfl) (by kernel_rfl) (by kernel_rfl) (by kernel_rfl) (fun _ _ _ h => h) (Or.inl ⟨by rfl, ?hyx2_5⟩) hTT ?restx2_5
     case hyx2_5 => intro wq hSw; have q0 := fun i => hSw.cell i; skip; go_simp <;> with_reducible rfl
     simp only [LS, Act.put]
     refine wpG_take (i := 6) (v := ?vx2_6) rfl (by kernel_rfl) (by kernel_rfl) (by kernel_rfl) (by kernel_rfl) (fun _ _ _ h => h) (Or.inl ⟨by rfl, ?hyx2_6⟩) hTT ?restx2_6
     case hyx2_6 => intro wq hSw; have q0 := fun i => hSw.cell i; skip; go_simp <;> with_reducible rfl
     simp only [LS, Act.put]
     refine wpG_take (i := 7) (v := ?vx2_7) rfl (by kernel_rfl) (by kernel_rfl) (by kernel_rfl) (by kernel_rfl) (fun _ _ _ h => h) (Or.inl ⟨by rfl, ?hyx2_7⟩) hTT ?restx2_7
     case hyx2_7 => intro wq hSw; have q0 := fun i => hSw.cell i; skip; go_simp <;> with_reducible rfl
     simp only [LS, Act.put]
     refine wpG_take (i := 8) (v := ?vx2_8) rfl (by kernel_rfl) (by kernel_rfl) (by kernel_rfl) (by kernel_rfl) (fun _ _ _ h => h) (Or.inl ⟨by rfl, ?hyx2_8⟩) hTT ?restx2_8
     case hyx2_8 => intro wq hSw; have q0 := fun i => hSw.cell i; skip; go_simp <;> with_reducible rfl
     simp only [LS, Act.put]
     refine wpG_one (i := 9) rfl (by kernel_rfl) (fun K hK => ?_)
     go_simp
     refine hK _ _ (.inl rfl) ?_
     clear hK K
     try simp only [LS, Act.put]
     refine wpG_done (by kernel_rfl) ?_ _
     clear hTT
     have qX := fun i => hX.cell i; have qS := fun i => hS.cell i
     have hRR : ((RS : Int) != (RS : Int)) = false := by simp
     obtain ⟨hle, hiff⟩ := HSR.out
     have hnlt : ¬ ((AL : Nat) : Int) < (RS : Int) := by omega
     have HIFF := Lib.hid hiff; have HLEQ := Lib.hid hle; clear hiff hle
     rename World => WZ
     go_wp2_with fail
     clear hRR hnlt qX qS
     have hEd := Blk.new WZ 66 #[.int .i64 0, .int .i64 0]
     have hB6 : Below WZ.heap.size WZ (WZ.alloc (.cells #[.int .i64 0, .int .i64 0] 66)) := (Below.refl _ WZ).alloc (Nat.le_refl _) _
     have hbwZ := Nat.lt_of_lt_of_le hbw hB.size; have hbpZ := Nat.lt_of_lt_of_le hbp hB.size
     generalize WZ.alloc (.cells #[.int .i64 0, .int .i64 0] 66) = W6 at *
     go_loopg [17, 18, 19, 21] xn (fun g a b c i wr => ∃ (k many taken lo hi : Nat) (is : Bool), g = xn - k ∧ k ≤ xn ∧ a = .int .i64 many ∧ b = .int .i64 taken ∧ c = .bool is ∧ i = .int .i64 k ∧ Hid (many = RM k) ∧ Hid (taken = CP k) ∧ Hid (is = IN k) ∧ Hid (lo = FL k) ∧ Hid (hi = FH k) ∧ taken ≤ 4 * k ∧ lo ≤ 4 * k ∧ hi ≤ 4 * k ∧ Below WZ.heap.size WZ wr ∧ Blk wr WZ.heap.size 66 #[.int .i64 (lo : Int), .int .i64 (hi : Int)])
     case atStart => exact ⟨0, 1, 0, 0, 0, true, rfl, Nat.zero_le _, rfl, rfl, rfl, rfl, Lib.hid HZ0.out.2.2.2.2.symm, Lib.hid HZ0.out.2.2.1.symm, Lib.hid HZ0.out.2.2.2.1.symm, Lib.hid HZ0.out.1.symm, Lib.hid HZ0.out.2.1.symm, Nat.le_refl _, Nat.le_refl _, Nat.le_refl _, hB6, hEd⟩
     case round =>
      clear hEd hB6
      obtain ⟨k, many, taken, lo, hi, is, hg, hk, rfl, rfl, rfl, rfl, hmany, htaken, his, hlo, hhi, htk4, hlo4, hhi4, hB6, hEd⟩ := hrel
      rename World => wr
      have HG := Lib.hid hg; clear hg
      have hX6 := hX.below hB6 hX.lt; have hS6 := hS.below hB6 hS.lt; have hBr := hB.trans (hB6.mono hB.size)
      have qX := fun i => hX6.cell i; have qS := fun i => hS6.cell i
      by_cases hkt : k < xn
      ·have hkti : (k : Int) < xn := by omega
       obtain ⟨hv0, hv1, hvok, hvn, hvl⟩ := HLP.out k hkt
       have lp := HLN.out k hkt
       obtain ⟨hkt2, hwe, hwl⟩ := HWSM.out k hkt
       obtain ⟨bt, offt, hzt, rfl, hbt, hct⟩ := HTR.out.atm hkt
       have htok := HTO.out _ (List.getElem_mem hzt)
       have hFL := HFL1.out k hkt; have hFH := HFH1.out k hkt; have hCP := HCP1.out k; have hIN := HIN1.out k; have hRM := HRM1.out k
       rw [← hlo.out] at hFL; rw [← hhi.out] at hFH; rw [← htaken.out] at hCP; rw [← his.out] at hIN; rw [← hmany.out] at hRM
       have hle := fun (wx : World) (hx : Below w.heap.size w wx) => HLE.out k hkt wx hx
       have hli := fun (v : Value) (wx : World) (hx : Below w.heap.size w wx) (hv : LL wx v (refL wn k cs)) => HLI.out k v wx hx hv
       have hfr := HWA.out xs HXE.out k hkt
       have hfi0 := HFS.out k hkt
       have hgood := HRL1.out k
       have hne := refL_ne (wn := wn) (q := k) (cs := cs)
       have hMk := HM4.out (k + 1) (by omega)
       rw [hRM] at hMk
       have hf0 : ∀ y, (refL wn k cs)[0]? = some y → y = frsF wn k cs := fun y hy => by unfold frsF; rw [List.head?_eq_getElem?, hy]; rfl
       rw [hwe] at hCP hIN hwl
       generalize frsF wn k cs = F0 at *
       generalize refL wn k cs = RL at *
       generalize vlAt cs p k = v at *
       have hct2 : w.cell? ⟨bt, offt + k, none⟩ = some (.slice ts[k].A ts[k].n ts[k].cap) := hct
       have hTI : IA w ts[k].A ts[k].n ts[k].cap ts[k].ws := ⟨htok.1, htok.2.1, htok.2.2⟩
       clear hct htok hwe
       generalize ts[k] = r at *
       obtain ⟨rA, rn, rc, rws⟩ := r
       obtain ⟨lost, vA, vn, vc, vws⟩ := v
       dsimp only at hv0 hv1 hvok hvn hvl lp hCP hIN hwl hct2 hTI hFL hFH
       have hVI : IA w vA vn vc vws := ⟨hvok.1, hvok.2.1, hvok.2.2⟩
       obtain ⟨bx, offx, hzx, rfl, hbx, hcx⟩ := hxT.2.2.1.atm hkt
       have hxok := hxT.2.2.2 _ (List.getElem_mem hzx)
       have hxw : xs[k].ws = F0 := by rw [← hfr]; unfold wsAt; rw [List.getElem?_eq_getElem hzx]; rfl
       have hcx2 : WZ.cell? ⟨bx, offx + k, none⟩ = some (.slice xs[k].A xs[k].n xs[k].cap) := hcx
       have hXI : IA WZ xs[k].A xs[k].n xs[k].cap F0 := by rw [← hxw]; exact ⟨hxok.1, hxok.2.1, hxok.2.2⟩
       clear hcx hxok hxw hfr hvok
       generalize xs[k].A = zA at *
       generalize xs[k].n = zn at *
       generalize xs[k].cap = zc at *
       clear hzx hzt
       have hF4 := lnB_len (hgood.1 _ hfi0)
       have hz6 : zn ≤ 6 := by have := hXI.len; omega
       have HFL2 := Lib.hid hFL; have HFH2 := Lib.hid hFH; have HCP2 := Lib.hid hCP; have HIN2 := Lib.hid hIN; have HRM2 := Lib.hid hRM; have HLE2 := Lib.hid hle; have HLI2 := Lib.hid hli; have HGOOD := Lib.hid hgood; have HNE := Lib.hid hne; have HF0 := Lib.hid hf0; have HTI := Lib.hid hTI; have HVI := Lib.hid hVI; have HXI := Lib.hid hXI; have HFI0 := Lib.hid hfi0
       clear hFL hFH hCP hIN hRM hle hli hgood hne hf0 hTI hVI hXI hmany htaken his hlo hhi hfi0
       go_wp2_with fail
       refine (HLE2.out _ hBr).mono ?_; rintro e w1 ⟨⟨u, rfl, hU⟩, hb⟩
       have hbr6 := hB6.size
       replace hEd := hEd.below hb hEd.lt; replace hB6 := hB6.trans (hb.mono hbr6); clear hb hbr6 qX qS hX6 hS6 hBr
       have hBr := hB.trans (hB6.mono hB.size)
       have hU2 := hU
       obtain ⟨yA, yn, yc, ys, rfl, hyT, hye⟩ := hU.txi
       have hyl := hyT.len
       obtain ⟨m, hm⟩ : ∃ m, m = RL.length := ⟨_, rfl⟩
       obtain rfl : yn = m := by rw [hm, ← hye, List.length_map, hyl]
       have hpos : 0 < yn := by rw [hm]; exact List.length_pos_iff.2 HNE.out
       have hyn1 : ¬ (yn : Int) < 1 := by omega
       have hynd : decide ((yn : Int) < 1) = false := decide_eq_false hyn1
       have hynz : ¬ yn = 0 := by omega
       have hyn0 : (0 : Int) < yn := by omega
       have hym : yn ≤ 121 := by rw [hm]; exact HGOOD.out.2.2
       rw [← hm] at hMk
       have HRM3 : Hid (RM (k + 1) = many * yn) := Lib.hid (by rw [HRM2.out, ← hm])
       have HM := Lib.hid hm; have HMK := Lib.hid hMk
       clear hm hMk HRM2 hU
       obtain ⟨by0, yo, hzy, rfl, hby, hcy0⟩ := hyT.2.2.1.atm hpos
       clear hcy0 hzy
       have hrow : ∀ j, j < yn → ∃ jA jn jc l, RL[j]? = some l ∧ w1.cell? ⟨by0, yo + j, none⟩ = some (.slice jA jn jc) ∧ IA w1 jA jn jc l ∧ lnB (wn : Int) l = true := fun j hj => by
        obtain ⟨b9, o9, hz9, e9, hb9, hc9⟩ := hyT.2.2.1.atm hj
        injection e9 with e9
        injection e9 with e1 e2
        subst e1 e2
        have hzj : j < ys.length := by rw [hyl]; exact hj
        have hok := hyT.2.2.2 _ (List.getElem_mem hzj)
        have hl : RL[j]? = some ys[j].ws := by rw [← hye, List.getElem?_map, List.getElem?_eq_getElem hzj]; rfl
        refine ⟨ys[j].A, ys[j].n, ys[j].cap, ys[j].ws, hl, ?_, ⟨hok.1, hok.2.1, hok.2.2⟩, HGOOD.out.1 _ (List.mem_of_getElem? hl)⟩
        rw [hc9]; rfl
       have HROW := Lib.hid hrow
       clear hye hyl hrow hyT
       obtain ⟨jA, jn, jc, l0, hl0, hcj, hIJ, hlj⟩ := HROW.out 0 hpos
       obtain rfl := HF0.out _ hl0
       rw [Nat.add_zero] at hcj
       have hj6 : jn ≤ 6 := by have := hIJ.len; omega
       have hX6 := hX.below hB6 hX.lt
       have hq1 := fun (z : Blw w1.heap.size w1) i => blw_blk hX6 z i
       have hq2 := fun (z : Blw w1.heap.size w1) => ((Blw.h z).cell (p := ⟨by0, yo, none⟩) hby).trans hcj
       have hbx1 := Nat.lt_of_lt_of_le hbx hB6.size
       have hcx3 := (hB6.cell (p := ⟨bx, offx + k, none⟩) hbx).trans hcx2
       have hq3 := fun (z : Blw w1.heap.size w1) => ((Blw.h z).cell (p := ⟨bx, offx + k, none⟩) hbx1).trans hcx3
       have hc1 := fun (z : Blw w1.heap.size w1) => HLI2.out _ z.toW (hBr.trans (z.h.mono hBr.size)) (hU2.below z.h)
       have hc2 := fun (z : Blw w1.heap.size w1) => Same_T (hIJ.toW z.h) ((HXI.out.toW hB6).toW z.h) hj6 hz6
       have HCA := Lib.hid hc1; have HCB := Lib.hid hc2; clear hc1 hc2 hl0 hIJ hj6 hz6
       have hlX := hX6.lt
       go_upto_region 17 with (fail)
       refine wp_region_blw (by kernel_rfl) (by kernel_rfl) ?_
       repeat (go_big_quiet_step (fail))
       go_big_quiet_step ((go_at_call 41; exact Calls.blw_of _ (HCA.out _)))
       repeat (go_big_quiet_step (fail))
       go_big_quiet_step ((go_at_call 31; exact Calls.blw_of _ (HCB.out _)))
       repeat (go_big_quiet_step (fail))
       refine wpQuiet_nil ?_
       rintro W2 ⟨⟨_, hb2⟩, rfl⟩
       clear hq1 hq2 hq3 HCA HCB hlX hX6 hcx3 hcj
       replace hEd := hEd.below hb2 hEd.lt; replace hB6 := hB6.trans (hb2.mono hB6.size); replace hU2 := hU2.below hb2
       have hB7 := hb2
       clear hb2
       replace hBr := hB.trans (hB6.mono hB.size)
       have hwr : wrap64 ((many : Int) * (yn : Int)) = ((many * yn : Nat) : Int) := by
        have h1 : (many : Int) * (yn : Int) = ((many * yn : Nat) : Int) := (Int.natCast_mul many yn).symm
        have h2 := HMK.out
        rw [h1]; generalize many * yn = x at *; exact IntWalk.wrap64_in _ (by omega)
       have HWR := Lib.hid hwr; clear hwr
       have hpi : (p : Int) < n := by omega
       have hX6 := hX.below hB6 hX.lt
       have hct3 := (hBr.cell (p := ⟨bt, offt + k, none⟩) hbt).trans hct2
       have hcp3 := (hBr.cell (p := ⟨bb, off + p, none⟩) hbw).trans hcp0
       have hv03 := (hBr.cell (p := ⟨bp, offp + k * 2, none⟩) hbp).trans hv0
       have hv13 := (hBr.cell (p := ⟨bp, offp + k * 2 + 1, none⟩) hbp).trans hv1
       have qX := fun i => hX6.cell i
       cases is
       ·have hIN3 : Hid (IN (k + 1) = false) := Lib.hid (by rw [HIN2.out]; rfl)
        clear HIN2 hU2
        obtain ⟨is2, his2⟩ : ∃ b, b = false := ⟨_, rfl⟩
        rw [← his2] at hIN3
        cases lost
        ·have hEle : ∀ l ∈ RL, ed l vws ≤ 4 := fun l hl => by have h1 := ed_le l vws; have h2 := lnB_len (HGOOD.out.1 l hl); have h3 := lnB_len lp; omega
         have hE4 : ed rws vws ≤ 4 := by have h1 := ed_le rws vws; have h2 := lnB_len hwl; have h3 := lnB_len lp; omega
         have hCP3 : Hid (CP (k + 1) = taken + ed rws vws) := Lib.hid (by rw [HCP2.out]; rfl)
         have hFL3 : Hid (FL (k + 1) = lo + RL.foldl (fun m x => min m (ed x vws)) 4) := Lib.hid (by rw [HFL2.out, lowF (f := fun x => ed x vws) HNE.out 4 hEle]; rfl)
         have hFH3 : Hid (FH (k + 1) = hi + RL.foldl (fun m x => max m (ed x vws)) 0) := Lib.hid (by rw [HFH2.out]; rfl)
         have hlX := hX6.lt
         have hcw := Nat.lt_of_lt_of_le hbt hBr.size
         have hcc := fun (z : Blw (W2).heap.size (W2)) => HCH.out z.toW (hBr.trans (z.h.mono hBr.size)) rA rn rc rws (HTI.out.toW (hBr.trans (z.h.mono hBr.size))) hwl vA vn vc vws (HVI.out.toW (hBr.trans (z.h.mono hBr.size))) lp
         have HEL := Lib.hid hEle; have HCC := Lib.hid hcc
         generalize hEe : ed rws vws = E at *
         have hE4i : (E : Int) ≤ 4 := by omega
         clear hEle hcc HCP2 HFL2 HFH2 hEe
         have hq1 := fun (z : Blw (W2).heap.size (W2)) i => blw_blk hX6 z i
         have hq2 := fun (z : Blw (W2).heap.size (W2)) => ((Blw.h z).cell (p := ⟨bt, offt + k, none⟩) hcw).trans hct3
         go_upto_region 22 with (fail)
         refine wp_region_blw (by kernel_rfl) (by kernel_rfl) ?_
         repeat (go_big_quiet_step (fail))
         go_big_quiet_step ((go_at_call 26; exact Calls.blw_of _ (HCC.out _)))
         repeat (go_big_quiet_step (fail))
         refine wpQuiet_nil ?_
         rintro W4 ⟨⟨_, hb4⟩, rfl⟩
         clear hq1 hq2 HCC hlX hcw qX hX6 hct3 hcp3 hv03 hv13
         replace hEd := hEd.below hb4 hEd.lt; replace hB6 := hB6.trans (hb4.mono hB6.size); replace hB7 := hB7.trans (hb4.mono hB7.size)
         replace hBr := hB.trans (hB6.mono hB.size)
         clear hb4
         have hX6 := hX.below hB6 hX.lt
         go_wp2_with fail
         go_loopg [28, 29, 30] yn (fun g a c i wx => ∃ j z1 z2 : Nat, g = yn - j ∧ j ≤ yn ∧ a = .int .i64 z1 ∧ c = .int .i64 z2 ∧ i = .int .i64 j ∧ z1 ≤ 4 ∧ z2 ≤ 4 ∧ Hid (z1 = (RL.take j).foldl (fun m x => min m (ed x vws)) 4) ∧ Hid (z2 = (RL.take j).foldl (fun m x => max m (ed x vws)) 0) ∧ Below W4.heap.size W4 wx)
         case atStart => exact ⟨0, 4, 0, rfl, Nat.zero_le _, rfl, rfl, rfl, Nat.le_refl _, Nat.zero_le _, Lib.hid rfl, Lib.hid rfl, Below.refl _ _⟩
         case round =>
          obtain ⟨j, z1, z2, hg, hjm, rfl, rfl, rfl, hz14, hz24, hf1, hf2, hBx⟩ := hrel
          rename World => wx
          have HG2 := Lib.hid hg; clear hg
          by_cases hjt : j < yn
          ·have hjti : (j : Int) < yn := by omega
           obtain ⟨aA, an, ac, l2, hl2, hca, hIA2, hla⟩ := HROW.out j hjt
           have hjR : j < RL.length := by rw [← HM.out]; exact hjt
           have hyl : RL[j] = l2 := by rw [List.getElem?_eq_getElem hjR] at hl2; exact Option.some.inj hl2
           have hT4 := HEL.out l2 (List.mem_of_getElem? hl2)
           have s1 : (RL.take (j + 1)).foldl (fun m x => min m (ed x vws)) 4 = min z1 (ed l2 vws) := by rw [List.take_succ_eq_append_getElem hjR, List.foldl_append, ← hf1.out, hyl]; rfl
           have s2 : (RL.take (j + 1)).foldl (fun m x => max m (ed x vws)) 0 = max z2 (ed l2 vws) := by rw [List.take_succ_eq_append_getElem hjR, List.foldl_append, ← hf2.out, hyl]; rfl
           have hB8 := hB7.trans (hBx.mono hB7.size)
           have hBy := hBr.trans (hBx.mono hBr.size)
           have hca3 := (hB8.cell (p := ⟨by0, yo + j, none⟩) hby).trans hca
           have hbyx := Nat.lt_of_lt_of_le hby hB8.size
           have hX8 := hX6.below hBx hX6.lt
           have hcc := fun (z : Blw wx.heap.size wx) => HCH.out z.toW (hBy.trans (z.h.mono hBy.size)) aA an ac l2 (hIA2.toW (hB8.trans (z.h.mono hB8.size))) hla vA vn vc vws (HVI.out.toW (hBy.trans (z.h.mono hBy.size))) lp
           have HCC := Lib.hid hcc; have HS1 := Lib.hid s1; have HS2 := Lib.hid s2
           generalize ed l2 vws = t at *
           have hti : (t : Int) ≤ 4 := by omega
           have htg : ¬ (4 : Int) < t := by omega
           clear hcc s1 s2 hyl hl2 hIA2 hla hca
           have hq1 := fun (z : Blw wx.heap.size wx) i => blw_blk hX8 z i
           have hq2 := fun (z : Blw wx.heap.size wx) => ((Blw.h z).cell (p := ⟨by0, yo + j, none⟩) hbyx).trans hca3
           have hlX := hX8.lt
           go_upto_region 27 with (fail)
           refine wp_region_blw (by kernel_rfl) (by kernel_rfl) ?_
           repeat (go_big_quiet_step (fail))
           go_big_quiet_step ((go_at_call 26; exact Calls.blw_of _ (HCC.out _)))
           repeat (go_big_quiet_step (fail))
           refine wpQuiet_nil ?_
           rintro W5 ⟨⟨_, hb5⟩, rfl⟩
           clear hq1 hq2 HCC hlX hX8 hca3
           have hBx5 := hBx.trans (hb5.mono hBx.size)
           clear hb5
           go_wp2_with fail
           go_roundg (yn - (j + 1))
           case measure => rw [HG2.out]; omega
           case rel => exact ⟨j + 1, min z1 t, max z2 t, rfl, by omega, by first | rfl | exact congrArg (Value.int IntKind.i64) (by omega), by first | rfl | exact congrArg (Value.int IntKind.i64) (by omega), by go_num, by omega, by omega, Lib.hid HS1.out.symm, Lib.hid HS2.out.symm, hBx5⟩
          ·have hjge : ¬ (j : Int) < yn := by omega
           obtain rfl : j = yn := by omega
           have ht : RL.take j = RL := by rw [HM.out]; exact List.take_length
           rw [ht] at hf1 hf2
           have hFL4 : Hid (FL (k + 1) = lo + z1) := Lib.hid (by rw [hFL3.out, hf1.out])
           have hFH4 : Hid (FH (k + 1) = hi + z2) := Lib.hid (by rw [hFH3.out, hf2.out])
           clear hFL3 hFH3 hf1 hf2 ht
           replace hEd := hEd.below hBx hEd.lt; replace hB6 := hB6.trans (hBx.mono hB6.size)
           clear hBx hB7 hBr hX6
           go_upto_region 33 with (fail)
           rename World => WR
           refine wp_region_G (fun w' => Blk w' WZ.heap.size 66 #[.int .i64 (lo : Int), .int .i64 (hi : Int)]) 13 (by kernel_rfl) ?_
           replace hEd := hEd.drew; replace hB6 := hB6.drew
           generalize WR.drew = WD at *
           have hTT : Blk WD WZ.heap.size 66 #[.int .i64 (lo : Int), .int .i64 (hi : Int)] := hEd
           refine wpG_take (i := 0) (v := ?vx3_0) rfl (by kernel_rfl) (by kernel_rfl) (by kernel_rfl) (by kernel_rfl) (fun _ _ _ h => h) (Or.inl ⟨by rfl, ?hyx3_0⟩) hTT ?restx3_0
           case hyx3_0 => intro wq hSw; have q0 := fun i => hSw.cell i; skip; go_simp <;> with_reducible rfl
           simp only [LS, Act.put]
           refine wpG_take (i := 1) (v := ?vx3_1) rfl (by kernel_rfl) (by kernel_rfl) (by kernel_rfl) (by kernel_rfl) (fun _ _ _ h => h) (Or.inl ⟨by rfl, ?hyx3_1⟩) hTT ?restx3_1
           case hyx3_1 => intro wq hSw; have q0 := fun i => hSw.cell i; skip; go_simp <;> with_reducible rfl
           simp only [LS, Act.put]
           refine wpG_take (i := 2) (v := ?vx3_2) rfl (by kernel_rfl) (by kernel_rfl) (by kernel_rfl) (by kernel_rfl) (fun _ _ _ h => h) (Or.inl ⟨by rfl, ?hyx3_2⟩) hTT ?restx3_2
           case hyx3_2 => intro wq hSw; have q0 := fun i => hSw.cell i; skip; go_simp <;> with_reducible rfl
           simp only [LS, Act.put]
           refine wpG_take (i := 3) (v := ?vx3_3) rfl (by kernel_rfl) (by kernel_rfl) (by kernel_rfl) (by kernel_rfl) (fun _ _ _ h => h) (Or.inl ⟨by rfl, ?hyx3_3⟩) hTT ?restx3_3
           case hyx3_3 => intro wq hSw; have q0 := fun i => hSw.cell i; skip; go_simp <;> with_reducible rfl
           simp only [LS, Act.put]
           refine wpG_take (i := 4) (v := ?vx3_4) rfl (by kernel_rfl) (by kernel_rfl) (by kernel_rfl) (by kernel_rfl) (fun _ _ _ h => h) (Or.inl ⟨by rfl, ?hyx3_4⟩) hTT ?restx3_4
           case hyx3_4 => intro wq hSw; have q0 := fun i => hSw.cell i; skip; go_simp <;> with_reducible rfl
           simp only [LS, Act.put]
           refine wpG_take (i := 5) (v := ?vx3_5) rfl (by kernel_rfl) (by kernel_rfl) (by kernel_rfl) (by kernel_rfl) (fun _ _ _ h => h) (Or.inl ⟨by rfl, ?hyx3_5⟩) hTT ?restx3_5
           case hyx3_5 => intro wq hSw; have q0 := fun i => hSw.cell i; skip; go_simp <;> with_reducible rfl
           simp only [LS, Act.put]
           refine wpG_take (i := 6) (v := ?vx3_6) rfl (by kernel_rfl) (by kernel_rfl) (by kernel_rfl) (by kernel_rfl) (fun _ _ _ h => h) (Or.inl ⟨by rfl, ?hyx3_6⟩) hTT ?restx3_6
           case hyx3_6 => intro wq hSw; have q0 := fun i => hSw.cell i; skip; go_simp <;> with_reducible rfl
           simp only [LS, Act.put]
           refine wpG_take (i := 7) (v := ?vx3_7) rfl (by kernel_rfl) (by kernel_rfl) (by kernel_rfl) (by kernel_rfl) (fun _ _ _ h => h) (Or.inl ⟨by rfl, ?hyx3_7⟩) hTT ?restx3_7
           case hyx3_7 => intro wq hSw; have q0 := fun i => hSw.cell i; skip; go_simp <;> with_reducible rfl
           simp only [LS, Act.put]
           refine wpG_take (i := 8) (v := ?vx3_8) rfl (by kernel_rfl) (by kernel_rfl) (by kernel_rfl) (by kernel_rfl) (fun _ _ _ h => h) (Or.inl ⟨by rfl, ?hyx3_8⟩) hTT ?restx3_8
           case hyx3_8 => intro wq hSw; have q0 := fun i => hSw.cell i; skip; go_simp <;> with_reducible rfl
           simp only [LS, Act.put]
           refine wpG_take (i := 9) (v := ?vx3_9) rfl (by kernel_rfl) (by kernel_rfl) (by kernel_rfl) (by kernel_rfl) (fun _ _ _ h => h) (Or.inl ⟨by rfl, ?hyx3_9⟩) hTT ?restx3_9
           case hyx3_9 => intro wq hSw; have q0 := fun i => hSw.cell i; skip; go_simp <;> with_reducible rfl
           simp only [LS, Act.put]
           refine wpG_take (i := 10) (v := ?vx3_10) rfl (by kernel_rfl) (by kernel_rfl) (by kernel_rfl) (by kernel_rfl) (fun _ _ _ h => h) (Or.inl ⟨by rfl, ?hyx3_10⟩) hTT ?restx3_10
           case hyx3_10 => intro wq hSw; have q0 := fun i => hSw.cell i; skip; go_simp <;> with_reducible rfl
           simp only [LS, Act.put]
           refine wpG_take (i := 11) (v := ?vx3_11) rfl (by kernel_rfl) (by kernel_rfl) (by kernel_rfl) (by kernel_rfl) (fun _ _ _ h => h) (Or.inl ⟨by rfl, ?hyx3_11⟩) hTT ?restx3_11
           case hyx3_11 => intro wq hSw; have q0 := fun i => hSw.cell i; skip; go_simp <;> with_reducible rfl
           simp only [LS, Act.put]
           refine wpG_take (i := 12) (v := ?vx3_12) rfl (by kernel_rfl) (by kernel_rfl) (by kernel_rfl) (by kernel_rfl) (fun _ _ _ h => h) (Or.inl ⟨by rfl, ?hyx3_12⟩) hTT ?restx3_12
           case hyx3_12 => intro wq hSw; have q0 := fun i => hSw.cell i; skip; go_simp <;> with_reducible rfl
           simp only [LS, Act.put]
           refine wpG_one (i := 13) rfl (by kernel_rfl) (fun K hK => ?_)
           have qE := fun i => hEd.cell i; have fE := fun i => hEd.frozen i; have lE := hEd.lt
           go_simp
           refine hK _ _ (.inl rfl) ?_
           clear hK K
           try simp only [LS, Act.put]
           refine wpG_done (by kernel_rfl) ?_ _
           clear hTT
           have hw1 : IntKind.i64.wrap ((taken : Int) + (E : Int)) = ((taken + E : Nat) : Int) := by rw [IntWalk.i64_in _ (by omega)]; omega
           have hw2 : IntKind.i64.wrap ((lo : Int) + (z1 : Int)) = ((lo + z1 : Nat) : Int) := by rw [IntWalk.i64_in _ (by omega)]; omega
           have hw3 : IntKind.i64.wrap ((hi : Int) + (z2 : Int)) = ((hi + z2 : Nat) : Int) := by rw [IntWalk.i64_in _ (by omega)]; omega
           rw [hw2, hw3]
           have G : Blk ((WD.setCell ⟨WZ.heap.size, 0, none⟩ (.int .i64 ((lo + z1 : Nat) : Int))).setCell ⟨WZ.heap.size, 1, none⟩ (.int .i64 ((hi + z2 : Nat) : Int))) WZ.heap.size 66 #[.int .i64 ((lo + z1 : Nat) : Int), .int .i64 ((hi + z2 : Nat) : Int)] := by simpa using ((hEd.set_ 0 (.int .i64 ((lo + z1 : Nat) : Int))).set_ 1 (.int .i64 ((hi + z2 : Nat) : Int)))
           replace hB6 := (hB6.setCell (p := ⟨WZ.heap.size, 0, none⟩) (Nat.le_refl _) (.int .i64 ((lo + z1 : Nat) : Int))).setCell (p := ⟨WZ.heap.size, 1, none⟩) (Nat.le_refl _) (.int .i64 ((hi + z2 : Nat) : Int))
           generalize (WD.setCell ⟨WZ.heap.size, 0, none⟩ (.int .i64 ((lo + z1 : Nat) : Int))).setCell ⟨WZ.heap.size, 1, none⟩ (.int .i64 ((hi + z2 : Nat) : Int)) = WN at *
           clear hEd
           go_wp2_with fail
           go_roundg (xn - (k + 1))
           case measure => rw [HG.out]; omega
           case rel => exact ⟨k + 1, many * j, taken + E, lo + z1, hi + z2, is2, rfl, by omega, congrArg (Value.int IntKind.i64) HWR.out, by first | exact congrArg (Value.int IntKind.i64) hw1 | exact congrArg (Value.int IntKind.i64) (by omega), by rw [his2], by go_num, Lib.hid HRM3.out.symm, Lib.hid hCP3.out.symm, Lib.hid hIN3.out.symm, Lib.hid hFL4.out.symm, Lib.hid hFH4.out.symm, by omega, by omega, by omega, hB6, G⟩
        ·have hCP3 : Hid (CP (k + 1) = taken) := Lib.hid (by rw [HCP2.out]; rfl)
         have hFL3 : Hid (FL (k + 1) = lo) := Lib.hid (by rw [HFL2.out, minF_zero (f := tkF ⟨true, vA, vn, vc, vws⟩) (fun l _ => rfl)]; rfl)
         have hFH3 : Hid (FH (k + 1) = hi) := Lib.hid (by rw [HFH2.out, maxF_zero (f := tkF ⟨true, vA, vn, vc, vws⟩) (fun l _ => rfl)]; rfl)
         clear HCP2 HFL2 HFH2
         go_wp2_with fail
         go_roundg (xn - (k + 1))
         case measure => rw [HG.out]; omega
         case rel => exact ⟨k + 1, many * yn, taken, lo, hi, is2, rfl, by omega, congrArg (Value.int IntKind.i64) HWR.out, rfl, by rw [his2], by go_num, Lib.hid HRM3.out.symm, Lib.hid hCP3.out.symm, Lib.hid hIN3.out.symm, Lib.hid hFL3.out.symm, Lib.hid hFH3.out.symm, by omega, by omega, by omega, hB6, hEd⟩
       ·obtain ⟨is2, his2⟩ : ∃ b, b = decide (rws ∈ RL) := ⟨_, rfl⟩
        have hIN3 : Hid (IN (k + 1) = is2) := Lib.hid (by rw [HIN2.out, his2]; rfl)
        have hrn : rn ≤ 1000000 := by have h1 := HTI.out.len; have h2 := lnB_len hwl; omega
        go_wp2_with fail
        refine (met_any _ _ _ _ hU2 (HTI.out.toW hBr) hrn).mono ?_; rintro e w3 ⟨rfl, hb⟩
        clear hct3 hcp3 hv03 hv13 qX hX6
        replace hEd := hEd.below hb hEd.lt; replace hB6 := hB6.trans (hb.mono hB6.size); replace hB7 := hB7.trans (hb.mono hB7.size)
        replace hBr := hB.trans (hB6.mono hB.size)
        have hX6 := hX.below hB6 hX.lt
        have hct3 := (hBr.cell (p := ⟨bt, offt + k, none⟩) hbt).trans hct2
        have hcp3 := (hBr.cell (p := ⟨bb, off + p, none⟩) hbw).trans hcp0
        have hv03 := (hBr.cell (p := ⟨bp, offp + k * 2, none⟩) hbp).trans hv0
        have hv13 := (hBr.cell (p := ⟨bp, offp + k * 2 + 1, none⟩) hbp).trans hv1
        have qX := fun i => hX6.cell i
        rw [← his2]
        clear hb HIN2 hU2 his2
        cases lost
        ·have hEle : ∀ l ∈ RL, ed l vws ≤ 4 := fun l hl => by have h1 := ed_le l vws; have h2 := lnB_len (HGOOD.out.1 l hl); have h3 := lnB_len lp; omega
         have hE4 : ed rws vws ≤ 4 := by have h1 := ed_le rws vws; have h2 := lnB_len hwl; have h3 := lnB_len lp; omega
         have hCP3 : Hid (CP (k + 1) = taken + ed rws vws) := Lib.hid (by rw [HCP2.out]; rfl)
         have hFL3 : Hid (FL (k + 1) = lo + RL.foldl (fun m x => min m (ed x vws)) 4) := Lib.hid (by rw [HFL2.out, lowF (f := fun x => ed x vws) HNE.out 4 hEle]; rfl)
         have hFH3 : Hid (FH (k + 1) = hi + RL.foldl (fun m x => max m (ed x vws)) 0) := Lib.hid (by rw [HFH2.out]; rfl)
         have hlX := hX6.lt
         have hcw := Nat.lt_of_lt_of_le hbt hBr.size
         have hcc := fun (z : Blw (w3).heap.size (w3)) => HCH.out z.toW (hBr.trans (z.h.mono hBr.size)) rA rn rc rws (HTI.out.toW (hBr.trans (z.h.mono hBr.size))) hwl vA vn vc vws (HVI.out.toW (hBr.trans (z.h.mono hBr.size))) lp
         have HEL := Lib.hid hEle; have HCC := Lib.hid hcc
         generalize hEe : ed rws vws = E at *
         have hE4i : (E : Int) ≤ 4 := by omega
         clear hEle hcc HCP2 HFL2 HFH2 hEe
         have hq1 := fun (z : Blw (w3).heap.size (w3)) i => blw_blk hX6 z i
         have hq2 := fun (z : Blw (w3).heap.size (w3)) => ((Blw.h z).cell (p := ⟨bt, offt + k, none⟩) hcw).trans hct3
         go_upto_region 22 with (fail)
         refine wp_region_blw (by kernel_rfl) (by kernel_rfl) ?_
         repeat (go_big_quiet_step (fail))
         go_big_quiet_step ((go_at_call 26; exact Calls.blw_of _ (HCC.out _)))
         repeat (go_big_quiet_step (fail))
         refine wpQuiet_nil ?_
         rintro W4 ⟨⟨_, hb4⟩, rfl⟩
         clear hq1 hq2 HCC hlX hcw qX hX6 hct3 hcp3 hv03 hv13
         replace hEd := hEd.below hb4 hEd.lt; replace hB6 := hB6.trans (hb4.mono hB6.size); replace hB7 := hB7.trans (hb4.mono hB7.size)
         replace hBr := hB.trans (hB6.mono hB.size)
         clear hb4
         have hX6 := hX.below hB6 hX.lt
         go_wp2_with fail
         go_loopg [28, 29, 30] yn (fun g a c i wx => ∃ j z1 z2 : Nat, g = yn - j ∧ j ≤ yn ∧ a = .int .i64 z1 ∧ c = .int .i64 z2 ∧ i = .int .i64 j ∧ z1 ≤ 4 ∧ z2 ≤ 4 ∧ Hid (z1 = (RL.take j).foldl (fun m x => min m (ed x vws)) 4) ∧ Hid (z2 = (RL.take j).foldl (fun m x => max m (ed x vws)) 0) ∧ Below W4.heap.size W4 wx)
         case atStart => exact ⟨0, 4, 0, rfl, Nat.zero_le _, rfl, rfl, rfl, Nat.le_refl _, Nat.zero_le _, Lib.hid rfl, Lib.hid rfl, Below.refl _ _⟩
         case round =>
          obtain ⟨j, z1, z2, hg, hjm, rfl, rfl, rfl, hz14, hz24, hf1, hf2, hBx⟩ := hrel
          rename World => wx
          have HG2 := Lib.hid hg; clear hg
          by_cases hjt : j < yn
          ·have hjti : (j : Int) < yn := by omega
           obtain ⟨aA, an, ac, l2, hl2, hca, hIA2, hla⟩ := HROW.out j hjt
           have hjR : j < RL.length := by rw [← HM.out]; exact hjt
           have hyl : RL[j] = l2 := by rw [List.getElem?_eq_getElem hjR] at hl2; exact Option.some.inj hl2
           have hT4 := HEL.out l2 (List.mem_of_getElem? hl2)
           have s1 : (RL.take (j + 1)).foldl (fun m x => min m (ed x vws)) 4 = min z1 (ed l2 vws) := by rw [List.take_succ_eq_append_getElem hjR, List.foldl_append, ← hf1.out, hyl]; rfl
           have s2 : (RL.take (j + 1)).foldl (fun m x => max m (ed x vws)) 0 = max z2 (ed l2 vws) := by rw [List.take_succ_eq_append_getElem hjR, List.foldl_append, ← hf2.out, hyl]; rfl
           have hB8 := hB7.trans (hBx.mono hB7.size)
           have hBy := hBr.trans (hBx.mono hBr.size)
           have hca3 := (hB8.cell (p := ⟨by0, yo + j, none⟩) hby).trans hca
           have hbyx := Nat.lt_of_lt_of_le hby hB8.size
           have hX8 := hX6.below hBx hX6.lt
           have hcc := fun (z : Blw wx.heap.size wx) => HCH.out z.toW (hBy.trans (z.h.mono hBy.size)) aA an ac l2 (hIA2.toW (hB8.trans (z.h.mono hB8.size))) hla vA vn vc vws (HVI.out.toW (hBy.trans (z.h.mono hBy.size))) lp
           have HCC := Lib.hid hcc; have HS1 := Lib.hid s1; have HS2 := Lib.hid s2
           generalize ed l2 vws = t at *
           have hti : (t : Int) ≤ 4 := by omega
           have htg : ¬ (4 : Int) < t := by omega
           clear hcc s1 s2 hyl hl2 hIA2 hla hca
           have hq1 := fun (z : Blw wx.heap.size wx) i => blw_blk hX8 z i
           have hq2 := fun (z : Blw wx.heap.size wx) => ((Blw.h z).cell (p := ⟨by0, yo + j, none⟩) hbyx).trans hca3
           have hlX := hX8.lt
           go_upto_region 27 with (fail)
           refine wp_region_blw (by kernel_rfl) (by kernel_rfl) ?_
           repeat (go_big_quiet_step (fail))
           go_big_quiet_step ((go_at_call 26; exact Calls.blw_of _ (HCC.out _)))
           repeat (go_big_quiet_step (fail))
           refine wpQuiet_nil ?_
           rintro W5 ⟨⟨_, hb5⟩, rfl⟩
           clear hq1 hq2 HCC hlX hX8 hca3
           have hBx5 := hBx.trans (hb5.mono hBx.size)
           clear hb5
           go_wp2_with fail
           go_roundg (yn - (j + 1))
           case measure => rw [HG2.out]; omega
           case rel => exact ⟨j + 1, min z1 t, max z2 t, rfl, by omega, by first | rfl | exact congrArg (Value.int IntKind.i64) (by omega), by first | rfl | exact congrArg (Value.int IntKind.i64) (by omega), by go_num, by omega, by omega, Lib.hid HS1.out.symm, Lib.hid HS2.out.symm, hBx5⟩
          ·have hjge : ¬ (j : Int) < yn := by omega
           obtain rfl : j = yn := by omega
           have ht : RL.take j = RL := by rw [HM.out]; exact List.take_length
           rw [ht] at hf1 hf2
           have hFL4 : Hid (FL (k + 1) = lo + z1) := Lib.hid (by rw [hFL3.out, hf1.out])
           have hFH4 : Hid (FH (k + 1) = hi + z2) := Lib.hid (by rw [hFH3.out, hf2.out])
           clear hFL3 hFH3 hf1 hf2 ht
           replace hEd := hEd.below hBx hEd.lt; replace hB6 := hB6.trans (hBx.mono hB6.size)
           clear hBx hB7 hBr hX6
           go_upto_region 33 with (fail)
           rename World => WR
           refine wp_region_G (fun w' => Blk w' WZ.heap.size 66 #[.int .i64 (lo : Int), .int .i64 (hi : Int)]) 13 (by kernel_rfl) ?_
           replace hEd := hEd.drew; replace hB6 := hB6.drew
           generalize WR.drew = WD at *
           have hTT : Blk WD WZ.heap.size 66 #[.int .i64 (lo : Int), .int .i64 (hi : Int)] := hEd
           refine wpG_take (i := 0) (v := ?vx4_0) rfl (by kernel_rfl) (by kernel_rfl) (by kernel_rfl) (by kernel_rfl) (fun _ _ _ h => h) (Or.inl ⟨by rfl, ?hyx4_0⟩) hTT ?restx4_0
           case hyx4_0 => intro wq hSw; have q0 := fun i => hSw.cell i; skip; go_simp <;> with_reducible rfl
           simp only [LS, Act.put]
           refine wpG_take (i := 1) (v := ?vx4_1) rfl (by kernel_rfl) (by kernel_rfl) (by kernel_rfl) (by kernel_rfl) (fun _ _ _ h => h) (Or.inl ⟨by rfl, ?hyx4_1⟩) hTT ?restx4_1
           case hyx4_1 => intro wq hSw; have q0 := fun i => hSw.cell i; skip; go_simp <;> with_reducible rfl
           simp only [LS, Act.put]
           refine wpG_take (i := 2) (v := ?vx4_2) rfl (by kernel_rfl) (by kernel_rfl) (by kernel_rfl) (by kernel_rfl) (fun _ _ _ h => h) (Or.inl ⟨by rfl, ?hyx4_2⟩) hTT ?restx4_2
           case hyx4_2 => intro wq hSw; have q0 := fun i => hSw.cell i; skip; go_simp <;> with_reducible rfl
           simp only [LS, Act.put]
           refine wpG_take (i := 3) (v := ?vx4_3) rfl (by kernel_rfl) (by kernel_rfl) (by kernel_rfl) (by kernel_rfl) (fun _ _ _ h => h) (Or.inl ⟨by rfl, ?hyx4_3⟩) hTT ?restx4_3
           case hyx4_3 => intro wq hSw; have q0 := fun i => hSw.cell i; skip; go_simp <;> with_reducible rfl
           simp only [LS, Act.put]
           refine wpG_take (i := 4) (v := ?vx4_4) rfl (by kernel_rfl) (by kernel_rfl) (by kernel_rfl) (by kernel_rfl) (fun _ _ _ h => h) (Or.inl ⟨by rfl, ?hyx4_4⟩) hTT ?restx4_4
           case hyx4_4 => intro wq hSw; have q0 := fun i => hSw.cell i; skip; go_simp <;> with_reducible rfl
           simp only [LS, Act.put]
           refine wpG_take (i := 5) (v := ?vx4_5) rfl (by kernel_rfl) (by kernel_rfl) (by kernel_rfl) (by kernel_rfl) (fun _ _ _ h => h) (Or.inl ⟨by rfl, ?hyx4_5⟩) hTT ?restx4_5
           case hyx4_5 => intro wq hSw; have q0 := fun i => hSw.cell i; skip; go_simp <;> with_reducible rfl
           simp only [LS, Act.put]
           refine wpG_take (i := 6) (v := ?vx4_6) rfl (by kernel_rfl) (by kernel_rfl) (by kernel_rfl) (by kernel_rfl) (fun _ _ _ h => h) (Or.inl ⟨by rfl, ?hyx4_6⟩) hTT ?restx4_6
           case hyx4_6 => intro wq hSw; have q0 := fun i => hSw.cell i; skip; go_simp <;> with_reducible rfl
           simp only [LS, Act.put]
           refine wpG_take (i := 7) (v := ?vx4_7) rfl (by kernel_rfl) (by kernel_rfl) (by kernel_rfl) (by kernel_rfl) (fun _ _ _ h => h) (Or.inl ⟨by rfl, ?hyx4_7⟩) hTT ?restx4_7
           case hyx4_7 => intro wq hSw; have q0 := fun i => hSw.cell i; skip; go_simp <;> with_reducible rfl
           simp only [LS, Act.put]
           refine wpG_take (i := 8) (v := ?vx4_8) rfl (by kernel_rfl) (by kernel_rfl) (by kernel_rfl) (by kernel_rfl) (fun _ _ _ h => h) (Or.inl ⟨by rfl, ?hyx4_8⟩) hTT ?restx4_8
           case hyx4_8 => intro wq hSw; have q0 := fun i => hSw.cell i; skip; go_simp <;> with_reducible rfl
           simp only [LS, Act.put]
           refine wpG_take (i := 9) (v := ?vx4_9) rfl (by kernel_rfl) (by kernel_rfl) (by kernel_rfl) (by kernel_rfl) (fun _ _ _ h => h) (Or.inl ⟨by rfl, ?hyx4_9⟩) hTT ?restx4_9
           case hyx4_9 => intro wq hSw; have q0 := fun i => hSw.cell i; skip; go_simp <;> with_reducible rfl
           simp only [LS, Act.put]
           refine wpG_take (i := 10) (v := ?vx4_10) rfl (by kernel_rfl) (by kernel_rfl) (by kernel_rfl) (by kernel_rfl) (fun _ _ _ h => h) (Or.inl ⟨by rfl, ?hyx4_10⟩) hTT ?restx4_10
           case hyx4_10 => intro wq hSw; have q0 := fun i => hSw.cell i; skip; go_simp <;> with_reducible rfl
           simp only [LS, Act.put]
           refine wpG_take (i := 11) (v := ?vx4_11) rfl (by kernel_rfl) (by kernel_rfl) (by kernel_rfl) (by kernel_rfl) (fun _ _ _ h => h) (Or.inl ⟨by rfl, ?hyx4_11⟩) hTT ?restx4_11
           case hyx4_11 => intro wq hSw; have q0 := fun i => hSw.cell i; skip; go_simp <;> with_reducible rfl
           simp only [LS, Act.put]
           refine wpG_take (i := 12) (v := ?vx4_12) rfl (by kernel_rfl) (by kernel_rfl) (by kernel_rfl) (by kernel_rfl) (fun _ _ _ h => h) (Or.inl ⟨by rfl, ?hyx4_12⟩) hTT ?restx4_12
           case hyx4_12 => intro wq hSw; have q0 := fun i => hSw.cell i; skip; go_simp <;> with_reducible rfl
           simp only [LS, Act.put]
           refine wpG_one (i := 13) rfl (by kernel_rfl) (fun K hK => ?_)
           have qE := fun i => hEd.cell i; have fE := fun i => hEd.frozen i; have lE := hEd.lt
           go_simp
           refine hK _ _ (.inl rfl) ?_
           clear hK K
           try simp only [LS, Act.put]
           refine wpG_done (by kernel_rfl) ?_ _
           clear hTT
           have hw1 : IntKind.i64.wrap ((taken : Int) + (E : Int)) = ((taken + E : Nat) : Int) := by rw [IntWalk.i64_in _ (by omega)]; omega
           have hw2 : IntKind.i64.wrap ((lo : Int) + (z1 : Int)) = ((lo + z1 : Nat) : Int) := by rw [IntWalk.i64_in _ (by omega)]; omega
           have hw3 : IntKind.i64.wrap ((hi : Int) + (z2 : Int)) = ((hi + z2 : Nat) : Int) := by rw [IntWalk.i64_in _ (by omega)]; omega
           rw [hw2, hw3]
           have G : Blk ((WD.setCell ⟨WZ.heap.size, 0, none⟩ (.int .i64 ((lo + z1 : Nat) : Int))).setCell ⟨WZ.heap.size, 1, none⟩ (.int .i64 ((hi + z2 : Nat) : Int))) WZ.heap.size 66 #[.int .i64 ((lo + z1 : Nat) : Int), .int .i64 ((hi + z2 : Nat) : Int)] := by simpa using ((hEd.set_ 0 (.int .i64 ((lo + z1 : Nat) : Int))).set_ 1 (.int .i64 ((hi + z2 : Nat) : Int)))
           replace hB6 := (hB6.setCell (p := ⟨WZ.heap.size, 0, none⟩) (Nat.le_refl _) (.int .i64 ((lo + z1 : Nat) : Int))).setCell (p := ⟨WZ.heap.size, 1, none⟩) (Nat.le_refl _) (.int .i64 ((hi + z2 : Nat) : Int))
           generalize (WD.setCell ⟨WZ.heap.size, 0, none⟩ (.int .i64 ((lo + z1 : Nat) : Int))).setCell ⟨WZ.heap.size, 1, none⟩ (.int .i64 ((hi + z2 : Nat) : Int)) = WN at *
           clear hEd
           go_wp2_with fail
           go_roundg (xn - (k + 1))
           case measure => rw [HG.out]; omega
           case rel => exact ⟨k + 1, many * j, taken + E, lo + z1, hi + z2, is2, rfl, by omega, congrArg (Value.int IntKind.i64) HWR.out, by first | exact congrArg (Value.int IntKind.i64) hw1 | exact congrArg (Value.int IntKind.i64) (by omega), rfl, by go_num, Lib.hid HRM3.out.symm, Lib.hid hCP3.out.symm, Lib.hid hIN3.out.symm, Lib.hid hFL4.out.symm, Lib.hid hFH4.out.symm, by omega, by omega, by omega, hB6, G⟩
        ·have hCP3 : Hid (CP (k + 1) = taken) := Lib.hid (by rw [HCP2.out]; rfl)
         have hFL3 : Hid (FL (k + 1) = lo) := Lib.hid (by rw [HFL2.out, minF_zero (f := tkF ⟨true, vA, vn, vc, vws⟩) (fun l _ => rfl)]; rfl)
         have hFH3 : Hid (FH (k + 1) = hi) := Lib.hid (by rw [HFH2.out, maxF_zero (f := tkF ⟨true, vA, vn, vc, vws⟩) (fun l _ => rfl)]; rfl)
         clear HCP2 HFL2 HFH2
         go_wp2_with fail
         go_roundg (xn - (k + 1))
         case measure => rw [HG.out]; omega
         case rel => exact ⟨k + 1, many * yn, taken, lo, hi, is2, rfl, by omega, congrArg (Value.int IntKind.i64) HWR.out, rfl, rfl, by go_num, Lib.hid HRM3.out.symm, Lib.hid hCP3.out.symm, Lib.hid hIN3.out.symm, Lib.hid hFL3.out.symm, Lib.hid hFH3.out.symm, by omega, by omega, by omega, hB6, hEd⟩
      ·obtain rfl : k = xn := by omega
       have hge : ¬ (k : Int) < k := by omega
       have h1 := hmany.out; have h2 := htaken.out; have h3 := his.out; have h4 := hlo.out; have h5 := hhi.out
       subst h1 h4 h5
       have hifk := HIFF.out; have hfi := HFI.out; have hle := HLEQ.out
       rw [← h3] at hifk hfi
       rw [← h2] at hfi
       have qE := fun i => hEd.cell i; have lE := hEd.lt
       clear hmany htaken his hlo hhi h2 h3
       cases is
       ·have hlt : (RS : Int) < (AL : Int) := by
         have : AL ≠ RS := fun e => by have := hifk.1 e; cases this
         omega
        have hne : ((AL : Int) == (RS : Int)) = false := beq_false_of_ne (by omega)
        clear hifk hfi hle
        have hX6 := hX.below hB6 hX.lt; have hS6 := hS.below hB6 hS.lt; have hBr := hB.trans (hB6.mono hB.size)
        clear hX hS hB hB6
        have hX := hX6; have hS := hS6; have hB := hBr
        clear hX6 hS6 hBr
        have qX := fun i => hX.cell i; have qS := fun i => hS.cell i
        go_wp2_with fail
        refine (known_true m _ (hE.below hB)).mono ?_; rintro e wc ⟨rfl, hb⟩
        replace hB := hB.trans (hb.mono hB.size); clear hb
        go_wp2_with fail
        go_ret
        exact ⟨rfl, hB⟩
       ·have heq : AL = RS := hifk.2 rfl
        subst heq
        have hAA : ((AL : Int) == (AL : Int)) = true := by simp
        obtain ⟨g1, g2⟩ := hfi rfl
        have g3 : ((FL k : Nat) : Int) ≤ (taken : Int) := by omega
        have g4 : (taken : Int) ≤ ((FH k : Nat) : Int) := by omega
        clear hifk hfi hle g1 g2
        have hX6 := hX.below hB6 hX.lt; have hS6 := hS.below hB6 hS.lt; have hBr := hB.trans (hB6.mono hB.size)
        clear hX hS hB hB6
        have hX := hX6; have hS := hS6; have hB := hBr
        clear hX6 hS6 hBr
        have qX := fun i => hX.cell i; have qS := fun i => hS.cell i
        go_wp2_with fail
        refine (known_true m _ (hE.below hB)).mono ?_; rintro e wc ⟨rfl, hb⟩
        replace hB := hB.trans (hb.mono hB.size); clear hb
        go_wp2_with fail
        go_ret
        exact ⟨rfl, hB⟩
end
end Go.Proofs.YtekmnelpkogppaaGreatDoor
