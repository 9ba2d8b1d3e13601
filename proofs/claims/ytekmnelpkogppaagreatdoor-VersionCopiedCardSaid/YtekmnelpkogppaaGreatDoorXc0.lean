import Derived.Test.YtekmnelpkogppaaGreatDoorKx11
set_option linter.unusedVariables false
set_option linter.unusedSimpArgs false
set_option maxRecDepth 100000
set_option maxHeartbeats 40000000
namespace Go.Proofs.YtekmnelpkogppaaGreatDoor
section
open Go.RowKit Go.Lib
theorem argument_any (b : Bool) (w : World) : Calls Tryz.prog 80 #[.bool b] w fun e w' => e = .returned (.int .i64 (if b then 0 else 2)) ∧ w = w' := by
 cases b
 all_goals
  go_enter Tryz.func80, Tryz.ntmps80
  go_wp2
  go_ret
  exact ⟨rfl, rfl⟩
end
section
open Go.RowKit Go.Lib
theorem refCopy_any (W l : Int) (A : Option Addr) (n cap : Nat) (w : World) (hn : n ≤ 1000) :
  Calls Tryz.prog 54 #[.agg #[.int .i64 W, .slice A n cap], .int .i64 l] w fun e w' => e = .returned (.bool (inB l 0 (n - 1))) ∧ Below w.heap.size w w' := by
 go_enter Tryz.func54, Tryz.ntmps54
 go_wp2_with (go_at_call 85; refine (in_any _ _ _ _).mono ?_; rintro e w1 ⟨rfl, rfl⟩)
 go_ret
 exact ⟨rfl, (Below.refl _ w).alloc (Nat.le_refl _) _⟩
end
section
open Go.RowKit Go.Lib
theorem badSource_any (x W : Int) (A : Option Addr) (n cap g : Nat) (w : World) (hn : n ≤ 1000) (hb : Blk w g 24 #[.int .i64 W, .slice A n cap]) :
  Calls Tryz.prog 147 #[.int .i64 x, .pointer (some ⟨g, 0, none⟩)] w fun e w' => e = .returned (.bool (!(x == -1 || inB x 0 (n - 1)))) ∧ Below w.heap.size w w' := by
 have qX := fun i => hb.cell i
 have hh := hasCopy_any W x A n cap w hn
 have HH := Lib.hid hh; clear hh
 by_cases h : x = -1
 ·have h1 : (x != -1) = false := by rw [h]; rfl
  have h2 : (x == -1) = true := by rw [h]; rfl
  rw [h2]
  clear h h2
  go_enter Tryz.func147, Tryz.ntmps147
  go_wp2_with (fail)
  go_ret
  exact ⟨rfl, Below.refl _ _⟩
 ·have h1 : (x != -1) = true := by rw [bne_iff_ne]; exact h
  have h2 : (x == -1) = false := by rw [beq_eq_false_iff_ne]; exact h
  rw [h2]
  clear h h2
  go_enter Tryz.func147, Tryz.ntmps147
  go_wp2_with (go_at_call 99; refine HH.out.mono ?_; rintro e w1 ⟨rfl, hb1⟩)
  go_ret
  exact ⟨rfl, hb1⟩
def sourcesB (n : Nat) (t : List Int) : Bool := decide (t.length = n) && t.all fun x => x == -1 || inB x 0 (n - 1)
theorem goodSources_any (W : Int) (A : Option Addr) (n cap : Nat) (tA : Option Addr) (tn tc : Nat) (t : List Int) (w : World) (hn : n ≤ 1000) (htn : tn ≤ maxLen) (htr : Rd w w.heap.size 1 tA tn (t.map (Value.int .i64))) :
  Calls Tryz.prog 103 #[.agg #[.int .i64 W, .slice A n cap], .slice tA tn tc] w fun e w' => e = .returned (.bool (sourcesB n t)) ∧ Below w.heap.size w w' := by
 have hmf : ∀ (fn : Fn) (first cap : Array Value) (w : World), (Instr.makeFunc fn first cap).run Tryz.prog w = .ok (.func fn first cap) w := fun _ _ _ _ => rfl
 have hlen : t.length = tn := by simpa using htr.len
 have hB : Below w.heap.size w (w.alloc (.cells #[.int .i64 W, .slice A n cap] 24)) := (Below.refl _ w).alloc (Nat.le_refl _) _
 have hX := Blk.new w 24 #[.int .i64 W, .slice A n cap]
 have q0 := fun i => hX.cell i
 have hct := contains_int 147 (.pointer (some ⟨w.heap.size, 0, none⟩)) (fun x => !(x == -1 || inB x 0 (n - 1))) tA tn tc t _ htn (rdB htr hB) (fun _ _ => rfl) (Lib.hid fun x _ wy hy => badSource_any x W A n cap w.heap.size wy hn (hX.below hy hX.lt))
 have he : sourcesB n t = (decide (tn = n) && !(t.any fun x => !(x == -1 || inB x 0 (n - 1)))) := by unfold sourcesB; rw [hlen, List.all_eq_not_any_not]
 rw [he]
 generalize (t.any fun x => !(x == -1 || inB x 0 (n - 1))) = bad at *
 have HCT := Lib.hid hct; clear hct he hlen
 by_cases hh : tn = n
 ·have hb : ((tn : Int) == n) = true := by rw [beq_iff_eq]; omega
  rw [decide_eq_true hh]
  clear hh
  cases bad
  all_goals
   go_enter Tryz.func103, Tryz.ntmps103
   go_wp2_with (go_at_call 130; refine HCT.out.mono ?_; rintro e w2 ⟨rfl, hb2⟩; replace hB := hB.trans (hb2.mono hB.size); clear hb2)
   go_ret
   exact ⟨rfl, hB⟩
 ·have hb : ((tn : Int) == n) = false := by rw [beq_eq_false_iff_ne]; omega
  rw [decide_eq_false hh]
  clear hh
  go_enter Tryz.func103, Tryz.ntmps103
  go_wp2_with (fail)
  go_ret
  exact ⟨rfl, hB⟩
end
section
theorem ed_map {α β : Type} [DecidableEq α] [DecidableEq β] (f : α → β) : ∀ (a b : List α), (∀ x ∈ a, ∀ y ∈ b, f x = f y → x = y) → ed (a.map f) (b.map f) = ed a b
 | [], b, _ => by simp [ed_nil]
 | x :: xs, b, h => by
  have ih := fun b hb => ed_map f xs b hb
  induction b with
  | nil => simp [ed_nil_r]
  | cons y ys ihb =>
   rw [List.map_cons, List.map_cons, ed_cons, ed_cons, ← List.map_cons, ← List.map_cons]
   rw [ih ys (fun p hp q hq => h p (by simp [hp]) q (by simp [hq])), ih (y :: ys) (fun p hp q hq => h p (by simp [hp]) q hq), ihb (fun p hp q hq => h p hp q (by simp [hq]))]
   by_cases e : x = y
   ·rw [if_pos e, if_pos (by rw [e])]
   ·rw [if_neg e, if_neg (fun e2 => e (h x (by simp) y (by simp) e2))]
end
section
open Go.RowKit Go.Lib Go.Maps
theorem Total_yes {wn : Nat} {A : Option Addr} {n : Nat} (cap : Nat) {cs : List VC} {tA : Option Addr} {tn : Nat} (tc : Nat) {ts : List RI} (rA : Option Addr) (rn rc : Nat) (t : List Int) {w : World} (hb : BkG wn A n cs w w.heap.size) (h1 : bookB (wn : Int) cs = true) (ht : TxG cs tA tn ts w w.heap.size) (h2 : textB (wn : Int) (headN cs) ts = true)
  (hrn : rn ≤ maxLen) (hr : Rd w w.heap.size 1 rA rn (t.map (Value.int .i64))) (h3 : sourcesB n t = true) (hrn2 : rn = n) (htb : ∀ x ∈ t, -1 ≤ x ∧ x < n) :
  Calls Tryz.prog 58 #[.agg #[.int .i64 (wn : Int), .slice A n cap], .slice tA tn tc, .slice rA rn rc] w fun e w' => e = .returned (.tuple #[.int .i64 (if treeOK t then treeS (costV cs ts) t else 0), .int .i64 (if treeOK t then 0 else 2)]) ∧ Below w.heap.size w w' := by
 have hX := Blk.new w 24 #[.int .i64 (wn : Int), .slice A n cap]
 have hB : Below w.heap.size w (w.alloc (.cells #[.int .i64 (wn : Int), .slice A n cap] 24)) := (Below.refl _ w).alloc (Nat.le_refl _) _
 have qX := fun i => hX.cell i
 have hmm := @run_makeMap Tryz.prog
 have hgb := fun (wx : World) (hx : Below w.heap.size w wx) => goodBook_any (wn : Int) A n cap cs wx (by have := hb.2.1.2; unfold maxLen; omega) (rdB hb.2.2.2.1 hx) (fun c h => okB (hb.2.2.2.2.1 c h) hx)
 simp only [h1] at hgb
 have hgt := fun (wx : World) (hx : Below w.heap.size w wx) => goodText_any (wn : Int) A n cap cs tA tn tc ts wx (by have := hb.1.1; omega) (by have := hb.1.2; omega) hb.2.1.1 (rdB hb.2.2.2.1 hx) (fun c h => okB (hb.2.2.2.2.1 c h) hx) (by have h0 : ts.length = tn := (by simpa using ht.1.len); have h := ht.2.2.1; have := hb.2.2.1.2; unfold maxLen; omega) (rdB ht.1 hx) (fun r h => okB2 (ht.2.1 r h) hx)
 simp only [h2] at hgt
 have hgs := fun (wx : World) (hx : Below w.heap.size w wx) => goodSources_any (wn : Int) A n cap rA rn rc t wx (by have := hb.2.1.2; omega) hrn (rdB hr hx)
 simp only [h3] at hgs
 have hco := fun (wx : World) (mb : Nat) (hx : Below w.heap.size w wx) (hmb : w.heap.size ≤ mb) (hm : Memo wx mb 0) => costs_any cap (tc := tc) mb 0 (hb.below hx) (ht.below hx) hmb hm (by unfold maxLen; omega)
 have hCB := fun (p q : Int) (h1 : 0 ≤ p) (h2 : p < n) (h3 : -1 ≤ q) (h4 : q < n) => costV_bd hb ht (k := p) (f := q) ⟨h1, h2⟩ h3 h4
 have hn5 := hb.2.1
 subst hrn2
 obtain ⟨c, hc⟩ : ∃ c, c = (if treeOK t then treeS (costV cs ts) t else 0) := ⟨_, rfl⟩
 obtain ⟨ok, hok⟩ : ∃ ok, ok = treeOK t := ⟨_, rfl⟩
 rw [← hc, ← hok]
 have HC := Lib.hid hc; have HOK := Lib.hid hok
 clear hc hok
 have HGB := Lib.hid hgb; have HGT := Lib.hid hgt; have HGS := Lib.hid hgs; have HCO := Lib.hid hco; have HCB := Lib.hid hCB; have HR := Lib.hid hr; have HTB := Lib.hid htb
 clear hgb hgt hgs hco hCB h1 h2 h3 hb ht hr htb
 go_enter Tryz.func58, Tryz.ntmps58
 go_wp2_with fail
 refine (HGB.out _ hB).mono ?_; rintro e w1 ⟨rfl, hb⟩; replace hX := hX.below hb hX.lt; replace hB := hB.trans (hb.mono hB.size); clear hb qX; have qX := fun i => hX.cell i
 go_wp2_with fail
 refine (HGT.out _ hB).mono ?_; rintro e w2 ⟨rfl, hb⟩; replace hX := hX.below hb hX.lt; replace hB := hB.trans (hb.mono hB.size); clear hb qX; have qX := fun i => hX.cell i
 go_wp2_with fail
 refine (HGS.out _ hB).mono ?_; rintro e w3 ⟨rfl, hb⟩; replace hX := hX.below hb hX.lt; replace hB := hB.trans (hb.mono hB.size); clear hb qX; have qX := fun i => hX.cell i
 have hlX := hX.lt
 go_wp2_with fail
 have hB3 := hB.alloc hB.size (.map #[] 0)
 have hBs := hB.size
 refine (HCO.out _ w3.heap.size hB3 hBs (Memo.made w3)).mono ?_
 rintro e w4 ⟨cb, rfl, hcb, ⟨S, hCM, hin⟩, hg⟩
 have hB4 := below_gb hB3 hg hBs hB3.size
 have htt := total_any rA rn rc cb t (costV cs ts) S w.heap.size w4 (by omega) HTB.out (HR.out.below hB4) hB4.size hCM (fun p q h1 h2 h3 h4 => ⟨hin p q h1 h2 h3 h4, HCB.out p q h1 h2 h3 h4⟩)
 have HTT := Lib.hid htt
 clear htt hin hg hX qX hlX
 rw [← HC.out, ← HOK.out] at HTT
 go_wp2_with fail
 refine HTT.out.mono ?_
 rintro e w5 ⟨rfl, hb⟩
 have hB5 := hB4.trans (hb.mono hB4.size)
 clear hb
 go_wp2_with fail
 refine (argument_any ok w5).mono ?_
 rintro e w6 ⟨rfl, rfl⟩
 go_wp2_with fail
 ·refine bodyPost_ret (v := .tuple #[.int .i64 c, .int .i64 0]) (by simp [results, Tryz.results58, go_sem]) rfl ?_
  exact ⟨rfl, hB5⟩
 ·refine bodyPost_ret (v := .tuple #[.int .i64 c, .int .i64 2]) (by simp [results, Tryz.results58, go_sem]) rfl ?_
  exact ⟨rfl, hB5⟩
end
section
open Go.RowKit Go.Lib
theorem IA.toW {w w' : World} {A : Option Addr} {n cap : Nat} {l : List Int} (h : IA w A n cap l) (hb : Below w.heap.size w w') : IA w' A n cap l := ⟨h.1, h.2.1, rdB h.2.2 hb⟩
theorem IA.max {w : World} {A : Option Addr} {n cap : Nat} {l : List Int} (h : IA w A n cap l) : n ≤ maxLen := Nat.le_trans h.1 h.2.1
theorem IA.len {w : World} {A : Option Addr} {n cap : Nat} {l : List Int} (h : IA w A n cap l) : l.length = n := by simpa using h.2.2.len
theorem u8_inj {x y : Int} (hx : 0 ≤ x ∧ x ≤ 2) (hy : 0 ≤ y ∧ y ≤ 2) (e : UInt8.ofNat x.toNat = UInt8.ofNat y.toNat) : x = y := by
 have h := congrArg UInt8.toNat e
 simp only [UInt8.toNat_ofNat'] at h
 omega
theorem edB_int {a b : List Int} (ha : ∀ x ∈ a, 0 ≤ x ∧ x ≤ 2) (hb : ∀ x ∈ b, 0 ≤ x ∧ x ≤ 2) : edB (lbS a) (lbS b) = ed a b := by
 show ed (lbL a) (lbL b) = ed a b
 unfold lbL
 exact ed_map _ a b (fun x hx y hy e => u8_inj (ha x hx) (hb y hy) e)
theorem book_W {W : Int} {cs : List VC} (h : bookB W cs = true) : 1 ≤ W ∧ W ≤ 3 := by
 unfold bookB at h
 simp only [Bool.and_eq_true] at h
 simpa [inB] using h.1.1.1
section
variable {W : Int} {A : Option Addr} {n cap : Nat} {cs : List VC} {w : World} {A1 A2 : Option Addr} {n1 n2 c1 c2 : Nat} {l1 l2 : List Int}
theorem Changes_I (h : BkI w A n cap cs) (hk : bookB W cs = true) (h1 : IA w A1 n1 c1 l1) (h2 : IA w A2 n2 c2 l2) (k1 : lnB W l1 = true) (k2 : lnB W l2 = true) :
  Calls Tryz.prog 26 #[.agg #[.int .i64 W, .slice A n cap], .slice A1 n1 c1, .slice A2 n2 c2] w fun e w' => e = .returned (.tuple #[.int .i64 (ed l1 l2 : Nat), .int .i64 0]) ∧ Below w.heap.size w w' := by
 have h3 := Changes_yes W A n cap cs A1 n1 c1 l1 A2 n2 c2 l2 w h.max h.2.2.1 h.2.2.2 h1.max h1.2.2 h2.max h2.2.2 hk k1 k2
 rw [edB_int (ln_small (book_W hk) k1).2 (ln_small (book_W hk) k2).2] at h3
 exact h3
def RightB (W : Int) (cs : List VC) (e : Ending) : Prop := ∃ b : Bool, e = .returned (.bool b) ∧ (b = true → bookB W cs = true)
theorem right_any (h : BkI w A n cap cs) : Calls Tryz.prog 30 #[.agg #[.int .i64 W, .slice A n cap]] w fun e w' => RightB W cs e ∧ Below w.heap.size w w' := by
 have hX := Blk.new w 24 #[.int .i64 W, .slice A n cap]
 have hB : Below w.heap.size w (w.alloc (.cells #[.int .i64 W, .slice A n cap] 24)) := (Below.refl _ w).alloc (Nat.le_refl _) _
 have qX := fun i => hX.cell i
 go_enter Tryz.func30, Tryz.ntmps30
 go_wp2_with fail
 refine (short_any W A n cap cs _ (h.toW hB)).mono ?_; rintro e wc ⟨⟨b, rfl⟩, hb⟩
 replace hB := hB.trans (hb.mono hB.size); replace hX := hX.below hb hX.lt; clear hb qX; have qX := fun i => hX.cell i
 cases b with
 | false =>
  go_wp2_with fail
  go_ret
  exact ⟨⟨false, rfl, fun h => by cases h⟩, hB⟩
 | true =>
  have hbk := refBook_any W A n cap cs
  obtain ⟨R, hR⟩ : ∃ R, R = bookB W cs := ⟨_, rfl⟩
  rw [← hR] at hbk
  have HR := Lib.hid hR; clear hR
  go_wp2_with fail
  refine (hbk _ (h.toW hB)).mono ?_; rintro e wc ⟨rfl, hb⟩
  replace hB := hB.trans (hb.mono hB.size); clear hb qX
  go_wp2_with fail
  go_ret
  exact ⟨⟨R, rfl, fun h => by rw [← HR.out]; exact h⟩, hB⟩
end
end
section
open Go.RowKit Go.Lib
theorem lnB_len {W : Int} {l : List Int} (h : lnB W l = true) : l.length ≤ 4 := by
 unfold lnB at h
 simp only [Bool.and_eq_true, decide_eq_true_eq] at h
 exact h.1
end
section
open Go.RowKit Go.Lib
def befL : List Int → List Int → Bool
 | [], b => decide (0 < b.length)
 | _ :: _, [] => false
 | x :: xs, y :: ys => if x = y then befL xs ys else decide (x < y)
theorem befL_end : ∀ (a b : List Int) (_ : a = [] ∨ b = []), befL a b = decide (a.length < b.length)
 | [], b, _ => rfl
 | x :: xs, [], _ => by simp [befL]
 | x :: xs, y :: ys, h => by rcases h with h | h <;> cases h
theorem before_any (A : Option Addr) (n cap : Nat) (xs : List Int) (A2 : Option Addr) (n2 cap2 : Nat) (ys : List Int) (w : World) (h1 : IA w A n cap xs) (h2 : IA w A2 n2 cap2 ys) (hn : n ≤ 1000000) (hn2 : n2 ≤ 1000000) :
  Calls Tryz.prog 50 #[.slice A n cap, .slice A2 n2 cap2] w fun e w' => e = .returned (.bool (befL xs ys)) ∧ Below w.heap.size w w' := by
 have hl1 := h1.len; have hl2 := h2.len
 obtain ⟨R, hR⟩ : ∃ R, R = befL xs ys := ⟨_, rfl⟩
 rw [← hR]
 have H1 := Lib.hid h1; have H2 := Lib.hid h2; clear h1 h2
 go_enter Tryz.func50, Tryz.ntmps50
 go_wp2_with fail
 go_loopg [5] n (fun g i wr => ∃ k : Nat, g = n - k ∧ k ≤ n ∧ k ≤ n2 ∧ i = .int .i64 k ∧ Hid (R = befL (xs.drop k) (ys.drop k)) ∧ Below w.heap.size w wr)
 case atStart => exact ⟨0, rfl, Nat.zero_le _, Nat.zero_le _, rfl, Lib.hid hR, Below.refl _ _⟩
 case round =>
  clear hR
  obtain ⟨k, hg, hk, hk2, rfl, hpre, hB⟩ := hrel
  rename World => wr
  have HG := Lib.hid hg; clear hg
  by_cases hlt : k < n
  ·by_cases hlt2 : k < n2
   ·have hlti : (k : Int) < n := by omega
    have hlti2 : (k : Int) < n2 := by omega
    obtain ⟨b, off, hz, rfl, hb, hc1⟩ := (H1.out.toW hB).2.2.atm hlt
    obtain ⟨b2, off2, hz2, rfl, hb2, hc2⟩ := (H2.out.toW hB).2.2.atm hlt2
    have e1 : xs.drop k = xs[k] :: xs.drop (k + 1) := List.drop_eq_getElem_cons hz
    have e2 : ys.drop k = ys[k] :: ys.drop (k + 1) := List.drop_eq_getElem_cons hz2
    have hp := hpre.out
    rw [e1, e2, befL] at hp
    generalize xs[k] = x at *
    generalize ys[k] = y at *
    have HP := Lib.hid hp; clear hp e1 e2 hz hz2 hpre
    have hq1 := fun (p : Blw wr.heap.size wr) => ((Blw.h p).cell (p := ⟨b, off + k, none⟩) hb).trans hc1
    have hq2 := fun (p : Blw wr.heap.size wr) => ((Blw.h p).cell (p := ⟨b2, off2 + k, none⟩) hb2).trans hc2
    go_upto_region 4 with (fail)
    refine wp_region_blw (by kernel_rfl) (by kernel_rfl) ?_
    repeat (go_big_quiet_step (fail))
    refine wpQuiet_nil ?_
    rintro W3 ⟨⟨_, hb3⟩, rfl⟩
    clear hq1 hq2
    replace hc1 := (hb3.cell (p := ⟨b, off + k, none⟩) hb).trans hc1
    replace hc2 := (hb3.cell (p := ⟨b2, off2 + k, none⟩) hb2).trans hc2
    replace hb := Nat.lt_of_lt_of_le hb hb3.size
    replace hb2 := Nat.lt_of_lt_of_le hb2 hb3.size
    replace hB := hB.trans (hb3.mono hB.size)
    clear hb3
    by_cases hxy : x = y
    ·subst hxy
     have HP2 : Hid (R = befL (xs.drop (k + 1)) (ys.drop (k + 1))) := Lib.hid (by rw [HP.out, if_pos rfl])
     clear HP
     go_wp2_with fail
     go_roundg (n - (k + 1))
     case measure => rw [HG.out]; omega
     case rel => exact ⟨k + 1, rfl, by omega, by omega, by go_num, HP2, hB⟩
    ·have HP2 : Hid (R = decide (x < y)) := Lib.hid (by rw [HP.out, if_neg hxy])
     clear HP
     have hq1 := fun (p : Blw W3.heap.size W3) => ((Blw.h p).cell (p := ⟨b, off + k, none⟩) hb).trans hc1
     have hq2 := fun (p : Blw W3.heap.size W3) => ((Blw.h p).cell (p := ⟨b2, off2 + k, none⟩) hb2).trans hc2
     go_upto_region 5 with (fail)
     refine wp_region_blw (by kernel_rfl) (by kernel_rfl) ?_
     repeat (go_big_quiet_step (fail))
     refine wpQuiet_nil ?_
     rintro W4 ⟨⟨_, hb3⟩, rfl⟩
     go_wp2_with fail
     go_ret
     exact ⟨by rw [HP2.out]; rfl, hB.trans (hb3.mono hB.size)⟩
   ·have hge : ¬ (k : Int) < n2 := by omega
    have hlti : (k : Int) < n := by omega
    have hp := hpre.out
    rw [befL_end _ _ (.inr (List.drop_eq_nil_of_le (by omega))), List.length_drop, List.length_drop, hl1, hl2] at hp
    have hp2 : R = false := by rw [hp, decide_eq_false (by omega)]
    have hno : ¬ (n : Int) < n2 := by omega
    have HP := Lib.hid hp2; clear hp hp2 hpre
    go_wp2_with fail
    go_ret
    refine ⟨?_, hB⟩
    rw [HP.out]
    first | rfl | (show Ending.returned (.bool (decide ((n : Int) < n2))) = _; rw [decide_eq_false hno])
  ·have hge : ¬ (k : Int) < n := by omega
   have hp := hpre.out
   rw [befL_end _ _ (.inl (List.drop_eq_nil_of_le (by omega))), List.length_drop, List.length_drop, hl1, hl2] at hp
   have hp2 : R = decide (n < n2) := by rw [hp]; congr 1; apply propext; omega
   have HP := Lib.hid hp2; clear hp hp2 hpre
   go_wp2_with fail
   go_ret
   exact ⟨by rw [HP.out]; rfl, hB⟩
end
section
open Go.RowKit Go.Lib Go.Maps
theorem sumI_app (a : List Int) : ∀ (b : List Int), sumI (a ++ b) = sumI a + sumI b := by
 refine revInd ?_ ?_
 ·rw [List.append_nil]; show sumI a = sumI a + 0; omega
 ·intro l x ih
  rw [← List.append_assoc, sumI_snoc, sumI_snoc, ih]; omega
theorem book_small {wn : Nat} {cs : List VC} (h : bookB (wn : Int) cs = true) : ∀ c ∈ cs, ∀ v ∈ c.ls, ∀ x ∈ v.ws, 0 ≤ x ∧ x ≤ 2 := fun c hc v hv => by
 have hW := book_W h
 unfold bookB at h
 simp only [Bool.and_eq_true, List.all_eq_true] at h
 have h2 := (h.2 c hc).2 v hv
 unfold vlB at h2
 rw [Bool.and_eq_true] at h2
 exact (ln_small hW h2.1).2
end
section
open Go.RowKit Go.Lib
theorem book_lnB {W : Int} {cs : List VC} (h : bookB W cs = true) : ∀ c ∈ cs, ∀ v ∈ c.ls, lnB W v.ws = true := fun c hc v hv => by
 unfold bookB at h
 simp only [Bool.and_eq_true, List.all_eq_true] at h
 have h2 := (h.2 c hc).2 v hv
 unfold vlB at h2
 rw [Bool.and_eq_true] at h2
 exact h2.1
theorem befL_irr : ∀ (a b : List Int), a.length = b.length → befL a b = true → befL b a = false
 | [], [], _, h => by simp [befL] at h
 | [], _ :: _, h, _ => by simp at h
 | _ :: _, [], h, _ => by simp at h
 | x :: xs, y :: ys, hl, h => by
  rw [befL] at h ⊢
  by_cases e : x = y
  ·subst e; rw [if_pos rfl] at h ⊢; exact befL_irr xs ys (by simpa using hl) h
  ·rw [if_neg e] at h; rw [if_neg (fun h => e h.symm)]
   have := of_decide_eq_true h
   exact decide_eq_false (by omega)
theorem befL_self : ∀ a : List Int, befL a a = false
 | [] => rfl
 | x :: xs => by rw [befL, if_pos rfl]; exact befL_self xs
end
section
open Go.RowKit Go.Lib Go.Maps
theorem BkG.head0 {wn : Nat} {A : Option Addr} {n : Nat} {cs : List VC} {w : World} {B : Nat} (h : BkG wn A n cs w B) : ∃ b off a0 k0, A = some ⟨b, off, none⟩ ∧ b < B ∧ w.cell? ⟨b, off, none⟩ = some (.slice a0 (headN cs) k0) := by
 obtain ⟨b, off, hz, e, hb, hc⟩ := h.2.2.2.1.atm (show 0 < n by have := h.2.1; omega)
 refine ⟨b, off, cs[0].A, cs[0].cap, e, hb, ?_⟩
 rw [Nat.add_zero] at hc
 rw [hc, ← (h.2.2.2.2.2.1 _ (List.getElem_mem hz)).1]; rfl
end
section
open Go.RowKit Go.Lib Go.Maps
def tkF (v : VL) (l : List Int) : Nat := if v.lost then 0 else ed l v.ws
end
section
open Go.RowKit Go.Lib Go.Maps
def vlAt (cs : List VC) (p k : Nat) : VL := ((cs[p]?).bind fun c => c.ls[k]?).getD ⟨true, none, 0, 0, []⟩
theorem vlAt_ls {cs : List VC} {p k : Nat} {c : VC} (h : cs[p]? = some c) (hk : k < c.ls.length) : c.ls[k]? = some (vlAt cs p k) := by
 unfold vlAt
 rw [h, Option.bind_some, List.getElem?_eq_getElem hk]; rfl
theorem BkG.rows {wn : Nat} {A : Option Addr} {n : Nat} {cs : List VC} {w : World} {B : Nat} (h : BkG wn A n cs w B) : ∃ b off, A = some ⟨b, off, none⟩ ∧ b < B ∧ ∀ p, p < n → ∃ b2 off2 cc, w.cell? ⟨b, off + p, none⟩ = some (.slice (some ⟨b2, off2, none⟩) (headN cs) cc) ∧ b2 < B ∧
  ∀ k, k < headN cs → w.cell? ⟨b2, off2 + k * 2, none⟩ = some (.bool (vlAt cs p k).lost) ∧ w.cell? ⟨b2, off2 + k * 2 + 1, none⟩ = some (.slice (vlAt cs p k).A (vlAt cs p k).n (vlAt cs p k).cap) ∧ (vlAt cs p k).ok w B ∧ (vlAt cs p k).n ≤ 4 ∧ (vlAt cs p k).ws.length ≤ 4 := by
 obtain ⟨b, off, hz, e, hb, hc⟩ := h.2.2.2.1.atm (show 0 < n by have := h.2.1; omega)
 refine ⟨b, off, e, hb, fun p hp => ?_⟩
 obtain ⟨b', off', hz', e', _, hc'⟩ := h.2.2.2.1.atm hp
 rw [e] at e'
 cases e'
 have hin := List.getElem_mem hz'
 have hco := h.2.2.2.2.1 _ hin
 have hcn := h.2.2.2.2.2.1 _ hin
 have hcv := h.2.2.2.2.2.2 _ hin
 have hp2 : cs[p]? = some cs[p] := List.getElem?_eq_getElem hz'
 have hL := h.2.2.1.1
 have h0 := hco.2.2.2.at2 (show 0 < cs[p].n by omega)
 obtain ⟨b2, off2, _, e2, hb2, _, _⟩ := h0
 refine ⟨b2, off2, cs[p].cap, by rw [hc', ← hcn.1, ← e2]; rfl, hb2, fun k hk => ?_⟩
 obtain ⟨b3, off3, hz3, e3, _, hv0, hv1⟩ := hco.2.2.2.at2 (show k < cs[p].n by omega)
 rw [e2] at e3
 cases e3
 have hl := vlAt_ls hp2 hz3
 rw [List.getElem?_eq_getElem hz3] at hl
 have hl2 := Option.some.inj hl
 rw [← hl2]
 have hv := hcv _ (List.getElem_mem hz3)
 exact ⟨hv0, hv1, hco.2.2.1 _ (List.getElem_mem hz3), hv.1, hv.2.1⟩
end
section
open Go.RowKit Go.Lib Go.Maps
theorem vlAt_lnB {W : Int} {cs : List VC} (h : bookB W cs = true) {p k : Nat} (hp : p < cs.length) (hk : k < headN cs) : lnB W (vlAt cs p k).ws = true := by
 have hin := List.getElem_mem hp
 have hl : (cs[p]).ls.length = headN cs := by
  unfold bookB at h
  simp only [Bool.and_eq_true, List.all_eq_true, beq_iff_eq] at h
  exact (h.2 _ hin).1
 have e := vlAt_ls (List.getElem?_eq_getElem hp) (show k < (cs[p]).ls.length by omega)
 exact book_lnB h _ hin _ (List.mem_of_getElem? e)
end
section
open Go.RowKit Go.Lib Go.Maps
def TXI (w : World) (A : Option Addr) (n cap : Nat) (rs : List RI) : Prop := n ≤ cap ∧ cap ≤ maxLen ∧ Rd w w.heap.size 1 A n (rs.map RI.val) ∧ ∀ r ∈ rs, r.ok w w.heap.size
theorem TXI.toW {w w' : World} {A : Option Addr} {n cap : Nat} {rs : List RI} (h : TXI w A n cap rs) (hb : Below w.heap.size w w') : TXI w' A n cap rs := ⟨h.1, h.2.1, rdB h.2.2.1 hb, fun r hr => okB2 (h.2.2.2 r hr) hb⟩
theorem TXI.max {w : World} {A : Option Addr} {n cap : Nat} {rs : List RI} (h : TXI w A n cap rs) : n ≤ maxLen := Nat.le_trans h.1 h.2.1
theorem TXI.len {w : World} {A : Option Addr} {n cap : Nat} {rs : List RI} (h : TXI w A n cap rs) : rs.length = n := by simpa using h.2.2.1.len
open Go.ChangeShapes Go.WideShapes Go.ChangeAt Go.Deep in
theorem law_texts {H : Type} {enc : TypeId × Value → H} {w : World} {base : Nat} {spare : Nat → Bool} {held : Bool} {r : Reach} {b0 : Nat} {v : Value} {d : DataW H} {p : List MemPlace} (hv : Value.okWide Tryz.prog w r b0 46 v) (h : DataW.Trod enc Tryz.prog w base spare held 46 v d p) : ∃ (A : Option Addr) (n cap : Nat) (rs : List RI), v = .slice A n cap ∧ TXI w A n cap rs := by
 obtain ⟨a0, n0, c0, rfl⟩ := okWide_slice Tryz.underlying46 hv
 obtain ⟨fuel, h⟩ := h
 have h : DataW.trod enc Tryz.prog w base spare held fuel 46 [.slice a0 n0 c0] = some (d, p) := by simpa [Value.cells] using h
 rcases open_slice1 Tryz.underlying46 (by kernel_rfl) h with ⟨hc, _⟩ | ⟨a, len, cap, m, n, V, D, Pl, hc, _, hl, hm, hmm, _, hx⟩
 ·obtain ⟨rfl, rfl, rfl⟩ : a0 = none ∧ n0 = 0 ∧ c0 = 0 := by simpa using hc
  exact ⟨none, 0, 0, [], rfl, Nat.le_refl _, Nat.zero_le _, Rd.nil .., fun r hr => (by cases hr)⟩
 ·have hc2 : a0 = some a ∧ n0 = len ∧ c0 = cap := by simpa using hc
  obtain ⟨rfl, rfl, rfl⟩ := hc2
  rename Addr => a
  have hlm : n0 ≤ m := by rw [hmm]; split <;> omega
  have each : ∀ i, ∃ f : RI, i < n0 → w.cell? (a.add i) = some f.val ∧ f.ok w w.heap.size := by
   intro i
   by_cases hi : i < n0
   ·obtain ⟨h1, h2⟩ := hx i (by omega)
    obtain ⟨A, n, cap, l, e, ho⟩ := law_intsF h2
    exact ⟨⟨A, n, cap, l⟩, fun _ => ⟨by rw [h1, e]; rfl, ho⟩⟩
   ·exact ⟨⟨none, 0, 0, []⟩, fun h => absurd h hi⟩
  obtain ⟨g, hg⟩ : ∃ g : Nat → RI, ∀ i, i < n0 → w.cell? (a.add i) = some (g i).val ∧ (g i).ok w w.heap.size :=
   ⟨fun i => Classical.choose (each i), fun i => Classical.choose_spec (each i)⟩
  refine ⟨some a, n0, c0, (List.range n0).map g, rfl, hl, hm, ⟨by simp, fun h0 => ?_⟩, fun f hf => ?_⟩
  ·have g0 := (hg 0 h0).1
   obtain ⟨b, off, spot⟩ := a
   have hspot : spot = none := by simpa [Addr.add] using World.cell?_spot g0
   subst hspot
   refine ⟨b, off, rfl, block_lt_of_cell g0, fun i u hu => ?_⟩
   rw [List.getElem?_map, List.getElem?_map] at hu
   by_cases hi : i < n0
   ·rw [List.getElem?_range hi] at hu
    have hu' : (g i).val = u := by simpa using hu
    rw [← hu']
    have hci := (hg i hi).1
    rcases i with _ | i <;> simpa [Addr.add] using hci
   ·rw [List.getElem?_eq_none (by simpa using hi)] at hu
    cases hu
  ·obtain ⟨i, hi, rfl⟩ := List.mem_map.1 hf
   exact (hg i (List.mem_range.1 hi)).2
def BriefB (n : Nat) (rs : List RI) (e : Ending) : Prop := ∃ b : Bool, e = .returned (.bool b) ∧ (b = true → n ≤ 6 ∧ ∀ r ∈ rs, r.n ≤ 6)
theorem brief_any (A : Option Addr) (n cap : Nat) (rs : List RI) (w : World) (h : TXI w A n cap rs) : Calls Tryz.prog 56 #[.slice A n cap] w fun e w' => BriefB n rs e ∧ Below w.heap.size w w' := by
 have hl := h.len
 have hm := h.max
 unfold maxLen at hm
 have HL := Lib.hid hl; have H := Lib.hid h; clear hl h
 go_enter Tryz.func56, Tryz.ntmps56
 go_wp2_with fail
 go_loopg [3] n (fun g i wr => ∃ k : Nat, g = n - k ∧ k ≤ n ∧ k ≤ 6 ∧ i = .int .i64 k ∧ Hid (∀ r ∈ rs.take k, r.n ≤ 6) ∧ wr = w)
 case atStart => exact ⟨0, rfl, Nat.zero_le _, Nat.zero_le _, rfl, Lib.hid (fun r h => by cases h), rfl⟩
 case round =>
  obtain ⟨k, hg, hk, hk6, rfl, hpre, rfl⟩ := hrel
  rename World => w
  have HG := Lib.hid hg; clear hg
  by_cases hlt : k < n
  ·have hlti : (k : Int) < n := by omega
   by_cases h6 : k < 6
   ·have h6i : (k : Int) < 6 := by omega
    obtain ⟨b, off, hz, rfl, hbw, hcell⟩ := H.out.2.2.1.atm hlt
    have hok := H.out.2.2.2 _ (List.getElem_mem hz)
    have htk : rs.take (k + 1) = rs.take k ++ [rs[k]] := List.take_succ_eq_append_getElem hz
    generalize rs[k] = r at *
    obtain ⟨rA, rn, rc, l⟩ := r
    simp only [RI.val] at hcell
    have hrm : rn ≤ maxLen := Nat.le_trans hok.1 hok.2.1
    unfold maxLen at hrm
    have HTK := Lib.hid htk; clear htk hok hz
    by_cases hr6 : (6 : Int) < rn
    ·go_wp2_with fail
     go_ret
     exact ⟨⟨false, rfl, fun h => by cases h⟩, Below.refl _ _⟩
    ·have hp2 : Hid (∀ r ∈ rs.take (k + 1), r.n ≤ 6) := Lib.hid (fun r hr => by
       rw [HTK.out] at hr
       rcases List.mem_append.1 hr with hr | hr
       · exact hpre.out r hr
       · rw [List.mem_singleton.1 hr]; show rn ≤ 6; omega)
     go_wp2_with fail
     go_roundg (n - (k + 1))
     case measure => rw [HG.out]; omega
     case rel => exact ⟨k + 1, rfl, by omega, by omega, by go_num, hp2, rfl⟩
   ·have h6i : ¬ (k : Int) < 6 := by omega
    have hn6 : ¬ (n : Int) ≤ 6 := by omega
    go_wp2_with fail
    go_ret
    refine ⟨⟨false, rfl, fun h => by cases h⟩, Below.refl _ _⟩
  ·obtain rfl : k = n := by omega
   have hge : ¬ (k : Int) < k := by omega
   have hn6 : (k : Int) ≤ 6 := by omega
   have htk : rs.take k = rs := List.take_of_length_le (by rw [HL.out]; exact Nat.le_refl _)
   have hp2 := hpre.out
   rw [htk] at hp2
   have HP := Lib.hid hp2; clear hp2 htk hpre
   go_wp2_with fail
   go_ret
   refine ⟨⟨true, rfl, fun _ => ⟨hk6, HP.out⟩⟩, Below.refl _ _⟩
theorem refText_any {wn : Nat} {A : Option Addr} {n : Nat} (cap : Nat) {cs : List VC} (tA : Option Addr) (tn tc : Nat) (ts : List RI) {w : World} (h : BkG wn A n cs w w.heap.size) (ht : TXI w tA tn tc ts) :
  Calls Tryz.prog 57 #[.agg #[.int .i64 (wn : Int), .slice A n cap], .slice tA tn tc] w fun e w' => e = .returned (.bool (textB (wn : Int) (headN cs) ts)) ∧ Below w.heap.size w w' := by
 have hl := ht.len
 have hm := ht.max
 unfold maxLen at hm
 have hn5 := h.2.1
 have hrl := fun (wx : World) (A1 : Option Addr) (n1 c1 : Nat) (l1 : List Int) (h1 : IA wx A1 n1 c1 l1) => refLine_any (wn : Int) A n cap A1 n1 c1 l1 wx (by have := h.1.1; omega) (by have := h.1.2; omega) h1.max h1.2.2
 obtain ⟨bb, off, a0, k0, rfl, hbw, hcell⟩ := h.head0
 obtain ⟨R, hR⟩ : ∃ R, R = textB (wn : Int) (headN cs) ts := ⟨_, rfl⟩
 rw [← hR]
 obtain ⟨L, hL⟩ : ∃ L, L = headN cs := ⟨_, rfl⟩
 rw [← hL] at hR hcell
 have hL4 : L ≤ 4 := by have := h.2.2.1; omega
 have hX := Blk.new w 24 #[.int .i64 (wn : Int), .slice (some ⟨bb, off, none⟩) n cap]
 have hB : Below w.heap.size w (w.alloc (.cells #[.int .i64 (wn : Int), .slice (some ⟨bb, off, none⟩) n cap] 24)) := (Below.refl _ w).alloc (Nat.le_refl _) _
 have hn0 : (0 : Int) < n := by omega
 have hR2 : R = (decide ((tn : Int) = L) && ts.all fun r => lnB (wn : Int) r.ws) := by rw [hR, ← hl]; rfl
 have HR := Lib.hid hR2; have HRL := Lib.hid hrl; have HL := Lib.hid hl; have HT := Lib.hid ht; clear hR hR2 hrl hl ht h hL
 have qX := fun i => hX.cell i
 go_enter Tryz.func57, Tryz.ntmps57
 go_wp2_with fail
 clear qX
 generalize w.alloc (.cells #[.int .i64 (wn : Int), .slice (some ⟨bb, off, none⟩) n cap] 24) = W0 at *
 go_loopg [5] tn (fun g i wr => ∃ k : Nat, g = tn - k ∧ k ≤ tn ∧ i = .int .i64 k ∧ Hid ((ts.take k).all (fun r => lnB (wn : Int) r.ws) = true) ∧ Below w.heap.size w wr ∧ Blk wr w.heap.size 24 #[.int .i64 (wn : Int), .slice (some ⟨bb, off, none⟩) n cap])
 case atStart => exact ⟨0, rfl, Nat.zero_le _, rfl, Lib.hid rfl, hB, hX⟩
 case round =>
  clear hX hB
  obtain ⟨k, hg, hk, rfl, hpre, hB, hX⟩ := hrel
  rename World => wr
  have HG := Lib.hid hg; clear hg
  have qX := fun i => hX.cell i
  have hc0 := (hB.cell (p := ⟨bb, off, none⟩) hbw).trans hcell
  by_cases hlt : k < tn
  ·have hlti : (k : Int) < tn := by omega
   obtain ⟨b2, off2, hz, rfl, hb2, hc2⟩ := HT.out.2.2.1.atm hlt
   have hok := HT.out.2.2.2 _ (List.getElem_mem hz)
   have htk : (ts.take (k + 1)).all (fun r => lnB (wn : Int) r.ws) = (lnB (wn : Int) ts[k].ws) := by rw [List.take_succ_eq_append_getElem hz, List.all_append, hpre.out]; simp
   have hbad : lnB (wn : Int) ts[k].ws = false → R = false := fun h => by
    rw [HR.out]
    have : ts.all (fun r => lnB (wn : Int) r.ws) = false := by rw [List.all_eq_false]; exact ⟨_, List.getElem_mem hz, by rw [h]; decide⟩
    rw [this, Bool.and_false]
   generalize ts[k] = r at *
   obtain ⟨rA, rn, rc, l⟩ := r
   simp only [RI.val] at hc2
   have hc2r := (hB.cell (p := ⟨b2, off2 + k, none⟩) hb2).trans hc2
   have hln := fun (z : Blw wr.heap.size wr) => HRL.out z.toW rA rn rc l ⟨hok.1, hok.2.1, rdB hok.2.2 (hB.trans (z.h.mono hB.size))⟩
   have hq1 := fun (z : Blw wr.heap.size wr) => ((Blw.h z).cell (p := ⟨b2, off2 + k, none⟩) (Nat.lt_of_lt_of_le hb2 hB.size)).trans hc2r
   have hq2 := fun (z : Blw wr.heap.size wr) j => blw_blk hX z j
   have hlX := hX.lt
   have HTK := Lib.hid htk; have HBAD := Lib.hid hbad; clear htk hbad hok hz hpre hc2r
   dsimp only at HTK HBAD
   cases hlb : lnB (wn : Int) l with
   | false =>
    rw [hlb] at hln
    have HLN := Lib.hid hln; have hRf : Hid (R = false) := Lib.hid (HBAD.out hlb); clear hln hlb
    go_upto_region 4 with (fail)
    refine wp_region_blw (by kernel_rfl) (by kernel_rfl) ?_
    repeat (go_big_quiet_step (fail))
    go_big_quiet_step ((go_at_call 28; exact Calls.blw_of _ (HLN.out _)))
    repeat (go_big_quiet_step (fail))
    refine wpQuiet_nil ?_
    rintro W3 ⟨⟨_, hb3⟩, rfl⟩
    clear hq1 hq2 hlX qX
    go_wp2_with fail
    go_ret
    exact ⟨by rw [hRf.out]; rfl, hB.trans (hb3.mono hB.size)⟩
   | true =>
    rw [hlb] at hln HTK
    have HLN := Lib.hid hln; clear hln hlb
    go_upto_region 4 with (fail)
    refine wp_region_blw (by kernel_rfl) (by kernel_rfl) ?_
    repeat (go_big_quiet_step (fail))
    go_big_quiet_step ((go_at_call 28; exact Calls.blw_of _ (HLN.out _)))
    repeat (go_big_quiet_step (fail))
    refine wpQuiet_nil ?_
    rintro W3 ⟨⟨_, hb3⟩, rfl⟩
    clear hq1 hq2 hlX qX
    go_wp2_with fail
    go_roundg (tn - (k + 1))
    case measure => rw [HG.out]; omega
    case rel => exact ⟨k + 1, rfl, by omega, by go_num, HTK, hB.trans (hb3.mono hB.size), hX.below hb3 hX.lt⟩
  ·obtain rfl : k = tn := by omega
   have hge : ¬ (k : Int) < k := by omega
   have hall : R = decide ((k : Int) = L) := by
    have h9 := hpre.out
    rw [List.take_of_length_le (by rw [HL.out]; exact Nat.le_refl _)] at h9
    rw [HR.out, h9, Bool.and_true]
   have HA := Lib.hid hall; clear hall hpre
   by_cases hkl : (k : Int) = L
   ·have hb1 : ((k : Int) == (L : Int)) = true := by simp [hkl]
    go_wp2_with fail
    go_ret
    refine ⟨?_, hB⟩
    rw [HA.out, decide_eq_true hkl]
    first | rfl | simp [hkl]
   ·have hb1 : ((k : Int) == (L : Int)) = false := beq_false_of_ne hkl
    go_wp2_with fail
    go_ret
    refine ⟨?_, hB⟩
    rw [HA.out, decide_eq_false hkl]
    first | rfl | simp [hb1]
end
section
open Go.RowKit Go.Lib Go.Maps
def refTreeB (n : Nat) (t : List Int) : Bool := sourcesB n t && treeOK t
theorem refTree_any {wn : Nat} {A : Option Addr} {n : Nat} (cap : Nat) (A1 : Option Addr) (n1 c1 : Nat) (t : List Int) {w : World} (hn5 : 1 ≤ n ∧ n ≤ 5) (h1 : IA w A1 n1 c1 t) :
  Calls Tryz.prog 66 #[.agg #[.int .i64 (wn : Int), .slice A n cap], .slice A1 n1 c1] w fun e w' => e = .returned (.bool (refTreeB n t)) ∧ Below w.heap.size w w' := by
 have hl := h1.len
 have hX := Blk.new w 24 #[.int .i64 (wn : Int), .slice A n cap]
 have hB : Below w.heap.size w (w.alloc (.cells #[.int .i64 (wn : Int), .slice A n cap] 24)) := (Below.refl _ w).alloc (Nat.le_refl _) _
 obtain ⟨R, hR⟩ : ∃ R, R = refTreeB n t := ⟨_, rfl⟩
 rw [← hR]
 unfold refTreeB sourcesB at hR
 by_cases hnn : n1 = n
 ·subst hnn
  rw [hl, decide_eq_true rfl, Bool.true_and] at hR
  have hR0 : Hid (R = ((t.all fun x => x == -1 || inB x 0 ((n1 : Int) - 1)) && treeOK t)) := Lib.hid hR
  have HL := Lib.hid hl; have H1 := Lib.hid h1; clear hR hl h1
  have hne : ((n1 : Int) != (n1 : Int)) = false := by simp
  have qX := fun i => hX.cell i
  go_enter Tryz.func66, Tryz.ntmps66
  go_wp2_with fail
  clear qX
  generalize w.alloc (.cells #[.int .i64 (wn : Int), .slice A n1 cap] 24) = W0 at *
  go_loopg [5] n1 (fun g i wr => ∃ k : Nat, g = n1 - k ∧ k ≤ n1 ∧ i = .int .i64 k ∧ Hid ((t.take k).all (fun x => x == -1 || inB x 0 ((n1 : Int) - 1)) = true) ∧ Below w.heap.size w wr ∧ Blk wr w.heap.size 24 #[.int .i64 (wn : Int), .slice A n1 cap])
  case atStart => exact ⟨0, rfl, Nat.zero_le _, rfl, Lib.hid rfl, hB, hX⟩
  case round =>
   clear hX hB
   obtain ⟨k, hg, hk, rfl, hpre, hB, hX⟩ := hrel
   rename World => wr
   have HG := Lib.hid hg; clear hg
   have qX := fun i => hX.cell i
   by_cases hlt : k < n1
   ·have hlti : (k : Int) < n1 := by omega
    obtain ⟨b2, off2, hz, rfl, hb2, hc2⟩ := H1.out.2.2.atm hlt
    have htk : (t.take (k + 1)).all (fun x => x == -1 || inB x 0 ((n1 : Int) - 1)) = (t[k] == -1 || inB t[k] 0 ((n1 : Int) - 1)) := by rw [List.take_succ_eq_append_getElem hz, List.all_append, hpre.out]; simp
    have hbad : (t[k] == -1 || inB t[k] 0 ((n1 : Int) - 1)) = false → R = false := fun h => by
     rw [hR0.out]
     have : t.all (fun x => x == -1 || inB x 0 ((n1 : Int) - 1)) = false := by rw [List.all_eq_false]; exact ⟨_, List.getElem_mem hz, by rw [h]; decide⟩
     rw [this, Bool.false_and]
    generalize t[k] = x at *
    have hc2r := (hB.cell (p := ⟨b2, off2 + k, none⟩) hb2).trans hc2
    have hcy := fun (z : Blw wr.heap.size wr) => refCopy_any (wn : Int) x A n1 cap z.toW (by omega)
    have hq1 := fun (z : Blw wr.heap.size wr) => ((Blw.h z).cell (p := ⟨b2, off2 + k, none⟩) (Nat.lt_of_lt_of_le hb2 hB.size)).trans hc2r
    have hq2 := fun (z : Blw wr.heap.size wr) j => blw_blk hX z j
    have hlX := hX.lt
    have HTK := Lib.hid htk; have HBAD := Lib.hid hbad; clear htk hbad hz hpre hc2r hc2
    by_cases hx1 : x = -1
    ·subst hx1
     have hx2 : ((-1 : Int) != -1) = false := by decide
     clear hcy
     go_upto_region 6 with (fail)
     refine wp_region_blw (by kernel_rfl) (by kernel_rfl) ?_
     repeat (go_big_quiet_step (fail))
     refine wpQuiet_nil ?_
     rintro W3 ⟨⟨_, hb3⟩, rfl⟩
     clear hq1 hq2 hlX qX
     go_wp2_with fail
     go_roundg (n1 - (k + 1))
     case measure => rw [HG.out]; omega
     case rel => exact ⟨k + 1, rfl, by omega, by go_num, Lib.hid (by rw [HTK.out]; rfl), hB.trans (hb3.mono hB.size), hX.below hb3 hX.lt⟩
    ·have hx2 : (x != -1) = true := by simp [hx1]
     have hx3 : (x == -1) = false := by simp [hx1]
     have HX3 := Lib.hid hx3; clear hx3
     cases hin : inB x 0 ((n1 : Int) - 1) with
     | false =>
      rw [hin] at hcy
      have HCY := Lib.hid hcy
      have hRf : Hid (R = false) := Lib.hid (HBAD.out (by rw [HX3.out, hin]; rfl))
      clear hcy hin
      go_upto_region 6 with (fail)
      refine wp_region_blw (by kernel_rfl) (by kernel_rfl) ?_
      repeat (go_big_quiet_step (fail))
      go_big_quiet_step ((go_at_call 54; exact Calls.blw_of _ (HCY.out _)))
      repeat (go_big_quiet_step (fail))
      refine wpQuiet_nil ?_
      rintro W3 ⟨⟨_, hb3⟩, rfl⟩
      clear hq1 hq2 hlX qX
      go_wp2_with fail
      go_ret
      exact ⟨by rw [hRf.out]; rfl, hB.trans (hb3.mono hB.size)⟩
     | true =>
      rw [hin] at hcy
      have hTK2 : Hid ((t.take (k + 1)).all (fun x => x == -1 || inB x 0 ((n1 : Int) - 1)) = true) := Lib.hid (by rw [HTK.out, hin]; simp)
      have HCY := Lib.hid hcy; clear hcy hin
      go_upto_region 6 with (fail)
      refine wp_region_blw (by kernel_rfl) (by kernel_rfl) ?_
      repeat (go_big_quiet_step (fail))
      go_big_quiet_step ((go_at_call 54; exact Calls.blw_of _ (HCY.out _)))
      repeat (go_big_quiet_step (fail))
      refine wpQuiet_nil ?_
      rintro W3 ⟨⟨_, hb3⟩, rfl⟩
      clear hq1 hq2 hlX qX
      go_wp2_with fail
      go_roundg (n1 - (k + 1))
      case measure => rw [HG.out]; omega
      case rel => exact ⟨k + 1, rfl, by omega, by go_num, hTK2, hB.trans (hb3.mono hB.size), hX.below hb3 hX.lt⟩
   ·have hkn : k = n1 := by omega
    have hge : ¬ (k : Int) < n1 := by omega
    have hall := hpre.out
    rw [List.take_of_length_le (by rw [HL.out]; omega)] at hall
    have hR1 : Hid (R = treeOK t) := Lib.hid (by rw [hR0.out, hall, Bool.true_and])
    have hbd : Hid (∀ x ∈ t, -1 ≤ x ∧ x < (n1 : Int)) := Lib.hid fun x hx => by
     have h9 := List.all_eq_true.1 hall x hx
     simp only [Bool.or_eq_true, beq_iff_eq, inB, Bool.and_eq_true, decide_eq_true_eq] at h9
     omega
    clear hall hpre hR0 hkn
    go_wp2_with fail
    go_loopg [6] n1 (fun g i wx => ∃ k : Nat, g = n1 - k ∧ k ≤ n1 ∧ i = .int .i64 k ∧ Hid (((List.range n1).take k).all (fun j : Nat => folF t n1 (j : Int)) = true) ∧ wx = wr)
    case atStart => exact ⟨0, rfl, Nat.zero_le _, rfl, Lib.hid rfl, rfl⟩
    case round =>
     obtain ⟨i, hg, hi, rfl, hpre, rfl⟩ := hrel
     rename World => wr
     have HG2 := Lib.hid hg; clear hg
     by_cases hit : i < n1
     ·have hiti : (i : Int) < n1 := by omega
      have htk : ((List.range n1).take (i + 1)).all (fun j : Nat => folF t n1 (j : Int)) = folF t n1 (i : Int) := by
       rw [List.take_succ_eq_append_getElem (by simpa using hit), List.all_append, hpre.out]; simp
      have hbad : folF t n1 (i : Int) = false → R = false := fun h => by
       rw [hR1.out]
       unfold treeOK
       rw [List.all_eq_false]
       exact ⟨i, by rw [HL.out]; exact List.mem_range.2 hit, by rw [HL.out, h]; decide⟩
      obtain ⟨r, hr⟩ : ∃ r, r = folF t n1 (i : Int) := ⟨_, rfl⟩
      rw [← hr] at htk hbad
      have HTK := Lib.hid htk; have HBAD := Lib.hid hbad; have HR := Lib.hid hr; clear htk hbad hr hpre
      go_wp2_with fail
      go_loopg [7, 8] n1 (fun g a s wx => ∃ (s2 : Nat) (y : Int), g = n1 - s2 ∧ s2 ≤ n1 ∧ a = .int .i64 y ∧ s = .int .i64 s2 ∧ -1 ≤ y ∧ y < n1 ∧ Hid (r = if y < 0 then true else folF t (n1 - s2) y) ∧ wx = wr)
      case atStart => exact ⟨0, (i : Int), rfl, Nat.zero_le _, rfl, rfl, by omega, by omega, Lib.hid (by rw [if_neg (by omega), HR.out]; rfl), rfl⟩
      case round =>
       obtain ⟨s2, y, hg, hs2, rfl, rfl, hy0, hy1, hfo, rfl⟩ := hrel
       rename World => wr
       have HG3 := Lib.hid hg; clear hg
       by_cases hneg : y < 0
       ·have hyg : ¬ (0 : Int) ≤ y := by omega
        have hrt : Hid (r = true) := Lib.hid (by rw [hfo.out, if_pos hneg])
        have hTK2 : Hid (((List.range n1).take (i + 1)).all (fun j : Nat => folF t n1 (j : Int)) = true) := Lib.hid (by rw [HTK.out, hrt.out])
        clear hfo
        by_cases hst : s2 < n1
        ·have hsti : (s2 : Int) < n1 := by omega
         go_wp2_with fail
         go_roundg (n1 - (i + 1))
         case measure => rw [HG2.out]; omega
         case rel => exact ⟨i + 1, rfl, by omega, by go_num, hTK2, rfl⟩
        ·have hsti : ¬ (s2 : Int) < n1 := by omega
         go_wp2_with fail
         go_roundg (n1 - (i + 1))
         case measure => rw [HG2.out]; omega
         case rel => exact ⟨i + 1, rfl, by omega, by go_num, hTK2, rfl⟩
       ·obtain ⟨m, rfl⟩ : ∃ m : Nat, y = (m : Int) := ⟨y.toNat, by omega⟩
        have hyg : (0 : Int) ≤ (m : Int) := by omega
        have hmn : m < n1 := by omega
        have hfo2 := hfo.out
        rw [if_neg hneg] at hfo2
        by_cases hst : s2 < n1
        ·have hsti : (s2 : Int) < n1 := by omega
         obtain ⟨b3, off3, hz3, rfl, hb3, hc3⟩ := H1.out.2.2.atm hmn
         have hx := hbd.out _ (List.getElem_mem hz3)
         rw [show n1 - s2 = (n1 - (s2 + 1)) + 1 by omega, folF, Int.toNat_natCast, List.getD_eq_getElem?_getD, List.getElem?_eq_getElem hz3, Option.getD_some] at hfo2
         have hc3r := (hB.cell (p := ⟨b3, off3 + m, none⟩) hb3).trans hc3
         generalize t[m] = x at *
         have hfo3 : Hid (r = if x < 0 then true else folF t (n1 - (s2 + 1)) x) := Lib.hid (by
           rw [hfo2]
           by_cases e : x = -1
           · rw [if_pos e, if_pos (by omega)]
           · rw [if_neg e, if_neg (by omega)])
         clear hfo hfo2 hz3 hc3
         go_wp2_with fail
         go_roundg (n1 - (s2 + 1))
         case measure => rw [HG3.out]; omega
         case rel => exact ⟨s2 + 1, x, rfl, by omega, rfl, by go_num, hx.1, hx.2, hfo3, rfl⟩
        ·have hsti : ¬ (s2 : Int) < n1 := by omega
         rw [show n1 - s2 = 0 by omega, folF] at hfo2
         have hRf : Hid (R = false) := Lib.hid (HBAD.out hfo2)
         clear hfo hfo2
         go_wp2_with fail
         go_ret
         exact ⟨by rw [hRf.out]; rfl, hB⟩
     ·have hin : i = n1 := by omega
      have hge : ¬ (i : Int) < n1 := by omega
      have hRt : Hid (R = true) := Lib.hid (by
        have h9 := hpre.out
        rw [List.take_of_length_le (by simp; omega)] at h9
        rw [hR1.out]
        unfold treeOK
        rw [HL.out]; exact h9)
      clear hpre hin
      go_wp2_with fail
      go_ret
      exact ⟨by rw [hRt.out]; rfl, hB⟩
 ·have hRf : Hid (R = false) := Lib.hid (by rw [hR, hl, decide_eq_false hnn]; rfl)
  have hne : ((n1 : Int) != (n : Int)) = true := by simp; omega
  have qX := fun i => hX.cell i
  clear hR
  go_enter Tryz.func66, Tryz.ntmps66
  go_wp2_with fail
  go_ret
  exact ⟨by rw [hRf.out]; rfl, hB⟩
end
section
open Go.RowKit Go.Lib Go.Maps
theorem bestI_first {α : Type} (cost : α → Int) (R : α → α → Prop) : ∀ (l : List α), l.Pairwise R → ∀ x, bestI cost l = some x → ∀ y ∈ l, cost y = cost x → y = x ∨ R x y := by
 refine revInd (p := fun l => l.Pairwise R → ∀ x, bestI cost l = some x → ∀ y ∈ l, cost y = cost x → y = x ∨ R x y) (fun _ _ _ y hy => by cases hy) ?_
 intro l z ih hp x hx y hy he
 obtain ⟨p1, _, p3⟩ := List.pairwise_append.1 hp
 rw [bestI_snoc] at hx
 cases hl : bestI cost l with
 | none =>
  rw [hl] at hx
  have := (bestI_none cost l).1 hl
  subst this
  injection hx with hx
  have h2 : y = z := by simpa using hy
  exact .inl (h2.trans hx)
 | some a =>
  rw [hl] at hx
  obtain ⟨m1, m2⟩ := bestI_mem cost l a hl
  injection hx with hx
  by_cases hc : cost z < cost a
  ·rw [if_pos hc] at hx
   subst hx
   rcases List.mem_append.1 hy with hy | hy
   ·have := m2 y hy; omega
   ·exact .inl (List.mem_singleton.1 hy)
  ·rw [if_neg hc] at hx
   subst hx
   rcases List.mem_append.1 hy with hy | hy
   ·exact ih p1 a hl y hy he
   ·rw [List.mem_singleton.1 hy]; exact .inr (p3 a m1 z (by simp))
end
section
open Go.RowKit Go.Lib Go.Maps
def fromW (cs : List VC) (ts : List RI) (f : Int) (k : Nat) : List Int := if f < 0 then ((ts[k]?).map RI.ws).getD [] else (vlAt cs f.toNat k).ws
def cpF (cs : List VC) (ts : List RI) (p : Nat) (f : Int) : Nat → Nat
 | 0 => 0
 | k + 1 => cpF cs ts p f k + tkF (vlAt cs p k) (fromW cs ts f k)
def trF (cs : List VC) (ts : List RI) (t : List Int) : Nat → Nat
 | 0 => 0
 | k + 1 => trF cs ts t k + cpF cs ts k (t.getD k 0) (headN cs)
section
variable {wn : Nat} {A : Option Addr} {n : Nat} {cs : List VC} {w : World} {B : Nat} {tA : Option Addr} {tn tc : Nat} {ts : List RI}
theorem TxG.of (h : TXI w tA tn tc ts) (hw : wn ≤ 3) (h1 : 1 ≤ wn) (h2 : textB (wn : Int) (headN cs) ts = true) : TxG cs tA tn ts w w.heap.size ∧ tn = headN cs ∧ ∀ r ∈ ts, lnB (wn : Int) r.ws = true := by
 unfold textB at h2
 rw [Bool.and_eq_true, decide_eq_true_eq, List.all_eq_true] at h2
 have hl := h.len
 refine ⟨⟨h.2.2.1, h.2.2.2, by omega, fun r hr => ?_⟩, by omega, h2.2⟩
 have h3 := ln_small ⟨by omega, by omega⟩ (h2.2 r hr)
 have h4 : r.ws.length = r.n := by have := (h.2.2.2 r hr).2.2.len; simpa using this
 exact ⟨by omega, h3.1, fun x hx => by have := h3.2 x hx; omega⟩
theorem TxG.toW (h : TxG cs tA tn ts w w.heap.size) {w' : World} (hb : Below w.heap.size w w') : TxG cs tA tn ts w' w'.heap.size := (h.below hb).more hb.size
theorem costV_F (h : BkG wn A n cs w B) (hk : bookB (wn : Int) cs = true) (hts : ts.length = headN cs) (hl : ∀ r ∈ ts, lnB (wn : Int) r.ws = true) {p : Nat} (hp : p < n) {f : Int} (h0 : -1 ≤ f) (h1 : f < n) : costV cs ts (p : Int) f = (cpF cs ts p f (headN cs) : Nat) := by
 have hlen := h.len
 have hs := book_small hk
 have hL : ∀ q, q < n → ∃ c, cs[q]? = some c ∧ c ∈ cs ∧ c.ls.length = headN cs := fun q hq => by
  have hq2 : q < cs.length := by omega
  exact ⟨cs[q], List.getElem?_eq_getElem hq2, List.getElem_mem hq2, (h.2.2.2.2.2.1 _ (List.getElem_mem hq2)).2⟩
 obtain ⟨cp, ep, mp, lp⟩ := hL p hp
 have hsrc : ∃ src : List ByteArray, srcL cs ts f = src ∧ src.length = headN cs ∧ ∀ k (hk : k < src.length), src[k] = lbS (fromW cs ts f k) ∧ ∀ x ∈ fromW cs ts f k, 0 ≤ x ∧ x ≤ 2 := by
  by_cases hf : f = -1
  ·refine ⟨ts.map fun r => lbS r.ws, by unfold srcL; rw [if_pos hf], by simpa using hts, fun k hk => ?_⟩
   have hkt : k < ts.length := by simpa using hk
   have e : fromW cs ts f k = (ts[k]).ws := by unfold fromW; rw [if_pos (by omega), List.getElem?_eq_getElem hkt]; rfl
   rw [e]
   exact ⟨by simp, (ln_small ⟨by have := h.1.1; omega, by have := h.1.2; omega⟩ (hl _ (List.getElem_mem hkt))).2⟩
  ·obtain ⟨ca, ea, ma, la⟩ := hL f.toNat (by omega)
   refine ⟨ca.ls.map fun r => lbS r.ws, by unfold srcL; rw [if_neg hf, ea]; rfl, by simpa using la, fun k hk => ?_⟩
   have hkl : k < ca.ls.length := by simpa using hk
   have e1 := vlAt_ls ea hkl
   have e2 := e1
   rw [List.getElem?_eq_getElem hkl] at e1
   have e : fromW cs ts f k = (vlAt cs f.toNat k).ws := by unfold fromW; rw [if_neg (by omega)]
   rw [e, ← Option.some.inj e1]
   exact ⟨by simp, hs _ ma _ (List.getElem_mem hkl)⟩
 obtain ⟨src, e1, e2, e3⟩ := hsrc
 unfold costV
 rw [e1, Int.toNat_natCast, ep, Option.map_some, Option.getD_some]
 obtain ⟨z, hz⟩ : ∃ z, z = src.zip cp.ls := ⟨_, rfl⟩
 rw [← hz]
 have hzl : z.length = headN cs := by rw [hz, List.length_zip, e2, lp]; omega
 have hsum : ∀ k, k ≤ headN cs → sumI (cgL (z.take k)) = (cpF cs ts p f k : Nat) := by
  intro k
  induction k with
  | zero => intro _; rfl
  | succ k ih =>
   intro hk1
   have hkz : k < z.length := by omega
   have hks : k < src.length := by omega
   have hkl : k < cp.ls.length := by omega
   have hat : z[k] = (lbS (fromW cs ts f k), vlAt cs p k) := by
    have e4 := vlAt_ls ep hkl
    rw [List.getElem?_eq_getElem hkl] at e4
    subst hz
    rw [List.getElem_zip, Option.some.inj e4, (e3 k hks).1]
   rw [List.take_succ_eq_append_getElem hkz, hat]
   have e : cgL (z.take k ++ [(lbS (fromW cs ts f k), vlAt cs p k)]) = cgL (z.take k) ++ cgO (lbS (fromW cs ts f k), vlAt cs p k) := by unfold cgL; rw [List.flatMap_append]; simp
   rw [e, sumI_app, ih (by omega), cpF]
   have hv : ∀ x ∈ (vlAt cs p k).ws, 0 ≤ x ∧ x ≤ 2 := hs cp mp _ (List.mem_of_getElem? (vlAt_ls ep hkl))
   have hu := (e3 k hks).2
   unfold cgO tkF
   dsimp only
   generalize fromW cs ts f k = u at *
   cases (vlAt cs p k).lost
   ·rw [if_neg (by decide), if_neg (by decide), edB_int hu hv]
    show _ + (0 + _) = _
    omega
   ·rw [if_pos rfl, if_pos rfl]
    show _ + (0 : Int) = _
    omega
 have h2 := hsum (headN cs) (Nat.le_refl _)
 rw [List.take_of_length_le (by omega)] at h2
 exact h2
theorem treeS_F (h : BkG wn A n cs w B) (hk : bookB (wn : Int) cs = true) (hts : ts.length = headN cs) (hl : ∀ r ∈ ts, lnB (wn : Int) r.ws = true) {t : List Int} (htl : t.length = n) (htb : ∀ x ∈ t, -1 ≤ x ∧ x < (n : Int)) : treeS (costV cs ts) t = (trF cs ts t n : Nat) := by
 have hsum : ∀ k, k ≤ n → sumI (treeL (costV cs ts) t k) = (trF cs ts t k : Nat) := by
  intro k
  induction k with
  | zero => intro _; rfl
  | succ k ih =>
   intro hk1
   have hkt : k < t.length := by omega
   have hb := htb _ (List.getElem_mem hkt)
   have e : t.getD k 0 = t[k] := by rw [List.getD_eq_getElem?_getD, List.getElem?_eq_getElem hkt]; rfl
   rw [treeL_snoc, sumI_snoc, ih (by omega), trF, e, costV_F h hk hts hl (by omega) hb.1 hb.2]
   omega
 unfold treeS
 rw [htl]
 exact hsum n (Nat.le_refl _)
end
theorem dfsL_pre (lim : Nat) : ∀ (r : Nat) (pre l : List Int), l ∈ dfsL lim r pre → ∃ s, l = pre ++ s ∧ s.length = r
 | 0, pre, l, h => ⟨[], by rw [dfsL] at h; simpa using h, rfl⟩
 | r + 1, pre, l, h => by
  rw [dfsL] at h
  obtain ⟨k, _, h⟩ := List.mem_flatMap.1 h
  obtain ⟨s, e, hs⟩ := dfsL_pre lim r _ l h
  exact ⟨_ :: s, by rw [e, List.append_assoc]; rfl, by simp [hs]⟩
theorem befL_pre : ∀ (pre : List Int) (a b : Int) (u v : List Int), a < b → befL (pre ++ a :: u) (pre ++ b :: v) = true
 | [], a, b, u, v, h => by
  show befL (a :: u) (b :: v) = true
  rw [befL, if_neg (by omega)]; exact decide_eq_true h
 | x :: pre, a, b, u, v, h => by
  show befL (x :: (pre ++ a :: u)) (x :: (pre ++ b :: v)) = true
  rw [befL, if_pos rfl]; exact befL_pre pre a b u v h
theorem dfsL_pw (lim : Nat) : ∀ (r : Nat) (pre : List Int), (dfsL lim r pre).Pairwise fun a b => befL a b = true
 | 0, pre => by rw [dfsL]; simp
 | r + 1, pre => by
  rw [dfsL]
  refine List.pairwise_flatMap.2 ⟨fun k _ => dfsL_pw lim r _, List.pairwise_lt_range.imp fun {k1 k2} h => fun x hx y hy => ?_⟩
  obtain ⟨s1, e1, _⟩ := dfsL_pre lim r _ x hx
  obtain ⟨s2, e2, _⟩ := dfsL_pre lim r _ y hy
  rw [e1, e2, List.append_assoc, List.append_assoc]
  exact befL_pre pre _ _ s1 s2 (by show (k1 : Int) < (k2 : Int); omega)
theorem befL_dec : ∀ (a b : List Int), befL (a.map (· - 1)) (b.map (· - 1)) = befL a b
 | [], b => by cases b <;> rfl
 | _ :: _, [] => rfl
 | x :: xs, y :: ys => by
  rw [List.map_cons, List.map_cons, befL, befL, befL_dec xs ys]
  by_cases e : x = y
  ·rw [if_pos e, if_pos (by omega)]
  ·rw [if_neg e, if_neg (by omega)]
   congr 1
   apply propext
   omega
theorem trees_pw (n lim : Nat) (F : Int → Int → Int) : (treesOf n F (allLs n lim)).Pairwise fun x y => befL x.1 y.1 = true := by
 unfold treesOf
 refine List.pairwise_flatMap.2 ⟨fun p _ => by split <;> simp, (dfsL_pw lim n []).imp fun {a b} h => fun x hx y hy => ?_⟩
 split at hx
 ·split at hy
  ·rw [List.mem_singleton.1 hx, List.mem_singleton.1 hy]
   rw [befL_dec]; exact h
  ·cases hy
 ·cases hx
theorem tree_best {n : Nat} (F : Int → Int → Int) {t : List Int} {c : Int} (h : bestI Prod.snd (treesOf n F (allLs n (n + 1))) = some (t, c)) : t.length = n ∧ (∀ x ∈ t, -1 ≤ x ∧ x < (n : Int)) ∧ treeOK t = true ∧ c = treeS F t ∧
  ∀ t' : List Int, t'.length = n → (∀ x ∈ t', -1 ≤ x ∧ x < (n : Int)) → treeOK t' = true → treeS F t ≤ treeS F t' ∧ (treeS F t' = treeS F t → befL t' t = false) := by
 obtain ⟨m1, m2⟩ := bestI_mem _ _ _ h
 have hm := m1
 unfold treesOf at hm
 obtain ⟨p, hp, hm⟩ := List.mem_flatMap.1 hm
 obtain ⟨hp1, hp2⟩ := allLs_mem hp
 split at hm
 ·rename_i hok
  have e := List.mem_singleton.1 hm
  injection e with e1 e2
  have hlt : t.length = n := by rw [e1, List.length_map]; exact hp1
  have hbt : ∀ x ∈ t, -1 ≤ x ∧ x < (n : Int) := fun x hx => by
   rw [e1] at hx
   obtain ⟨y, hy, rfl⟩ := List.mem_map.1 hx
   have := hp2 y hy
   omega
  refine ⟨hlt, hbt, by rw [e1]; exact hok, by rw [e2, e1], fun t' h1 h2 h3 => ?_⟩
  have hin := trees_has F h1 h2 h3
  have hle := m2 _ hin
  have hf := bestI_first Prod.snd _ _ (trees_pw n (n + 1) F) _ h _ hin
  have hc : c = treeS F t := by rw [e2, e1]
  dsimp only at hle hf
  refine ⟨by omega, fun he => ?_⟩
  rcases hf (by omega) with h9 | h9
  ·injection h9 with h9 _
   rw [h9]; exact befL_self t
  ·exact befL_irr _ _ (by omega) h9
 ·cases hm
theorem refTree_parts {n : Nat} {t : List Int} (h : refTreeB n t = true) : t.length = n ∧ (∀ x ∈ t, -1 ≤ x ∧ x < (n : Int)) ∧ sourcesB n t = true ∧ treeOK t = true := by
 unfold refTreeB at h
 rw [Bool.and_eq_true] at h
 have h1 := h.1
 unfold sourcesB at h1
 rw [Bool.and_eq_true, decide_eq_true_eq, List.all_eq_true] at h1
 refine ⟨h1.1, fun x hx => ?_, h.1, h.2⟩
 have := h1.2 x hx
 simp only [Bool.or_eq_true, beq_iff_eq, inB, Bool.and_eq_true, decide_eq_true_eq] at this
 omega
theorem refTree_of {n : Nat} {t : List Int} (h1 : t.length = n) (h2 : ∀ x ∈ t, -1 ≤ x ∧ x < (n : Int)) (h3 : treeOK t = true) : refTreeB n t = true := by
 unfold refTreeB sourcesB
 rw [h3, Bool.and_true, decide_eq_true h1, Bool.true_and, List.all_eq_true]
 intro x hx
 have := h2 x hx
 simp only [Bool.or_eq_true, beq_iff_eq, inB, Bool.and_eq_true, decide_eq_true_eq]
 omega
end
section
open Go.RowKit Go.Lib Go.Maps
theorem Tree_I {wn : Nat} {A : Option Addr} {n cap : Nat} {cs : List VC} {tA : Option Addr} {tn tc : Nat} {ts : List RI} {w : World} (hb : BkG wn A n cs w w.heap.size) (h1 : bookB (wn : Int) cs = true) (ht : TxG cs tA tn ts w w.heap.size) (h2 : textB (wn : Int) (headN cs) ts = true) :
  ∃ t c, bestI Prod.snd (treesOf n (costV cs ts) (allLs n (n + 1))) = some (t, c) ∧ Calls Tryz.prog 64 #[.agg #[.int .i64 (wn : Int), .slice A n cap], .slice tA tn tc] w fun e w' => (∃ vA vc, e = .returned (.tuple #[.slice vA n vc, .int .i64 c, .int .i64 0]) ∧ IA w' vA n vc t) ∧ Below w.heap.size w w' := by
 have hne := trees_pos (costV cs ts) hb.2.1.1
 obtain ⟨x, hx⟩ := bestI_some Prod.snd hne
 refine ⟨x.1, x.2, hx, (Tree_yes cap tc hb h1 ht h2).mono ?_⟩
 rintro e w' ⟨⟨v, t, c, h3, rfl, hown⟩, hbw⟩
 rw [hx] at h3
 injection h3 with h3
 obtain ⟨va, vc, rfl⟩ := own_slice hown
 refine ⟨⟨va, vc, by rw [h3], ?_⟩, hbw⟩
 rw [h3]
 exact ⟨own_le0 hown, own_cap hown, Rd.of_own hown⟩
theorem copied_law (W : Int) (A : Option Addr) (n cap : Nat) (cs : List VC) (tA : Option Addr) (tn tc : Nat) (ts : List RI) (A1 : Option Addr) (n1 c1 : Nat) (t : List Int) (m : Int) (w : World) (hE : Env m w) (h : BkI w A n cap cs) (ht : TXI w tA tn tc ts) (h1 : IA w A1 n1 c1 t) :
  Calls Tryz.prog 16 #[.agg #[.int .i64 W, .slice A n cap], .slice tA tn tc, .slice A1 n1 c1] w fun e w' => e = .returned (.bool true) ∧ Below w.heap.size w w' := by
 have hX := Blk.new w 24 #[.int .i64 W, .slice A n cap]
 have hB : Below w.heap.size w (w.alloc (.cells #[.int .i64 W, .slice A n cap] 24)) := (Below.refl _ w).alloc (Nat.le_refl _) _
 have qX := fun i => hX.cell i
 go_enter Tryz.func16, Tryz.ntmps16
 go_wp2_with fail
 refine (right_any (h.toW hB)).mono ?_; rintro e wc ⟨⟨b, rfl, hrb⟩, hb⟩
 replace hB := hB.trans (hb.mono hB.size); replace hX := hX.below hb hX.lt; clear hb qX; have qX := fun i => hX.cell i
 cases b with
 | false =>
  go_wp2_with fail
  refine (known_true m _ (hE.below hB)).mono ?_; rintro e wc ⟨rfl, hb⟩
  replace hB := hB.trans (hb.mono hB.size); clear hb
  go_wp2_with fail
  go_ret
  exact ⟨rfl, hB⟩
 | true =>
  have hbk := hrb rfl; clear hrb
  obtain ⟨wn, rfl, hG⟩ := BkG.of_book hbk h.2.2.1 h.2.2.2
  have hn5 := hG.2.1; have hL4 := hG.2.2.1
  go_wp2_with fail
  refine (brief_any tA tn tc ts _ (ht.toW hB)).mono ?_; rintro e wc ⟨⟨b, rfl, hbr⟩, hb⟩
  replace hB := hB.trans (hb.mono hB.size); replace hX := hX.below hb hX.lt; clear hb qX; have qX := fun i => hX.cell i
  cases b with
  | false =>
   go_wp2_with fail
   refine (known_true m _ (hE.below hB)).mono ?_; rintro e wc ⟨rfl, hb⟩
   replace hB := hB.trans (hb.mono hB.size); clear hb
   go_wp2_with fail
   go_ret
   exact ⟨rfl, hB⟩
  | true =>
   have hbr2 := hbr rfl; clear hbr
   have hrt := fun wx hx => refText_any (w := wx) cap tA tn tc ts (hG.toW hx) (ht.toW hx)
   have hre := fun wx hx => refTree_any (wn := wn) (A := A) (w := wx) cap A1 n1 c1 t hn5 (h1.toW hx)
   cases hk : textB (wn : Int) (headN cs) ts with
   | false =>
    simp only [hk] at hrt
    have HRT := Lib.hid hrt; clear hrt hre
    go_wp2_with fail
    refine (HRT.out _ hB).mono ?_; rintro e wc ⟨rfl, hb⟩
    replace hB := hB.trans (hb.mono hB.size); replace hX := hX.below hb hX.lt; clear hb qX; have qX := fun i => hX.cell i
    go_wp2_with fail
    refine (known_true m _ (hE.below hB)).mono ?_; rintro e wc ⟨rfl, hb⟩
    replace hB := hB.trans (hb.mono hB.size); clear hb
    go_wp2_with fail
    go_ret
    exact ⟨rfl, hB⟩
   | true =>
    simp only [hk] at hrt
    have HRT := Lib.hid hrt; clear hrt
    by_cases h7 : (7 : Int) < n1
    ·skip
     go_wp2_with fail
     refine (HRT.out _ hB).mono ?_; rintro e wc ⟨rfl, hb⟩
     replace hB := hB.trans (hb.mono hB.size); replace hX := hX.below hb hX.lt; clear hb qX; have qX := fun i => hX.cell i
     go_wp2_with fail
     refine (known_true m _ (hE.below hB)).mono ?_; rintro e wc ⟨rfl, hb⟩
     replace hB := hB.trans (hb.mono hB.size); clear hb
     go_wp2_with fail
     go_ret
     exact ⟨rfl, hB⟩
    ·skip
     cases hkt : refTreeB n t with
     | false =>
      simp only [hkt] at hre
      have HRE := Lib.hid hre; clear hre
      go_wp2_with fail
      refine (HRT.out _ hB).mono ?_; rintro e wc ⟨rfl, hb⟩
      replace hB := hB.trans (hb.mono hB.size); replace hX := hX.below hb hX.lt; clear hb qX; have qX := fun i => hX.cell i
      go_wp2_with fail
      refine (HRE.out _ hB).mono ?_; rintro e wc ⟨rfl, hb⟩
      replace hB := hB.trans (hb.mono hB.size); replace hX := hX.below hb hX.lt; clear hb qX; have qX := fun i => hX.cell i
      go_wp2_with fail
      refine (known_true m _ (hE.below hB)).mono ?_; rintro e wc ⟨rfl, hb⟩
      replace hB := hB.trans (hb.mono hB.size); clear hb
      go_wp2_with fail
      go_ret
      exact ⟨rfl, hB⟩
     | true =>
      simp only [hkt] at hre
      have HRE := Lib.hid hre; clear hre
      obtain ⟨hT, htn, hTl⟩ := TxG.of ht hG.1.2 hG.1.1 hk
      obtain ⟨p1, p2, p3, p4⟩ := refTree_parts hkt
      have hn1 : n1 = n := by have := h1.len; omega
      subst hn1
      subst htn
      have hGto := fun (wx : World) (hx : Below w.heap.size w wx) => (hG.toW hx)
      obtain ⟨t0, c0, hbest, _⟩ := Tree_I (cap := cap) (tc := tc) hG hbk hT hk
      obtain ⟨q1, q2, q3, q4, q5⟩ := tree_best _ hbest
      have hTS0 := treeS_F hG hbk hT.2.2.1 hTl q1 q2
      have hTS := treeS_F hG hbk hT.2.2.1 hTl p1 p2
      have hq5 := q5 t p1 p2 p4
      rw [hTS0, hTS] at hq5
      rw [hTS0] at q4
      have hc1 : ∀ (wx : World) (_ : Below w.heap.size w wx), Calls Tryz.prog 64 #[.agg #[.int .i64 (wn : Int), .slice A n1 cap], .slice tA (headN cs) tc] wx fun e w' => (∃ vA vc, e = .returned (.tuple #[.slice vA n1 vc, .int .i64 (trF cs ts t0 n1 : Nat), .int .i64 0]) ∧ IA w' vA n1 vc t0) ∧ Below wx.heap.size wx w' := fun wx hx => by
       obtain ⟨t', c', hb', hc⟩ := Tree_I (cap := cap) (tc := tc) (hG.toW hx) hbk (hT.toW hx) hk
       rw [hbest] at hb'
       injection hb' with hb'
       injection hb' with e1 e2
       rw [← e1, ← e2, q4] at hc
       exact hc
      have hc2 := fun (wx : World) (hx : Below w.heap.size w wx) => Total_yes cap tc A1 n1 c1 t (hG.toW hx) hbk (hT.toW hx) hk h1.max (h1.toW hx).2.2 p3 rfl p2
      rw [if_pos p4, if_pos p4, hTS] at hc2
      have hc3 := fun (wx : World) (hx : Below w.heap.size w wx) (vA : Option Addr) (vc : Nat) (hv : IA wx vA n1 vc t0) => Total_yes cap tc vA n1 vc t0 (hG.toW hx) hbk (hT.toW hx) hk hv.max hv.2.2 (refTree_parts (refTree_of q1 q2 q3)).2.2.1 rfl q2
      rw [if_pos q3, if_pos q3, hTS0] at hc3
      have hre2 := fun (wx : World) (hx : Below w.heap.size w wx) (vA : Option Addr) (vc : Nat) (hv : IA wx vA n1 vc t0) => refTree_any (wn := wn) (A := A) (w := wx) cap vA n1 vc t0 hn5 hv
      rw [refTree_of q1 q2 q3] at hre2
      have hbf := fun (wx : World) (hx : Below w.heap.size w wx) (vA : Option Addr) (vc : Nat) (hv : IA wx vA n1 vc t0) => before_any A1 n1 c1 t vA n1 vc t0 wx (h1.toW hx) hv (by omega) (by omega)
      have hln := fun q k (hq : q < n1) (hk : k < headN cs) => vlAt_lnB hbk (p := q) (k := k) (by have := hG.len; omega) hk
      have hch := fun (wx : World) (hx : Below w.heap.size w wx) (Ax : Option Addr) (nx cx : Nat) (lx : List Int) (hxx : IA wx Ax nx cx lx) (kx : lnB (wn : Int) lx = true) (Ay : Option Addr) (ny cy : Nat) (ly : List Int) (hyy : IA wx Ay ny cy ly) (ky : lnB (wn : Int) ly = true) => Changes_I (h.toW hx) hbk hxx hyy kx ky
      obtain ⟨bb, off, rfl, hbw, hr⟩ := hG.rows
      have htr := ht.2.2.1; have hto := ht.2.2.2
      obtain ⟨TF, hTF⟩ : ∃ TF, TF = trF cs ts t := ⟨_, rfl⟩
      have hTF1 : ∀ k, TF (k + 1) = TF k + cpF cs ts k (t.getD k 0) (headN cs) := fun k => by rw [hTF]; rfl
      have hTF0 : TF 0 = 0 := by rw [hTF]; rfl
      simp only [← hTF] at hq5 hc2
      have hCP1 : ∀ i f k, cpF cs ts i f (k + 1) = cpF cs ts i f k + tkF (vlAt cs i k) (fromW cs ts f k) := fun i f k => rfl
      have hCP0 : ∀ i f, cpF cs ts i f 0 = 0 := fun _ _ => rfl
      have hlt := hT.2.2.1
      generalize hLe : headN cs = LL0 at *
      obtain ⟨M0, hM0⟩ : ∃ M0, M0 = trF cs ts t0 n1 := ⟨_, rfl⟩
      rw [← hM0] at hq5
      simp only [← hM0] at hc1 hc3
      clear hM0 hTS hTS0 q4 q5 hbest hTF hLe
      generalize hCPe : cpF cs ts = CP at *
      have HQ5 := Lib.hid hq5; have HC1 := Lib.hid hc1; have HC2 := Lib.hid hc2; have HC3 := Lib.hid hc3; have HRE2 := Lib.hid hre2; have HBF := Lib.hid hbf; have HLN := Lib.hid hln; have HCH := Lib.hid hch; have HR := Lib.hid hr; have HTR := Lib.hid htr; have HTO := Lib.hid hto; have HTF1 := Lib.hid hTF1; have HTF0 := Lib.hid hTF0; have HCP1 := Lib.hid hCP1; have HCP0 := Lib.hid hCP0; have HTL := Lib.hid hTl; have HH1 := Lib.hid h1; have HP2 := Lib.hid p2; have HP1 := Lib.hid p1; have HLT := Lib.hid hlt
      clear hq5 hc1 hc2 hc3 hre2 hbf hln hch hr htr hto hTF1 hTF0 hCP1 hCP0 hTl h1 p1 p2 p3 p4 q1 q2 q3 hT hGto hG hbk h ht hk hkt hbr2 hCPe hlt
      go_wp2_with fail
      refine (HRT.out _ hB).mono ?_; rintro e wc ⟨rfl, hb⟩
      replace hB := hB.trans (hb.mono hB.size); replace hX := hX.below hb hX.lt; clear hb qX; have qX := fun i => hX.cell i
      go_wp2_with fail
      refine (HRE.out _ hB).mono ?_; rintro e wc ⟨rfl, hb⟩
      replace hB := hB.trans (hb.mono hB.size); replace hX := hX.below hb hX.lt; clear hb qX; have qX := fun i => hX.cell i
      go_wp2_with fail
      refine (HC1.out _ hB).mono ?_; rintro e wc ⟨⟨vA, vc, rfl, hV⟩, hb⟩
      replace hB := hB.trans (hb.mono hB.size); replace hX := hX.below hb hX.lt; clear hb qX; have qX := fun i => hX.cell i
      go_wp2_with fail
      refine (HC2.out _ hB).mono ?_; rintro e wc ⟨rfl, hb⟩
      replace hB := hB.trans (hb.mono hB.size); replace hX := hX.below hb hX.lt; replace hV := hV.toW hb; clear hb qX; have qX := fun i => hX.cell i
      have hnn : ((n1 : Int) != (n1 : Int)) = false := by simp
      go_wp2_with fail
      refine (HRE2.out _ hB _ _ hV).mono ?_; rintro e wc ⟨rfl, hb⟩
      replace hB := hB.trans (hb.mono hB.size); replace hX := hX.below hb hX.lt; replace hV := hV.toW hb; clear hb qX; have qX := fun i => hX.cell i
      go_wp2_with fail
      refine (HC3.out _ hB _ _ hV).mono ?_; rintro e wc ⟨rfl, hb⟩
      replace hB := hB.trans (hb.mono hB.size); replace hX := hX.below hb hX.lt; replace hV := hV.toW hb; clear hb qX; have qX := fun i => hX.cell i
      have hMM : ((M0 : Int) != (M0 : Int)) = false := by simp
      obtain ⟨hle, heq⟩ := HQ5.out
      have hnlt : ¬ ((TF n1 : Nat) : Int) < (M0 : Int) := by omega
      have HEQ := Lib.hid heq; clear heq
      rename World => w8
      have hv8 := hV
      have hB8 := hB
      have hX8 := hX
      have hmain : ∀ (a : Act) (z : World), True := fun _ _ => trivial
      clear hmain
      by_cases hmm : M0 = TF n1
      ·have heqM : (((TF n1 : Nat) : Int) == (M0 : Int)) = true := by simp [hmm]
       have hbb := HBF.out _ hB _ _ hV
       rw [HEQ.out (by omega)] at hbb
       have HBB := Lib.hid hbb; clear hbb hmm
       go_wp2_with fail
       refine (HBB.out).mono ?_; rintro e wc ⟨rfl, hb⟩
       replace hB := hB.trans (hb.mono hB.size); replace hX := hX.below hb hX.lt; clear hb qX HBB hV hv8 hB8 hX8
       have qX := fun i => hX.cell i
       go_wp2_with fail
       clear hnlt hle heqM
       try (rename M0 ≤ TF n1 => q1; clear q1)
       try (rename ¬ TF n1 < M0 => q2; clear q2)
       try (rename M0 < TF n1 => q3; clear q3)
       rename World => wz
       have hBz := hB
       have hn0 : (0 : Int) < n1 := by omega
       go_loopg [14, 15] n1 (fun g v i wr => ∃ k s : Nat, g = n1 - k ∧ k ≤ n1 ∧ v = .int .i64 s ∧ i = .int .i64 k ∧ Hid (s = TF k) ∧ s ≤ 16 * k ∧ Below w.heap.size w wr ∧ Blk wr w.heap.size 24 #[.int .i64 (wn : Int), .slice (some ⟨bb, off, none⟩) n1 cap])
       case atStart => exact ⟨0, 0, rfl, Nat.zero_le _, rfl, rfl, Lib.hid HTF0.out.symm, Nat.le_refl _, hB, hX⟩
       case round =>
        clear hX hB qX hBz
        obtain ⟨i, s, hg, hi, rfl, rfl, hs, hsk, hB, hX⟩ := hrel
        rename World => wr
        have HG := Lib.hid hg; clear hg
        by_cases hit : i < n1
        ·have hiti : (i : Int) < n1 := by omega
         have htl : i < t.length := by rw [HP1.out]; exact hit
         have hfb := HP2.out _ (List.getElem_mem htl)
         have hTS := HTF1.out i
         rw [← hs.out, List.getD_eq_getElem?_getD, List.getElem?_eq_getElem htl, Option.getD_some] at hTS
         obtain ⟨b1, off1, hz1, rfl, hb1, hc1⟩ := HH1.out.2.2.atm hit
         generalize t[i] = f at *
         obtain ⟨bp, offp, ccp, hcp, hbp, hlp⟩ := HR.out i hit
         have HLP := Lib.hid hlp; have HTS := Lib.hid hTS
         clear hlp hTS hs htl hz1
         go_wp2_with fail
         go_loopg [14, 16] LL0 (fun g v j wx => ∃ k z : Nat, g = LL0 - k ∧ k ≤ LL0 ∧ v = .int .i64 ((s : Int) + z) ∧ j = .int .i64 k ∧ Hid (z = CP i f k) ∧ z ≤ 4 * k ∧ Below w.heap.size w wx ∧ Blk wx w.heap.size 24 #[.int .i64 (wn : Int), .slice (some ⟨bb, off, none⟩) n1 cap])
         case atStart => exact ⟨0, 0, rfl, Nat.zero_le _, by simp, rfl, Lib.hid (HCP0.out _ _).symm, Nat.le_refl _, hB, hX⟩
         case round =>
          clear hX hB
          obtain ⟨k, z, hg, hk, rfl, rfl, hz, hzk, hB, hX⟩ := hrel
          rename World => wx
          have HG2 := Lib.hid hg; clear hg
          have qX := fun i => hX.cell i
          have hc1r := (hB.cell (p := ⟨b1, off1 + i, none⟩) hb1).trans hc1
          by_cases hkt : k < LL0
          ·have hkti : (k : Int) < LL0 := by omega
           obtain ⟨hv0, hv1, hvok, hvn, hvl⟩ := HLP.out k hkt
           have lp := HLN.out i k hit hkt
           obtain ⟨bt, offt, hzt, rfl, hbt, hct⟩ := HTR.out.atm hkt
           have htok := HTO.out _ (List.getElem_mem hzt)
           have htl := HTL.out _ (List.getElem_mem hzt)
           have hCP := HCP1.out i f k
           rw [← hz.out] at hCP
           have hct2 : wx.cell? ⟨bt, offt + k, none⟩ = some (.slice ts[k].A ts[k].n ts[k].cap) := (hB.cell (p := ⟨bt, offt + k, none⟩) hbt).trans hct
           have hft : f < 0 → fromW cs ts f k = ts[k].ws := fun h => by unfold fromW; rw [if_pos h, List.getElem?_eq_getElem hzt]; rfl
           generalize ts[k] = r at *
           generalize vlAt cs i k = v at *
           have hcpr := (hB.cell (p := ⟨bb, off + i, none⟩) hbw).trans hcp
           have hv0r := (hB.cell (p := ⟨bp, offp + k * 2, none⟩) hbp).trans hv0
           have hv1r := (hB.cell (p := ⟨bp, offp + k * 2 + 1, none⟩) hbp).trans hv1
           have hchv := fun (wy : World) (hy : Below w.heap.size w wy) (Ax : Option Addr) (nx cx : Nat) (lx : List Int) (hxx : IA w Ax nx cx lx) (hl : lnB (wn : Int) lx = true) => HCH.out wy hy Ax nx cx lx (hxx.toW hy) hl v.A v.n v.cap v.ws ⟨hvok.1, hvok.2.1, rdB hvok.2.2 hy⟩ lp
           have HCHV := Lib.hid hchv; have HCP := Lib.hid hCP; have HFT := Lib.hid hft
           have hlvv := lnB_len lp
           clear hchv hCP hft hz hv0 hv1 hvok lp hct hzt
           obtain ⟨lost, vA, vn, vc, vws⟩ := v
           dsimp only at hv0r hv1r hvn hvl HCHV hlvv
           have hq1 := fun (x : Blw wx.heap.size wx) => ((Blw.h x).cell (p := ⟨bb, off + i, none⟩) (Nat.lt_of_lt_of_le hbw hB.size)).trans hcpr
           have hq3 := fun (x : Blw wx.heap.size wx) => ((Blw.h x).cell (p := ⟨bp, offp + k * 2 + 1, none⟩) (Nat.lt_of_lt_of_le hbp hB.size)).trans hv1r
           have hq4 := fun (x : Blw wx.heap.size wx) j => blw_blk hX x j
           have hlX := hX.lt
           by_cases hf0 : f < 0
           ·have hfg : ¬ (0 : Int) ≤ f := by omega
            obtain ⟨rA, rn, rc, rws⟩ := r
            simp only at hct2 htl
            have hcx := fun (x : Blw wx.heap.size wx) => HCHV.out x.toW (hB.trans (x.h.mono hB.size)) rA rn rc rws ⟨htok.1, htok.2.1, htok.2.2⟩ htl
            have hE4 : ed rws vws ≤ 4 := by have := ed_le rws vws; have := lnB_len htl; omega
            have hFW : Hid (fromW cs ts f k = rws) := Lib.hid (HFT.out hf0)
            cases lost
            ·have hFE : Hid (CP i f (k + 1) = z + ed rws vws) := Lib.hid (by rw [HCP.out, hFW.out]; rfl)
             generalize ed rws vws = E at *
             have hEi : (E : Int) ≤ 4 := by omega
             have HCX := Lib.hid hcx; clear hcx HCHV HCP hFW HFT
             go_upto_region 21 with (fail)
             refine wp_region_blw (by kernel_rfl) (by kernel_rfl) ?_
             repeat (go_big_quiet_step (fail))
             go_big_quiet_step ((go_at_call 26; exact Calls.blw_of _ (HCX.out _)))
             repeat (go_big_quiet_step (fail))
             refine wpQuiet_nil ?_
             rintro W3 ⟨⟨_, hb3⟩, rfl⟩
             clear hq1 hq3 hq4 hlX HCX qX
             go_wp2_with fail
             go_roundg (LL0 - (k + 1))
             case measure => rw [HG2.out]; omega
             case rel => exact ⟨k + 1, z + E, rfl, by omega, by first | go_num | (congr 1; omega), by go_num, Lib.hid hFE.out.symm, by omega, hB.trans (hb3.mono hB.size), hX.below hb3 hX.lt⟩
            ·have hFE : Hid (CP i f (k + 1) = z) := Lib.hid (by rw [HCP.out, hFW.out]; rfl)
             clear hcx HCHV HCP hFW HFT
             go_wp2_with fail
             go_roundg (LL0 - (k + 1))
             case measure => rw [HG2.out]; omega
             case rel => exact ⟨k + 1, z, rfl, by omega, rfl, by go_num, Lib.hid hFE.out.symm, by omega, hB, hX⟩
           ·obtain ⟨fm, rfl⟩ : ∃ fm : Nat, f = fm := ⟨f.toNat, by omega⟩
            have hfg : (0 : Int) ≤ (fm : Int) := by omega
            have hfm : fm < n1 := by omega
            have hfmi : (fm : Int) < n1 := by omega
            obtain ⟨bf, offf, ccf, hcf, hbf, hlf⟩ := HR.out fm hfm
            obtain ⟨_, hf1, hfok, hfn, hfl⟩ := hlf k hkt
            have lf := HLN.out fm k hfm hkt
            have hcfr := (hB.cell (p := ⟨bb, off + fm, none⟩) hbw).trans hcf
            have hf1r := (hB.cell (p := ⟨bf, offf + k * 2 + 1, none⟩) hbf).trans hf1
            have hFW0 : Hid (fromW cs ts (fm : Int) k = (vlAt cs fm k).ws) := Lib.hid (by unfold fromW; rw [if_neg (by omega), Int.toNat_natCast])
            generalize vlAt cs fm k = u at *
            obtain ⟨ul, rA, rn, rc, rws⟩ := u
            dsimp only at hf1r lf hFW0
            have hcx0 := fun (wy : World) (hy : Below w.heap.size w wy) => HCHV.out wy hy rA rn rc rws ⟨hfok.1, hfok.2.1, hfok.2.2⟩ lf
            have HCX0 := Lib.hid hcx0; clear hcx0
            have hE4 : ed rws vws ≤ 4 := by have := ed_le rws vws; have := lnB_len lf; omega
            have hFW := hFW0
            clear hFW0 hf1 hfok hlf hcf
            have hq5 := fun (x : Blw wx.heap.size wx) => ((Blw.h x).cell (p := ⟨b1, off1 + i, none⟩) (Nat.lt_of_lt_of_le hb1 hB.size)).trans hc1r
            have hq6 := fun (x : Blw wx.heap.size wx) => ((Blw.h x).cell (p := ⟨bb, off + fm, none⟩) (Nat.lt_of_lt_of_le hbw hB.size)).trans hcfr
            have hq7 := fun (x : Blw wx.heap.size wx) => ((Blw.h x).cell (p := ⟨bf, offf + k * 2 + 1, none⟩) (Nat.lt_of_lt_of_le hbf hB.size)).trans hf1r
            go_upto_region 19 with (fail)
            refine wp_region_blw (by kernel_rfl) (by kernel_rfl) ?_
            repeat (go_big_quiet_step (fail))
            refine wpQuiet_nil ?_
            rintro W2 ⟨⟨_, hb2⟩, rfl⟩
            clear hq1 hq3 hq4 hq5 hq6 hq7 hlX qX
            have hBo := hB
            replace hX := hX.below hb2 hX.lt; replace hB := hB.trans (hb2.mono hB.size)
            replace hcpr := (hb2.cell (p := ⟨bb, off + i, none⟩) (Nat.lt_of_lt_of_le hbw hBo.size)).trans hcpr
            replace hv0r := (hb2.cell (p := ⟨bp, offp + k * 2, none⟩) (Nat.lt_of_lt_of_le hbp hBo.size)).trans hv0r
            replace hv1r := (hb2.cell (p := ⟨bp, offp + k * 2 + 1, none⟩) (Nat.lt_of_lt_of_le hbp hBo.size)).trans hv1r
            have hcx := fun (x : Blw W2.heap.size W2) => HCX0.out x.toW (hB.trans (x.h.mono hB.size))
            clear HCX0
            have hq1 := fun (x : Blw W2.heap.size W2) => ((Blw.h x).cell (p := ⟨bb, off + i, none⟩) (Nat.lt_of_lt_of_le hbw hB.size)).trans hcpr
            have hq3 := fun (x : Blw W2.heap.size W2) => ((Blw.h x).cell (p := ⟨bp, offp + k * 2 + 1, none⟩) (Nat.lt_of_lt_of_le hbp hB.size)).trans hv1r
            have hq4 := fun (x : Blw W2.heap.size W2) j => blw_blk hX x j
            have hlX := hX.lt
            have qX := fun i => hX.cell i
            clear hBo hb2 hc1r hcfr hf1r
            cases lost
            ·have hFE : Hid (CP i (fm : Int) (k + 1) = z + ed rws vws) := Lib.hid (by rw [HCP.out, hFW.out]; rfl)
             generalize ed rws vws = E at *
             have hEi : (E : Int) ≤ 4 := by omega
             have HCX := Lib.hid hcx; clear hcx HCHV HCP hFW HFT
             go_upto_region 21 with (fail)
             refine wp_region_blw (by kernel_rfl) (by kernel_rfl) ?_
             repeat (go_big_quiet_step (fail))
             go_big_quiet_step ((go_at_call 26; exact Calls.blw_of _ (HCX.out _)))
             repeat (go_big_quiet_step (fail))
             refine wpQuiet_nil ?_
             rintro W3 ⟨⟨_, hb3⟩, rfl⟩
             clear hq1 hq3 hq4 hlX HCX qX
             go_wp2_with fail
             go_roundg (LL0 - (k + 1))
             case measure => rw [HG2.out]; omega
             case rel => exact ⟨k + 1, z + E, rfl, by omega, by first | go_num | (congr 1; omega), by go_num, Lib.hid hFE.out.symm, by omega, hB.trans (hb3.mono hB.size), hX.below hb3 hX.lt⟩
            ·have hFE : Hid (CP i (fm : Int) (k + 1) = z) := Lib.hid (by rw [HCP.out, hFW.out]; rfl)
             clear hcx HCHV HCP hFW HFT
             go_wp2_with fail
             go_roundg (LL0 - (k + 1))
             case measure => rw [HG2.out]; omega
             case rel => exact ⟨k + 1, z, rfl, by omega, rfl, by go_num, Lib.hid hFE.out.symm, by omega, hB, hX⟩
          ·obtain rfl : k = LL0 := by omega
           have hge : ¬ (k : Int) < k := by omega
           have hzz : TF (i + 1) = s + z := by rw [HTS.out, hz.out]
           have HZZ := Lib.hid hzz; clear hzz hz
           go_wp2_with fail
           go_roundg (n1 - (i + 1))
           case measure => rw [HG.out]; omega
           case rel => exact ⟨i + 1, s + z, rfl, by omega, by rw [Int.natCast_add], by go_num, Lib.hid HZZ.out.symm, by omega, hB, hX⟩
        ·have hin : i = n1 := by omega
         have hge : ¬ (i : Int) < n1 := by omega
         have hss : s = TF n1 := by rw [hs.out, hin]
         have hsq : ((s : Int) == ((TF n1 : Nat) : Int)) = true := by rw [hss]; simp
         clear hin hss hs
         have qX := fun i => hX.cell i
         go_wp2_with fail
         refine (known_true m _ (hE.below hB)).mono ?_; rintro e wc ⟨rfl, hb⟩
         replace hB := hB.trans (hb.mono hB.size); clear hb
         go_wp2_with fail
         go_ret
         exact ⟨rfl, hB⟩
      ·have heqM : (((TF n1 : Nat) : Int) == (M0 : Int)) = false := beq_false_of_ne (by omega)
       clear hmm
       go_wp2_with fail
       clear hV hv8 hB8 hX8 hnlt hle heqM
       try (rename M0 ≤ TF n1 => q1; clear q1)
       try (rename ¬ TF n1 < M0 => q2; clear q2)
       try (rename M0 < TF n1 => q3; clear q3)
       rename World => wz
       have hBz := hB
       have hn0 : (0 : Int) < n1 := by omega
       go_loopg [14, 15] n1 (fun g v i wr => ∃ k s : Nat, g = n1 - k ∧ k ≤ n1 ∧ v = .int .i64 s ∧ i = .int .i64 k ∧ Hid (s = TF k) ∧ s ≤ 16 * k ∧ Below w.heap.size w wr ∧ Blk wr w.heap.size 24 #[.int .i64 (wn : Int), .slice (some ⟨bb, off, none⟩) n1 cap])
       case atStart => exact ⟨0, 0, rfl, Nat.zero_le _, rfl, rfl, Lib.hid HTF0.out.symm, Nat.le_refl _, hB, hX⟩
       case round =>
        clear hX hB qX hBz
        obtain ⟨i, s, hg, hi, rfl, rfl, hs, hsk, hB, hX⟩ := hrel
        rename World => wr
        have HG := Lib.hid hg; clear hg
        by_cases hit : i < n1
        ·have hiti : (i : Int) < n1 := by omega
         have htl : i < t.length := by rw [HP1.out]; exact hit
         have hfb := HP2.out _ (List.getElem_mem htl)
         have hTS := HTF1.out i
         rw [← hs.out, List.getD_eq_getElem?_getD, List.getElem?_eq_getElem htl, Option.getD_some] at hTS
         obtain ⟨b1, off1, hz1, rfl, hb1, hc1⟩ := HH1.out.2.2.atm hit
         generalize t[i] = f at *
         obtain ⟨bp, offp, ccp, hcp, hbp, hlp⟩ := HR.out i hit
         have HLP := Lib.hid hlp; have HTS := Lib.hid hTS
         clear hlp hTS hs htl hz1
         go_wp2_with fail
         go_loopg [14, 16] LL0 (fun g v j wx => ∃ k z : Nat, g = LL0 - k ∧ k ≤ LL0 ∧ v = .int .i64 ((s : Int) + z) ∧ j = .int .i64 k ∧ Hid (z = CP i f k) ∧ z ≤ 4 * k ∧ Below w.heap.size w wx ∧ Blk wx w.heap.size 24 #[.int .i64 (wn : Int), .slice (some ⟨bb, off, none⟩) n1 cap])
         case atStart => exact ⟨0, 0, rfl, Nat.zero_le _, by simp, rfl, Lib.hid (HCP0.out _ _).symm, Nat.le_refl _, hB, hX⟩
         case round =>
          clear hX hB
          obtain ⟨k, z, hg, hk, rfl, rfl, hz, hzk, hB, hX⟩ := hrel
          rename World => wx
          have HG2 := Lib.hid hg; clear hg
          have qX := fun i => hX.cell i
          have hc1r := (hB.cell (p := ⟨b1, off1 + i, none⟩) hb1).trans hc1
          by_cases hkt : k < LL0
          ·have hkti : (k : Int) < LL0 := by omega
           obtain ⟨hv0, hv1, hvok, hvn, hvl⟩ := HLP.out k hkt
           have lp := HLN.out i k hit hkt
           obtain ⟨bt, offt, hzt, rfl, hbt, hct⟩ := HTR.out.atm hkt
           have htok := HTO.out _ (List.getElem_mem hzt)
           have htl := HTL.out _ (List.getElem_mem hzt)
           have hCP := HCP1.out i f k
           rw [← hz.out] at hCP
           have hct2 : wx.cell? ⟨bt, offt + k, none⟩ = some (.slice ts[k].A ts[k].n ts[k].cap) := (hB.cell (p := ⟨bt, offt + k, none⟩) hbt).trans hct
           have hft : f < 0 → fromW cs ts f k = ts[k].ws := fun h => by unfold fromW; rw [if_pos h, List.getElem?_eq_getElem hzt]; rfl
           generalize ts[k] = r at *
           generalize vlAt cs i k = v at *
           have hcpr := (hB.cell (p := ⟨bb, off + i, none⟩) hbw).trans hcp
           have hv0r := (hB.cell (p := ⟨bp, offp + k * 2, none⟩) hbp).trans hv0
           have hv1r := (hB.cell (p := ⟨bp, offp + k * 2 + 1, none⟩) hbp).trans hv1
           have hchv := fun (wy : World) (hy : Below w.heap.size w wy) (Ax : Option Addr) (nx cx : Nat) (lx : List Int) (hxx : IA w Ax nx cx lx) (hl : lnB (wn : Int) lx = true) => HCH.out wy hy Ax nx cx lx (hxx.toW hy) hl v.A v.n v.cap v.ws ⟨hvok.1, hvok.2.1, rdB hvok.2.2 hy⟩ lp
           have HCHV := Lib.hid hchv; have HCP := Lib.hid hCP; have HFT := Lib.hid hft
           have hlvv := lnB_len lp
           clear hchv hCP hft hz hv0 hv1 hvok lp hct hzt
           obtain ⟨lost, vA, vn, vc, vws⟩ := v
           dsimp only at hv0r hv1r hvn hvl HCHV hlvv
           have hq1 := fun (x : Blw wx.heap.size wx) => ((Blw.h x).cell (p := ⟨bb, off + i, none⟩) (Nat.lt_of_lt_of_le hbw hB.size)).trans hcpr
           have hq3 := fun (x : Blw wx.heap.size wx) => ((Blw.h x).cell (p := ⟨bp, offp + k * 2 + 1, none⟩) (Nat.lt_of_lt_of_le hbp hB.size)).trans hv1r
           have hq4 := fun (x : Blw wx.heap.size wx) j => blw_blk hX x j
           have hlX := hX.lt
           by_cases hf0 : f < 0
           ·have hfg : ¬ (0 : Int) ≤ f := by omega
            obtain ⟨rA, rn, rc, rws⟩ := r
            simp only at hct2 htl
            have hcx := fun (x : Blw wx.heap.size wx) => HCHV.out x.toW (hB.trans (x.h.mono hB.size)) rA rn rc rws ⟨htok.1, htok.2.1, htok.2.2⟩ htl
            have hE4 : ed rws vws ≤ 4 := by have := ed_le rws vws; have := lnB_len htl; omega
            have hFW : Hid (fromW cs ts f k = rws) := Lib.hid (HFT.out hf0)
            cases lost
            ·have hFE : Hid (CP i f (k + 1) = z + ed rws vws) := Lib.hid (by rw [HCP.out, hFW.out]; rfl)
             generalize ed rws vws = E at *
             have hEi : (E : Int) ≤ 4 := by omega
             have HCX := Lib.hid hcx; clear hcx HCHV HCP hFW HFT
             go_upto_region 21 with (fail)
             refine wp_region_blw (by kernel_rfl) (by kernel_rfl) ?_
             repeat (go_big_quiet_step (fail))
             go_big_quiet_step ((go_at_call 26; exact Calls.blw_of _ (HCX.out _)))
             repeat (go_big_quiet_step (fail))
             refine wpQuiet_nil ?_
             rintro W3 ⟨⟨_, hb3⟩, rfl⟩
             clear hq1 hq3 hq4 hlX HCX qX
             go_wp2_with fail
             go_roundg (LL0 - (k + 1))
             case measure => rw [HG2.out]; omega
             case rel => exact ⟨k + 1, z + E, rfl, by omega, by first | go_num | (congr 1; omega), by go_num, Lib.hid hFE.out.symm, by omega, hB.trans (hb3.mono hB.size), hX.below hb3 hX.lt⟩
            ·have hFE : Hid (CP i f (k + 1) = z) := Lib.hid (by rw [HCP.out, hFW.out]; rfl)
             clear hcx HCHV HCP hFW HFT
             go_wp2_with fail
             go_roundg (LL0 - (k + 1))
             case measure => rw [HG2.out]; omega
             case rel => exact ⟨k + 1, z, rfl, by omega, rfl, by go_num, Lib.hid hFE.out.symm, by omega, hB, hX⟩
           ·obtain ⟨fm, rfl⟩ : ∃ fm : Nat, f = fm := ⟨f.toNat, by omega⟩
            have hfg : (0 : Int) ≤ (fm : Int) := by omega
            have hfm : fm < n1 := by omega
            have hfmi : (fm : Int) < n1 := by omega
            obtain ⟨bf, offf, ccf, hcf, hbf, hlf⟩ := HR.out fm hfm
            obtain ⟨_, hf1, hfok, hfn, hfl⟩ := hlf k hkt
            have lf := HLN.out fm k hfm hkt
            have hcfr := (hB.cell (p := ⟨bb, off + fm, none⟩) hbw).trans hcf
            have hf1r := (hB.cell (p := ⟨bf, offf + k * 2 + 1, none⟩) hbf).trans hf1
            have hFW0 : Hid (fromW cs ts (fm : Int) k = (vlAt cs fm k).ws) := Lib.hid (by unfold fromW; rw [if_neg (by omega), Int.toNat_natCast])
            generalize vlAt cs fm k = u at *
            obtain ⟨ul, rA, rn, rc, rws⟩ := u
            dsimp only at hf1r lf hFW0
            have hcx0 := fun (wy : World) (hy : Below w.heap.size w wy) => HCHV.out wy hy rA rn rc rws ⟨hfok.1, hfok.2.1, hfok.2.2⟩ lf
            have HCX0 := Lib.hid hcx0; clear hcx0
            have hE4 : ed rws vws ≤ 4 := by have := ed_le rws vws; have := lnB_len lf; omega
            have hFW := hFW0
            clear hFW0 hf1 hfok hlf hcf
            have hq5 := fun (x : Blw wx.heap.size wx) => ((Blw.h x).cell (p := ⟨b1, off1 + i, none⟩) (Nat.lt_of_lt_of_le hb1 hB.size)).trans hc1r
            have hq6 := fun (x : Blw wx.heap.size wx) => ((Blw.h x).cell (p := ⟨bb, off + fm, none⟩) (Nat.lt_of_lt_of_le hbw hB.size)).trans hcfr
            have hq7 := fun (x : Blw wx.heap.size wx) => ((Blw.h x).cell (p := ⟨bf, offf + k * 2 + 1, none⟩) (Nat.lt_of_lt_of_le hbf hB.size)).trans hf1r
            go_upto_region 19 with (fail)
            refine wp_region_blw (by kernel_rfl) (by kernel_rfl) ?_
            repeat (go_big_quiet_step (fail))
            refine wpQuiet_nil ?_
            rintro W2 ⟨⟨_, hb2⟩, rfl⟩
            clear hq1 hq3 hq4 hq5 hq6 hq7 hlX qX
            have hBo := hB
            replace hX := hX.below hb2 hX.lt; replace hB := hB.trans (hb2.mono hB.size)
            replace hcpr := (hb2.cell (p := ⟨bb, off + i, none⟩) (Nat.lt_of_lt_of_le hbw hBo.size)).trans hcpr
            replace hv0r := (hb2.cell (p := ⟨bp, offp + k * 2, none⟩) (Nat.lt_of_lt_of_le hbp hBo.size)).trans hv0r
            replace hv1r := (hb2.cell (p := ⟨bp, offp + k * 2 + 1, none⟩) (Nat.lt_of_lt_of_le hbp hBo.size)).trans hv1r
            have hcx := fun (x : Blw W2.heap.size W2) => HCX0.out x.toW (hB.trans (x.h.mono hB.size))
            clear HCX0
            have hq1 := fun (x : Blw W2.heap.size W2) => ((Blw.h x).cell (p := ⟨bb, off + i, none⟩) (Nat.lt_of_lt_of_le hbw hB.size)).trans hcpr
            have hq3 := fun (x : Blw W2.heap.size W2) => ((Blw.h x).cell (p := ⟨bp, offp + k * 2 + 1, none⟩) (Nat.lt_of_lt_of_le hbp hB.size)).trans hv1r
            have hq4 := fun (x : Blw W2.heap.size W2) j => blw_blk hX x j
            have hlX := hX.lt
            have qX := fun i => hX.cell i
            clear hBo hb2 hc1r hcfr hf1r
            cases lost
            ·have hFE : Hid (CP i (fm : Int) (k + 1) = z + ed rws vws) := Lib.hid (by rw [HCP.out, hFW.out]; rfl)
             generalize ed rws vws = E at *
             have hEi : (E : Int) ≤ 4 := by omega
             have HCX := Lib.hid hcx; clear hcx HCHV HCP hFW HFT
             go_upto_region 21 with (fail)
             refine wp_region_blw (by kernel_rfl) (by kernel_rfl) ?_
             repeat (go_big_quiet_step (fail))
             go_big_quiet_step ((go_at_call 26; exact Calls.blw_of _ (HCX.out _)))
             repeat (go_big_quiet_step (fail))
             refine wpQuiet_nil ?_
             rintro W3 ⟨⟨_, hb3⟩, rfl⟩
             clear hq1 hq3 hq4 hlX HCX qX
             go_wp2_with fail
             go_roundg (LL0 - (k + 1))
             case measure => rw [HG2.out]; omega
             case rel => exact ⟨k + 1, z + E, rfl, by omega, by first | go_num | (congr 1; omega), by go_num, Lib.hid hFE.out.symm, by omega, hB.trans (hb3.mono hB.size), hX.below hb3 hX.lt⟩
            ·have hFE : Hid (CP i (fm : Int) (k + 1) = z) := Lib.hid (by rw [HCP.out, hFW.out]; rfl)
             clear hcx HCHV HCP hFW HFT
             go_wp2_with fail
             go_roundg (LL0 - (k + 1))
             case measure => rw [HG2.out]; omega
             case rel => exact ⟨k + 1, z, rfl, by omega, rfl, by go_num, Lib.hid hFE.out.symm, by omega, hB, hX⟩
          ·obtain rfl : k = LL0 := by omega
           have hge : ¬ (k : Int) < k := by omega
           have hzz : TF (i + 1) = s + z := by rw [HTS.out, hz.out]
           have HZZ := Lib.hid hzz; clear hzz hz
           go_wp2_with fail
           go_roundg (n1 - (i + 1))
           case measure => rw [HG.out]; omega
           case rel => exact ⟨i + 1, s + z, rfl, by omega, by rw [Int.natCast_add], by go_num, Lib.hid HZZ.out.symm, by omega, hB, hX⟩
        ·have hin : i = n1 := by omega
         have hge : ¬ (i : Int) < n1 := by omega
         have hss : s = TF n1 := by rw [hs.out, hin]
         have hsq : ((s : Int) == ((TF n1 : Nat) : Int)) = true := by rw [hss]; simp
         clear hin hss hs
         have qX := fun i => hX.cell i
         go_wp2_with fail
         refine (known_true m _ (hE.below hB)).mono ?_; rintro e wc ⟨rfl, hb⟩
         replace hB := hB.trans (hb.mono hB.size); clear hb
         go_wp2_with fail
         go_ret
         exact ⟨rfl, hB⟩
end
end Go.Proofs.YtekmnelpkogppaaGreatDoor
