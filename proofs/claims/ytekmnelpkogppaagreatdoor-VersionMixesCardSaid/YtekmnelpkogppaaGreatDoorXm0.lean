import Derived.Test.YtekmnelpkogppaaGreatDoorKx11
set_option linter.unusedVariables false
set_option linter.unusedSimpArgs false
set_option maxRecDepth 100000
set_option maxHeartbeats 40000000
namespace Go.Proofs.YtekmnelpkogppaaGreatDoor
section
set_option linter.unusedVariables false
set_option linter.unusedSimpArgs false
section -- WkK2
open Go.RowKit
def ltr (s : ByteArray) : List Int := s.data.toList.map fun b => (b.toNat : Int)
end
section -- WkB
open Go.RowKit
def idxOf (c : Int) : List Int → Nat → Int
 | [], _ => -1
 | z :: zs, k => if c == z then k else idxOf c zs (k + 1)
end
section -- WkC
open Go.RowKit
def cntL (l : List Int) (zs : List Int) : Nat := (l.filter fun b => decide (0 ≤ idxOf b zs 0)).length
def lineV (ax F N x : Int) : Int := ax * (F - N) + (x - ax) * F
end
section -- WkE
open Go.RowKit
def scanN (p : Nat → Bool) : Nat → Nat → Nat
 | 0, t => t
 | f + 1, t => if p t then scanN p f (t + 1) else t
def lowV (F N L k : Int) : Int := k * (F - N) - L * N
def highV (F N L k : Int) : Int := (k + 1) * (F - N) + L * N
def firstS (ax F N P lo : Int) (sz : Nat) : Nat := scanN (fun t => decide (lineV ax F N (P + (t + 1)) ≤ lo)) sz 0
def endS (ax F N P lo hi : Int) (sz : Nat) : Nat := scanN (fun t => decide (lineV ax F N (P + t) < hi)) (sz - firstS ax F N P lo sz) (firstS ax F N P lo sz)
def insideS (ax F N P lo hi : Int) (sz : Nat) : Bool := decide (lineV ax F N P ≤ lo) && decide (hi ≤ lineV ax F N (P + sz))
end
section -- WkF
open Go.RowKit
def sumL (rows : List ByteArray) (c d : Nat) : Nat := (rows.map fun r => cntL (ltr (r.extract c d)) [35]).sum
def toneS (rows : List ByteArray) (c d : Nat) (ci : Bool) (f e : Nat) (ri : Bool) : Int :=
 if sumL ((rows.drop f).take (e - f)) c d = 0 then 46
 else if ci && ri && decide (sumL ((rows.drop f).take (e - f)) c d = (d - c) * (e - f)) then 35 else 43
end
section -- WkH
open Go.RowKit
def cellS (F L X Y N PX PY : Int) (rows : List ByteArray) (wd n k m : Nat) : Int :=
 toneS rows (firstS X F N PX (lowV F N L k) wd) (endS X F N PX (lowV F N L k) (highV F N L k) wd) (insideS X F N PX (lowV F N L k) (highV F N L k) wd)
  (firstS Y F N PY (lowV F N L m) n) (endS Y F N PY (lowV F N L m) (highV F N L m) n) (insideS Y F N PY (lowV F N L m) (highV F N L m) n)
def shadL (W H : Nat) (F L X Y N PX PY : Int) (rows : List ByteArray) (wd n q : Nat) : List Int := (List.range q).map fun c => cellS F L X Y N PX PY rows wd n (c % W) (c / W)
end
section -- WkM
open Go.RowKit
def wdOf (rows : List ByteArray) : Nat := (rows.headD ByteArray.empty).size
end
section -- WkS
open Go.RowKit
def shS (W H F L X Y N PX PY : Int) (rows : List ByteArray) : ByteArray := strOfNums (shadL W.toNat H.toNat F L X Y N PX PY rows (wdOf rows) rows.length (W.toNat * H.toNat))
end
end
section
open Go.RowKit Go.Lib
theorem refCopy_any (W l : Int) (A : Option Addr) (n cap : Nat) (w : World) (hn : n ≤ 1000) :
  Calls Tryz.prog 54 #[.agg #[.int .i64 W, .slice A n cap], .int .i64 l] w fun e w' => e = .returned (.bool (inB l 0 (n - 1))) ∧ Below w.heap.size w w' := by
 go_enter Tryz.func54, Tryz.ntmps54
 go_wp2_with (go_at_call 85; refine (in_any _ _ _ _).mono ?_; rintro e w1 ⟨rfl, rfl⟩)
 go_ret
 exact ⟨rfl, (Below.refl _ w).alloc (Nat.le_refl _) _⟩
end
section
theorem ed_map {α β : Type} [DecidableEq α] [DecidableEq β] (f : α → β) : ∀ (a b : List α), (∀ x ∈ a, ∀ y ∈ b, f x = f y → x = y) → ed (a.map f) (b.map f) = ed a b
 | [], b, _ => by simp [ed_nil]
 | x :: xs, b, h => by
  have ih := fun b hb => ed_map f xs b hb
  induction b with
  | nil => simp [ed_nil_r]
  | cons y ys ihb =>
   rw [List.map_cons, List.map_cons, ed_cons, ed_cons, ← List.map_cons, ← List.map_cons]
   rw [ih ys (fun p hp q hq => h p (by simp [hp]) q (by simp [hq])), ih (y :: ys) (fun p hp q hq => h p (by simp [hp]) q hq), ihb (fun p hp q hq => h p hp q (by simp [hq]))]
   by_cases e : x = y
   ·rw [if_pos e, if_pos (by rw [e])]
   ·rw [if_neg e, if_neg (fun e2 => e (h x (by simp) y (by simp) e2))]
end
section
open Go.RowKit Go.Lib Go.Maps
theorem refChanges_any (s : Nat) : ∀ (A : Option Addr) (n cap : Nat) (xs : List Int) (A2 : Option Addr) (n2 cap2 : Nat) (ys : List Int) (w : World), n + n2 ≤ s → n ≤ 1000 → n2 ≤ 1000 → n ≤ cap → n2 ≤ cap2 → Rd w w.heap.size 1 A n (xs.map (Value.int .i64)) → Rd w w.heap.size 1 A2 n2 (ys.map (Value.int .i64)) →
  Calls Tryz.prog 29 #[.slice A n cap, .slice A2 n2 cap2] w fun e w' => e = .returned (.int .i64 (ed xs ys : Nat)) ∧ Below w.heap.size w w' := by
 induction s using Nat.strongRecOn with
 | ind s ih =>
 intro A n cap xs A2 n2 cap2 ys w hs hn hn2 hc hc2 hr hr2
 have hl1 : xs.length = n := by simpa using hr.len
 have hl2 : ys.length = n2 := by simpa using hr2.len
 match xs, ys, hl1, hl2 with
 | [], ys, hl1, hl2 =>
  obtain rfl : n = 0 := hl1.symm
  have he : ((ed ([] : List Int) ys : Nat) : Int) = n2 := by rw [ed_nil, hl2]
  rw [he]
  clear he ih
  go_enter Tryz.func29, Tryz.ntmps29
  go_wp2_with (fail)
  go_ret
  exact ⟨rfl, Below.refl _ _⟩
 | x :: xs, [], hl1, hl2 =>
  obtain rfl : n2 = 0 := hl2.symm
  have he : ((ed (x :: xs) ([] : List Int) : Nat) : Int) = n := by rw [ed_nil_r, hl1]
  have hn0 : ((n : Int) == 0) = false := by rw [beq_eq_false_iff_ne]; simp at hl1; omega
  rw [he]
  clear he ih
  go_enter Tryz.func29, Tryz.ntmps29
  go_wp2_with (fail)
  go_ret
  exact ⟨rfl, Below.refl _ _⟩
 | x :: xs, y :: ys, hl1, hl2 =>
  simp only [List.length_cons] at hl1 hl2
  obtain ⟨b, off, hz, rfl, hb, hcell⟩ := hr.atm (show 0 < n by omega)
  obtain ⟨b2, off2, hz2, rfl, hb2, hcell2⟩ := hr2.atm (show 0 < n2 by omega)
  simp only [List.getElem_cons_zero, Nat.add_zero] at hcell hcell2
  have hni : (0 : Int) < n := by omega
  have hn2i : (0 : Int) < n2 := by omega
  have hn0 : ((n : Int) == 0) = false := by rw [beq_eq_false_iff_ne]; omega
  have hn20 : ((n2 : Int) == 0) = false := by rw [beq_eq_false_iff_ne]; omega
  have hd1 := hr.cutA' (k := 1) (m := n) (cap := cap) (by omega) (Nat.le_refl _) hc
  have hd2 := hr2.cutA' (k := 1) (m := n2) (cap := cap2) (by omega) (Nat.le_refl _) hc2
  simp only [List.map_cons, Nat.mul_one, List.drop_succ_cons, List.drop_zero] at hd1 hd2
  rw [List.take_of_length_le (by rw [List.length_map]; omega)] at hd1 hd2
  have hS1 : ∀ w, (Instr.slice 25 (.slice (some ⟨b, off, none⟩) n cap) (some (.int .i64 1)) none none).run Tryz.prog w = .ok (.slice (cutA (some ⟨b, off, none⟩) cap 1 1) (n - 1) (cap - 1)) w := fun w => run_slice_lo (P := Tryz.prog) 25 3 1 Tryz.underlying25 Tryz.sizeOf3 _ n cap .i64 1 (by omega) hc w
  have hS2 : ∀ w, (Instr.slice 25 (.slice (some ⟨b2, off2, none⟩) n2 cap2) (some (.int .i64 1)) none none).run Tryz.prog w = .ok (.slice (cutA (some ⟨b2, off2, none⟩) cap2 1 1) (n2 - 1) (cap2 - 1)) w := fun w => run_slice_lo (P := Tryz.prog) 25 3 1 Tryz.underlying25 Tryz.sizeOf3 _ n2 cap2 .i64 1 (by omega) hc2 w
  have hr1 := fun wx (hx : Below w.heap.size w wx) => ih (n - 1 + (n2 - 1)) (by omega) (cutA (some ⟨b, off, none⟩) cap 1 1) (n - 1) (cap - 1) xs (cutA (some ⟨b2, off2, none⟩) cap2 1 1) (n2 - 1) (cap2 - 1) ys wx (Nat.le_refl _) (by omega) (by omega) (by omega) (by omega) (rdB hd1 hx) (rdB hd2 hx)
  have hr2' := fun wx (hx : Below w.heap.size w wx) => ih (n - 1 + n2) (by omega) (cutA (some ⟨b, off, none⟩) cap 1 1) (n - 1) (cap - 1) xs (some ⟨b2, off2, none⟩) n2 cap2 (y :: ys) wx (Nat.le_refl _) (by omega) (by omega) (by omega) (by omega) (rdB hd1 hx) (rdB hr2 hx)
  have hr3 := fun wx (hx : Below w.heap.size w wx) => ih (n + (n2 - 1)) (by omega) (some ⟨b, off, none⟩) n cap (x :: xs) (cutA (some ⟨b2, off2, none⟩) cap2 1 1) (n2 - 1) (cap2 - 1) ys wx (Nat.le_refl _) (by omega) (by omega) (by omega) (by omega) (rdB hr hx) (rdB hd2 hx)
  have hcc1 : ∀ wx, Below w.heap.size w wx → wx.cell? ⟨b, off, none⟩ = some (.int .i64 x) := fun wx hx => by rw [hx.cell hb]; exact hcell
  have hcc2 : ∀ wx, Below w.heap.size w wx → wx.cell? ⟨b2, off2, none⟩ = some (.int .i64 y) := fun wx hx => by rw [hx.cell hb2]; exact hcell2
  have hb1 := ed_le xs ys
  have hb2' := ed_le xs (y :: ys)
  have hb3 := ed_le (x :: xs) ys
  simp only [List.length_cons] at hb2' hb3
  have heq : ed (x :: xs) (y :: ys) = if x = y then ed xs ys else 1 + min (ed xs ys) (min (ed xs (y :: ys)) (ed (x :: xs) ys)) := rfl
  generalize cutA (some ⟨b, off, none⟩) cap 1 1 = A1 at *
  generalize cutA (some ⟨b2, off2, none⟩) cap2 1 1 = A21 at *
  obtain ⟨D, hD⟩ : ∃ D, D = ed (x :: xs) (y :: ys) := ⟨_, rfl⟩
  rw [← hD] at heq ⊢
  clear hD
  generalize ed xs ys = e1 at *
  generalize ed xs (y :: ys) = e2 at *
  generalize ed (x :: xs) ys = e3 at *
  have HR1 := Lib.hid hr1; have HR2 := Lib.hid hr2'; have HR3 := Lib.hid hr3; have HC1 := Lib.hid hcc1; have HC2 := Lib.hid hcc2; have HEQ := Lib.hid heq
  have hB : Below w.heap.size w w := Below.refl _ _
  clear hr1 hr2' hr3 hcc1 hcc2 heq hcell hcell2 hd1 hd2 hz hz2 ih
  by_cases hxy : x = y
  ·subst hxy
   have HD : Hid (D = e1) := Lib.hid (by rw [HEQ.out, if_pos rfl])
   clear HR2 HR3
   go_enter Tryz.func29, Tryz.ntmps29
   go_upto_region 5 with (fail)
   refine wp_region_blw (by kernel_rfl) (by kernel_rfl) ?_
   repeat (go_big_quiet_step (fail))
   go_big_quiet_step ((go_at_call 29; exact Calls.blw_of _ (HR1.out _ (hB.trans ((Blw.h _).mono hB.size)))))
   repeat (go_big_quiet_step (fail))
   refine wpQuiet_nil ?_
   rintro W3 ⟨⟨_, hb3⟩, rfl⟩
   replace hB := hB.trans (hb3.mono hB.size); clear hb3
   go_upto_region 6 with (fail)
   have hq1 := fun (p : Blw W3.heap.size W3) => HC1.out _ (hB.trans ((Blw.h p).mono hB.size))
   have hq2 := fun (p : Blw W3.heap.size W3) => HC2.out _ (hB.trans ((Blw.h p).mono hB.size))
   refine wp_region_blw (by kernel_rfl) (by kernel_rfl) ?_
   repeat (go_big_quiet_step (fail))
   refine wpQuiet_nil ?_
   rintro W4 ⟨⟨_, hb3⟩, rfl⟩
   replace hB := hB.trans (hb3.mono hB.size); clear hb3
   clear hq1 hq2
   go_wp2_with (fail)
   go_ret
   exact ⟨by rw [HD.out]; rfl, hB⟩
  ·have HD : Hid (D = 1 + min e1 (min e2 e3)) := Lib.hid (by rw [HEQ.out, if_neg hxy])
   have hw1 : IntKind.i64.wrap (1 + (e1 : Int)) = 1 + (e1 : Int) := IntWalk.i64_in _ (by omega)
   have hw2 : IntKind.i64.wrap (1 + (e2 : Int)) = 1 + (e2 : Int) := IntWalk.i64_in _ (by omega)
   have hw3 : IntKind.i64.wrap (1 + (e3 : Int)) = 1 + (e3 : Int) := IntWalk.i64_in _ (by omega)
   go_enter Tryz.func29, Tryz.ntmps29
   go_upto_region 5 with (fail)
   refine wp_region_blw (by kernel_rfl) (by kernel_rfl) ?_
   repeat (go_big_quiet_step (fail))
   go_big_quiet_step ((go_at_call 29; exact Calls.blw_of _ (HR1.out _ (hB.trans ((Blw.h _).mono hB.size)))))
   repeat (go_big_quiet_step (fail))
   refine wpQuiet_nil ?_
   rintro W3 ⟨⟨_, hb3⟩, rfl⟩
   replace hB := hB.trans (hb3.mono hB.size); clear hb3
   go_upto_region 6 with (fail)
   have hq1 := fun (p : Blw W3.heap.size W3) => HC1.out _ (hB.trans ((Blw.h p).mono hB.size))
   have hq2 := fun (p : Blw W3.heap.size W3) => HC2.out _ (hB.trans ((Blw.h p).mono hB.size))
   refine wp_region_blw (by kernel_rfl) (by kernel_rfl) ?_
   repeat (go_big_quiet_step (fail))
   refine wpQuiet_nil ?_
   rintro W4 ⟨⟨_, hb3⟩, rfl⟩
   replace hB := hB.trans (hb3.mono hB.size); clear hb3
   clear hq1 hq2
   go_upto_region 8 with (fail)
   refine wp_region_blw (by kernel_rfl) (by kernel_rfl) ?_
   repeat (go_big_quiet_step (fail))
   go_big_quiet_step ((go_at_call 29; exact Calls.blw_of _ (HR2.out _ (hB.trans ((Blw.h _).mono hB.size)))))
   repeat (go_big_quiet_step (fail))
   go_big_quiet_step ((go_at_call 29; exact Calls.blw_of _ (HR3.out _ (hB.trans ((Blw.h _).mono hB.size)))))
   repeat (go_big_quiet_step (fail))
   refine wpQuiet_nil ?_
   rintro W5 ⟨⟨_, hb3⟩, rfl⟩
   replace hB := hB.trans (hb3.mono hB.size); clear hb3
   all_goals try go_wp2_with (fail)
   all_goals
    go_ret
    refine ⟨congrArg Ending.returned (congrArg (Value.int .i64) ?_), hB⟩
    have h := HD.out
    omega
end
section
open Go.RowKit Go.Lib
theorem IA.toW {w w' : World} {A : Option Addr} {n cap : Nat} {l : List Int} (h : IA w A n cap l) (hb : Below w.heap.size w w') : IA w' A n cap l := ⟨h.1, h.2.1, rdB h.2.2 hb⟩
theorem u8_inj {x y : Int} (hx : 0 ≤ x ∧ x ≤ 2) (hy : 0 ≤ y ∧ y ≤ 2) (e : UInt8.ofNat x.toNat = UInt8.ofNat y.toNat) : x = y := by
 have h := congrArg UInt8.toNat e
 simp only [UInt8.toNat_ofNat'] at h
 omega
theorem edB_int {a b : List Int} (ha : ∀ x ∈ a, 0 ≤ x ∧ x ≤ 2) (hb : ∀ x ∈ b, 0 ≤ x ∧ x ≤ 2) : edB (lbS a) (lbS b) = ed a b := by
 show ed (lbL a) (lbL b) = ed a b
 unfold lbL
 exact ed_map _ a b (fun x hx y hy e => u8_inj (ha x hx) (hb y hy) e)
theorem book_W {W : Int} {cs : List VC} (h : bookB W cs = true) : 1 ≤ W ∧ W ≤ 3 := by
 unfold bookB at h
 simp only [Bool.and_eq_true] at h
 simpa [inB] using h.1.1.1
end
section
open Go.RowKit Go.Lib Go.Maps
theorem sumI_app (a : List Int) : ∀ (b : List Int), sumI (a ++ b) = sumI a + sumI b := by
 refine revInd ?_ ?_
 ·rw [List.append_nil]; show sumI a = sumI a + 0; omega
 ·intro l x ih
  rw [← List.append_assoc, sumI_snoc, sumI_snoc, ih]; omega
theorem book_small {wn : Nat} {cs : List VC} (h : bookB (wn : Int) cs = true) : ∀ c ∈ cs, ∀ v ∈ c.ls, ∀ x ∈ v.ws, 0 ≤ x ∧ x ≤ 2 := fun c hc v hv => by
 have hW := book_W h
 unfold bookB at h
 simp only [Bool.and_eq_true, List.all_eq_true] at h
 have h2 := (h.2 c hc).2 v hv
 unfold vlB at h2
 rw [Bool.and_eq_true] at h2
 exact (ln_small hW h2.1).2
end
section
open Go.RowKit Go.Lib Go.Maps
theorem BkG.head0 {wn : Nat} {A : Option Addr} {n : Nat} {cs : List VC} {w : World} {B : Nat} (h : BkG wn A n cs w B) : ∃ b off a0 k0, A = some ⟨b, off, none⟩ ∧ b < B ∧ w.cell? ⟨b, off, none⟩ = some (.slice a0 (headN cs) k0) := by
 obtain ⟨b, off, hz, e, hb, hc⟩ := h.2.2.2.1.atm (show 0 < n by have := h.2.1; omega)
 refine ⟨b, off, cs[0].A, cs[0].cap, e, hb, ?_⟩
 rw [Nat.add_zero] at hc
 rw [hc, ← (h.2.2.2.2.2.1 _ (List.getElem_mem hz)).1]; rfl
end
section
open Go.RowKit Go.Lib Go.Maps
def tkF (v : VL) (l : List Int) : Nat := if v.lost then 0 else ed l v.ws
theorem taken_any (A1 : Option Addr) (n1 c1 : Nat) (l : List Int) (v : VL) (w : World) (h1 : IA w A1 n1 c1 l) (hv : v.ok w w.heap.size) (hn1 : n1 ≤ 6) (hvn : v.n ≤ 4) :
  Calls Tryz.prog 101 #[.slice A1 n1 c1, .agg #[.bool v.lost, .slice v.A v.n v.cap]] w fun e w' => e = .returned (.int .i64 (tkF v l : Nat)) ∧ Below w.heap.size w w' := by
 obtain ⟨lost, vA, vn, vc, vws⟩ := v
 dsimp only at hvn hv ⊢
 obtain ⟨v1, v2, v3⟩ := hv
 dsimp only at v1 v2 v3
 have hX := Blk.new w 76 #[.bool lost, .slice vA vn vc]
 have hB : Below w.heap.size w (w.alloc (.cells #[.bool lost, .slice vA vn vc] 76)) := (Below.refl _ w).alloc (Nat.le_refl _) _
 have qX := fun i => hX.cell i
 have hrc := refChanges_any (n1 + vn) A1 n1 c1 l vA vn vc vws (w.alloc (.cells #[.bool lost, .slice vA vn vc] 76)) (Nat.le_refl _) (by omega) (by omega) h1.1 v1 (h1.toW hB).2.2 (rdB v3 hB)
 have e : tkF ⟨lost, vA, vn, vc, vws⟩ l = if lost then 0 else ed l vws := rfl
 rw [e]
 generalize ed l vws = E at *
 have HRC := Lib.hid hrc; clear hrc v3 e h1
 cases lost
 ·rw [if_neg (by decide)]
  go_enter Tryz.func101, Tryz.ntmps101
  go_wp2_with fail
  refine (HRC.out).mono ?_; rintro e w1 ⟨rfl, hb⟩
  go_wp2_with fail
  go_ret
  exact ⟨rfl, hB.trans (hb.mono hB.size)⟩
 ·rw [if_pos rfl]
  go_enter Tryz.func101, Tryz.ntmps101
  go_wp2_with fail
  go_ret
  exact ⟨rfl, hB⟩
end
section
open Go.RowKit Go.Lib Go.Maps
theorem tkF_le (v : VL) (l : List Int) (hl : l.length ≤ 4) (hv : v.ws.length ≤ 4) : tkF v l ≤ 4 := by
 unfold tkF
 split
 ·omega
 ·have := ed_le l v.ws; omega
theorem okVL {v : VL} {w w' : World} (h : v.ok w w.heap.size) (hb : Below w.heap.size w w') : v.ok w' w'.heap.size := ⟨h.1, h.2.1, rdB h.2.2 hb⟩
end
section
open Go.RowKit Go.Lib Go.Maps
def vlAt (cs : List VC) (p k : Nat) : VL := ((cs[p]?).bind fun c => c.ls[k]?).getD ⟨true, none, 0, 0, []⟩
theorem vlAt_ls {cs : List VC} {p k : Nat} {c : VC} (h : cs[p]? = some c) (hk : k < c.ls.length) : c.ls[k]? = some (vlAt cs p k) := by
 unfold vlAt
 rw [h, Option.bind_some, List.getElem?_eq_getElem hk]; rfl
theorem BkG.rows {wn : Nat} {A : Option Addr} {n : Nat} {cs : List VC} {w : World} {B : Nat} (h : BkG wn A n cs w B) : ∃ b off, A = some ⟨b, off, none⟩ ∧ b < B ∧ ∀ p, p < n → ∃ b2 off2 cc, w.cell? ⟨b, off + p, none⟩ = some (.slice (some ⟨b2, off2, none⟩) (headN cs) cc) ∧ b2 < B ∧
  ∀ k, k < headN cs → w.cell? ⟨b2, off2 + k * 2, none⟩ = some (.bool (vlAt cs p k).lost) ∧ w.cell? ⟨b2, off2 + k * 2 + 1, none⟩ = some (.slice (vlAt cs p k).A (vlAt cs p k).n (vlAt cs p k).cap) ∧ (vlAt cs p k).ok w B ∧ (vlAt cs p k).n ≤ 4 ∧ (vlAt cs p k).ws.length ≤ 4 := by
 obtain ⟨b, off, hz, e, hb, hc⟩ := h.2.2.2.1.atm (show 0 < n by have := h.2.1; omega)
 refine ⟨b, off, e, hb, fun p hp => ?_⟩
 obtain ⟨b', off', hz', e', _, hc'⟩ := h.2.2.2.1.atm hp
 rw [e] at e'
 cases e'
 have hin := List.getElem_mem hz'
 have hco := h.2.2.2.2.1 _ hin
 have hcn := h.2.2.2.2.2.1 _ hin
 have hcv := h.2.2.2.2.2.2 _ hin
 have hp2 : cs[p]? = some cs[p] := List.getElem?_eq_getElem hz'
 have hL := h.2.2.1.1
 have h0 := hco.2.2.2.at2 (show 0 < cs[p].n by omega)
 obtain ⟨b2, off2, _, e2, hb2, _, _⟩ := h0
 refine ⟨b2, off2, cs[p].cap, by rw [hc', ← hcn.1, ← e2]; rfl, hb2, fun k hk => ?_⟩
 obtain ⟨b3, off3, hz3, e3, _, hv0, hv1⟩ := hco.2.2.2.at2 (show k < cs[p].n by omega)
 rw [e2] at e3
 cases e3
 have hl := vlAt_ls hp2 hz3
 rw [List.getElem?_eq_getElem hz3] at hl
 have hl2 := Option.some.inj hl
 rw [← hl2]
 have hv := hcv _ (List.getElem_mem hz3)
 exact ⟨hv0, hv1, hco.2.2.1 _ (List.getElem_mem hz3), hv.1, hv.2.1⟩
theorem words155_any {wn : Nat} {A : Option Addr} {n : Nat} (cap : Nat) {cs : List VC} (p k : Nat) {w : World} (h : BkG wn A n cs w w.heap.size) (hp : p < n) (hk : k < headN cs) :
  Calls Tryz.prog 155 #[.agg #[.int .i64 (wn : Int), .slice A n cap], .int .i64 (p : Int), .int .i64 (k : Int)] w fun e w' => e = .returned (.slice (vlAt cs p k).A (vlAt cs p k).n (vlAt cs p k).cap) ∧ Below w.heap.size w w' := by
 obtain ⟨b, off, rfl, hbw, hr⟩ := h.rows
 obtain ⟨b2, off2, cc, hc, hb2, hl⟩ := hr p hp
 obtain ⟨_, h1, _, _, _⟩ := hl k hk
 have hX := Blk.new w 24 #[.int .i64 (wn : Int), .slice (some ⟨b, off, none⟩) n cap]
 have hB : Below w.heap.size w (w.alloc (.cells #[.int .i64 (wn : Int), .slice (some ⟨b, off, none⟩) n cap] 24)) := (Below.refl _ w).alloc (Nat.le_refl _) _
 have qX := fun i => hX.cell i
 have hpi : (p : Int) < n := by omega
 have hki : (k : Int) < headN cs := by omega
 have hq1 := (hB.cell (p := ⟨b, off + p, none⟩) hbw).trans hc
 have hq2 := (hB.cell (p := ⟨b2, off2 + k * 2 + 1, none⟩) hb2).trans h1
 generalize vlAt cs p k = v at *
 generalize headN cs = L at *
 clear hl hr h hc h1
 go_enter Tryz.func155, Tryz.ntmps155
 go_wp2_with fail
 go_ret
 exact ⟨rfl, hB⟩
def mixF (cs : List VC) (p a b i : Nat) : Nat → Nat
 | 0 => 0
 | k + 1 => mixF cs p a b i k + tkF (vlAt cs p k) (vlAt cs (if k < i then a else b) k).ws
theorem mixF_le {wn : Nat} {A : Option Addr} {n : Nat} {cs : List VC} {w : World} {B : Nat} (h : BkG wn A n cs w B) {p a b i : Nat} (hp : p < n) (ha : a < n) (hb : b < n) : ∀ k, k ≤ headN cs → mixF cs p a b i k ≤ 4 * k
 | 0, _ => Nat.zero_le _
 | k + 1, hk => by
  obtain ⟨_, _, _, _, hr⟩ := h.rows
  have h1 := mixF_le h (i := i) hp ha hb k (by omega)
  obtain ⟨_, _, _, _, _, hl⟩ := hr p hp
  obtain ⟨_, _, _, _, v1⟩ := hl k (by omega)
  have hab : (if k < i then a else b) < n := by split <;> assumption
  obtain ⟨_, _, _, _, _, hl2⟩ := hr _ hab
  obtain ⟨_, _, _, _, v2⟩ := hl2 k (by omega)
  have := tkF_le _ _ v2 v1
  rw [mixF]; omega
theorem mixes118_any {wn : Nat} {A : Option Addr} {n : Nat} (cap : Nat) {cs : List VC} (p a b i : Nat) (z : Int) {w : World} (h : BkG wn A n cs w w.heap.size) (hp : p < n) (ha : a < n) (hb : b < n) (hi : i ≤ 100) :
  Calls Tryz.prog 118 #[.agg #[.int .i64 (wn : Int), .slice A n cap], .int .i64 (p : Int), .agg #[.int .i64 (a : Int), .int .i64 (b : Int), .int .i64 (i : Int), .int .i64 z]] w fun e w' => e = .returned (.int .i64 (mixF cs p a b i (headN cs) : Nat)) ∧ Below w.heap.size w w' := by
 have hwd := fun (q k : Nat) (hq : q < n) (hk : k < headN cs) (wx : World) (hx : Below w.heap.size w wx) => words155_any cap q k (h.toW hx) hq hk
 have hF := fun k (hk : k ≤ headN cs) => mixF_le h (i := i) hp ha hb k hk
 have hL4 := h.2.2.1
 obtain ⟨bb, off, rfl, hbw, hr⟩ := h.rows
 have hX := (Blk.new w 24 #[.int .i64 (wn : Int), .slice (some ⟨bb, off, none⟩) n cap]).alloc (.cells #[.int .i64 (a : Int), .int .i64 (b : Int), .int .i64 (i : Int), .int .i64 z] 93)
 have hM := blk2_1 w (.cells #[.int .i64 (wn : Int), .slice (some ⟨bb, off, none⟩) n cap] 24) 93 #[.int .i64 (a : Int), .int .i64 (b : Int), .int .i64 (i : Int), .int .i64 z]
 have hB : Below w.heap.size w ((w.alloc (.cells #[.int .i64 (wn : Int), .slice (some ⟨bb, off, none⟩) n cap] 24)).alloc (.cells #[.int .i64 (a : Int), .int .i64 (b : Int), .int .i64 (i : Int), .int .i64 z] 93)) := ((Below.refl _ w).alloc (Nat.le_refl _) _).alloc (by simp only [World.size_alloc]; omega) _
 obtain ⟨L, hL⟩ : ∃ L, L = headN cs := ⟨_, rfl⟩
 simp only [← hL] at hwd hF hL4 hr ⊢
 obtain ⟨F, hFe⟩ : ∃ F, F = mixF cs p a b i := ⟨_, rfl⟩
 simp only [← hFe] at hF ⊢
 have hF1 : ∀ k, F (k + 1) = F k + tkF (vlAt cs p k) (vlAt cs (if k < i then a else b) k).ws := fun k => by rw [hFe]; rfl
 have hF0 : F 0 = 0 := by rw [hFe]; rfl
 have HWD := Lib.hid hwd; have HF := Lib.hid hF; have HR := Lib.hid hr; have HF1 := Lib.hid hF1; have HF0 := Lib.hid hF0
 clear hwd hF hr hF1 hF0 hFe hL h
 have hpi : (p : Int) < n := by omega
 obtain ⟨b0, off0, cc0, hc0, hb0, _⟩ := HR.out 0 (by omega)
 rw [Nat.add_zero] at hc0
 obtain ⟨bp, offp, ccp, hcp, hbp, hlp⟩ := HR.out p hp
 have HLP := Lib.hid hlp; clear hlp
 have hn0 : (0 : Int) < n := by omega
 go_enter Tryz.func118, Tryz.ntmps118
 go_wp2_with fail
 generalize (w.alloc (.cells #[.int .i64 (wn : Int), .slice (some ⟨bb, off, none⟩) n cap] 24)).alloc (.cells #[.int .i64 (a : Int), .int .i64 (b : Int), .int .i64 (i : Int), .int .i64 z] 93) = W0 at *
 go_loopg [7, 8] L (fun g v i2 wr => ∃ k s : Nat, g = L - k ∧ k ≤ L ∧ v = .int .i64 s ∧ i2 = .int .i64 k ∧ Hid (s = F k) ∧ s ≤ 4 * k ∧ Below w.heap.size w wr ∧ Blk wr w.heap.size 24 #[.int .i64 (wn : Int), .slice (some ⟨bb, off, none⟩) n cap] ∧ Blk wr (w.heap.size + 1) 93 #[.int .i64 (a : Int), .int .i64 (b : Int), .int .i64 (i : Int), .int .i64 z])
 case atStart => exact ⟨0, 0, rfl, Nat.zero_le _, rfl, rfl, Lib.hid HF0.out.symm, Nat.le_refl _, hB, hX, hM⟩
 case round =>
  clear hX hB hM
  obtain ⟨k, s, hg, hk, rfl, rfl, hs, hsk, hB, hX, hM⟩ := hrel
  rename World => wr
  have HG := Lib.hid hg; clear hg
  have qX := fun i => hX.cell i; have qM := fun i => hM.cell i
  have hc0' := (hB.cell (p := ⟨bb, off, none⟩) hbw).trans hc0
  by_cases hlt : k < L
  ·have hlti : (k : Int) < L := by omega
   obtain ⟨hv0, hv1, hvok, hvn, hvl⟩ := HLP.out k hlt
   have hab : (if k < i then a else b) < n := by split <;> assumption
   obtain ⟨bq, offq, ccq, hcq, hbq, hlq⟩ := HR.out _ hab
   obtain ⟨_, _, huok, hun, hul⟩ := hlq k hlt
   have hwd := fun (x : Blw wr.heap.size wr) => HWD.out _ k hab hlt x.toW (hB.trans (x.h.mono hB.size))
   have hF1 := HF1.out k
   rw [← hs.out] at hF1
   have ht4 := tkF_le _ _ hul hvl
   generalize vlAt cs p k = v at *
   have hc1 := fun (x : Blw wr.heap.size wr) => taken_any (vlAt cs (if k < i then a else b) k).A (vlAt cs (if k < i then a else b) k).n (vlAt cs (if k < i then a else b) k).cap (vlAt cs (if k < i then a else b) k).ws v x.toW ⟨huok.1, huok.2.1, rdB huok.2.2 (hB.trans (x.h.mono hB.size))⟩ (okVL hvok (hB.trans (x.h.mono hB.size))) (by omega) hvn
   generalize vlAt cs (if k < i then a else b) k = u at *
   obtain ⟨t, ht⟩ : ∃ t, t = tkF v u.ws := ⟨_, rfl⟩
   rw [← ht] at hF1 ht4
   simp only [← ht] at hc1
   have HF2 := Lib.hid hF1; have HC1 := Lib.hid hc1; have HWD2 := Lib.hid hwd
   have hcpr := (hB.cell (p := ⟨bb, off + p, none⟩) hbw).trans hcp
   have hv0r := (hB.cell (p := ⟨bp, offp + k * 2, none⟩) hbp).trans hv0
   have hv1r := (hB.cell (p := ⟨bp, offp + k * 2 + 1, none⟩) hbp).trans hv1
   have hq1 := fun (x : Blw wr.heap.size wr) => ((Blw.h x).cell (p := ⟨bb, off + p, none⟩) (Nat.lt_of_lt_of_le hbw hB.size)).trans hcpr
   have hq2 := fun (x : Blw wr.heap.size wr) => ((Blw.h x).cell (p := ⟨bp, offp + k * 2, none⟩) (Nat.lt_of_lt_of_le hbp hB.size)).trans hv0r
   have hq3 := fun (x : Blw wr.heap.size wr) => ((Blw.h x).cell (p := ⟨bp, offp + k * 2 + 1, none⟩) (Nat.lt_of_lt_of_le hbp hB.size)).trans hv1r
   have hq4 := fun (x : Blw wr.heap.size wr) j => blw_blk hX x j
   have hlX := hX.lt; have hlM := hM.lt
   clear hF1 hc1 hwd ht hs hvok huok hlq hv0 hv1 hv0r hv1r hcpr
   by_cases hki : k < i
   ·have hkii : ¬ (i : Int) ≤ k := by omega
    rw [if_pos hki] at HWD2
    go_upto_region 8 with (fail)
    clear qM
    refine wp_region_blw (by kernel_rfl) (by kernel_rfl) ?_
    repeat (go_big_quiet_step (fail))
    go_big_quiet_step ((go_at_call 155; exact Calls.blw_of _ (HWD2.out _)))
    repeat (go_big_quiet_step (fail))
    go_big_quiet_step ((go_at_call 101; exact Calls.blw_of _ (HC1.out _)))
    repeat (go_big_quiet_step (fail))
    refine wpQuiet_nil ?_
    rintro W3 ⟨⟨_, hb3⟩, rfl⟩
    clear hq1 hq2 hq3 hq4 hlX HC1 HWD2 qX
    go_wp2_with fail
    go_roundg (L - (k + 1))
    case measure => rw [HG.out]; omega
    case rel => exact ⟨k + 1, s + t, rfl, by omega, by go_num, by go_num, Lib.hid HF2.out.symm, by omega, hB.trans (hb3.mono hB.size), hX.below hb3 hX.lt, hM.below hb3 hM.lt⟩
   ·have hkii : (i : Int) ≤ k := by omega
    rw [if_neg hki] at HWD2
    go_upto_region 8 with (fail)
    clear qM
    refine wp_region_blw (by kernel_rfl) (by kernel_rfl) ?_
    repeat (go_big_quiet_step (fail))
    go_big_quiet_step ((go_at_call 155; exact Calls.blw_of _ (HWD2.out _)))
    repeat (go_big_quiet_step (fail))
    go_big_quiet_step ((go_at_call 101; exact Calls.blw_of _ (HC1.out _)))
    repeat (go_big_quiet_step (fail))
    refine wpQuiet_nil ?_
    rintro W3 ⟨⟨_, hb3⟩, rfl⟩
    clear hq1 hq2 hq3 hq4 hlX HC1 HWD2 qX
    go_wp2_with fail
    go_roundg (L - (k + 1))
    case measure => rw [HG.out]; omega
    case rel => exact ⟨k + 1, s + t, rfl, by omega, by go_num, by go_num, Lib.hid HF2.out.symm, by omega, hB.trans (hb3.mono hB.size), hX.below hb3 hX.lt, hM.below hb3 hM.lt⟩
  ·obtain rfl : k = L := by omega
   have hge : ¬ (k : Int) < k := by omega
   have hs2 := hs.out
   subst hs2
   go_wp2_with fail
   go_ret
   exact ⟨rfl, hB⟩
end
section
open Go.RowKit Go.Lib Go.Maps
theorem Mixed_no1 (W : Int) (A : Option Addr) (n cap : Nat) (cs : List VC) (q : Int) (w : World) (hn : n ≤ maxLen) (hr : Rd w w.heap.size 1 A n (cs.map VC.val)) (hc : ∀ c ∈ cs, c.ok w w.heap.size) (h1 : bookB W cs = false) :
  Calls Tryz.prog 68 #[.agg #[.int .i64 W, .slice A n cap], .int .i64 q] w fun e w' => e = .returned (.tuple #[.agg #[.int .i64 0, .int .i64 0, .int .i64 0, .int .i64 0], .int .i64 2]) ∧ Below w.heap.size w w' := by
 have hX := (Blk.new w 24 #[.int .i64 W, .slice A n cap]).alloc (.cells #[.int .i64 0, .int .i64 0, .int .i64 0, .int .i64 0] 93)
 have hS := blk2_1 w (.cells #[.int .i64 W, .slice A n cap] 24) 93 #[.int .i64 0, .int .i64 0, .int .i64 0, .int .i64 0]
 have hB : Below w.heap.size w ((w.alloc (.cells #[.int .i64 W, .slice A n cap] 24)).alloc (.cells #[.int .i64 0, .int .i64 0, .int .i64 0, .int .i64 0] 93)) := ((Below.refl _ w).alloc (Nat.le_refl _) _).alloc (by simp only [World.size_alloc]; omega) _
 have qX := fun i => hX.cell i
 have hgb := fun (wx : World) (hx : Below w.heap.size w wx) => goodBook_any W A n cap cs wx hn (rdB hr hx) (fun c h => okB (hc c h) hx)
 simp only [h1] at hgb
 have HGB := Lib.hid hgb
 clear hgb h1 hr hc
 go_enter Tryz.func68, Tryz.ntmps68
 go_wp2_with fail
 refine (HGB.out _ hB).mono ?_; rintro e w1 ⟨rfl, hb⟩; have hbS := hb; replace hX := hX.below hb hX.lt; replace hB := hB.trans (hb.mono hB.size); clear hb qX; have qX := fun i => hX.cell i; replace hS := hS.below hbS hS.lt
 have q66 := fun i => hS.cell i; have f66 := fun i => hS.frozen i; have l66 := hS.lt
 go_wp2_with fail
 have G : Blk ((((w1.setCell ⟨w.heap.size + 1, 0, none⟩ (.int .i64 0)).setCell ⟨w.heap.size + 1, 1, none⟩ (.int .i64 0)).setCell ⟨w.heap.size + 1, 2, none⟩ (.int .i64 0)).setCell ⟨w.heap.size + 1, 3, none⟩ (.int .i64 0)) (w.heap.size + 1) 93 #[.int .i64 0, .int .i64 0, .int .i64 0, .int .i64 0] := by simpa using (((hS.set_ 0 (.int .i64 0)).set_ 1 (.int .i64 0)).set_ 2 (.int .i64 0)).set_ 3 (.int .i64 0)
 have qG := fun i => G.cell i
 refine bodyPost_ret (v := .tuple #[.agg #[.int .i64 0, .int .i64 0, .int .i64 0, .int .i64 0], .int .i64 2]) (by simp [results, Tryz.results68, go_sem, qG]) rfl ⟨rfl, (((hB.setCell (p := ⟨w.heap.size + 1, 0, none⟩) (show w.heap.size ≤ w.heap.size + 1 by omega) (.int .i64 0)).setCell (p := ⟨w.heap.size + 1, 1, none⟩) (show w.heap.size ≤ w.heap.size + 1 by omega) (.int .i64 0)).setCell (p := ⟨w.heap.size + 1, 2, none⟩) (show w.heap.size ≤ w.heap.size + 1 by omega) (.int .i64 0)).setCell (p := ⟨w.heap.size + 1, 3, none⟩) (show w.heap.size ≤ w.heap.size + 1 by omega) (.int .i64 0)⟩
theorem Mixed_no2 {wn : Nat} {A : Option Addr} {n : Nat} (cap : Nat) {cs : List VC} (q : Int) {w : World} (hb : BkG wn A n cs w w.heap.size) (h1 : bookB (wn : Int) cs = true) (h2 : inB q 0 ((n : Int) - 1) = false) :
  Calls Tryz.prog 68 #[.agg #[.int .i64 (wn : Int), .slice A n cap], .int .i64 q] w fun e w' => e = .returned (.tuple #[.agg #[.int .i64 0, .int .i64 0, .int .i64 0, .int .i64 0], .int .i64 2]) ∧ Below w.heap.size w w' := by
 have hX := (Blk.new w 24 #[.int .i64 (wn : Int), .slice A n cap]).alloc (.cells #[.int .i64 0, .int .i64 0, .int .i64 0, .int .i64 0] 93)
 have hS := blk2_1 w (.cells #[.int .i64 (wn : Int), .slice A n cap] 24) 93 #[.int .i64 0, .int .i64 0, .int .i64 0, .int .i64 0]
 have hB : Below w.heap.size w ((w.alloc (.cells #[.int .i64 (wn : Int), .slice A n cap] 24)).alloc (.cells #[.int .i64 0, .int .i64 0, .int .i64 0, .int .i64 0] 93)) := ((Below.refl _ w).alloc (Nat.le_refl _) _).alloc (by simp only [World.size_alloc]; omega) _
 have qX := fun i => hX.cell i
 have hgb := fun (wx : World) (hx : Below w.heap.size w wx) => goodBook_any (wn : Int) A n cap cs wx (by have := hb.2.1.2; unfold maxLen; omega) (rdB hb.2.2.2.1 hx) (fun c h => okB (hb.2.2.2.2.1 c h) hx)
 simp only [h1] at hgb
 have hhl := fun (wx : World) (hx : Below w.heap.size w wx) => hasCopy_any (wn : Int) q A n cap wx (by have := hb.2.1.2; omega)
 simp only [h2] at hhl
 have HGB := Lib.hid hgb; have HHL := Lib.hid hhl
 clear hgb hhl h1 h2 hb
 go_enter Tryz.func68, Tryz.ntmps68
 go_wp2_with fail
 refine (HGB.out _ hB).mono ?_; rintro e w1 ⟨rfl, hb⟩; have hbS := hb; replace hX := hX.below hb hX.lt; replace hB := hB.trans (hb.mono hB.size); clear hb qX; have qX := fun i => hX.cell i; replace hS := hS.below hbS hS.lt
 go_wp2_with fail
 refine (HHL.out _ hB).mono ?_; rintro e w1 ⟨rfl, hb⟩; have hbS := hb; replace hX := hX.below hb hX.lt; replace hB := hB.trans (hb.mono hB.size); clear hb qX; have qX := fun i => hX.cell i; replace hS := hS.below hbS hS.lt
 have q66 := fun i => hS.cell i; have f66 := fun i => hS.frozen i; have l66 := hS.lt
 go_wp2_with fail
 have G : Blk ((((w1.setCell ⟨w.heap.size + 1, 0, none⟩ (.int .i64 0)).setCell ⟨w.heap.size + 1, 1, none⟩ (.int .i64 0)).setCell ⟨w.heap.size + 1, 2, none⟩ (.int .i64 0)).setCell ⟨w.heap.size + 1, 3, none⟩ (.int .i64 0)) (w.heap.size + 1) 93 #[.int .i64 0, .int .i64 0, .int .i64 0, .int .i64 0] := by simpa using (((hS.set_ 0 (.int .i64 0)).set_ 1 (.int .i64 0)).set_ 2 (.int .i64 0)).set_ 3 (.int .i64 0)
 have qG := fun i => G.cell i
 refine bodyPost_ret (v := .tuple #[.agg #[.int .i64 0, .int .i64 0, .int .i64 0, .int .i64 0], .int .i64 2]) (by simp [results, Tryz.results68, go_sem, qG]) rfl ⟨rfl, (((hB.setCell (p := ⟨w.heap.size + 1, 0, none⟩) (show w.heap.size ≤ w.heap.size + 1 by omega) (.int .i64 0)).setCell (p := ⟨w.heap.size + 1, 1, none⟩) (show w.heap.size ≤ w.heap.size + 1 by omega) (.int .i64 0)).setCell (p := ⟨w.heap.size + 1, 2, none⟩) (show w.heap.size ≤ w.heap.size + 1 by omega) (.int .i64 0)).setCell (p := ⟨w.heap.size + 1, 3, none⟩) (show w.heap.size ≤ w.heap.size + 1 by omega) (.int .i64 0)⟩
def mixB (n L p : Nat) (a b i : Int) : Bool := inB a 0 ((n : Int) - 1) && (inB b 0 ((n : Int) - 1) && ((a != b) && ((a != (p : Int)) && ((b != (p : Int)) && inB i 1 ((L : Int) - 1)))))
theorem mix70_any {wn : Nat} {A : Option Addr} {n : Nat} (cap : Nat) {cs : List VC} (p : Nat) (a b i z : Int) {w : World} (h : BkG wn A n cs w w.heap.size) :
  Calls Tryz.prog 70 #[.agg #[.int .i64 (wn : Int), .slice A n cap], .int .i64 (p : Int), .agg #[.int .i64 a, .int .i64 b, .int .i64 i, .int .i64 z]] w fun e w' => e = .returned (.bool (mixB n (headN cs) p a b i)) ∧ Below w.heap.size w w' := by
 have hn5 := h.2.1; have hL4 := h.2.2.1
 obtain ⟨bb, off, a0, k0, rfl, hbw, hcell⟩ := h.head0
 generalize headN cs = L at *
 clear h
 have hX := (Blk.new w 24 #[.int .i64 (wn : Int), .slice (some ⟨bb, off, none⟩) n cap]).alloc (.cells #[.int .i64 a, .int .i64 b, .int .i64 i, .int .i64 z] 93)
 have hM := blk2_1 w (.cells #[.int .i64 (wn : Int), .slice (some ⟨bb, off, none⟩) n cap] 24) 93 #[.int .i64 a, .int .i64 b, .int .i64 i, .int .i64 z]
 have hB : Below w.heap.size w ((w.alloc (.cells #[.int .i64 (wn : Int), .slice (some ⟨bb, off, none⟩) n cap] 24)).alloc (.cells #[.int .i64 a, .int .i64 b, .int .i64 i, .int .i64 z] 93)) := ((Below.refl _ w).alloc (Nat.le_refl _) _).alloc (by simp only [World.size_alloc]; omega) _
 have hc1 := fun (x : World) => refCopy_any (wn : Int) a (some ⟨bb, off, none⟩) n cap x (by omega)
 have hc2 := fun (x : World) => refCopy_any (wn : Int) b (some ⟨bb, off, none⟩) n cap x (by omega)
 have hc3 := fun (x : World) => (in_any i 1 ((L : Int) - 1) x).mono (R' := fun e w' => e = .returned (.bool (inB i 1 ((L : Int) - 1))) ∧ Below x.heap.size x w') (fun _ _ hh => ⟨hh.1, by rw [← hh.2]; exact Below.refl _ _⟩)
 unfold mixB
 go_enter Tryz.func70, Tryz.ntmps70
 go_upto_region 1 with (fail)
 generalize (w.alloc (.cells #[.int .i64 (wn : Int), .slice (some ⟨bb, off, none⟩) n cap] 24)).alloc (.cells #[.int .i64 a, .int .i64 b, .int .i64 i, .int .i64 z] 93) = W0 at *
 have hq1 := fun (x : Blw W0.heap.size W0) j => blw_blk hX x j
 have hq2 := fun (x : Blw W0.heap.size W0) j => blw_blk hM x j
 have hq3 := fun (x : Blw W0.heap.size W0) => ((Blw.h x).cell (p := ⟨bb, off, none⟩) (Nat.lt_of_lt_of_le hbw hB.size)).trans ((hB.cell (p := ⟨bb, off, none⟩) hbw).trans hcell)
 have hlX := hX.lt; have hlM := hM.lt
 have hn0 : (0 : Int) < n := by omega
 have hLi : (L : Int) ≤ 4 := by omega
 have hLj : (1 : Int) ≤ L := by omega
 clear hX hM
 cases k1 : inB a 0 ((n : Int) - 1) with
 | false =>
  simp only [k1] at hc1
  have HC1 := Lib.hid hc1; have K1 := Lib.hid k1; clear hc1 hc2 hc3 k1
  refine wp_region_blw (by kernel_rfl) (by kernel_rfl) ?_
  repeat (go_big_quiet_step (fail))
  go_big_quiet_step ((go_at_call 54; exact Calls.blw_of _ (HC1.out _)))
  repeat (go_big_quiet_step (fail))
  refine wpQuiet_nil ?_
  rintro W3 ⟨⟨_, hb3⟩, rfl⟩
  clear hq1 hq2 hq3
  go_wp2_with fail
  go_ret
  exact ⟨by rw [K1.out]; simp, hB.trans (hb3.mono hB.size)⟩
 | true =>
  cases k2 : inB b 0 ((n : Int) - 1) with
  | false =>
   simp only [k1] at hc1
   simp only [k2] at hc2
   have HC1 := Lib.hid hc1; have HC2 := Lib.hid hc2; have K1 := Lib.hid k1; have K2 := Lib.hid k2; clear hc1 hc2 hc3 k1 k2
   refine wp_region_blw (by kernel_rfl) (by kernel_rfl) ?_
   repeat (go_big_quiet_step (fail))
   go_big_quiet_step ((go_at_call 54; exact Calls.blw_of _ (HC1.out _)))
   repeat (go_big_quiet_step (fail))
   go_big_quiet_step ((go_at_call 54; exact Calls.blw_of _ (HC2.out _)))
   repeat (go_big_quiet_step (fail))
   refine wpQuiet_nil ?_
   rintro W3 ⟨⟨_, hb3⟩, rfl⟩
   clear hq1 hq2 hq3
   go_wp2_with fail
   go_ret
   exact ⟨by rw [K1.out, K2.out]; simp, hB.trans (hb3.mono hB.size)⟩
  | true =>
   cases k3 : (a != b) with
   | false =>
    simp only [k1] at hc1
    simp only [k2] at hc2
    have HC1 := Lib.hid hc1; have HC2 := Lib.hid hc2; have K1 := Lib.hid k1; have K2 := Lib.hid k2; clear hc1 hc2 hc3 k1 k2
    refine wp_region_blw (by kernel_rfl) (by kernel_rfl) ?_
    repeat (go_big_quiet_step (fail))
    go_big_quiet_step ((go_at_call 54; exact Calls.blw_of _ (HC1.out _)))
    repeat (go_big_quiet_step (fail))
    go_big_quiet_step ((go_at_call 54; exact Calls.blw_of _ (HC2.out _)))
    repeat (go_big_quiet_step (fail))
    refine wpQuiet_nil ?_
    rintro W3 ⟨⟨_, hb3⟩, rfl⟩
    clear hq1 hq2 hq3
    go_wp2_with fail
    go_ret
    exact ⟨by rw [K1.out, K2.out, k3]; simp, hB.trans (hb3.mono hB.size)⟩
   | true =>
    cases k4 : (a != (p : Int)) with
    | false =>
     simp only [k1] at hc1
     simp only [k2] at hc2
     have HC1 := Lib.hid hc1; have HC2 := Lib.hid hc2; have K1 := Lib.hid k1; have K2 := Lib.hid k2; clear hc1 hc2 hc3 k1 k2
     refine wp_region_blw (by kernel_rfl) (by kernel_rfl) ?_
     repeat (go_big_quiet_step (fail))
     go_big_quiet_step ((go_at_call 54; exact Calls.blw_of _ (HC1.out _)))
     repeat (go_big_quiet_step (fail))
     go_big_quiet_step ((go_at_call 54; exact Calls.blw_of _ (HC2.out _)))
     repeat (go_big_quiet_step (fail))
     refine wpQuiet_nil ?_
     rintro W3 ⟨⟨_, hb3⟩, rfl⟩
     clear hq1 hq2 hq3
     go_wp2_with fail
     go_ret
     exact ⟨by rw [K1.out, K2.out, k3, k4]; simp, hB.trans (hb3.mono hB.size)⟩
    | true =>
     cases k5 : (b != (p : Int)) with
     | false =>
      simp only [k1] at hc1
      simp only [k2] at hc2
      have HC1 := Lib.hid hc1; have HC2 := Lib.hid hc2; have K1 := Lib.hid k1; have K2 := Lib.hid k2; clear hc1 hc2 hc3 k1 k2
      refine wp_region_blw (by kernel_rfl) (by kernel_rfl) ?_
      repeat (go_big_quiet_step (fail))
      go_big_quiet_step ((go_at_call 54; exact Calls.blw_of _ (HC1.out _)))
      repeat (go_big_quiet_step (fail))
      go_big_quiet_step ((go_at_call 54; exact Calls.blw_of _ (HC2.out _)))
      repeat (go_big_quiet_step (fail))
      refine wpQuiet_nil ?_
      rintro W3 ⟨⟨_, hb3⟩, rfl⟩
      clear hq1 hq2 hq3
      go_wp2_with fail
      go_ret
      exact ⟨by rw [K1.out, K2.out, k3, k4, k5]; simp, hB.trans (hb3.mono hB.size)⟩
     | true =>
      generalize hRe : inB i 1 ((L : Int) - 1) = R at *
      have HRE := Lib.hid hRe; clear hRe
      simp only [k1] at hc1
      simp only [k2] at hc2
      have HC1 := Lib.hid hc1; have HC2 := Lib.hid hc2; have HC3 := Lib.hid hc3; have K1 := Lib.hid k1; have K2 := Lib.hid k2; clear hc1 hc2 hc3 k1 k2
      refine wp_region_blw (by kernel_rfl) (by kernel_rfl) ?_
      repeat (go_big_quiet_step (fail))
      go_big_quiet_step ((go_at_call 54; exact Calls.blw_of _ (HC1.out _)))
      repeat (go_big_quiet_step (fail))
      go_big_quiet_step ((go_at_call 54; exact Calls.blw_of _ (HC2.out _)))
      repeat (go_big_quiet_step (fail))
      go_big_quiet_step ((go_at_call 85; exact Calls.blw_of _ (HC3.out _)))
      repeat (go_big_quiet_step (fail))
      refine wpQuiet_nil ?_
      rintro W3 ⟨⟨_, hb3⟩, rfl⟩
      clear hq1 hq2 hq3
      go_wp2_with fail
      go_ret
      exact ⟨by rw [K1.out, K2.out, k3, k4, k5, HRE.out]; simp, hB.trans (hb3.mono hB.size)⟩
theorem mixX_F {wn : Nat} {A : Option Addr} {n : Nat} {cs : List VC} {w : World} {B : Nat} (h : BkG wn A n cs w B) (hk : bookB (wn : Int) cs = true) {p a b i : Nat} (hp : p < n) (ha : a < n) (hb : b < n) (hi : i ≤ headN cs) : mixX cs p a b i = ⟨a, b, i, (mixF cs p a b i (headN cs) : Nat)⟩ := by
 have hlen := h.len
 have hL : ∀ q, q < n → ∃ c, cs[q]? = some c ∧ c ∈ cs ∧ c.ls.length = headN cs := fun q hq => by
  have hq2 : q < cs.length := by omega
  exact ⟨cs[q], List.getElem?_eq_getElem hq2, List.getElem_mem hq2, (h.2.2.2.2.2.1 _ (List.getElem_mem hq2)).2⟩
 have hs := book_small hk
 obtain ⟨cp, ep, mp, lp⟩ := hL p hp
 obtain ⟨ca, ea, ma, la⟩ := hL a ha
 obtain ⟨cb, eb, mb, lb⟩ := hL b hb
 have sa : srcL cs [] (a : Int) = ca.ls.map fun r => lbS r.ws := by
  unfold srcL
  rw [if_neg (by omega), show ((a : Int)).toNat = a by omega, ea]; rfl
 have sb : srcL cs [] (b : Int) = cb.ls.map fun r => lbS r.ws := by
  unfold srcL
  rw [if_neg (by omega), show ((b : Int)).toNat = b by omega, eb]; rfl
 unfold mixX
 rw [sa, sb, ep, Option.map_some, Option.getD_some]
 congr 1
 obtain ⟨z, hz⟩ : ∃ z, z = ((ca.ls.map fun r => lbS r.ws).take i ++ (cb.ls.map fun r => lbS r.ws).drop i).zip cp.ls := ⟨_, rfl⟩
 rw [← hz]
 have hzl : z.length = headN cs := by rw [hz, List.length_zip, List.length_append, List.length_take, List.length_drop, List.length_map, List.length_map, la, lb, lp]; omega
 have hat : ∀ k (hk : k < z.length), z[k] = (lbS (vlAt cs (if k < i then a else b) k).ws, vlAt cs p k) := fun k hk => by
  have hkL : k < headN cs := by omega
  have e2 := vlAt_ls ep (show k < cp.ls.length by omega)
  rw [List.getElem?_eq_getElem (show k < cp.ls.length by omega)] at e2
  subst hz
  rw [List.getElem_zip, List.getElem_append, Option.some.inj e2]
  congr 1
  by_cases hki : k < i
  ·rw [if_pos hki, dif_pos (by rw [List.length_take, List.length_map, la]; omega), List.getElem_take, List.getElem_map]
   have e1 := vlAt_ls ea (show k < ca.ls.length by omega)
   rw [List.getElem?_eq_getElem (show k < ca.ls.length by omega)] at e1
   rw [Option.some.inj e1]
  ·rw [if_neg hki, dif_neg (by rw [List.length_take, List.length_map, la]; omega), List.getElem_drop, List.getElem_map]
   have e1 := vlAt_ls eb (show k < cb.ls.length by omega)
   rw [List.getElem?_eq_getElem (show k < cb.ls.length by omega)] at e1
   rw [← Option.some.inj e1]
   congr 2
   simp only [List.length_take, List.length_map, la]
   congr 1
   omega
 have hsum : ∀ k, k ≤ headN cs → sumI (cgL (z.take k)) = (mixF cs p a b i k : Nat) := by
  intro k
  induction k with
  | zero => intro _; rfl
  | succ k ih =>
   intro hk1
   have hkz : k < z.length := by omega
   rw [List.take_succ_eq_append_getElem hkz, hat k hkz]
   have e : cgL (z.take k ++ [(lbS (vlAt cs (if k < i then a else b) k).ws, vlAt cs p k)]) = cgL (z.take k) ++ cgO (lbS (vlAt cs (if k < i then a else b) k).ws, vlAt cs p k) := by unfold cgL; rw [List.flatMap_append]; simp
   rw [e, sumI_app, ih (by omega), mixF]
   have hv : ∀ q, q < n → ∀ x ∈ (vlAt cs q k).ws, 0 ≤ x ∧ x ≤ 2 := fun q hq => by
    obtain ⟨c, ec, mc, lc⟩ := hL q hq
    have e1 := vlAt_ls ec (show k < c.ls.length by omega)
    exact hs c mc _ (List.mem_of_getElem? e1)
   have hab : (if k < i then a else b) < n := by split <;> assumption
   unfold cgO tkF
   dsimp only
   have hva := hv _ hab
   generalize vlAt cs (if k < i then a else b) k = u at *
   cases (vlAt cs p k).lost
   ·rw [if_neg (by decide), if_neg (by decide), edB_int hva (hv p hp)]
    show _ + (0 + _) = _
    omega
   ·rw [if_pos rfl, if_pos rfl]
    show _ + (0 : Int) = _
    omega
 have h2 := hsum (headN cs) (Nat.le_refl _)
 rw [List.take_of_length_le (by omega)] at h2
 exact h2
end
section
open Go.RowKit Go.Lib Go.Maps
def outc (o : Option MX) : Array Value := match o with | none => #[.int .i64 0, .int .i64 0, .int .i64 0, .int .i64 0] | some m => #[.int .i64 m.one, .int .i64 m.other, .int .i64 m.lines, .int .i64 m.c]
def nextM (o : Option MX) (y : MX) : Option MX := match o with | none => some y | some x => some (if y.c < x.c then y else x)
theorem bestI_nextM (l : List MX) (y : MX) : bestI MX.c (l ++ [y]) = nextM (bestI MX.c l) y := by rw [bestI_snoc]; cases bestI MX.c l <;> rfl
theorem refMixed_any {wn : Nat} {A : Option Addr} {n : Nat} (cap : Nat) {cs : List VC} (p : Nat) {w : World} (h : BkG wn A n cs w w.heap.size) (hk : bookB (wn : Int) cs = true) (hp : p < n) :
  Calls Tryz.prog 69 #[.agg #[.int .i64 (wn : Int), .slice A n cap], .int .i64 (p : Int)] w fun e w' => e = .returned (.tuple #[.agg (outc (bestI MX.c (mixL cs p n n))), .bool (bestI MX.c (mixL cs p n n)).isSome]) ∧ Below w.heap.size w w' := by
 have hn5 := h.2.1; have hL4 := h.2.2.1
 have hmix := fun (a b i : Int) (wx : World) (hx : Below w.heap.size w wx) => mix70_any cap p a b i 0 (h.toW hx)
 have hmf := fun (a b i : Nat) (ha : a < n) (hb : b < n) (hi : i ≤ 100) (wx : World) (hx : Below w.heap.size w wx) => mixes118_any cap p a b i 0 (h.toW hx) hp ha hb hi
 have hmX := fun (a b i : Nat) (ha : a < n) (hb : b < n) (hi : i ≤ headN cs) => mixX_F h hk (p := p) (a := a) (b := b) (i := i) hp ha hb hi
 have hmle := fun (a b i : Nat) (ha : a < n) (hb : b < n) => mixF_le h (p := p) (a := a) (b := b) (i := i) hp ha hb (headN cs) (Nat.le_refl _)
 obtain ⟨bb, off, a0, k0, rfl, hbw, hcell⟩ := h.head0
 have hL1 := mixL_succ cs p n
 have hO1 := mixOt_succ cs p
 have hI1 := mixIn_succ cs p
 have hL0 : mixL cs p n 0 = [] := rfl
 have hO0 : ∀ a, mixOt cs p a 0 = [] := fun _ => rfl
 have hI0 : ∀ a b, mixIn cs p a b 0 = [] := fun _ _ => rfl
 generalize hEE : mixL cs p n = FL at *
 clear hEE
 generalize hEE : mixOt cs p = FO at *
 clear hEE
 generalize hEE : mixIn cs p = FI at *
 clear hEE
 generalize headN cs = L at *
 have HMIX := Lib.hid hmix; have HMF := Lib.hid hmf; have HMX := Lib.hid hmX; have HMLE := Lib.hid hmle; have HL1 := Lib.hid hL1; have HO1 := Lib.hid hO1; have HI1 := Lib.hid hI1; have HL0 := Lib.hid hL0; have HO0 := Lib.hid hO0; have HI0 := Lib.hid hI0
 clear hmix hmf hmX hmle hL1 hO1 hI1 hL0 hO0 hI0 h hk
 have hX := ((Blk.new w 24 #[.int .i64 (wn : Int), .slice (some ⟨bb, off, none⟩) n cap]).alloc (.cells #[.int .i64 0, .int .i64 0, .int .i64 0, .int .i64 0] 93)).alloc (.cells #[.int .i64 0, .int .i64 0, .int .i64 0, .int .i64 0] 93)
 have hR := (blk2_1 w (.cells #[.int .i64 (wn : Int), .slice (some ⟨bb, off, none⟩) n cap] 24) 93 #[.int .i64 0, .int .i64 0, .int .i64 0, .int .i64 0]).alloc (.cells #[.int .i64 0, .int .i64 0, .int .i64 0, .int .i64 0] 93)
 have hO := Blk.new ((w.alloc (.cells #[.int .i64 (wn : Int), .slice (some ⟨bb, off, none⟩) n cap] 24)).alloc (.cells #[.int .i64 0, .int .i64 0, .int .i64 0, .int .i64 0] 93)) 93 #[.int .i64 0, .int .i64 0, .int .i64 0, .int .i64 0]
 rw [show ((w.alloc (.cells #[.int .i64 (wn : Int), .slice (some ⟨bb, off, none⟩) n cap] 24)).alloc (.cells #[.int .i64 0, .int .i64 0, .int .i64 0, .int .i64 0] 93)).heap.size = w.heap.size + 1 + 1 by simp only [World.size_alloc]] at hO
 have hB : Below w.heap.size w (((w.alloc (.cells #[.int .i64 (wn : Int), .slice (some ⟨bb, off, none⟩) n cap] 24)).alloc (.cells #[.int .i64 0, .int .i64 0, .int .i64 0, .int .i64 0] 93)).alloc (.cells #[.int .i64 0, .int .i64 0, .int .i64 0, .int .i64 0] 93)) := (((Below.refl _ w).alloc (Nat.le_refl _) _).alloc (by simp only [World.size_alloc]; omega) _).alloc (by simp only [World.size_alloc]; omega) _
 go_enter Tryz.func69, Tryz.ntmps69
 go_wp2_with fail
 generalize ((w.alloc (.cells #[.int .i64 (wn : Int), .slice (some ⟨bb, off, none⟩) n cap] 24)).alloc (.cells #[.int .i64 0, .int .i64 0, .int .i64 0, .int .i64 0] 93)).alloc (.cells #[.int .i64 0, .int .i64 0, .int .i64 0, .int .i64 0] 93) = W0 at *
 have hn0 : (0 : Int) < n := by omega
 go_loopg [7, 8] n (fun g v i wr => ∃ (a : Nat) (o : Option MX), g = n - a ∧ a ≤ n ∧ v = .bool o.isSome ∧ i = .int .i64 a ∧ Hid (o = bestI MX.c (FL a)) ∧ Below w.heap.size w wr ∧ Blk wr w.heap.size 24 #[.int .i64 (wn : Int), .slice (some ⟨bb, off, none⟩) n cap] ∧ Blk wr (w.heap.size + 1) 93 #[.int .i64 0, .int .i64 0, .int .i64 0, .int .i64 0] ∧ Blk wr (w.heap.size + 1 + 1) 93 (outc o))
 case atStart => exact ⟨0, none, rfl, Nat.zero_le _, rfl, rfl, Lib.hid (by rw [HL0.out]; rfl), hB, hX, hR, hO⟩
 case round =>
  clear hX hB hR hO
  obtain ⟨a, o, hg, han, rfl, rfl, ho, hB, hX, hR, hO⟩ := hrel
  rename World => wr
  have HG := Lib.hid hg; clear hg
  have qX := fun i => hX.cell i
  by_cases hat : a < n
  ·have hati : (a : Int) < n := by omega
   go_wp2_with fail
   go_loopg [7, 9] n (fun g v i wr => ∃ (b : Nat) (o : Option MX), g = n - b ∧ b ≤ n ∧ v = .bool o.isSome ∧ i = .int .i64 b ∧ Hid (o = bestI MX.c (FL a ++ FO a b)) ∧ Below w.heap.size w wr ∧ Blk wr w.heap.size 24 #[.int .i64 (wn : Int), .slice (some ⟨bb, off, none⟩) n cap] ∧ Blk wr (w.heap.size + 1) 93 #[.int .i64 0, .int .i64 0, .int .i64 0, .int .i64 0] ∧ Blk wr (w.heap.size + 1 + 1) 93 (outc o))
   case atStart => exact ⟨0, o, rfl, Nat.zero_le _, rfl, rfl, Lib.hid (by rw [ho.out, HO0.out, List.append_nil]), hB, hX, hR, hO⟩
   case round =>
    clear hX hB hR hO qX ho o
    obtain ⟨b, o, hg, hbn, rfl, rfl, ho, hB, hX, hR, hO⟩ := hrel
    rename World => wr
    have HG2 := Lib.hid hg; clear hg
    have qX := fun i => hX.cell i
    by_cases hbt : b < n
    ·have hbti : (b : Int) < n := by omega
     go_wp2_with fail
     go_loopg [7, 10] (L - 1) (fun g v i wr => ∃ (k : Nat) (o : Option MX), g = L - (k + 1) ∧ k + 1 ≤ L ∧ v = .bool o.isSome ∧ i = .int .i64 ((k : Int) + 1) ∧ Hid (o = bestI MX.c (FL a ++ FO a b ++ if a = b ∨ a = p ∨ b = p then [] else FI a b k)) ∧ Below w.heap.size w wr ∧ Blk wr w.heap.size 24 #[.int .i64 (wn : Int), .slice (some ⟨bb, off, none⟩) n cap] ∧ Blk wr (w.heap.size + 1) 93 #[.int .i64 0, .int .i64 0, .int .i64 0, .int .i64 0] ∧ Blk wr (w.heap.size + 1 + 1) 93 (outc o))
     case atStart => exact ⟨0, o, rfl, by omega, rfl, rfl, Lib.hid (by rw [ho.out, HI0.out]; split <;> simp), hB, hX, hR, hO⟩
     case round =>
      clear hX hB hR hO qX ho o
      obtain ⟨k, o, hg, hkL, rfl, rfl, ho, hB, hX, hR, hO⟩ := hrel
      rename World => wr
      have HG3 := Lib.hid hg; clear hg
      have qX := fun i => hX.cell i
      have hc0 := (hB.cell (p := ⟨bb, off, none⟩) hbw).trans hcell
      by_cases hkt : k + 1 < L
      ·have hkti : ((k : Int) + 1) < L := by omega
       have hG0 := Blk.new wr 93 #[.int .i64 (a : Int), .int .i64 (b : Int), .int .i64 ((k : Int) + 1), .int .i64 0]
       have hba : Below wr.heap.size wr (wr.alloc (.cells #[.int .i64 (a : Int), .int .i64 (b : Int), .int .i64 ((k : Int) + 1), .int .i64 0] 93)) := (Below.refl _ wr).alloc (Nat.le_refl _) _
       have hwr := hB.size
       have hXl := hX.lt; have hOl := hO.lt
       have hs24 : w.heap.size + 1 + 1 < wr.heap.size := hOl
       go_upto_region 13 with (fail)
       replace hX := hX.below hba hX.lt; replace hR := hR.below hba hR.lt; replace hO := hO.below hba hO.lt; replace hB := hB.trans (hba.mono hB.size)
       clear hba qX hc0
       generalize wr.alloc (.cells #[.int .i64 (a : Int), .int .i64 (b : Int), .int .i64 ((k : Int) + 1), .int .i64 0] 93) = W1 at *
       obtain ⟨g0, hg0⟩ : ∃ g0, g0 = wr.heap.size := ⟨_, rfl⟩
       rw [← hg0] at hG0 hs24 ⊢
       clear hg0 hwr hXl hOl
       have qX := fun i => hX.cell i; have qG := fun i => hG0.cell i
       have hmix := HMIX.out (a : Int) (b : Int) ((k : Int) + 1) W1 hB
       by_cases hs : a = b ∨ a = p ∨ b = p
       ·have hf : mixB n L p (a : Int) (b : Int) ((k : Int) + 1) = false := by
         unfold mixB
         rcases hs with rfl | rfl | rfl <;> simp
        rw [hf] at hmix
        have HM := Lib.hid hmix; clear hmix hf
        rw [if_pos hs] at ho
        go_wp2_with fail
        refine (HM.out).mono ?_; rintro e w2 ⟨rfl, hb⟩
        replace hX := hX.below hb hX.lt; replace hR := hR.below hb hR.lt; replace hO := hO.below hb hO.lt; replace hB := hB.trans (hb.mono hB.size)
        clear hb qX qG hG0
        go_wp2_with fail
        go_roundg (L - (k + 1 + 1))
        case measure => rw [HG3.out]; omega
        case rel => exact ⟨k + 1, o, rfl, by omega, rfl, by first | rfl | go_num | (congr 1; omega), Lib.hid (by rw [ho.out, if_pos hs]), hB, hX, hR, hO⟩
       ·have hf : mixB n L p (a : Int) (b : Int) ((k : Int) + 1) = true := by
         unfold mixB inB
         have h1 : a ≠ b := fun h => hs (.inl h)
         have h2 : a ≠ p := fun h => hs (.inr (.inl h))
         have h3 : b ≠ p := fun h => hs (.inr (.inr h))
         simp [h1, h2, h3]
         omega
        rw [hf] at hmix
        have hmf := fun (wx : World) (hx : Below w.heap.size w wx) => HMF.out a b (k + 1) hat hbt (by omega) wx hx
        have hmx := HMX.out a b (k + 1) hat hbt (by omega)
        have hM16 := HMLE.out a b (k + 1) hat hbt
        have hi1 := HI1.out a b k
        rw [hmx] at hi1
        generalize mixF cs p a b (k + 1) L = M at *
        rw [if_neg hs] at ho
        have hno : bestI MX.c (FL a ++ FO a b ++ FI a b (k + 1)) = nextM o ⟨(a : Int), (b : Int), (k : Int) + 1, (M : Int)⟩ := by
         rw [hi1, ← List.append_assoc, bestI_nextM, ← ho.out, show (((k + 1 : Nat) : Int)) = (k : Int) + 1 by omega]
        have HM := Lib.hid hmix; have HMF2 := Lib.hid hmf; have HNO := Lib.hid hno; have HS := Lib.hid hs
        clear hmix hf hmf hmx hi1 hno hs ho
        go_wp2_with fail
        refine (HM.out).mono ?_; rintro e w2 ⟨rfl, hb⟩
        replace hX := hX.below hb hX.lt; replace hR := hR.below hb hR.lt; replace hO := hO.below hb hO.lt; replace hG0 := hG0.below hb hG0.lt; replace hB := hB.trans (hb.mono hB.size)
        clear hb qX qG
        have qX := fun i => hX.cell i; have qG := fun i => hG0.cell i
        go_wp2_with fail
        refine (HMF2.out _ hB).mono ?_; rintro e w3 ⟨rfl, hb⟩
        replace hX := hX.below hb hX.lt; replace hR := hR.below hb hR.lt; replace hO := hO.below hb hO.lt; replace hG0 := hG0.below hb hG0.lt; replace hB := hB.trans (hb.mono hB.size)
        clear hb qX qG
        have qG := fun i => hG0.cell i; have fG := fun i => hG0.frozen i; have lG := hG0.lt
        go_upto_region 15 with (fail)
        have hG5 : Blk (w3.setCell ⟨g0, 3, none⟩ (.int .i64 (M : Int))) g0 93 #[.int .i64 (a : Int), .int .i64 (b : Int), .int .i64 ((k : Int) + 1), .int .i64 (M : Int)] := by simpa using hG0.set_ 3 (.int .i64 (M : Int))
        have hX5 := hX.far (p := ⟨g0, 3, none⟩) (show w.heap.size ≠ g0 by omega) (.int .i64 (M : Int))
        have hR5 := hR.far (p := ⟨g0, 3, none⟩) (show w.heap.size + 1 ≠ g0 by omega) (.int .i64 (M : Int))
        have hO5 := hO.far (p := ⟨g0, 3, none⟩) (show w.heap.size + 1 + 1 ≠ g0 by omega) (.int .i64 (M : Int))
        have hB5 := hB.setCell (p := ⟨g0, 3, none⟩) (show w.heap.size ≤ g0 by omega) (.int .i64 (M : Int))
        generalize w3.setCell ⟨g0, 3, none⟩ (.int .i64 (M : Int)) = W5 at *
        clear hX hR hO hG0 hB qG fG lG
        have qG := fun i => hG5.cell i; have qO := fun i => hO5.cell i; have fO := fun i => hO5.frozen i; have lO := hO5.lt
        cases o with
        | none =>
         unfold outc at qO fO
         have hO5' := (((hO5.set_ 0 (.int .i64 (a : Int))).set_ 1 (.int .i64 (b : Int))).set_ 2 (.int .i64 ((k : Int) + 1))).set_ 3 (.int .i64 (M : Int))
         go_wp2_with fail
         go_roundg (L - (k + 1 + 1))
         case measure => rw [HG3.out]; omega
         case rel => exact ⟨k + 1, some ⟨(a : Int), (b : Int), (k : Int) + 1, (M : Int)⟩, rfl, by omega, rfl, by first | rfl | go_num | (congr 1; omega), Lib.hid (by rw [if_neg HS.out, HNO.out]; rfl), ((((hB5.setCell (p := ⟨w.heap.size + 1 + 1, 0, none⟩) (show w.heap.size ≤ w.heap.size + 1 + 1 by omega) _).setCell (p := ⟨w.heap.size + 1 + 1, 1, none⟩) (show w.heap.size ≤ w.heap.size + 1 + 1 by omega) _).setCell (p := ⟨w.heap.size + 1 + 1, 2, none⟩) (show w.heap.size ≤ w.heap.size + 1 + 1 by omega) _).setCell (p := ⟨w.heap.size + 1 + 1, 3, none⟩) (show w.heap.size ≤ w.heap.size + 1 + 1 by omega) _), ((((hX5.far (p := ⟨w.heap.size + 1 + 1, 0, none⟩) (show w.heap.size ≠ w.heap.size + 1 + 1 by omega) _).far (p := ⟨w.heap.size + 1 + 1, 1, none⟩) (show w.heap.size ≠ w.heap.size + 1 + 1 by omega) _).far (p := ⟨w.heap.size + 1 + 1, 2, none⟩) (show w.heap.size ≠ w.heap.size + 1 + 1 by omega) _).far (p := ⟨w.heap.size + 1 + 1, 3, none⟩) (show w.heap.size ≠ w.heap.size + 1 + 1 by omega) _), ((((hR5.far (p := ⟨w.heap.size + 1 + 1, 0, none⟩) (show w.heap.size + 1 ≠ w.heap.size + 1 + 1 by omega) _).far (p := ⟨w.heap.size + 1 + 1, 1, none⟩) (show w.heap.size + 1 ≠ w.heap.size + 1 + 1 by omega) _).far (p := ⟨w.heap.size + 1 + 1, 2, none⟩) (show w.heap.size + 1 ≠ w.heap.size + 1 + 1 by omega) _).far (p := ⟨w.heap.size + 1 + 1, 3, none⟩) (show w.heap.size + 1 ≠ w.heap.size + 1 + 1 by omega) _), by simpa [outc] using hO5'⟩
        | some x =>
         obtain ⟨x1, x2, x3, x4⟩ := x
         by_cases hcc : (M : Int) < x4
         ·have HNO2 : Hid (bestI MX.c (FL a ++ FO a b ++ FI a b (k + 1)) = some ⟨(a : Int), (b : Int), (k : Int) + 1, (M : Int)⟩) := Lib.hid (by rw [HNO.out]; unfold nextM; simp only; rw [if_pos hcc])
          clear HNO
          unfold outc at qO fO
          have hO5' := (((hO5.set_ 0 (.int .i64 (a : Int))).set_ 1 (.int .i64 (b : Int))).set_ 2 (.int .i64 ((k : Int) + 1))).set_ 3 (.int .i64 (M : Int))
          go_wp2_with fail
          go_roundg (L - (k + 1 + 1))
          case measure => rw [HG3.out]; omega
          case rel => exact ⟨k + 1, some ⟨(a : Int), (b : Int), (k : Int) + 1, (M : Int)⟩, rfl, by omega, rfl, by first | rfl | go_num | (congr 1; omega), Lib.hid (by rw [if_neg HS.out, HNO2.out]), ((((hB5.setCell (p := ⟨w.heap.size + 1 + 1, 0, none⟩) (show w.heap.size ≤ w.heap.size + 1 + 1 by omega) _).setCell (p := ⟨w.heap.size + 1 + 1, 1, none⟩) (show w.heap.size ≤ w.heap.size + 1 + 1 by omega) _).setCell (p := ⟨w.heap.size + 1 + 1, 2, none⟩) (show w.heap.size ≤ w.heap.size + 1 + 1 by omega) _).setCell (p := ⟨w.heap.size + 1 + 1, 3, none⟩) (show w.heap.size ≤ w.heap.size + 1 + 1 by omega) _), ((((hX5.far (p := ⟨w.heap.size + 1 + 1, 0, none⟩) (show w.heap.size ≠ w.heap.size + 1 + 1 by omega) _).far (p := ⟨w.heap.size + 1 + 1, 1, none⟩) (show w.heap.size ≠ w.heap.size + 1 + 1 by omega) _).far (p := ⟨w.heap.size + 1 + 1, 2, none⟩) (show w.heap.size ≠ w.heap.size + 1 + 1 by omega) _).far (p := ⟨w.heap.size + 1 + 1, 3, none⟩) (show w.heap.size ≠ w.heap.size + 1 + 1 by omega) _), ((((hR5.far (p := ⟨w.heap.size + 1 + 1, 0, none⟩) (show w.heap.size + 1 ≠ w.heap.size + 1 + 1 by omega) _).far (p := ⟨w.heap.size + 1 + 1, 1, none⟩) (show w.heap.size + 1 ≠ w.heap.size + 1 + 1 by omega) _).far (p := ⟨w.heap.size + 1 + 1, 2, none⟩) (show w.heap.size + 1 ≠ w.heap.size + 1 + 1 by omega) _).far (p := ⟨w.heap.size + 1 + 1, 3, none⟩) (show w.heap.size + 1 ≠ w.heap.size + 1 + 1 by omega) _), by simpa [outc] using hO5'⟩
         ·have HNO2 : Hid (bestI MX.c (FL a ++ FO a b ++ FI a b (k + 1)) = some ⟨x1, x2, x3, x4⟩) := Lib.hid (by rw [HNO.out]; unfold nextM; simp only; rw [if_neg hcc])
          clear HNO
          unfold outc at qO fO
          go_wp2_with fail
          go_roundg (L - (k + 1 + 1))
          case measure => rw [HG3.out]; omega
          case rel => exact ⟨k + 1, some ⟨x1, x2, x3, x4⟩, rfl, by omega, rfl, by first | rfl | go_num | (congr 1; omega), Lib.hid (by rw [if_neg HS.out, HNO2.out]), hB5, hX5, hR5, hO5⟩
      ·have hkL2 : k + 1 = L := by omega
       have hge : ¬ ((k : Int) + 1) < L := by omega
       have hno : o = bestI MX.c (FL a ++ FO a (b + 1)) := by rw [ho.out, HO1.out, ← hkL2, Nat.add_sub_cancel, List.append_assoc]
       have HNO := Lib.hid hno; clear hno ho
       go_wp2_with fail
       go_roundg (n - (b + 1))
       case measure => rw [HG2.out]; omega
       case rel => exact ⟨b + 1, o, rfl, by omega, rfl, by go_num, HNO, hB, hX, hR, hO⟩
    ·have hbn2 : b = n := by omega
     have hge : ¬ (b : Int) < n := by omega
     have hno : o = bestI MX.c (FL (a + 1)) := by rw [ho.out, HL1.out, hbn2]
     have HNO := Lib.hid hno; clear hno ho hbn2
     go_wp2_with fail
     go_roundg (n - (a + 1))
     case measure => rw [HG.out]; omega
     case rel => exact ⟨a + 1, o, rfl, by omega, rfl, by go_num, HNO, hB, hX, hR, hO⟩
  ·have han2 : a = n := by omega
   have hge : ¬ (a : Int) < n := by omega
   have hno : o = bestI MX.c (FL n) := by rw [ho.out, han2]
   have HNO := Lib.hid hno; clear hno ho han2
   obtain ⟨x1, x2, x3, x4, hoc⟩ : ∃ x1 x2 x3 x4 : Int, outc o = #[.int .i64 x1, .int .i64 x2, .int .i64 x3, .int .i64 x4] := by cases o with | none => exact ⟨0, 0, 0, 0, rfl⟩ | some m => exact ⟨_, _, _, _, rfl⟩
   rw [hoc] at hO
   have HOC := Lib.hid hoc; clear hoc
   have qO := fun i => hO.cell i; have qR := fun i => hR.cell i; have fR := fun i => hR.frozen i; have lR := hR.lt
   obtain ⟨bo, hbo⟩ : ∃ bo, bo = o.isSome := ⟨_, rfl⟩
   rw [← hbo]
   have HBO := Lib.hid hbo; clear hbo
   go_wp2_with fail
   have G : Blk ((((wr.setCell ⟨w.heap.size + 1, 0, none⟩ (.int .i64 x1)).setCell ⟨w.heap.size + 1, 1, none⟩ (.int .i64 x2)).setCell ⟨w.heap.size + 1, 2, none⟩ (.int .i64 x3)).setCell ⟨w.heap.size + 1, 3, none⟩ (.int .i64 x4)) (w.heap.size + 1) 93 #[.int .i64 x1, .int .i64 x2, .int .i64 x3, .int .i64 x4] := by simpa using (((hR.set_ 0 (.int .i64 x1)).set_ 1 (.int .i64 x2)).set_ 2 (.int .i64 x3)).set_ 3 (.int .i64 x4)
   have qG := fun i => G.cell i
   refine bodyPost_ret (v := .tuple #[.agg #[.int .i64 x1, .int .i64 x2, .int .i64 x3, .int .i64 x4], .bool bo]) (by simp [results, Tryz.results69, go_sem, qG]) rfl ⟨by rw [← HNO.out, HOC.out, HBO.out], ((((hB.setCell (p := ⟨w.heap.size + 1, 0, none⟩) (show w.heap.size ≤ w.heap.size + 1 by omega) _).setCell (p := ⟨w.heap.size + 1, 1, none⟩) (show w.heap.size ≤ w.heap.size + 1 by omega) _).setCell (p := ⟨w.heap.size + 1, 2, none⟩) (show w.heap.size ≤ w.heap.size + 1 by omega) _).setCell (p := ⟨w.heap.size + 1, 3, none⟩) (show w.heap.size ≤ w.heap.size + 1 by omega) _)⟩
end
section
open Go.RowKit Go.Lib Go.Maps
theorem mixes_law (W : Int) (A : Option Addr) (n cap : Nat) (cs : List VC) (q : Int) (m : Int) (w : World) (hE : Env m w) (h : BkI w A n cap cs) (hq1 : -9223372036854775808 ≤ q) (hq2 : q ≤ 9223372036854775807) :
  Calls Tryz.prog 17 #[.agg #[.int .i64 W, .slice A n cap], .int .i64 q] w fun e w' => e = .returned (.bool true) ∧ Below w.heap.size w w' := by
 have hX := Blk.new w 24 #[.int .i64 W, .slice A n cap]
 have hB : Below w.heap.size w (w.alloc (.cells #[.int .i64 W, .slice A n cap] 24)) := (Below.refl _ w).alloc (Nat.le_refl _) _
 have qX := fun i => hX.cell i
 go_enter Tryz.func17, Tryz.ntmps17
 go_wp2_with fail
 refine (short_any W A n cap cs _ (h.toW hB)).mono ?_; rintro e wc ⟨⟨b, rfl⟩, hb⟩
 replace hB := hB.trans (hb.mono hB.size); replace hX := hX.below hb hX.lt; clear hb qX; have qX := fun i => hX.cell i
 cases b with
 | false =>
  go_wp2_with fail
  refine (known_true m _ (hE.below hB)).mono ?_; rintro e wc ⟨rfl, hb⟩
  replace hB := hB.trans (hb.mono hB.size); clear hb
  go_wp2_with fail
  go_ret
  exact ⟨rfl, hB⟩
 | true =>
  have hrb := fun wx hx => refBook_any W A n cap cs wx (h.toW hx)
  cases hbk : bookB W cs with
  | false =>
   have hc2 := fun wx hx => Mixed_no1 W A n cap cs q wx h.max (h.toW hx).2.2.1 (h.toW hx).2.2.2 hbk
   simp only [hbk] at hrb
   have HC2 := Lib.hid hc2; have HRB := Lib.hid hrb; clear hc2 hrb hbk h
   go_wp2_with fail
   refine (HC2.out _ hB).mono ?_; rintro e wc ⟨rfl, hb⟩
   replace hB := hB.trans (hb.mono hB.size); replace hX := hX.below hb hX.lt; clear hb qX
   have hZ0 := Blk.new wc 93 #[.int .i64 0, .int .i64 0, .int .i64 0, .int .i64 0]; have q93 := fun i => hZ0.cell i; have f93 := fun i => hZ0.frozen i; have l93 := hZ0.lt
   go_upto_region 4 with (fail)
   have hS := Blk.new wc 93 #[.int .i64 0, .int .i64 0, .int .i64 0, .int .i64 0]
   have hKeep : Below wc.heap.size wc (wc.alloc (.cells #[.int .i64 0, .int .i64 0, .int .i64 0, .int .i64 0] 93)) := (Below.refl _ wc).alloc (Nat.le_refl _) _
   replace hB := hB.trans (hKeep.mono hB.size); replace hX := hX.below hKeep hX.lt
   clear hKeep hZ0 q93 f93 l93
   generalize wc.alloc (.cells #[.int .i64 0, .int .i64 0, .int .i64 0, .int .i64 0] 93) = W5hS at *
   generalize wc.heap.size = shS at hS ⊢
   have qX := fun i => hX.cell i; have qhS := fun i => hS.cell i
   go_wp2_with fail
   refine (HRB.out _ hB).mono ?_; rintro e wc ⟨rfl, hb⟩
   replace hB := hB.trans (hb.mono hB.size); replace hX := hX.below hb hX.lt; replace hS := hS.below hb hS.lt; clear hb qX; have qX := fun i => hX.cell i
   have qhS := fun i => hS.cell i
   go_wp2_with fail
   refine (known_true m _ (hE.below hB)).mono ?_; rintro e wc ⟨rfl, hb⟩
   replace hB := hB.trans (hb.mono hB.size); clear hb
   go_wp2_with fail
   go_ret
   exact ⟨rfl, hB⟩
  | true =>
   obtain ⟨wn, rfl, hG⟩ := BkG.of_book hbk h.2.2.1 h.2.2.2
   have hn5 := hG.2.1
   have hcy := fun wx => refCopy_any (wn : Int) q A n cap wx (by omega)
   simp only [hbk] at hrb
   cases hk : inB q 0 ((n : Int) - 1) with
   | false =>
    have hc2 := fun wx hx => Mixed_no2 cap q (w := wx) (hG.toW hx) hbk hk
    simp only [hk] at hcy
    have HC2 := Lib.hid hc2; have HRB := Lib.hid hrb; have HCY := Lib.hid hcy; clear hc2 hrb hcy hbk hk h hG
    go_wp2_with fail
    refine (HC2.out _ hB).mono ?_; rintro e wc ⟨rfl, hb⟩
    replace hB := hB.trans (hb.mono hB.size); replace hX := hX.below hb hX.lt; clear hb qX
    have hZ0 := Blk.new wc 93 #[.int .i64 0, .int .i64 0, .int .i64 0, .int .i64 0]; have q93 := fun i => hZ0.cell i; have f93 := fun i => hZ0.frozen i; have l93 := hZ0.lt
    go_upto_region 4 with (fail)
    have hS := Blk.new wc 93 #[.int .i64 0, .int .i64 0, .int .i64 0, .int .i64 0]
    have hKeep : Below wc.heap.size wc (wc.alloc (.cells #[.int .i64 0, .int .i64 0, .int .i64 0, .int .i64 0] 93)) := (Below.refl _ wc).alloc (Nat.le_refl _) _
    replace hB := hB.trans (hKeep.mono hB.size); replace hX := hX.below hKeep hX.lt
    clear hKeep hZ0 q93 f93 l93
    generalize wc.alloc (.cells #[.int .i64 0, .int .i64 0, .int .i64 0, .int .i64 0] 93) = W5hS at *
    generalize wc.heap.size = shS at hS ⊢
    have qX := fun i => hX.cell i; have qhS := fun i => hS.cell i
    go_wp2_with fail
    refine (HRB.out _ hB).mono ?_; rintro e wc ⟨rfl, hb⟩
    replace hB := hB.trans (hb.mono hB.size); replace hX := hX.below hb hX.lt; replace hS := hS.below hb hS.lt; clear hb qX; have qX := fun i => hX.cell i
    have qhS := fun i => hS.cell i
    go_wp2_with fail
    refine (HCY.out _).mono ?_; rintro e wc ⟨rfl, hb⟩
    replace hB := hB.trans (hb.mono hB.size); replace hX := hX.below hb hX.lt; replace hS := hS.below hb hS.lt; clear hb qX; have qX := fun i => hX.cell i
    have qhS := fun i => hS.cell i
    go_wp2_with fail
    refine (known_true m _ (hE.below hB)).mono ?_; rintro e wc ⟨rfl, hb⟩
    replace hB := hB.trans (hb.mono hB.size); clear hb
    go_wp2_with fail
    go_ret
    exact ⟨rfl, hB⟩
   | true =>
    have hq3 : 0 ≤ q ∧ q ≤ (n : Int) - 1 := by simpa [inB] using hk
    obtain ⟨p, rfl⟩ : ∃ p : Nat, q = p := ⟨q.toNat, by omega⟩
    have hp : p < n := by omega
    have hc2 := fun wx hx => Mixed_yes (w := wx) cap p (hG.toW hx) hbk hp
    have hrf := fun wx hx => refMixed_any (w := wx) cap p (hG.toW hx) hbk hp
    simp only [hk] at hcy
    generalize bestI MX.c (mixL cs p n n) = o at *
    cases o with
    | none =>
     unfold mixE at hc2
     unfold outc at hrf
     simp only [Option.isSome] at hc2 hrf
     have HC2 := Lib.hid hc2; have HRB := Lib.hid hrb; have HCY := Lib.hid hcy; have HRF := Lib.hid hrf; clear hc2 hrb hcy hrf hbk hk h hG hp hq1 hq2 hq3
     go_wp2_with fail
     refine (HC2.out _ hB).mono ?_; rintro e wc ⟨rfl, hb⟩
     replace hB := hB.trans (hb.mono hB.size); replace hX := hX.below hb hX.lt; clear hb qX
     have hZ0 := Blk.new wc 93 #[.int .i64 0, .int .i64 0, .int .i64 0, .int .i64 0]; have q93 := fun i => hZ0.cell i; have f93 := fun i => hZ0.frozen i; have l93 := hZ0.lt
     go_upto_region 4 with (fail)
     have hS := Blk.new wc 93 #[.int .i64 0, .int .i64 0, .int .i64 0, .int .i64 0]
     have hKeep : Below wc.heap.size wc (wc.alloc (.cells #[.int .i64 0, .int .i64 0, .int .i64 0, .int .i64 0] 93)) := (Below.refl _ wc).alloc (Nat.le_refl _) _
     replace hB := hB.trans (hKeep.mono hB.size); replace hX := hX.below hKeep hX.lt
     clear hKeep hZ0 q93 f93 l93
     generalize wc.alloc (.cells #[.int .i64 0, .int .i64 0, .int .i64 0, .int .i64 0] 93) = W5hS at *
     generalize wc.heap.size = shS at hS ⊢
     have qX := fun i => hX.cell i; have qhS := fun i => hS.cell i
     go_wp2_with fail
     refine (HRB.out _ hB).mono ?_; rintro e wc ⟨rfl, hb⟩
     replace hB := hB.trans (hb.mono hB.size); replace hX := hX.below hb hX.lt; replace hS := hS.below hb hS.lt; clear hb qX; have qX := fun i => hX.cell i
     have qhS := fun i => hS.cell i
     go_wp2_with fail
     refine (HCY.out _).mono ?_; rintro e wc ⟨rfl, hb⟩
     replace hB := hB.trans (hb.mono hB.size); replace hX := hX.below hb hX.lt; replace hS := hS.below hb hS.lt; clear hb qX; have qX := fun i => hX.cell i
     have qhS := fun i => hS.cell i
     go_wp2_with fail
     refine (HRF.out _ hB).mono ?_; rintro e wc ⟨rfl, hb⟩
     replace hB := hB.trans (hb.mono hB.size); replace hX := hX.below hb hX.lt; replace hS := hS.below hb hS.lt; clear hb qX
     have hZ0 := Blk.new wc 93 #[.int .i64 0, .int .i64 0, .int .i64 0, .int .i64 0]; have q93 := fun i => hZ0.cell i; have f93 := fun i => hZ0.frozen i; have l93 := hZ0.lt
     go_upto_region 7 with (fail)
     have hT := Blk.new wc 93 #[.int .i64 0, .int .i64 0, .int .i64 0, .int .i64 0]
     have hKeep : Below wc.heap.size wc (wc.alloc (.cells #[.int .i64 0, .int .i64 0, .int .i64 0, .int .i64 0] 93)) := (Below.refl _ wc).alloc (Nat.le_refl _) _
     replace hB := hB.trans (hKeep.mono hB.size); replace hX := hX.below hKeep hX.lt
     replace hS := hS.below hKeep hS.lt; clear hKeep hZ0 q93 f93 l93
     generalize wc.alloc (.cells #[.int .i64 0, .int .i64 0, .int .i64 0, .int .i64 0] 93) = W5hT at *
     generalize wc.heap.size = shT at hT ⊢
     have qX := fun i => hX.cell i; have qhT := fun i => hT.cell i
     have qhS := fun i => hS.cell i
     go_wp2_with fail
     refine (known_true m _ (hE.below hB)).mono ?_; rintro e wc ⟨rfl, hb⟩
     replace hB := hB.trans (hb.mono hB.size); clear hb
     go_wp2_with fail
     go_ret
     exact ⟨rfl, hB⟩
    | some x =>
     obtain ⟨x1, x2, x3, x4⟩ := x
     unfold mixE at hc2
     unfold outc at hrf
     simp only [Option.isSome] at hc2 hrf
     have HC2 := Lib.hid hc2; have HRB := Lib.hid hrb; have HCY := Lib.hid hcy; have HRF := Lib.hid hrf; clear hc2 hrb hcy hrf hbk hk h hG hp hq1 hq2 hq3
     go_wp2_with fail
     refine (HC2.out _ hB).mono ?_; rintro e wc ⟨rfl, hb⟩
     replace hB := hB.trans (hb.mono hB.size); replace hX := hX.below hb hX.lt; clear hb qX
     have hZ0 := Blk.new wc 93 #[.int .i64 0, .int .i64 0, .int .i64 0, .int .i64 0]; have q93 := fun i => hZ0.cell i; have f93 := fun i => hZ0.frozen i; have l93 := hZ0.lt
     go_upto_region 4 with (fail)
     have hS := Blk.new wc 93 #[.int .i64 x1, .int .i64 x2, .int .i64 x3, .int .i64 x4]
     have hKeep : Below wc.heap.size wc (wc.alloc (.cells #[.int .i64 x1, .int .i64 x2, .int .i64 x3, .int .i64 x4] 93)) := (Below.refl _ wc).alloc (Nat.le_refl _) _
     replace hB := hB.trans (hKeep.mono hB.size); replace hX := hX.below hKeep hX.lt
     clear hKeep hZ0 q93 f93 l93
     generalize wc.alloc (.cells #[.int .i64 x1, .int .i64 x2, .int .i64 x3, .int .i64 x4] 93) = W5hS at *
     generalize wc.heap.size = shS at hS ⊢
     have qX := fun i => hX.cell i; have qhS := fun i => hS.cell i
     go_wp2_with fail
     refine (HRB.out _ hB).mono ?_; rintro e wc ⟨rfl, hb⟩
     replace hB := hB.trans (hb.mono hB.size); replace hX := hX.below hb hX.lt; replace hS := hS.below hb hS.lt; clear hb qX; have qX := fun i => hX.cell i
     have qhS := fun i => hS.cell i
     go_wp2_with fail
     refine (HCY.out _).mono ?_; rintro e wc ⟨rfl, hb⟩
     replace hB := hB.trans (hb.mono hB.size); replace hX := hX.below hb hX.lt; replace hS := hS.below hb hS.lt; clear hb qX; have qX := fun i => hX.cell i
     have qhS := fun i => hS.cell i
     go_wp2_with fail
     refine (HRF.out _ hB).mono ?_; rintro e wc ⟨rfl, hb⟩
     replace hB := hB.trans (hb.mono hB.size); replace hX := hX.below hb hX.lt; replace hS := hS.below hb hS.lt; clear hb qX
     have hZ0 := Blk.new wc 93 #[.int .i64 0, .int .i64 0, .int .i64 0, .int .i64 0]; have q93 := fun i => hZ0.cell i; have f93 := fun i => hZ0.frozen i; have l93 := hZ0.lt
     go_upto_region 7 with (fail)
     have hT := Blk.new wc 93 #[.int .i64 x1, .int .i64 x2, .int .i64 x3, .int .i64 x4]
     have hKeep : Below wc.heap.size wc (wc.alloc (.cells #[.int .i64 x1, .int .i64 x2, .int .i64 x3, .int .i64 x4] 93)) := (Below.refl _ wc).alloc (Nat.le_refl _) _
     replace hB := hB.trans (hKeep.mono hB.size); replace hX := hX.below hKeep hX.lt
     replace hS := hS.below hKeep hS.lt; clear hKeep hZ0 q93 f93 l93
     generalize wc.alloc (.cells #[.int .i64 x1, .int .i64 x2, .int .i64 x3, .int .i64 x4] 93) = W5hT at *
     generalize wc.heap.size = shT at hT ⊢
     have qX := fun i => hX.cell i; have qhT := fun i => hT.cell i
     have qhS := fun i => hS.cell i
     go_wp2_with fail
     refine (known_true m _ (hE.below hB)).mono ?_; rintro e wc ⟨rfl, hb⟩
     replace hB := hB.trans (hb.mono hB.size); clear hb
     go_wp2_with fail
     go_ret
     exact ⟨rfl, hB⟩
end
section
open Go.ChangeShapes Go.WideShapes Go.ChangeAt Go.RowKit Go.Deep Go.Lib
set_option maxRecDepth 100000
section
variable {H : Type} {enc : TypeId × Value → H} {P : Program} {w : World} {base : Nat} {spare : Nat → Bool} {held : Bool}
theorem law_two {s0 s1 : TypeId} {args : Array Value} {ds : List (DataW H)} {ps : List MemPlace} (h : DataW.TrodAll enc P w base spare held [s0, s1] args.toList ds ps) :
  ∃ v0 v1 d0 d1 p0 p1, args = #[v0, v1] ∧ ds = [d0, d1] ∧ DataW.Trod enc P w base spare held s0 v0 d0 p0 ∧ DataW.Trod enc P w base spare held s1 v1 d1 p1 := by
 obtain ⟨v0, r0, d0, e0, p0, q0, hargs, rfl, rfl, t0, h0⟩ := trodAll_cons h
 obtain ⟨v1, r1, d1, e1, p1, q1, rfl, rfl, rfl, t1, h1⟩ := trodAll_cons h0
 obtain ⟨rfl, rfl, rfl⟩ := trodAll_nil h1
 exact ⟨v0, v1, d0, d1, p0, p1, by cases args; simp_all, rfl, t0, t1⟩
end
section
variable {H : Type} {enc : TypeId × Value → H} {w : World} {base : Nat} {spare : Nat → Bool} {held : Bool} {r : Reach} {b0 : Nat} {v : Value} {d : DataW H} {p : List MemPlace}
theorem law_num (hv : Value.okWide Tryz.prog w r b0 3 v) (h : DataW.Trod enc Tryz.prog w base spare held 3 v d p) : ∃ k : Int, v = .int .i64 k ∧ -9223372036854775808 ≤ k ∧ k ≤ 9223372036854775807 := by
 obtain ⟨k, rfl, rfl, rfl, wk⟩ := open_int Tryz.underlying3 hv h
 have := wk
 simp [Lit.wf, IntKind.min, IntKind.max, IntKind.signed, IntKind.bits] at this
 exact ⟨k, rfl, by omega, by omega⟩
end
end
end Go.Proofs.YtekmnelpkogppaaGreatDoor
