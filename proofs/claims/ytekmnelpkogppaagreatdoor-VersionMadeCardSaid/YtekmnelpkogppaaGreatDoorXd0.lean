import Derived.Test.YtekmnelpkogppaaGreatDoorKx11
set_option linter.unusedVariables false
set_option linter.unusedSimpArgs false
set_option maxRecDepth 100000
set_option maxHeartbeats 40000000
namespace Go.Proofs.YtekmnelpkogppaaGreatDoor
section
set_option linter.unusedVariables false
set_option linter.unusedSimpArgs false
section -- WkK2
open Go.RowKit
def ltr (s : ByteArray) : List Int := s.data.toList.map fun b => (b.toNat : Int)
end
section -- WkB
open Go.RowKit
def idxOf (c : Int) : List Int → Nat → Int
 | [], _ => -1
 | z :: zs, k => if c == z then k else idxOf c zs (k + 1)
end
section -- WkC
open Go.RowKit
def cntL (l : List Int) (zs : List Int) : Nat := (l.filter fun b => decide (0 ≤ idxOf b zs 0)).length
def lineV (ax F N x : Int) : Int := ax * (F - N) + (x - ax) * F
end
section -- WkE
open Go.RowKit
def scanN (p : Nat → Bool) : Nat → Nat → Nat
 | 0, t => t
 | f + 1, t => if p t then scanN p f (t + 1) else t
def lowV (F N L k : Int) : Int := k * (F - N) - L * N
def highV (F N L k : Int) : Int := (k + 1) * (F - N) + L * N
def firstS (ax F N P lo : Int) (sz : Nat) : Nat := scanN (fun t => decide (lineV ax F N (P + (t + 1)) ≤ lo)) sz 0
def endS (ax F N P lo hi : Int) (sz : Nat) : Nat := scanN (fun t => decide (lineV ax F N (P + t) < hi)) (sz - firstS ax F N P lo sz) (firstS ax F N P lo sz)
def insideS (ax F N P lo hi : Int) (sz : Nat) : Bool := decide (lineV ax F N P ≤ lo) && decide (hi ≤ lineV ax F N (P + sz))
end
section -- WkF
open Go.RowKit
def sumL (rows : List ByteArray) (c d : Nat) : Nat := (rows.map fun r => cntL (ltr (r.extract c d)) [35]).sum
def toneS (rows : List ByteArray) (c d : Nat) (ci : Bool) (f e : Nat) (ri : Bool) : Int :=
 if sumL ((rows.drop f).take (e - f)) c d = 0 then 46
 else if ci && ri && decide (sumL ((rows.drop f).take (e - f)) c d = (d - c) * (e - f)) then 35 else 43
end
section -- WkH
open Go.RowKit
def cellS (F L X Y N PX PY : Int) (rows : List ByteArray) (wd n k m : Nat) : Int :=
 toneS rows (firstS X F N PX (lowV F N L k) wd) (endS X F N PX (lowV F N L k) (highV F N L k) wd) (insideS X F N PX (lowV F N L k) (highV F N L k) wd)
  (firstS Y F N PY (lowV F N L m) n) (endS Y F N PY (lowV F N L m) (highV F N L m) n) (insideS Y F N PY (lowV F N L m) (highV F N L m) n)
def shadL (W H : Nat) (F L X Y N PX PY : Int) (rows : List ByteArray) (wd n q : Nat) : List Int := (List.range q).map fun c => cellS F L X Y N PX PY rows wd n (c % W) (c / W)
end
section -- WkM
open Go.RowKit
def wdOf (rows : List ByteArray) : Nat := (rows.headD ByteArray.empty).size
end
section -- WkS
open Go.RowKit
def shS (W H F L X Y N PX PY : Int) (rows : List ByteArray) : ByteArray := strOfNums (shadL W.toNat H.toNat F L X Y N PX PY rows (wdOf rows) rows.length (W.toNat * H.toNat))
end
section -- WkOp
open Go.ChangeShapes Go.WideShapes Go.ChangeAt Go.RowKit Go.Deep
section
variable {H : Type} {enc : TypeId × Value → H} {P : Program} {w : World} {base : Nat} {spare : Nat → Bool} {held : Bool} {r : Reach} {b0 : Nat} {v : Value} {d : DataW H} {p : List MemPlace}
theorem int_cell {n : Nat} {t3 : TypeId} {c : Value} {y : Option (DataW H × List MemPlace)} (h3 : P.underlying t3 = some (.int .i64)) (hy : y.isSome = true) (h : DataW.trod enc P w base spare held n t3 [c] = y) : ∃ k, c = .int .i64 k := by
 obtain ⟨y', rfl⟩ := Option.isSome_iff_exists.1 hy
 obtain ⟨k, hk, _⟩ := DataW.trod_int h3 h
 exact ⟨k, by simpa using hk⟩
theorem some_of_len {α : Type} {l : List α} {i n : Nat} (h : l.length = n) (hi : i < n) : (l[i]?).isSome = true := by
 rw [List.getElem?_eq_getElem (by omega)]; rfl
theorem ints_in {t t3 : TypeId} {fs : Array Field} (ht : P.underlying t = some (.struct fs)) (hC : P.cellsOf t = fs.size) (hone : oneCellFields P fs = true) (hf : ∀ (i : Nat) (f : Field), fs[i]? = some f → f.type = t3) (h3 : P.underlying t3 = some (.int .i64))
  (hv : Value.okWide P w r b0 t v) (h : DataW.Trod enc P w base spare held t v d p) : ∃ ns : List Int, ns.length = fs.size ∧ v = .agg (ns.map (Value.int .i64)).toArray := by
 obtain ⟨cs, rfl, hsz⟩ := okWide_struct ht hv
 rw [hC] at hsz
 obtain ⟨fuel, hfu⟩ := h
 obtain ⟨xs, n, _, _, _, hl, hg⟩ := DataW.trod_struct ht hfu
 have each : ∀ i (hi : i < cs.size), ∃ k, cs[i] = .int .i64 k := by
  intro i hi
  have hfi : fs[i]? = some fs[i] := Array.getElem?_eq_getElem (by omega)
  obtain ⟨ho, hc⟩ := hone_of hone i _ hfi
  have g := hg i _ hfi
  rw [ho, hc, hf i _ hfi] at g
  have e : ((Value.cells (.agg cs)).toList.drop i).take 1 = [cs[i]] := by
   simp only [Value.cells]
   rw [List.drop_eq_getElem_cons (by simpa using hi)]
   simp
  rw [e] at g
  exact int_cell h3 (some_of_len hl (by omega)) g
 refine ⟨cs.toList.map intOf, by simpa using hsz, ?_⟩
 congr 1
 apply Array.ext
 ·simp
 ·intro i h1 h2
  obtain ⟨k, hk⟩ := each i h1
  simp [hk, intOf]
end
end
end
section
open Go.RowKit Go.Lib
theorem refCopy_any (W l : Int) (A : Option Addr) (n cap : Nat) (w : World) (hn : n ≤ 1000) :
  Calls Tryz.prog 54 #[.agg #[.int .i64 W, .slice A n cap], .int .i64 l] w fun e w' => e = .returned (.bool (inB l 0 (n - 1))) ∧ Below w.heap.size w w' := by
 go_enter Tryz.func54, Tryz.ntmps54
 go_wp2_with (go_at_call 85; refine (in_any _ _ _ _).mono ?_; rintro e w1 ⟨rfl, rfl⟩)
 go_ret
 exact ⟨rfl, (Below.refl _ w).alloc (Nat.le_refl _) _⟩
end
section
theorem ed_map {α β : Type} [DecidableEq α] [DecidableEq β] (f : α → β) : ∀ (a b : List α), (∀ x ∈ a, ∀ y ∈ b, f x = f y → x = y) → ed (a.map f) (b.map f) = ed a b
 | [], b, _ => by simp [ed_nil]
 | x :: xs, b, h => by
  have ih := fun b hb => ed_map f xs b hb
  induction b with
  | nil => simp [ed_nil_r]
  | cons y ys ihb =>
   rw [List.map_cons, List.map_cons, ed_cons, ed_cons, ← List.map_cons, ← List.map_cons]
   rw [ih ys (fun p hp q hq => h p (by simp [hp]) q (by simp [hq])), ih (y :: ys) (fun p hp q hq => h p (by simp [hp]) q hq), ihb (fun p hp q hq => h p hp q (by simp [hq]))]
   by_cases e : x = y
   ·rw [if_pos e, if_pos (by rw [e])]
   ·rw [if_neg e, if_neg (fun e2 => e (h x (by simp) y (by simp) e2))]
end
section
open Go.RowKit Go.Lib
theorem IA.max {w : World} {A : Option Addr} {n cap : Nat} {l : List Int} (h : IA w A n cap l) : n ≤ maxLen := Nat.le_trans h.1 h.2.1
theorem u8_inj {x y : Int} (hx : 0 ≤ x ∧ x ≤ 2) (hy : 0 ≤ y ∧ y ≤ 2) (e : UInt8.ofNat x.toNat = UInt8.ofNat y.toNat) : x = y := by
 have h := congrArg UInt8.toNat e
 simp only [UInt8.toNat_ofNat'] at h
 omega
theorem edB_int {a b : List Int} (ha : ∀ x ∈ a, 0 ≤ x ∧ x ≤ 2) (hb : ∀ x ∈ b, 0 ≤ x ∧ x ≤ 2) : edB (lbS a) (lbS b) = ed a b := by
 show ed (lbL a) (lbL b) = ed a b
 unfold lbL
 exact ed_map _ a b (fun x hx y hy e => u8_inj (ha x hx) (hb y hy) e)
theorem book_W {W : Int} {cs : List VC} (h : bookB W cs = true) : 1 ≤ W ∧ W ≤ 3 := by
 unfold bookB at h
 simp only [Bool.and_eq_true] at h
 simpa [inB] using h.1.1.1
section
variable {W : Int} {A : Option Addr} {n cap : Nat} {cs : List VC} {w : World} {A1 A2 : Option Addr} {n1 n2 c1 c2 : Nat} {l1 l2 : List Int}
theorem Changes_I (h : BkI w A n cap cs) (hk : bookB W cs = true) (h1 : IA w A1 n1 c1 l1) (h2 : IA w A2 n2 c2 l2) (k1 : lnB W l1 = true) (k2 : lnB W l2 = true) :
  Calls Tryz.prog 26 #[.agg #[.int .i64 W, .slice A n cap], .slice A1 n1 c1, .slice A2 n2 c2] w fun e w' => e = .returned (.tuple #[.int .i64 (ed l1 l2 : Nat), .int .i64 0]) ∧ Below w.heap.size w w' := by
 have h3 := Changes_yes W A n cap cs A1 n1 c1 l1 A2 n2 c2 l2 w h.max h.2.2.1 h.2.2.2 h1.max h1.2.2 h2.max h2.2.2 hk k1 k2
 rw [edB_int (ln_small (book_W hk) k1).2 (ln_small (book_W hk) k2).2] at h3
 exact h3
def RightB (W : Int) (cs : List VC) (e : Ending) : Prop := ∃ b : Bool, e = .returned (.bool b) ∧ (b = true → bookB W cs = true)
theorem right_any (h : BkI w A n cap cs) : Calls Tryz.prog 30 #[.agg #[.int .i64 W, .slice A n cap]] w fun e w' => RightB W cs e ∧ Below w.heap.size w w' := by
 have hX := Blk.new w 24 #[.int .i64 W, .slice A n cap]
 have hB : Below w.heap.size w (w.alloc (.cells #[.int .i64 W, .slice A n cap] 24)) := (Below.refl _ w).alloc (Nat.le_refl _) _
 have qX := fun i => hX.cell i
 go_enter Tryz.func30, Tryz.ntmps30
 go_wp2_with fail
 refine (short_any W A n cap cs _ (h.toW hB)).mono ?_; rintro e wc ⟨⟨b, rfl⟩, hb⟩
 replace hB := hB.trans (hb.mono hB.size); replace hX := hX.below hb hX.lt; clear hb qX; have qX := fun i => hX.cell i
 cases b with
 | false =>
  go_wp2_with fail
  go_ret
  exact ⟨⟨false, rfl, fun h => by cases h⟩, hB⟩
 | true =>
  have hbk := refBook_any W A n cap cs
  obtain ⟨R, hR⟩ : ∃ R, R = bookB W cs := ⟨_, rfl⟩
  rw [← hR] at hbk
  have HR := Lib.hid hR; clear hR
  go_wp2_with fail
  refine (hbk _ (h.toW hB)).mono ?_; rintro e wc ⟨rfl, hb⟩
  replace hB := hB.trans (hb.mono hB.size); clear hb qX
  go_wp2_with fail
  go_ret
  exact ⟨⟨R, rfl, fun h => by rw [← HR.out]; exact h⟩, hB⟩
end
end
section
open Go.RowKit Go.Lib
theorem lnB_len {W : Int} {l : List Int} (h : lnB W l = true) : l.length ≤ 4 := by
 unfold lnB at h
 simp only [Bool.and_eq_true, decide_eq_true_eq] at h
 exact h.1
end
section
open Go.RowKit Go.Lib Go.Maps
theorem sumI_app (a : List Int) : ∀ (b : List Int), sumI (a ++ b) = sumI a + sumI b := by
 refine revInd ?_ ?_
 ·rw [List.append_nil]; show sumI a = sumI a + 0; omega
 ·intro l x ih
  rw [← List.append_assoc, sumI_snoc, sumI_snoc, ih]; omega
theorem book_small {wn : Nat} {cs : List VC} (h : bookB (wn : Int) cs = true) : ∀ c ∈ cs, ∀ v ∈ c.ls, ∀ x ∈ v.ws, 0 ≤ x ∧ x ≤ 2 := fun c hc v hv => by
 have hW := book_W h
 unfold bookB at h
 simp only [Bool.and_eq_true, List.all_eq_true] at h
 have h2 := (h.2 c hc).2 v hv
 unfold vlB at h2
 rw [Bool.and_eq_true] at h2
 exact (ln_small hW h2.1).2
end
section
open Go.RowKit Go.Lib
theorem book_lnB {W : Int} {cs : List VC} (h : bookB W cs = true) : ∀ c ∈ cs, ∀ v ∈ c.ls, lnB W v.ws = true := fun c hc v hv => by
 unfold bookB at h
 simp only [Bool.and_eq_true, List.all_eq_true] at h
 have h2 := (h.2 c hc).2 v hv
 unfold vlB at h2
 rw [Bool.and_eq_true] at h2
 exact h2.1
end
section
open Go.RowKit Go.Lib Go.Maps
theorem BkG.head0 {wn : Nat} {A : Option Addr} {n : Nat} {cs : List VC} {w : World} {B : Nat} (h : BkG wn A n cs w B) : ∃ b off a0 k0, A = some ⟨b, off, none⟩ ∧ b < B ∧ w.cell? ⟨b, off, none⟩ = some (.slice a0 (headN cs) k0) := by
 obtain ⟨b, off, hz, e, hb, hc⟩ := h.2.2.2.1.atm (show 0 < n by have := h.2.1; omega)
 refine ⟨b, off, cs[0].A, cs[0].cap, e, hb, ?_⟩
 rw [Nat.add_zero] at hc
 rw [hc, ← (h.2.2.2.2.2.1 _ (List.getElem_mem hz)).1]; rfl
end
section
open Go.RowKit Go.Lib Go.Maps
def tkF (v : VL) (l : List Int) : Nat := if v.lost then 0 else ed l v.ws
end
section
open Go.RowKit Go.Lib Go.Maps
theorem tkF_le (v : VL) (l : List Int) (hl : l.length ≤ 4) (hv : v.ws.length ≤ 4) : tkF v l ≤ 4 := by
 unfold tkF
 split
 ·omega
 ·have := ed_le l v.ws; omega
end
section
open Go.RowKit Go.Lib Go.Maps
def vlAt (cs : List VC) (p k : Nat) : VL := ((cs[p]?).bind fun c => c.ls[k]?).getD ⟨true, none, 0, 0, []⟩
theorem vlAt_ls {cs : List VC} {p k : Nat} {c : VC} (h : cs[p]? = some c) (hk : k < c.ls.length) : c.ls[k]? = some (vlAt cs p k) := by
 unfold vlAt
 rw [h, Option.bind_some, List.getElem?_eq_getElem hk]; rfl
theorem BkG.rows {wn : Nat} {A : Option Addr} {n : Nat} {cs : List VC} {w : World} {B : Nat} (h : BkG wn A n cs w B) : ∃ b off, A = some ⟨b, off, none⟩ ∧ b < B ∧ ∀ p, p < n → ∃ b2 off2 cc, w.cell? ⟨b, off + p, none⟩ = some (.slice (some ⟨b2, off2, none⟩) (headN cs) cc) ∧ b2 < B ∧
  ∀ k, k < headN cs → w.cell? ⟨b2, off2 + k * 2, none⟩ = some (.bool (vlAt cs p k).lost) ∧ w.cell? ⟨b2, off2 + k * 2 + 1, none⟩ = some (.slice (vlAt cs p k).A (vlAt cs p k).n (vlAt cs p k).cap) ∧ (vlAt cs p k).ok w B ∧ (vlAt cs p k).n ≤ 4 ∧ (vlAt cs p k).ws.length ≤ 4 := by
 obtain ⟨b, off, hz, e, hb, hc⟩ := h.2.2.2.1.atm (show 0 < n by have := h.2.1; omega)
 refine ⟨b, off, e, hb, fun p hp => ?_⟩
 obtain ⟨b', off', hz', e', _, hc'⟩ := h.2.2.2.1.atm hp
 rw [e] at e'
 cases e'
 have hin := List.getElem_mem hz'
 have hco := h.2.2.2.2.1 _ hin
 have hcn := h.2.2.2.2.2.1 _ hin
 have hcv := h.2.2.2.2.2.2 _ hin
 have hp2 : cs[p]? = some cs[p] := List.getElem?_eq_getElem hz'
 have hL := h.2.2.1.1
 have h0 := hco.2.2.2.at2 (show 0 < cs[p].n by omega)
 obtain ⟨b2, off2, _, e2, hb2, _, _⟩ := h0
 refine ⟨b2, off2, cs[p].cap, by rw [hc', ← hcn.1, ← e2]; rfl, hb2, fun k hk => ?_⟩
 obtain ⟨b3, off3, hz3, e3, _, hv0, hv1⟩ := hco.2.2.2.at2 (show k < cs[p].n by omega)
 rw [e2] at e3
 cases e3
 have hl := vlAt_ls hp2 hz3
 rw [List.getElem?_eq_getElem hz3] at hl
 have hl2 := Option.some.inj hl
 rw [← hl2]
 have hv := hcv _ (List.getElem_mem hz3)
 exact ⟨hv0, hv1, hco.2.2.1 _ (List.getElem_mem hz3), hv.1, hv.2.1⟩
def mixF (cs : List VC) (p a b i : Nat) : Nat → Nat
 | 0 => 0
 | k + 1 => mixF cs p a b i k + tkF (vlAt cs p k) (vlAt cs (if k < i then a else b) k).ws
theorem mixF_le {wn : Nat} {A : Option Addr} {n : Nat} {cs : List VC} {w : World} {B : Nat} (h : BkG wn A n cs w B) {p a b i : Nat} (hp : p < n) (ha : a < n) (hb : b < n) : ∀ k, k ≤ headN cs → mixF cs p a b i k ≤ 4 * k
 | 0, _ => Nat.zero_le _
 | k + 1, hk => by
  obtain ⟨_, _, _, _, hr⟩ := h.rows
  have h1 := mixF_le h (i := i) hp ha hb k (by omega)
  obtain ⟨_, _, _, _, _, hl⟩ := hr p hp
  obtain ⟨_, _, _, _, v1⟩ := hl k (by omega)
  have hab : (if k < i then a else b) < n := by split <;> assumption
  obtain ⟨_, _, _, _, _, hl2⟩ := hr _ hab
  obtain ⟨_, _, _, _, v2⟩ := hl2 k (by omega)
  have := tkF_le _ _ v2 v1
  rw [mixF]; omega
end
section
open Go.RowKit Go.Lib Go.Maps
def mixB (n L p : Nat) (a b i : Int) : Bool := inB a 0 ((n : Int) - 1) && (inB b 0 ((n : Int) - 1) && ((a != b) && ((a != (p : Int)) && ((b != (p : Int)) && inB i 1 ((L : Int) - 1)))))
theorem mix70_any {wn : Nat} {A : Option Addr} {n : Nat} (cap : Nat) {cs : List VC} (p : Nat) (a b i z : Int) {w : World} (h : BkG wn A n cs w w.heap.size) :
  Calls Tryz.prog 70 #[.agg #[.int .i64 (wn : Int), .slice A n cap], .int .i64 (p : Int), .agg #[.int .i64 a, .int .i64 b, .int .i64 i, .int .i64 z]] w fun e w' => e = .returned (.bool (mixB n (headN cs) p a b i)) ∧ Below w.heap.size w w' := by
 have hn5 := h.2.1; have hL4 := h.2.2.1
 obtain ⟨bb, off, a0, k0, rfl, hbw, hcell⟩ := h.head0
 generalize headN cs = L at *
 clear h
 have hX := (Blk.new w 24 #[.int .i64 (wn : Int), .slice (some ⟨bb, off, none⟩) n cap]).alloc (.cells #[.int .i64 a, .int .i64 b, .int .i64 i, .int .i64 z] 93)
 have hM := blk2_1 w (.cells #[.int .i64 (wn : Int), .slice (some ⟨bb, off, none⟩) n cap] 24) 93 #[.int .i64 a, .int .i64 b, .int .i64 i, .int .i64 z]
 have hB : Below w.heap.size w ((w.alloc (.cells #[.int .i64 (wn : Int), .slice (some ⟨bb, off, none⟩) n cap] 24)).alloc (.cells #[.int .i64 a, .int .i64 b, .int .i64 i, .int .i64 z] 93)) := ((Below.refl _ w).alloc (Nat.le_refl _) _).alloc (by simp only [World.size_alloc]; omega) _
 have hc1 := fun (x : World) => refCopy_any (wn : Int) a (some ⟨bb, off, none⟩) n cap x (by omega)
 have hc2 := fun (x : World) => refCopy_any (wn : Int) b (some ⟨bb, off, none⟩) n cap x (by omega)
 have hc3 := fun (x : World) => (in_any i 1 ((L : Int) - 1) x).mono (R' := fun e w' => e = .returned (.bool (inB i 1 ((L : Int) - 1))) ∧ Below x.heap.size x w') (fun _ _ hh => ⟨hh.1, by rw [← hh.2]; exact Below.refl _ _⟩)
 unfold mixB
 go_enter Tryz.func70, Tryz.ntmps70
 go_upto_region 1 with (fail)
 generalize (w.alloc (.cells #[.int .i64 (wn : Int), .slice (some ⟨bb, off, none⟩) n cap] 24)).alloc (.cells #[.int .i64 a, .int .i64 b, .int .i64 i, .int .i64 z] 93) = W0 at *
 have hq1 := fun (x : Blw W0.heap.size W0) j => blw_blk hX x j
 have hq2 := fun (x : Blw W0.heap.size W0) j => blw_blk hM x j
 have hq3 := fun (x : Blw W0.heap.size W0) => ((Blw.h x).cell (p := ⟨bb, off, none⟩) (Nat.lt_of_lt_of_le hbw hB.size)).trans ((hB.cell (p := ⟨bb, off, none⟩) hbw).trans hcell)
 have hlX := hX.lt; have hlM := hM.lt
 have hn0 : (0 : Int) < n := by omega
 have hLi : (L : Int) ≤ 4 := by omega
 have hLj : (1 : Int) ≤ L := by omega
 clear hX hM
 cases k1 : inB a 0 ((n : Int) - 1) with
 | false =>
  simp only [k1] at hc1
  have HC1 := Lib.hid hc1; have K1 := Lib.hid k1; clear hc1 hc2 hc3 k1
  refine wp_region_blw (by kernel_rfl) (by kernel_rfl) ?_
  repeat (go_big_quiet_step (fail))
  go_big_quiet_step ((go_at_call 54; exact Calls.blw_of _ (HC1.out _)))
  repeat (go_big_quiet_step (fail))
  refine wpQuiet_nil ?_
  rintro W3 ⟨⟨_, hb3⟩, rfl⟩
  clear hq1 hq2 hq3
  go_wp2_with fail
  go_ret
  exact ⟨by rw [K1.out]; simp, hB.trans (hb3.mono hB.size)⟩
 | true =>
  cases k2 : inB b 0 ((n : Int) - 1) with
  | false =>
   simp only [k1] at hc1
   simp only [k2] at hc2
   have HC1 := Lib.hid hc1; have HC2 := Lib.hid hc2; have K1 := Lib.hid k1; have K2 := Lib.hid k2; clear hc1 hc2 hc3 k1 k2
   refine wp_region_blw (by kernel_rfl) (by kernel_rfl) ?_
   repeat (go_big_quiet_step (fail))
   go_big_quiet_step ((go_at_call 54; exact Calls.blw_of _ (HC1.out _)))
   repeat (go_big_quiet_step (fail))
   go_big_quiet_step ((go_at_call 54; exact Calls.blw_of _ (HC2.out _)))
   repeat (go_big_quiet_step (fail))
   refine wpQuiet_nil ?_
   rintro W3 ⟨⟨_, hb3⟩, rfl⟩
   clear hq1 hq2 hq3
   go_wp2_with fail
   go_ret
   exact ⟨by rw [K1.out, K2.out]; simp, hB.trans (hb3.mono hB.size)⟩
  | true =>
   cases k3 : (a != b) with
   | false =>
    simp only [k1] at hc1
    simp only [k2] at hc2
    have HC1 := Lib.hid hc1; have HC2 := Lib.hid hc2; have K1 := Lib.hid k1; have K2 := Lib.hid k2; clear hc1 hc2 hc3 k1 k2
    refine wp_region_blw (by kernel_rfl) (by kernel_rfl) ?_
    repeat (go_big_quiet_step (fail))
    go_big_quiet_step ((go_at_call 54; exact Calls.blw_of _ (HC1.out _)))
    repeat (go_big_quiet_step (fail))
    go_big_quiet_step ((go_at_call 54; exact Calls.blw_of _ (HC2.out _)))
    repeat (go_big_quiet_step (fail))
    refine wpQuiet_nil ?_
    rintro W3 ⟨⟨_, hb3⟩, rfl⟩
    clear hq1 hq2 hq3
    go_wp2_with fail
    go_ret
    exact ⟨by rw [K1.out, K2.out, k3]; simp, hB.trans (hb3.mono hB.size)⟩
   | true =>
    cases k4 : (a != (p : Int)) with
    | false =>
     simp only [k1] at hc1
     simp only [k2] at hc2
     have HC1 := Lib.hid hc1; have HC2 := Lib.hid hc2; have K1 := Lib.hid k1; have K2 := Lib.hid k2; clear hc1 hc2 hc3 k1 k2
     refine wp_region_blw (by kernel_rfl) (by kernel_rfl) ?_
     repeat (go_big_quiet_step (fail))
     go_big_quiet_step ((go_at_call 54; exact Calls.blw_of _ (HC1.out _)))
     repeat (go_big_quiet_step (fail))
     go_big_quiet_step ((go_at_call 54; exact Calls.blw_of _ (HC2.out _)))
     repeat (go_big_quiet_step (fail))
     refine wpQuiet_nil ?_
     rintro W3 ⟨⟨_, hb3⟩, rfl⟩
     clear hq1 hq2 hq3
     go_wp2_with fail
     go_ret
     exact ⟨by rw [K1.out, K2.out, k3, k4]; simp, hB.trans (hb3.mono hB.size)⟩
    | true =>
     cases k5 : (b != (p : Int)) with
     | false =>
      simp only [k1] at hc1
      simp only [k2] at hc2
      have HC1 := Lib.hid hc1; have HC2 := Lib.hid hc2; have K1 := Lib.hid k1; have K2 := Lib.hid k2; clear hc1 hc2 hc3 k1 k2
      refine wp_region_blw (by kernel_rfl) (by kernel_rfl) ?_
      repeat (go_big_quiet_step (fail))
      go_big_quiet_step ((go_at_call 54; exact Calls.blw_of _ (HC1.out _)))
      repeat (go_big_quiet_step (fail))
      go_big_quiet_step ((go_at_call 54; exact Calls.blw_of _ (HC2.out _)))
      repeat (go_big_quiet_step (fail))
      refine wpQuiet_nil ?_
      rintro W3 ⟨⟨_, hb3⟩, rfl⟩
      clear hq1 hq2 hq3
      go_wp2_with fail
      go_ret
      exact ⟨by rw [K1.out, K2.out, k3, k4, k5]; simp, hB.trans (hb3.mono hB.size)⟩
     | true =>
      generalize hRe : inB i 1 ((L : Int) - 1) = R at *
      have HRE := Lib.hid hRe; clear hRe
      simp only [k1] at hc1
      simp only [k2] at hc2
      have HC1 := Lib.hid hc1; have HC2 := Lib.hid hc2; have HC3 := Lib.hid hc3; have K1 := Lib.hid k1; have K2 := Lib.hid k2; clear hc1 hc2 hc3 k1 k2
      refine wp_region_blw (by kernel_rfl) (by kernel_rfl) ?_
      repeat (go_big_quiet_step (fail))
      go_big_quiet_step ((go_at_call 54; exact Calls.blw_of _ (HC1.out _)))
      repeat (go_big_quiet_step (fail))
      go_big_quiet_step ((go_at_call 54; exact Calls.blw_of _ (HC2.out _)))
      repeat (go_big_quiet_step (fail))
      go_big_quiet_step ((go_at_call 85; exact Calls.blw_of _ (HC3.out _)))
      repeat (go_big_quiet_step (fail))
      refine wpQuiet_nil ?_
      rintro W3 ⟨⟨_, hb3⟩, rfl⟩
      clear hq1 hq2 hq3
      go_wp2_with fail
      go_ret
      exact ⟨by rw [K1.out, K2.out, k3, k4, k5, HRE.out]; simp, hB.trans (hb3.mono hB.size)⟩
theorem mixX_F {wn : Nat} {A : Option Addr} {n : Nat} {cs : List VC} {w : World} {B : Nat} (h : BkG wn A n cs w B) (hk : bookB (wn : Int) cs = true) {p a b i : Nat} (hp : p < n) (ha : a < n) (hb : b < n) (hi : i ≤ headN cs) : mixX cs p a b i = ⟨a, b, i, (mixF cs p a b i (headN cs) : Nat)⟩ := by
 have hlen := h.len
 have hL : ∀ q, q < n → ∃ c, cs[q]? = some c ∧ c ∈ cs ∧ c.ls.length = headN cs := fun q hq => by
  have hq2 : q < cs.length := by omega
  exact ⟨cs[q], List.getElem?_eq_getElem hq2, List.getElem_mem hq2, (h.2.2.2.2.2.1 _ (List.getElem_mem hq2)).2⟩
 have hs := book_small hk
 obtain ⟨cp, ep, mp, lp⟩ := hL p hp
 obtain ⟨ca, ea, ma, la⟩ := hL a ha
 obtain ⟨cb, eb, mb, lb⟩ := hL b hb
 have sa : srcL cs [] (a : Int) = ca.ls.map fun r => lbS r.ws := by
  unfold srcL
  rw [if_neg (by omega), show ((a : Int)).toNat = a by omega, ea]; rfl
 have sb : srcL cs [] (b : Int) = cb.ls.map fun r => lbS r.ws := by
  unfold srcL
  rw [if_neg (by omega), show ((b : Int)).toNat = b by omega, eb]; rfl
 unfold mixX
 rw [sa, sb, ep, Option.map_some, Option.getD_some]
 congr 1
 obtain ⟨z, hz⟩ : ∃ z, z = ((ca.ls.map fun r => lbS r.ws).take i ++ (cb.ls.map fun r => lbS r.ws).drop i).zip cp.ls := ⟨_, rfl⟩
 rw [← hz]
 have hzl : z.length = headN cs := by rw [hz, List.length_zip, List.length_append, List.length_take, List.length_drop, List.length_map, List.length_map, la, lb, lp]; omega
 have hat : ∀ k (hk : k < z.length), z[k] = (lbS (vlAt cs (if k < i then a else b) k).ws, vlAt cs p k) := fun k hk => by
  have hkL : k < headN cs := by omega
  have e2 := vlAt_ls ep (show k < cp.ls.length by omega)
  rw [List.getElem?_eq_getElem (show k < cp.ls.length by omega)] at e2
  subst hz
  rw [List.getElem_zip, List.getElem_append, Option.some.inj e2]
  congr 1
  by_cases hki : k < i
  ·rw [if_pos hki, dif_pos (by rw [List.length_take, List.length_map, la]; omega), List.getElem_take, List.getElem_map]
   have e1 := vlAt_ls ea (show k < ca.ls.length by omega)
   rw [List.getElem?_eq_getElem (show k < ca.ls.length by omega)] at e1
   rw [Option.some.inj e1]
  ·rw [if_neg hki, dif_neg (by rw [List.length_take, List.length_map, la]; omega), List.getElem_drop, List.getElem_map]
   have e1 := vlAt_ls eb (show k < cb.ls.length by omega)
   rw [List.getElem?_eq_getElem (show k < cb.ls.length by omega)] at e1
   rw [← Option.some.inj e1]
   congr 2
   simp only [List.length_take, List.length_map, la]
   congr 1
   omega
 have hsum : ∀ k, k ≤ headN cs → sumI (cgL (z.take k)) = (mixF cs p a b i k : Nat) := by
  intro k
  induction k with
  | zero => intro _; rfl
  | succ k ih =>
   intro hk1
   have hkz : k < z.length := by omega
   rw [List.take_succ_eq_append_getElem hkz, hat k hkz]
   have e : cgL (z.take k ++ [(lbS (vlAt cs (if k < i then a else b) k).ws, vlAt cs p k)]) = cgL (z.take k) ++ cgO (lbS (vlAt cs (if k < i then a else b) k).ws, vlAt cs p k) := by unfold cgL; rw [List.flatMap_append]; simp
   rw [e, sumI_app, ih (by omega), mixF]
   have hv : ∀ q, q < n → ∀ x ∈ (vlAt cs q k).ws, 0 ≤ x ∧ x ≤ 2 := fun q hq => by
    obtain ⟨c, ec, mc, lc⟩ := hL q hq
    have e1 := vlAt_ls ec (show k < c.ls.length by omega)
    exact hs c mc _ (List.mem_of_getElem? e1)
   have hab : (if k < i then a else b) < n := by split <;> assumption
   unfold cgO tkF
   dsimp only
   have hva := hv _ hab
   generalize vlAt cs (if k < i then a else b) k = u at *
   cases (vlAt cs p k).lost
   ·rw [if_neg (by decide), if_neg (by decide), edB_int hva (hv p hp)]
    show _ + (0 + _) = _
    omega
   ·rw [if_pos rfl, if_pos rfl]
    show _ + (0 : Int) = _
    omega
 have h2 := hsum (headN cs) (Nat.le_refl _)
 rw [List.take_of_length_le (by omega)] at h2
 exact h2
end
section
open Go.ChangeShapes Go.WideShapes Go.ChangeAt Go.RowKit Go.Deep Go.Lib
set_option maxRecDepth 100000
section
variable {H : Type} {enc : TypeId × Value → H} {w : World} {base : Nat} {spare : Nat → Bool} {held : Bool} {r : Reach} {b0 : Nat} {v : Value} {d : DataW H} {p : List MemPlace}
theorem law_num (hv : Value.okWide Tryz.prog w r b0 3 v) (h : DataW.Trod enc Tryz.prog w base spare held 3 v d p) : ∃ k : Int, v = .int .i64 k ∧ -9223372036854775808 ≤ k ∧ k ≤ 9223372036854775807 := by
 obtain ⟨k, rfl, rfl, rfl, wk⟩ := open_int Tryz.underlying3 hv h
 have := wk
 simp [Lit.wf, IntKind.min, IntKind.max, IntKind.signed, IntKind.bits] at this
 exact ⟨k, rfl, by omega, by omega⟩
end
end
section
open Go.RowKit Go.Lib Go.Maps
theorem vlAt_lnB {W : Int} {cs : List VC} (h : bookB W cs = true) {p k : Nat} (hp : p < cs.length) (hk : k < headN cs) : lnB W (vlAt cs p k).ws = true := by
 have hin := List.getElem_mem hp
 have hl : (cs[p]).ls.length = headN cs := by
  unfold bookB at h
  simp only [Bool.and_eq_true, List.all_eq_true, beq_iff_eq] at h
  exact (h.2 _ hin).1
 have e := vlAt_ls (List.getElem?_eq_getElem hp) (show k < (cs[p]).ls.length by omega)
 exact book_lnB h _ hin _ (List.mem_of_getElem? e)
theorem made71_any {wn : Nat} {A : Option Addr} {n cap : Nat} {cs : List VC} (p a b i : Nat) (z : Int) {w : World} (hI : BkI w A n cap cs) (hbk : bookB (wn : Int) cs = true) (h : BkG wn A n cs w w.heap.size) (hp : p < n) (ha : a < n) (hb : b < n) (hi : i ≤ 100) :
  Calls Tryz.prog 71 #[.agg #[.int .i64 (wn : Int), .slice A n cap], .int .i64 (p : Int), .agg #[.int .i64 (a : Int), .int .i64 (b : Int), .int .i64 (i : Int), .int .i64 z]] w fun e w' => e = .returned (.int .i64 (mixF cs p a b i (headN cs) : Nat)) ∧ Below w.heap.size w w' := by
 have hlen := h.len
 have hln := fun q k (hq : q < n) (hk : k < headN cs) => vlAt_lnB hbk (p := q) (k := k) (by omega) hk
 have hch := fun (wx : World) (hx : Below w.heap.size w wx) (Ax : Option Addr) (nx cx : Nat) (lx : List Int) (hxx : IA wx Ax nx cx lx) (kx : lnB (wn : Int) lx = true) (Ay : Option Addr) (ny cy : Nat) (ly : List Int) (hyy : IA wx Ay ny cy ly) (ky : lnB (wn : Int) ly = true) => Changes_I (hI.toW hx) hbk hxx hyy kx ky
 have hL4 := h.2.2.1
 obtain ⟨bb, off, rfl, hbw, hr⟩ := h.rows
 have hX := (Blk.new w 24 #[.int .i64 (wn : Int), .slice (some ⟨bb, off, none⟩) n cap]).alloc (.cells #[.int .i64 (a : Int), .int .i64 (b : Int), .int .i64 (i : Int), .int .i64 z] 93)
 have hM := blk2_1 w (.cells #[.int .i64 (wn : Int), .slice (some ⟨bb, off, none⟩) n cap] 24) 93 #[.int .i64 (a : Int), .int .i64 (b : Int), .int .i64 (i : Int), .int .i64 z]
 have hB : Below w.heap.size w ((w.alloc (.cells #[.int .i64 (wn : Int), .slice (some ⟨bb, off, none⟩) n cap] 24)).alloc (.cells #[.int .i64 (a : Int), .int .i64 (b : Int), .int .i64 (i : Int), .int .i64 z] 93)) := ((Below.refl _ w).alloc (Nat.le_refl _) _).alloc (by simp only [World.size_alloc]; omega) _
 obtain ⟨L, hL⟩ : ∃ L, L = headN cs := ⟨_, rfl⟩
 simp only [← hL] at hln hL4 hr ⊢
 obtain ⟨F, hFe⟩ : ∃ F, F = mixF cs p a b i := ⟨_, rfl⟩
 simp only [← hFe]
 have hF1 : ∀ k, F (k + 1) = F k + tkF (vlAt cs p k) (vlAt cs (if k < i then a else b) k).ws := fun k => by rw [hFe]; rfl
 have hF0 : F 0 = 0 := by rw [hFe]; rfl
 have HCH := Lib.hid hch; have HLN := Lib.hid hln; have HR := Lib.hid hr; have HF1 := Lib.hid hF1; have HF0 := Lib.hid hF0
 clear hch hln hr hF1 hF0 hFe hL h hI hbk hlen
 have hpi : (p : Int) < n := by omega
 have hai : (a : Int) < n := by omega
 have hbi : (b : Int) < n := by omega
 obtain ⟨b0, off0, cc0, hc0, hb0, _⟩ := HR.out 0 (by omega)
 rw [Nat.add_zero] at hc0
 obtain ⟨bp, offp, ccp, hcp, hbp, hlp⟩ := HR.out p hp
 obtain ⟨ba, offa, cca, hca, hba, hla⟩ := HR.out a ha
 obtain ⟨bc, offc, ccc, hcc, hbc, hlc⟩ := HR.out b hb
 have HLP := Lib.hid hlp; have HLA := Lib.hid hla; have HLC := Lib.hid hlc; clear hlp hla hlc
 have hn0 : (0 : Int) < n := by omega
 go_enter Tryz.func71, Tryz.ntmps71
 go_wp2_with fail
 generalize (w.alloc (.cells #[.int .i64 (wn : Int), .slice (some ⟨bb, off, none⟩) n cap] 24)).alloc (.cells #[.int .i64 (a : Int), .int .i64 (b : Int), .int .i64 (i : Int), .int .i64 z] 93) = W0 at *
 go_loopg [7, 8] L (fun g v i2 wr => ∃ k s : Nat, g = L - k ∧ k ≤ L ∧ v = .int .i64 s ∧ i2 = .int .i64 k ∧ Hid (s = F k) ∧ s ≤ 4 * k ∧ Below w.heap.size w wr ∧ Blk wr w.heap.size 24 #[.int .i64 (wn : Int), .slice (some ⟨bb, off, none⟩) n cap] ∧ Blk wr (w.heap.size + 1) 93 #[.int .i64 (a : Int), .int .i64 (b : Int), .int .i64 (i : Int), .int .i64 z])
 case atStart => exact ⟨0, 0, rfl, Nat.zero_le _, rfl, rfl, Lib.hid HF0.out.symm, Nat.le_refl _, hB, hX, hM⟩
 case round =>
  clear hX hB hM
  obtain ⟨k, s, hg, hk, rfl, rfl, hs, hsk, hB, hX, hM⟩ := hrel
  rename World => wr
  have HG := Lib.hid hg; clear hg
  have qX := fun i => hX.cell i; have qM := fun i => hM.cell i
  have hc0' := (hB.cell (p := ⟨bb, off, none⟩) hbw).trans hc0
  by_cases hlt : k < L
  ·have hlti : (k : Int) < L := by omega
   obtain ⟨hv0, hv1, hvok, hvn, hvl⟩ := HLP.out k hlt
   obtain ⟨_, ha1, haok, han, hal⟩ := HLA.out k hlt
   obtain ⟨_, hc1, hcok, hcn, hcl⟩ := HLC.out k hlt
   have hF1 := HF1.out k
   rw [← hs.out] at hF1
   have lp := HLN.out p k hp hlt
   have la := HLN.out a k ha hlt
   have lc := HLN.out b k hb hlt
   generalize vlAt cs p k = v at *
   have hcpr := (hB.cell (p := ⟨bb, off + p, none⟩) hbw).trans hcp
   have hcar := (hB.cell (p := ⟨bb, off + a, none⟩) hbw).trans hca
   have hccr := (hB.cell (p := ⟨bb, off + b, none⟩) hbw).trans hcc
   have hv0r := (hB.cell (p := ⟨bp, offp + k * 2, none⟩) hbp).trans hv0
   have hv1r := (hB.cell (p := ⟨bp, offp + k * 2 + 1, none⟩) hbp).trans hv1
   have ha1r := (hB.cell (p := ⟨ba, offa + k * 2 + 1, none⟩) hba).trans ha1
   have hc1r := (hB.cell (p := ⟨bc, offc + k * 2 + 1, none⟩) hbc).trans hc1
   obtain ⟨u, hu⟩ : ∃ u, u = vlAt cs (if k < i then a else b) k := ⟨_, rfl⟩
   rw [← hu] at hF1
   have huu : (k < i ∧ Hid (u = vlAt cs a k)) ∨ (¬ k < i ∧ Hid (u = vlAt cs b k)) := by
    by_cases hki : k < i
    ·exact .inl ⟨hki, Lib.hid (by rw [hu, if_pos hki])⟩
    ·exact .inr ⟨hki, Lib.hid (by rw [hu, if_neg hki])⟩
   have hchv := fun (x : Blw wr.heap.size wr) (Au : VL) (hu : Au.ok w w.heap.size) (hl : lnB (wn : Int) Au.ws = true) => HCH.out x.toW (hB.trans (x.h.mono hB.size)) Au.A Au.n Au.cap Au.ws ⟨hu.1, hu.2.1, rdB hu.2.2 (hB.trans (x.h.mono hB.size))⟩ hl v.A v.n v.cap v.ws ⟨hvok.1, hvok.2.1, rdB hvok.2.2 (hB.trans (x.h.mono hB.size))⟩ lp
   have HF2 := Lib.hid hF1; have HCHV := Lib.hid hchv
   have hlvv := lnB_len lp
   clear hF1 hchv hu hs hv0 hv1 ha1 hc1 hvok lp
   obtain ⟨lost, vA, vn, vc, vws⟩ := v
   dsimp only at hv0r hv1r hvn hvl HCHV hlvv
   have hq1 := fun (x : Blw wr.heap.size wr) => ((Blw.h x).cell (p := ⟨bb, off + p, none⟩) (Nat.lt_of_lt_of_le hbw hB.size)).trans hcpr
   have hq3 := fun (x : Blw wr.heap.size wr) => ((Blw.h x).cell (p := ⟨bp, offp + k * 2 + 1, none⟩) (Nat.lt_of_lt_of_le hbp hB.size)).trans hv1r
   have hq4 := fun (x : Blw wr.heap.size wr) j => blw_blk hX x j
   have hlX := hX.lt; have hlM := hM.lt
   rcases huu with ⟨hki, hu2⟩ | ⟨hki, hu2⟩
   ·clear hc1r hccr
    have hki2 : ¬ (i : Int) ≤ k := by omega
    have hcx := fun (x : Blw wr.heap.size wr) => HCHV.out x (vlAt cs a k) haok la
    have hE4 : ed (vlAt cs a k).ws vws ≤ 4 := by have := ed_le (vlAt cs a k).ws vws; have := lnB_len la; omega
    rw [hu2.out] at HF2
    generalize vlAt cs a k = u1 at *
    cases lost
    ·have hFE : Hid (F (k + 1) = s + ed u1.ws vws) := Lib.hid (by rw [HF2.out]; rfl)
     generalize ed u1.ws vws = E at *
     have hEi : (E : Int) ≤ 4 := by omega
     have HCX := Lib.hid hcx; clear hcx HCHV HF2
     go_upto_region 9 with (fail)
     clear qM
     refine wp_region_blw (by kernel_rfl) (by kernel_rfl) ?_
     repeat (go_big_quiet_step (fail))
     go_big_quiet_step ((go_at_call 26; exact Calls.blw_of _ (HCX.out _)))
     repeat (go_big_quiet_step (fail))
     refine wpQuiet_nil ?_
     rintro W3 ⟨⟨_, hb3⟩, rfl⟩
     clear hq1 hq3 hq4 hlX HCX qX
     go_wp2_with fail
     go_roundg (L - (k + 1))
     case measure => rw [HG.out]; omega
     case rel => exact ⟨k + 1, s + E, rfl, by omega, by go_num, by go_num, Lib.hid hFE.out.symm, by omega, hB.trans (hb3.mono hB.size), hX.below hb3 hX.lt, hM.below hb3 hM.lt⟩
    ·have hFE : Hid (F (k + 1) = s) := Lib.hid (by rw [HF2.out]; rfl)
     clear hcx HCHV HF2
     go_wp2_with fail
     go_roundg (L - (k + 1))
     case measure => rw [HG.out]; omega
     case rel => exact ⟨k + 1, s, rfl, by omega, rfl, by go_num, Lib.hid hFE.out.symm, by omega, hB, hX, hM⟩
   ·skip
    have hki2 : (i : Int) ≤ k := by omega
    have hcx := fun (x : Blw wr.heap.size wr) => HCHV.out x (vlAt cs b k) hcok lc
    have hE4 : ed (vlAt cs b k).ws vws ≤ 4 := by have := ed_le (vlAt cs b k).ws vws; have := lnB_len lc; omega
    rw [hu2.out] at HF2
    generalize vlAt cs b k = u1 at *
    cases lost
    ·have hFE : Hid (F (k + 1) = s + ed u1.ws vws) := Lib.hid (by rw [HF2.out]; rfl)
     generalize ed u1.ws vws = E at *
     have hEi : (E : Int) ≤ 4 := by omega
     have HCX := Lib.hid hcx; clear hcx HCHV HF2
     go_upto_region 9 with (fail)
     clear qM
     refine wp_region_blw (by kernel_rfl) (by kernel_rfl) ?_
     repeat (go_big_quiet_step (fail))
     go_big_quiet_step ((go_at_call 26; exact Calls.blw_of _ (HCX.out _)))
     repeat (go_big_quiet_step (fail))
     refine wpQuiet_nil ?_
     rintro W3 ⟨⟨_, hb3⟩, rfl⟩
     clear hq1 hq3 hq4 hlX HCX qX
     go_wp2_with fail
     go_roundg (L - (k + 1))
     case measure => rw [HG.out]; omega
     case rel => exact ⟨k + 1, s + E, rfl, by omega, by go_num, by go_num, Lib.hid hFE.out.symm, by omega, hB.trans (hb3.mono hB.size), hX.below hb3 hX.lt, hM.below hb3 hM.lt⟩
    ·have hFE : Hid (F (k + 1) = s) := Lib.hid (by rw [HF2.out]; rfl)
     clear hcx HCHV HF2
     go_wp2_with fail
     go_roundg (L - (k + 1))
     case measure => rw [HG.out]; omega
     case rel => exact ⟨k + 1, s, rfl, by omega, rfl, by go_num, Lib.hid hFE.out.symm, by omega, hB, hX, hM⟩
  ·obtain rfl : k = L := by omega
   have hge : ¬ (k : Int) < k := by omega
   have hs2 := hs.out
   subst hs2
   go_wp2_with fail
   go_ret
   exact ⟨rfl, hB⟩
end
section
open Go.RowKit Go.Lib Go.Maps
def mixLt (x y : MX) : Prop := x.one < y.one ∨ (x.one = y.one ∧ (x.other < y.other ∨ (x.other = y.other ∧ x.lines < y.lines)))
theorem mixL_mem {cs : List VC} {p n : Nat} {x : MX} : x ∈ mixL cs p n n ↔ ∃ a b i, a < n ∧ b < n ∧ ¬ (a = b ∨ a = p ∨ b = p) ∧ i < headN cs - 1 ∧ x = mixX cs p a b (i + 1) := by
 unfold mixL mixOt mixIn
 constructor
 ·intro h
  obtain ⟨a, ha, h⟩ := List.mem_flatMap.1 h
  obtain ⟨b, hb, h⟩ := List.mem_flatMap.1 h
  by_cases hs : a = b ∨ a = p ∨ b = p
  ·rw [if_pos hs] at h; cases h
  ·rw [if_neg hs] at h
   obtain ⟨i, hi, rfl⟩ := List.mem_map.1 h
   exact ⟨a, b, i, List.mem_range.1 ha, List.mem_range.1 hb, hs, List.mem_range.1 hi, rfl⟩
 ·rintro ⟨a, b, i, ha, hb, hs, hi, rfl⟩
  refine List.mem_flatMap.2 ⟨a, List.mem_range.2 ha, List.mem_flatMap.2 ⟨b, List.mem_range.2 hb, ?_⟩⟩
  rw [if_neg hs]
  exact List.mem_map.2 ⟨i, List.mem_range.2 hi, rfl⟩
theorem mixL_pw (cs : List VC) (p n : Nat) : (mixL cs p n n).Pairwise mixLt := by
 unfold mixL mixOt mixIn
 refine List.pairwise_flatMap.2 ⟨fun a _ => List.pairwise_flatMap.2 ⟨fun b _ => ?_, ?_⟩, ?_⟩
 ·split
  ·exact List.Pairwise.nil
  ·refine List.pairwise_map.2 (List.pairwise_lt_range.imp fun h => ?_)
   exact .inr ⟨rfl, .inr ⟨rfl, by show ((_ : Nat) : Int) < ((_ : Nat) : Int); omega⟩⟩
 ·refine List.pairwise_lt_range.imp fun {b1 b2} h => fun x hx y hy => ?_
  have ex : x.one = a ∧ x.other = b1 := by
   split at hx
   ·cases hx
   ·obtain ⟨i, _, rfl⟩ := List.mem_map.1 hx; exact ⟨rfl, rfl⟩
  have ey : y.one = a ∧ y.other = b2 := by
   split at hy
   ·cases hy
   ·obtain ⟨i, _, rfl⟩ := List.mem_map.1 hy; exact ⟨rfl, rfl⟩
  exact .inr ⟨by rw [ex.1, ey.1], .inl (by rw [ex.2, ey.2]; omega)⟩
 ·refine List.pairwise_lt_range.imp fun {a1 a2} h => fun x hx y hy => ?_
  have ex : x.one = a1 := by
   obtain ⟨b, _, hx⟩ := List.mem_flatMap.1 hx
   split at hx
   ·cases hx
   ·obtain ⟨i, _, rfl⟩ := List.mem_map.1 hx; rfl
  have ey : y.one = a2 := by
   obtain ⟨b, _, hy⟩ := List.mem_flatMap.1 hy
   split at hy
   ·cases hy
   ·obtain ⟨i, _, rfl⟩ := List.mem_map.1 hy; rfl
  exact .inl (by rw [ex, ey]; omega)
theorem bestI_first {α : Type} (cost : α → Int) (R : α → α → Prop) : ∀ (l : List α), l.Pairwise R → ∀ x, bestI cost l = some x → ∀ y ∈ l, cost y = cost x → y = x ∨ R x y := by
 refine revInd (p := fun l => l.Pairwise R → ∀ x, bestI cost l = some x → ∀ y ∈ l, cost y = cost x → y = x ∨ R x y) (fun _ _ _ y hy => by cases hy) ?_
 intro l z ih hp x hx y hy he
 obtain ⟨p1, _, p3⟩ := List.pairwise_append.1 hp
 rw [bestI_snoc] at hx
 cases hl : bestI cost l with
 | none =>
  rw [hl] at hx
  have := (bestI_none cost l).1 hl
  subst this
  injection hx with hx
  have h2 : y = z := by simpa using hy
  exact .inl (h2.trans hx)
 | some a =>
  rw [hl] at hx
  obtain ⟨m1, m2⟩ := bestI_mem cost l a hl
  injection hx with hx
  by_cases hc : cost z < cost a
  ·rw [if_pos hc] at hx
   subst hx
   rcases List.mem_append.1 hy with hy | hy
   ·have := m2 y hy; omega
   ·exact .inl (List.mem_singleton.1 hy)
  ·rw [if_neg hc] at hx
   subst hx
   rcases List.mem_append.1 hy with hy | hy
   ·exact ih p1 a hl y hy he
   ·rw [List.mem_singleton.1 hy]; exact .inr (p3 a m1 z (by simp))
section
variable {wn : Nat} {A : Option Addr} {n : Nat} {cs : List VC} {w : World} {B : Nat} {p : Nat}
theorem mixed_none (h : BkG wn A n cs w B) (hp : p < n) (ho : bestI MX.c (mixL cs p n n) = none) : n < 3 ∨ headN cs < 2 := by
 have hn := (bestI_none _ _).1 ho
 by_cases h3 : n < 3
 ·exact .inl h3
 ·by_cases h2 : headN cs < 2
  ·exact .inr h2
  ·have hm : ∃ a b, a < n ∧ b < n ∧ ¬ (a = b ∨ a = p ∨ b = p) := by
    by_cases e0 : p = 0
    ·exact ⟨1, 2, by omega, by omega, by omega⟩
    ·by_cases e1 : p = 1
     ·exact ⟨0, 2, by omega, by omega, by omega⟩
     ·exact ⟨0, 1, by omega, by omega, by omega⟩
   obtain ⟨a, b, ha, hb, hs⟩ := hm
   have hx : mixX cs p a b 1 ∈ mixL cs p n n := mixL_mem.2 ⟨a, b, 0, ha, hb, hs, by omega, rfl⟩
   rw [hn] at hx; cases hx
theorem mixB_nat {L : Nat} {y1 y2 y3 : Int} (h : mixB n L p y1 y2 y3 = true) : ∃ a b i : Nat, y1 = a ∧ y2 = b ∧ y3 = i ∧ a < n ∧ b < n ∧ ¬ (a = b ∨ a = p ∨ b = p) ∧ 1 ≤ i ∧ i < L := by
 unfold mixB inB at h
 simp only [Bool.and_eq_true, decide_eq_true_eq, bne_iff_ne, ne_eq] at h
 obtain ⟨h1, h2, h3, h4, h5, h6⟩ := h
 exact ⟨y1.toNat, y2.toNat, y3.toNat, by omega, by omega, by omega, by omega, by omega, by omega, by omega, by omega⟩
theorem mixB_true {L a b i : Nat} (ha : a < n) (hb : b < n) (hs : ¬ (a = b ∨ a = p ∨ b = p)) (h1 : 1 ≤ i) (h2 : i < L) : mixB n L p (a : Int) (b : Int) (i : Int) = true := by
 unfold mixB inB
 simp only [Bool.and_eq_true, decide_eq_true_eq, bne_iff_ne, ne_eq]
 omega
theorem mixed_some (h : BkG wn A n cs w B) (hk : bookB (wn : Int) cs = true) (hp : p < n) {x : MX} (ho : bestI MX.c (mixL cs p n n) = some x) : ∃ a b i : Nat, x = ⟨a, b, i, (mixF cs p a b i (headN cs) : Nat)⟩ ∧ a < n ∧ b < n ∧ ¬ (a = b ∨ a = p ∨ b = p) ∧ 1 ≤ i ∧ i < headN cs ∧
  ∀ a' b' i' : Nat, a' < n → b' < n → ¬ (a' = b' ∨ a' = p ∨ b' = p) → 1 ≤ i' → i' < headN cs → mixF cs p a b i (headN cs) ≤ mixF cs p a' b' i' (headN cs) ∧ (mixF cs p a' b' i' (headN cs) = mixF cs p a b i (headN cs) → (a' = a ∧ b' = b ∧ i' = i) ∨ a < a' ∨ (a = a' ∧ (b < b' ∨ (b = b' ∧ i < i')))) := by
 obtain ⟨m1, m2⟩ := bestI_mem _ _ _ ho
 obtain ⟨a, b, i, ha, hb, hs, hi, hx⟩ := mixL_mem.1 m1
 rw [mixX_F h hk hp ha hb (by omega)] at hx
 refine ⟨a, b, i + 1, hx, ha, hb, hs, by omega, by omega, fun a' b' i' ha' hb' hs' h1 h2 => ?_⟩
 have hy : mixX cs p a' b' i' ∈ mixL cs p n n := mixL_mem.2 ⟨a', b', i' - 1, ha', hb', hs', by omega, by rw [show i' - 1 + 1 = i' by omega]⟩
 have hle := m2 _ hy
 have hf := bestI_first MX.c mixLt _ (mixL_pw cs p n) x ho _ hy
 rw [mixX_F h hk hp ha' hb' (by omega)] at hle hf
 rw [hx] at hle hf
 dsimp only at hle hf
 refine ⟨by omega, fun e => ?_⟩
 rcases hf (by omega) with h | h
 ·injection h with e1 e2 e3
  exact .inl ⟨by omega, by omega, by omega⟩
 ·unfold mixLt at h
  dsimp only at h
  exact .inr (by omega)
end
end
section
open Go.RowKit Go.Lib Go.Maps
open Go.ChangeShapes Go.WideShapes Go.ChangeAt Go.Deep in
theorem law_mix {H : Type} {enc : TypeId × Value → H} {w : World} {base : Nat} {spare : Nat → Bool} {held : Bool} {r : Reach} {b0 : Nat} {v : Value} {d : DataW H} {p : List MemPlace} (hv : Value.okWide Tryz.prog w r b0 93 v) (h : DataW.Trod enc Tryz.prog w base spare held 93 v d p) : ∃ a b c e : Int, v = .agg #[.int .i64 a, .int .i64 b, .int .i64 c, .int .i64 e] := by
 obtain ⟨ns, hl, rfl⟩ := ints_in Tryz.underlying93 (by kernel_rfl) (by kernel_rfl) (t3 := 3) (fun i f hf => by
   match i, hf with
   | 0, hf => cases hf; rfl
   | 1, hf => cases hf; rfl
   | 2, hf => cases hf; rfl
   | 3, hf => cases hf; rfl
   | i + 4, hf => simp at hf) Tryz.underlying3 hv h
 have hl6 : ns.length = 4 := hl
 match ns, hl6 with
 | [a, b, c, e], _ => exact ⟨a, b, c, e, rfl⟩
theorem made_law (W : Int) (A : Option Addr) (n cap : Nat) (cs : List VC) (q y1 y2 y3 y4 : Int) (m : Int) (w : World) (hE : Env m w) (h : BkI w A n cap cs) (hq1 : -9223372036854775808 ≤ q) (hq2 : q ≤ 9223372036854775807) :
  Calls Tryz.prog 18 #[.agg #[.int .i64 W, .slice A n cap], .int .i64 q, .agg #[.int .i64 y1, .int .i64 y2, .int .i64 y3, .int .i64 y4]] w fun e w' => e = .returned (.bool true) ∧ Below w.heap.size w w' := by
 have hX := (Blk.new w 24 #[.int .i64 W, .slice A n cap]).alloc (.cells #[.int .i64 y1, .int .i64 y2, .int .i64 y3, .int .i64 y4] 93)
 have hY := blk2_1 w (.cells #[.int .i64 W, .slice A n cap] 24) 93 #[.int .i64 y1, .int .i64 y2, .int .i64 y3, .int .i64 y4]
 have hB : Below w.heap.size w ((w.alloc (.cells #[.int .i64 W, .slice A n cap] 24)).alloc (.cells #[.int .i64 y1, .int .i64 y2, .int .i64 y3, .int .i64 y4] 93)) := ((Below.refl _ w).alloc (Nat.le_refl _) _).alloc (by simp only [World.size_alloc]; omega) _
 have qX := fun i => hX.cell i
 go_enter Tryz.func18, Tryz.ntmps18
 go_wp2_with fail
 refine (right_any (h.toW hB)).mono ?_; rintro e wc ⟨⟨b, rfl, hrb⟩, hb⟩
 replace hB := hB.trans (hb.mono hB.size); replace hX := hX.below hb hX.lt; replace hY := hY.below hb hY.lt; clear hb qX; have qX := fun i => hX.cell i
 cases b with
 | false =>
  go_wp2_with fail
  refine (known_true m _ (hE.below hB)).mono ?_; rintro e wc ⟨rfl, hb⟩
  replace hB := hB.trans (hb.mono hB.size); clear hb
  go_wp2_with fail
  go_ret
  exact ⟨rfl, hB⟩
 | true =>
  have hbk := hrb rfl; clear hrb
  obtain ⟨wn, rfl, hG⟩ := BkG.of_book hbk h.2.2.1 h.2.2.2
  have hn5 := hG.2.1; have hL4 := hG.2.2.1
  have hcy := fun wx => refCopy_any (wn : Int) q A n cap wx (by omega)
  cases hk : inB q 0 ((n : Int) - 1) with
  | false =>
   simp only [hk] at hcy
   have HCY := Lib.hid hcy; clear hcy hbk hk h hG
   go_wp2_with fail
   refine (HCY.out _).mono ?_; rintro e wc ⟨rfl, hb⟩
   replace hB := hB.trans (hb.mono hB.size); replace hX := hX.below hb hX.lt; replace hY := hY.below hb hY.lt; clear hb qX; have qX := fun i => hX.cell i
   go_wp2_with fail
   refine (known_true m _ (hE.below hB)).mono ?_; rintro e wc ⟨rfl, hb⟩
   replace hB := hB.trans (hb.mono hB.size); clear hb
   go_wp2_with fail
   go_ret
   exact ⟨rfl, hB⟩
  | true =>
   have hq3 : 0 ≤ q ∧ q ≤ (n : Int) - 1 := by simpa [inB] using hk
   obtain ⟨p, rfl⟩ : ∃ p : Nat, q = p := ⟨q.toNat, by omega⟩
   have hp : p < n := by omega
   simp only [hk] at hcy
   have hc2 := fun wx hx => Mixed_yes (w := wx) cap p (hG.toW hx) hbk hp
   have hnone := mixed_none hG hp
   have hsome := fun x => mixed_some (x := x) hG hbk hp
   generalize bestI MX.c (mixL cs p n n) = o at *
   have HCY := Lib.hid hcy; clear hcy
   cases o with
   | none =>
    unfold mixE at hc2
    simp only at hc2
    have hnl := hnone rfl
    obtain ⟨bb, off, a0, k0, rfl, hbw, hcell⟩ := hG.head0
    generalize headN cs = L at *
    have HC2 := Lib.hid hc2; clear hc2 hsome hnone hbk hk h hG hp hq1 hq2 hq3
    have hn0 : (0 : Int) < n := by omega
    go_wp2_with fail
    refine (HCY.out _).mono ?_; rintro e wc ⟨rfl, hb⟩
    replace hB := hB.trans (hb.mono hB.size); replace hX := hX.below hb hX.lt; replace hY := hY.below hb hY.lt; clear hb qX; have qX := fun i => hX.cell i
    have qhY := fun i => hY.cell i
    go_wp2_with fail
    refine (HC2.out _ hB).mono ?_; rintro e wc ⟨rfl, hb⟩
    replace hB := hB.trans (hb.mono hB.size); replace hX := hX.below hb hX.lt; replace hY := hY.below hb hY.lt; clear hb qX
    have hZ0 := Blk.new wc 93 #[.int .i64 0, .int .i64 0, .int .i64 0, .int .i64 0]; have q93 := fun i => hZ0.cell i; have f93 := fun i => hZ0.frozen i; have l93 := hZ0.lt
    go_upto_region 4 with (fail)
    have hS := Blk.new wc 93 #[.int .i64 0, .int .i64 0, .int .i64 0, .int .i64 0]
    have hKeep : Below wc.heap.size wc (wc.alloc (.cells #[.int .i64 0, .int .i64 0, .int .i64 0, .int .i64 0] 93)) := (Below.refl _ wc).alloc (Nat.le_refl _) _
    replace hB := hB.trans (hKeep.mono hB.size); replace hX := hX.below hKeep hX.lt
    replace hY := hY.below hKeep hY.lt; clear hKeep hZ0 q93 f93 l93
    generalize wc.alloc (.cells #[.int .i64 0, .int .i64 0, .int .i64 0, .int .i64 0] 93) = W5hS at *
    generalize wc.heap.size = shS at hS ⊢
    have qX := fun i => hX.cell i; have qhS := fun i => hS.cell i
    have hc0 := (hB.cell (p := ⟨bb, off, none⟩) hbw).trans hcell
    by_cases h3 : (n : Int) < 3
    ·skip
     go_wp2_with fail
     refine (known_true m _ (hE.below hB)).mono ?_; rintro e wc ⟨rfl, hb⟩
     replace hB := hB.trans (hb.mono hB.size); clear hb
     go_wp2_with fail
     go_ret
     exact ⟨rfl, hB⟩
    ·have hL2 : (L : Int) < 2 := by omega
     go_wp2_with fail
     refine (known_true m _ (hE.below hB)).mono ?_; rintro e wc ⟨rfl, hb⟩
     replace hB := hB.trans (hb.mono hB.size); clear hb
     go_wp2_with fail
     go_ret
     exact ⟨rfl, hB⟩
   | some x =>
    unfold mixE at hc2
    simp only at hc2
    obtain ⟨a, b, i, rfl, ha, hb', hs, hi1, hiL, hbest⟩ := hsome x rfl
    dsimp only at hc2
    have hmx := fun (wx : World) (hx : Below w.heap.size w wx) (z : Int) => mix70_any cap p (a : Int) (b : Int) (i : Int) z (hG.toW hx)
    rw [mixB_true ha hb' hs hi1 hiL] at hmx
    have hmy := fun (wx : World) (hx : Below w.heap.size w wx) => mix70_any cap p y1 y2 y3 y4 (hG.toW hx)
    have hmd := fun (a b i : Nat) (z : Int) (ha : a < n) (hb : b < n) (hi : i ≤ 100) (wx : World) (hx : Below w.heap.size w wx) => made71_any p a b i z (h.toW hx) hbk (hG.toW hx) hp ha hb hi
    have hle := fun (a b i : Nat) (ha : a < n) (hb : b < n) => mixF_le hG (p := p) (a := a) (b := b) (i := i) hp ha hb (headN cs) (Nat.le_refl _)
    generalize headN cs = L at *
    generalize mixF cs p = MF at *
    have hM16 := hle a b i ha hb'
    have hmd1 := fun (z : Int) (wx : World) (hx : Below w.heap.size w wx) => hmd a b i z ha hb' (by omega) wx hx
    generalize hMe : MF a b i L = M at *
    have HC2 := Lib.hid hc2; have HMX := Lib.hid hmx; have HMY := Lib.hid hmy; have HMD := Lib.hid hmd; have HMD1 := Lib.hid hmd1; have HLE := Lib.hid hle; have HBEST := Lib.hid hbest
    clear hc2 hmx hmy hmd hmd1 hle hbest hsome hnone hbk hk h hG hp hq1 hq2 hq3 hMe
    go_wp2_with fail
    refine (HCY.out _).mono ?_; rintro e wc ⟨rfl, hb⟩
    replace hB := hB.trans (hb.mono hB.size); replace hX := hX.below hb hX.lt; replace hY := hY.below hb hY.lt; clear hb qX; have qX := fun i => hX.cell i
    have qhY := fun i => hY.cell i
    go_wp2_with fail
    refine (HC2.out _ hB).mono ?_; rintro e wc ⟨rfl, hb⟩
    replace hB := hB.trans (hb.mono hB.size); replace hX := hX.below hb hX.lt; replace hY := hY.below hb hY.lt; clear hb qX
    have hZ0 := Blk.new wc 93 #[.int .i64 0, .int .i64 0, .int .i64 0, .int .i64 0]; have q93 := fun i => hZ0.cell i; have f93 := fun i => hZ0.frozen i; have l93 := hZ0.lt
    go_upto_region 4 with (fail)
    have hS := Blk.new wc 93 #[.int .i64 (a : Int), .int .i64 (b : Int), .int .i64 (i : Int), .int .i64 (M : Int)]
    have hKeep : Below wc.heap.size wc (wc.alloc (.cells #[.int .i64 (a : Int), .int .i64 (b : Int), .int .i64 (i : Int), .int .i64 (M : Int)] 93)) := (Below.refl _ wc).alloc (Nat.le_refl _) _
    replace hB := hB.trans (hKeep.mono hB.size); replace hX := hX.below hKeep hX.lt
    replace hY := hY.below hKeep hY.lt; clear hKeep hZ0 q93 f93 l93
    generalize wc.alloc (.cells #[.int .i64 (a : Int), .int .i64 (b : Int), .int .i64 (i : Int), .int .i64 (M : Int)] 93) = W5hS at *
    generalize wc.heap.size = shS at hS ⊢
    have qX := fun i => hX.cell i; have qhS := fun i => hS.cell i
    go_upto_region 6 with (fail)
    rename World => WZ
    have hqX := fun (z : Blw WZ.heap.size WZ) i => blw_blk hX z i
    have hqS := fun (z : Blw WZ.heap.size WZ) i => blw_blk hS z i
    have hc1 := fun (z : Blw WZ.heap.size WZ) => HMX.out z.toW (hB.trans (z.h.mono hB.size)) (M : Int)
    have hc3 := fun (z : Blw WZ.heap.size WZ) => HMD1.out (M : Int) z.toW (hB.trans (z.h.mono hB.size))
    have HC3 := Lib.hid hc1; have HC4 := Lib.hid hc3; clear hc1 hc3
    have hlX := hX.lt; have hlS := hS.lt
    have heqM : ((M : Int) != (M : Int)) = false := by simp
    refine wp_region_blw (by kernel_rfl) (by kernel_rfl) ?_
    repeat (go_big_quiet_step (fail))
    go_big_quiet_step ((go_at_call 70; exact Calls.blw_of _ (HC3.out _)))
    repeat (go_big_quiet_step (fail))
    go_big_quiet_step ((go_at_call 71; exact Calls.blw_of _ (HC4.out _)))
    repeat (go_big_quiet_step (fail))
    refine wpQuiet_nil ?_
    rintro W3 ⟨⟨_, hb3⟩, rfl⟩
    clear hqX hqS HC3 HC4 qX qhS
    replace hX := hX.below hb3 hX.lt; replace hS := hS.below hb3 hS.lt; replace hY := hY.below hb3 hY.lt; replace hB := hB.trans (hb3.mono hB.size)
    clear hb3
    have qX := fun i => hX.cell i; have qY := fun i => hY.cell i
    have hmy := HMY.out _ hB
    cases hmb : mixB n L p y1 y2 y3 with
    | false =>
     rw [hmb] at hmy
     have HMYY := Lib.hid hmy; clear hmy hmb
     go_wp2_with fail
     refine (HMYY.out).mono ?_; rintro e wc ⟨rfl, hb⟩
     replace hB := hB.trans (hb.mono hB.size); clear hb qX qY
     go_wp2_with fail
     refine (known_true m _ (hE.below hB)).mono ?_; rintro e wc ⟨rfl, hb⟩
     replace hB := hB.trans (hb.mono hB.size); clear hb
     go_wp2_with fail
     go_ret
     exact ⟨rfl, hB⟩
    | true =>
     rw [hmb] at hmy
     obtain ⟨a', b2, i', rfl, rfl, rfl, ha', hb2', hs', hi1', hiL'⟩ := mixB_nat hmb
     have hbest := HBEST.out a' b2 i' ha' hb2' hs' hi1' hiL'
     have hmd2 := fun (wx : World) (hx : Below w.heap.size w wx) => HMD.out a' b2 i' y4 ha' hb2' (by omega) wx hx
     have hN16 := HLE.out a' b2 i' ha' hb2'
     obtain ⟨N, hN⟩ : ∃ N, N = MF a' b2 i' L := ⟨_, rfl⟩
     rw [← hN] at hbest hN16
     simp only [← hN] at hmd2
     obtain ⟨hMN, hEQ⟩ := hbest
     have HMYY := Lib.hid hmy; have HMD2 := Lib.hid hmd2; have HEQ := Lib.hid hEQ; clear hmy hmb hmd2 hEQ hN hs' hs HBEST HMD HLE
     go_wp2_with fail
     refine (HMYY.out).mono ?_; rintro e wc ⟨rfl, hb⟩
     replace hB := hB.trans (hb.mono hB.size); replace hX := hX.below hb hX.lt; replace hS := hS.below hb hS.lt; replace hY := hY.below hb hY.lt; clear hb qX qY
     have qX := fun i => hX.cell i; have qY := fun i => hY.cell i
     go_wp2_with fail
     refine (HMD2.out _ hB).mono ?_; rintro e wc ⟨rfl, hb⟩
     replace hB := hB.trans (hb.mono hB.size); replace hX := hX.below hb hX.lt; replace hS := hS.below hb hS.lt; replace hY := hY.below hb hY.lt; clear hb qX qY
     have qY := fun i => hY.cell i; have qS := fun i => hS.cell i
     by_cases e1 : a' < a
     ·skip
      have hgt : (M : Int) < N := by
       rcases Nat.lt_or_eq_of_le hMN with h | h
       ·omega
       ·have := HEQ.out h.symm; omega
      have f1 : (a' : Int) < a := by omega
      go_wp2_with fail
      refine (known_true m _ (hE.below hB)).mono ?_; rintro e wc ⟨rfl, hb⟩
      replace hB := hB.trans (hb.mono hB.size); clear hb
      go_wp2_with fail
      go_ret
      exact ⟨rfl, hB⟩
     ·by_cases e2 : a' = a
      ·subst e2
       have f1 : ¬ (a' : Int) < a' := by omega
       have f2 : ((a' : Int) == (a' : Int)) = true := by simp
       by_cases e3 : b2 < b
       ·skip
        have hgt : (M : Int) < N := by
         rcases Nat.lt_or_eq_of_le hMN with h | h
         ·omega
         ·have := HEQ.out h.symm; omega
        have f3 : (b2 : Int) < b := by omega
        go_wp2_with fail
        refine (known_true m _ (hE.below hB)).mono ?_; rintro e wc ⟨rfl, hb⟩
        replace hB := hB.trans (hb.mono hB.size); clear hb
        go_wp2_with fail
        go_ret
        exact ⟨rfl, hB⟩
       ·by_cases e4 : b2 = b
        ·subst e4
         have f3 : ¬ (b2 : Int) < b2 := by omega
         have f4 : ((b2 : Int) == (b2 : Int)) = true := by simp
         by_cases e5 : i' < i
         ·skip
          have hgt : (M : Int) < N := by
           rcases Nat.lt_or_eq_of_le hMN with h | h
           ·omega
           ·have := HEQ.out h.symm; omega
          have f5 : (i' : Int) < i := by omega
          go_wp2_with fail
          refine (known_true m _ (hE.below hB)).mono ?_; rintro e wc ⟨rfl, hb⟩
          replace hB := hB.trans (hb.mono hB.size); clear hb
          go_wp2_with fail
          go_ret
          exact ⟨rfl, hB⟩
         ·skip
          have f5 : ¬ (i' : Int) < i := by omega
          by_cases hgt : (M : Int) < N
          ·skip
           go_wp2_with fail
           refine (known_true m _ (hE.below hB)).mono ?_; rintro e wc ⟨rfl, hb⟩
           replace hB := hB.trans (hb.mono hB.size); clear hb
           go_wp2_with fail
           go_ret
           exact ⟨rfl, hB⟩
          ·have heN : N = M := by omega
           subst heN
           have heqN : ((N : Int) == (N : Int)) = true := by simp
           go_wp2_with fail
           refine (known_true m _ (hE.below hB)).mono ?_; rintro e wc ⟨rfl, hb⟩
           replace hB := hB.trans (hb.mono hB.size); clear hb
           go_wp2_with fail
           go_ret
           exact ⟨rfl, hB⟩
        ·skip
         have f3 : ¬ (b2 : Int) < b := by omega
         have f4 : ((b2 : Int) == (b : Int)) = false := beq_false_of_ne (by omega)
         by_cases hgt : (M : Int) < N
         ·skip
          go_wp2_with fail
          refine (known_true m _ (hE.below hB)).mono ?_; rintro e wc ⟨rfl, hb⟩
          replace hB := hB.trans (hb.mono hB.size); clear hb
          go_wp2_with fail
          go_ret
          exact ⟨rfl, hB⟩
         ·have heN : N = M := by omega
          subst heN
          have heqN : ((N : Int) == (N : Int)) = true := by simp
          go_wp2_with fail
          refine (known_true m _ (hE.below hB)).mono ?_; rintro e wc ⟨rfl, hb⟩
          replace hB := hB.trans (hb.mono hB.size); clear hb
          go_wp2_with fail
          go_ret
          exact ⟨rfl, hB⟩
      ·skip
       have f1 : ¬ (a' : Int) < a := by omega
       have f2 : ((a' : Int) == (a : Int)) = false := beq_false_of_ne (by omega)
       by_cases hgt : (M : Int) < N
       ·skip
        go_wp2_with fail
        refine (known_true m _ (hE.below hB)).mono ?_; rintro e wc ⟨rfl, hb⟩
        replace hB := hB.trans (hb.mono hB.size); clear hb
        go_wp2_with fail
        go_ret
        exact ⟨rfl, hB⟩
       ·have heN : N = M := by omega
        subst heN
        have heqN : ((N : Int) == (N : Int)) = true := by simp
        go_wp2_with fail
        refine (known_true m _ (hE.below hB)).mono ?_; rintro e wc ⟨rfl, hb⟩
        replace hB := hB.trans (hb.mono hB.size); clear hb
        go_wp2_with fail
        go_ret
        exact ⟨rfl, hB⟩
end
end Go.Proofs.YtekmnelpkogppaaGreatDoor
