import Derived.Test.YtifddfchpknkbaaGreatDoorProg
import Derived.Test.YtifddfchpknkbaaGreatDoorBk5
import Derived.Test.YtifddfchpknkbaaGreatDoorBk6
import Derived.RangeFuncNested
import Derived.RangeFuncBound
import Derived.RangeFuncCalls
import Derived.RangeFuncLeaves
import Derived.Shelf.Abstract
import Derived.OwnWalkIn
import Derived.TacticsInMore
import Derived.LoopNIn
import Derived.LoopIn
import Derived.Sort.LoopGhostIn
set_option linter.unusedVariables false
set_option linter.unusedSimpArgs false
namespace Go.Proofs.YtifddfchpknkbaaGreatDoor
section
open Go.RowKit Go.Shelf
attribute [local go_sem] Oper.semAt_some
/-- The whole numbers from lo to hi. -/
def spanL (lo hi : Int) : List Int := (List.range (hi + 1 - lo).toNat).map fun k => lo + (k : Nat)
theorem spanL_cons {lo hi : Int} (h : lo ≤ hi) : spanL lo hi = lo :: spanL (lo + 1) hi := by
  have e : (hi + 1 - lo).toNat = (hi + 1 - (lo + 1)).toNat + 1 := by omega
  unfold spanL
  rw [e, List.range_succ_eq_map, List.map_cons, List.map_map]
  congr 1
  · simp
  · apply List.map_congr_left; intro a _; simp [Function.comp]; omega
theorem spanL_nil {lo hi : Int} (h : hi < lo) : spanL lo hi = [] := by
  have e : (hi + 1 - lo).toNat = 0 := by omega
  simp [spanL, e]
theorem mem_spanL {lo hi z : Int} : z ∈ spanL lo hi ↔ lo ≤ z ∧ z ≤ hi := by
  constructor
  · intro h
    obtain ⟨k, hk, rfl⟩ := List.mem_map.1 h
    have := List.mem_range.1 hk
    omega
  · intro h
    exact List.mem_map.2 ⟨(z - lo).toNat, List.mem_range.2 (by omega), by omega⟩
theorem spanL_len (lo hi : Int) : (spanL lo hi).length = (hi + 1 - lo).toNat := by simp [spanL]
abbrev Tr := Int × Int × Int
def xR (f n lo XH : Int) : List Tr := (spanL lo XH).map fun x => (f, n, x)
def nR (f lo NH XL XH : Int) : List Tr := (spanL lo NH).flatMap fun n => xR f n XL XH
def fR (lo nf NL NH XL XH : Int) : List Tr := (spanL lo (nf - 1)).flatMap fun f => nR f NL NH XL XH
theorem xR_cons {f n lo XH : Int} (h : lo ≤ XH) : xR f n lo XH = (f, n, lo) :: xR f n (lo + 1) XH := by simp [xR, spanL_cons h]
theorem nR_cons {f lo NH XL XH : Int} (h : lo ≤ NH) : nR f lo NH XL XH = xR f lo XL XH ++ nR f (lo + 1) NH XL XH := by simp [nR, spanL_cons h]
theorem fR_cons {lo nf NL NH XL XH : Int} (h : lo < nf) : fR lo nf NL NH XL XH = nR lo NL NH XL XH ++ fR (lo + 1) nf NL NH XL XH := by simp [fR, spanL_cons (show lo ≤ nf - 1 by omega)]
theorem xR_nil {f n lo XH : Int} (h : XH < lo) : xR f n lo XH = [] := by simp [xR, spanL_nil h]
theorem nR_nil {f lo NH XL XH : Int} (h : NH < lo) : nR f lo NH XL XH = [] := by simp [nR, spanL_nil h]
theorem fR_nil {lo nf NL NH XL XH : Int} (h : nf ≤ lo) : fR lo nf NL NH XL XH = [] := by simp [fR, spanL_nil (show nf - 1 < lo by omega)]
theorem mem_fR {nf NL NH XL XH : Int} {t : Tr} : t ∈ fR 0 nf NL NH XL XH ↔ (0 ≤ t.1 ∧ t.1 < nf) ∧ (NL ≤ t.2.1 ∧ t.2.1 ≤ NH) ∧ XL ≤ t.2.2 ∧ t.2.2 ≤ XH := by
  obtain ⟨f, n, x⟩ := t
  simp only [fR, nR, xR, List.mem_flatMap, List.mem_map, mem_spanL]
  constructor
  · rintro ⟨a, ha, b, hb, c, hc, h⟩
    cases h
    exact ⟨⟨ha.1, by omega⟩, hb, hc⟩
  · rintro ⟨hf, hn, hx⟩
    exact ⟨f, ⟨hf.1, by omega⟩, n, hn, x, hx, rfl⟩
/-- All readings, in order. -/
abbrev allR (nf NL NH XL XH : Int) : List Tr := fR 0 nf NL NH XL XH
abbrev Rg (nf NL NH XL XH : Int) := { t : Tr // t ∈ allR nf NL NH XL XH }
def encR (Y : Int) {nf NL NH XL XH : Int} (t : Rg nf NL NH XL XH) : Array Value := #[.agg #[.int .i64 t.1.1, .int .i64 t.1.2.1, .int .i64 t.1.2.2, .int .i64 Y]]
/-- Between two worlds the blocks from lo on, below hi, lie as they lay. -/
def KeepB (lo hi : Nat) (A B : World) : Prop := A.heap.size ≤ B.heap.size ∧ ∀ k, lo ≤ k → k < hi → B.heap[k]? = A.heap[k]?
theorem KeepB.refl (lo hi : Nat) (A : World) : KeepB lo hi A A := ⟨Nat.le_refl _, fun _ _ _ => rfl⟩
theorem KeepB.trans {lo hi : Nat} {A B C : World} (h : KeepB lo hi A B) (k : KeepB lo hi B C) : KeepB lo hi A C := ⟨Nat.le_trans h.1 k.1, fun i h1 h2 => (k.2 i h1 h2).trans (h.2 i h1 h2)⟩
theorem KeepB.alloc {lo hi : Nat} {A B : World} (h : KeepB lo hi A B) (hh : hi ≤ B.heap.size) (o : Obj) : KeepB lo hi A (B.alloc o) :=
  h.trans ⟨by simp, fun k _ hk => Below.heap_alloc B o k (by omega)⟩
theorem KeepB.blk {lo hi g : Nat} {A B : World} {t : TypeId} {cs : Array Value} (h : KeepB lo hi A B) (hb : Blk A g t cs) (h1 : lo ≤ g) (h2 : g < hi) : Blk B g t cs := (h.2 g h1 h2).trans hb
theorem KeepB.put {lo hi l : Nat} (W : World) (o' : Obj) (hl : hi ≤ l) : KeepB lo hi W (W.putObj l o') :=
  ⟨by simp, fun k _ hk => World.putObj_heap_other (by omega)⟩
set_option maxRecDepth 100000 in
set_option maxHeartbeats 1600000 in
/-- **All readings of a company, one by one.** -/
theorem readings1_in (F : Fence) (n : Nat) (hFn : F.fn 192) (hro : F.round = none) (hn : 1 ≤ n) (l bF bR lo hi : Nat) (nf NL NH XL XH Y : Int) (hf1 : nf ≤ 1000) (hn1 : NH ≤ 1000) (hx1 : XH ≤ 1000) (hn0 : -1000 ≤ NL) (hx0 : -1000 ≤ XL)
    (J Jx : List (Rg nf NL NH XL XH) → World → Prop)
    (hY : ∀ pre x W, J pre W → pre.length < (allR nf NL NH XL XH).length → YieldAt F (n - 1) Tryz.prog l (encR Y x) W fun e W' =>
      (e = .returned (.bool true) ∧ J (pre ++ [x]) W' ∧ KeepB lo hi W W') ∨ (e = .returned (.bool false) ∧ Jx (pre ++ [x]) W'))
    (W : World) (hJn : ∀ s (A : World) (o : Obj), J s A → J s (A.alloc o)) (hW : hi ≤ W.heap.size) (hlR : lo ≤ bR) (hbR : bR < hi)
    (hcF : W.cell? ⟨bF, 0, none⟩ = some (.int .i64 nf)) (hcR : Blk W bR 71 #[.int .i64 NL, .int .i64 NH, .int .i64 XL, .int .i64 XH, .int .i64 Y]) (h0 : J [] W) :
    CallsIn F n Tryz.prog 192 #[.func (.yield l) #[] #[], .pointer (some ⟨bF, 0, none⟩), .pointer (some ⟨bR, 0, none⟩)] W fun e W' => (∃ v, e = .returned v) ∧
      ((∃ ys, ys.map Subtype.val = allR nf NL NH XL XH ∧ J ys W') ∨ (∃ pre, Jx pre W')) := by
  refine callsIn_of_wp Tryz.func192 rfl hFn ?_ hro
  simp only [Tryz.ntmps192, List.size_toArray, List.length_cons, List.length_nil, Nat.reduceAdd, Nat.reduceSub, Array.replicate_succ, Array.replicate_zero, List.push_toArray, List.append_toArray, List.nil_append, List.cons_append]
  have hallR : allR nf NL NH XL XH = fR 0 nf NL NH XL XH := rfl
  have HALL := Lib.hid hallR; clear hallR
  gi_wp2
  gi_loopg [9] nf.toNat (fun g i wr => ∃ (f : Int) (pre : List (Rg nf NL NH XL XH)), g = (nf - f).toNat ∧ i = .int .i64 f ∧ 0 ≤ f ∧ pre.map Subtype.val ++ fR f nf NL NH XL XH = allR nf NL NH XL XH ∧ J pre wr ∧ KeepB lo hi W wr)
  case atStart => exact ⟨0, [], by simp, rfl, by omega, by simp, h0, KeepB.refl _ _ _⟩
  case round =>
    obtain ⟨f, pre, hg, rfl, hf0, hpre, hJ, hB⟩ := hrel
    have HG := Lib.hid hg; clear hg
    have HPRE := Lib.hid hpre; clear hpre
    have hcR0 := fun i => (hB.blk hcR hlR hbR).cell i
    by_cases hlt : f < nf
    · gi_wp2
      gi_loopg [5] (NH + 1 - NL).toNat (fun g i wr => ∃ (t : Int) (pre : List (Rg nf NL NH XL XH)), g = (NH + 1 - t).toNat ∧ i = .int .i64 t ∧ NL ≤ t ∧ pre.map Subtype.val ++ (nR f t NH XL XH ++ fR (f + 1) nf NL NH XL XH) = allR nf NL NH XL XH ∧ J pre wr ∧ KeepB lo hi W wr)
      case atStart => exact ⟨NL, pre, rfl, rfl, by omega, by have e := HPRE.out; rw [fR_cons hlt] at e; exact e, hJ, hB⟩
      case round =>
        clear hJ HPRE hcR0 hB
        obtain ⟨t, pre, hg, rfl, ht0, hpre, hJ, hB⟩ := hrel
        have HG2 := Lib.hid hg; clear hg
        have HPRE := Lib.hid hpre; clear hpre
        have hcR1 := fun i => (hB.blk hcR hlR hbR).cell i
        by_cases hlt2 : t ≤ NH
        · gi_wp2
          gi_loopg [6] (XH + 1 - XL).toNat (fun g i wr => ∃ (x : Int) (pre : List (Rg nf NL NH XL XH)), g = (XH + 1 - x).toNat ∧ i = .int .i64 x ∧ XL ≤ x ∧ pre.map Subtype.val ++ (xR f t x XH ++ (nR f (t + 1) NH XL XH ++ fR (f + 1) nf NL NH XL XH)) = allR nf NL NH XL XH ∧ J pre wr ∧ KeepB lo hi W wr)
          case atStart => exact ⟨XL, pre, rfl, rfl, by omega, by have e := HPRE.out; rw [nR_cons hlt2, List.append_assoc] at e; exact e, hJ, hB⟩
          case round =>
            clear hJ HPRE hcR1 hB
            obtain ⟨x, pre, hg, rfl, hx0', hpre, hJ, hB⟩ := hrel
            have HG3 := Lib.hid hg; clear hg
            have HPRE := Lib.hid hpre; clear hpre
            have hcR2 := fun i => (hB.blk hcR hlR hbR).cell i
            have hltR : bR < wr.heap.size := by have := hB.1; omega
            by_cases hlt3 : x ≤ XH
            · have hmem : (f, t, x) ∈ allR nf NL NH XL XH := by have e := HPRE.out; rw [xR_cons hlt3] at e; exact e ▸ (by simp)
              have hlen : pre.length < (allR nf NL NH XL XH).length := by have e := congrArg List.length HPRE.out; rw [xR_cons hlt3] at e; simp only [List.length_append, List.length_map, List.length_cons] at e; omega
              obtain ⟨fn, tmps, assign, body, hy, hR⟩ := hY pre ⟨(f, t, x), hmem⟩ (wr.alloc (.cells #[.int .i64 t, .int .i64 x, .int .i64 Y] 28)) (hJn _ _ _ hJ) hlen
              dsimp only [encR] at hy
              gi_wp2
              refine hR.mono ?_
              rintro e W3 (⟨rfl, hJ3, hk3⟩ | ⟨rfl, hJx3⟩)
              · have hB3 : KeepB lo hi W W3 := (hB.alloc (by have := hB.1; omega) _).trans hk3
                clear hcR2
                gi_wp2
                gi_roundg ((XH + 1 - (x + 1)).toNat)
                case measure => rw [HG3.out]; omega
                case rel => exact ⟨x + 1, pre ++ [⟨(f, t, x), hmem⟩], rfl, by go_num, by omega, by have e := HPRE.out; rw [xR_cons hlt3] at e; simpa using e, hJ3, hB3⟩
              · gi_wp2
                refine bodyPost_ret (results_none rfl _ _ _) rfl ?_
                exact ⟨⟨_, rfl⟩, .inr ⟨_, hJx3⟩⟩
            · gi_wp2
              gi_roundg ((NH + 1 - (t + 1)).toNat)
              case measure => rw [HG2.out]; omega
              case rel => exact ⟨t + 1, pre, rfl, by go_num, by omega, by have e := HPRE.out; rw [xR_nil (show XH < x by omega), List.nil_append] at e; exact e, hJ, hB⟩
        · gi_wp2
          gi_roundg ((nf - (f + 1)).toNat)
          case measure => rw [HG.out]; omega
          case rel => exact ⟨f + 1, pre, rfl, by go_num, by omega, by have e := HPRE.out; rw [nR_nil (show NH < t by omega), List.nil_append] at e; exact e, hJ, hB⟩
    · gi_wp2
      go_end0
      exact ⟨⟨_, rfl⟩, .inl ⟨pre, by have h := HPRE.out; rw [fR_nil (show nf ≤ f by omega), List.append_nil] at h; exact h, hJ⟩⟩
end
section
open Go.RowKit Go.Shelf
attribute [local go_sem] Oper.semAt_some
theorem len_flat {α β : Type} (l : List α) (g : α → List β) (c : Nat) (h : ∀ x, (g x).length = c) : (l.flatMap g).length = l.length * c := by
  induction l with
  | nil => simp
  | cons x l ih => rw [List.flatMap_cons, List.length_append, ih, h, List.length_cons, Nat.add_mul, Nat.one_mul, Nat.add_comm]
theorem allR_len (nf NL NH XL XH : Int) : (allR nf NL NH XL XH).length = (nf - 1 + 1 - 0).toNat * ((NH + 1 - NL).toNat * (XH + 1 - XL).toNat) := by
  unfold allR fR
  rw [len_flat _ _ ((NH + 1 - NL).toNat * (XH + 1 - XL).toNat) (fun f => ?_), spanL_len]
  unfold nR
  rw [len_flat _ _ (XH + 1 - XL).toNat (fun n => ?_), spanL_len]
  rw [xR, List.length_map, spanL_len]
def figAt (fs : List Fig) (f : Int) : List ByteArray := ((fs[f.toNat]?).map Fig.rows).getD []
/-- The shade of a reading. -/
def shOf (W H F L X Y y : Int) (fs : List Fig) (t : Tr) : Sh := ⟨t.1, t.2.1, t.2.2, y, shS W H F L X Y t.2.1 t.2.2 y (figAt fs t.1)⟩
/-- All shades of a company, in order. -/
def shL (W H F L X Y nl nh xl xh y : Int) (fs : List Fig) : List Sh := (allR fs.length nl nh xl xh).map (shOf W H F L X Y y fs)
def askB (W H F L X Y nl nh xl xh y : Int) (fs : List Fig) : Bool := stageB W H F L X Y && (compB fs && reachB F nl nh xl xh y)
theorem reachB_nums {F nl nh xl xh y : Int} (h : reachB F nl nh xl xh y = true) : (0 ≤ nl ∧ nl ≤ F - 1) ∧ (0 ≤ nh ∧ nh ≤ F - 1) ∧ (1 ≤ nh - nl + 1 ∧ nh - nl + 1 ≤ 6) ∧ (-20 ≤ xl ∧ xl ≤ 20) ∧ (-20 ≤ xh ∧ xh ≤ 20) ∧ (1 ≤ xh - xl + 1 ∧ xh - xl + 1 ≤ 6) ∧ (-20 ≤ y ∧ y ≤ 20) := by
  simp [reachB, inB] at h; omega
theorem compB_nums {fs : List Fig} (h : compB fs = true) : (1 ≤ fs.length ∧ fs.length ≤ 6) ∧ ∀ f ∈ fs, figB f.rows = true := by
  simp only [compB, Bool.and_eq_true, List.all_eq_true] at h
  obtain ⟨h1, h2⟩ := h
  simp [inB] at h1
  exact ⟨by omega, h2⟩
theorem allR_small {W H F L X Y nl nh xl xh y : Int} {fs : List Fig} (h : askB W H F L X Y nl nh xl xh y fs = true) : (allR fs.length nl nh xl xh).length ≤ 216 := by
  simp only [askB, Bool.and_eq_true] at h
  obtain ⟨_, h2, h3⟩ := h
  have a := reachB_nums h3
  have c := (compB_nums h2).1
  rw [allR_len]
  exact Nat.mul_le_mul (show _ ≤ 6 by omega) (Nat.mul_le_mul (show _ ≤ 6 by omega) (show _ ≤ 6 by omega))
theorem view_of {W H F L X Y nl nh xl xh y : Int} {fs : List Fig} (h : askB W H F L X Y nl nh xl xh y fs = true) {t : Tr} (ht : t ∈ allR fs.length nl nh xl xh) :
    ∃ (k : Nat) (hk : k < fs.length), t.1 = (k : Int) ∧ figAt fs t.1 = (fs[k]).rows ∧ viewB W H F L X Y t.2.1 t.2.2 y (fs[k]).rows = true := by
  simp only [askB, Bool.and_eq_true] at h
  obtain ⟨h1, h2, h3⟩ := h
  have a := reachB_nums h3
  obtain ⟨⟨f0, f1⟩, n0, x0⟩ := mem_fR.1 ht
  refine ⟨t.1.toNat, by omega, by omega, ?_, ?_⟩
  · rw [figAt, List.getElem?_eq_getElem (by omega)]; rfl
  · rw [viewB, h1, (compB_nums h2).2 _ (List.getElem_mem _)]
    simp only [placeB, inB, Bool.true_and, Bool.and_eq_true, decide_eq_true_eq]
    omega
set_option maxRecDepth 100000 in
theorem readings_any (nf nl nh xl xh y : Int) (w : World) :
    Calls Tryz.prog 160 #[.int .i64 nf, .agg #[.int .i64 nl, .int .i64 nh, .int .i64 xl, .int .i64 xh, .int .i64 y]] w fun e w' => e = .returned (.func (.func 192) #[] #[.pointer (some ⟨w.heap.size, 0, none⟩), .pointer (some ⟨w.heap.size + 1, 0, none⟩)]) ∧ w' = (w.alloc (.cells #[.int .i64 nf] 3)).alloc (.cells #[.int .i64 nl, .int .i64 nh, .int .i64 xl, .int .i64 xh, .int .i64 y] 71) := by
  go_enter Tryz.func160, Tryz.ntmps160
  go_wp2
  go_ret
  exact ⟨rfl, rfl⟩
theorem Blk.kept_own {W W' : World} {g : Nat} {t e : TypeId} {cs : Array Value} {base size k : Nat} {v : Value} {xs : List Value} (h : Blk W g t cs) (hr : W.ownsRow base e size v k xs) (hne : e ≠ t) (hg : W.grownBy W' v.ownBlock) : Blk W' g t cs :=
  h.grown hg (fun e' => own_blk_ne hr h hne e'.symm)
set_option maxRecDepth 100000 in
set_option maxHeartbeats 1600000 in
theorem shades_any (W H F L X Y nl nh xl xh y : Int) (A : Option Addr) (n cap : Nat) (fs : List Fig) (w : World) (hn : n ≤ cap) (hcm : cap ≤ maxLen) (hf : ∀ f ∈ fs, f.ok w w.heap.size) (hr : Rd w w.heap.size 1 A n (fs.map Fig.val)) (hok : askB W H F L X Y nl nh xl xh y fs = true) :
    Calls Tryz.prog 115 #[.agg #[.int .i64 W, .int .i64 H, .int .i64 F, .int .i64 L, .int .i64 X, .int .i64 Y], .slice A n cap, .agg #[.int .i64 nl, .int .i64 nh, .int .i64 xl, .int .i64 xh, .int .i64 y]] w fun e w' => ∃ v, e = .returned v ∧ w'.ownsRow w.heap.size 156 5 v (shL W H F L X Y nl nh xl xh y fs).length ((shL W H F L X Y nl nh xl xh y fs).flatMap shC) ∧ Below w.heap.size w w' := by
  obtain ⟨i0, hi, hz0, hz1', hz2'⟩ := info_parts info156
  have hlen := hr.len
  have hsm := allR_small hok
  have hSL : (shL W H F L X Y nl nh xl xh y fs).length ≤ 216 := by rw [shL, List.length_map]; exact hsm
  refine (callsIn_wide (n := 9)).1 ?_
  refine callsIn_of_wp_marks Tryz.func115 rfl trivial ?_ rfl
  simp only [Tryz.ntmps115, List.size_toArray, List.length_cons, List.length_nil, Nat.reduceAdd, Nat.reduceSub, Array.replicate_succ, Array.replicate_zero, List.push_toArray, List.append_toArray, List.nil_append, List.cons_append]
  have hfl : (fs.length : Int) = n := by rw [hlen]
  have HFL := Lib.hid hfl; clear hfl
  gi_wp2_with (refine ⟨trivial, ?_⟩; gi_at_call 160; refine (callsIn_wide.2 (readings_any _ _ _ _ _ _ _)).mono ?_; rintro e w' ⟨rfl, rfl⟩)
  have hrn := reachB_nums (show reachB F nl nh xl xh y = true by simp only [askB, Bool.and_eq_true] at hok; exact hok.2.2)
  have hcn := (compB_nums (show compB fs = true by simp only [askB, Bool.and_eq_true] at hok; exact hok.2.1)).1
  have hsn := stageB_nums (show stageB W H F L X Y = true by simp only [askB, Bool.and_eq_true] at hok; exact hok.1)
  obtain ⟨W0, hW0⟩ : ∃ W0 : World, W0 = ((((((w.alloc (.cells #[.int .i64 W, .int .i64 H, .int .i64 F, .int .i64 L, .int .i64 X, .int .i64 Y] 23)).alloc (.cells #[.slice A n cap] 51)).alloc (.cells #[.int .i64 nl, .int .i64 nh, .int .i64 xl, .int .i64 xh, .int .i64 y] 71)).alloc (.cells #[.slice none 0 0] 151)).alloc (.cells #[.int .i64 (n : Int)] 3)).alloc (.cells #[.int .i64 nl, .int .i64 nh, .int .i64 xl, .int .i64 xh, .int .i64 y] 71)) := ⟨_, rfl⟩
  have hsz : W0.heap.size = w.heap.size + 1 + 1 + 1 + 1 + 1 + 1 := by rw [hW0]; simp only [World.size_alloc]
  have hB0 : Below w.heap.size w W0 := by rw [hW0]; exact ((pro4 w _ _ _ _).alloc (by simp only [World.size_alloc]; omega) _).alloc (by simp only [World.size_alloc]; omega) _
  have hBl0 : Blk W0 w.heap.size 23 #[.int .i64 W, .int .i64 H, .int .i64 F, .int .i64 L, .int .i64 X, .int .i64 Y] := by rw [hW0]; have h := (Blk.new w 23 #[.int .i64 W, .int .i64 H, .int .i64 F, .int .i64 L, .int .i64 X, .int .i64 Y]); have h' := (((((h.alloc (.cells #[.slice A n cap] 51)).alloc (.cells #[.int .i64 nl, .int .i64 nh, .int .i64 xl, .int .i64 xh, .int .i64 y] 71)).alloc (.cells #[.slice none 0 0] 151)).alloc (.cells #[.int .i64 (n : Int)] 3)).alloc (.cells #[.int .i64 nl, .int .i64 nh, .int .i64 xl, .int .i64 xh, .int .i64 y] 71)); simpa only [World.size_alloc] using h'
  have hb1 : Blk W0 (w.heap.size + 1) 51 #[.slice A n cap] := by rw [hW0]; have h := (Blk.new (w.alloc (.cells #[.int .i64 W, .int .i64 H, .int .i64 F, .int .i64 L, .int .i64 X, .int .i64 Y] 23)) 51 #[.slice A n cap]); have h' := ((((h.alloc (.cells #[.int .i64 nl, .int .i64 nh, .int .i64 xl, .int .i64 xh, .int .i64 y] 71)).alloc (.cells #[.slice none 0 0] 151)).alloc (.cells #[.int .i64 (n : Int)] 3)).alloc (.cells #[.int .i64 nl, .int .i64 nh, .int .i64 xl, .int .i64 xh, .int .i64 y] 71)); simpa only [World.size_alloc] using h'
  have hb2 : Blk W0 (w.heap.size + 1 + 1) 71 #[.int .i64 nl, .int .i64 nh, .int .i64 xl, .int .i64 xh, .int .i64 y] := by rw [hW0]; have h := (Blk.new ((w.alloc (.cells #[.int .i64 W, .int .i64 H, .int .i64 F, .int .i64 L, .int .i64 X, .int .i64 Y] 23)).alloc (.cells #[.slice A n cap] 51)) 71 #[.int .i64 nl, .int .i64 nh, .int .i64 xl, .int .i64 xh, .int .i64 y]); have h' := (((h.alloc (.cells #[.slice none 0 0] 151)).alloc (.cells #[.int .i64 (n : Int)] 3)).alloc (.cells #[.int .i64 nl, .int .i64 nh, .int .i64 xl, .int .i64 xh, .int .i64 y] 71)); simpa only [World.size_alloc] using h'
  have hb3 : Blk W0 (w.heap.size + 1 + 1 + 1) 151 #[.slice none 0 0] := by rw [hW0]; have h := (Blk.new (((w.alloc (.cells #[.int .i64 W, .int .i64 H, .int .i64 F, .int .i64 L, .int .i64 X, .int .i64 Y] 23)).alloc (.cells #[.slice A n cap] 51)).alloc (.cells #[.int .i64 nl, .int .i64 nh, .int .i64 xl, .int .i64 xh, .int .i64 y] 71)) 151 #[.slice none 0 0]); have h' := ((h.alloc (.cells #[.int .i64 (n : Int)] 3)).alloc (.cells #[.int .i64 nl, .int .i64 nh, .int .i64 xl, .int .i64 xh, .int .i64 y] 71)); simpa only [World.size_alloc] using h'
  have hb4 : Blk W0 (w.heap.size + 1 + 1 + 1 + 1) 3 #[.int .i64 (n : Int)] := by rw [hW0]; have h := (Blk.new ((((w.alloc (.cells #[.int .i64 W, .int .i64 H, .int .i64 F, .int .i64 L, .int .i64 X, .int .i64 Y] 23)).alloc (.cells #[.slice A n cap] 51)).alloc (.cells #[.int .i64 nl, .int .i64 nh, .int .i64 xl, .int .i64 xh, .int .i64 y] 71)).alloc (.cells #[.slice none 0 0] 151)) 3 #[.int .i64 (n : Int)]); have h' := (h.alloc (.cells #[.int .i64 nl, .int .i64 nh, .int .i64 xl, .int .i64 xh, .int .i64 y] 71)); simpa only [World.size_alloc] using h'
  have hb5 : Blk W0 (w.heap.size + 1 + 1 + 1 + 1 + 1) 71 #[.int .i64 nl, .int .i64 nh, .int .i64 xl, .int .i64 xh, .int .i64 y] := by rw [hW0]; have h := (Blk.new (((((w.alloc (.cells #[.int .i64 W, .int .i64 H, .int .i64 F, .int .i64 L, .int .i64 X, .int .i64 Y] 23)).alloc (.cells #[.slice A n cap] 51)).alloc (.cells #[.int .i64 nl, .int .i64 nh, .int .i64 xl, .int .i64 xh, .int .i64 y] 71)).alloc (.cells #[.slice none 0 0] 151)).alloc (.cells #[.int .i64 (n : Int)] 3)) 71 #[.int .i64 nl, .int .i64 nh, .int .i64 xl, .int .i64 xh, .int .i64 y]); have h' := h; simpa only [World.size_alloc] using h'
  rw [← hW0]
  clear hW0
  have hB4 := hb4; have hB5 := hb5
  refine wpIn_rangeFunc_ownH (F := Fence.wide) (n := 9) (w0 := W0) (N := (allR n nl nh xl xh).length) (Kp := KeepB (w.heap.size + 1 + 1 + 1 + 1) ((w.heap.size + 1 + 1 + 1 + 1 + 1) + 1)) (S := fun xs : List (Rg n nl nh xl xh) => xs.map Subtype.val = allR n nl nh xl xh) (Sp := fun _ => True) (encs := encR y) rfl (by omega) (gf := 192) (lb := #[.pointer (some ⟨(w.heap.size + 1 + 1 + 1 + 1), 0, none⟩), .pointer (some ⟨(w.heap.size + 1 + 1 + 1 + 1 + 1), 0, none⟩)]) rfl trivial (enters_of Tryz.func192 (by kernel_rfl) rfl)
    (fun l J Jx Z hW hJ _ hY h00 => (readings1_in Fence.wide 8 trivial rfl (by omega) l (w.heap.size + 1 + 1 + 1 + 1) (w.heap.size + 1 + 1 + 1 + 1 + 1) (w.heap.size + 1 + 1 + 1 + 1) ((w.heap.size + 1 + 1 + 1 + 1 + 1) + 1) n nl nh xl xh y (by omega) (by omega) (by omega) (by omega) (by omega) J Jx hY Z (fun s A o hs => hJ s A _ none hs (World.grownBy_alloc A o none) (by simp)) (by have := hW.size; omega) (by omega) (by omega) (by have h := (hB4.below hW hB4.lt).cell 0; simpa using h) (hB5.below hW hB5.lt) h00).mono (fun e W' ⟨h1, h2⟩ => ⟨h1, h2.imp id (fun ⟨pre, hp⟩ => ⟨pre, trivial, hp⟩)⟩))
    (fun h k => KeepB.trans h k) (fun Z l o o' hl _ _ _ => KeepB.put Z o' (by omega)) (Below.refl _ _) (fun _ => rfl)
    (fun (pre : List (Rg n nl nh xl xh)) Z => ∃ v, Blk Z (w.heap.size + 1 + 1 + 1) 151 #[v] ∧ Z.ownsRow w.heap.size 156 5 v pre.length ((pre.map fun t => (shOf W H F L X Y y fs) t.1).flatMap shC) ∧ Blk Z w.heap.size 23 #[.int .i64 W, .int .i64 H, .int .i64 F, .int .i64 L, .int .i64 X, .int .i64 Y] ∧ Blk Z (w.heap.size + 1) 51 #[.slice A n cap] ∧ Blk Z (w.heap.size + 1 + 1 + 1 + 1) 3 #[.int .i64 (n : Int)] ∧ Blk Z (w.heap.size + 1 + 1 + 1 + 1 + 1) 71 #[.int .i64 nl, .int .i64 nh, .int .i64 xl, .int .i64 xh, .int .i64 y] ∧ Below w.heap.size w Z)
    (fun _ _ _ => False) ?hI (fun _ _ _ _ _ hs _ _ => hs) ⟨_, hb3, World.ownsRow_nil _ _ _ _, hBl0, hb1, hb4, hb5, hB0⟩
    (fun (x : Rg n nl nh xl xh) a' Z => ∃ Bx, W0.heap.size ≤ Bx ∧ Blk Z Bx 86 #[.int .i64 x.1.1, .int .i64 x.1.2.1, .int .i64 x.1.2.2, .int .i64 y] ∧ a' = ({ tmps := #[.agg #[.int .i64 W, .int .i64 H, .int .i64 F, .int .i64 L, .int .i64 X, .int .i64 Y], .slice A n cap, .agg #[.int .i64 nl, .int .i64 nh, .int .i64 xl, .int .i64 xh, .int .i64 y], .pointer (some ⟨w.heap.size, 0, none⟩), .pointer (some ⟨(w.heap.size + 1), 0, none⟩), .pointer (some ⟨(w.heap.size + 1 + 1), 0, none⟩), .slice none 0 0, .pointer (some ⟨(w.heap.size + 1 + 1 + 1), 0, none⟩), .pointer (some ⟨Bx, 0, none⟩), .slice A n cap, .int .i64 (n : Int), .agg #[.int .i64 nl, .int .i64 nh, .int .i64 xl, .int .i64 xh, .int .i64 y], .func (.func 192) #[] #[.pointer (some ⟨(w.heap.size + 1 + 1 + 1 + 1), 0, none⟩), .pointer (some ⟨(w.heap.size + 1 + 1 + 1 + 1 + 1), 0, none⟩)], .agg #[.int .i64 x.1.1, .int .i64 x.1.2.1, .int .i64 x.1.2.2, .int .i64 y], undef, undef, undef, undef, undef, undef, undef, undef, undef, undef, undef, undef, undef, undef, undef, undef], defers := [] } : Act))
    ?hAx ?assign ?body ?done ?stop
  case hI =>
    rintro s P0 Q0 row ⟨v, h3, hown, h0, h1, h4, h5, hB⟩ hg hr
    have hne : ∀ {g : Nat} {t : TypeId} {cs : Array Value}, Blk P0 g t cs → some g ≠ row := by
      intro g t cs hb e
      obtain ⟨_, o, ho, hc⟩ := hr g e.symm
      rw [show P0.heap[g]? = _ from hb] at ho
      cases ho; cases hc
    refine ⟨v, h3.grown hg (hne h3), hown.kept hg ?_, h0.grown hg (hne h0), h1.grown hg (hne h1), h4.grown hg (hne h4), h5.grown hg (hne h5), hB.grown hg hB.size (fun k e => by have := (hr k e).1; omega)⟩
    rcases hown.2 with ⟨rfl, _⟩ | ⟨g, cp, cur, rfl, _, hgb, _⟩
    · exact .inl rfl
    · exact .inr (hne hgb)
  case hAx =>
    rintro x a' _ P0 Q0 row ⟨Bx, hBx, hb, ha⟩ hg hr
    refine ⟨Bx, hBx, hb.grown hg (fun e => ?_), ha⟩
    obtain ⟨_, o, ho, hc⟩ := hr Bx e.symm
    rw [show P0.heap[Bx]? = _ from hb] at ho
    cases ho; cases hc
  case assign =>
    rintro l pre x Z K ⟨v, h3, hown, h0, h1, h4, h5, hB⟩ hK
    have hlt5 := h5.lt
    simp only [encR, List.zip_toArray, List.zip_cons_cons, List.zip_nil_right, List.foldl_toArray', List.foldl_toArray, List.foldl_cons, List.foldl_nil, List.setIfInBounds_toArray, List.set_cons_succ, List.set_cons_zero, List.size_toArray, List.length_cons, List.length_nil]
    gi_wp2
    exact hK _ _ ((KeepsOthers.alloc _ _).from _) ((KeepB.refl _ _ _).alloc (by omega) _) ⟨v, h3.alloc _, hown.alloc _, h0.alloc _, h1.alloc _, h4.alloc _, h5.alloc _, hB.alloc hB.size _⟩ ⟨Z.heap.size, by omega, Blk.new _ _ _, rfl⟩
  case body =>
    rintro l pre ⟨⟨f, nn, xx⟩, hx⟩ a' Z hl hrec ⟨v, h3, hown, h0, h1, h4, h5, hB⟩ ⟨Bx, hBx, hbx, rfl⟩ hlen1
    have hx2 := hx
    rw [← HFL.out] at hx2
    obtain ⟨k, hk, hfk, hfig, hv⟩ := view_of hok hx2
    clear hx2
    dsimp only at hfk hfig hv
    subst hfk
    obtain ⟨cb, coff, hz, rfl, hcb, hcc⟩ := (hr.below hB).atm (show k < n by omega)
    have hfok := hf _ (List.getElem_mem hk)
    have hgs : (shOf W H F L X Y y fs) ((k : Int), nn, xx) = ⟨(k : Int), nn, xx, y, shS W H F L X Y nn xx y (fs[k]).rows⟩ := by rw [shOf, hfig]
    generalize fs[k] = fg at *
    obtain ⟨fA, fn, fcap, frows⟩ := fg
    obtain ⟨hfcap, hfcm, hfs, hfr⟩ := hfok
    dsimp only [Fig.val] at hcc hv hgs hfr hfcap hfcm
    obtain ⟨va, vc, rfl⟩ := own_slice hown
    obtain ⟨sh, hsh⟩ : ∃ sh, sh = shS W H F L X Y nn xx y frows := ⟨_, rfl⟩
    rw [← hsh] at hgs
    have HSH := Lib.hid hsh; clear hsh
    have HGS := Lib.hid hgs; clear hgs
    obtain ⟨m, hm⟩ : ∃ m, m = pre.length := ⟨_, rfl⟩
    obtain ⟨ys, hys⟩ : ∃ ys, ys = ((pre.map fun t => (shOf W H F L X Y y fs) t.1).flatMap shC) := ⟨_, rfl⟩
    have hm2 : m ≤ 216 := by rw [hm]; rw [HFL.out] at hsm; omega
    rw [← hm, ← hys] at hown
    rw [← hm] at h3
    have HM := Lib.hid hm; have HYS := Lib.hid hys; clear hm hys
    have hkn : k < n := by omega
    refine wpIn_block ?_
    refine wpIn_region_G (fun w' => Blk w' (w.heap.size + 1 + 1 + 1) 151 #[.slice va m vc] ∧ Blk w' Bx 86 #[.int .i64 (k : Int), .int .i64 nn, .int .i64 xx, .int .i64 y] ∧ Blk w' w.heap.size 23 #[.int .i64 W, .int .i64 H, .int .i64 F, .int .i64 L, .int .i64 X, .int .i64 Y] ∧ Blk w' (w.heap.size + 1) 51 #[.slice (some ⟨cb, coff, none⟩) n cap] ∧ w'.cell? ⟨cb, coff + k, none⟩ = some (.slice fA fn fcap)) 15 (by kernel_rfl) (by kernel_rfl) (by rintro ⟨_, _, h⟩; exact h) ?_
    have hTT := And.intro h3 (And.intro hbx (And.intro h0 (And.intro h1 hcc)))
    refine wpG_take (i := 0) (v := ?v0) rfl (by kernel_rfl) (by kernel_rfl) (by kernel_rfl) (by kernel_rfl) (fun _ _ _ h => h) (Or.inl ⟨by rfl, ?hy0⟩) hTT ?rest0
    case hy0 => intro wq hSw; have hq1 := fun i => hSw.1.cell i; have hq2 := fun i => hSw.2.1.cell i; have hq3 := fun i => hSw.2.2.1.cell i; have hq4 := fun i => hSw.2.2.2.1.cell i; have hq5 := hSw.2.2.2.2; go_simp <;> with_reducible rfl
    simp only [List.getElem_toArray, List.getElem_cons_zero, List.getElem_cons_succ, Act.put, List.setIfInBounds_toArray, List.set_cons_zero, List.set_cons_succ]
    refine wpG_take (i := 1) (v := ?v1) rfl (by kernel_rfl) (by kernel_rfl) (by kernel_rfl) (by kernel_rfl) (fun _ _ _ h => h) (Or.inl ⟨by rfl, ?hy1⟩) hTT ?rest1
    case hy1 => intro wq hSw; have hq1 := fun i => hSw.1.cell i; have hq2 := fun i => hSw.2.1.cell i; have hq3 := fun i => hSw.2.2.1.cell i; have hq4 := fun i => hSw.2.2.2.1.cell i; have hq5 := hSw.2.2.2.2; go_simp <;> with_reducible rfl
    simp only [List.getElem_toArray, List.getElem_cons_zero, List.getElem_cons_succ, Act.put, List.setIfInBounds_toArray, List.set_cons_zero, List.set_cons_succ]
    refine wpG_take (i := 2) (v := ?v2) rfl (by kernel_rfl) (by kernel_rfl) (by kernel_rfl) (by kernel_rfl) (fun _ _ _ h => h) (Or.inl ⟨by rfl, ?hy2⟩) hTT ?rest2
    case hy2 => intro wq hSw; have hq1 := fun i => hSw.1.cell i; have hq2 := fun i => hSw.2.1.cell i; have hq3 := fun i => hSw.2.2.1.cell i; have hq4 := fun i => hSw.2.2.2.1.cell i; have hq5 := hSw.2.2.2.2; go_simp <;> with_reducible rfl
    simp only [List.getElem_toArray, List.getElem_cons_zero, List.getElem_cons_succ, Act.put, List.setIfInBounds_toArray, List.set_cons_zero, List.set_cons_succ]
    refine wpG_take (i := 3) (v := ?v3) rfl (by kernel_rfl) (by kernel_rfl) (by kernel_rfl) (by kernel_rfl) (fun _ _ _ h => h) (Or.inl ⟨by rfl, ?hy3⟩) hTT ?rest3
    case hy3 => intro wq hSw; have hq1 := fun i => hSw.1.cell i; have hq2 := fun i => hSw.2.1.cell i; have hq3 := fun i => hSw.2.2.1.cell i; have hq4 := fun i => hSw.2.2.2.1.cell i; have hq5 := hSw.2.2.2.2; go_simp <;> with_reducible rfl
    simp only [List.getElem_toArray, List.getElem_cons_zero, List.getElem_cons_succ, Act.put, List.setIfInBounds_toArray, List.set_cons_zero, List.set_cons_succ]
    refine wpG_take (i := 4) (v := ?v4) rfl (by kernel_rfl) (by kernel_rfl) (by kernel_rfl) (by kernel_rfl) (fun _ _ _ h => h) (Or.inl ⟨by rfl, ?hy4⟩) hTT ?rest4
    case hy4 => intro wq hSw; have hq1 := fun i => hSw.1.cell i; have hq2 := fun i => hSw.2.1.cell i; have hq3 := fun i => hSw.2.2.1.cell i; have hq4 := fun i => hSw.2.2.2.1.cell i; have hq5 := hSw.2.2.2.2; go_simp <;> with_reducible rfl
    simp only [List.getElem_toArray, List.getElem_cons_zero, List.getElem_cons_succ, Act.put, List.setIfInBounds_toArray, List.set_cons_zero, List.set_cons_succ]
    refine wpG_take (i := 5) (v := ?v5) rfl (by kernel_rfl) (by kernel_rfl) (by kernel_rfl) (by kernel_rfl) (fun _ _ _ h => h) (Or.inl ⟨by rfl, ?hy5⟩) hTT ?rest5
    case hy5 => intro wq hSw; have hq1 := fun i => hSw.1.cell i; have hq2 := fun i => hSw.2.1.cell i; have hq3 := fun i => hSw.2.2.1.cell i; have hq4 := fun i => hSw.2.2.2.1.cell i; have hq5 := hSw.2.2.2.2; go_simp <;> with_reducible rfl
    simp only [List.getElem_toArray, List.getElem_cons_zero, List.getElem_cons_succ, Act.put, List.setIfInBounds_toArray, List.set_cons_zero, List.set_cons_succ]
    refine wpG_take (i := 6) (v := ?v6) rfl (by kernel_rfl) (by kernel_rfl) (by kernel_rfl) (by kernel_rfl) (fun _ _ _ h => h) (Or.inl ⟨by rfl, ?hy6⟩) hTT ?rest6
    case hy6 => intro wq hSw; have hq1 := fun i => hSw.1.cell i; have hq2 := fun i => hSw.2.1.cell i; have hq3 := fun i => hSw.2.2.1.cell i; have hq4 := fun i => hSw.2.2.2.1.cell i; have hq5 := hSw.2.2.2.2; go_simp <;> with_reducible rfl
    simp only [List.getElem_toArray, List.getElem_cons_zero, List.getElem_cons_succ, Act.put, List.setIfInBounds_toArray, List.set_cons_zero, List.set_cons_succ]
    refine wpG_take (i := 7) (v := ?v7) rfl (by kernel_rfl) (by kernel_rfl) (by kernel_rfl) (by kernel_rfl) (fun _ _ _ h => h) (Or.inl ⟨by rfl, ?hy7⟩) hTT ?rest7
    case hy7 => intro wq hSw; have hq1 := fun i => hSw.1.cell i; have hq2 := fun i => hSw.2.1.cell i; have hq3 := fun i => hSw.2.2.1.cell i; have hq4 := fun i => hSw.2.2.2.1.cell i; have hq5 := hSw.2.2.2.2; go_simp <;> with_reducible rfl
    simp only [List.getElem_toArray, List.getElem_cons_zero, List.getElem_cons_succ, Act.put, List.setIfInBounds_toArray, List.set_cons_zero, List.set_cons_succ]
    refine wpG_take (i := 8) (v := ?v8) rfl (by kernel_rfl) (by kernel_rfl) (by kernel_rfl) (by kernel_rfl) (fun _ _ _ h => h) (Or.inl ⟨by rfl, ?hy8⟩) hTT ?rest8
    case hy8 => intro wq hSw; have hq1 := fun i => hSw.1.cell i; have hq2 := fun i => hSw.2.1.cell i; have hq3 := fun i => hSw.2.2.1.cell i; have hq4 := fun i => hSw.2.2.2.1.cell i; have hq5 := hSw.2.2.2.2; go_simp <;> with_reducible rfl
    simp only [List.getElem_toArray, List.getElem_cons_zero, List.getElem_cons_succ, Act.put, List.setIfInBounds_toArray, List.set_cons_zero, List.set_cons_succ]
    refine wpG_take (i := 9) (v := ?v9) rfl (by kernel_rfl) (by kernel_rfl) (by kernel_rfl) (by kernel_rfl) (fun _ _ _ h => h) (Or.inl ⟨by rfl, ?hy9⟩) hTT ?rest9
    case hy9 => intro wq hSw; have hq1 := fun i => hSw.1.cell i; have hq2 := fun i => hSw.2.1.cell i; have hq3 := fun i => hSw.2.2.1.cell i; have hq4 := fun i => hSw.2.2.2.1.cell i; have hq5 := hSw.2.2.2.2; go_simp <;> with_reducible rfl
    simp only [List.getElem_toArray, List.getElem_cons_zero, List.getElem_cons_succ, Act.put, List.setIfInBounds_toArray, List.set_cons_zero, List.set_cons_succ]
    refine wpG_take (i := 10) (v := ?v10) rfl (by kernel_rfl) (by kernel_rfl) (by kernel_rfl) (by kernel_rfl) (fun _ _ _ h => h) (Or.inl ⟨by rfl, ?hy10⟩) hTT ?rest10
    case hy10 => intro wq hSw; have hq1 := fun i => hSw.1.cell i; have hq2 := fun i => hSw.2.1.cell i; have hq3 := fun i => hSw.2.2.1.cell i; have hq4 := fun i => hSw.2.2.2.1.cell i; have hq5 := hSw.2.2.2.2; go_simp <;> with_reducible rfl
    simp only [List.getElem_toArray, List.getElem_cons_zero, List.getElem_cons_succ, Act.put, List.setIfInBounds_toArray, List.set_cons_zero, List.set_cons_succ]
    refine wpG_one (i := 11) rfl (by kernel_rfl) (fun K hK => ?_)
    go_simp
    refine (shadow_int W H F L X Y nn xx y fA fn fcap frows Z.drew hfcap hfcm (by exact (hfr.below hB).more hB.size) hv).mono ?_; rintro e w1 ⟨rfl, hb1⟩; rw [← HSH.out]
    have c3 := Blk.below (w := Z.drew) h3 hb1 h3.lt; have cx := Blk.below (w := Z.drew) hbx hb1 hbx.lt; have c0 := Blk.below (w := Z.drew) h0 hb1 h0.lt; have c1 := Blk.below (w := Z.drew) h1 hb1 h1.lt; have c4 := Blk.below (w := Z.drew) h4 hb1 h4.lt; have c5 := Blk.below (w := Z.drew) h5 hb1 h5.lt; have cc := (hb1.cell (p := ⟨cb, coff + k, none⟩) (show cb < Z.heap.size by have := hB.size; omega)).trans hcc; have hown1 := ownsRow_below' (w := Z.drew) hown hb1; have hz1 : Z.heap.size ≤ w1.heap.size := hb1.size; have hB1 : Below w.heap.size w w1 := Below.trans (b := Z.drew) hB.drew (hb1.mono hB.size); clear hTT; have hTT := And.intro c3 (And.intro cx (And.intro c0 (And.intro c1 cc))); dsimp only
    refine hK _ _ (.inr hTT) ?_
    clear hK K
    try simp only [List.getElem_toArray, List.getElem_cons_zero, List.getElem_cons_succ, Act.put, List.setIfInBounds_toArray, List.set_cons_zero, List.set_cons_succ]
    refine wpG_take (i := 12) (v := ?v12) rfl (by kernel_rfl) (by kernel_rfl) (by kernel_rfl) (by kernel_rfl) (fun _ _ _ h => h) (Or.inl ⟨by rfl, ?hy12⟩) hTT ?rest12
    case hy12 => intro wq hSw; have hq1 := fun i => hSw.1.cell i; have hq2 := fun i => hSw.2.1.cell i; have hq3 := fun i => hSw.2.2.1.cell i; have hq4 := fun i => hSw.2.2.2.1.cell i; have hq5 := hSw.2.2.2.2; go_simp <;> with_reducible rfl
    simp only [List.getElem_toArray, List.getElem_cons_zero, List.getElem_cons_succ, Act.put, List.setIfInBounds_toArray, List.set_cons_zero, List.set_cons_succ]
    refine wpG_one (i := 13) rfl (by kernel_rfl) (fun K hK => ?_)
    go_simp
    have d3 := c3.alloc (.cells #[.int .i64 (k : Int), .int .i64 nn, .int .i64 xx, .int .i64 y, .string sh] 156); have dx := cx.alloc (.cells #[.int .i64 (k : Int), .int .i64 nn, .int .i64 xx, .int .i64 y, .string sh] 156); have d0 := c0.alloc (.cells #[.int .i64 (k : Int), .int .i64 nn, .int .i64 xx, .int .i64 y, .string sh] 156); have d1 := c1.alloc (.cells #[.int .i64 (k : Int), .int .i64 nn, .int .i64 xx, .int .i64 y, .string sh] 156); have d4 := c4.alloc (.cells #[.int .i64 (k : Int), .int .i64 nn, .int .i64 xx, .int .i64 y, .string sh] 156); have d5 := c5.alloc (.cells #[.int .i64 (k : Int), .int .i64 nn, .int .i64 xx, .int .i64 y, .string sh] 156); have dc := (World.cell?_alloc_lt w1 (.cells #[.int .i64 (k : Int), .int .i64 nn, .int .i64 xx, .int .i64 y, .string sh] 156) ⟨cb, coff + k, none⟩ (show cb < w1.heap.size by have := hB1.size; omega)).trans cc; have hown3 := hown1.alloc (.cells #[.int .i64 (k : Int), .int .i64 nn, .int .i64 xx, .int .i64 y, .string sh] 156); have hB3 := hB1.alloc hB1.size (.cells #[.int .i64 (k : Int), .int .i64 nn, .int .i64 xx, .int .i64 y, .string sh] 156); clear hTT; have hTT := And.intro d3 (And.intro dx (And.intro d0 (And.intro d1 dc)))
    refine hK _ _ (.inr hTT) ?_
    clear hK K
    try simp only [List.getElem_toArray, List.getElem_cons_zero, List.getElem_cons_succ, Act.put, List.setIfInBounds_toArray, List.set_cons_zero, List.set_cons_succ]
    refine wpG_one (i := 14) rfl (by kernel_rfl) (fun K hK => ?_)
    rw [if_pos (by rfl)]; refine wp_append_any _ _ _ 151 rfl w.heap.size 156 i0 (.agg #[.int .i64 0, .int .i64 0, .int .i64 0, .int .i64 0, .string ByteArray.empty]) 5 48 Tryz.underlying151 hi hz0 hz1' hz2' rfl (by decide) _ m ys rfl hown3 (w1.heap.size + 1) (some ⟨w1.heap.size, 0, none⟩) 1 1 [.int .i64 (k : Int), .int .i64 nn, .int .i64 xx, .int .i64 y, .string sh] rfl (Rd.blkN (Blk.new _ _ _) rfl (Nat.lt_succ_self _)).reads (by simp [Value.oneCell']) (by unfold maxLen; omega) (by omega) (by have := hB1.size; simp; omega) (fun v' w2 hown' hgrow hob => ?_)
    obtain ⟨va', vc', rfl⟩ := own_slice hown'; have e3 := d3.kept_own hown3 (by decide) hgrow; have ex := dx.kept_own hown3 (by decide) hgrow; have e0 := d0.kept_own hown3 (by decide) hgrow; have e1 := d1.kept_own hown3 (by decide) hgrow; have e4 := d4.kept_own hown3 (by decide) hgrow; have e5 := d5.kept_own hown3 (by decide) hgrow; have ec : w2.cell? ⟨cb, coff + k, none⟩ = some (.slice fA fn fcap) := (World.cell?_of_block (hgrow.block cb (by have := hB3.size; omega) (fun e => by have := (hown3.lt _ e.symm).1; omega))).trans dc; have hB4 := hB3.grown hgrow hB3.size (fun q hq => (hown3.lt q hq).1); have hfz := e3.frozen 0; have hl3 := e3.lt; have hc3 : w2.cell? ⟨(w.heap.size + 1 + 1 + 1), 0, none⟩ = some (.slice va m vc) := (by have h := e3.cell 0; simpa using h); clear hTT; have hTT := And.intro e3 (And.intro ex (And.intro e0 (And.intro e1 ec)))
    refine hK _ _ (.inr hTT) ?_
    clear hK K
    try simp only [List.getElem_toArray, List.getElem_cons_zero, List.getElem_cons_succ, Act.put, List.setIfInBounds_toArray, List.set_cons_zero, List.set_cons_succ]
    refine wpG_one (i := 15) rfl (by kernel_rfl) (fun K hK => ?_)
    go_simp
    refine hK _ _ (.inl rfl) ?_
    clear hK K
    try simp only [List.getElem_toArray, List.getElem_cons_zero, List.getElem_cons_succ, Act.put, List.setIfInBounds_toArray, List.set_cons_zero, List.set_cons_succ]
    refine wpG_done (by kernel_rfl) ?_ _
    have hnk : ∀ (k1 : Nat) (o : Obj), Z.heap[k1]? = some o → o.isCells = false → some k1 ≠ (Value.slice va m vc).ownBlock := by
      intro k1 o hko ho e
      have h1 : (w1.alloc (.cells #[.int .i64 (k : Int), .int .i64 nn, .int .i64 xx, .int .i64 y, .string sh] 156)).heap[k1]? = some o := (Below.heap_alloc w1 (.cells #[.int .i64 (k : Int), .int .i64 nn, .int .i64 xx, .int .i64 y, .string sh] 156) k1 (by have := (Array.getElem?_eq_some_iff.1 hko).1; omega)).trans ((hb1.block k1 (Array.getElem?_eq_some_iff.1 hko).1).trans hko)
      rcases hown3.2 with ⟨h, _⟩ | ⟨g, cp, cur, h, _, hgb, _⟩
      · rw [h] at e; cases e
      · rw [h] at e
        obtain rfl : k1 = g := by simpa [Value.ownBlock] using e
        rw [h1] at hgb; cases hgb; cases ho
    have f4 := e4.far (p := ⟨(w.heap.size + 1 + 1 + 1), 0, none⟩) (by simp) (.slice va' (m + 1) vc')
    have f5 := e5.far (p := ⟨(w.heap.size + 1 + 1 + 1), 0, none⟩) (by simp <;> omega) (.slice va' (m + 1) vc')
    have f0 := e0.far (p := ⟨(w.heap.size + 1 + 1 + 1), 0, none⟩) (by simp <;> omega) (.slice va' (m + 1) vc')
    have f1 := e1.far (p := ⟨(w.heap.size + 1 + 1 + 1), 0, none⟩) (by simp <;> omega) (.slice va' (m + 1) vc')
    refine ⟨⟨?kfs, ?kfb⟩, ⟨?kbs, ?kbb⟩, .slice va' (m + 1) vc', by simpa using e3.set_ 0 (.slice va' (m + 1) vc'), ?own, f0, f1, f4, f5, hB4.setCell (p := ⟨(w.heap.size + 1 + 1 + 1), 0, none⟩) (show w.heap.size ≤ (w.heap.size + 1 + 1 + 1) by omega) _⟩
    case kfs => have h1 := hgrow.size; simp at h1; simp; omega
    case kbs => have h1 := hgrow.size; simp at h1; simp; omega
    case kfb =>
      intro k1 o hBk hko ho
      have hkZ := (Array.getElem?_eq_some_iff.1 hko).1
      refine (Below.heap_setCell w2 ⟨(w.heap.size + 1 + 1 + 1), 0, none⟩ _ k1 (by simp; omega)).trans ?_
      refine (hgrow.block k1 (by simp; omega) (hnk k1 o hko ho)).trans ?_
      exact (Below.heap_alloc w1 (.cells #[.int .i64 (k : Int), .int .i64 nn, .int .i64 xx, .int .i64 y, .string sh] 156) k1 (by omega)).trans ((hb1.block k1 hkZ).trans hko)
    case kbb =>
      intro k1 hk1 hk2
      obtain rfl | rfl : k1 = (w.heap.size + 1 + 1 + 1 + 1) ∨ k1 = (w.heap.size + 1 + 1 + 1 + 1 + 1) := by omega
      · exact (show _ = _ from f4).trans (show Z.heap[(w.heap.size + 1 + 1 + 1 + 1)]? = _ from h4).symm
      · exact (show _ = _ from f5).trans (show Z.heap[(w.heap.size + 1 + 1 + 1 + 1 + 1)]? = _ from h5).symm
    case own =>
      have hk0 := hown'.kept (grownBy_setCell' w2 (w.heap.size + 1 + 1 + 1) (.slice va' (m + 1) vc')) (.inr (Boxed.not_row (t := 151) (u := .slice va m vc) e3 (by decide) hown').symm)
      have el : (pre ++ [(⟨((k : Int), nn, xx), hx⟩ : Rg n nl nh xl xh)]).length = m + 1 := by rw [List.length_append, HM.out]; rfl
      have ey : ((pre ++ [(⟨((k : Int), nn, xx), hx⟩ : Rg n nl nh xl xh)]).map fun t => (shOf W H F L X Y y fs) t.1).flatMap shC = ys ++ [.int .i64 (k : Int), .int .i64 nn, .int .i64 xx, .int .i64 y, .string sh] := by
        rw [List.map_append, List.flatMap_append, HYS.out]; congr 1; simp only [List.map_cons, List.map_nil, List.flatMap_cons, List.flatMap_nil, List.append_nil]; rw [HGS.out]; rfl
      have hk1 : World.ownsRow (w2.setCell ⟨(w.heap.size + 1 + 1 + 1), 0, none⟩ (.slice va' (m + 1) vc')) w.heap.size 156 5 (.slice va' (m + 1) vc') (pre ++ [(⟨((k : Int), nn, xx), hx⟩ : Rg n nl nh xl xh)]).length (((pre ++ [(⟨((k : Int), nn, xx), hx⟩ : Rg n nl nh xl xh)]).map fun t => (shOf W H F L X Y y fs) t.1).flatMap shC) := by rw [el, ey]; exact hk0
      simpa using hk1
  case done =>
    rintro D xs Z hD hxs ⟨v, h3, hown, h0, h1, h4, h5, hB⟩ hK
    have hc3 : Z.cell? ⟨(w.heap.size + 1 + 1 + 1), 0, none⟩ = some v := by have h := h3.cell 0; simpa using h
    gi_wp2
    refine ⟨by simp, .inl ⟨_, _, rfl, run_takeDeferred hK, ?_⟩⟩
    refine ⟨_, results_tmp rfl _ _ _, v, rfl, ?_, hB.trans (belowK_b (w := w) (Nat.le_refl _) Z D _ _ (by omega) hK rfl rfl)⟩
    have el : (shL W H F L X Y nl nh xl xh y fs) = xs.map fun t => (shOf W H F L X Y y fs) t.1 := by rw [shL, HFL.out]; have h := congrArg (List.map (shOf W H F L X Y y fs)) hxs; rw [List.map_map] at h; exact h.symm
    have hk0 := ownsRow_putObj hown (.deferred none) hK rfl
    rw [el, List.length_map]
    exact hk0
  case stop =>
    rintro D c pre Z _ _ h _
    exact h.elim
end
section
open Go.RowKit
set_option maxRecDepth 100000 in
theorem seen_any (A : Option Addr) (n cap : Nat) (l : List Sh) (sg : ByteArray) (w : World) (hn : n ≤ 100000) (hss : ∀ h ∈ l, h.s.size ≤ sg.size) (hsg : sg.size ≤ maxLen) (hr : Rd w w.heap.size 5 A n (l.flatMap shC)) :
    Calls Tryz.prog 114 #[.slice A n cap, .string sg] w fun e w' => ∃ v, e = .returned v ∧ w'.ownsRow w.heap.size 156 5 v (l.filter fun h => agreeB h.s sg).length ((l.filter fun h => agreeB h.s sg).flatMap shC) ∧ Below w.heap.size w w' := by
  obtain ⟨i0, hi, hz0, hz1', hz2'⟩ := info_parts info156
  have hlen := hr.len5
  go_enter Tryz.func114, Tryz.ntmps114
  go_wp2
  go_loopg [5, 10] n (fun g u i wr => ∃ (k : Nat) (m : Nat) (v0 : Value), g = n - k ∧ k ≤ n ∧ i = .int .i64 k ∧ u = v0 ∧ m = ((l.take k).filter fun h => agreeB h.s sg).length ∧ wr.ownsRow w.heap.size 156 5 v0 m (((l.take k).filter fun h => agreeB h.s sg).flatMap shC) ∧ Below w.heap.size w wr)
  case atStart => exact ⟨0, 0, _, rfl, Nat.zero_le _, rfl, rfl, rfl, World.ownsRow_nil _ _ _ _, Below.refl _ _⟩
  case round =>
    obtain ⟨k, m, v, hg, hk, rfl, rfl, hm, hown, hB⟩ := hrel
    obtain ⟨va, vc, rfl⟩ := own_slice hown
    have HG := Lib.hid hg; clear hg
    have hm2 : m ≤ 100000 := by have h1 := List.length_filter_le (fun h : Sh => agreeB h.s sg) (l.take k); have h2 := List.length_take_le k l; omega
    have HM := Lib.hid hm; clear hm
    have HLEN := Lib.hid hlen; clear hlen
    by_cases hlt : k < n
    · obtain ⟨b, off, hz, rfl, hb, c0, c1, c2, c3, c4⟩ := (hr.below hB).at5 hlt
      have hft := filter_take (fun h : Sh => agreeB h.s sg) l k hz
      have hsk := hss _ (List.getElem_mem hz)
      generalize l[k] = h at *
      obtain ⟨f, hn0, x, y, s⟩ := h
      have HFT := Lib.hid hft; clear hft
      dsimp only at c0 c1 c2 c3 c4
      dsimp only at hsk
      have HSK := Lib.hid hsk; clear hsk
      cases hq : agreeB s sg
      · go_wp2_with (go_at_call 159; refine (agree_any s sg _ (Nat.le_trans HSK.out hsg) HSK.out).mono ?_; rintro e w1 ⟨rfl, hb1⟩; rw [hq]; have hB1 : Below w.heap.size w w1 := (hB.alloc hB.size _).trans (hb1.mono (by have := hB.size; simp only [World.size_alloc]; omega)); have hown1 := ownsRow_below' (hown.alloc (.cells #[.int .i64 f, .int .i64 hn0, .int .i64 x, .int .i64 y, .string s] 156)) hb1; have hbk := (Blk.new wr 156 #[.int .i64 f, .int .i64 hn0, .int .i64 x, .int .i64 y, .string s]).below hb1 (by simp only [World.size_alloc]; omega); have hck := fun i => hbk.cell i; have hlk := hbk.lt)
        go_roundg (n - (k + 1))
        case measure => rw [HG.out]; omega
        case rel => exact ⟨k + 1, m, _, rfl, by omega, by go_num, rfl, by rw [HFT.out, HM.out]; simp [hq], by rw [HFT.out]; simpa [hq] using hown1, hB1⟩
      · go_wp2_with (first
          | (go_at_call 159; refine (agree_any s sg _ (Nat.le_trans HSK.out hsg) HSK.out).mono ?_; rintro e w1 ⟨rfl, hb1⟩; rw [hq]; have hB1 : Below w.heap.size w w1 := (hB.alloc hB.size _).trans (hb1.mono (by have := hB.size; simp only [World.size_alloc]; omega)); have hown1 := ownsRow_below' (hown.alloc (.cells #[.int .i64 f, .int .i64 hn0, .int .i64 x, .int .i64 y, .string s] 156)) hb1; have hbk := (Blk.new wr 156 #[.int .i64 f, .int .i64 hn0, .int .i64 x, .int .i64 y, .string s]).below hb1 (by simp only [World.size_alloc]; omega); have hck := fun i => hbk.cell i; have hlk := hbk.lt)
          | (at_builtin; refine wpList_append_any _ rfl _ _ 151 rfl w.heap.size 156 i0 (.agg #[.int .i64 0, .int .i64 0, .int .i64 0, .int .i64 0, .string ByteArray.empty]) 5 48 Tryz.underlying151 hi hz0 hz1' hz2' rfl (by decide) (.slice va m vc) m (((l.take k).filter fun h => agreeB h.s sg).flatMap shC) rfl (hown1.alloc _) (w1.heap.size + 1) (some ⟨w1.heap.size, 0, none⟩) 1 1 (shC ⟨f, hn0, x, y, s⟩) rfl (Rd.blkN (Blk.new w1 156 #[.int .i64 f, .int .i64 hn0, .int .i64 x, .int .i64 y, .string s]) rfl (Nat.lt_succ_self _)).reads (by simp [shC, Value.oneCell']) (by unfold maxLen; omega) (by omega) (by have := hB1.size; simp only [World.size_alloc]; omega) (fun v' w' hown' hgrow hob => ?_))
          | go_in)
        go_roundg (n - (k + 1))
        case measure => rw [HG.out]; omega
        case rel => exact ⟨k + 1, m + 1, _, rfl, by omega, by go_num, rfl, by rw [HFT.out, HM.out]; simp [hq], by rw [HFT.out]; simpa [hq] using hown', (hB1.alloc hB1.size _).grown hgrow (by have := hB1.size; simp only [World.size_alloc]; omega) (fun g hg => (hown.lt g hg).1)⟩
    · have hta : l.take k = l := List.take_of_length_le (by have := HLEN.out; omega)
      rw [hta] at hown HM
      go_wp2
      go_ret
      exact ⟨_, rfl, by rw [← HM.out]; exact hown, hB⟩
end
section
open Go.RowKit
theorem info3 : (Tryz.prog.info? 3).map (fun i => (i.zero, i.size, i.bytes)) = some (some (.int .i64 0), 1, 8) := by kernel_rfl
/-- The cells that a sight does not tell. -/
def unseenL (s : ByteArray) : List Nat := (List.range s.size).filter fun i => (ltr s).getD i 0 == 63
def unseenK (s : ByteArray) (k : Nat) : List Nat := (List.range k).filter fun i => (ltr s).getD i 0 == 63
theorem unseenK_succ (s : ByteArray) (k : Nat) (h : k < s.size) : unseenK s (k + 1) = unseenK s k ++ (if ((s[k].toNat : Int) == 63) then [k] else []) := by
  have e : (ltr s).getD k 0 = (s[k].toNat : Int) := by
    rw [List.getD, List.getElem?_eq_getElem (by rw [ltr_len]; exact h), ltr_at s k h]; rfl
  rw [unseenK, List.range_succ, List.filter_append, unseenK, List.filter_cons, List.filter_nil, e]
theorem unseenK_le (s : ByteArray) (k : Nat) : (unseenK s k).length ≤ k := by have := List.length_filter_le (fun i => (ltr s).getD i 0 == 63) (List.range k); simpa [unseenK] using this
def natV (k : Nat) : Value := .int .i64 k
set_option maxRecDepth 100000 in
theorem unseenCells_any (s : ByteArray) (w : World) (hs : s.size ≤ 100000) :
    Calls Tryz.prog 124 #[.string s] w fun e w' => ∃ v, e = .returned v ∧ w'.ownsRow w.heap.size 3 1 v (unseenL s).length ((unseenL s).map natV) ∧ Below w.heap.size w w' := by
  obtain ⟨i0, hi, hz0, hz1', hz2'⟩ := info_parts info3
  go_enter Tryz.func124, Tryz.ntmps124
  go_wp2
  go_loopg [3, 7] (s.size) (fun g u i wr => ∃ (k : Nat) (m : Nat) (v0 : Value), g = s.size - k ∧ k ≤ s.size ∧ i = .int .i64 k ∧ u = v0 ∧ m = (unseenK s k).length ∧ wr.ownsRow w.heap.size 3 1 v0 m ((unseenK s k).map natV) ∧ Below w.heap.size w wr)
  case atStart => exact ⟨0, 0, _, rfl, Nat.zero_le _, rfl, rfl, rfl, World.ownsRow_nil _ _ _ _, Below.refl _ _⟩
  case round =>
    obtain ⟨k, m, v, hg, hk, rfl, rfl, hm, hown, hB⟩ := hrel
    obtain ⟨va, vc, rfl⟩ := own_slice hown
    have HG := Lib.hid hg; clear hg
    have hm2 : m ≤ 100000 := by have := unseenK_le s k; omega
    have HM := Lib.hid hm; clear hm
    by_cases hlt : k < s.size
    · have hft := unseenK_succ s k hlt
      have HFT := Lib.hid hft; clear hft
      cases hq : (((s[k]'hlt).toNat : Int) == 63)
      · go_wp2
        go_roundg (s.size - (k + 1))
        case measure => rw [HG.out]; omega
        case rel => exact ⟨k + 1, m, _, rfl, by omega, by go_num, rfl, by rw [HFT.out, HM.out]; simp [hq], by rw [HFT.out]; simpa [hq] using hown, hB⟩
      · go_wp2_with (first
          | (at_builtin; refine wpList_append_any _ rfl _ _ 87 rfl w.heap.size 3 i0 (.int .i64 0) 1 8 Tryz.underlying87 hi hz0 hz1' hz2' rfl (by decide) (.slice va m vc) m ((unseenK s k).map natV) rfl (hown.alloc _) (wr.heap.size + 1) (some ⟨wr.heap.size, 0, none⟩) 1 1 [natV k] rfl (Rd.blkN (Blk.new wr 3 #[.int .i64 k]) rfl (Nat.lt_succ_self _)).reads (by simp [natV, Value.oneCell']) (by unfold maxLen; omega) (by omega) (by have := hB.size; simp only [World.size_alloc]; omega) (fun v' w' hown' hgrow hob => ?_))
          | go_in)
        go_roundg (s.size - (k + 1))
        case measure => rw [HG.out]; omega
        case rel => exact ⟨k + 1, m + 1, _, rfl, by omega, by go_num, rfl, by rw [HFT.out, HM.out]; simp [hq], by rw [HFT.out]; simpa [hq] using hown', (hB.alloc hB.size _).grown hgrow (by have := hB.size; simp only [World.size_alloc]; omega) (fun g hg => (hown.lt g hg).1)⟩
    · obtain rfl : k = s.size := by omega
      go_wp2
      go_ret
      exact ⟨_, rfl, by rw [show unseenL s = unseenK s s.size from rfl, ← HM.out]; exact hown, hB⟩
theorem at_fun (n x y : Int) (w : World) : Calls Tryz.prog 38 #[.int .i64 n, .int .i64 x, .int .i64 y] w fun e w' => e = .returned (.agg #[.int .i64 n, .int .i64 x, .int .i64 y]) ∧ Below w.heap.size w w' := by
  go_enter Tryz.func38, Tryz.ntmps38
  go_wp2
  refine bodyPost_ret (v := .agg #[.int .i64 n, .int .i64 x, .int .i64 y]) (by simp [results, Tryz.results38, go_sem]) rfl ⟨rfl, ?_⟩
  exact (Below.refl _ _).alloc (Nat.le_refl _) _
end
end Go.Proofs.YtifddfchpknkbaaGreatDoor
