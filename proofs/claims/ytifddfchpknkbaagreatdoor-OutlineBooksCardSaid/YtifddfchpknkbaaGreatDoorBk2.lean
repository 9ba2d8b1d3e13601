import Derived.Test.YtifddfchpknkbaaGreatDoorProg
import Derived.Test.YtifddfchpknkbaaGreatDoorBk1
set_option linter.unusedVariables false
set_option linter.unusedSimpArgs false
namespace Go.Proofs.YtifddfchpknkbaaGreatDoor
section
open Go.RowKit
/-- A figure as it lies in memory. -/
structure Fig where
  A : Option Addr
  n : Nat
  cap : Nat
  rows : List ByteArray
def Fig.val (f : Fig) : Value := .slice f.A f.n f.cap
def Fig.ok (w : World) (B : Nat) (f : Fig) : Prop := f.n ≤ f.cap ∧ f.cap ≤ maxLen ∧ (∀ r ∈ f.rows, r.size ≤ maxLen) ∧ Rd w B 1 f.A f.n (f.rows.map Value.string)
theorem Fig.ok.below {w w' : World} {B : Nat} {f : Fig} (h : f.ok w B) (hb : Below B w w') : f.ok w' B := ⟨h.1, h.2.1, h.2.2.1, h.2.2.2.below hb⟩
theorem Fig.ok.more {w : World} {B B' : Nat} {f : Fig} (h : f.ok w B) (hb : B ≤ B') : f.ok w B' := ⟨h.1, h.2.1, h.2.2.1, h.2.2.2.more hb⟩
def compB (fs : List Fig) : Bool := inB fs.length 1 6 && fs.all fun f => figB f.rows
set_option maxRecDepth 100000 in
theorem goodCompany_any (A : Option Addr) (n cap : Nat) (fs : List Fig) (w : World) (hn : n ≤ maxLen) (hf : ∀ f ∈ fs, f.ok w w.heap.size) (hr : Rd w w.heap.size 1 A n (fs.map Fig.val)) :
    Calls Tryz.prog 157 #[.slice A n cap] w fun e w' => e = .returned (.bool (compB fs)) ∧ Below w.heap.size w w' := by
  have hlen := hr.len
  unfold maxLen at hn
  have hfig : compB fs = (inB n 1 6 && fs.all fun f => figB f.rows) := by rw [compB, hlen]
  have HF := Lib.hid hfig; clear hfig
  cases h1 : inB n 1 6
  · go_enter Tryz.func157, Tryz.ntmps157
    go_wp2_with (go_at_call 130; refine (within_any _ _ _ _).mono ?_; rintro e w' ⟨rfl, rfl⟩)
    go_ret
    exact ⟨ret_bool (by rw [HF.out, h1]; rfl), Below.refl _ _⟩
  · have hn0 : 0 < n ∧ n ≤ 6 := by simp [inB] at h1; omega
    obtain ⟨hn1, hn6⟩ := hn0
    go_enter Tryz.func157, Tryz.ntmps157
    go_wp2_with (go_at_call 130; refine (within_any _ _ _ _).mono ?_; rintro e w' ⟨rfl, rfl⟩)
    go_loopg [11] n (fun g i wr => ∃ k : Nat, g = n - k ∧ k ≤ n ∧ i = .int .i64 k ∧ (fs.take k).all (fun f => figB f.rows) = true ∧ Below w.heap.size w wr)
    case atStart => exact ⟨0, rfl, Nat.zero_le _, rfl, rfl, Below.refl _ _⟩
    case round =>
      obtain ⟨k, hg, hk, rfl, hall, hB⟩ := hrel
      have HG := Lib.hid hg; clear hg
      have HALL := Lib.hid hall; clear hall
      by_cases hlt : k < n
      · obtain ⟨b, off, hzk, rfl, hb, hc⟩ := (hr.below hB).atm hlt
        have ha := all_take (fun f : Fig => figB f.rows) fs k hzk
        have hstop := all_stop (fun f : Fig => figB f.rows) fs k hzk
        have hok := (hf _ (List.getElem_mem hzk)).below hB
        generalize fs[k] = f at *
        obtain ⟨fA, fn, fcap, frows⟩ := f
        simp only [Fig.val] at hc
        have HA := Lib.hid ha; have HST := Lib.hid hstop; clear ha hstop
        cases hh : figB frows
        all_goals
          go_wp2_with (go_at_call 98; refine (goodFigure_any fA fn fcap frows _ (Nat.le_trans hok.1 hok.2.1) hok.2.2.1 (by exact (hok.2.2.2.alloc hB.size _).more (by simp; have := hB.size; omega))).mono ?_; rintro e w1 ⟨rfl, hb1⟩; rw [hh])
        · go_ret
          exact ⟨ret_bool (by rw [HF.out, HST.out hh]; simp), (hB.alloc hB.size _).trans (hb1.mono (by have := hB.size; simp; omega))⟩
        · go_roundg (n - (k + 1))
          case measure => rw [HG.out]; omega
          case rel => exact ⟨k + 1, rfl, by omega, by go_num, by rw [HA.out, HALL.out]; exact hh, (hB.alloc hB.size _).trans (hb1.mono (by have := hB.size; simp; omega))⟩
      · obtain rfl : k = n := by omega
        have hta : fs.take k = fs := List.take_of_length_le (by omega)
        rw [hta] at HALL
        go_wp2
        go_ret
        exact ⟨ret_bool (by rw [HF.out, HALL.out]; simp [h1]), hB⟩
theorem goodSpan_any (l h : Int) (w : World) (l1 : -1000 ≤ l) (l2 : l ≤ 1000) (h1 : -1000 ≤ h) (h2 : h ≤ 1000) :
    Calls Tryz.prog 158 #[.agg #[.int .i64 l, .int .i64 h]] w fun e w' => e = .returned (.bool (inB (h - l + 1) 1 6)) ∧ Below w.heap.size w w' := by
  have hw1 := i64_ok (h - l) (by omega)
  have hw2 := i64_ok (h - l + 1) (by omega)
  go_enter Tryz.func158, Tryz.ntmps158
  go_wp2_with (go_at_call 130; refine (within_any _ _ _ _).mono ?_; rintro e w' ⟨rfl, rfl⟩)
  go_ret
  exact ⟨rfl, (Below.refl _ _).alloc (Nat.le_refl _) _⟩
def reachB (F nl nh xl xh y : Int) : Bool := inB nl 0 (F - 1) && (inB nh 0 (F - 1) && (inB (nh - nl + 1) 1 6 && (inB xl (-20) 20 && (inB xh (-20) 20 && (inB (xh - xl + 1) 1 6 && inB y (-20) 20)))))
set_option maxRecDepth 100000 in
set_option maxHeartbeats 8000000 in
theorem goodReach_any (W H F L X Y nl nh xl xh y : Int) (A : Option Addr) (n cap : Nat) (fs : List Fig) (w : World) (hn : n ≤ maxLen) (hf : ∀ f ∈ fs, f.ok w w.heap.size) (hr : Rd w w.heap.size 1 A n (fs.map Fig.val)) :
    Calls Tryz.prog 112 #[.agg #[.int .i64 W, .int .i64 H, .int .i64 F, .int .i64 L, .int .i64 X, .int .i64 Y], .slice A n cap, .agg #[.int .i64 nl, .int .i64 nh, .int .i64 xl, .int .i64 xh, .int .i64 y]] w fun e w' => e = .returned (.bool (stageB W H F L X Y && (compB fs && reachB F nl nh xl xh y))) ∧ Below w.heap.size w w' := by
  obtain ⟨res, hres⟩ : ∃ res, res = (stageB W H F L X Y && (compB fs && reachB F nl nh xl xh y)) := ⟨_, rfl⟩
  have HR := Lib.hid hres
  rw [← hres]
  cases h1 : stageB W H F L X Y
  · rw [h1] at hres; simp at hres; subst hres
    go_enter Tryz.func112, Tryz.ntmps112
    go_wp2_with (first
      | (go_at_call 97; refine (goodStage_any _ _ _ _ _ _ _).mono ?_; rintro e w1 ⟨rfl, hb1⟩; rw [h1]; have hB1 : Below w.heap.size w w1 := (((Below.refl _ w).alloc (Nat.le_refl _) _).alloc (by simp) _).trans (hb1.mono (by simp only [World.size_alloc]; omega)); have hbs := ((Blk.new w 23 #[.int .i64 W, .int .i64 H, .int .i64 F, .int .i64 L, .int .i64 X, .int .i64 Y]).alloc (.cells #[.int .i64 nl, .int .i64 nh, .int .i64 xl, .int .i64 xh, .int .i64 y] 71)).below hb1 (by simp only [World.size_alloc]; omega); have hbr := (Blk.new (w.alloc (.cells #[.int .i64 W, .int .i64 H, .int .i64 F, .int .i64 L, .int .i64 X, .int .i64 Y] 23)) 71 #[.int .i64 nl, .int .i64 nh, .int .i64 xl, .int .i64 xh, .int .i64 y]).below hb1 (by simp only [World.size_alloc]; omega); rw [World.size_alloc] at hbr; have hcs := fun i => hbs.cell i; have hcr := fun i => hbr.cell i)
      | (go_at_call 157; refine (goodCompany_any A n cap fs _ hn (fun f hf' => ((hf f hf').below hB1).more hB1.size) ((hr.below hB1).more hB1.size)).mono ?_; rintro e w2 ⟨rfl, hb2⟩; rw [h2]; have hB2 := hB1.trans (hb2.mono hB1.size); have hbs2 := hbs.below hb2 hbs.lt; have hbr2 := hbr.below hb2 hbr.lt; have hcs2 := fun i => hbs2.cell i; have hcr2 := fun i => hbr2.cell i)
      | (go_at_call 130; refine (within_any _ _ _ _).mono ?_; rintro e w' ⟨rfl, rfl⟩)
      | (go_at_call 150; refine (goodAway_any _ _).mono ?_; rintro e w' ⟨rfl, rfl⟩))
    go_ret
    exact ⟨rfl, hB1⟩
  · have hF : 2 ≤ F ∧ F ≤ 40 := by simp [stageB, inB] at h1; omega
    obtain ⟨hF1, hF2⟩ := hF
    have hFw := i64_ok (F - 1) (by omega)
    cases h2 : compB fs
    · rw [h1, h2] at hres; simp at hres; subst hres
      go_enter Tryz.func112, Tryz.ntmps112
      go_wp2_with (first
        | (go_at_call 97; refine (goodStage_any _ _ _ _ _ _ _).mono ?_; rintro e w1 ⟨rfl, hb1⟩; rw [h1]; have hB1 : Below w.heap.size w w1 := (((Below.refl _ w).alloc (Nat.le_refl _) _).alloc (by simp) _).trans (hb1.mono (by simp only [World.size_alloc]; omega)); have hbs := ((Blk.new w 23 #[.int .i64 W, .int .i64 H, .int .i64 F, .int .i64 L, .int .i64 X, .int .i64 Y]).alloc (.cells #[.int .i64 nl, .int .i64 nh, .int .i64 xl, .int .i64 xh, .int .i64 y] 71)).below hb1 (by simp only [World.size_alloc]; omega); have hbr := (Blk.new (w.alloc (.cells #[.int .i64 W, .int .i64 H, .int .i64 F, .int .i64 L, .int .i64 X, .int .i64 Y] 23)) 71 #[.int .i64 nl, .int .i64 nh, .int .i64 xl, .int .i64 xh, .int .i64 y]).below hb1 (by simp only [World.size_alloc]; omega); rw [World.size_alloc] at hbr; have hcs := fun i => hbs.cell i; have hcr := fun i => hbr.cell i)
        | (go_at_call 157; refine (goodCompany_any A n cap fs _ hn (fun f hf' => ((hf f hf').below hB1).more hB1.size) ((hr.below hB1).more hB1.size)).mono ?_; rintro e w2 ⟨rfl, hb2⟩; rw [h2]; have hB2 := hB1.trans (hb2.mono hB1.size); have hbs2 := hbs.below hb2 hbs.lt; have hbr2 := hbr.below hb2 hbr.lt; have hcs2 := fun i => hbs2.cell i; have hcr2 := fun i => hbr2.cell i)
        | (go_at_call 130; refine (within_any _ _ _ _).mono ?_; rintro e w' ⟨rfl, rfl⟩)
        | (go_at_call 150; refine (goodAway_any _ _).mono ?_; rintro e w' ⟨rfl, rfl⟩))
      go_ret
      exact ⟨rfl, hB2⟩
    · rw [h1, h2] at hres; simp only [Bool.true_and, reachB] at hres
      cases h3 : inB nl 0 (F - 1)
      · rw [h3] at hres; simp at hres; subst hres
        go_enter Tryz.func112, Tryz.ntmps112
        go_wp2_with (first
          | (go_at_call 97; refine (goodStage_any _ _ _ _ _ _ _).mono ?_; rintro e w1 ⟨rfl, hb1⟩; rw [h1]; have hB1 : Below w.heap.size w w1 := (((Below.refl _ w).alloc (Nat.le_refl _) _).alloc (by simp) _).trans (hb1.mono (by simp only [World.size_alloc]; omega)); have hbs := ((Blk.new w 23 #[.int .i64 W, .int .i64 H, .int .i64 F, .int .i64 L, .int .i64 X, .int .i64 Y]).alloc (.cells #[.int .i64 nl, .int .i64 nh, .int .i64 xl, .int .i64 xh, .int .i64 y] 71)).below hb1 (by simp only [World.size_alloc]; omega); have hbr := (Blk.new (w.alloc (.cells #[.int .i64 W, .int .i64 H, .int .i64 F, .int .i64 L, .int .i64 X, .int .i64 Y] 23)) 71 #[.int .i64 nl, .int .i64 nh, .int .i64 xl, .int .i64 xh, .int .i64 y]).below hb1 (by simp only [World.size_alloc]; omega); rw [World.size_alloc] at hbr; have hcs := fun i => hbs.cell i; have hcr := fun i => hbr.cell i)
          | (go_at_call 157; refine (goodCompany_any A n cap fs _ hn (fun f hf' => ((hf f hf').below hB1).more hB1.size) ((hr.below hB1).more hB1.size)).mono ?_; rintro e w2 ⟨rfl, hb2⟩; rw [h2]; have hB2 := hB1.trans (hb2.mono hB1.size); have hbs2 := hbs.below hb2 hbs.lt; have hbr2 := hbr.below hb2 hbr.lt; have hcs2 := fun i => hbs2.cell i; have hcr2 := fun i => hbr2.cell i)
          | (go_at_call 130; refine (within_any _ _ _ _).mono ?_; rintro e w' ⟨rfl, rfl⟩)
          | (go_at_call 150; refine (goodAway_any _ _).mono ?_; rintro e w' ⟨rfl, rfl⟩))
        go_ret
        exact ⟨rfl, hB2⟩
      · cases h4 : inB nh 0 (F - 1)
        · rw [h3, h4] at hres; simp at hres; subst hres
          go_enter Tryz.func112, Tryz.ntmps112
          go_wp2_with (first
            | (go_at_call 97; refine (goodStage_any _ _ _ _ _ _ _).mono ?_; rintro e w1 ⟨rfl, hb1⟩; rw [h1]; have hB1 : Below w.heap.size w w1 := (((Below.refl _ w).alloc (Nat.le_refl _) _).alloc (by simp) _).trans (hb1.mono (by simp only [World.size_alloc]; omega)); have hbs := ((Blk.new w 23 #[.int .i64 W, .int .i64 H, .int .i64 F, .int .i64 L, .int .i64 X, .int .i64 Y]).alloc (.cells #[.int .i64 nl, .int .i64 nh, .int .i64 xl, .int .i64 xh, .int .i64 y] 71)).below hb1 (by simp only [World.size_alloc]; omega); have hbr := (Blk.new (w.alloc (.cells #[.int .i64 W, .int .i64 H, .int .i64 F, .int .i64 L, .int .i64 X, .int .i64 Y] 23)) 71 #[.int .i64 nl, .int .i64 nh, .int .i64 xl, .int .i64 xh, .int .i64 y]).below hb1 (by simp only [World.size_alloc]; omega); rw [World.size_alloc] at hbr; have hcs := fun i => hbs.cell i; have hcr := fun i => hbr.cell i)
            | (go_at_call 157; refine (goodCompany_any A n cap fs _ hn (fun f hf' => ((hf f hf').below hB1).more hB1.size) ((hr.below hB1).more hB1.size)).mono ?_; rintro e w2 ⟨rfl, hb2⟩; rw [h2]; have hB2 := hB1.trans (hb2.mono hB1.size); have hbs2 := hbs.below hb2 hbs.lt; have hbr2 := hbr.below hb2 hbr.lt; have hcs2 := fun i => hbs2.cell i; have hcr2 := fun i => hbr2.cell i)
            | (go_at_call 130; refine (within_any _ _ _ _).mono ?_; rintro e w' ⟨rfl, rfl⟩)
            | (go_at_call 150; refine (goodAway_any _ _).mono ?_; rintro e w' ⟨rfl, rfl⟩))
          go_ret
          exact ⟨rfl, hB2⟩
        · have hnn : (-1000 ≤ nl ∧ nl ≤ 1000) ∧ (-1000 ≤ nh ∧ nh ≤ 1000) := by simp [inB] at h3 h4; omega
          obtain ⟨⟨n1, n2⟩, n3, n4⟩ := hnn
          cases h5 : inB (nh - nl + 1) 1 6
          · rw [h3, h4, h5] at hres; simp at hres; subst hres
            go_enter Tryz.func112, Tryz.ntmps112
            go_wp2_with (first
              | (go_at_call 97; refine (goodStage_any _ _ _ _ _ _ _).mono ?_; rintro e w1 ⟨rfl, hb1⟩; rw [h1]; have hB1 : Below w.heap.size w w1 := (((Below.refl _ w).alloc (Nat.le_refl _) _).alloc (by simp) _).trans (hb1.mono (by simp only [World.size_alloc]; omega)); have hbs := ((Blk.new w 23 #[.int .i64 W, .int .i64 H, .int .i64 F, .int .i64 L, .int .i64 X, .int .i64 Y]).alloc (.cells #[.int .i64 nl, .int .i64 nh, .int .i64 xl, .int .i64 xh, .int .i64 y] 71)).below hb1 (by simp only [World.size_alloc]; omega); have hbr := (Blk.new (w.alloc (.cells #[.int .i64 W, .int .i64 H, .int .i64 F, .int .i64 L, .int .i64 X, .int .i64 Y] 23)) 71 #[.int .i64 nl, .int .i64 nh, .int .i64 xl, .int .i64 xh, .int .i64 y]).below hb1 (by simp only [World.size_alloc]; omega); rw [World.size_alloc] at hbr; have hcs := fun i => hbs.cell i; have hcr := fun i => hbr.cell i)
              | (go_at_call 157; refine (goodCompany_any A n cap fs _ hn (fun f hf' => ((hf f hf').below hB1).more hB1.size) ((hr.below hB1).more hB1.size)).mono ?_; rintro e w2 ⟨rfl, hb2⟩; rw [h2]; have hB2 := hB1.trans (hb2.mono hB1.size); have hbs2 := hbs.below hb2 hbs.lt; have hbr2 := hbr.below hb2 hbr.lt; have hcs2 := fun i => hbs2.cell i; have hcr2 := fun i => hbr2.cell i)
              | (go_at_call 130; refine (within_any _ _ _ _).mono ?_; rintro e w' ⟨rfl, rfl⟩)
              | (go_at_call 150; refine (goodAway_any _ _).mono ?_; rintro e w' ⟨rfl, rfl⟩)
              | (go_at_call 158; refine (goodSpan_any nl nh _ n1 n2 n3 n4).mono ?_; rintro e w3 ⟨rfl, hb3⟩; have hB3 := hB2.trans (hb3.mono hB2.size); have hbs3 := hbs2.below hb3 hbs2.lt; have hbr3 := hbr2.below hb3 hbr2.lt; have hcs3 := fun i => hbs3.cell i; have hcr3 := fun i => hbr3.cell i))
            go_ret
            exact ⟨rfl, hB3⟩
          · cases h6 : inB xl (-20) 20
            · rw [h3, h4, h5, h6] at hres; simp at hres; subst hres
              go_enter Tryz.func112, Tryz.ntmps112
              go_wp2_with (first
                | (go_at_call 97; refine (goodStage_any _ _ _ _ _ _ _).mono ?_; rintro e w1 ⟨rfl, hb1⟩; rw [h1]; have hB1 : Below w.heap.size w w1 := (((Below.refl _ w).alloc (Nat.le_refl _) _).alloc (by simp) _).trans (hb1.mono (by simp only [World.size_alloc]; omega)); have hbs := ((Blk.new w 23 #[.int .i64 W, .int .i64 H, .int .i64 F, .int .i64 L, .int .i64 X, .int .i64 Y]).alloc (.cells #[.int .i64 nl, .int .i64 nh, .int .i64 xl, .int .i64 xh, .int .i64 y] 71)).below hb1 (by simp only [World.size_alloc]; omega); have hbr := (Blk.new (w.alloc (.cells #[.int .i64 W, .int .i64 H, .int .i64 F, .int .i64 L, .int .i64 X, .int .i64 Y] 23)) 71 #[.int .i64 nl, .int .i64 nh, .int .i64 xl, .int .i64 xh, .int .i64 y]).below hb1 (by simp only [World.size_alloc]; omega); rw [World.size_alloc] at hbr; have hcs := fun i => hbs.cell i; have hcr := fun i => hbr.cell i)
                | (go_at_call 157; refine (goodCompany_any A n cap fs _ hn (fun f hf' => ((hf f hf').below hB1).more hB1.size) ((hr.below hB1).more hB1.size)).mono ?_; rintro e w2 ⟨rfl, hb2⟩; rw [h2]; have hB2 := hB1.trans (hb2.mono hB1.size); have hbs2 := hbs.below hb2 hbs.lt; have hbr2 := hbr.below hb2 hbr.lt; have hcs2 := fun i => hbs2.cell i; have hcr2 := fun i => hbr2.cell i)
                | (go_at_call 130; refine (within_any _ _ _ _).mono ?_; rintro e w' ⟨rfl, rfl⟩)
                | (go_at_call 150; refine (goodAway_any _ _).mono ?_; rintro e w' ⟨rfl, rfl⟩)
                | (go_at_call 158; refine (goodSpan_any nl nh _ n1 n2 n3 n4).mono ?_; rintro e w3 ⟨rfl, hb3⟩; have hB3 := hB2.trans (hb3.mono hB2.size); have hbs3 := hbs2.below hb3 hbs2.lt; have hbr3 := hbr2.below hb3 hbr2.lt; have hcs3 := fun i => hbs3.cell i; have hcr3 := fun i => hbr3.cell i))
              go_ret
              exact ⟨rfl, hB3⟩
            · cases h7 : inB xh (-20) 20
              · rw [h3, h4, h5, h6, h7] at hres; simp at hres; subst hres
                go_enter Tryz.func112, Tryz.ntmps112
                go_wp2_with (first
                  | (go_at_call 97; refine (goodStage_any _ _ _ _ _ _ _).mono ?_; rintro e w1 ⟨rfl, hb1⟩; rw [h1]; have hB1 : Below w.heap.size w w1 := (((Below.refl _ w).alloc (Nat.le_refl _) _).alloc (by simp) _).trans (hb1.mono (by simp only [World.size_alloc]; omega)); have hbs := ((Blk.new w 23 #[.int .i64 W, .int .i64 H, .int .i64 F, .int .i64 L, .int .i64 X, .int .i64 Y]).alloc (.cells #[.int .i64 nl, .int .i64 nh, .int .i64 xl, .int .i64 xh, .int .i64 y] 71)).below hb1 (by simp only [World.size_alloc]; omega); have hbr := (Blk.new (w.alloc (.cells #[.int .i64 W, .int .i64 H, .int .i64 F, .int .i64 L, .int .i64 X, .int .i64 Y] 23)) 71 #[.int .i64 nl, .int .i64 nh, .int .i64 xl, .int .i64 xh, .int .i64 y]).below hb1 (by simp only [World.size_alloc]; omega); rw [World.size_alloc] at hbr; have hcs := fun i => hbs.cell i; have hcr := fun i => hbr.cell i)
                  | (go_at_call 157; refine (goodCompany_any A n cap fs _ hn (fun f hf' => ((hf f hf').below hB1).more hB1.size) ((hr.below hB1).more hB1.size)).mono ?_; rintro e w2 ⟨rfl, hb2⟩; rw [h2]; have hB2 := hB1.trans (hb2.mono hB1.size); have hbs2 := hbs.below hb2 hbs.lt; have hbr2 := hbr.below hb2 hbr.lt; have hcs2 := fun i => hbs2.cell i; have hcr2 := fun i => hbr2.cell i)
                  | (go_at_call 130; refine (within_any _ _ _ _).mono ?_; rintro e w' ⟨rfl, rfl⟩)
                  | (go_at_call 150; refine (goodAway_any _ _).mono ?_; rintro e w' ⟨rfl, rfl⟩)
                  | (go_at_call 158; refine (goodSpan_any nl nh _ n1 n2 n3 n4).mono ?_; rintro e w3 ⟨rfl, hb3⟩; have hB3 := hB2.trans (hb3.mono hB2.size); have hbs3 := hbs2.below hb3 hbs2.lt; have hbr3 := hbr2.below hb3 hbr2.lt; have hcs3 := fun i => hbs3.cell i; have hcr3 := fun i => hbr3.cell i))
                go_ret
                exact ⟨rfl, hB3⟩
              · have hxx : (-1000 ≤ xl ∧ xl ≤ 1000) ∧ (-1000 ≤ xh ∧ xh ≤ 1000) := by simp [inB] at h6 h7; omega
                obtain ⟨⟨x1, x2⟩, x3, x4⟩ := hxx
                rw [h3, h4, h5, h6, h7] at hres; simp only [Bool.true_and] at hres
                cases h8 : inB (xh - xl + 1) 1 6
                · rw [h8] at hres; simp at hres; subst hres
                  go_enter Tryz.func112, Tryz.ntmps112
                  go_wp2_with (first
                    | (go_at_call 97; refine (goodStage_any _ _ _ _ _ _ _).mono ?_; rintro e w1 ⟨rfl, hb1⟩; rw [h1]; have hB1 : Below w.heap.size w w1 := (((Below.refl _ w).alloc (Nat.le_refl _) _).alloc (by simp) _).trans (hb1.mono (by simp only [World.size_alloc]; omega)); have hbs := ((Blk.new w 23 #[.int .i64 W, .int .i64 H, .int .i64 F, .int .i64 L, .int .i64 X, .int .i64 Y]).alloc (.cells #[.int .i64 nl, .int .i64 nh, .int .i64 xl, .int .i64 xh, .int .i64 y] 71)).below hb1 (by simp only [World.size_alloc]; omega); have hbr := (Blk.new (w.alloc (.cells #[.int .i64 W, .int .i64 H, .int .i64 F, .int .i64 L, .int .i64 X, .int .i64 Y] 23)) 71 #[.int .i64 nl, .int .i64 nh, .int .i64 xl, .int .i64 xh, .int .i64 y]).below hb1 (by simp only [World.size_alloc]; omega); rw [World.size_alloc] at hbr; have hcs := fun i => hbs.cell i; have hcr := fun i => hbr.cell i)
                    | (go_at_call 157; refine (goodCompany_any A n cap fs _ hn (fun f hf' => ((hf f hf').below hB1).more hB1.size) ((hr.below hB1).more hB1.size)).mono ?_; rintro e w2 ⟨rfl, hb2⟩; rw [h2]; have hB2 := hB1.trans (hb2.mono hB1.size); have hbs2 := hbs.below hb2 hbs.lt; have hbr2 := hbr.below hb2 hbr.lt; have hcs2 := fun i => hbs2.cell i; have hcr2 := fun i => hbr2.cell i)
                    | (go_at_call 130; refine (within_any _ _ _ _).mono ?_; rintro e w' ⟨rfl, rfl⟩)
                    | (go_at_call 150; refine (goodAway_any _ _).mono ?_; rintro e w' ⟨rfl, rfl⟩)
                    | (go_at_call 158; refine (goodSpan_any nl nh _ n1 n2 n3 n4).mono ?_; rintro e w3 ⟨rfl, hb3⟩; have hB3 := hB2.trans (hb3.mono hB2.size); have hbs3 := hbs2.below hb3 hbs2.lt; have hbr3 := hbr2.below hb3 hbr2.lt; have hcs3 := fun i => hbs3.cell i; have hcr3 := fun i => hbr3.cell i)
                    | (go_at_call 158; refine (goodSpan_any xl xh _ x1 x2 x3 x4).mono ?_; rintro e w4 ⟨rfl, hb4⟩; have hB4 := hB3.trans (hb4.mono hB3.size); have hbs4 := hbs3.below hb4 hbs3.lt; have hbr4 := hbr3.below hb4 hbr3.lt; have hcs4 := fun i => hbs4.cell i; have hcr4 := fun i => hbr4.cell i))
                  go_ret
                  exact ⟨rfl, hB4⟩
                · rw [h8] at hres; simp only [Bool.true_and] at hres; subst hres
                  go_enter Tryz.func112, Tryz.ntmps112
                  go_wp2_with (first
                    | (go_at_call 97; refine (goodStage_any _ _ _ _ _ _ _).mono ?_; rintro e w1 ⟨rfl, hb1⟩; rw [h1]; have hB1 : Below w.heap.size w w1 := (((Below.refl _ w).alloc (Nat.le_refl _) _).alloc (by simp) _).trans (hb1.mono (by simp only [World.size_alloc]; omega)); have hbs := ((Blk.new w 23 #[.int .i64 W, .int .i64 H, .int .i64 F, .int .i64 L, .int .i64 X, .int .i64 Y]).alloc (.cells #[.int .i64 nl, .int .i64 nh, .int .i64 xl, .int .i64 xh, .int .i64 y] 71)).below hb1 (by simp only [World.size_alloc]; omega); have hbr := (Blk.new (w.alloc (.cells #[.int .i64 W, .int .i64 H, .int .i64 F, .int .i64 L, .int .i64 X, .int .i64 Y] 23)) 71 #[.int .i64 nl, .int .i64 nh, .int .i64 xl, .int .i64 xh, .int .i64 y]).below hb1 (by simp only [World.size_alloc]; omega); rw [World.size_alloc] at hbr; have hcs := fun i => hbs.cell i; have hcr := fun i => hbr.cell i)
                    | (go_at_call 157; refine (goodCompany_any A n cap fs _ hn (fun f hf' => ((hf f hf').below hB1).more hB1.size) ((hr.below hB1).more hB1.size)).mono ?_; rintro e w2 ⟨rfl, hb2⟩; rw [h2]; have hB2 := hB1.trans (hb2.mono hB1.size); have hbs2 := hbs.below hb2 hbs.lt; have hbr2 := hbr.below hb2 hbr.lt; have hcs2 := fun i => hbs2.cell i; have hcr2 := fun i => hbr2.cell i)
                    | (go_at_call 130; refine (within_any _ _ _ _).mono ?_; rintro e w' ⟨rfl, rfl⟩)
                    | (go_at_call 150; refine (goodAway_any _ _).mono ?_; rintro e w' ⟨rfl, rfl⟩)
                    | (go_at_call 158; refine (goodSpan_any nl nh _ n1 n2 n3 n4).mono ?_; rintro e w3 ⟨rfl, hb3⟩; have hB3 := hB2.trans (hb3.mono hB2.size); have hbs3 := hbs2.below hb3 hbs2.lt; have hbr3 := hbr2.below hb3 hbr2.lt; have hcs3 := fun i => hbs3.cell i; have hcr3 := fun i => hbr3.cell i)
                    | (go_at_call 158; refine (goodSpan_any xl xh _ x1 x2 x3 x4).mono ?_; rintro e w4 ⟨rfl, hb4⟩; have hB4 := hB3.trans (hb4.mono hB3.size); have hbs4 := hbs3.below hb4 hbs3.lt; have hbr4 := hbr3.below hb4 hbr3.lt; have hcs4 := fun i => hbs4.cell i; have hcr4 := fun i => hbr4.cell i))
                  go_ret
                  exact ⟨rfl, hB4⟩
end
end Go.Proofs.YtifddfchpknkbaaGreatDoor
