import Derived.Test.YtekmnelpkogppaaGreatDoorProg
import Derived.Test.YtekmnelpkogppaaGreatDoorShelf
import Derived.Test.YtekmnelpkogppaaGreatDoorKv0
import Derived.Test.YtekmnelpkogppaaGreatDoorKv1
import Derived.Test.YtekmnelpkogppaaGreatDoorKv2
import Derived.Test.YtekmnelpkogppaaGreatDoorKv3
import Derived.Test.YtekmnelpkogppaaGreatDoorKv4
import Derived.Test.YtekmnelpkogppaaGreatDoorKv5
import Derived.Test.YtekmnelpkogppaaGreatDoorKv6
import Derived.Test.YtekmnelpkogppaaGreatDoorKv7
import Derived.Test.YtekmnelpkogppaaGreatDoorKv8
import Derived.Test.YtekmnelpkogppaaGreatDoorKv9
import Derived.Test.YtekmnelpkogppaaGreatDoorKv10
import Derived.Test.YtekmnelpkogppaaGreatDoorKv11
import Derived.Lib.Hide
import Derived.DeepKeys4
import Derived.Maps.OwnSet
import Derived.WalkKit
import Derived.WalkSpells
import Derived.WalkLawsBesides
import Derived.BigQuiet
import Derived.Deep.QuietTactic
import Derived.Deep.DeepFit
import Derived.Deep.DeepMust
import Derived.Maps.AppendAt
import Derived.Deep.AppendLies
import Derived.RegionTactic
import Derived.OwnWalk
import Derived.Laws.EntriesVeiled
import Derived.OrdersHeld
import Derived.Deep.LoopGhost
import Derived.Deep.DeepCutAuto
import Derived.Deep.CutBlock
import Derived.Deep.RegionHeld3
import Derived.OneCell
import Derived.Laws.BytesArg
import Derived.Laws.RangeAny
import Derived.Laws.Runes
import Derived.LoopTactic
import Derived.WalkMore
import Derived.Maps.OwnOps
import Derived.Laws.MakeOwn
import Derived.RangeFuncNested
import Derived.RangeFuncBound
import Derived.RangeFuncCalls
import Derived.RangeFuncLeaves
import Derived.Shelf.Abstract
import Derived.OwnWalkIn
import Derived.TacticsInMore
import Derived.LoopNIn
import Derived.LoopIn
import Derived.Sort.LoopGhostIn
import Derived.Recover
import Derived.Laws.OwnMore
import Derived.Lib.OwnBridge
import Derived.Sort.Walk7a
import Derived.Lib.ItoaNum
import Derived.Laws.Bits64b
import Derived.Laws.IdiomStrings
import Derived.ProofKit
import Derived.Carry
import Derived.HandedShaped
import Derived.Deep.Strs
import Derived.Deep.Fields
import Derived.OpenShut
import Derived.Deep.Slices
import Derived.Lib.LaidTab
import Derived.Lib.SplitLaws
import Derived.MakeChecks
import Derived.Lib.ConvBytes
import Derived.Lib.Repeat
import Derived.Lib.Join
import Derived.Lib.SlicesS
import Derived.Shelf.SlicesE.Kit
import Derived.Defers
import Derived.Lib.AppendZerosOnto
import Derived.Lib.SliceRun
set_option linter.unusedVariables false
set_option linter.unusedSimpArgs false
set_option maxRecDepth 100000
set_option maxHeartbeats 40000000
namespace Go.Proofs.YtekmnelpkogppaaGreatDoor
section
section
variable {α : Type} [DecidableEq α]
end
theorem scr_symm {α : Type} {a b : List α} {n : Nat} (h : Scr a b n) : Scr b a n := by
  induction h with
  | nil => exact .nil
  | keep x _ ih => exact .keep x ih
  | change x y _ ih => exact .change y x ih
  | add y _ ih => exact .drop y ih
  | drop x _ ih => exact .add x ih
theorem scr_zero {α : Type} {a b : List α} {n : Nat} (h : Scr a b n) (hn : n = 0) : a = b := by
  induction h with
  | nil => rfl
  | keep x _ ih => rw [ih hn]
  | change => omega
  | add => omega
  | drop => omega
section
variable {α : Type} [DecidableEq α]
theorem ed_tri (a b c : List α) : ed a c ≤ ed a b + ed b c := by
  obtain ⟨l, hl, hs⟩ := scr_comp _ (Nat.lt_succ_self _) (ed_scr a b) (ed_scr b c)
  exact Nat.le_trans (scr_ed _ _ hs) hl
theorem ed_comm (a b : List α) : ed a b = ed b a := Nat.le_antisymm (scr_ed _ _ (scr_symm (ed_scr b a))) (scr_ed _ _ (scr_symm (ed_scr a b)))
theorem ed_len (a b : List α) : a.length ≤ b.length + ed a b ∧ b.length ≤ a.length + ed a b := scr_len (ed_scr a b)
theorem ed_zero {a b : List α} (h : ed a b = 0) : a = b := scr_zero (ed_scr a b) h
theorem ed_self (a : List α) : ed a a = 0 := Nat.le_zero.1 (scr_ed _ _ (scr_refl a))
end
end
section
open Go.RowKit Go.Lib
theorem IA.len {w : World} {A : Option Addr} {n cap : Nat} {l : List Int} (h : IA w A n cap l) : l.length = n := by simpa using h.2.2.len
section
variable {W : Int} {A : Option Addr} {n cap : Nat} {cs : List VC} {w : World} {A1 A2 : Option Addr} {n1 n2 c1 c2 : Nat} {l1 l2 : List Int}
def RightB (W : Int) (cs : List VC) (e : Ending) : Prop := ∃ b : Bool, e = .returned (.bool b) ∧ (b = true → bookB W cs = true)
theorem right_any (h : BkI w A n cap cs) : Calls Tryz.prog 30 #[.agg #[.int .i64 W, .slice A n cap]] w fun e w' => RightB W cs e ∧ Below w.heap.size w w' := by
  have hX := Blk.new w 24 #[.int .i64 W, .slice A n cap]
  have hB : Below w.heap.size w (w.alloc (.cells #[.int .i64 W, .slice A n cap] 24)) := (Below.refl _ w).alloc (Nat.le_refl _) _
  have qX := fun i => hX.cell i
  go_enter Tryz.func30, Tryz.ntmps30
  go_wp2_with fail
  refine (short_any W A n cap cs _ (h.toW hB)).mono ?_; rintro e wc ⟨⟨b, rfl⟩, hb⟩
  replace hB := hB.trans (hb.mono hB.size); replace hX := hX.below hb hX.lt; clear hb qX; have qX := fun i => hX.cell i
  cases b with
  | false =>
    go_wp2_with fail
    go_ret
    exact ⟨⟨false, rfl, fun h => by cases h⟩, hB⟩
  | true =>
    have hbk := refBook_any W A n cap cs
    obtain ⟨R, hR⟩ : ∃ R, R = bookB W cs := ⟨_, rfl⟩
    rw [← hR] at hbk
    have HR := Lib.hid hR; clear hR
    go_wp2_with fail
    refine (hbk _ (h.toW hB)).mono ?_; rintro e wc ⟨rfl, hb⟩
    replace hB := hB.trans (hb.mono hB.size); clear hb qX
    go_wp2_with fail
    go_ret
    exact ⟨⟨R, rfl, fun h => by rw [← HR.out]; exact h⟩, hB⟩
end
end
section
open Go.RowKit Go.Lib
theorem lnB_len {W : Int} {l : List Int} (h : lnB W l = true) : l.length ≤ 4 := by
  unfold lnB at h
  simp only [Bool.and_eq_true, decide_eq_true_eq] at h
  exact h.1
end
section
open Go.RowKit Go.Lib
section
variable {w : World} {A1 A2 : Option Addr} {n1 n2 c1 c2 : Nat} {l1 l2 : List Int}
theorem Same_I (h1 : IA w A1 n1 c1 l1) (h2 : IA w A2 n2 c2 l2) (k1 : n1 ≤ 6) (k2 : n2 ≤ 6) : Calls Tryz.prog 31 #[.slice A1 n1 c1, .slice A2 n2 c2] w fun e w' => e = .returned (.bool (decide (l1 = l2))) ∧ Below w.heap.size w w' :=
  same_any A1 n1 c1 l1 A2 n2 c2 l2 w (by omega) (by omega) h1.2.2 h2.2.2
end
theorem far_eq (l1 l2 : List Int) : ((((ed l1 l2 : Nat) : Int) == 0) == decide (l1 = l2)) = true := by
  by_cases h : l1 = l2
  · subst h; rw [ed_self]; simp
  · have : ed l1 l2 ≠ 0 := fun e => h (ed_zero e)
    have h0 : (((ed l1 l2 : Nat) : Int) == 0) = false := by simp; omega
    rw [h0]; simp [h]
theorem far_law (W : Int) (A : Option Addr) (n cap : Nat) (cs : List VC) (A1 : Option Addr) (n1 c1 : Nat) (l1 : List Int) (A2 : Option Addr) (n2 c2 : Nat) (l2 : List Int) (A3 : Option Addr) (n3 c3 : Nat) (l3 : List Int) (m : Int) (w : World) (hE : Env m w) (h : BkI w A n cap cs) (h1 : IA w A1 n1 c1 l1) (h2 : IA w A2 n2 c2 l2) (h3 : IA w A3 n3 c3 l3) :
    Calls Tryz.prog 4 #[.agg #[.int .i64 W, .slice A n cap], .slice A1 n1 c1, .slice A2 n2 c2, .slice A3 n3 c3] w fun e w' => e = .returned (.bool true) ∧ Below w.heap.size w w' := by
  have hX := Blk.new w 24 #[.int .i64 W, .slice A n cap]
  have hB : Below w.heap.size w (w.alloc (.cells #[.int .i64 W, .slice A n cap] 24)) := (Below.refl _ w).alloc (Nat.le_refl _) _
  have qX := fun i => hX.cell i
  go_enter Tryz.func4, Tryz.ntmps4
  go_wp2_with fail
  refine (right_any (h.toW hB)).mono ?_; rintro e wc ⟨⟨b, rfl, hrb⟩, hb⟩
  replace hB := hB.trans (hb.mono hB.size); replace hX := hX.below hb hX.lt; clear hb qX; have qX := fun i => hX.cell i
  cases b with
  | false =>
    clear h1 h2 h3
    go_wp2_with fail
    refine (known_true m _ (hE.below hB)).mono ?_; rintro e wc ⟨rfl, hb⟩
    replace hB := hB.trans (hb.mono hB.size); clear hb
    go_wp2_with fail
    go_ret
    exact ⟨rfl, hB⟩
  | true =>
    have hbk := hrb rfl; clear hrb
    by_cases hn1 : (6 : Int) < (n1 : Int)
    · clear h1 h2 h3
      go_wp2_with fail
      refine (known_true m _ (hE.below hB)).mono ?_; rintro e wc ⟨rfl, hb⟩
      replace hB := hB.trans (hb.mono hB.size); clear hb
      go_wp2_with fail
      go_ret
      exact ⟨rfl, hB⟩
    · by_cases hn2 : (6 : Int) < (n2 : Int)
      · clear h1 h2 h3
        go_wp2_with fail
        refine (known_true m _ (hE.below hB)).mono ?_; rintro e wc ⟨rfl, hb⟩
        replace hB := hB.trans (hb.mono hB.size); clear hb
        go_wp2_with fail
        go_ret
        exact ⟨rfl, hB⟩
      · by_cases hn3 : (6 : Int) < (n3 : Int)
        · clear h1 h2 h3
          go_wp2_with fail
          refine (known_true m _ (hE.below hB)).mono ?_; rintro e wc ⟨rfl, hb⟩
          replace hB := hB.trans (hb.mono hB.size); clear hb
          go_wp2_with fail
          go_ret
          exact ⟨rfl, hB⟩
        · have hl1 := fun wx hx => Line_I (w := wx) (h.toW hx) hbk (h1.toW hx)
          have hl2 := fun wx hx => Line_I (w := wx) (h.toW hx) hbk (h2.toW hx)
          have hl3 := fun wx hx => Line_I (w := wx) (h.toW hx) hbk (h3.toW hx)
          cases hk1 : lnB W l1 with
          | false =>
            simp only [hk1] at hl1
            have HL1 := Lib.hid hl1; clear hl1 hl2 hl3 hbk hk1 h h1 h2 h3
            go_wp2_with fail
            refine (HL1.out _ hB).mono ?_; rintro e wc ⟨rfl, hb⟩
            replace hB := hB.trans (hb.mono hB.size); replace hX := hX.below hb hX.lt; clear hb qX; have qX := fun i => hX.cell i
            go_wp2_with fail
            refine (known_true m _ (hE.below hB)).mono ?_; rintro e wc ⟨rfl, hb⟩
            replace hB := hB.trans (hb.mono hB.size); clear hb
            go_wp2_with fail
            go_ret
            exact ⟨rfl, hB⟩
          | true =>
            cases hk2 : lnB W l2 with
            | false =>
              simp only [hk1] at hl1
              simp only [hk2] at hl2
              have HL1 := Lib.hid hl1; have HL2 := Lib.hid hl2; clear hl1 hl2 hl3 hbk hk1 hk2 h h1 h2 h3
              go_wp2_with fail
              refine (HL1.out _ hB).mono ?_; rintro e wc ⟨rfl, hb⟩
              replace hB := hB.trans (hb.mono hB.size); replace hX := hX.below hb hX.lt; clear hb qX; have qX := fun i => hX.cell i
              go_wp2_with fail
              refine (HL2.out _ hB).mono ?_; rintro e wc ⟨rfl, hb⟩
              replace hB := hB.trans (hb.mono hB.size); replace hX := hX.below hb hX.lt; clear hb qX; have qX := fun i => hX.cell i
              go_wp2_with fail
              refine (known_true m _ (hE.below hB)).mono ?_; rintro e wc ⟨rfl, hb⟩
              replace hB := hB.trans (hb.mono hB.size); clear hb
              go_wp2_with fail
              go_ret
              exact ⟨rfl, hB⟩
            | true =>
              cases hk3 : lnB W l3 with
              | false =>
                simp only [hk1] at hl1
                simp only [hk2] at hl2
                simp only [hk3] at hl3
                have HL1 := Lib.hid hl1; have HL2 := Lib.hid hl2; have HL3 := Lib.hid hl3; clear hl1 hl2 hl3 hbk hk1 hk2 hk3 h h1 h2 h3
                go_wp2_with fail
                refine (HL1.out _ hB).mono ?_; rintro e wc ⟨rfl, hb⟩
                replace hB := hB.trans (hb.mono hB.size); replace hX := hX.below hb hX.lt; clear hb qX; have qX := fun i => hX.cell i
                go_wp2_with fail
                refine (HL2.out _ hB).mono ?_; rintro e wc ⟨rfl, hb⟩
                replace hB := hB.trans (hb.mono hB.size); replace hX := hX.below hb hX.lt; clear hb qX; have qX := fun i => hX.cell i
                go_wp2_with fail
                refine (HL3.out _ hB).mono ?_; rintro e wc ⟨rfl, hb⟩
                replace hB := hB.trans (hb.mono hB.size); replace hX := hX.below hb hX.lt; clear hb qX; have qX := fun i => hX.cell i
                go_wp2_with fail
                refine (known_true m _ (hE.below hB)).mono ?_; rintro e wc ⟨rfl, hb⟩
                replace hB := hB.trans (hb.mono hB.size); clear hb
                go_wp2_with fail
                go_ret
                exact ⟨rfl, hB⟩
              | true =>
                have hc12 := fun wx hx => Changes_I (w := wx) (h.toW hx) hbk (h1.toW hx) (h2.toW hx) hk1 hk2
                have hc21 := fun wx hx => Changes_I (w := wx) (h.toW hx) hbk (h2.toW hx) (h1.toW hx) hk2 hk1
                have hc13 := fun wx hx => Changes_I (w := wx) (h.toW hx) hbk (h1.toW hx) (h3.toW hx) hk1 hk3
                have hc32 := fun wx hx => Changes_I (w := wx) (h.toW hx) hbk (h3.toW hx) (h2.toW hx) hk3 hk2
                have hsm := fun wx hx => Same_I (w := wx) (h1.toW hx) (h2.toW hx) (by omega) (by omega)
                have q1 := h1.len; have q2 := h2.len; have q3 := h3.len
                have m1 := lnB_len hk1; have m2 := lnB_len hk2; have m3 := lnB_len hk3
                have f1 := ed_le l1 l2; have f2 := ed_len l1 l2; have f3 := ed_tri l1 l3 l2; have f4 := far_eq l1 l2; have f5 := ed_le l1 l3; have f6 := ed_le l3 l2
                rw [ed_comm l2 l1] at hc21
                simp only [hk1] at hl1
                simp only [hk2] at hl2
                simp only [hk3] at hl3
                rw [q1, q2] at f2
                rw [q1, q2] at f1
                rw [q1, q3] at f5
                rw [q2, q3] at f6
                rw [q1] at m1; rw [q2] at m2; rw [q3] at m3
                generalize ed l1 l2 = D at *
                generalize ed l1 l3 = E at *
                generalize ed l3 l2 = F at *
                generalize decide (l1 = l2) = S at *
                have f5' : (D ≤ 0 ∧ S = true) ∨ (0 < D ∧ S = false) := by
                  by_cases hd : D ≤ 0
                  · have e0 : (((D : Nat) : Int) == 0) = true := by simp; omega
                    rw [e0] at f4; exact .inl ⟨hd, by simpa using f4⟩
                  · have e0 : (((D : Nat) : Int) == 0) = false := by simp; omega
                    rw [e0] at f4; exact .inr ⟨by omega, by simpa using f4⟩
                clear f4
                have f4' := Lib.hid f5'; clear f5'
                have HL1 := Lib.hid hl1; have HL2 := Lib.hid hl2; have HL3 := Lib.hid hl3; have HC12 := Lib.hid hc12; have HC21 := Lib.hid hc21; have HC13 := Lib.hid hc13; have HC32 := Lib.hid hc32; have HSM := Lib.hid hsm; clear hl1 hl2 hl3 hc12 hc21 hc13 hc32 hsm hbk hk1 hk2 hk3 h h1 h2 h3 q1 q2 q3
                have E4 : E ≤ 4 := by omega
                have F4 : F ≤ 4 := by omega
                have D6 : D ≤ 4 := by omega
                have DT : D ≤ E + F := f3
                rcases Nat.le_total n1 n2 with hle | hle
                · have g1 : D ≤ n2 := by omega
                  have g2 : n2 - n1 ≤ D := by omega
                  clear f1 f2 f3 f5 f6 m1 m2 m3
                  rcases f4'.out with ⟨hd, rfl⟩ | ⟨hd, rfl⟩
                  · clear f4'
                    go_wp2_with fail
                    refine (HL1.out _ hB).mono ?_; rintro e wc ⟨rfl, hb⟩
                    replace hB := hB.trans (hb.mono hB.size); replace hX := hX.below hb hX.lt; clear hb qX; have qX := fun i => hX.cell i
                    go_wp2_with fail
                    refine (HL2.out _ hB).mono ?_; rintro e wc ⟨rfl, hb⟩
                    replace hB := hB.trans (hb.mono hB.size); replace hX := hX.below hb hX.lt; clear hb qX; have qX := fun i => hX.cell i
                    go_wp2_with fail
                    refine (HL3.out _ hB).mono ?_; rintro e wc ⟨rfl, hb⟩
                    replace hB := hB.trans (hb.mono hB.size); replace hX := hX.below hb hX.lt; clear hb qX; have qX := fun i => hX.cell i
                    go_wp2_with fail
                    refine (HC12.out _ hB).mono ?_; rintro e wc ⟨rfl, hb⟩
                    replace hB := hB.trans (hb.mono hB.size); replace hX := hX.below hb hX.lt; clear hb qX; have qX := fun i => hX.cell i
                    go_wp2_with fail
                    refine (HC21.out _ hB).mono ?_; rintro e wc ⟨rfl, hb⟩
                    replace hB := hB.trans (hb.mono hB.size); replace hX := hX.below hb hX.lt; clear hb qX; have qX := fun i => hX.cell i
                    go_wp2_with fail
                    refine (HC13.out _ hB).mono ?_; rintro e wc ⟨rfl, hb⟩
                    replace hB := hB.trans (hb.mono hB.size); replace hX := hX.below hb hX.lt; clear hb qX; have qX := fun i => hX.cell i
                    go_wp2_with fail
                    refine (HC32.out _ hB).mono ?_; rintro e wc ⟨rfl, hb⟩
                    replace hB := hB.trans (hb.mono hB.size); replace hX := hX.below hb hX.lt; clear hb qX; have qX := fun i => hX.cell i
                    go_wp2_with fail
                    refine (HSM.out _ hB).mono ?_; rintro e wc ⟨rfl, hb⟩
                    replace hB := hB.trans (hb.mono hB.size); replace hX := hX.below hb hX.lt; clear hb qX; have qX := fun i => hX.cell i
                    go_wp2_with fail
                    refine (known_true m _ (hE.below hB)).mono ?_; rintro e wc ⟨rfl, hb⟩
                    replace hB := hB.trans (hb.mono hB.size); clear hb
                    go_wp2_with fail
                    go_ret
                    refine ⟨?_, hB⟩
                    have e0 : ((D : Int) == 0) = true := by simp; omega
                    first
                    | rfl
                    | (show Ending.returned (.bool ((D : Int) == 0)) = _; rw [e0])
                    | (show Ending.returned (.bool (!((D : Int) == 0))) = _; rw [e0]; rfl)
                    | (show Ending.returned (.bool (((D : Int) == 0) == true)) = _; rw [e0]; rfl)
                  · clear f4'
                    go_wp2_with fail
                    refine (HL1.out _ hB).mono ?_; rintro e wc ⟨rfl, hb⟩
                    replace hB := hB.trans (hb.mono hB.size); replace hX := hX.below hb hX.lt; clear hb qX; have qX := fun i => hX.cell i
                    go_wp2_with fail
                    refine (HL2.out _ hB).mono ?_; rintro e wc ⟨rfl, hb⟩
                    replace hB := hB.trans (hb.mono hB.size); replace hX := hX.below hb hX.lt; clear hb qX; have qX := fun i => hX.cell i
                    go_wp2_with fail
                    refine (HL3.out _ hB).mono ?_; rintro e wc ⟨rfl, hb⟩
                    replace hB := hB.trans (hb.mono hB.size); replace hX := hX.below hb hX.lt; clear hb qX; have qX := fun i => hX.cell i
                    go_wp2_with fail
                    refine (HC12.out _ hB).mono ?_; rintro e wc ⟨rfl, hb⟩
                    replace hB := hB.trans (hb.mono hB.size); replace hX := hX.below hb hX.lt; clear hb qX; have qX := fun i => hX.cell i
                    go_wp2_with fail
                    refine (HC21.out _ hB).mono ?_; rintro e wc ⟨rfl, hb⟩
                    replace hB := hB.trans (hb.mono hB.size); replace hX := hX.below hb hX.lt; clear hb qX; have qX := fun i => hX.cell i
                    go_wp2_with fail
                    refine (HC13.out _ hB).mono ?_; rintro e wc ⟨rfl, hb⟩
                    replace hB := hB.trans (hb.mono hB.size); replace hX := hX.below hb hX.lt; clear hb qX; have qX := fun i => hX.cell i
                    go_wp2_with fail
                    refine (HC32.out _ hB).mono ?_; rintro e wc ⟨rfl, hb⟩
                    replace hB := hB.trans (hb.mono hB.size); replace hX := hX.below hb hX.lt; clear hb qX; have qX := fun i => hX.cell i
                    go_wp2_with fail
                    refine (HSM.out _ hB).mono ?_; rintro e wc ⟨rfl, hb⟩
                    replace hB := hB.trans (hb.mono hB.size); replace hX := hX.below hb hX.lt; clear hb qX; have qX := fun i => hX.cell i
                    go_wp2_with fail
                    refine (known_true m _ (hE.below hB)).mono ?_; rintro e wc ⟨rfl, hb⟩
                    replace hB := hB.trans (hb.mono hB.size); clear hb
                    go_wp2_with fail
                    go_ret
                    refine ⟨?_, hB⟩
                    have e0 : ((D : Int) == 0) = false := by simp; omega
                    first
                    | rfl
                    | (show Ending.returned (.bool ((D : Int) == 0)) = _; rw [e0])
                    | (show Ending.returned (.bool (!((D : Int) == 0))) = _; rw [e0]; rfl)
                    | (show Ending.returned (.bool (((D : Int) == 0) == true)) = _; rw [e0]; rfl)
                · have g1 : D ≤ n1 := by omega
                  have g2 : n1 - n2 ≤ D := by omega
                  clear f1 f2 f3 f5 f6 m1 m2 m3
                  rcases f4'.out with ⟨hd, rfl⟩ | ⟨hd, rfl⟩
                  · clear f4'
                    go_wp2_with fail
                    refine (HL1.out _ hB).mono ?_; rintro e wc ⟨rfl, hb⟩
                    replace hB := hB.trans (hb.mono hB.size); replace hX := hX.below hb hX.lt; clear hb qX; have qX := fun i => hX.cell i
                    go_wp2_with fail
                    refine (HL2.out _ hB).mono ?_; rintro e wc ⟨rfl, hb⟩
                    replace hB := hB.trans (hb.mono hB.size); replace hX := hX.below hb hX.lt; clear hb qX; have qX := fun i => hX.cell i
                    go_wp2_with fail
                    refine (HL3.out _ hB).mono ?_; rintro e wc ⟨rfl, hb⟩
                    replace hB := hB.trans (hb.mono hB.size); replace hX := hX.below hb hX.lt; clear hb qX; have qX := fun i => hX.cell i
                    go_wp2_with fail
                    refine (HC12.out _ hB).mono ?_; rintro e wc ⟨rfl, hb⟩
                    replace hB := hB.trans (hb.mono hB.size); replace hX := hX.below hb hX.lt; clear hb qX; have qX := fun i => hX.cell i
                    go_wp2_with fail
                    refine (HC21.out _ hB).mono ?_; rintro e wc ⟨rfl, hb⟩
                    replace hB := hB.trans (hb.mono hB.size); replace hX := hX.below hb hX.lt; clear hb qX; have qX := fun i => hX.cell i
                    go_wp2_with fail
                    refine (HC13.out _ hB).mono ?_; rintro e wc ⟨rfl, hb⟩
                    replace hB := hB.trans (hb.mono hB.size); replace hX := hX.below hb hX.lt; clear hb qX; have qX := fun i => hX.cell i
                    go_wp2_with fail
                    refine (HC32.out _ hB).mono ?_; rintro e wc ⟨rfl, hb⟩
                    replace hB := hB.trans (hb.mono hB.size); replace hX := hX.below hb hX.lt; clear hb qX; have qX := fun i => hX.cell i
                    go_wp2_with fail
                    refine (HSM.out _ hB).mono ?_; rintro e wc ⟨rfl, hb⟩
                    replace hB := hB.trans (hb.mono hB.size); replace hX := hX.below hb hX.lt; clear hb qX; have qX := fun i => hX.cell i
                    go_wp2_with fail
                    refine (known_true m _ (hE.below hB)).mono ?_; rintro e wc ⟨rfl, hb⟩
                    replace hB := hB.trans (hb.mono hB.size); clear hb
                    go_wp2_with fail
                    go_ret
                    refine ⟨?_, hB⟩
                    have e0 : ((D : Int) == 0) = true := by simp; omega
                    first
                    | rfl
                    | (show Ending.returned (.bool ((D : Int) == 0)) = _; rw [e0])
                    | (show Ending.returned (.bool (!((D : Int) == 0))) = _; rw [e0]; rfl)
                    | (show Ending.returned (.bool (((D : Int) == 0) == true)) = _; rw [e0]; rfl)
                  · clear f4'
                    go_wp2_with fail
                    refine (HL1.out _ hB).mono ?_; rintro e wc ⟨rfl, hb⟩
                    replace hB := hB.trans (hb.mono hB.size); replace hX := hX.below hb hX.lt; clear hb qX; have qX := fun i => hX.cell i
                    go_wp2_with fail
                    refine (HL2.out _ hB).mono ?_; rintro e wc ⟨rfl, hb⟩
                    replace hB := hB.trans (hb.mono hB.size); replace hX := hX.below hb hX.lt; clear hb qX; have qX := fun i => hX.cell i
                    go_wp2_with fail
                    refine (HL3.out _ hB).mono ?_; rintro e wc ⟨rfl, hb⟩
                    replace hB := hB.trans (hb.mono hB.size); replace hX := hX.below hb hX.lt; clear hb qX; have qX := fun i => hX.cell i
                    go_wp2_with fail
                    refine (HC12.out _ hB).mono ?_; rintro e wc ⟨rfl, hb⟩
                    replace hB := hB.trans (hb.mono hB.size); replace hX := hX.below hb hX.lt; clear hb qX; have qX := fun i => hX.cell i
                    go_wp2_with fail
                    refine (HC21.out _ hB).mono ?_; rintro e wc ⟨rfl, hb⟩
                    replace hB := hB.trans (hb.mono hB.size); replace hX := hX.below hb hX.lt; clear hb qX; have qX := fun i => hX.cell i
                    go_wp2_with fail
                    refine (HC13.out _ hB).mono ?_; rintro e wc ⟨rfl, hb⟩
                    replace hB := hB.trans (hb.mono hB.size); replace hX := hX.below hb hX.lt; clear hb qX; have qX := fun i => hX.cell i
                    go_wp2_with fail
                    refine (HC32.out _ hB).mono ?_; rintro e wc ⟨rfl, hb⟩
                    replace hB := hB.trans (hb.mono hB.size); replace hX := hX.below hb hX.lt; clear hb qX; have qX := fun i => hX.cell i
                    go_wp2_with fail
                    refine (HSM.out _ hB).mono ?_; rintro e wc ⟨rfl, hb⟩
                    replace hB := hB.trans (hb.mono hB.size); replace hX := hX.below hb hX.lt; clear hb qX; have qX := fun i => hX.cell i
                    go_wp2_with fail
                    refine (known_true m _ (hE.below hB)).mono ?_; rintro e wc ⟨rfl, hb⟩
                    replace hB := hB.trans (hb.mono hB.size); clear hb
                    go_wp2_with fail
                    go_ret
                    refine ⟨?_, hB⟩
                    have e0 : ((D : Int) == 0) = false := by simp; omega
                    first
                    | rfl
                    | (show Ending.returned (.bool ((D : Int) == 0)) = _; rw [e0])
                    | (show Ending.returned (.bool (!((D : Int) == 0))) = _; rw [e0]; rfl)
                    | (show Ending.returned (.bool (((D : Int) == 0) == true)) = _; rw [e0]; rfl)
end
end Go.Proofs.YtekmnelpkogppaaGreatDoor
