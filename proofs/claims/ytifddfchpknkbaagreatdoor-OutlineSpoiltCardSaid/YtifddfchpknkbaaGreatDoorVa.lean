import Derived.Test.YtifddfchpknkbaaGreatDoorV9
set_option linter.unusedVariables false
set_option linter.unusedSimpArgs false
namespace Go.Proofs.YtifddfchpknkbaaGreatDoor
open Go.RowKit Go.Lib

set_option maxRecDepth 100000 in
theorem refBook_any (W H F L X Y : Int) (A : Option Addr) (n cap : Nat) (fs : List Fig) (w : World) (hn : n ≤ maxLen) (hf : ∀ f ∈ fs, f.ok w w.heap.size) (hr : Rd w w.heap.size 1 A n (fs.map Fig.val)) :
    Calls Tryz.prog 84 #[.agg #[.int .i64 W, .int .i64 H, .int .i64 F, .int .i64 L, .int .i64 X, .int .i64 Y, .slice A n cap]] w fun e w' => e = .returned (.bool (stageB W H F L X Y && compB fs)) ∧ Below w.heap.size w w' := by
  have hS := Blk.new w 121 #[.int .i64 W, .int .i64 H, .int .i64 F, .int .i64 L, .int .i64 X, .int .i64 Y, .slice A n cap]
  have hB : Below w.heap.size w (w.alloc (.cells #[.int .i64 W, .int .i64 H, .int .i64 F, .int .i64 L, .int .i64 X, .int .i64 Y, .slice A n cap] 121)) := (Below.refl _ w).alloc (Nat.le_refl _) _
  cases hst : stageB W H F L X Y
  all_goals
    go_enter Tryz.func84, Tryz.ntmps84
    go_upto_region 1 with (fail)
    generalize w.alloc (.cells #[.int .i64 W, .int .i64 H, .int .i64 F, .int .i64 L, .int .i64 X, .int .i64 Y, .slice A n cap] 121) = W0 at *
    have qS := fun i => Blk.cell hS i
    go_wp2_with (first
      | (go_at_call 27; refine (Stage_any W H F L X Y _).mono ?_; rintro e w1 ⟨rfl, hb⟩; rw [hst]; replace hS := hS.below hb hS.lt; replace hB := hB.trans (hb.mono hB.size); clear qS hb; have qS := fun i => Blk.cell hS i)
      | (go_at_call 119; refine (Company_any A n cap fs _ hn (fun f h => ((hf f h).below hB).more hB.size) (rdB hr hB)).mono ?_; rintro e w1 ⟨rfl, hb⟩; replace hB := hB.trans (hb.mono hB.size)))
    go_ret
    exact ⟨by simp, hB⟩
set_option maxRecDepth 100000 in
theorem Print_bad (W H F L X Y : Int) (A : Option Addr) (n cap : Nat) (fs : List Fig) (w : World) (hn : n ≤ maxLen) (hf : ∀ f ∈ fs, f.ok w w.heap.size) (hr : Rd w w.heap.size 1 A n (fs.map Fig.val)) (hg : (stageB W H F L X Y && compB fs) = false) :
    Calls Tryz.prog 83 #[.agg #[.int .i64 W, .int .i64 H, .int .i64 F, .int .i64 L, .int .i64 X, .int .i64 Y, .slice A n cap]] w fun e w' => e = .returned (.tuple #[.string ⟨#[]⟩, .int .i64 2]) ∧ Below w.heap.size w w' := by
  have hS := Blk.new w 121 #[.int .i64 W, .int .i64 H, .int .i64 F, .int .i64 L, .int .i64 X, .int .i64 Y, .slice A n cap]
  have hB : Below w.heap.size w (w.alloc (.cells #[.int .i64 W, .int .i64 H, .int .i64 F, .int .i64 L, .int .i64 X, .int .i64 Y, .slice A n cap] 121)) := (Below.refl _ w).alloc (Nat.le_refl _) _
  go_enter Tryz.func83, Tryz.ntmps83
  go_upto_region 1 with (fail)
  generalize w.alloc (.cells #[.int .i64 W, .int .i64 H, .int .i64 F, .int .i64 L, .int .i64 X, .int .i64 Y, .slice A n cap] 121) = W0 at *
  have qS := fun i => Blk.cell hS i
  go_wp2_with (go_at_call 139; refine (goodBook_any W H F L X Y A n cap fs _ hn (fun f h => ((hf f h).below hB).more hB.size) (rdB hr hB)).mono ?_; rintro e w1 ⟨rfl, hb⟩; rw [hg]; replace hB := hB.trans (hb.mono hB.size))
  go_ret2
  exact ⟨rfl, hB⟩
set_option maxRecDepth 100000 in
theorem Print_good (a0 a1 a2 a3 a4 a5 : Nat) (ha : ∀ a ∈ [a0, a1, a2, a3, a4, a5], a < 1000) (A : Option Addr) (n cap : Nat) (fs : List Fig) (s : Nat) (m : Int) (w : World) (hE : Env m w) (hn : n ≤ 100) (hf : ∀ f ∈ fs, f.ok w w.heap.size) (hfs : ∀ f ∈ fs, 1 ≤ f.rows.length ∧ f.rows.length ≤ 50 ∧ ∀ r ∈ f.rows, r.size ≤ 1000) (hr : Rd w w.heap.size 1 A n (fs.map Fig.val)) (hsum : sumA (linesL [a0, a1, a2, a3, a4, a5] fs) 0 0 = s) (hg : (stageB a0 a1 a2 a3 a4 a5 && compB fs) = true) :
    Calls Tryz.prog 83 #[.agg #[.int .i64 a0, .int .i64 a1, .int .i64 a2, .int .i64 a3, .int .i64 a4, .int .i64 a5, .slice A n cap]] w fun e w' => e = .returned (.tuple #[.string (textS (linesL [a0, a1, a2, a3, a4, a5] fs) s), .int .i64 0]) ∧ Below w.heap.size w w' := by
  have hS := Blk.new w 121 #[.int .i64 a0, .int .i64 a1, .int .i64 a2, .int .i64 a3, .int .i64 a4, .int .i64 a5, .slice A n cap]
  have hB : Below w.heap.size w (w.alloc (.cells #[.int .i64 a0, .int .i64 a1, .int .i64 a2, .int .i64 a3, .int .i64 a4, .int .i64 a5, .slice A n cap] 121)) := (Below.refl _ w).alloc (Nat.le_refl _) _
  have hwr := fun wx h1 h2 h3 => write_any a0 a1 a2 a3 a4 a5 ha A n cap fs s m wx h1 hn h2 hfs h3 hsum
  generalize textS (linesL [a0, a1, a2, a3, a4, a5] fs) s = T at *
  have HW := Lib.hid hwr; clear hwr hsum
  go_enter Tryz.func83, Tryz.ntmps83
  go_upto_region 1 with (fail)
  generalize w.alloc (.cells #[.int .i64 a0, .int .i64 a1, .int .i64 a2, .int .i64 a3, .int .i64 a4, .int .i64 a5, .slice A n cap] 121) = W0 at *
  have qS := fun i => Blk.cell hS i
  have hE0 := hE.below hB
  go_wp2_with (first
    | (go_at_call 139; refine (goodBook_any a0 a1 a2 a3 a4 a5 A n cap fs _ (by unfold maxLen; omega) (fun f h => ((hf f h).below hB).more hB.size) (rdB hr hB)).mono ?_; rintro e w1 ⟨rfl, hb⟩; rw [hg]; replace hS := hS.below hb hS.lt; replace hE0 := hE0.below hb; replace hB := hB.trans (hb.mono hB.size); clear qS hb; have qS := fun i => Blk.cell hS i)
    | (go_at_call 140; refine (HW.out _ hE0 (fun f h => ((hf f h).below hB).more hB.size) (rdB hr hB)).mono ?_; rintro e w1 ⟨rfl, hb⟩; replace hB := hB.trans (hb.mono hB.size)))
  go_ret2
  exact ⟨rfl, hB⟩
end Go.Proofs.YtifddfchpknkbaaGreatDoor
