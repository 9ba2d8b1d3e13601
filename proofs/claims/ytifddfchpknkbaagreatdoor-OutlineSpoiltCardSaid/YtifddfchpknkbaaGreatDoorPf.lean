import Derived.Test.YtifddfchpknkbaaGreatDoorTx
import Derived.Test.YtifddfchpknkbaaGreatDoorZ
import Derived.Test.YtifddfchpknkbaaGreatDoorTd
import Derived.Test.YtifddfchpknkbaaGreatDoorNx
import Derived.Test.YtifddfchpknkbaaGreatDoorP
import Derived.Test.YtifddfchpknkbaaGreatDoorMl
set_option linter.unusedVariables false
set_option linter.unusedSimpArgs false
namespace Go.Proofs.YtifddfchpknkbaaGreatDoor
open Go.RowKit Go.Lib

set_option maxRecDepth 100000 in
set_option maxHeartbeats 800000 in
theorem goodBook_any (W H F L X Y : Int) (A : Option Addr) (n cap : Nat) (fs : List Fig) (w : World) (hn : n ≤ maxLen) (hf : ∀ f ∈ fs, f.ok w w.heap.size) (hr : Rd w w.heap.size 1 A n (fs.map Fig.val)) :
    Calls Tryz.prog 139 #[.agg #[.int .i64 W, .int .i64 H, .int .i64 F, .int .i64 L, .int .i64 X, .int .i64 Y, .slice A n cap]] w fun e w' => e = .returned (.bool (stageB W H F L X Y && compB fs)) ∧ Below w.heap.size w w' := by
  have gA : Blk (w.alloc (.cells #[.int .i64 W, .int .i64 H, .int .i64 F, .int .i64 L, .int .i64 X, .int .i64 Y, .slice A n cap] 121)) w.heap.size 121 #[.int .i64 W, .int .i64 H, .int .i64 F, .int .i64 L, .int .i64 X, .int .i64 Y, .slice A n cap] := Blk.new _ _ _
  have hB : Below w.heap.size w (w.alloc (.cells #[.int .i64 W, .int .i64 H, .int .i64 F, .int .i64 L, .int .i64 X, .int .i64 Y, .slice A n cap] 121)) := (Below.refl _ w).alloc (Nat.le_refl _) _
  have hqA := fun i => gA.cell i; have hlA := gA.lt
  cases hs : stageB W H F L X Y
  all_goals
    go_enter Tryz.func139, Tryz.ntmps139
    go_wp2_with (first
      | (go_at_call 97; refine (goodStage_any W H F L X Y _).mono ?_; rintro e w1 ⟨rfl, hb⟩; rw [hs]; replace gA := gA.below hb gA.lt; replace hB := hB.trans (hb.mono hB.size); replace hqA := fun i => gA.cell i; replace hlA := gA.lt; clear hb)
      | (go_at_call 157; refine (goodCompany_any A n cap fs _ hn (fun f hf' => ((hf f hf').below hB).more hB.size) ((hr.below hB).more hB.size)).mono ?_; rintro e w2 ⟨rfl, hb2⟩; replace hB := hB.trans (hb2.mono hB.size)))
    go_ret
    exact ⟨rfl, hB⟩

theorem goodK (A1 : Option Addr) (c1 : Nat) : (stageB 1 1 2 0 0 0 && compB [⟨A1, 1, c1, [⟨#[35]⟩]⟩]) = true := by kernel_rfl
theorem BookAt.below {B : Nat} {w' w'' : World} {g8 c g4 c1 : Nat} (h : BookAt B w' g8 c g4 c1) (hb : Below w'.heap.size w' w'') : BookAt B w'' g8 c g4 c1 := by
  obtain ⟨b1, b2, b3, b4, b5, b6, b7, b8, b9, b10⟩ := h
  exact ⟨b1, Nat.lt_of_lt_of_le b2 hb.size, (hb.cell (p := ⟨g8, 0, none⟩) b2).trans b3, b4, b5, b6, Nat.lt_of_lt_of_le b7 hb.size, (hb.cell (p := ⟨g4, 0, none⟩) b7).trans b8, b9, b10⟩
theorem BookAt.fig {B : Nat} {w' : World} {g8 c g4 c1 : Nat} (h : BookAt B w' g8 c g4 c1) : (∀ f ∈ [(⟨some ⟨g4, 0, none⟩, 1, c1, [⟨#[35]⟩]⟩ : Fig)], f.ok w' w'.heap.size) ∧ Rd w' w'.heap.size 1 (some ⟨g8, 0, none⟩) 1 ([(⟨some ⟨g4, 0, none⟩, 1, c1, [⟨#[35]⟩]⟩ : Fig)].map Fig.val) := by
  obtain ⟨b1, b2, b3, b4, b5, b6, b7, b8, b9, b10⟩ := h
  refine ⟨fun f hf => ?_, Rd_one b2 b3⟩
  rw [List.mem_singleton] at hf
  subst hf
  refine ⟨b9, b10, fun r hr => ?_, Rd_one b7 b8⟩
  have hr2 : r = ⟨#[35]⟩ := by simpa using hr
  subst hr2
  unfold maxLen
  decide

set_option maxRecDepth 100000 in
set_option maxHeartbeats 800000 in
theorem readText (m : Int) (w : World) (hm : w.cell? ⟨0, 0, none⟩ = some (.int .i64 m)) :
    Calls Tryz.prog 85 #[.string kText] w fun e w' => ∃ g8 c g4 c1 : Nat, e = .returned (.tuple #[.agg #[.int .i64 1, .int .i64 1, .int .i64 2, .int .i64 0, .int .i64 0, .int .i64 0, .slice (some ⟨g8, 0, none⟩) 1 c], .int .i64 0]) ∧ BookAt w.heap.size w' g8 c g4 c1 ∧ Below w.heap.size w w' := by
  have h00 : 0 < w.heap.size := block_lt_of_cell hm
  have hmB : ∀ w', Below w.heap.size w w' → w'.cell? ⟨0, 0, none⟩ = some (.int .i64 m) := fun w' hb => (hb.cell (p := ⟨0, 0, none⟩) h00).trans hm
  have hsz : kText.size = 35 := by decide
  have hB1 : Below w.heap.size w (w.alloc (.cells #[.int .i64 0, .int .i64 0, .int .i64 0, .int .i64 0, .int .i64 0, .int .i64 0, .slice none 0 0] 121)) := (Below.refl _ w).alloc (Nat.le_refl _) _
  have gT : Blk (w.alloc (.cells #[.int .i64 0, .int .i64 0, .int .i64 0, .int .i64 0, .int .i64 0, .int .i64 0, .slice none 0 0] 121)) w.heap.size 121 #[.int .i64 0, .int .i64 0, .int .i64 0, .int .i64 0, .int .i64 0, .int .i64 0, .slice none 0 0] := Blk.new _ _ _
  go_enter Tryz.func85, Tryz.ntmps85
  go_upto_region 8 with (first
    | (go_at_call 141; refine (parseText m _ (hmB _ hB1)).mono ?_; rintro e w1 ⟨g8, c, g4, c1, rfl, hbk, hb⟩; replace gT := gT.below hb gT.lt; replace hB1 := hB1.trans (hb.mono hB1.size); clear hb; have gK := Blk.new w1 121 #[.int .i64 1, .int .i64 1, .int .i64 2, .int .i64 0, .int .i64 0, .int .i64 0, .slice (some ⟨g8, 0, none⟩) 1 c]; replace gT := gT.alloc (.cells #[.int .i64 1, .int .i64 1, .int .i64 2, .int .i64 0, .int .i64 0, .int .i64 0, .slice (some ⟨g8, 0, none⟩) 1 c] 121); have hbq := (Below.refl w1.heap.size w1).alloc (Nat.le_refl _) (.cells #[.int .i64 1, .int .i64 1, .int .i64 2, .int .i64 0, .int .i64 0, .int .i64 0, .slice (some ⟨g8, 0, none⟩) 1 c] 121); replace hbk := hbk.below hbq; replace hB1 := hB1.alloc hB1.size (.cells #[.int .i64 1, .int .i64 1, .int .i64 2, .int .i64 0, .int .i64 0, .int .i64 0, .slice (some ⟨g8, 0, none⟩) 1 c] 121); have hfg := hbk.fig)
    | (go_at_call 139; refine (goodBook_any 1 1 2 0 0 0 (some ⟨g8, 0, none⟩) 1 c [⟨some ⟨g4, 0, none⟩, 1, c1, [⟨#[35]⟩]⟩] _ (by unfold maxLen; omega) hfg.1 hfg.2).mono ?_; rintro e w2 ⟨rfl, hb2⟩; rw [goodK]; replace gT := gT.below hb2 gT.lt; replace gK := gK.below hb2 gK.lt; replace hbk := hbk.below hb2; replace hB1 := hB1.trans (hb2.mono hB1.size); clear hfg hb2 hbq))
  have hqT := fun i => gT.cell i; have hfT := fun i => gT.frozen i; have hlT := gT.lt; have hqK := fun i => gK.cell i; have hlK := gK.lt
  go_wp2
  clear hqT hfT hlT hqK hlK
  obtain ⟨b1, b2, b3, b4, b5, b6, b7, b8, b9, b10⟩ := hbk
  rw [World.size_alloc] at b1 b6
  replace gT := gT.set_ 0 (.int .i64 1); replace hB1 := hB1.setCell (p := ⟨w.heap.size, 0, none⟩) (Nat.le_refl w.heap.size) (.int .i64 1); replace b3 := (cell_far _ ⟨w.heap.size, 0, none⟩ (.int .i64 1) g8 (show g8 ≠ w.heap.size by omega)).trans b3; replace b8 := (cell_far _ ⟨w.heap.size, 0, none⟩ (.int .i64 1) g4 (show g4 ≠ w.heap.size by omega)).trans b8
  replace gT := gT.set_ 1 (.int .i64 1); replace hB1 := hB1.setCell (p := ⟨w.heap.size, 1, none⟩) (Nat.le_refl w.heap.size) (.int .i64 1); replace b3 := (cell_far _ ⟨w.heap.size, 1, none⟩ (.int .i64 1) g8 (show g8 ≠ w.heap.size by omega)).trans b3; replace b8 := (cell_far _ ⟨w.heap.size, 1, none⟩ (.int .i64 1) g4 (show g4 ≠ w.heap.size by omega)).trans b8
  replace gT := gT.set_ 2 (.int .i64 2); replace hB1 := hB1.setCell (p := ⟨w.heap.size, 2, none⟩) (Nat.le_refl w.heap.size) (.int .i64 2); replace b3 := (cell_far _ ⟨w.heap.size, 2, none⟩ (.int .i64 2) g8 (show g8 ≠ w.heap.size by omega)).trans b3; replace b8 := (cell_far _ ⟨w.heap.size, 2, none⟩ (.int .i64 2) g4 (show g4 ≠ w.heap.size by omega)).trans b8
  replace gT := gT.set_ 3 (.int .i64 0); replace hB1 := hB1.setCell (p := ⟨w.heap.size, 3, none⟩) (Nat.le_refl w.heap.size) (.int .i64 0); replace b3 := (cell_far _ ⟨w.heap.size, 3, none⟩ (.int .i64 0) g8 (show g8 ≠ w.heap.size by omega)).trans b3; replace b8 := (cell_far _ ⟨w.heap.size, 3, none⟩ (.int .i64 0) g4 (show g4 ≠ w.heap.size by omega)).trans b8
  replace gT := gT.set_ 4 (.int .i64 0); replace hB1 := hB1.setCell (p := ⟨w.heap.size, 4, none⟩) (Nat.le_refl w.heap.size) (.int .i64 0); replace b3 := (cell_far _ ⟨w.heap.size, 4, none⟩ (.int .i64 0) g8 (show g8 ≠ w.heap.size by omega)).trans b3; replace b8 := (cell_far _ ⟨w.heap.size, 4, none⟩ (.int .i64 0) g4 (show g4 ≠ w.heap.size by omega)).trans b8
  replace gT := gT.set_ 5 (.int .i64 0); replace hB1 := hB1.setCell (p := ⟨w.heap.size, 5, none⟩) (Nat.le_refl w.heap.size) (.int .i64 0); replace b3 := (cell_far _ ⟨w.heap.size, 5, none⟩ (.int .i64 0) g8 (show g8 ≠ w.heap.size by omega)).trans b3; replace b8 := (cell_far _ ⟨w.heap.size, 5, none⟩ (.int .i64 0) g4 (show g4 ≠ w.heap.size by omega)).trans b8
  replace gT := gT.set_ 6 (.slice (some ⟨g8, 0, none⟩) 1 c); replace hB1 := hB1.setCell (p := ⟨w.heap.size, 6, none⟩) (Nat.le_refl w.heap.size) (.slice (some ⟨g8, 0, none⟩) 1 c); replace b3 := (cell_far _ ⟨w.heap.size, 6, none⟩ (.slice (some ⟨g8, 0, none⟩) 1 c) g8 (show g8 ≠ w.heap.size by omega)).trans b3; replace b8 := (cell_far _ ⟨w.heap.size, 6, none⟩ (.slice (some ⟨g8, 0, none⟩) 1 c) g4 (show g4 ≠ w.heap.size by omega)).trans b8
  have hs : (((((((w2.setCell ⟨w.heap.size, 0, none⟩ (.int .i64 1)).setCell ⟨w.heap.size, 1, none⟩ (.int .i64 1)).setCell ⟨w.heap.size, 2, none⟩ (.int .i64 2)).setCell ⟨w.heap.size, 3, none⟩ (.int .i64 0)).setCell ⟨w.heap.size, 4, none⟩ (.int .i64 0)).setCell ⟨w.heap.size, 5, none⟩ (.int .i64 0)).setCell ⟨w.heap.size, 6, none⟩ (.slice (some ⟨g8, 0, none⟩) 1 c)).heap.size = w2.heap.size := by simp
  generalize (((((((w2.setCell ⟨w.heap.size, 0, none⟩ (.int .i64 1)).setCell ⟨w.heap.size, 1, none⟩ (.int .i64 1)).setCell ⟨w.heap.size, 2, none⟩ (.int .i64 2)).setCell ⟨w.heap.size, 3, none⟩ (.int .i64 0)).setCell ⟨w.heap.size, 4, none⟩ (.int .i64 0)).setCell ⟨w.heap.size, 5, none⟩ (.int .i64 0)).setCell ⟨w.heap.size, 6, none⟩ (.slice (some ⟨g8, 0, none⟩) 1 c)) = w9 at *
  have hq9 := fun i => gT.cell i
  refine bodyPost_ret (v := .tuple #[.agg #[.int .i64 1, .int .i64 1, .int .i64 2, .int .i64 0, .int .i64 0, .int .i64 0, .slice (some ⟨g8, 0, none⟩) 1 c], .int .i64 0]) ?_ rfl ⟨g8, c, g4, c1, rfl, ⟨by omega, by omega, b3, b4, b5, by omega, by omega, b8, b9, b10⟩, hB1⟩
  simp [results, Tryz.results85, go_sem, hq9]
end Go.Proofs.YtifddfchpknkbaaGreatDoor

namespace Go.Proofs.YtifddfchpknkbaaGreatDoor
open Go.RowKit

theorem wpG_two {P : Program} {ops : Array Oper} {md : Region.Mode} {Q : Exit → Act → World → Prop} {T : World → Prop} {L : Nat} {i j : Nat} {oi oj : Oper} {fuel : Nat} {listed : Array Bool} {a : Act} {w : World} (hi : ops[i]? = some oi) (hj : ops[j]? = some oj) (hr : Region.ready md ops listed = [i, j])
    (h1 : ∀ K : Act → World → Prop, (∀ a w, (i = L ∨ T w) → wpG P md ops Q T L fuel (listed.setIfInBounds i true) a w → K a w) → if Region.wanted oi (yielded ops a.tmps) = true then Oper.wp P oi a w K Q else K (a.put oi.dst undef) w)
    (h2 : ∀ K : Act → World → Prop, (∀ a w, (j = L ∨ T w) → wpG P md ops Q T L fuel (listed.setIfInBounds j true) a w → K a w) → if Region.wanted oj (yielded ops a.tmps) = true then Oper.wp P oj a w K Q else K (a.put oj.dst undef) w) :
    wpG P md ops Q T L (fuel + 1) listed a w := by
  refine ⟨fun h0 => (by rw [hr] at h0; cases h0), fun k hk => ?_⟩
  rw [hr] at hk
  have hk2 : k = i ∨ k = j := by simpa using hk
  rcases hk2 with rfl | rfl
  · exact wpOp_step hi fun K hK => h1 K fun a w x1 x2 => hK a w ⟨x1, x2⟩
  · exact wpOp_step hj fun K hK => h2 K fun a w x1 x2 => hK a w ⟨x1, x2⟩


theorem blk10 {w : World} {g : Nat} {t : TypeId} {z0 z1 z2 z3 z4 z5 z6 z7 z8 z9 : Value} (h : Blk w g t #[z0, z1, z2, z3, z4, z5, z6, z7, z8, z9]) (v0 v1 v2 v3 v4 v5 v6 v7 v8 v9 : Value) : Blk ((((((((((w.setCell ⟨g, 0, none⟩ v0).setCell ⟨g, 1, none⟩ v1).setCell ⟨g, 2, none⟩ v2).setCell ⟨g, 3, none⟩ v3).setCell ⟨g, 4, none⟩ v4).setCell ⟨g, 5, none⟩ v5).setCell ⟨g, 6, none⟩ v6).setCell ⟨g, 7, none⟩ v7).setCell ⟨g, 8, none⟩ v8).setCell ⟨g, 9, none⟩ v9) g t #[v0, v1, v2, v3, v4, v5, v6, v7, v8, v9] := by
  have h := ((((((((((h.set_ 0 v0).set_ 1 v1).set_ 2 v2).set_ 3 v3).set_ 4 v4).set_ 5 v5).set_ 6 v6).set_ 7 v7).set_ 8 v8).set_ 9 v9)
  simpa using h
theorem far10 {w : World} {g g' : Nat} {t : TypeId} {cs : Array Value} (h : Blk w g' t cs) (hn : g' ≠ g) (v0 v1 v2 v3 v4 v5 v6 v7 v8 v9 : Value) : Blk ((((((((((w.setCell ⟨g, 0, none⟩ v0).setCell ⟨g, 1, none⟩ v1).setCell ⟨g, 2, none⟩ v2).setCell ⟨g, 3, none⟩ v3).setCell ⟨g, 4, none⟩ v4).setCell ⟨g, 5, none⟩ v5).setCell ⟨g, 6, none⟩ v6).setCell ⟨g, 7, none⟩ v7).setCell ⟨g, 8, none⟩ v8).setCell ⟨g, 9, none⟩ v9) g' t cs :=
  ((((((((((h.far (p := ⟨g, 0, none⟩) hn v0).far (p := ⟨g, 1, none⟩) hn v1).far (p := ⟨g, 2, none⟩) hn v2).far (p := ⟨g, 3, none⟩) hn v3).far (p := ⟨g, 4, none⟩) hn v4).far (p := ⟨g, 5, none⟩) hn v5).far (p := ⟨g, 6, none⟩) hn v6).far (p := ⟨g, 7, none⟩) hn v7).far (p := ⟨g, 8, none⟩) hn v8).far (p := ⟨g, 9, none⟩) hn v9)
theorem below10 {w0 w : World} {B g : Nat} (h : Below B w0 w) (hB : B ≤ g) (v0 v1 v2 v3 v4 v5 v6 v7 v8 v9 : Value) : Below B w0 ((((((((((w.setCell ⟨g, 0, none⟩ v0).setCell ⟨g, 1, none⟩ v1).setCell ⟨g, 2, none⟩ v2).setCell ⟨g, 3, none⟩ v3).setCell ⟨g, 4, none⟩ v4).setCell ⟨g, 5, none⟩ v5).setCell ⟨g, 6, none⟩ v6).setCell ⟨g, 7, none⟩ v7).setCell ⟨g, 8, none⟩ v8).setCell ⟨g, 9, none⟩ v9) :=
  ((((((((((h.setCell (p := ⟨g, 0, none⟩) hB v0).setCell (p := ⟨g, 1, none⟩) hB v1).setCell (p := ⟨g, 2, none⟩) hB v2).setCell (p := ⟨g, 3, none⟩) hB v3).setCell (p := ⟨g, 4, none⟩) hB v4).setCell (p := ⟨g, 5, none⟩) hB v5).setCell (p := ⟨g, 6, none⟩) hB v6).setCell (p := ⟨g, 7, none⟩) hB v7).setCell (p := ⟨g, 8, none⟩) hB v8).setCell (p := ⟨g, 9, none⟩) hB v9)

/-- What the first step of Meets leaves: both views lie in blocks of the call's own. -/
def TwoViews (w : World) (v1 v2 : Array Value) (p q : Value) (w' : World) : Prop := ∃ g1 g2, p = .pointer (some ⟨g1, 0, none⟩) ∧ q = .pointer (some ⟨g2, 0, none⟩) ∧ Blk w' g1 140 v1 ∧ Blk w' g2 140 v2 ∧ Below w.heap.size w w'
def meetsR (W H F L X Y N1 PX1 PY1 N2 PX2 PY2 : Int) (rows1 rows2 : List ByteArray) : Array Value :=
  if viewB W H F L X Y N1 PX1 PY1 rows1 && viewB W H F L X Y N2 PX2 PY2 rows2 then #[.int .i64 (meetV (shS W H F L X Y N1 PX1 PY1 rows1) (shS W H F L X Y N2 PX2 PY2 rows2)), .int .i64 0] else #[.int .i64 0, .int .i64 2]
set_option maxRecDepth 100000 in
set_option maxHeartbeats 3200000 in
theorem Meets_any (W H F L X Y : Int) (N1 PX1 PY1 : Int) (A1 : Option Addr) (n1 cap1 : Nat) (rows1 : List ByteArray) (N2 PX2 PY2 : Int) (A2 : Option Addr) (n2 cap2 : Nat) (rows2 : List ByteArray) (w : World) (hcap1 : n1 ≤ cap1) (hcm1 : cap1 ≤ maxLen) (hs1 : ∀ r ∈ rows1, r.size ≤ maxLen) (hr1 : Rd w w.heap.size 1 A1 n1 (rows1.map Value.string)) (hcap2 : n2 ≤ cap2) (hcm2 : cap2 ≤ maxLen) (hs2 : ∀ r ∈ rows2, r.size ≤ maxLen) (hr2 : Rd w w.heap.size 1 A2 n2 (rows2.map Value.string)) :
    Calls Tryz.prog 44 #[.agg #[.int .i64 W, .int .i64 H, .int .i64 F, .int .i64 L, .int .i64 X, .int .i64 Y], .agg #[.slice A1 n1 cap1], .agg #[.int .i64 N1, .int .i64 PX1, .int .i64 PY1], .agg #[.slice A2 n2 cap2], .agg #[.int .i64 N2, .int .i64 PX2, .int .i64 PY2]] w fun e w' => e = .returned (.tuple (meetsR W H F L X Y N1 PX1 PY1 N2 PX2 PY2 rows1 rows2)) ∧ Below w.heap.size w w' := by
  go_enter Tryz.func44, Tryz.ntmps44
  go_upto_region 1 with (fail)
  go_cut [12, 13] (fun p q wx => TwoViews w #[.int .i64 W, .int .i64 H, .int .i64 F, .int .i64 L, .int .i64 X, .int .i64 Y, .slice A1 n1 cap1, .int .i64 N1, .int .i64 PX1, .int .i64 PY1] #[.int .i64 W, .int .i64 H, .int .i64 F, .int .i64 L, .int .i64 X, .int .i64 Y, .slice A2 n2 cap2, .int .i64 N2, .int .i64 PX2, .int .i64 PY2] p q wx)
  case first =>
    obtain ⟨W0, hW0⟩ : ∃ W0 : World, W0 = (((((w.alloc (.cells #[.int .i64 W, .int .i64 H, .int .i64 F, .int .i64 L, .int .i64 X, .int .i64 Y] 23)).alloc (.cells #[.slice A1 n1 cap1] 26)).alloc (.cells #[.int .i64 N1, .int .i64 PX1, .int .i64 PY1] 28)).alloc (.cells #[.slice A2 n2 cap2] 26)).alloc (.cells #[.int .i64 N2, .int .i64 PX2, .int .i64 PY2] 28)) := ⟨_, rfl⟩
    have hB0 : Below w.heap.size w W0 := by rw [hW0]; exact (pro4 w _ _ _ _).alloc (by simp only [World.size_alloc]; omega) _
    have hb1 : Blk W0 (w.heap.size) 23 #[.int .i64 W, .int .i64 H, .int .i64 F, .int .i64 L, .int .i64 X, .int .i64 Y] := by rw [hW0]; exact (blk1 w _ _ _ 23 _).alloc _
    have hb2 : Blk W0 (w.heap.size + 1) 26 #[.slice A1 n1 cap1] := by rw [hW0]; exact (((blk2 w _ 26 _).alloc _).alloc _).alloc _
    have hb3 : Blk W0 (w.heap.size + 1 + 1) 28 #[.int .i64 N1, .int .i64 PX1, .int .i64 PY1] := by rw [hW0]; have h := (((Blk.new ((w.alloc (.cells #[.int .i64 W, .int .i64 H, .int .i64 F, .int .i64 L, .int .i64 X, .int .i64 Y] 23)).alloc (.cells #[.slice A1 n1 cap1] 26)) 28 #[.int .i64 N1, .int .i64 PX1, .int .i64 PY1]).alloc (.cells #[.slice A2 n2 cap2] 26)).alloc (.cells #[.int .i64 N2, .int .i64 PX2, .int .i64 PY2] 28)); simpa only [World.size_alloc] using h
    have hb4 : Blk W0 (w.heap.size + 1 + 1 + 1) 26 #[.slice A2 n2 cap2] := by rw [hW0]; exact (blk4 w _ _ _ 26 _).alloc _
    have hb5 : Blk W0 (w.heap.size + 1 + 1 + 1 + 1) 28 #[.int .i64 N2, .int .i64 PX2, .int .i64 PY2] := by rw [hW0]; have h := Blk.new ((((w.alloc (.cells #[.int .i64 W, .int .i64 H, .int .i64 F, .int .i64 L, .int .i64 X, .int .i64 Y] 23)).alloc (.cells #[.slice A1 n1 cap1] 26)).alloc (.cells #[.int .i64 N1, .int .i64 PX1, .int .i64 PY1] 28)).alloc (.cells #[.slice A2 n2 cap2] 26)) 28 #[.int .i64 N2, .int .i64 PX2, .int .i64 PY2]; simpa only [World.size_alloc] using h
    rw [← hW0]
    clear hW0
    have hTT := And.intro hb1 (And.intro hb2 (And.intro hb3 (And.intro hb4 hb5)))
    refine wp_region_G (fun w' => Blk w' (w.heap.size) 23 #[.int .i64 W, .int .i64 H, .int .i64 F, .int .i64 L, .int .i64 X, .int .i64 Y] ∧ Blk w' (w.heap.size + 1) 26 #[.slice A1 n1 cap1] ∧ Blk w' (w.heap.size + 1 + 1) 28 #[.int .i64 N1, .int .i64 PX1, .int .i64 PY1] ∧ Blk w' (w.heap.size + 1 + 1 + 1) 26 #[.slice A2 n2 cap2] ∧ Blk w' (w.heap.size + 1 + 1 + 1 + 1) 28 #[.int .i64 N2, .int .i64 PX2, .int .i64 PY2]) 11 (by kernel_rfl) ?_
    refine wpG_take (i := 0) (v := ?v0) rfl (by kernel_rfl) (by kernel_rfl) (by kernel_rfl) (by kernel_rfl) (fun _ _ _ h => h) (Or.inl ⟨by rfl, ?hy0⟩) hTT ?rest0
    case hy0 => intro wq hSw; have hq1 := fun i => hSw.1.cell i; have hq2 := fun i => hSw.2.1.cell i; have hq3 := fun i => hSw.2.2.1.cell i; have hq4 := fun i => hSw.2.2.2.1.cell i; have hq5 := fun i => hSw.2.2.2.2.cell i; go_simp <;> with_reducible rfl
    simp only [List.getElem_toArray, List.getElem_cons_zero, List.getElem_cons_succ, Act.put, List.setIfInBounds_toArray, List.set_cons_zero, List.set_cons_succ]
    refine wpG_take (i := 1) (v := ?v1) rfl (by kernel_rfl) (by kernel_rfl) (by kernel_rfl) (by kernel_rfl) (fun _ _ _ h => h) (Or.inl ⟨by rfl, ?hy1⟩) hTT ?rest1
    case hy1 => intro wq hSw; have hq1 := fun i => hSw.1.cell i; have hq2 := fun i => hSw.2.1.cell i; have hq3 := fun i => hSw.2.2.1.cell i; have hq4 := fun i => hSw.2.2.2.1.cell i; have hq5 := fun i => hSw.2.2.2.2.cell i; go_simp <;> with_reducible rfl
    simp only [List.getElem_toArray, List.getElem_cons_zero, List.getElem_cons_succ, Act.put, List.setIfInBounds_toArray, List.set_cons_zero, List.set_cons_succ]
    refine wpG_take (i := 2) (v := ?v2) rfl (by kernel_rfl) (by kernel_rfl) (by kernel_rfl) (by kernel_rfl) (fun _ _ _ h => h) (Or.inl ⟨by rfl, ?hy2⟩) hTT ?rest2
    case hy2 => intro wq hSw; have hq1 := fun i => hSw.1.cell i; have hq2 := fun i => hSw.2.1.cell i; have hq3 := fun i => hSw.2.2.1.cell i; have hq4 := fun i => hSw.2.2.2.1.cell i; have hq5 := fun i => hSw.2.2.2.2.cell i; go_simp <;> with_reducible rfl
    simp only [List.getElem_toArray, List.getElem_cons_zero, List.getElem_cons_succ, Act.put, List.setIfInBounds_toArray, List.set_cons_zero, List.set_cons_succ]
    refine wpG_take (i := 3) (v := ?v3) rfl (by kernel_rfl) (by kernel_rfl) (by kernel_rfl) (by kernel_rfl) (fun _ _ _ h => h) (Or.inl ⟨by rfl, ?hy3⟩) hTT ?rest3
    case hy3 => intro wq hSw; have hq1 := fun i => hSw.1.cell i; have hq2 := fun i => hSw.2.1.cell i; have hq3 := fun i => hSw.2.2.1.cell i; have hq4 := fun i => hSw.2.2.2.1.cell i; have hq5 := fun i => hSw.2.2.2.2.cell i; go_simp <;> with_reducible rfl
    simp only [List.getElem_toArray, List.getElem_cons_zero, List.getElem_cons_succ, Act.put, List.setIfInBounds_toArray, List.set_cons_zero, List.set_cons_succ]
    refine wpG_take (i := 4) (v := ?v4) rfl (by kernel_rfl) (by kernel_rfl) (by kernel_rfl) (by kernel_rfl) (fun _ _ _ h => h) (Or.inl ⟨by rfl, ?hy4⟩) hTT ?rest4
    case hy4 => intro wq hSw; have hq1 := fun i => hSw.1.cell i; have hq2 := fun i => hSw.2.1.cell i; have hq3 := fun i => hSw.2.2.1.cell i; have hq4 := fun i => hSw.2.2.2.1.cell i; have hq5 := fun i => hSw.2.2.2.2.cell i; go_simp <;> with_reducible rfl
    simp only [List.getElem_toArray, List.getElem_cons_zero, List.getElem_cons_succ, Act.put, List.setIfInBounds_toArray, List.set_cons_zero, List.set_cons_succ]
    refine wpG_take (i := 5) (v := ?v5) rfl (by kernel_rfl) (by kernel_rfl) (by kernel_rfl) (by kernel_rfl) (fun _ _ _ h => h) (Or.inl ⟨by rfl, ?hy5⟩) hTT ?rest5
    case hy5 => intro wq hSw; have hq1 := fun i => hSw.1.cell i; have hq2 := fun i => hSw.2.1.cell i; have hq3 := fun i => hSw.2.2.1.cell i; have hq4 := fun i => hSw.2.2.2.1.cell i; have hq5 := fun i => hSw.2.2.2.2.cell i; go_simp <;> with_reducible rfl
    simp only [List.getElem_toArray, List.getElem_cons_zero, List.getElem_cons_succ, Act.put, List.setIfInBounds_toArray, List.set_cons_zero, List.set_cons_succ]
    refine wpG_take (i := 6) (v := ?v6) rfl (by kernel_rfl) (by kernel_rfl) (by kernel_rfl) (by kernel_rfl) (fun _ _ _ h => h) (Or.inl ⟨by rfl, ?hy6⟩) hTT ?rest6
    case hy6 => intro wq hSw; have hq1 := fun i => hSw.1.cell i; have hq2 := fun i => hSw.2.1.cell i; have hq3 := fun i => hSw.2.2.1.cell i; have hq4 := fun i => hSw.2.2.2.1.cell i; have hq5 := fun i => hSw.2.2.2.2.cell i; go_simp <;> with_reducible rfl
    simp only [List.getElem_toArray, List.getElem_cons_zero, List.getElem_cons_succ, Act.put, List.setIfInBounds_toArray, List.set_cons_zero, List.set_cons_succ]
    refine wpG_take (i := 7) (v := ?v7) rfl (by kernel_rfl) (by kernel_rfl) (by kernel_rfl) (by kernel_rfl) (fun _ _ _ h => h) (Or.inl ⟨by rfl, ?hy7⟩) hTT ?rest7
    case hy7 => intro wq hSw; have hq1 := fun i => hSw.1.cell i; have hq2 := fun i => hSw.2.1.cell i; have hq3 := fun i => hSw.2.2.1.cell i; have hq4 := fun i => hSw.2.2.2.1.cell i; have hq5 := fun i => hSw.2.2.2.2.cell i; go_simp <;> with_reducible rfl
    simp only [List.getElem_toArray, List.getElem_cons_zero, List.getElem_cons_succ, Act.put, List.setIfInBounds_toArray, List.set_cons_zero, List.set_cons_succ]
    refine wpG_two (i := 8) (j := 9) rfl rfl (by kernel_rfl) (fun K hK => ?_) (fun K hK => ?_)
    · go_simp
      have hz1 := Blk.new W0.drew 140 #[.int .i64 0, .int .i64 0, .int .i64 0, .int .i64 0, .int .i64 0, .int .i64 0, .slice none 0 0, .int .i64 0, .int .i64 0, .int .i64 0]
      have hc1 := Blk.alloc (w := W0.drew) hb1 (.cells #[.int .i64 0, .int .i64 0, .int .i64 0, .int .i64 0, .int .i64 0, .int .i64 0, .slice none 0 0, .int .i64 0, .int .i64 0, .int .i64 0] 140); have hc2 := Blk.alloc (w := W0.drew) hb2 (.cells #[.int .i64 0, .int .i64 0, .int .i64 0, .int .i64 0, .int .i64 0, .int .i64 0, .slice none 0 0, .int .i64 0, .int .i64 0, .int .i64 0] 140); have hc3 := Blk.alloc (w := W0.drew) hb3 (.cells #[.int .i64 0, .int .i64 0, .int .i64 0, .int .i64 0, .int .i64 0, .int .i64 0, .slice none 0 0, .int .i64 0, .int .i64 0, .int .i64 0] 140); have hc4 := Blk.alloc (w := W0.drew) hb4 (.cells #[.int .i64 0, .int .i64 0, .int .i64 0, .int .i64 0, .int .i64 0, .int .i64 0, .slice none 0 0, .int .i64 0, .int .i64 0, .int .i64 0] 140); have hc5 := Blk.alloc (w := W0.drew) hb5 (.cells #[.int .i64 0, .int .i64 0, .int .i64 0, .int .i64 0, .int .i64 0, .int .i64 0, .slice none 0 0, .int .i64 0, .int .i64 0, .int .i64 0] 140); 
      clear hTT; have hTT := And.intro hc1 (And.intro hc2 (And.intro hc3 (And.intro hc4 hc5)))
      refine hK _ _ (.inr hTT) ?_
      clear hK K
      try simp only [List.getElem_toArray, List.getElem_cons_zero, List.getElem_cons_succ, Act.put, List.setIfInBounds_toArray, List.set_cons_zero, List.set_cons_succ]
      refine wpG_one (i := 9) rfl (by kernel_rfl) (fun K hK => ?_)
      go_simp
      have hy1 := hz1.alloc (.cells #[.int .i64 0, .int .i64 0, .int .i64 0, .int .i64 0, .int .i64 0, .int .i64 0, .slice none 0 0, .int .i64 0, .int .i64 0, .int .i64 0] 140); have hy2 := Blk.new (W0.drew.alloc (.cells #[.int .i64 0, .int .i64 0, .int .i64 0, .int .i64 0, .int .i64 0, .int .i64 0, .slice none 0 0, .int .i64 0, .int .i64 0, .int .i64 0] 140)) 140 #[.int .i64 0, .int .i64 0, .int .i64 0, .int .i64 0, .int .i64 0, .int .i64 0, .slice none 0 0, .int .i64 0, .int .i64 0, .int .i64 0]; have hd1 := Blk.alloc (w := W0.drew.alloc (.cells #[.int .i64 0, .int .i64 0, .int .i64 0, .int .i64 0, .int .i64 0, .int .i64 0, .slice none 0 0, .int .i64 0, .int .i64 0, .int .i64 0] 140)) hc1 (.cells #[.int .i64 0, .int .i64 0, .int .i64 0, .int .i64 0, .int .i64 0, .int .i64 0, .slice none 0 0, .int .i64 0, .int .i64 0, .int .i64 0] 140); have hd2 := Blk.alloc (w := W0.drew.alloc (.cells #[.int .i64 0, .int .i64 0, .int .i64 0, .int .i64 0, .int .i64 0, .int .i64 0, .slice none 0 0, .int .i64 0, .int .i64 0, .int .i64 0] 140)) hc2 (.cells #[.int .i64 0, .int .i64 0, .int .i64 0, .int .i64 0, .int .i64 0, .int .i64 0, .slice none 0 0, .int .i64 0, .int .i64 0, .int .i64 0] 140); have hd3 := Blk.alloc (w := W0.drew.alloc (.cells #[.int .i64 0, .int .i64 0, .int .i64 0, .int .i64 0, .int .i64 0, .int .i64 0, .slice none 0 0, .int .i64 0, .int .i64 0, .int .i64 0] 140)) hc3 (.cells #[.int .i64 0, .int .i64 0, .int .i64 0, .int .i64 0, .int .i64 0, .int .i64 0, .slice none 0 0, .int .i64 0, .int .i64 0, .int .i64 0] 140); have hd4 := Blk.alloc (w := W0.drew.alloc (.cells #[.int .i64 0, .int .i64 0, .int .i64 0, .int .i64 0, .int .i64 0, .int .i64 0, .slice none 0 0, .int .i64 0, .int .i64 0, .int .i64 0] 140)) hc4 (.cells #[.int .i64 0, .int .i64 0, .int .i64 0, .int .i64 0, .int .i64 0, .int .i64 0, .slice none 0 0, .int .i64 0, .int .i64 0, .int .i64 0] 140); have hd5 := Blk.alloc (w := W0.drew.alloc (.cells #[.int .i64 0, .int .i64 0, .int .i64 0, .int .i64 0, .int .i64 0, .int .i64 0, .slice none 0 0, .int .i64 0, .int .i64 0, .int .i64 0] 140)) hc5 (.cells #[.int .i64 0, .int .i64 0, .int .i64 0, .int .i64 0, .int .i64 0, .int .i64 0, .slice none 0 0, .int .i64 0, .int .i64 0, .int .i64 0] 140); clear hTT; have hTT := And.intro hd1 (And.intro hd2 (And.intro hd3 (And.intro hd4 hd5)))
      refine hK _ _ (.inr hTT) ?_
      clear hK K
      try simp only [List.getElem_toArray, List.getElem_cons_zero, List.getElem_cons_succ, Act.put, List.setIfInBounds_toArray, List.set_cons_zero, List.set_cons_succ]
      have hWB : Below w.heap.size w (((W0.alloc (.cells #[.int .i64 0, .int .i64 0, .int .i64 0, .int .i64 0, .int .i64 0, .int .i64 0, .slice none 0 0, .int .i64 0, .int .i64 0, .int .i64 0] 140)).alloc (.cells #[.int .i64 0, .int .i64 0, .int .i64 0, .int .i64 0, .int .i64 0, .int .i64 0, .slice none 0 0, .int .i64 0, .int .i64 0, .int .i64 0] 140)).drew) := Below.drew ((hB0.alloc hB0.size _).alloc (by have := hB0.size; simp only [World.size_alloc]; omega) _)
      replace hy1 : Blk (((W0.alloc (.cells #[.int .i64 0, .int .i64 0, .int .i64 0, .int .i64 0, .int .i64 0, .int .i64 0, .slice none 0 0, .int .i64 0, .int .i64 0, .int .i64 0] 140)).alloc (.cells #[.int .i64 0, .int .i64 0, .int .i64 0, .int .i64 0, .int .i64 0, .int .i64 0, .slice none 0 0, .int .i64 0, .int .i64 0, .int .i64 0] 140)).drew) W0.heap.size 140 #[.int .i64 0, .int .i64 0, .int .i64 0, .int .i64 0, .int .i64 0, .int .i64 0, .slice none 0 0, .int .i64 0, .int .i64 0, .int .i64 0] := hy1
      replace hy2 : Blk (((W0.alloc (.cells #[.int .i64 0, .int .i64 0, .int .i64 0, .int .i64 0, .int .i64 0, .int .i64 0, .slice none 0 0, .int .i64 0, .int .i64 0, .int .i64 0] 140)).alloc (.cells #[.int .i64 0, .int .i64 0, .int .i64 0, .int .i64 0, .int .i64 0, .int .i64 0, .slice none 0 0, .int .i64 0, .int .i64 0, .int .i64 0] 140)).drew) (W0.heap.size + 1) 140 #[.int .i64 0, .int .i64 0, .int .i64 0, .int .i64 0, .int .i64 0, .int .i64 0, .slice none 0 0, .int .i64 0, .int .i64 0, .int .i64 0] := by have h := Blk.new (W0.alloc (.cells #[.int .i64 0, .int .i64 0, .int .i64 0, .int .i64 0, .int .i64 0, .int .i64 0, .slice none 0 0, .int .i64 0, .int .i64 0, .int .i64 0] 140)) 140 #[.int .i64 0, .int .i64 0, .int .i64 0, .int .i64 0, .int .i64 0, .int .i64 0, .slice none 0 0, .int .i64 0, .int .i64 0, .int .i64 0]; rw [World.size_alloc] at h; exact h
      replace hd1 := Blk.drew (w := (W0.alloc (.cells #[.int .i64 0, .int .i64 0, .int .i64 0, .int .i64 0, .int .i64 0, .int .i64 0, .slice none 0 0, .int .i64 0, .int .i64 0, .int .i64 0] 140)).alloc (.cells #[.int .i64 0, .int .i64 0, .int .i64 0, .int .i64 0, .int .i64 0, .int .i64 0, .slice none 0 0, .int .i64 0, .int .i64 0, .int .i64 0] 140)) hd1
      replace hd2 := Blk.drew (w := (W0.alloc (.cells #[.int .i64 0, .int .i64 0, .int .i64 0, .int .i64 0, .int .i64 0, .int .i64 0, .slice none 0 0, .int .i64 0, .int .i64 0, .int .i64 0] 140)).alloc (.cells #[.int .i64 0, .int .i64 0, .int .i64 0, .int .i64 0, .int .i64 0, .int .i64 0, .slice none 0 0, .int .i64 0, .int .i64 0, .int .i64 0] 140)) hd2
      replace hd3 := Blk.drew (w := (W0.alloc (.cells #[.int .i64 0, .int .i64 0, .int .i64 0, .int .i64 0, .int .i64 0, .int .i64 0, .slice none 0 0, .int .i64 0, .int .i64 0, .int .i64 0] 140)).alloc (.cells #[.int .i64 0, .int .i64 0, .int .i64 0, .int .i64 0, .int .i64 0, .int .i64 0, .slice none 0 0, .int .i64 0, .int .i64 0, .int .i64 0] 140)) hd3
      replace hd4 := Blk.drew (w := (W0.alloc (.cells #[.int .i64 0, .int .i64 0, .int .i64 0, .int .i64 0, .int .i64 0, .int .i64 0, .slice none 0 0, .int .i64 0, .int .i64 0, .int .i64 0] 140)).alloc (.cells #[.int .i64 0, .int .i64 0, .int .i64 0, .int .i64 0, .int .i64 0, .int .i64 0, .slice none 0 0, .int .i64 0, .int .i64 0, .int .i64 0] 140)) hd4
      replace hd5 := Blk.drew (w := (W0.alloc (.cells #[.int .i64 0, .int .i64 0, .int .i64 0, .int .i64 0, .int .i64 0, .int .i64 0, .slice none 0 0, .int .i64 0, .int .i64 0, .int .i64 0] 140)).alloc (.cells #[.int .i64 0, .int .i64 0, .int .i64 0, .int .i64 0, .int .i64 0, .int .i64 0, .slice none 0 0, .int .i64 0, .int .i64 0, .int .i64 0] 140)) hd5
      have hlt1 := hb1.lt
      have hlt2 := hb2.lt
      have hlt3 := hb3.lt
      have hlt4 := hb4.lt
      have hlt5 := hb5.lt
      clear hz1 hTT hc1 hc2 hc3 hc4 hc5
      have hTT := And.intro hd1 (And.intro hd2 (And.intro hd3 (And.intro hd4 hd5)))
      have hle0 := hB0.size
      generalize hG : W0.heap.size = G at *
      generalize ((W0.alloc (.cells #[.int .i64 0, .int .i64 0, .int .i64 0, .int .i64 0, .int .i64 0, .int .i64 0, .slice none 0 0, .int .i64 0, .int .i64 0, .int .i64 0] 140)).alloc (.cells #[.int .i64 0, .int .i64 0, .int .i64 0, .int .i64 0, .int .i64 0, .int .i64 0, .slice none 0 0, .int .i64 0, .int .i64 0, .int .i64 0] 140)).drew = W2 at *
      have hl1 := hy1.lt; have hl2 := hy2.lt; have hfz1 := fun i => hy1.frozen i; have hfz2 := fun i => hy2.frozen i; have hcz1 := fun i => hy1.cell i; have hcz2 := fun i => hy2.cell i
      refine wpG_one (i := 10) rfl (by kernel_rfl) (fun K hK => ?_)
      go_simp
      have hs1 := blk10 hy1 (.int .i64 W) (.int .i64 H) (.int .i64 F) (.int .i64 L) (.int .i64 X) (.int .i64 Y) (.slice A1 n1 cap1) (.int .i64 N1) (.int .i64 PX1) (.int .i64 PY1); have hs2 := far10 hy2 (g := G) (by omega) (.int .i64 W) (.int .i64 H) (.int .i64 F) (.int .i64 L) (.int .i64 X) (.int .i64 Y) (.slice A1 n1 cap1) (.int .i64 N1) (.int .i64 PX1) (.int .i64 PY1); have hsB := below10 hWB (g := G) (by omega) (.int .i64 W) (.int .i64 H) (.int .i64 F) (.int .i64 L) (.int .i64 X) (.int .i64 Y) (.slice A1 n1 cap1) (.int .i64 N1) (.int .i64 PX1) (.int .i64 PY1); have he1 := far10 hd1 (g := G) (by omega) (.int .i64 W) (.int .i64 H) (.int .i64 F) (.int .i64 L) (.int .i64 X) (.int .i64 Y) (.slice A1 n1 cap1) (.int .i64 N1) (.int .i64 PX1) (.int .i64 PY1); have he2 := far10 hd2 (g := G) (by omega) (.int .i64 W) (.int .i64 H) (.int .i64 F) (.int .i64 L) (.int .i64 X) (.int .i64 Y) (.slice A1 n1 cap1) (.int .i64 N1) (.int .i64 PX1) (.int .i64 PY1); have he3 := far10 hd3 (g := G) (by omega) (.int .i64 W) (.int .i64 H) (.int .i64 F) (.int .i64 L) (.int .i64 X) (.int .i64 Y) (.slice A1 n1 cap1) (.int .i64 N1) (.int .i64 PX1) (.int .i64 PY1); have he4 := far10 hd4 (g := G) (by omega) (.int .i64 W) (.int .i64 H) (.int .i64 F) (.int .i64 L) (.int .i64 X) (.int .i64 Y) (.slice A1 n1 cap1) (.int .i64 N1) (.int .i64 PX1) (.int .i64 PY1); have he5 := far10 hd5 (g := G) (by omega) (.int .i64 W) (.int .i64 H) (.int .i64 F) (.int .i64 L) (.int .i64 X) (.int .i64 Y) (.slice A1 n1 cap1) (.int .i64 N1) (.int .i64 PX1) (.int .i64 PY1); clear hTT; have hTT := And.intro he1 (And.intro he2 (And.intro he3 (And.intro he4 he5)))
      refine hK _ _ (.inr hTT) ?_
      clear hK K
      try simp only [List.getElem_toArray, List.getElem_cons_zero, List.getElem_cons_succ, Act.put, List.setIfInBounds_toArray, List.set_cons_zero, List.set_cons_succ]
      generalize ((((((((((W2.setCell ⟨G, 0, none⟩ (.int .i64 W)).setCell ⟨G, 1, none⟩ (.int .i64 H)).setCell ⟨G, 2, none⟩ (.int .i64 F)).setCell ⟨G, 3, none⟩ (.int .i64 L)).setCell ⟨G, 4, none⟩ (.int .i64 X)).setCell ⟨G, 5, none⟩ (.int .i64 Y)).setCell ⟨G, 6, none⟩ (.slice A1 n1 cap1)).setCell ⟨G, 7, none⟩ (.int .i64 N1)).setCell ⟨G, 8, none⟩ (.int .i64 PX1)).setCell ⟨G, 9, none⟩ (.int .i64 PY1)) = W3 at *
      clear hfz1 hfz2 hcz1 hcz2 hl1 hl2
      have hl2 := hs2.lt; have hfz2 := fun i => hs2.frozen i; have hcz2 := fun i => hs2.cell i
      refine wpG_one (i := 11) rfl (by kernel_rfl) (fun K hK => ?_)
      go_simp
      refine hK _ _ (.inl rfl) ?_
      clear hK K
      try simp only [List.getElem_toArray, List.getElem_cons_zero, List.getElem_cons_succ, Act.put, List.setIfInBounds_toArray, List.set_cons_zero, List.set_cons_succ]
      refine wpG_done (by kernel_rfl) ?_ _
      go_wp2_with (fail)
      go_meet
      exact ⟨G, (G + 1), rfl, rfl, far10 hs1 (by omega) (.int .i64 W) (.int .i64 H) (.int .i64 F) (.int .i64 L) (.int .i64 X) (.int .i64 Y) (.slice A2 n2 cap2) (.int .i64 N2) (.int .i64 PX2) (.int .i64 PY2), blk10 hs2 (.int .i64 W) (.int .i64 H) (.int .i64 F) (.int .i64 L) (.int .i64 X) (.int .i64 Y) (.slice A2 n2 cap2) (.int .i64 N2) (.int .i64 PX2) (.int .i64 PY2), below10 hsB (by omega) (.int .i64 W) (.int .i64 H) (.int .i64 F) (.int .i64 L) (.int .i64 X) (.int .i64 Y) (.slice A2 n2 cap2) (.int .i64 N2) (.int .i64 PX2) (.int .i64 PY2)⟩
    · go_simp
      have hz1 := Blk.new W0.drew 140 #[.int .i64 0, .int .i64 0, .int .i64 0, .int .i64 0, .int .i64 0, .int .i64 0, .slice none 0 0, .int .i64 0, .int .i64 0, .int .i64 0]
      have hc1 := Blk.alloc (w := W0.drew) hb1 (.cells #[.int .i64 0, .int .i64 0, .int .i64 0, .int .i64 0, .int .i64 0, .int .i64 0, .slice none 0 0, .int .i64 0, .int .i64 0, .int .i64 0] 140); have hc2 := Blk.alloc (w := W0.drew) hb2 (.cells #[.int .i64 0, .int .i64 0, .int .i64 0, .int .i64 0, .int .i64 0, .int .i64 0, .slice none 0 0, .int .i64 0, .int .i64 0, .int .i64 0] 140); have hc3 := Blk.alloc (w := W0.drew) hb3 (.cells #[.int .i64 0, .int .i64 0, .int .i64 0, .int .i64 0, .int .i64 0, .int .i64 0, .slice none 0 0, .int .i64 0, .int .i64 0, .int .i64 0] 140); have hc4 := Blk.alloc (w := W0.drew) hb4 (.cells #[.int .i64 0, .int .i64 0, .int .i64 0, .int .i64 0, .int .i64 0, .int .i64 0, .slice none 0 0, .int .i64 0, .int .i64 0, .int .i64 0] 140); have hc5 := Blk.alloc (w := W0.drew) hb5 (.cells #[.int .i64 0, .int .i64 0, .int .i64 0, .int .i64 0, .int .i64 0, .int .i64 0, .slice none 0 0, .int .i64 0, .int .i64 0, .int .i64 0] 140); 
      clear hTT; have hTT := And.intro hc1 (And.intro hc2 (And.intro hc3 (And.intro hc4 hc5)))
      refine hK _ _ (.inr hTT) ?_
      clear hK K
      try simp only [List.getElem_toArray, List.getElem_cons_zero, List.getElem_cons_succ, Act.put, List.setIfInBounds_toArray, List.set_cons_zero, List.set_cons_succ]
      refine wpG_one (i := 8) rfl (by kernel_rfl) (fun K hK => ?_)
      go_simp
      have hy1 := hz1.alloc (.cells #[.int .i64 0, .int .i64 0, .int .i64 0, .int .i64 0, .int .i64 0, .int .i64 0, .slice none 0 0, .int .i64 0, .int .i64 0, .int .i64 0] 140); have hy2 := Blk.new (W0.drew.alloc (.cells #[.int .i64 0, .int .i64 0, .int .i64 0, .int .i64 0, .int .i64 0, .int .i64 0, .slice none 0 0, .int .i64 0, .int .i64 0, .int .i64 0] 140)) 140 #[.int .i64 0, .int .i64 0, .int .i64 0, .int .i64 0, .int .i64 0, .int .i64 0, .slice none 0 0, .int .i64 0, .int .i64 0, .int .i64 0]; have hd1 := Blk.alloc (w := W0.drew.alloc (.cells #[.int .i64 0, .int .i64 0, .int .i64 0, .int .i64 0, .int .i64 0, .int .i64 0, .slice none 0 0, .int .i64 0, .int .i64 0, .int .i64 0] 140)) hc1 (.cells #[.int .i64 0, .int .i64 0, .int .i64 0, .int .i64 0, .int .i64 0, .int .i64 0, .slice none 0 0, .int .i64 0, .int .i64 0, .int .i64 0] 140); have hd2 := Blk.alloc (w := W0.drew.alloc (.cells #[.int .i64 0, .int .i64 0, .int .i64 0, .int .i64 0, .int .i64 0, .int .i64 0, .slice none 0 0, .int .i64 0, .int .i64 0, .int .i64 0] 140)) hc2 (.cells #[.int .i64 0, .int .i64 0, .int .i64 0, .int .i64 0, .int .i64 0, .int .i64 0, .slice none 0 0, .int .i64 0, .int .i64 0, .int .i64 0] 140); have hd3 := Blk.alloc (w := W0.drew.alloc (.cells #[.int .i64 0, .int .i64 0, .int .i64 0, .int .i64 0, .int .i64 0, .int .i64 0, .slice none 0 0, .int .i64 0, .int .i64 0, .int .i64 0] 140)) hc3 (.cells #[.int .i64 0, .int .i64 0, .int .i64 0, .int .i64 0, .int .i64 0, .int .i64 0, .slice none 0 0, .int .i64 0, .int .i64 0, .int .i64 0] 140); have hd4 := Blk.alloc (w := W0.drew.alloc (.cells #[.int .i64 0, .int .i64 0, .int .i64 0, .int .i64 0, .int .i64 0, .int .i64 0, .slice none 0 0, .int .i64 0, .int .i64 0, .int .i64 0] 140)) hc4 (.cells #[.int .i64 0, .int .i64 0, .int .i64 0, .int .i64 0, .int .i64 0, .int .i64 0, .slice none 0 0, .int .i64 0, .int .i64 0, .int .i64 0] 140); have hd5 := Blk.alloc (w := W0.drew.alloc (.cells #[.int .i64 0, .int .i64 0, .int .i64 0, .int .i64 0, .int .i64 0, .int .i64 0, .slice none 0 0, .int .i64 0, .int .i64 0, .int .i64 0] 140)) hc5 (.cells #[.int .i64 0, .int .i64 0, .int .i64 0, .int .i64 0, .int .i64 0, .int .i64 0, .slice none 0 0, .int .i64 0, .int .i64 0, .int .i64 0] 140); clear hTT; have hTT := And.intro hd1 (And.intro hd2 (And.intro hd3 (And.intro hd4 hd5)))
      refine hK _ _ (.inr hTT) ?_
      clear hK K
      try simp only [List.getElem_toArray, List.getElem_cons_zero, List.getElem_cons_succ, Act.put, List.setIfInBounds_toArray, List.set_cons_zero, List.set_cons_succ]
      have hWB : Below w.heap.size w (((W0.alloc (.cells #[.int .i64 0, .int .i64 0, .int .i64 0, .int .i64 0, .int .i64 0, .int .i64 0, .slice none 0 0, .int .i64 0, .int .i64 0, .int .i64 0] 140)).alloc (.cells #[.int .i64 0, .int .i64 0, .int .i64 0, .int .i64 0, .int .i64 0, .int .i64 0, .slice none 0 0, .int .i64 0, .int .i64 0, .int .i64 0] 140)).drew) := Below.drew ((hB0.alloc hB0.size _).alloc (by have := hB0.size; simp only [World.size_alloc]; omega) _)
      replace hy1 : Blk (((W0.alloc (.cells #[.int .i64 0, .int .i64 0, .int .i64 0, .int .i64 0, .int .i64 0, .int .i64 0, .slice none 0 0, .int .i64 0, .int .i64 0, .int .i64 0] 140)).alloc (.cells #[.int .i64 0, .int .i64 0, .int .i64 0, .int .i64 0, .int .i64 0, .int .i64 0, .slice none 0 0, .int .i64 0, .int .i64 0, .int .i64 0] 140)).drew) W0.heap.size 140 #[.int .i64 0, .int .i64 0, .int .i64 0, .int .i64 0, .int .i64 0, .int .i64 0, .slice none 0 0, .int .i64 0, .int .i64 0, .int .i64 0] := hy1
      replace hy2 : Blk (((W0.alloc (.cells #[.int .i64 0, .int .i64 0, .int .i64 0, .int .i64 0, .int .i64 0, .int .i64 0, .slice none 0 0, .int .i64 0, .int .i64 0, .int .i64 0] 140)).alloc (.cells #[.int .i64 0, .int .i64 0, .int .i64 0, .int .i64 0, .int .i64 0, .int .i64 0, .slice none 0 0, .int .i64 0, .int .i64 0, .int .i64 0] 140)).drew) (W0.heap.size + 1) 140 #[.int .i64 0, .int .i64 0, .int .i64 0, .int .i64 0, .int .i64 0, .int .i64 0, .slice none 0 0, .int .i64 0, .int .i64 0, .int .i64 0] := by have h := Blk.new (W0.alloc (.cells #[.int .i64 0, .int .i64 0, .int .i64 0, .int .i64 0, .int .i64 0, .int .i64 0, .slice none 0 0, .int .i64 0, .int .i64 0, .int .i64 0] 140)) 140 #[.int .i64 0, .int .i64 0, .int .i64 0, .int .i64 0, .int .i64 0, .int .i64 0, .slice none 0 0, .int .i64 0, .int .i64 0, .int .i64 0]; rw [World.size_alloc] at h; exact h
      replace hd1 := Blk.drew (w := (W0.alloc (.cells #[.int .i64 0, .int .i64 0, .int .i64 0, .int .i64 0, .int .i64 0, .int .i64 0, .slice none 0 0, .int .i64 0, .int .i64 0, .int .i64 0] 140)).alloc (.cells #[.int .i64 0, .int .i64 0, .int .i64 0, .int .i64 0, .int .i64 0, .int .i64 0, .slice none 0 0, .int .i64 0, .int .i64 0, .int .i64 0] 140)) hd1
      replace hd2 := Blk.drew (w := (W0.alloc (.cells #[.int .i64 0, .int .i64 0, .int .i64 0, .int .i64 0, .int .i64 0, .int .i64 0, .slice none 0 0, .int .i64 0, .int .i64 0, .int .i64 0] 140)).alloc (.cells #[.int .i64 0, .int .i64 0, .int .i64 0, .int .i64 0, .int .i64 0, .int .i64 0, .slice none 0 0, .int .i64 0, .int .i64 0, .int .i64 0] 140)) hd2
      replace hd3 := Blk.drew (w := (W0.alloc (.cells #[.int .i64 0, .int .i64 0, .int .i64 0, .int .i64 0, .int .i64 0, .int .i64 0, .slice none 0 0, .int .i64 0, .int .i64 0, .int .i64 0] 140)).alloc (.cells #[.int .i64 0, .int .i64 0, .int .i64 0, .int .i64 0, .int .i64 0, .int .i64 0, .slice none 0 0, .int .i64 0, .int .i64 0, .int .i64 0] 140)) hd3
      replace hd4 := Blk.drew (w := (W0.alloc (.cells #[.int .i64 0, .int .i64 0, .int .i64 0, .int .i64 0, .int .i64 0, .int .i64 0, .slice none 0 0, .int .i64 0, .int .i64 0, .int .i64 0] 140)).alloc (.cells #[.int .i64 0, .int .i64 0, .int .i64 0, .int .i64 0, .int .i64 0, .int .i64 0, .slice none 0 0, .int .i64 0, .int .i64 0, .int .i64 0] 140)) hd4
      replace hd5 := Blk.drew (w := (W0.alloc (.cells #[.int .i64 0, .int .i64 0, .int .i64 0, .int .i64 0, .int .i64 0, .int .i64 0, .slice none 0 0, .int .i64 0, .int .i64 0, .int .i64 0] 140)).alloc (.cells #[.int .i64 0, .int .i64 0, .int .i64 0, .int .i64 0, .int .i64 0, .int .i64 0, .slice none 0 0, .int .i64 0, .int .i64 0, .int .i64 0] 140)) hd5
      have hlt1 := hb1.lt
      have hlt2 := hb2.lt
      have hlt3 := hb3.lt
      have hlt4 := hb4.lt
      have hlt5 := hb5.lt
      clear hz1 hTT hc1 hc2 hc3 hc4 hc5
      have hTT := And.intro hd1 (And.intro hd2 (And.intro hd3 (And.intro hd4 hd5)))
      have hle0 := hB0.size
      generalize hG : W0.heap.size = G at *
      generalize ((W0.alloc (.cells #[.int .i64 0, .int .i64 0, .int .i64 0, .int .i64 0, .int .i64 0, .int .i64 0, .slice none 0 0, .int .i64 0, .int .i64 0, .int .i64 0] 140)).alloc (.cells #[.int .i64 0, .int .i64 0, .int .i64 0, .int .i64 0, .int .i64 0, .int .i64 0, .slice none 0 0, .int .i64 0, .int .i64 0, .int .i64 0] 140)).drew = W2 at *
      have hl1 := hy1.lt; have hl2 := hy2.lt; have hfz1 := fun i => hy1.frozen i; have hfz2 := fun i => hy2.frozen i; have hcz1 := fun i => hy1.cell i; have hcz2 := fun i => hy2.cell i
      refine wpG_one (i := 10) rfl (by kernel_rfl) (fun K hK => ?_)
      go_simp
      have hs1 := blk10 hy2 (.int .i64 W) (.int .i64 H) (.int .i64 F) (.int .i64 L) (.int .i64 X) (.int .i64 Y) (.slice A1 n1 cap1) (.int .i64 N1) (.int .i64 PX1) (.int .i64 PY1); have hs2 := far10 hy1 (g := (G + 1)) (by omega) (.int .i64 W) (.int .i64 H) (.int .i64 F) (.int .i64 L) (.int .i64 X) (.int .i64 Y) (.slice A1 n1 cap1) (.int .i64 N1) (.int .i64 PX1) (.int .i64 PY1); have hsB := below10 hWB (g := (G + 1)) (by omega) (.int .i64 W) (.int .i64 H) (.int .i64 F) (.int .i64 L) (.int .i64 X) (.int .i64 Y) (.slice A1 n1 cap1) (.int .i64 N1) (.int .i64 PX1) (.int .i64 PY1); have he1 := far10 hd1 (g := (G + 1)) (by omega) (.int .i64 W) (.int .i64 H) (.int .i64 F) (.int .i64 L) (.int .i64 X) (.int .i64 Y) (.slice A1 n1 cap1) (.int .i64 N1) (.int .i64 PX1) (.int .i64 PY1); have he2 := far10 hd2 (g := (G + 1)) (by omega) (.int .i64 W) (.int .i64 H) (.int .i64 F) (.int .i64 L) (.int .i64 X) (.int .i64 Y) (.slice A1 n1 cap1) (.int .i64 N1) (.int .i64 PX1) (.int .i64 PY1); have he3 := far10 hd3 (g := (G + 1)) (by omega) (.int .i64 W) (.int .i64 H) (.int .i64 F) (.int .i64 L) (.int .i64 X) (.int .i64 Y) (.slice A1 n1 cap1) (.int .i64 N1) (.int .i64 PX1) (.int .i64 PY1); have he4 := far10 hd4 (g := (G + 1)) (by omega) (.int .i64 W) (.int .i64 H) (.int .i64 F) (.int .i64 L) (.int .i64 X) (.int .i64 Y) (.slice A1 n1 cap1) (.int .i64 N1) (.int .i64 PX1) (.int .i64 PY1); have he5 := far10 hd5 (g := (G + 1)) (by omega) (.int .i64 W) (.int .i64 H) (.int .i64 F) (.int .i64 L) (.int .i64 X) (.int .i64 Y) (.slice A1 n1 cap1) (.int .i64 N1) (.int .i64 PX1) (.int .i64 PY1); clear hTT; have hTT := And.intro he1 (And.intro he2 (And.intro he3 (And.intro he4 he5)))
      refine hK _ _ (.inr hTT) ?_
      clear hK K
      try simp only [List.getElem_toArray, List.getElem_cons_zero, List.getElem_cons_succ, Act.put, List.setIfInBounds_toArray, List.set_cons_zero, List.set_cons_succ]
      generalize ((((((((((W2.setCell ⟨(G + 1), 0, none⟩ (.int .i64 W)).setCell ⟨(G + 1), 1, none⟩ (.int .i64 H)).setCell ⟨(G + 1), 2, none⟩ (.int .i64 F)).setCell ⟨(G + 1), 3, none⟩ (.int .i64 L)).setCell ⟨(G + 1), 4, none⟩ (.int .i64 X)).setCell ⟨(G + 1), 5, none⟩ (.int .i64 Y)).setCell ⟨(G + 1), 6, none⟩ (.slice A1 n1 cap1)).setCell ⟨(G + 1), 7, none⟩ (.int .i64 N1)).setCell ⟨(G + 1), 8, none⟩ (.int .i64 PX1)).setCell ⟨(G + 1), 9, none⟩ (.int .i64 PY1)) = W3 at *
      clear hfz1 hfz2 hcz1 hcz2 hl1 hl2
      have hl2 := hs2.lt; have hfz2 := fun i => hs2.frozen i; have hcz2 := fun i => hs2.cell i
      refine wpG_one (i := 11) rfl (by kernel_rfl) (fun K hK => ?_)
      go_simp
      refine hK _ _ (.inl rfl) ?_
      clear hK K
      try simp only [List.getElem_toArray, List.getElem_cons_zero, List.getElem_cons_succ, Act.put, List.setIfInBounds_toArray, List.set_cons_zero, List.set_cons_succ]
      refine wpG_done (by kernel_rfl) ?_ _
      go_wp2_with (fail)
      go_meet
      exact ⟨(G + 1), G, rfl, rfl, far10 hs1 (by omega) (.int .i64 W) (.int .i64 H) (.int .i64 F) (.int .i64 L) (.int .i64 X) (.int .i64 Y) (.slice A2 n2 cap2) (.int .i64 N2) (.int .i64 PX2) (.int .i64 PY2), blk10 hs2 (.int .i64 W) (.int .i64 H) (.int .i64 F) (.int .i64 L) (.int .i64 X) (.int .i64 Y) (.slice A2 n2 cap2) (.int .i64 N2) (.int .i64 PX2) (.int .i64 PY2), below10 hsB (by omega) (.int .i64 W) (.int .i64 H) (.int .i64 F) (.int .i64 L) (.int .i64 X) (.int .i64 Y) (.slice A2 n2 cap2) (.int .i64 N2) (.int .i64 PX2) (.int .i64 PY2)⟩
  case rest =>
    obtain ⟨g1, g2, rfl, rfl, hb1, hb2, hB⟩ := hcut
    have hq1 := fun i => hb1.cell i
    have hq2 := fun i => hb2.cell i
    have hl1 := hb1.lt
    have hl2 := hb2.lt
    cases hv1 : viewB W H F L X Y N1 PX1 PY1 rows1
    · have hm : meetsR W H F L X Y N1 PX1 PY1 N2 PX2 PY2 rows1 rows2 = #[.int .i64 0, .int .i64 2] := by rw [meetsR, hv1]; rfl
      have HM := Lib.hid hm; clear hm
      go_wp2_with (first | (go_at_call 100; refine (viewGood_any W H F L X Y N1 PX1 PY1 A1 n1 cap1 rows1 _ (Nat.le_trans hcap1 hcm1) hs1 ((hr1.below hB).more hB.size)).mono ?_; rintro e wa ⟨rfl, hca⟩; rw [hv1]; have hBa := hB.trans (hca.mono hB.size); have hb1a := hb1.below hca hb1.lt; have hb2a := hb2.below hca hb2.lt; have hq1a := fun i => hb1a.cell i; have hq2a := fun i => hb2a.cell i; have hl1a := hb1a.lt; have hl2a := hb2a.lt))
      go_ret2
      exact ⟨by rw [HM.out]; rfl, hBa⟩
    · cases hv2 : viewB W H F L X Y N2 PX2 PY2 rows2
      · have hm : meetsR W H F L X Y N1 PX1 PY1 N2 PX2 PY2 rows1 rows2 = #[.int .i64 0, .int .i64 2] := by rw [meetsR, hv1, hv2]; rfl
        have HM := Lib.hid hm; clear hm
        go_wp2_with (first | (go_at_call 100; refine (viewGood_any W H F L X Y N2 PX2 PY2 A2 n2 cap2 rows2 _ (Nat.le_trans hcap2 hcm2) hs2 ((hr2.below hBa).more hBa.size)).mono ?_; rintro e wb ⟨rfl, hcb⟩; rw [hv2]; have hBb := hBa.trans (hcb.mono hBa.size); have hb1b := hb1a.below hcb hb1a.lt; have hb2b := hb2a.below hcb hb2a.lt; have hl1b := hb1b.lt; have hl2b := hb2b.lt) | (go_at_call 100; refine (viewGood_any W H F L X Y N1 PX1 PY1 A1 n1 cap1 rows1 _ (Nat.le_trans hcap1 hcm1) hs1 ((hr1.below hB).more hB.size)).mono ?_; rintro e wa ⟨rfl, hca⟩; rw [hv1]; have hBa := hB.trans (hca.mono hB.size); have hb1a := hb1.below hca hb1.lt; have hb2a := hb2.below hca hb2.lt; have hq1a := fun i => hb1a.cell i; have hq2a := fun i => hb2a.cell i; have hl1a := hb1a.lt; have hl2a := hb2a.lt))
        go_ret2
        exact ⟨by rw [HM.out]; rfl, hBb⟩
      · have hm : meetsR W H F L X Y N1 PX1 PY1 N2 PX2 PY2 rows1 rows2 = #[.int .i64 (meetV (shS W H F L X Y N1 PX1 PY1 rows1) (shS W H F L X Y N2 PX2 PY2 rows2)), .int .i64 0] := by rw [meetsR, hv1, hv2]; rfl
        have HM := Lib.hid hm; clear hm
        go_wp2_with (first | (go_at_call 100; refine (viewGood_any W H F L X Y N2 PX2 PY2 A2 n2 cap2 rows2 _ (Nat.le_trans hcap2 hcm2) hs2 ((hr2.below hBa).more hBa.size)).mono ?_; rintro e wb ⟨rfl, hcb⟩; rw [hv2]; have hBb := hBa.trans (hcb.mono hBa.size); have hb1b := hb1a.below hcb hb1a.lt; have hb2b := hb2a.below hcb hb2a.lt; have hl1b := hb1b.lt; have hl2b := hb2b.lt) | (go_at_call 100; refine (viewGood_any W H F L X Y N1 PX1 PY1 A1 n1 cap1 rows1 _ (Nat.le_trans hcap1 hcm1) hs1 ((hr1.below hB).more hB.size)).mono ?_; rintro e wa ⟨rfl, hca⟩; rw [hv1]; have hBa := hB.trans (hca.mono hB.size); have hb1a := hb1.below hca hb1.lt; have hb2a := hb2.below hca hb2.lt; have hq1a := fun i => hb1a.cell i; have hq2a := fun i => hb2a.cell i; have hl1a := hb1a.lt; have hl2a := hb2a.lt))
        clear hq1 hq2 hq1a hq2a
        have hvv := hv1
        simp only [viewB, Bool.and_eq_true] at hvv
        obtain ⟨⟨_, b1⟩, ⟨_, b2⟩, _⟩ := stageB_nums hvv.1
        clear hvv
        have hsz1 := shS_le F L X Y N1 PX1 PY1 rows1 (show W ≤ 50 by omega) (show H ≤ 50 by omega)
        have hse : (shS W H F L X Y N1 PX1 PY1 rows1).size ≤ (shS W H F L X Y N2 PX2 PY2 rows2).size := by rw [shS_size, shS_size]; exact Nat.le_refl _
        have hc1 := fun p i => blw_blk hb1b p i
        have hc2 := fun p i => blw_blk hb2b p i
        have hrw1 : Rd _ _ 1 A1 n1 (rows1.map Value.string) := (hr1.below hBb).more hBb.size
        have hrw2 : Rd _ _ 1 A2 n2 (rows2.map Value.string) := (hr2.below hBb).more hBb.size
        obtain ⟨s1, hs1'⟩ : ∃ s1, s1 = shS W H F L X Y N1 PX1 PY1 rows1 := ⟨_, rfl⟩
        obtain ⟨s2, hs2'⟩ : ∃ s2, s2 = shS W H F L X Y N2 PX2 PY2 rows2 := ⟨_, rfl⟩
        have hk1 : ∀ p : Blw wb.heap.size wb, Calls Tryz.prog 102 #[.agg #[.int .i64 W, .int .i64 H, .int .i64 F, .int .i64 L, .int .i64 X, .int .i64 Y, .slice A1 n1 cap1, .int .i64 N1, .int .i64 PX1, .int .i64 PY1]] p.to fun e w' => e = .returned (.string s1) ∧ Below p.to.heap.size p.to w' := fun p => by rw [hs1']; exact shadow_int W H F L X Y N1 PX1 PY1 A1 n1 cap1 rows1 _ hcap1 hcm1 (rd_blw hrw1 p) hv1
        have hk2 : ∀ p : Blw wb.heap.size wb, Calls Tryz.prog 102 #[.agg #[.int .i64 W, .int .i64 H, .int .i64 F, .int .i64 L, .int .i64 X, .int .i64 Y, .slice A2 n2 cap2, .int .i64 N2, .int .i64 PX2, .int .i64 PY2]] p.to fun e w' => e = .returned (.string s2) ∧ Below p.to.heap.size p.to w' := fun p => by rw [hs2']; exact shadow_int W H F L X Y N2 PX2 PY2 A2 n2 cap2 rows2 _ hcap2 hcm2 (rd_blw hrw2 p) hv2
        rw [← hs1', ← hs2'] at hse HM
        rw [← hs1'] at hsz1
        have hsm : s1.size ≤ maxLen := by unfold maxLen; omega
        clear hs1' hs2'
        refine wp_region_blw (by kernel_rfl) (by kernel_rfl) ?_
        go_big_quiet_step (fail)
        go_big_quiet_step (first | (go_at_call 102; exact Calls.blw_of _ (hk1 _)))
        go_big_quiet_step (fail)
        go_big_quiet_step (first | (go_at_call 102; exact Calls.blw_of _ (hk2 _)))
        repeat (go_big_quiet_step (first | (go_at_call 109; exact Calls.blw_of_same _ (meet_any s1 s2 _ hsm hse))))
        refine wpQuiet_nil ?_
        rintro W3 ⟨⟨_, hb3⟩, rfl⟩
        go_wp2_with (fail)
        go_ret2
        exact ⟨by rw [HM.out]; rfl, hBb.trans (hb3.mono hBb.size)⟩
end Go.Proofs.YtifddfchpknkbaaGreatDoor

namespace Go.Proofs.YtifddfchpknkbaaGreatDoor
open Go.RowKit Go.Lib
def kF : List ByteArray := [⟨#[35, 35]⟩, ⟨#[35, 35]⟩]
def kH : List ByteArray := [⟨#[35, 35]⟩, ⟨#[35, 46]⟩]
def kfs (A B : Option Addr) (a b : Nat) : List Fig := [⟨A, 2, a, kF⟩, ⟨B, 2, b, kH⟩]
theorem vCounts : countsR 8 8 8 1 4 4 4 3 3 kF = #[.int .i64 4, .int .i64 32, .int .i64 0] := by kernel_rfl
theorem vMost : mostR 8 8 8 1 4 4 3 3 kF = #[.int .i64 4, .int .i64 0] := by kernel_rfl
theorem vFades : fadesR 8 8 8 1 4 4 3 3 kH = #[.int .i64 1, .int .i64 0] := by kernel_rfl
theorem vMeets : meetsR 8 8 8 1 4 4 1 3 3 1 5 3 kF kF = #[.int .i64 2, .int .i64 0] := by kernel_rfl
theorem vMist (A B : Option Addr) (a b : Nat) : mistR 8 8 8 1 4 4 0 1 3 3 3 (kfs A B a b) = #[.int .i64 0, .int .i64 1, .int .i64 0] := by kernel_rfl
theorem vToldE (A B : Option Addr) (a b : Nat) : toldE 8 8 8 1 4 4 0 1 3 3 3 (kfs A B a b) 1 = 0 := by kernel_rfl
theorem vToldR (A B : Option Addr) (a b : Nat) : toldR 8 8 8 1 4 4 0 1 3 3 3 (kfs A B a b) 1 = [0] := by kernel_rfl
theorem vWhoE (A B : Option Addr) (a b : Nat) : whoE 8 8 8 0 4 4 0 1 3 3 3 (kfs A B a b) dRows = 0 := by kernel_rfl
theorem vWhoL (A B : Option Addr) (a b : Nat) : whoL 8 8 8 0 4 4 0 1 3 3 3 (kfs A B a b) dRows = [3, 1] := by kernel_rfl
theorem vNextP (A B : Option Addr) (a b : Nat) : nextP 8 8 8 0 4 4 0 1 3 3 3 (kfs A B a b) (List.replicate 8 blankRow) = (36, 1) := by kernel_rfl
theorem vNextE (A B : Option Addr) (a b : Nat) : nextE 8 8 8 0 4 4 0 1 3 3 3 (kfs A B a b) (List.replicate 8 blankRow) = 0 := by kernel_rfl
theorem vPlanE (A B : Option Addr) (a b : Nat) : planE 8 8 8 0 4 4 0 1 3 3 3 (kfs A B a b) [0, 27, 36] = 0 := by kernel_rfl
theorem vPlanL (A B : Option Addr) (a b : Nat) : planL 8 8 8 0 4 4 0 1 3 3 3 (kfs A B a b) [0, 27, 36] = [36] := by kernel_rfl
theorem vDif (A B : Option Addr) (a b : Nat) : (difP 8 8 8 0 4 4 0 1 3 3 3 (kfs A B a b) [0, 27, 36]).length = 4 := by kernel_rfl
theorem vView : viewB 8 8 8 1 4 4 4 3 3 kH = true := by kernel_rfl
end Go.Proofs.YtifddfchpknkbaaGreatDoor
