import Derived.Test.YtifddfchpknkbaaGreatDoorProg
import Derived.Test.YtifddfchpknkbaaGreatDoorBk5
import Derived.Test.YtifddfchpknkbaaGreatDoorBk8
import Derived.Test.YtifddfchpknkbaaGreatDoorBk11
import Derived.Test.YtifddfchpknkbaaGreatDoorBk12
import Derived.Lib.SplitLaws
set_option linter.unusedVariables false
set_option linter.unusedSimpArgs false
namespace Go.Proofs.YtifddfchpknkbaaGreatDoor
section
open Go.RowKit Go.Lib
set_option maxRecDepth 100000 in
set_option maxHeartbeats 800000 in
theorem goodBook_any (W H F L X Y : Int) (A : Option Addr) (n cap : Nat) (fs : List Fig) (w : World) (hn : n ≤ maxLen) (hf : ∀ f ∈ fs, f.ok w w.heap.size) (hr : Rd w w.heap.size 1 A n (fs.map Fig.val)) :
    Calls Tryz.prog 139 #[.agg #[.int .i64 W, .int .i64 H, .int .i64 F, .int .i64 L, .int .i64 X, .int .i64 Y, .slice A n cap]] w fun e w' => e = .returned (.bool (stageB W H F L X Y && compB fs)) ∧ Below w.heap.size w w' := by
  have gA : Blk (w.alloc (.cells #[.int .i64 W, .int .i64 H, .int .i64 F, .int .i64 L, .int .i64 X, .int .i64 Y, .slice A n cap] 121)) w.heap.size 121 #[.int .i64 W, .int .i64 H, .int .i64 F, .int .i64 L, .int .i64 X, .int .i64 Y, .slice A n cap] := Blk.new _ _ _
  have hB : Below w.heap.size w (w.alloc (.cells #[.int .i64 W, .int .i64 H, .int .i64 F, .int .i64 L, .int .i64 X, .int .i64 Y, .slice A n cap] 121)) := (Below.refl _ w).alloc (Nat.le_refl _) _
  have hqA := fun i => gA.cell i; have hlA := gA.lt
  cases hs : stageB W H F L X Y
  all_goals
    go_enter Tryz.func139, Tryz.ntmps139
    go_wp2_with (first
      | (go_at_call 97; refine (goodStage_any W H F L X Y _).mono ?_; rintro e w1 ⟨rfl, hb⟩; rw [hs]; replace gA := gA.below hb gA.lt; replace hB := hB.trans (hb.mono hB.size); replace hqA := fun i => gA.cell i; replace hlA := gA.lt; clear hb)
      | (go_at_call 157; refine (goodCompany_any A n cap fs _ hn (fun f hf' => ((hf f hf').below hB).more hB.size) ((hr.below hB).more hB.size)).mono ?_; rintro e w2 ⟨rfl, hb2⟩; replace hB := hB.trans (hb2.mono hB.size)))
    go_ret
    exact ⟨rfl, hB⟩
theorem goodK (A1 : Option Addr) (c1 : Nat) : (stageB 1 1 2 0 0 0 && compB [⟨A1, 1, c1, [⟨#[35]⟩]⟩]) = true := by kernel_rfl
theorem BookAt.below {B : Nat} {w' w'' : World} {g8 c g4 c1 : Nat} (h : BookAt B w' g8 c g4 c1) (hb : Below w'.heap.size w' w'') : BookAt B w'' g8 c g4 c1 := by
  obtain ⟨b1, b2, b3, b4, b5, b6, b7, b8, b9, b10⟩ := h
  exact ⟨b1, Nat.lt_of_lt_of_le b2 hb.size, (hb.cell (p := ⟨g8, 0, none⟩) b2).trans b3, b4, b5, b6, Nat.lt_of_lt_of_le b7 hb.size, (hb.cell (p := ⟨g4, 0, none⟩) b7).trans b8, b9, b10⟩
theorem BookAt.fig {B : Nat} {w' : World} {g8 c g4 c1 : Nat} (h : BookAt B w' g8 c g4 c1) : (∀ f ∈ [(⟨some ⟨g4, 0, none⟩, 1, c1, [⟨#[35]⟩]⟩ : Fig)], f.ok w' w'.heap.size) ∧ Rd w' w'.heap.size 1 (some ⟨g8, 0, none⟩) 1 ([(⟨some ⟨g4, 0, none⟩, 1, c1, [⟨#[35]⟩]⟩ : Fig)].map Fig.val) := by
  obtain ⟨b1, b2, b3, b4, b5, b6, b7, b8, b9, b10⟩ := h
  refine ⟨fun f hf => ?_, Rd_one b2 b3⟩
  rw [List.mem_singleton] at hf
  subst hf
  refine ⟨b9, b10, fun r hr => ?_, Rd_one b7 b8⟩
  have hr2 : r = ⟨#[35]⟩ := by simpa using hr
  subst hr2
  unfold maxLen
  decide
set_option maxRecDepth 100000 in
set_option maxHeartbeats 800000 in
theorem readText (m : Int) (w : World) (hm : w.cell? ⟨0, 0, none⟩ = some (.int .i64 m)) :
    Calls Tryz.prog 85 #[.string kText] w fun e w' => ∃ g8 c g4 c1 : Nat, e = .returned (.tuple #[.agg #[.int .i64 1, .int .i64 1, .int .i64 2, .int .i64 0, .int .i64 0, .int .i64 0, .slice (some ⟨g8, 0, none⟩) 1 c], .int .i64 0]) ∧ BookAt w.heap.size w' g8 c g4 c1 ∧ Below w.heap.size w w' := by
  have h00 : 0 < w.heap.size := block_lt_of_cell hm
  have hmB : ∀ w', Below w.heap.size w w' → w'.cell? ⟨0, 0, none⟩ = some (.int .i64 m) := fun w' hb => (hb.cell (p := ⟨0, 0, none⟩) h00).trans hm
  have hsz : kText.size = 35 := by decide
  have hB1 : Below w.heap.size w (w.alloc (.cells #[.int .i64 0, .int .i64 0, .int .i64 0, .int .i64 0, .int .i64 0, .int .i64 0, .slice none 0 0] 121)) := (Below.refl _ w).alloc (Nat.le_refl _) _
  have gT : Blk (w.alloc (.cells #[.int .i64 0, .int .i64 0, .int .i64 0, .int .i64 0, .int .i64 0, .int .i64 0, .slice none 0 0] 121)) w.heap.size 121 #[.int .i64 0, .int .i64 0, .int .i64 0, .int .i64 0, .int .i64 0, .int .i64 0, .slice none 0 0] := Blk.new _ _ _
  go_enter Tryz.func85, Tryz.ntmps85
  go_upto_region 8 with (first
    | (go_at_call 141; refine (parseText m _ (hmB _ hB1)).mono ?_; rintro e w1 ⟨g8, c, g4, c1, rfl, hbk, hb⟩; replace gT := gT.below hb gT.lt; replace hB1 := hB1.trans (hb.mono hB1.size); clear hb; have gK := Blk.new w1 121 #[.int .i64 1, .int .i64 1, .int .i64 2, .int .i64 0, .int .i64 0, .int .i64 0, .slice (some ⟨g8, 0, none⟩) 1 c]; replace gT := gT.alloc (.cells #[.int .i64 1, .int .i64 1, .int .i64 2, .int .i64 0, .int .i64 0, .int .i64 0, .slice (some ⟨g8, 0, none⟩) 1 c] 121); have hbq := (Below.refl w1.heap.size w1).alloc (Nat.le_refl _) (.cells #[.int .i64 1, .int .i64 1, .int .i64 2, .int .i64 0, .int .i64 0, .int .i64 0, .slice (some ⟨g8, 0, none⟩) 1 c] 121); replace hbk := hbk.below hbq; replace hB1 := hB1.alloc hB1.size (.cells #[.int .i64 1, .int .i64 1, .int .i64 2, .int .i64 0, .int .i64 0, .int .i64 0, .slice (some ⟨g8, 0, none⟩) 1 c] 121); have hfg := hbk.fig)
    | (go_at_call 139; refine (goodBook_any 1 1 2 0 0 0 (some ⟨g8, 0, none⟩) 1 c [⟨some ⟨g4, 0, none⟩, 1, c1, [⟨#[35]⟩]⟩] _ (by unfold maxLen; omega) hfg.1 hfg.2).mono ?_; rintro e w2 ⟨rfl, hb2⟩; rw [goodK]; replace gT := gT.below hb2 gT.lt; replace gK := gK.below hb2 gK.lt; replace hbk := hbk.below hb2; replace hB1 := hB1.trans (hb2.mono hB1.size); clear hfg hb2 hbq))
  have hqT := fun i => gT.cell i; have hfT := fun i => gT.frozen i; have hlT := gT.lt; have hqK := fun i => gK.cell i; have hlK := gK.lt
  go_wp2
  clear hqT hfT hlT hqK hlK
  obtain ⟨b1, b2, b3, b4, b5, b6, b7, b8, b9, b10⟩ := hbk
  rw [World.size_alloc] at b1 b6
  replace gT := gT.set_ 0 (.int .i64 1); replace hB1 := hB1.setCell (p := ⟨w.heap.size, 0, none⟩) (Nat.le_refl w.heap.size) (.int .i64 1); replace b3 := (cell_far _ ⟨w.heap.size, 0, none⟩ (.int .i64 1) g8 (show g8 ≠ w.heap.size by omega)).trans b3; replace b8 := (cell_far _ ⟨w.heap.size, 0, none⟩ (.int .i64 1) g4 (show g4 ≠ w.heap.size by omega)).trans b8
  replace gT := gT.set_ 1 (.int .i64 1); replace hB1 := hB1.setCell (p := ⟨w.heap.size, 1, none⟩) (Nat.le_refl w.heap.size) (.int .i64 1); replace b3 := (cell_far _ ⟨w.heap.size, 1, none⟩ (.int .i64 1) g8 (show g8 ≠ w.heap.size by omega)).trans b3; replace b8 := (cell_far _ ⟨w.heap.size, 1, none⟩ (.int .i64 1) g4 (show g4 ≠ w.heap.size by omega)).trans b8
  replace gT := gT.set_ 2 (.int .i64 2); replace hB1 := hB1.setCell (p := ⟨w.heap.size, 2, none⟩) (Nat.le_refl w.heap.size) (.int .i64 2); replace b3 := (cell_far _ ⟨w.heap.size, 2, none⟩ (.int .i64 2) g8 (show g8 ≠ w.heap.size by omega)).trans b3; replace b8 := (cell_far _ ⟨w.heap.size, 2, none⟩ (.int .i64 2) g4 (show g4 ≠ w.heap.size by omega)).trans b8
  replace gT := gT.set_ 3 (.int .i64 0); replace hB1 := hB1.setCell (p := ⟨w.heap.size, 3, none⟩) (Nat.le_refl w.heap.size) (.int .i64 0); replace b3 := (cell_far _ ⟨w.heap.size, 3, none⟩ (.int .i64 0) g8 (show g8 ≠ w.heap.size by omega)).trans b3; replace b8 := (cell_far _ ⟨w.heap.size, 3, none⟩ (.int .i64 0) g4 (show g4 ≠ w.heap.size by omega)).trans b8
  replace gT := gT.set_ 4 (.int .i64 0); replace hB1 := hB1.setCell (p := ⟨w.heap.size, 4, none⟩) (Nat.le_refl w.heap.size) (.int .i64 0); replace b3 := (cell_far _ ⟨w.heap.size, 4, none⟩ (.int .i64 0) g8 (show g8 ≠ w.heap.size by omega)).trans b3; replace b8 := (cell_far _ ⟨w.heap.size, 4, none⟩ (.int .i64 0) g4 (show g4 ≠ w.heap.size by omega)).trans b8
  replace gT := gT.set_ 5 (.int .i64 0); replace hB1 := hB1.setCell (p := ⟨w.heap.size, 5, none⟩) (Nat.le_refl w.heap.size) (.int .i64 0); replace b3 := (cell_far _ ⟨w.heap.size, 5, none⟩ (.int .i64 0) g8 (show g8 ≠ w.heap.size by omega)).trans b3; replace b8 := (cell_far _ ⟨w.heap.size, 5, none⟩ (.int .i64 0) g4 (show g4 ≠ w.heap.size by omega)).trans b8
  replace gT := gT.set_ 6 (.slice (some ⟨g8, 0, none⟩) 1 c); replace hB1 := hB1.setCell (p := ⟨w.heap.size, 6, none⟩) (Nat.le_refl w.heap.size) (.slice (some ⟨g8, 0, none⟩) 1 c); replace b3 := (cell_far _ ⟨w.heap.size, 6, none⟩ (.slice (some ⟨g8, 0, none⟩) 1 c) g8 (show g8 ≠ w.heap.size by omega)).trans b3; replace b8 := (cell_far _ ⟨w.heap.size, 6, none⟩ (.slice (some ⟨g8, 0, none⟩) 1 c) g4 (show g4 ≠ w.heap.size by omega)).trans b8
  have hs : (((((((w2.setCell ⟨w.heap.size, 0, none⟩ (.int .i64 1)).setCell ⟨w.heap.size, 1, none⟩ (.int .i64 1)).setCell ⟨w.heap.size, 2, none⟩ (.int .i64 2)).setCell ⟨w.heap.size, 3, none⟩ (.int .i64 0)).setCell ⟨w.heap.size, 4, none⟩ (.int .i64 0)).setCell ⟨w.heap.size, 5, none⟩ (.int .i64 0)).setCell ⟨w.heap.size, 6, none⟩ (.slice (some ⟨g8, 0, none⟩) 1 c)).heap.size = w2.heap.size := by simp
  generalize (((((((w2.setCell ⟨w.heap.size, 0, none⟩ (.int .i64 1)).setCell ⟨w.heap.size, 1, none⟩ (.int .i64 1)).setCell ⟨w.heap.size, 2, none⟩ (.int .i64 2)).setCell ⟨w.heap.size, 3, none⟩ (.int .i64 0)).setCell ⟨w.heap.size, 4, none⟩ (.int .i64 0)).setCell ⟨w.heap.size, 5, none⟩ (.int .i64 0)).setCell ⟨w.heap.size, 6, none⟩ (.slice (some ⟨g8, 0, none⟩) 1 c)) = w9 at *
  have hq9 := fun i => gT.cell i
  refine bodyPost_ret (v := .tuple #[.agg #[.int .i64 1, .int .i64 1, .int .i64 2, .int .i64 0, .int .i64 0, .int .i64 0, .slice (some ⟨g8, 0, none⟩) 1 c], .int .i64 0]) ?_ rfl ⟨g8, c, g4, c1, rfl, ⟨by omega, by omega, b3, b4, b5, by omega, by omega, b8, b9, b10⟩, hB1⟩
  simp [results, Tryz.results85, go_sem, hq9]
end
section
open Go.RowKit
theorem rdB {w w' : World} {sz n : Nat} {A : Option Addr} {xs : List Value} (h : Rd w w.heap.size sz A n xs) (hB : Below w.heap.size w w') : Rd w' w'.heap.size sz A n xs := (h.below hB).more hB.size
theorem known_at {m : Int} {w w' : World} (hm : w.cell? ⟨0, 0, none⟩ = some (.int .i64 m)) (hB : Below w.heap.size w w') : w'.cell? ⟨0, 0, none⟩ = some (.int .i64 m) := (hB.cell (p := ⟨0, 0, none⟩) (block_lt_of_cell hm)).trans hm
theorem pro_2 (w : World) (o0 o1 : Obj) : Below w.heap.size w ((w.alloc o0).alloc o1) :=
  ((Below.refl _ w).alloc (Nat.le_refl _) _).alloc (by simp only [World.size_alloc]; omega) _
theorem blk2_0 (w : World) (o1 : Obj) (t : TypeId) (cs : Array Value) : Blk ((w.alloc (.cells cs t)).alloc o1) (w.heap.size) t cs := by
  have := (Blk.new (w) t cs).alloc o1
  simpa only [World.size_alloc] using this
theorem blk2_1 (w : World) (o0 : Obj) (t : TypeId) (cs : Array Value) : Blk ((w.alloc o0).alloc (.cells cs t)) (w.heap.size + 1) t cs := by
  have := Blk.new (w.alloc o0) t cs
  simpa only [World.size_alloc] using this
end
section
open Go.RowKit Go.Lib
def figL (f : Fig) : ByteArray := lineS wFigure f.rows
/-- The lines of a book ahead of its last one. -/
def linesL (ns : List Nat) (fs : List Fig) : List ByteArray := lineS wStage (ns.map dS) :: fs.map figL
def textS (L : List ByteArray) (s : Nat) : ByteArray := jnS L ⟨#[10]⟩ ++ ⟨#[10]⟩ ++ lineS wEnd [dgt3 (s % 173)] ++ ⟨#[10]⟩
theorem lineS_size (wd : ByteArray) (ws : List ByteArray) (M : Nat) (h : ∀ x ∈ ws, x.size ≤ M) : (lineS wd ws).size ≤ wd.size + 1 + ws.length * (M + 1) := by
  have h1 := jnS_size ws ⟨#[32]⟩ M h
  unfold lineS
  rw [size_app, size_app]
  have e : ByteArray.size ⟨#[32]⟩ = 1 := rfl
  rw [e] at h1 ⊢
  omega
set_option maxRecDepth 100000 in
set_option maxHeartbeats 3200000 in
theorem write_any (a0 a1 a2 a3 a4 a5 : Nat) (ha : ∀ a ∈ [a0, a1, a2, a3, a4, a5], a < 1000) (A : Option Addr) (n cap : Nat) (fs : List Fig) (s : Nat) (m : Int) (w : World) (hE : Env m w) (hn : n ≤ 100) (hf : ∀ f ∈ fs, f.ok w w.heap.size) (hfs : ∀ f ∈ fs, 1 ≤ f.rows.length ∧ f.rows.length ≤ 50 ∧ ∀ r ∈ f.rows, r.size ≤ 1000) (hr : Rd w w.heap.size 1 A n (fs.map Fig.val)) (hsum : sumA (linesL [a0, a1, a2, a3, a4, a5] fs) 0 0 = s) :
    Calls Tryz.prog 140 #[.agg #[.int .i64 a0, .int .i64 a1, .int .i64 a2, .int .i64 a3, .int .i64 a4, .int .i64 a5, .slice A n cap]] w fun e w' => e = .returned (.string (textS (linesL [a0, a1, a2, a3, a4, a5] fs) s)) ∧ Below w.heap.size w w' := by
  obtain ⟨i9, hi, hz0, hz1', hz2'⟩ := info_parts info9'
  have hlen := hr.len
  have hB := (Below.refl w.heap.size w).alloc (Nat.le_refl _) (.cells #[.int .i64 a0, .int .i64 a1, .int .i64 a2, .int .i64 a3, .int .i64 a4, .int .i64 a5, .slice A n cap] 121)
  have hS := Blk.new w 121 #[.int .i64 a0, .int .i64 a1, .int .i64 a2, .int .i64 a3, .int .i64 a4, .int .i64 a5, .slice A n cap]
  have hWS := fun wx hx => writeStage_any a0 a1 a2 a3 a4 a5 ha m wx hx
  obtain ⟨l0, hl0⟩ : ∃ l0, l0 = lineS wStage ([a0, a1, a2, a3, a4, a5].map dS) := ⟨_, rfl⟩
  have hl0s : l0.size ≤ 100000 := by
    rw [hl0]
    have h1 := lineS_size wStage ([a0, a1, a2, a3, a4, a5].map dS) 3 (fun x hx => by obtain ⟨a, ha', rfl⟩ := List.mem_map.1 hx; exact dS_size a (ha a ha'))
    exact Nat.le_trans h1 (show 5 + 1 + 6 * (3 + 1) ≤ 100000 by decide)
  have hfl : ∀ f ∈ fs, (figL f).size ≤ 100000 := fun f hf' => by
    obtain ⟨h1, h2, h3⟩ := hfs f hf'
    have h4 := lineS_size wFigure f.rows 1000 h3
    have h5 : wFigure.size = 6 := rfl
    have h6 : f.rows.length * (1000 + 1) ≤ 50 * 1001 := Nat.mul_le_mul h2 (Nat.le_refl _)
    unfold figL
    omega
  have hLL : linesL [a0, a1, a2, a3, a4, a5] fs = l0 :: fs.map figL := by rw [hl0]; rfl
  rw [hLL] at hsum ⊢
  rw [← hl0] at hWS
  have hall : ∀ x ∈ l0 :: fs.map figL, x.size ≤ 100000 := fun x hx => by
    rcases List.mem_cons.1 hx with rfl | hx
    · exact hl0s
    · obtain ⟨f, hf', rfl⟩ := List.mem_map.1 hx
      exact hfl f hf'
  have HWS := Lib.hid hWS; have HLEN := Lib.hid hlen; have HALL := Lib.hid hall; have HSUM := Lib.hid hsum
  clear hWS hlen hall hsum hLL hl0 hl0s hfl ha
  go_enter Tryz.func140, Tryz.ntmps140
  go_upto_region 1 with (fail)
  generalize w.alloc (.cells #[.int .i64 a0, .int .i64 a1, .int .i64 a2, .int .i64 a3, .int .i64 a4, .int .i64 a5, .slice A n cap] 121) = W0 at *
  have hE0 := hE.below hB
  have qS := fun i => Blk.cell hS i
  go_upto_region 2 with (go_at_call 171; refine (HWS.out _ hE0).mono ?_; rintro e w1 ⟨rfl, hb⟩; replace hS := hS.below hb hS.lt; replace hB := hB.trans (hb.mono hB.size); clear qS hb hE0)
  have hown := World.ownsRow_lit (base := w.heap.size) (e := 9) (size := 1) w1 #[.string l0] 1 hB.size (by unfold maxLen; omega) rfl
  replace hB := hB.alloc hB.size (.cells #[.string l0] 9)
  replace hS := hS.alloc (.cells #[.string l0] 9)
  obtain ⟨v1, hv1⟩ : ∃ v1 : Value, v1 = .slice (some ⟨w1.heap.size, 0, none⟩) 1 1 := ⟨_, rfl⟩
  rw [← hv1] at hown ⊢
  clear hv1
  generalize w1.alloc (.cells #[.string l0] 9) = W1 at *
  have qS := fun i => Blk.cell hS i
  go_wp2_with (fail)
  clear qS
  go_loopg [3, 15] n (fun g v i wr => ∃ (k : Nat) (v0 : Value), g = n - k ∧ k ≤ n ∧ v = v0 ∧ i = .int .i64 k ∧ wr.ownsRow w.heap.size 9 1 v0 (k + 1) ((l0 :: (fs.take k).map figL).map Value.string) ∧ Below w.heap.size w wr)
  case atStart => exact ⟨0, _, rfl, Nat.zero_le _, rfl, rfl, hown, hB⟩
  case round =>
    clear hown hB hS
    obtain ⟨k, v0, hg, hk, rfl, rfl, hown, hB⟩ := hrel
    obtain ⟨va, vc, rfl⟩ := own_slice hown
    have HG := Lib.hid hg; clear hg
    rename World => W2
    by_cases hlt : k < n
    · have hlti : (k : Int) < n := by omega
      have hzk : k < fs.length := by have := HLEN.out; omega
      obtain ⟨bF, oF, rfl, hbF, hcf⟩ := hr.2 (by omega)
      have cf : w.cell? ⟨bF, oF + k, none⟩ = some (Fig.val fs[k]) := hcf k (Fig.val fs[k]) (by simp [hzk])
      clear hcf
      have cf2 : W2.cell? ⟨bF, oF + k, none⟩ = some (Fig.val fs[k]) := (hB.cell (p := ⟨bF, oF + k, none⟩) hbF).trans cf
      have hfo := hf _ (List.getElem_mem hzk)
      have hft := hfs _ (List.getElem_mem hzk)
      have hts : (fs.take (k + 1)).map figL = (fs.take k).map figL ++ [figL fs[k]] := by rw [List.take_succ_eq_append_getElem hzk, List.map_append]; rfl
      have hfL : figL fs[k] = lineS wFigure fs[k].rows := rfl
      generalize fs[k] = fg at *
      obtain ⟨fA, fn, fcap, rows⟩ := fg
      obtain ⟨hf1, hf2, hf3, hfr⟩ := hfo
      dsimp only at hf1 hf2 hf3 hfr hft hfL
      simp only [Fig.val] at cf2
      obtain ⟨ht1, ht2, ht3⟩ := hft
      have hfn := hfr.len
      have hwf := fun wx hx => writeFigure_any fA fn fcap rows wx (by omega) (by omega) ht3 hx
      rw [← hfL] at hwf
      generalize figL ⟨fA, fn, fcap, rows⟩ = fl at *
      obtain ⟨ys, hys⟩ : ∃ ys, ys = (l0 :: (fs.take k).map figL).map Value.string := ⟨_, rfl⟩
      rw [← hys] at hown
      have HTS := Lib.hid hts; have HYS := Lib.hid hys; have HWF := Lib.hid hwf; clear hts hys hwf cf ht1 ht2 ht3 hf3 hfL hfn
      go_wp2_with (first
        | (go_at_call 171; (have hbA := hB.alloc hB.size (.cells #[.slice fA fn fcap] 26)); refine (HWF.out _ ((hfr.below hbA).more hbA.size)).mono ?_; rintro e w3 ⟨rfl, hb⟩; replace hown := ownsRow_below' (hown.alloc (.cells #[.slice fA fn fcap] 26)) hb; replace hB := hbA.trans (hb.mono hbA.size); clear hb hbA)
        | (at_builtin; refine wpList_append_any _ rfl _ _ 24 rfl w.heap.size 9 i9 (.string ByteArray.empty) 1 16 Tryz.underlying24 hi hz0 hz1' hz2' rfl (by decide) (.slice va (k + 1) vc) (k + 1) ys rfl (hown.alloc _) (w3.heap.size + 1) (some ⟨w3.heap.size, 0, none⟩) 1 1 [.string fl] rfl (Rd.blkN (Blk.new w3 9 #[.string fl]) rfl (Nat.lt_succ_self _)).reads (by simp [Value.oneCell']) (by unfold maxLen; omega) (by omega) (by have := hB.size; simp only [World.size_alloc]; omega) (fun v' w' hown' hgrow hob => ?_))
        | go_in)
      have hB2 := (hB.alloc hB.size (.cells #[.string fl] 9)).grown hgrow (by have := hB.size; simp only [World.size_alloc]; omega) (fun g hg => ((hown.alloc (.cells #[.string fl] 9)).lt g hg).1)
      go_roundg (n - (k + 1))
      case measure => rw [HG.out]; omega
      case rel => exact ⟨k + 1, _, rfl, by omega, rfl, by go_num, by rw [HTS.out, ← List.cons_append, List.map_append, ← HYS.out]; exact hown', hB2⟩
    · obtain rfl : k = n := by omega
      have htk : fs.take k = fs := List.take_of_length_le (by have := HLEN.out; omega)
      rw [htk] at hown
      clear htk
      obtain ⟨L, hL⟩ : ∃ L, L = l0 :: fs.map figL := ⟨_, rfl⟩
      have hall := HALL.out; have hsum := HSUM.out
      rw [← hL] at hown hall hsum
      have hrL := Rd.of_own hown
      have hcL := own_le0 hown
      have hj : (jnS L ⟨#[10]⟩).size ≤ 20000000 := by
        have h1 := jnS_size L ⟨#[10]⟩ 100000 hall
        have h2 : L.length = k + 1 := by rw [hL, List.length_cons, List.length_map, HLEN.out]
        have h3 : L.length * (100000 + ByteArray.size ⟨#[10]⟩) ≤ 101 * 100001 := Nat.mul_le_mul (by omega) (Nat.le_refl _)
        omega
      have he : (lineS wEnd [dgt3 (s % 173)]).size ≤ 100 := Nat.le_trans (lineS_size wEnd [dgt3 (s % 173)] 3 (fun x hx => by obtain rfl : x = dgt3 (s % 173) := (by simpa using hx); exact Nat.le_refl 3)) (show 3 + 1 + 1 * (3 + 1) ≤ 100 by decide)
      have HT := Lib.hid (show textS (l0 :: fs.map figL) s = jnS L ⟨#[10]⟩ ++ ⟨#[10]⟩ ++ lineS wEnd [dgt3 (s % 173)] ++ ⟨#[10]⟩ by rw [hL]; rfl)
      have hjoin := fun wx hx => jn_any va (k + 1) vc L ⟨#[10]⟩ wx (by omega) (by omega) hcL hall (by decide) hx
      have hend := fun wx hx hy => endOf_any va (k + 1) vc L s m wx (by omega) hall hx hsum hy
      have HE := Lib.hid hend; have HJ := Lib.hid hjoin; clear hend hjoin hall hsum hL
      have hEn := hE.below hB
      generalize lineS wEnd [dgt3 (s % 173)] = EE at *
      generalize jnS L ⟨#[10]⟩ = JJ at *
      have hno1 : ¬ 9223372036854775807 < JJ.size + 1 := by omega
      have hno2 : ¬ 9223372036854775807 < JJ.size + 1 + EE.size := by omega
      have hno3 : ¬ 9223372036854775807 < JJ.size + 1 + EE.size + 1 := by omega
      have hdn := Lib.hid (rfl : (0 : Nat) = 0)
      go_wp2_with (first
        | (go_at_call 161; refine (HJ.out _ hrL).mono ?_; rintro e w3 ⟨rfl, hb⟩; replace hrL := rdB hrL hb; replace hEn := hEn.below (hb.mono (Nat.le_refl _)); replace hB := hB.trans (hb.mono hB.size); clear hb)
        | (go_at_call 172; refine (HE.out _ hrL hEn).mono ?_; rintro e w4 ⟨rfl, hb⟩; replace hB := hB.trans (hb.mono hB.size); clear hb))
      go_ret
      exact ⟨by rw [HT.out]; rfl, hB⟩
end
section
open Go.RowKit Go.Lib
def cutB (c : UInt8) (s : ByteArray) : List ByteArray := splitB ⟨#[c]⟩ 0 (countB s ⟨#[c]⟩) s
theorem cutB_data (c : UInt8) (s : ByteArray) : (cutB c s).map (·.data.toList) = cutL c s.data.toList := splitB_cut c s
theorem cut_here (c : UInt8) (S : List UInt8) (bg k : Nat) (hk : bg ≤ k) (hc : S[k]? = some c) (hno : ∀ q, bg ≤ q → q < k → S[q]? ≠ some c) : cutL c (S.drop bg) = (S.drop bg).take (k - bg) :: cutL c (S.drop (k + 1)) := by
  obtain ⟨hkl, hkc⟩ := List.getElem?_eq_some_iff.1 hc
  have e1 : S.drop bg = (S.drop bg).take (k - bg) ++ c :: S.drop (k + 1) := by
    have h1 : S.drop k = c :: S.drop (k + 1) := by rw [List.drop_eq_getElem_cons hkl, hkc]
    have h2 : (S.drop bg).drop (k - bg) = S.drop k := by rw [List.drop_drop]; congr 1; omega
    rw [← h1, ← h2, List.take_append_drop]
  have e2 : c ∉ (S.drop bg).take (k - bg) := by
    intro h
    obtain ⟨q, hq⟩ := List.mem_iff_getElem?.1 h
    have hql : q < k - bg := by
      have := (List.getElem?_eq_some_iff.1 hq).1
      rw [List.length_take] at this
      omega
    rw [List.getElem?_take_of_lt hql, List.getElem?_drop] at hq
    exact hno (bg + q) (by omega) (by omega) hq
  generalize (S.drop bg).take (k - bg) = x at *
  rw [e1]
  exact cutL_app c _ x e2
theorem cut_last (c : UInt8) (S : List UInt8) (bg : Nat) (hno : ∀ q, bg ≤ q → q < S.length → S[q]? ≠ some c) : cutL c (S.drop bg) = [S.drop bg] := by
  refine cutL_end c _ (fun h => ?_)
  obtain ⟨q, hq⟩ := List.mem_iff_getElem?.1 h
  rw [List.getElem?_drop] at hq
  have := (List.getElem?_eq_some_iff.1 hq).1
  exact hno (bg + q) (by omega) this hq
theorem extract_list (s : ByteArray) (i j : Nat) : (s.extract i j).data.toList = (s.data.toList.drop i).take (j - i) := by
  rw [ByteArray.data_extract, Array.toList_extract, List.extract_eq_take_drop]
set_option maxRecDepth 100000 in
set_option maxHeartbeats 3200000 in
theorem refSplit_any (s : ByteArray) (c : UInt8) (w : World) (hs : s.size ≤ 1000) : Calls Tryz.prog 144 #[.string s, .int .u8 c.toNat] w fun e w' => ∃ v, e = .returned v ∧ w'.ownsRow w.heap.size 9 1 v (cutB c s).length ((cutB c s).map Value.string) ∧ Below w.heap.size w w' := by
  obtain ⟨i9, hi, hz0, hz1', hz2'⟩ := info_parts info9'
  have hcut := cutB_data c s
  have HC := Lib.hid hcut; clear hcut
  go_enter Tryz.func144, Tryz.ntmps144
  go_wp2_with (fail)
  go_loopg [5, 6, 7] s.size (fun g v b i wr => ∃ (k bg : Nat) (v0 : Value) (ps : List ByteArray), g = s.size - k ∧ bg ≤ k ∧ k ≤ s.size ∧ v = v0 ∧ b = .int .i64 bg ∧ i = .int .i64 k ∧ ps.length ≤ k ∧ wr.ownsRow w.heap.size 9 1 v0 ps.length (ps.map Value.string) ∧ ps.map (·.data.toList) ++ cutL c (s.data.toList.drop bg) = cutL c s.data.toList ∧ (∀ q, bg ≤ q → q < k → s.data.toList[q]? ≠ some c) ∧ Below w.heap.size w wr)
  case atStart => exact ⟨0, 0, _, [], rfl, Nat.le_refl _, Nat.zero_le _, rfl, rfl, rfl, Nat.le_refl _, World.ownsRow_nil _ _ _ _, rfl, fun q _ h => absurd h (Nat.not_lt_zero _), Below.refl _ _⟩
  case round =>
    obtain ⟨k, bg, v0, ps, hg, hbk, hk, rfl, rfl, rfl, hpl, hown, hcc, hno, hB⟩ := hrel
    obtain ⟨va, vc, rfl⟩ := own_slice hown
    have HG := Lib.hid hg; have HNO := Lib.hid hno; have HCC := Lib.hid hcc; clear hg hno hcc
    by_cases hlt : k < s.size
    · have hlti : (k : Int) < s.size := by omega
      have hsk : s.data.toList[k]? = some (s[k]'hlt) := by
        rw [List.getElem?_eq_getElem (by rw [size_list]; exact hlt)]
        congr 1
      by_cases hbc : s[k]'hlt = c
      · have hbt : (s[k]'hlt).toNat = c.toNat := by rw [hbc]
        have HBC := Lib.hid hbc; have HSK := Lib.hid hsk; clear hbc hsk
        have hbki : (bg : Int) ≤ k := by omega
        have h0b : (0 : Int) ≤ bg := by omega
        have hkle : (k : Int) ≤ s.size := by omega
        obtain ⟨ys, hys⟩ : ∃ ys, ys = ps.map Value.string := ⟨_, rfl⟩
        rw [← hys] at hown
        have HYS := Lib.hid hys; clear hys
        go_wp2_with (first
          | (at_builtin; refine wpList_append_any _ rfl _ _ 24 rfl w.heap.size 9 i9 (.string ByteArray.empty) 1 16 Tryz.underlying24 hi hz0 hz1' hz2' rfl (by decide) (.slice va ps.length vc) ps.length ys rfl (hown.alloc _) (wr.heap.size + 1) (some ⟨wr.heap.size, 0, none⟩) 1 1 [.string (s.extract bg k)] rfl (Rd.blkN (Blk.new wr 9 #[.string (s.extract bg k)]) rfl (Nat.lt_succ_self _)).reads (by simp [Value.oneCell']) (by unfold maxLen; omega) (by omega) (by have := hB.size; simp only [World.size_alloc]; omega) (fun v' w' hown' hgrow hob => ?_)))
        have hB2 := (hB.alloc hB.size (.cells #[.string (s.extract bg k)] 9)).grown hgrow (by have := hB.size; simp only [World.size_alloc]; omega) (fun g hg => ((hown.alloc (.cells #[.string (s.extract bg k)] 9)).lt g hg).1)
        go_roundg (s.size - (k + 1))
        case measure => rw [HG.out]; omega
        case rel =>
          refine ⟨k + 1, k + 1, v', ps ++ [s.extract bg k], rfl, Nat.le_refl _, by omega, rfl, by go_num, by go_num, by simp; omega, ?_, ?_, fun q h1 h2 => absurd h2 (by omega), hB2⟩
          · rw [List.map_append, ← HYS.out, List.length_append]; exact hown'
          · have h1 := cut_here c s.data.toList bg k hbk (by rw [HSK.out, HBC.out]) HNO.out
            rw [← HCC.out, h1, List.map_append, List.append_assoc]
            simp only [List.map_cons, List.map_nil, List.cons_append, List.nil_append, extract_list]
      · have hbt : ¬ ((s[k]'hlt).toNat : Int) = c.toNat := fun e => hbc (UInt8.toNat_inj.1 (by omega))
        have hbq : (((s[k]'hlt).toNat : Int) == c.toNat) = false := by rw [beq_eq_false_iff_ne]; exact hbt
        have HSK := Lib.hid hsk; have HBC := Lib.hid hbc; clear hsk hbc
        go_wp2_with (fail)
        go_roundg (s.size - (k + 1))
        case measure => rw [HG.out]; omega
        case rel =>
          refine ⟨k + 1, bg, _, ps, rfl, by omega, by omega, rfl, rfl, by go_num, by omega, hown, HCC.out, fun q h1 h2 => ?_, hB⟩
          by_cases hq : q < k
          · exact HNO.out q h1 hq
          · obtain rfl : q = k := by omega
            rw [HSK.out]
            exact fun e => HBC.out (Option.some.inj e)
    · obtain rfl : k = s.size := by omega
      have hbki : (bg : Int) ≤ s.size := by omega
      have h0b : (0 : Int) ≤ bg := by omega
      obtain ⟨ys, hys⟩ : ∃ ys, ys = ps.map Value.string := ⟨_, rfl⟩
      rw [← hys] at hown
      have HYS := Lib.hid hys; clear hys
      go_wp2_with (first
        | (at_builtin; refine wpList_append_any _ rfl _ _ 24 rfl w.heap.size 9 i9 (.string ByteArray.empty) 1 16 Tryz.underlying24 hi hz0 hz1' hz2' rfl (by decide) (.slice va ps.length vc) ps.length ys rfl (hown.alloc _) (wr.heap.size + 1) (some ⟨wr.heap.size, 0, none⟩) 1 1 [.string (s.extract bg s.size)] rfl (Rd.blkN (Blk.new wr 9 #[.string (s.extract bg s.size)]) rfl (Nat.lt_succ_self _)).reads (by simp [Value.oneCell']) (by unfold maxLen; omega) (by omega) (by have := hB.size; simp only [World.size_alloc]; omega) (fun v' w' hown' hgrow hob => ?_)))
      have hB2 := (hB.alloc hB.size (.cells #[.string (s.extract bg s.size)] 9)).grown hgrow (by have := hB.size; simp only [World.size_alloc]; omega) (fun g hg => ((hown.alloc (.cells #[.string (s.extract bg s.size)] 9)).lt g hg).1)
      have key : cutB c s = ps ++ [s.extract bg s.size] := by
        apply map_data_inj
        have h1 := cut_last c s.data.toList bg (fun q h1 h2 => HNO.out q h1 (by rw [size_list] at h2; exact h2))
        rw [HC.out, ← HCC.out, h1, List.map_append]
        simp only [List.map_cons, List.map_nil, extract_list]
        rw [List.take_of_length_le]
        rw [List.length_drop, size_list]
        exact Nat.le_refl _
      go_ret
      refine ⟨_, rfl, ?_, hB2⟩
      rw [key, List.map_append, ← HYS.out, List.length_append]
      exact hown'
end
section
open Go.RowKit Go.Lib
set_option maxRecDepth 100000 in
set_option maxHeartbeats 800000 in
theorem parseTwo (s : ByteArray) (d1 d2 : Nat) (w : World) (h1 : d1 < 10) (h2 : d2 < 10) (hs : s = ⟨(decDigits (10 * d1 + d2)).toArray⟩) (hsz : s.size = 2) (hb0 : (s[0]'(by omega)).toNat = 48 + d1) (hb1 : (s[1]'(by omega)).toNat = 48 + d2) :
    Calls Tryz.prog 200 #[.string s] w fun e w' => e = .returned (.int .i64 (10 * d1 + d2 : Nat)) ∧ Below w.heap.size w w' := by
  have HS := Lib.hid hs; clear hs
  have hin : inB (2 : Int) 1 2 = true := by decide
  go_enter Tryz.func200, Tryz.ntmps200
  go_wp2_with (first
    | (go_at_call 130; refine (within_any _ _ _ _).mono ?_; rintro e w1 ⟨rfl, rfl⟩; rw [hin])
    | (go_at_call 175; refine (insist_ok _).mono ?_; rintro e w1 ⟨rfl, rfl⟩))
  go_loopw [3] (fun v w' => ∃ pos, w' = w.iter s pos ∧ ((pos = 0 ∧ v = .int .i64 0) ∨ (pos = 1 ∧ v = .int .i64 d1) ∨ (pos = 2 ∧ v = .int .i64 (10 * d1 + d2 : Nat)))) (fun _ w' => 2 - w'.iterPos w.heap.size)
  case atStart => exact ⟨0, rfl, .inl ⟨rfl, rfl⟩⟩
  case round =>
    obtain ⟨pos, rfl, ⟨rfl, rfl⟩ | ⟨rfl, rfl⟩ | ⟨rfl, rfl⟩⟩ := hrel
    · have hnx : ∀ ty, (Instr.next (.pointer (some ⟨w.heap.size, 0, none⟩)) true ty).run Tryz.prog (w.iter s 0) = _ := fun ty => run_next_ascii w s 0 ty (by omega) (by omega)
      rw [hb0] at hnx
      clear hb0 hb1
      have h3 : (48 : Int) ≤ 48 + (d1 : Int) := by omega
      have h4 : (48 : Int) + (d1 : Int) ≤ 57 := by omega
      go_wp2_with (first
        | (go_at_call 175; refine (insist_ok _).mono ?_; rintro e w1 ⟨rfl, rfl⟩))
      go_roundw
      case rel => exact ⟨1, rfl, .inr (.inl ⟨rfl, by go_num⟩)⟩
      case measure => simp
    · have hnx : ∀ ty, (Instr.next (.pointer (some ⟨w.heap.size, 0, none⟩)) true ty).run Tryz.prog (w.iter s 1) = _ := fun ty => run_next_ascii w s 1 ty (by omega) (by omega)
      rw [hb1] at hnx
      clear hb0 hb1
      have h3 : (48 : Int) ≤ 48 + (d2 : Int) := by omega
      have h4 : (48 : Int) + (d2 : Int) ≤ 57 := by omega
      have h5 := i64_ok (10 * (d1 : Int)) (by omega)
      have h6 := i64_ok (10 * (d1 : Int) + (d2 : Int)) (by omega)
      go_wp2_with (first
        | (go_at_call 175; refine (insist_ok _).mono ?_; rintro e w1 ⟨rfl, rfl⟩))
      go_roundw
      case rel => exact ⟨2, rfl, .inr (.inr ⟨rfl, by go_num⟩)⟩
      case measure => simp
    · have hnx : ∀ ty, (Instr.next (.pointer (some ⟨w.heap.size, 0, none⟩)) true ty).run Tryz.prog (w.iter s 2) = _ := fun ty => run_next_end w s 2 ty (by omega)
      have hI := fun wx => Tryz.strconv_Itoa_small (10 * d1 + d2) (by omega) wx
      rw [← HS.out] at hI
      clear hb0 hb1
      go_wp2_with (first
        | (go_at_call 222; refine (hI _).mono ?_; rintro e w1 ⟨rfl, rfl⟩)
        | (go_at_call 175; refine (insist_ok _).mono ?_; rintro e w1 ⟨rfl, rfl⟩))
      go_ret
      exact ⟨rfl, below_iter _ _ _⟩
theorem parseNum_any (a : Nat) (ha : a < 100) (w : World) : Calls Tryz.prog 200 #[.string (dS a)] w fun e w' => e = .returned (.int .i64 a) ∧ Below w.heap.size w w' := by
  by_cases h : a < 10
  · have e : dS a = ⟨#[UInt8.ofNat (48 + a)]⟩ := by unfold dS; rw [decDigits_one h]
    refine parseDigit (dS a) a w h rfl (by rw [e]; rfl) ?_
    simp only [e]
    show (UInt8.ofNat (48 + a)).toNat = 48 + a
    rw [UInt8.toNat_ofNat']
    omega
  · have e : dS a = ⟨#[UInt8.ofNat (48 + a / 10), UInt8.ofNat (48 + a % 10)]⟩ := by unfold dS; rw [decDigits_two h ha]
    have ea : 10 * (a / 10) + a % 10 = a := by omega
    have key := parseTwo (dS a) (a / 10) (a % 10) w (by omega) (by omega) (by rw [ea]; rfl) (by rw [e]; rfl) (by
      simp only [e]
      show (UInt8.ofNat (48 + a / 10)).toNat = 48 + a / 10
      rw [UInt8.toNat_ofNat']
      omega) (by
      simp only [e]
      show (UInt8.ofNat (48 + a % 10)).toNat = 48 + a % 10
      rw [UInt8.toNat_ofNat']
      omega)
    rw [ea] at key
    exact key
end
section
open Go.RowKit
theorem wpG_two {P : Program} {ops : Array Oper} {md : Region.Mode} {Q : Exit → Act → World → Prop} {T : World → Prop} {L : Nat} {i j : Nat} {oi oj : Oper} {fuel : Nat} {listed : Array Bool} {a : Act} {w : World} (hi : ops[i]? = some oi) (hj : ops[j]? = some oj) (hr : Region.ready md ops listed = [i, j])
    (h1 : ∀ K : Act → World → Prop, (∀ a w, (i = L ∨ T w) → wpG P md ops Q T L fuel (listed.setIfInBounds i true) a w → K a w) → if Region.wanted oi (yielded ops a.tmps) = true then Oper.wp P oi a w K Q else K (a.put oi.dst undef) w)
    (h2 : ∀ K : Act → World → Prop, (∀ a w, (j = L ∨ T w) → wpG P md ops Q T L fuel (listed.setIfInBounds j true) a w → K a w) → if Region.wanted oj (yielded ops a.tmps) = true then Oper.wp P oj a w K Q else K (a.put oj.dst undef) w) :
    wpG P md ops Q T L (fuel + 1) listed a w := by
  refine ⟨fun h0 => (by rw [hr] at h0; cases h0), fun k hk => ?_⟩
  rw [hr] at hk
  have hk2 : k = i ∨ k = j := by simpa using hk
  rcases hk2 with rfl | rfl
  · exact wpOp_step hi fun K hK => h1 K fun a w x1 x2 => hK a w ⟨x1, x2⟩
  · exact wpOp_step hj fun K hK => h2 K fun a w x1 x2 => hK a w ⟨x1, x2⟩
theorem blk10 {w : World} {g : Nat} {t : TypeId} {z0 z1 z2 z3 z4 z5 z6 z7 z8 z9 : Value} (h : Blk w g t #[z0, z1, z2, z3, z4, z5, z6, z7, z8, z9]) (v0 v1 v2 v3 v4 v5 v6 v7 v8 v9 : Value) : Blk ((((((((((w.setCell ⟨g, 0, none⟩ v0).setCell ⟨g, 1, none⟩ v1).setCell ⟨g, 2, none⟩ v2).setCell ⟨g, 3, none⟩ v3).setCell ⟨g, 4, none⟩ v4).setCell ⟨g, 5, none⟩ v5).setCell ⟨g, 6, none⟩ v6).setCell ⟨g, 7, none⟩ v7).setCell ⟨g, 8, none⟩ v8).setCell ⟨g, 9, none⟩ v9) g t #[v0, v1, v2, v3, v4, v5, v6, v7, v8, v9] := by
  have h := ((((((((((h.set_ 0 v0).set_ 1 v1).set_ 2 v2).set_ 3 v3).set_ 4 v4).set_ 5 v5).set_ 6 v6).set_ 7 v7).set_ 8 v8).set_ 9 v9)
  simpa using h
theorem far10 {w : World} {g g' : Nat} {t : TypeId} {cs : Array Value} (h : Blk w g' t cs) (hn : g' ≠ g) (v0 v1 v2 v3 v4 v5 v6 v7 v8 v9 : Value) : Blk ((((((((((w.setCell ⟨g, 0, none⟩ v0).setCell ⟨g, 1, none⟩ v1).setCell ⟨g, 2, none⟩ v2).setCell ⟨g, 3, none⟩ v3).setCell ⟨g, 4, none⟩ v4).setCell ⟨g, 5, none⟩ v5).setCell ⟨g, 6, none⟩ v6).setCell ⟨g, 7, none⟩ v7).setCell ⟨g, 8, none⟩ v8).setCell ⟨g, 9, none⟩ v9) g' t cs :=
  ((((((((((h.far (p := ⟨g, 0, none⟩) hn v0).far (p := ⟨g, 1, none⟩) hn v1).far (p := ⟨g, 2, none⟩) hn v2).far (p := ⟨g, 3, none⟩) hn v3).far (p := ⟨g, 4, none⟩) hn v4).far (p := ⟨g, 5, none⟩) hn v5).far (p := ⟨g, 6, none⟩) hn v6).far (p := ⟨g, 7, none⟩) hn v7).far (p := ⟨g, 8, none⟩) hn v8).far (p := ⟨g, 9, none⟩) hn v9)
theorem below10 {w0 w : World} {B g : Nat} (h : Below B w0 w) (hB : B ≤ g) (v0 v1 v2 v3 v4 v5 v6 v7 v8 v9 : Value) : Below B w0 ((((((((((w.setCell ⟨g, 0, none⟩ v0).setCell ⟨g, 1, none⟩ v1).setCell ⟨g, 2, none⟩ v2).setCell ⟨g, 3, none⟩ v3).setCell ⟨g, 4, none⟩ v4).setCell ⟨g, 5, none⟩ v5).setCell ⟨g, 6, none⟩ v6).setCell ⟨g, 7, none⟩ v7).setCell ⟨g, 8, none⟩ v8).setCell ⟨g, 9, none⟩ v9) :=
  ((((((((((h.setCell (p := ⟨g, 0, none⟩) hB v0).setCell (p := ⟨g, 1, none⟩) hB v1).setCell (p := ⟨g, 2, none⟩) hB v2).setCell (p := ⟨g, 3, none⟩) hB v3).setCell (p := ⟨g, 4, none⟩) hB v4).setCell (p := ⟨g, 5, none⟩) hB v5).setCell (p := ⟨g, 6, none⟩) hB v6).setCell (p := ⟨g, 7, none⟩) hB v7).setCell (p := ⟨g, 8, none⟩) hB v8).setCell (p := ⟨g, 9, none⟩) hB v9)
/-- What the first step of Meets leaves: both views lie in blocks of the call's own. -/
def TwoViews (w : World) (v1 v2 : Array Value) (p q : Value) (w' : World) : Prop := ∃ g1 g2, p = .pointer (some ⟨g1, 0, none⟩) ∧ q = .pointer (some ⟨g2, 0, none⟩) ∧ Blk w' g1 140 v1 ∧ Blk w' g2 140 v2 ∧ Below w.heap.size w w'
def meetsR (W H F L X Y N1 PX1 PY1 N2 PX2 PY2 : Int) (rows1 rows2 : List ByteArray) : Array Value :=
  if viewB W H F L X Y N1 PX1 PY1 rows1 && viewB W H F L X Y N2 PX2 PY2 rows2 then #[.int .i64 (meetV (shS W H F L X Y N1 PX1 PY1 rows1) (shS W H F L X Y N2 PX2 PY2 rows2)), .int .i64 0] else #[.int .i64 0, .int .i64 2]
set_option maxRecDepth 100000 in
set_option maxHeartbeats 3200000 in
theorem Meets_any (W H F L X Y : Int) (N1 PX1 PY1 : Int) (A1 : Option Addr) (n1 cap1 : Nat) (rows1 : List ByteArray) (N2 PX2 PY2 : Int) (A2 : Option Addr) (n2 cap2 : Nat) (rows2 : List ByteArray) (w : World) (hcap1 : n1 ≤ cap1) (hcm1 : cap1 ≤ maxLen) (hs1 : ∀ r ∈ rows1, r.size ≤ maxLen) (hr1 : Rd w w.heap.size 1 A1 n1 (rows1.map Value.string)) (hcap2 : n2 ≤ cap2) (hcm2 : cap2 ≤ maxLen) (hs2 : ∀ r ∈ rows2, r.size ≤ maxLen) (hr2 : Rd w w.heap.size 1 A2 n2 (rows2.map Value.string)) :
    Calls Tryz.prog 44 #[.agg #[.int .i64 W, .int .i64 H, .int .i64 F, .int .i64 L, .int .i64 X, .int .i64 Y], .agg #[.slice A1 n1 cap1], .agg #[.int .i64 N1, .int .i64 PX1, .int .i64 PY1], .agg #[.slice A2 n2 cap2], .agg #[.int .i64 N2, .int .i64 PX2, .int .i64 PY2]] w fun e w' => e = .returned (.tuple (meetsR W H F L X Y N1 PX1 PY1 N2 PX2 PY2 rows1 rows2)) ∧ Below w.heap.size w w' := by
  go_enter Tryz.func44, Tryz.ntmps44
  go_upto_region 1 with (fail)
  go_cut [12, 13] (fun p q wx => TwoViews w #[.int .i64 W, .int .i64 H, .int .i64 F, .int .i64 L, .int .i64 X, .int .i64 Y, .slice A1 n1 cap1, .int .i64 N1, .int .i64 PX1, .int .i64 PY1] #[.int .i64 W, .int .i64 H, .int .i64 F, .int .i64 L, .int .i64 X, .int .i64 Y, .slice A2 n2 cap2, .int .i64 N2, .int .i64 PX2, .int .i64 PY2] p q wx)
  case first =>
    obtain ⟨W0, hW0⟩ : ∃ W0 : World, W0 = (((((w.alloc (.cells #[.int .i64 W, .int .i64 H, .int .i64 F, .int .i64 L, .int .i64 X, .int .i64 Y] 23)).alloc (.cells #[.slice A1 n1 cap1] 26)).alloc (.cells #[.int .i64 N1, .int .i64 PX1, .int .i64 PY1] 28)).alloc (.cells #[.slice A2 n2 cap2] 26)).alloc (.cells #[.int .i64 N2, .int .i64 PX2, .int .i64 PY2] 28)) := ⟨_, rfl⟩
    have hB0 : Below w.heap.size w W0 := by rw [hW0]; exact (pro4 w _ _ _ _).alloc (by simp only [World.size_alloc]; omega) _
    have hb1 : Blk W0 (w.heap.size) 23 #[.int .i64 W, .int .i64 H, .int .i64 F, .int .i64 L, .int .i64 X, .int .i64 Y] := by rw [hW0]; exact (blk1 w _ _ _ 23 _).alloc _
    have hb2 : Blk W0 (w.heap.size + 1) 26 #[.slice A1 n1 cap1] := by rw [hW0]; exact (((blk2 w _ 26 _).alloc _).alloc _).alloc _
    have hb3 : Blk W0 (w.heap.size + 1 + 1) 28 #[.int .i64 N1, .int .i64 PX1, .int .i64 PY1] := by rw [hW0]; have h := (((Blk.new ((w.alloc (.cells #[.int .i64 W, .int .i64 H, .int .i64 F, .int .i64 L, .int .i64 X, .int .i64 Y] 23)).alloc (.cells #[.slice A1 n1 cap1] 26)) 28 #[.int .i64 N1, .int .i64 PX1, .int .i64 PY1]).alloc (.cells #[.slice A2 n2 cap2] 26)).alloc (.cells #[.int .i64 N2, .int .i64 PX2, .int .i64 PY2] 28)); simpa only [World.size_alloc] using h
    have hb4 : Blk W0 (w.heap.size + 1 + 1 + 1) 26 #[.slice A2 n2 cap2] := by rw [hW0]; exact (blk4 w _ _ _ 26 _).alloc _
    have hb5 : Blk W0 (w.heap.size + 1 + 1 + 1 + 1) 28 #[.int .i64 N2, .int .i64 PX2, .int .i64 PY2] := by rw [hW0]; have h := Blk.new ((((w.alloc (.cells #[.int .i64 W, .int .i64 H, .int .i64 F, .int .i64 L, .int .i64 X, .int .i64 Y] 23)).alloc (.cells #[.slice A1 n1 cap1] 26)).alloc (.cells #[.int .i64 N1, .int .i64 PX1, .int .i64 PY1] 28)).alloc (.cells #[.slice A2 n2 cap2] 26)) 28 #[.int .i64 N2, .int .i64 PX2, .int .i64 PY2]; simpa only [World.size_alloc] using h
    rw [← hW0]
    clear hW0
    have hTT := And.intro hb1 (And.intro hb2 (And.intro hb3 (And.intro hb4 hb5)))
    refine wp_region_G (fun w' => Blk w' (w.heap.size) 23 #[.int .i64 W, .int .i64 H, .int .i64 F, .int .i64 L, .int .i64 X, .int .i64 Y] ∧ Blk w' (w.heap.size + 1) 26 #[.slice A1 n1 cap1] ∧ Blk w' (w.heap.size + 1 + 1) 28 #[.int .i64 N1, .int .i64 PX1, .int .i64 PY1] ∧ Blk w' (w.heap.size + 1 + 1 + 1) 26 #[.slice A2 n2 cap2] ∧ Blk w' (w.heap.size + 1 + 1 + 1 + 1) 28 #[.int .i64 N2, .int .i64 PX2, .int .i64 PY2]) 11 (by kernel_rfl) ?_
    refine wpG_take (i := 0) (v := ?v0) rfl (by kernel_rfl) (by kernel_rfl) (by kernel_rfl) (by kernel_rfl) (fun _ _ _ h => h) (Or.inl ⟨by rfl, ?hy0⟩) hTT ?rest0
    case hy0 => intro wq hSw; have hq1 := fun i => hSw.1.cell i; have hq2 := fun i => hSw.2.1.cell i; have hq3 := fun i => hSw.2.2.1.cell i; have hq4 := fun i => hSw.2.2.2.1.cell i; have hq5 := fun i => hSw.2.2.2.2.cell i; go_simp <;> with_reducible rfl
    simp only [List.getElem_toArray, List.getElem_cons_zero, List.getElem_cons_succ, Act.put, List.setIfInBounds_toArray, List.set_cons_zero, List.set_cons_succ]
    refine wpG_take (i := 1) (v := ?v1) rfl (by kernel_rfl) (by kernel_rfl) (by kernel_rfl) (by kernel_rfl) (fun _ _ _ h => h) (Or.inl ⟨by rfl, ?hy1⟩) hTT ?rest1
    case hy1 => intro wq hSw; have hq1 := fun i => hSw.1.cell i; have hq2 := fun i => hSw.2.1.cell i; have hq3 := fun i => hSw.2.2.1.cell i; have hq4 := fun i => hSw.2.2.2.1.cell i; have hq5 := fun i => hSw.2.2.2.2.cell i; go_simp <;> with_reducible rfl
    simp only [List.getElem_toArray, List.getElem_cons_zero, List.getElem_cons_succ, Act.put, List.setIfInBounds_toArray, List.set_cons_zero, List.set_cons_succ]
    refine wpG_take (i := 2) (v := ?v2) rfl (by kernel_rfl) (by kernel_rfl) (by kernel_rfl) (by kernel_rfl) (fun _ _ _ h => h) (Or.inl ⟨by rfl, ?hy2⟩) hTT ?rest2
    case hy2 => intro wq hSw; have hq1 := fun i => hSw.1.cell i; have hq2 := fun i => hSw.2.1.cell i; have hq3 := fun i => hSw.2.2.1.cell i; have hq4 := fun i => hSw.2.2.2.1.cell i; have hq5 := fun i => hSw.2.2.2.2.cell i; go_simp <;> with_reducible rfl
    simp only [List.getElem_toArray, List.getElem_cons_zero, List.getElem_cons_succ, Act.put, List.setIfInBounds_toArray, List.set_cons_zero, List.set_cons_succ]
    refine wpG_take (i := 3) (v := ?v3) rfl (by kernel_rfl) (by kernel_rfl) (by kernel_rfl) (by kernel_rfl) (fun _ _ _ h => h) (Or.inl ⟨by rfl, ?hy3⟩) hTT ?rest3
    case hy3 => intro wq hSw; have hq1 := fun i => hSw.1.cell i; have hq2 := fun i => hSw.2.1.cell i; have hq3 := fun i => hSw.2.2.1.cell i; have hq4 := fun i => hSw.2.2.2.1.cell i; have hq5 := fun i => hSw.2.2.2.2.cell i; go_simp <;> with_reducible rfl
    simp only [List.getElem_toArray, List.getElem_cons_zero, List.getElem_cons_succ, Act.put, List.setIfInBounds_toArray, List.set_cons_zero, List.set_cons_succ]
    refine wpG_take (i := 4) (v := ?v4) rfl (by kernel_rfl) (by kernel_rfl) (by kernel_rfl) (by kernel_rfl) (fun _ _ _ h => h) (Or.inl ⟨by rfl, ?hy4⟩) hTT ?rest4
    case hy4 => intro wq hSw; have hq1 := fun i => hSw.1.cell i; have hq2 := fun i => hSw.2.1.cell i; have hq3 := fun i => hSw.2.2.1.cell i; have hq4 := fun i => hSw.2.2.2.1.cell i; have hq5 := fun i => hSw.2.2.2.2.cell i; go_simp <;> with_reducible rfl
    simp only [List.getElem_toArray, List.getElem_cons_zero, List.getElem_cons_succ, Act.put, List.setIfInBounds_toArray, List.set_cons_zero, List.set_cons_succ]
    refine wpG_take (i := 5) (v := ?v5) rfl (by kernel_rfl) (by kernel_rfl) (by kernel_rfl) (by kernel_rfl) (fun _ _ _ h => h) (Or.inl ⟨by rfl, ?hy5⟩) hTT ?rest5
    case hy5 => intro wq hSw; have hq1 := fun i => hSw.1.cell i; have hq2 := fun i => hSw.2.1.cell i; have hq3 := fun i => hSw.2.2.1.cell i; have hq4 := fun i => hSw.2.2.2.1.cell i; have hq5 := fun i => hSw.2.2.2.2.cell i; go_simp <;> with_reducible rfl
    simp only [List.getElem_toArray, List.getElem_cons_zero, List.getElem_cons_succ, Act.put, List.setIfInBounds_toArray, List.set_cons_zero, List.set_cons_succ]
    refine wpG_take (i := 6) (v := ?v6) rfl (by kernel_rfl) (by kernel_rfl) (by kernel_rfl) (by kernel_rfl) (fun _ _ _ h => h) (Or.inl ⟨by rfl, ?hy6⟩) hTT ?rest6
    case hy6 => intro wq hSw; have hq1 := fun i => hSw.1.cell i; have hq2 := fun i => hSw.2.1.cell i; have hq3 := fun i => hSw.2.2.1.cell i; have hq4 := fun i => hSw.2.2.2.1.cell i; have hq5 := fun i => hSw.2.2.2.2.cell i; go_simp <;> with_reducible rfl
    simp only [List.getElem_toArray, List.getElem_cons_zero, List.getElem_cons_succ, Act.put, List.setIfInBounds_toArray, List.set_cons_zero, List.set_cons_succ]
    refine wpG_take (i := 7) (v := ?v7) rfl (by kernel_rfl) (by kernel_rfl) (by kernel_rfl) (by kernel_rfl) (fun _ _ _ h => h) (Or.inl ⟨by rfl, ?hy7⟩) hTT ?rest7
    case hy7 => intro wq hSw; have hq1 := fun i => hSw.1.cell i; have hq2 := fun i => hSw.2.1.cell i; have hq3 := fun i => hSw.2.2.1.cell i; have hq4 := fun i => hSw.2.2.2.1.cell i; have hq5 := fun i => hSw.2.2.2.2.cell i; go_simp <;> with_reducible rfl
    simp only [List.getElem_toArray, List.getElem_cons_zero, List.getElem_cons_succ, Act.put, List.setIfInBounds_toArray, List.set_cons_zero, List.set_cons_succ]
    refine wpG_two (i := 8) (j := 9) rfl rfl (by kernel_rfl) (fun K hK => ?_) (fun K hK => ?_)
    · go_simp
      have hz1 := Blk.new W0.drew 140 #[.int .i64 0, .int .i64 0, .int .i64 0, .int .i64 0, .int .i64 0, .int .i64 0, .slice none 0 0, .int .i64 0, .int .i64 0, .int .i64 0]
      have hc1 := Blk.alloc (w := W0.drew) hb1 (.cells #[.int .i64 0, .int .i64 0, .int .i64 0, .int .i64 0, .int .i64 0, .int .i64 0, .slice none 0 0, .int .i64 0, .int .i64 0, .int .i64 0] 140); have hc2 := Blk.alloc (w := W0.drew) hb2 (.cells #[.int .i64 0, .int .i64 0, .int .i64 0, .int .i64 0, .int .i64 0, .int .i64 0, .slice none 0 0, .int .i64 0, .int .i64 0, .int .i64 0] 140); have hc3 := Blk.alloc (w := W0.drew) hb3 (.cells #[.int .i64 0, .int .i64 0, .int .i64 0, .int .i64 0, .int .i64 0, .int .i64 0, .slice none 0 0, .int .i64 0, .int .i64 0, .int .i64 0] 140); have hc4 := Blk.alloc (w := W0.drew) hb4 (.cells #[.int .i64 0, .int .i64 0, .int .i64 0, .int .i64 0, .int .i64 0, .int .i64 0, .slice none 0 0, .int .i64 0, .int .i64 0, .int .i64 0] 140); have hc5 := Blk.alloc (w := W0.drew) hb5 (.cells #[.int .i64 0, .int .i64 0, .int .i64 0, .int .i64 0, .int .i64 0, .int .i64 0, .slice none 0 0, .int .i64 0, .int .i64 0, .int .i64 0] 140); 
      clear hTT; have hTT := And.intro hc1 (And.intro hc2 (And.intro hc3 (And.intro hc4 hc5)))
      refine hK _ _ (.inr hTT) ?_
      clear hK K
      try simp only [List.getElem_toArray, List.getElem_cons_zero, List.getElem_cons_succ, Act.put, List.setIfInBounds_toArray, List.set_cons_zero, List.set_cons_succ]
      refine wpG_one (i := 9) rfl (by kernel_rfl) (fun K hK => ?_)
      go_simp
      have hy1 := hz1.alloc (.cells #[.int .i64 0, .int .i64 0, .int .i64 0, .int .i64 0, .int .i64 0, .int .i64 0, .slice none 0 0, .int .i64 0, .int .i64 0, .int .i64 0] 140); have hy2 := Blk.new (W0.drew.alloc (.cells #[.int .i64 0, .int .i64 0, .int .i64 0, .int .i64 0, .int .i64 0, .int .i64 0, .slice none 0 0, .int .i64 0, .int .i64 0, .int .i64 0] 140)) 140 #[.int .i64 0, .int .i64 0, .int .i64 0, .int .i64 0, .int .i64 0, .int .i64 0, .slice none 0 0, .int .i64 0, .int .i64 0, .int .i64 0]; have hd1 := Blk.alloc (w := W0.drew.alloc (.cells #[.int .i64 0, .int .i64 0, .int .i64 0, .int .i64 0, .int .i64 0, .int .i64 0, .slice none 0 0, .int .i64 0, .int .i64 0, .int .i64 0] 140)) hc1 (.cells #[.int .i64 0, .int .i64 0, .int .i64 0, .int .i64 0, .int .i64 0, .int .i64 0, .slice none 0 0, .int .i64 0, .int .i64 0, .int .i64 0] 140); have hd2 := Blk.alloc (w := W0.drew.alloc (.cells #[.int .i64 0, .int .i64 0, .int .i64 0, .int .i64 0, .int .i64 0, .int .i64 0, .slice none 0 0, .int .i64 0, .int .i64 0, .int .i64 0] 140)) hc2 (.cells #[.int .i64 0, .int .i64 0, .int .i64 0, .int .i64 0, .int .i64 0, .int .i64 0, .slice none 0 0, .int .i64 0, .int .i64 0, .int .i64 0] 140); have hd3 := Blk.alloc (w := W0.drew.alloc (.cells #[.int .i64 0, .int .i64 0, .int .i64 0, .int .i64 0, .int .i64 0, .int .i64 0, .slice none 0 0, .int .i64 0, .int .i64 0, .int .i64 0] 140)) hc3 (.cells #[.int .i64 0, .int .i64 0, .int .i64 0, .int .i64 0, .int .i64 0, .int .i64 0, .slice none 0 0, .int .i64 0, .int .i64 0, .int .i64 0] 140); have hd4 := Blk.alloc (w := W0.drew.alloc (.cells #[.int .i64 0, .int .i64 0, .int .i64 0, .int .i64 0, .int .i64 0, .int .i64 0, .slice none 0 0, .int .i64 0, .int .i64 0, .int .i64 0] 140)) hc4 (.cells #[.int .i64 0, .int .i64 0, .int .i64 0, .int .i64 0, .int .i64 0, .int .i64 0, .slice none 0 0, .int .i64 0, .int .i64 0, .int .i64 0] 140); have hd5 := Blk.alloc (w := W0.drew.alloc (.cells #[.int .i64 0, .int .i64 0, .int .i64 0, .int .i64 0, .int .i64 0, .int .i64 0, .slice none 0 0, .int .i64 0, .int .i64 0, .int .i64 0] 140)) hc5 (.cells #[.int .i64 0, .int .i64 0, .int .i64 0, .int .i64 0, .int .i64 0, .int .i64 0, .slice none 0 0, .int .i64 0, .int .i64 0, .int .i64 0] 140); clear hTT; have hTT := And.intro hd1 (And.intro hd2 (And.intro hd3 (And.intro hd4 hd5)))
      refine hK _ _ (.inr hTT) ?_
      clear hK K
      try simp only [List.getElem_toArray, List.getElem_cons_zero, List.getElem_cons_succ, Act.put, List.setIfInBounds_toArray, List.set_cons_zero, List.set_cons_succ]
      have hWB : Below w.heap.size w (((W0.alloc (.cells #[.int .i64 0, .int .i64 0, .int .i64 0, .int .i64 0, .int .i64 0, .int .i64 0, .slice none 0 0, .int .i64 0, .int .i64 0, .int .i64 0] 140)).alloc (.cells #[.int .i64 0, .int .i64 0, .int .i64 0, .int .i64 0, .int .i64 0, .int .i64 0, .slice none 0 0, .int .i64 0, .int .i64 0, .int .i64 0] 140)).drew) := Below.drew ((hB0.alloc hB0.size _).alloc (by have := hB0.size; simp only [World.size_alloc]; omega) _)
      replace hy1 : Blk (((W0.alloc (.cells #[.int .i64 0, .int .i64 0, .int .i64 0, .int .i64 0, .int .i64 0, .int .i64 0, .slice none 0 0, .int .i64 0, .int .i64 0, .int .i64 0] 140)).alloc (.cells #[.int .i64 0, .int .i64 0, .int .i64 0, .int .i64 0, .int .i64 0, .int .i64 0, .slice none 0 0, .int .i64 0, .int .i64 0, .int .i64 0] 140)).drew) W0.heap.size 140 #[.int .i64 0, .int .i64 0, .int .i64 0, .int .i64 0, .int .i64 0, .int .i64 0, .slice none 0 0, .int .i64 0, .int .i64 0, .int .i64 0] := hy1
      replace hy2 : Blk (((W0.alloc (.cells #[.int .i64 0, .int .i64 0, .int .i64 0, .int .i64 0, .int .i64 0, .int .i64 0, .slice none 0 0, .int .i64 0, .int .i64 0, .int .i64 0] 140)).alloc (.cells #[.int .i64 0, .int .i64 0, .int .i64 0, .int .i64 0, .int .i64 0, .int .i64 0, .slice none 0 0, .int .i64 0, .int .i64 0, .int .i64 0] 140)).drew) (W0.heap.size + 1) 140 #[.int .i64 0, .int .i64 0, .int .i64 0, .int .i64 0, .int .i64 0, .int .i64 0, .slice none 0 0, .int .i64 0, .int .i64 0, .int .i64 0] := by have h := Blk.new (W0.alloc (.cells #[.int .i64 0, .int .i64 0, .int .i64 0, .int .i64 0, .int .i64 0, .int .i64 0, .slice none 0 0, .int .i64 0, .int .i64 0, .int .i64 0] 140)) 140 #[.int .i64 0, .int .i64 0, .int .i64 0, .int .i64 0, .int .i64 0, .int .i64 0, .slice none 0 0, .int .i64 0, .int .i64 0, .int .i64 0]; rw [World.size_alloc] at h; exact h
      replace hd1 := Blk.drew (w := (W0.alloc (.cells #[.int .i64 0, .int .i64 0, .int .i64 0, .int .i64 0, .int .i64 0, .int .i64 0, .slice none 0 0, .int .i64 0, .int .i64 0, .int .i64 0] 140)).alloc (.cells #[.int .i64 0, .int .i64 0, .int .i64 0, .int .i64 0, .int .i64 0, .int .i64 0, .slice none 0 0, .int .i64 0, .int .i64 0, .int .i64 0] 140)) hd1
      replace hd2 := Blk.drew (w := (W0.alloc (.cells #[.int .i64 0, .int .i64 0, .int .i64 0, .int .i64 0, .int .i64 0, .int .i64 0, .slice none 0 0, .int .i64 0, .int .i64 0, .int .i64 0] 140)).alloc (.cells #[.int .i64 0, .int .i64 0, .int .i64 0, .int .i64 0, .int .i64 0, .int .i64 0, .slice none 0 0, .int .i64 0, .int .i64 0, .int .i64 0] 140)) hd2
      replace hd3 := Blk.drew (w := (W0.alloc (.cells #[.int .i64 0, .int .i64 0, .int .i64 0, .int .i64 0, .int .i64 0, .int .i64 0, .slice none 0 0, .int .i64 0, .int .i64 0, .int .i64 0] 140)).alloc (.cells #[.int .i64 0, .int .i64 0, .int .i64 0, .int .i64 0, .int .i64 0, .int .i64 0, .slice none 0 0, .int .i64 0, .int .i64 0, .int .i64 0] 140)) hd3
      replace hd4 := Blk.drew (w := (W0.alloc (.cells #[.int .i64 0, .int .i64 0, .int .i64 0, .int .i64 0, .int .i64 0, .int .i64 0, .slice none 0 0, .int .i64 0, .int .i64 0, .int .i64 0] 140)).alloc (.cells #[.int .i64 0, .int .i64 0, .int .i64 0, .int .i64 0, .int .i64 0, .int .i64 0, .slice none 0 0, .int .i64 0, .int .i64 0, .int .i64 0] 140)) hd4
      replace hd5 := Blk.drew (w := (W0.alloc (.cells #[.int .i64 0, .int .i64 0, .int .i64 0, .int .i64 0, .int .i64 0, .int .i64 0, .slice none 0 0, .int .i64 0, .int .i64 0, .int .i64 0] 140)).alloc (.cells #[.int .i64 0, .int .i64 0, .int .i64 0, .int .i64 0, .int .i64 0, .int .i64 0, .slice none 0 0, .int .i64 0, .int .i64 0, .int .i64 0] 140)) hd5
      have hlt1 := hb1.lt
      have hlt2 := hb2.lt
      have hlt3 := hb3.lt
      have hlt4 := hb4.lt
      have hlt5 := hb5.lt
      clear hz1 hTT hc1 hc2 hc3 hc4 hc5
      have hTT := And.intro hd1 (And.intro hd2 (And.intro hd3 (And.intro hd4 hd5)))
      have hle0 := hB0.size
      generalize hG : W0.heap.size = G at *
      generalize ((W0.alloc (.cells #[.int .i64 0, .int .i64 0, .int .i64 0, .int .i64 0, .int .i64 0, .int .i64 0, .slice none 0 0, .int .i64 0, .int .i64 0, .int .i64 0] 140)).alloc (.cells #[.int .i64 0, .int .i64 0, .int .i64 0, .int .i64 0, .int .i64 0, .int .i64 0, .slice none 0 0, .int .i64 0, .int .i64 0, .int .i64 0] 140)).drew = W2 at *
      have hl1 := hy1.lt; have hl2 := hy2.lt; have hfz1 := fun i => hy1.frozen i; have hfz2 := fun i => hy2.frozen i; have hcz1 := fun i => hy1.cell i; have hcz2 := fun i => hy2.cell i
      refine wpG_one (i := 10) rfl (by kernel_rfl) (fun K hK => ?_)
      go_simp
      have hs1 := blk10 hy1 (.int .i64 W) (.int .i64 H) (.int .i64 F) (.int .i64 L) (.int .i64 X) (.int .i64 Y) (.slice A1 n1 cap1) (.int .i64 N1) (.int .i64 PX1) (.int .i64 PY1); have hs2 := far10 hy2 (g := G) (by omega) (.int .i64 W) (.int .i64 H) (.int .i64 F) (.int .i64 L) (.int .i64 X) (.int .i64 Y) (.slice A1 n1 cap1) (.int .i64 N1) (.int .i64 PX1) (.int .i64 PY1); have hsB := below10 hWB (g := G) (by omega) (.int .i64 W) (.int .i64 H) (.int .i64 F) (.int .i64 L) (.int .i64 X) (.int .i64 Y) (.slice A1 n1 cap1) (.int .i64 N1) (.int .i64 PX1) (.int .i64 PY1); have he1 := far10 hd1 (g := G) (by omega) (.int .i64 W) (.int .i64 H) (.int .i64 F) (.int .i64 L) (.int .i64 X) (.int .i64 Y) (.slice A1 n1 cap1) (.int .i64 N1) (.int .i64 PX1) (.int .i64 PY1); have he2 := far10 hd2 (g := G) (by omega) (.int .i64 W) (.int .i64 H) (.int .i64 F) (.int .i64 L) (.int .i64 X) (.int .i64 Y) (.slice A1 n1 cap1) (.int .i64 N1) (.int .i64 PX1) (.int .i64 PY1); have he3 := far10 hd3 (g := G) (by omega) (.int .i64 W) (.int .i64 H) (.int .i64 F) (.int .i64 L) (.int .i64 X) (.int .i64 Y) (.slice A1 n1 cap1) (.int .i64 N1) (.int .i64 PX1) (.int .i64 PY1); have he4 := far10 hd4 (g := G) (by omega) (.int .i64 W) (.int .i64 H) (.int .i64 F) (.int .i64 L) (.int .i64 X) (.int .i64 Y) (.slice A1 n1 cap1) (.int .i64 N1) (.int .i64 PX1) (.int .i64 PY1); have he5 := far10 hd5 (g := G) (by omega) (.int .i64 W) (.int .i64 H) (.int .i64 F) (.int .i64 L) (.int .i64 X) (.int .i64 Y) (.slice A1 n1 cap1) (.int .i64 N1) (.int .i64 PX1) (.int .i64 PY1); clear hTT; have hTT := And.intro he1 (And.intro he2 (And.intro he3 (And.intro he4 he5)))
      refine hK _ _ (.inr hTT) ?_
      clear hK K
      try simp only [List.getElem_toArray, List.getElem_cons_zero, List.getElem_cons_succ, Act.put, List.setIfInBounds_toArray, List.set_cons_zero, List.set_cons_succ]
      generalize ((((((((((W2.setCell ⟨G, 0, none⟩ (.int .i64 W)).setCell ⟨G, 1, none⟩ (.int .i64 H)).setCell ⟨G, 2, none⟩ (.int .i64 F)).setCell ⟨G, 3, none⟩ (.int .i64 L)).setCell ⟨G, 4, none⟩ (.int .i64 X)).setCell ⟨G, 5, none⟩ (.int .i64 Y)).setCell ⟨G, 6, none⟩ (.slice A1 n1 cap1)).setCell ⟨G, 7, none⟩ (.int .i64 N1)).setCell ⟨G, 8, none⟩ (.int .i64 PX1)).setCell ⟨G, 9, none⟩ (.int .i64 PY1)) = W3 at *
      clear hfz1 hfz2 hcz1 hcz2 hl1 hl2
      have hl2 := hs2.lt; have hfz2 := fun i => hs2.frozen i; have hcz2 := fun i => hs2.cell i
      refine wpG_one (i := 11) rfl (by kernel_rfl) (fun K hK => ?_)
      go_simp
      refine hK _ _ (.inl rfl) ?_
      clear hK K
      try simp only [List.getElem_toArray, List.getElem_cons_zero, List.getElem_cons_succ, Act.put, List.setIfInBounds_toArray, List.set_cons_zero, List.set_cons_succ]
      refine wpG_done (by kernel_rfl) ?_ _
      go_wp2_with (fail)
      go_meet
      exact ⟨G, (G + 1), rfl, rfl, far10 hs1 (by omega) (.int .i64 W) (.int .i64 H) (.int .i64 F) (.int .i64 L) (.int .i64 X) (.int .i64 Y) (.slice A2 n2 cap2) (.int .i64 N2) (.int .i64 PX2) (.int .i64 PY2), blk10 hs2 (.int .i64 W) (.int .i64 H) (.int .i64 F) (.int .i64 L) (.int .i64 X) (.int .i64 Y) (.slice A2 n2 cap2) (.int .i64 N2) (.int .i64 PX2) (.int .i64 PY2), below10 hsB (by omega) (.int .i64 W) (.int .i64 H) (.int .i64 F) (.int .i64 L) (.int .i64 X) (.int .i64 Y) (.slice A2 n2 cap2) (.int .i64 N2) (.int .i64 PX2) (.int .i64 PY2)⟩
    · go_simp
      have hz1 := Blk.new W0.drew 140 #[.int .i64 0, .int .i64 0, .int .i64 0, .int .i64 0, .int .i64 0, .int .i64 0, .slice none 0 0, .int .i64 0, .int .i64 0, .int .i64 0]
      have hc1 := Blk.alloc (w := W0.drew) hb1 (.cells #[.int .i64 0, .int .i64 0, .int .i64 0, .int .i64 0, .int .i64 0, .int .i64 0, .slice none 0 0, .int .i64 0, .int .i64 0, .int .i64 0] 140); have hc2 := Blk.alloc (w := W0.drew) hb2 (.cells #[.int .i64 0, .int .i64 0, .int .i64 0, .int .i64 0, .int .i64 0, .int .i64 0, .slice none 0 0, .int .i64 0, .int .i64 0, .int .i64 0] 140); have hc3 := Blk.alloc (w := W0.drew) hb3 (.cells #[.int .i64 0, .int .i64 0, .int .i64 0, .int .i64 0, .int .i64 0, .int .i64 0, .slice none 0 0, .int .i64 0, .int .i64 0, .int .i64 0] 140); have hc4 := Blk.alloc (w := W0.drew) hb4 (.cells #[.int .i64 0, .int .i64 0, .int .i64 0, .int .i64 0, .int .i64 0, .int .i64 0, .slice none 0 0, .int .i64 0, .int .i64 0, .int .i64 0] 140); have hc5 := Blk.alloc (w := W0.drew) hb5 (.cells #[.int .i64 0, .int .i64 0, .int .i64 0, .int .i64 0, .int .i64 0, .int .i64 0, .slice none 0 0, .int .i64 0, .int .i64 0, .int .i64 0] 140); 
      clear hTT; have hTT := And.intro hc1 (And.intro hc2 (And.intro hc3 (And.intro hc4 hc5)))
      refine hK _ _ (.inr hTT) ?_
      clear hK K
      try simp only [List.getElem_toArray, List.getElem_cons_zero, List.getElem_cons_succ, Act.put, List.setIfInBounds_toArray, List.set_cons_zero, List.set_cons_succ]
      refine wpG_one (i := 8) rfl (by kernel_rfl) (fun K hK => ?_)
      go_simp
      have hy1 := hz1.alloc (.cells #[.int .i64 0, .int .i64 0, .int .i64 0, .int .i64 0, .int .i64 0, .int .i64 0, .slice none 0 0, .int .i64 0, .int .i64 0, .int .i64 0] 140); have hy2 := Blk.new (W0.drew.alloc (.cells #[.int .i64 0, .int .i64 0, .int .i64 0, .int .i64 0, .int .i64 0, .int .i64 0, .slice none 0 0, .int .i64 0, .int .i64 0, .int .i64 0] 140)) 140 #[.int .i64 0, .int .i64 0, .int .i64 0, .int .i64 0, .int .i64 0, .int .i64 0, .slice none 0 0, .int .i64 0, .int .i64 0, .int .i64 0]; have hd1 := Blk.alloc (w := W0.drew.alloc (.cells #[.int .i64 0, .int .i64 0, .int .i64 0, .int .i64 0, .int .i64 0, .int .i64 0, .slice none 0 0, .int .i64 0, .int .i64 0, .int .i64 0] 140)) hc1 (.cells #[.int .i64 0, .int .i64 0, .int .i64 0, .int .i64 0, .int .i64 0, .int .i64 0, .slice none 0 0, .int .i64 0, .int .i64 0, .int .i64 0] 140); have hd2 := Blk.alloc (w := W0.drew.alloc (.cells #[.int .i64 0, .int .i64 0, .int .i64 0, .int .i64 0, .int .i64 0, .int .i64 0, .slice none 0 0, .int .i64 0, .int .i64 0, .int .i64 0] 140)) hc2 (.cells #[.int .i64 0, .int .i64 0, .int .i64 0, .int .i64 0, .int .i64 0, .int .i64 0, .slice none 0 0, .int .i64 0, .int .i64 0, .int .i64 0] 140); have hd3 := Blk.alloc (w := W0.drew.alloc (.cells #[.int .i64 0, .int .i64 0, .int .i64 0, .int .i64 0, .int .i64 0, .int .i64 0, .slice none 0 0, .int .i64 0, .int .i64 0, .int .i64 0] 140)) hc3 (.cells #[.int .i64 0, .int .i64 0, .int .i64 0, .int .i64 0, .int .i64 0, .int .i64 0, .slice none 0 0, .int .i64 0, .int .i64 0, .int .i64 0] 140); have hd4 := Blk.alloc (w := W0.drew.alloc (.cells #[.int .i64 0, .int .i64 0, .int .i64 0, .int .i64 0, .int .i64 0, .int .i64 0, .slice none 0 0, .int .i64 0, .int .i64 0, .int .i64 0] 140)) hc4 (.cells #[.int .i64 0, .int .i64 0, .int .i64 0, .int .i64 0, .int .i64 0, .int .i64 0, .slice none 0 0, .int .i64 0, .int .i64 0, .int .i64 0] 140); have hd5 := Blk.alloc (w := W0.drew.alloc (.cells #[.int .i64 0, .int .i64 0, .int .i64 0, .int .i64 0, .int .i64 0, .int .i64 0, .slice none 0 0, .int .i64 0, .int .i64 0, .int .i64 0] 140)) hc5 (.cells #[.int .i64 0, .int .i64 0, .int .i64 0, .int .i64 0, .int .i64 0, .int .i64 0, .slice none 0 0, .int .i64 0, .int .i64 0, .int .i64 0] 140); clear hTT; have hTT := And.intro hd1 (And.intro hd2 (And.intro hd3 (And.intro hd4 hd5)))
      refine hK _ _ (.inr hTT) ?_
      clear hK K
      try simp only [List.getElem_toArray, List.getElem_cons_zero, List.getElem_cons_succ, Act.put, List.setIfInBounds_toArray, List.set_cons_zero, List.set_cons_succ]
      have hWB : Below w.heap.size w (((W0.alloc (.cells #[.int .i64 0, .int .i64 0, .int .i64 0, .int .i64 0, .int .i64 0, .int .i64 0, .slice none 0 0, .int .i64 0, .int .i64 0, .int .i64 0] 140)).alloc (.cells #[.int .i64 0, .int .i64 0, .int .i64 0, .int .i64 0, .int .i64 0, .int .i64 0, .slice none 0 0, .int .i64 0, .int .i64 0, .int .i64 0] 140)).drew) := Below.drew ((hB0.alloc hB0.size _).alloc (by have := hB0.size; simp only [World.size_alloc]; omega) _)
      replace hy1 : Blk (((W0.alloc (.cells #[.int .i64 0, .int .i64 0, .int .i64 0, .int .i64 0, .int .i64 0, .int .i64 0, .slice none 0 0, .int .i64 0, .int .i64 0, .int .i64 0] 140)).alloc (.cells #[.int .i64 0, .int .i64 0, .int .i64 0, .int .i64 0, .int .i64 0, .int .i64 0, .slice none 0 0, .int .i64 0, .int .i64 0, .int .i64 0] 140)).drew) W0.heap.size 140 #[.int .i64 0, .int .i64 0, .int .i64 0, .int .i64 0, .int .i64 0, .int .i64 0, .slice none 0 0, .int .i64 0, .int .i64 0, .int .i64 0] := hy1
      replace hy2 : Blk (((W0.alloc (.cells #[.int .i64 0, .int .i64 0, .int .i64 0, .int .i64 0, .int .i64 0, .int .i64 0, .slice none 0 0, .int .i64 0, .int .i64 0, .int .i64 0] 140)).alloc (.cells #[.int .i64 0, .int .i64 0, .int .i64 0, .int .i64 0, .int .i64 0, .int .i64 0, .slice none 0 0, .int .i64 0, .int .i64 0, .int .i64 0] 140)).drew) (W0.heap.size + 1) 140 #[.int .i64 0, .int .i64 0, .int .i64 0, .int .i64 0, .int .i64 0, .int .i64 0, .slice none 0 0, .int .i64 0, .int .i64 0, .int .i64 0] := by have h := Blk.new (W0.alloc (.cells #[.int .i64 0, .int .i64 0, .int .i64 0, .int .i64 0, .int .i64 0, .int .i64 0, .slice none 0 0, .int .i64 0, .int .i64 0, .int .i64 0] 140)) 140 #[.int .i64 0, .int .i64 0, .int .i64 0, .int .i64 0, .int .i64 0, .int .i64 0, .slice none 0 0, .int .i64 0, .int .i64 0, .int .i64 0]; rw [World.size_alloc] at h; exact h
      replace hd1 := Blk.drew (w := (W0.alloc (.cells #[.int .i64 0, .int .i64 0, .int .i64 0, .int .i64 0, .int .i64 0, .int .i64 0, .slice none 0 0, .int .i64 0, .int .i64 0, .int .i64 0] 140)).alloc (.cells #[.int .i64 0, .int .i64 0, .int .i64 0, .int .i64 0, .int .i64 0, .int .i64 0, .slice none 0 0, .int .i64 0, .int .i64 0, .int .i64 0] 140)) hd1
      replace hd2 := Blk.drew (w := (W0.alloc (.cells #[.int .i64 0, .int .i64 0, .int .i64 0, .int .i64 0, .int .i64 0, .int .i64 0, .slice none 0 0, .int .i64 0, .int .i64 0, .int .i64 0] 140)).alloc (.cells #[.int .i64 0, .int .i64 0, .int .i64 0, .int .i64 0, .int .i64 0, .int .i64 0, .slice none 0 0, .int .i64 0, .int .i64 0, .int .i64 0] 140)) hd2
      replace hd3 := Blk.drew (w := (W0.alloc (.cells #[.int .i64 0, .int .i64 0, .int .i64 0, .int .i64 0, .int .i64 0, .int .i64 0, .slice none 0 0, .int .i64 0, .int .i64 0, .int .i64 0] 140)).alloc (.cells #[.int .i64 0, .int .i64 0, .int .i64 0, .int .i64 0, .int .i64 0, .int .i64 0, .slice none 0 0, .int .i64 0, .int .i64 0, .int .i64 0] 140)) hd3
      replace hd4 := Blk.drew (w := (W0.alloc (.cells #[.int .i64 0, .int .i64 0, .int .i64 0, .int .i64 0, .int .i64 0, .int .i64 0, .slice none 0 0, .int .i64 0, .int .i64 0, .int .i64 0] 140)).alloc (.cells #[.int .i64 0, .int .i64 0, .int .i64 0, .int .i64 0, .int .i64 0, .int .i64 0, .slice none 0 0, .int .i64 0, .int .i64 0, .int .i64 0] 140)) hd4
      replace hd5 := Blk.drew (w := (W0.alloc (.cells #[.int .i64 0, .int .i64 0, .int .i64 0, .int .i64 0, .int .i64 0, .int .i64 0, .slice none 0 0, .int .i64 0, .int .i64 0, .int .i64 0] 140)).alloc (.cells #[.int .i64 0, .int .i64 0, .int .i64 0, .int .i64 0, .int .i64 0, .int .i64 0, .slice none 0 0, .int .i64 0, .int .i64 0, .int .i64 0] 140)) hd5
      have hlt1 := hb1.lt
      have hlt2 := hb2.lt
      have hlt3 := hb3.lt
      have hlt4 := hb4.lt
      have hlt5 := hb5.lt
      clear hz1 hTT hc1 hc2 hc3 hc4 hc5
      have hTT := And.intro hd1 (And.intro hd2 (And.intro hd3 (And.intro hd4 hd5)))
      have hle0 := hB0.size
      generalize hG : W0.heap.size = G at *
      generalize ((W0.alloc (.cells #[.int .i64 0, .int .i64 0, .int .i64 0, .int .i64 0, .int .i64 0, .int .i64 0, .slice none 0 0, .int .i64 0, .int .i64 0, .int .i64 0] 140)).alloc (.cells #[.int .i64 0, .int .i64 0, .int .i64 0, .int .i64 0, .int .i64 0, .int .i64 0, .slice none 0 0, .int .i64 0, .int .i64 0, .int .i64 0] 140)).drew = W2 at *
      have hl1 := hy1.lt; have hl2 := hy2.lt; have hfz1 := fun i => hy1.frozen i; have hfz2 := fun i => hy2.frozen i; have hcz1 := fun i => hy1.cell i; have hcz2 := fun i => hy2.cell i
      refine wpG_one (i := 10) rfl (by kernel_rfl) (fun K hK => ?_)
      go_simp
      have hs1 := blk10 hy2 (.int .i64 W) (.int .i64 H) (.int .i64 F) (.int .i64 L) (.int .i64 X) (.int .i64 Y) (.slice A1 n1 cap1) (.int .i64 N1) (.int .i64 PX1) (.int .i64 PY1); have hs2 := far10 hy1 (g := (G + 1)) (by omega) (.int .i64 W) (.int .i64 H) (.int .i64 F) (.int .i64 L) (.int .i64 X) (.int .i64 Y) (.slice A1 n1 cap1) (.int .i64 N1) (.int .i64 PX1) (.int .i64 PY1); have hsB := below10 hWB (g := (G + 1)) (by omega) (.int .i64 W) (.int .i64 H) (.int .i64 F) (.int .i64 L) (.int .i64 X) (.int .i64 Y) (.slice A1 n1 cap1) (.int .i64 N1) (.int .i64 PX1) (.int .i64 PY1); have he1 := far10 hd1 (g := (G + 1)) (by omega) (.int .i64 W) (.int .i64 H) (.int .i64 F) (.int .i64 L) (.int .i64 X) (.int .i64 Y) (.slice A1 n1 cap1) (.int .i64 N1) (.int .i64 PX1) (.int .i64 PY1); have he2 := far10 hd2 (g := (G + 1)) (by omega) (.int .i64 W) (.int .i64 H) (.int .i64 F) (.int .i64 L) (.int .i64 X) (.int .i64 Y) (.slice A1 n1 cap1) (.int .i64 N1) (.int .i64 PX1) (.int .i64 PY1); have he3 := far10 hd3 (g := (G + 1)) (by omega) (.int .i64 W) (.int .i64 H) (.int .i64 F) (.int .i64 L) (.int .i64 X) (.int .i64 Y) (.slice A1 n1 cap1) (.int .i64 N1) (.int .i64 PX1) (.int .i64 PY1); have he4 := far10 hd4 (g := (G + 1)) (by omega) (.int .i64 W) (.int .i64 H) (.int .i64 F) (.int .i64 L) (.int .i64 X) (.int .i64 Y) (.slice A1 n1 cap1) (.int .i64 N1) (.int .i64 PX1) (.int .i64 PY1); have he5 := far10 hd5 (g := (G + 1)) (by omega) (.int .i64 W) (.int .i64 H) (.int .i64 F) (.int .i64 L) (.int .i64 X) (.int .i64 Y) (.slice A1 n1 cap1) (.int .i64 N1) (.int .i64 PX1) (.int .i64 PY1); clear hTT; have hTT := And.intro he1 (And.intro he2 (And.intro he3 (And.intro he4 he5)))
      refine hK _ _ (.inr hTT) ?_
      clear hK K
      try simp only [List.getElem_toArray, List.getElem_cons_zero, List.getElem_cons_succ, Act.put, List.setIfInBounds_toArray, List.set_cons_zero, List.set_cons_succ]
      generalize ((((((((((W2.setCell ⟨(G + 1), 0, none⟩ (.int .i64 W)).setCell ⟨(G + 1), 1, none⟩ (.int .i64 H)).setCell ⟨(G + 1), 2, none⟩ (.int .i64 F)).setCell ⟨(G + 1), 3, none⟩ (.int .i64 L)).setCell ⟨(G + 1), 4, none⟩ (.int .i64 X)).setCell ⟨(G + 1), 5, none⟩ (.int .i64 Y)).setCell ⟨(G + 1), 6, none⟩ (.slice A1 n1 cap1)).setCell ⟨(G + 1), 7, none⟩ (.int .i64 N1)).setCell ⟨(G + 1), 8, none⟩ (.int .i64 PX1)).setCell ⟨(G + 1), 9, none⟩ (.int .i64 PY1)) = W3 at *
      clear hfz1 hfz2 hcz1 hcz2 hl1 hl2
      have hl2 := hs2.lt; have hfz2 := fun i => hs2.frozen i; have hcz2 := fun i => hs2.cell i
      refine wpG_one (i := 11) rfl (by kernel_rfl) (fun K hK => ?_)
      go_simp
      refine hK _ _ (.inl rfl) ?_
      clear hK K
      try simp only [List.getElem_toArray, List.getElem_cons_zero, List.getElem_cons_succ, Act.put, List.setIfInBounds_toArray, List.set_cons_zero, List.set_cons_succ]
      refine wpG_done (by kernel_rfl) ?_ _
      go_wp2_with (fail)
      go_meet
      exact ⟨(G + 1), G, rfl, rfl, far10 hs1 (by omega) (.int .i64 W) (.int .i64 H) (.int .i64 F) (.int .i64 L) (.int .i64 X) (.int .i64 Y) (.slice A2 n2 cap2) (.int .i64 N2) (.int .i64 PX2) (.int .i64 PY2), blk10 hs2 (.int .i64 W) (.int .i64 H) (.int .i64 F) (.int .i64 L) (.int .i64 X) (.int .i64 Y) (.slice A2 n2 cap2) (.int .i64 N2) (.int .i64 PX2) (.int .i64 PY2), below10 hsB (by omega) (.int .i64 W) (.int .i64 H) (.int .i64 F) (.int .i64 L) (.int .i64 X) (.int .i64 Y) (.slice A2 n2 cap2) (.int .i64 N2) (.int .i64 PX2) (.int .i64 PY2)⟩
  case rest =>
    obtain ⟨g1, g2, rfl, rfl, hb1, hb2, hB⟩ := hcut
    have hq1 := fun i => hb1.cell i
    have hq2 := fun i => hb2.cell i
    have hl1 := hb1.lt
    have hl2 := hb2.lt
    cases hv1 : viewB W H F L X Y N1 PX1 PY1 rows1
    · have hm : meetsR W H F L X Y N1 PX1 PY1 N2 PX2 PY2 rows1 rows2 = #[.int .i64 0, .int .i64 2] := by rw [meetsR, hv1]; rfl
      have HM := Lib.hid hm; clear hm
      go_wp2_with (first | (go_at_call 100; refine (viewGood_any W H F L X Y N1 PX1 PY1 A1 n1 cap1 rows1 _ (Nat.le_trans hcap1 hcm1) hs1 ((hr1.below hB).more hB.size)).mono ?_; rintro e wa ⟨rfl, hca⟩; rw [hv1]; have hBa := hB.trans (hca.mono hB.size); have hb1a := hb1.below hca hb1.lt; have hb2a := hb2.below hca hb2.lt; have hq1a := fun i => hb1a.cell i; have hq2a := fun i => hb2a.cell i; have hl1a := hb1a.lt; have hl2a := hb2a.lt))
      go_ret2
      exact ⟨by rw [HM.out]; rfl, hBa⟩
    · cases hv2 : viewB W H F L X Y N2 PX2 PY2 rows2
      · have hm : meetsR W H F L X Y N1 PX1 PY1 N2 PX2 PY2 rows1 rows2 = #[.int .i64 0, .int .i64 2] := by rw [meetsR, hv1, hv2]; rfl
        have HM := Lib.hid hm; clear hm
        go_wp2_with (first | (go_at_call 100; refine (viewGood_any W H F L X Y N2 PX2 PY2 A2 n2 cap2 rows2 _ (Nat.le_trans hcap2 hcm2) hs2 ((hr2.below hBa).more hBa.size)).mono ?_; rintro e wb ⟨rfl, hcb⟩; rw [hv2]; have hBb := hBa.trans (hcb.mono hBa.size); have hb1b := hb1a.below hcb hb1a.lt; have hb2b := hb2a.below hcb hb2a.lt; have hl1b := hb1b.lt; have hl2b := hb2b.lt) | (go_at_call 100; refine (viewGood_any W H F L X Y N1 PX1 PY1 A1 n1 cap1 rows1 _ (Nat.le_trans hcap1 hcm1) hs1 ((hr1.below hB).more hB.size)).mono ?_; rintro e wa ⟨rfl, hca⟩; rw [hv1]; have hBa := hB.trans (hca.mono hB.size); have hb1a := hb1.below hca hb1.lt; have hb2a := hb2.below hca hb2.lt; have hq1a := fun i => hb1a.cell i; have hq2a := fun i => hb2a.cell i; have hl1a := hb1a.lt; have hl2a := hb2a.lt))
        go_ret2
        exact ⟨by rw [HM.out]; rfl, hBb⟩
      · have hm : meetsR W H F L X Y N1 PX1 PY1 N2 PX2 PY2 rows1 rows2 = #[.int .i64 (meetV (shS W H F L X Y N1 PX1 PY1 rows1) (shS W H F L X Y N2 PX2 PY2 rows2)), .int .i64 0] := by rw [meetsR, hv1, hv2]; rfl
        have HM := Lib.hid hm; clear hm
        go_wp2_with (first | (go_at_call 100; refine (viewGood_any W H F L X Y N2 PX2 PY2 A2 n2 cap2 rows2 _ (Nat.le_trans hcap2 hcm2) hs2 ((hr2.below hBa).more hBa.size)).mono ?_; rintro e wb ⟨rfl, hcb⟩; rw [hv2]; have hBb := hBa.trans (hcb.mono hBa.size); have hb1b := hb1a.below hcb hb1a.lt; have hb2b := hb2a.below hcb hb2a.lt; have hl1b := hb1b.lt; have hl2b := hb2b.lt) | (go_at_call 100; refine (viewGood_any W H F L X Y N1 PX1 PY1 A1 n1 cap1 rows1 _ (Nat.le_trans hcap1 hcm1) hs1 ((hr1.below hB).more hB.size)).mono ?_; rintro e wa ⟨rfl, hca⟩; rw [hv1]; have hBa := hB.trans (hca.mono hB.size); have hb1a := hb1.below hca hb1.lt; have hb2a := hb2.below hca hb2.lt; have hq1a := fun i => hb1a.cell i; have hq2a := fun i => hb2a.cell i; have hl1a := hb1a.lt; have hl2a := hb2a.lt))
        clear hq1 hq2 hq1a hq2a
        have hvv := hv1
        simp only [viewB, Bool.and_eq_true] at hvv
        obtain ⟨⟨_, b1⟩, ⟨_, b2⟩, _⟩ := stageB_nums hvv.1
        clear hvv
        have hsz1 := shS_le F L X Y N1 PX1 PY1 rows1 (show W ≤ 50 by omega) (show H ≤ 50 by omega)
        have hse : (shS W H F L X Y N1 PX1 PY1 rows1).size ≤ (shS W H F L X Y N2 PX2 PY2 rows2).size := by rw [shS_size, shS_size]; exact Nat.le_refl _
        have hc1 := fun p i => blw_blk hb1b p i
        have hc2 := fun p i => blw_blk hb2b p i
        have hrw1 : Rd _ _ 1 A1 n1 (rows1.map Value.string) := (hr1.below hBb).more hBb.size
        have hrw2 : Rd _ _ 1 A2 n2 (rows2.map Value.string) := (hr2.below hBb).more hBb.size
        obtain ⟨s1, hs1'⟩ : ∃ s1, s1 = shS W H F L X Y N1 PX1 PY1 rows1 := ⟨_, rfl⟩
        obtain ⟨s2, hs2'⟩ : ∃ s2, s2 = shS W H F L X Y N2 PX2 PY2 rows2 := ⟨_, rfl⟩
        have hk1 : ∀ p : Blw wb.heap.size wb, Calls Tryz.prog 102 #[.agg #[.int .i64 W, .int .i64 H, .int .i64 F, .int .i64 L, .int .i64 X, .int .i64 Y, .slice A1 n1 cap1, .int .i64 N1, .int .i64 PX1, .int .i64 PY1]] p.toW fun e w' => e = .returned (.string s1) ∧ Below p.toW.heap.size p.toW w' := fun p => by rw [hs1']; exact shadow_int W H F L X Y N1 PX1 PY1 A1 n1 cap1 rows1 _ hcap1 hcm1 (rd_blw hrw1 p) hv1
        have hk2 : ∀ p : Blw wb.heap.size wb, Calls Tryz.prog 102 #[.agg #[.int .i64 W, .int .i64 H, .int .i64 F, .int .i64 L, .int .i64 X, .int .i64 Y, .slice A2 n2 cap2, .int .i64 N2, .int .i64 PX2, .int .i64 PY2]] p.toW fun e w' => e = .returned (.string s2) ∧ Below p.toW.heap.size p.toW w' := fun p => by rw [hs2']; exact shadow_int W H F L X Y N2 PX2 PY2 A2 n2 cap2 rows2 _ hcap2 hcm2 (rd_blw hrw2 p) hv2
        rw [← hs1', ← hs2'] at hse HM
        rw [← hs1'] at hsz1
        have hsm : s1.size ≤ maxLen := by unfold maxLen; omega
        clear hs1' hs2'
        refine wp_region_blw (by kernel_rfl) (by kernel_rfl) ?_
        go_big_quiet_step (fail)
        go_big_quiet_step (first | (go_at_call 102; exact Calls.blw_of _ (hk1 _)))
        go_big_quiet_step (fail)
        go_big_quiet_step (first | (go_at_call 102; exact Calls.blw_of _ (hk2 _)))
        repeat (go_big_quiet_step (first | (go_at_call 109; exact Calls.blw_of_same _ (meet_any s1 s2 _ hsm hse))))
        refine wpQuiet_nil ?_
        rintro W3 ⟨⟨_, hb3⟩, rfl⟩
        go_wp2_with (fail)
        go_ret2
        exact ⟨by rw [HM.out]; rfl, hBb.trans (hb3.mono hBb.size)⟩
end
section
open Go.RowKit Go.Lib
theorem nums_dgt (d : Nat) (hd : d < 10) : strOfNums [48 + (d : Int)] = ⟨#[dgt d]⟩ := by
  have e : (48 + (d : Int)) = ((48 + d : Nat) : Int) := by omega
  rw [e]; rfl
set_option maxRecDepth 100000 in
set_option maxHeartbeats 25600000 in
theorem decimal_two (n : Nat) (w : World) (h0 : 10 ≤ n) (h1 : n < 100) :
    Calls Tryz.prog 178 #[.int .i64 n] w fun e w' => e = .returned (.string (dS n)) ∧ Below w.heap.size w w' := by
  have hD := fun wx => decimal_small ((n / 10 : Nat) : Int) wx (by omega) (by omega)
  have hfn : Ending.returned (Value.string (strOfNums [48 + ((n / 10 : Nat) : Int)] ++ strOfNums [48 + ((n % 10 : Nat) : Int)])) = Ending.returned (Value.string (dS n)) := by
    rw [nums_dgt _ (by omega), nums_dgt _ (by omega), ba_cons]
    unfold dS
    rw [decDigits_two (by omega) h1]
    rfl
  have HFN := Lib.hid hfn; clear hfn
  have ed : (n : Int).tdiv 10 = ((n / 10 : Nat) : Int) := rfl
  have em : (n : Int).tmod 10 = ((n % 10 : Nat) : Int) := rfl
  have hd1 : n / 10 < 10 := by omega
  have hd2 : n % 10 < 10 := by omega
  have a1 : ¬ (n : Int) < 0 := by omega
  have a2 : ¬ (n : Int) < 10 := by omega
  have a3 : ¬ n < 10 := by omega
  obtain ⟨d1, e1⟩ : ∃ d1 : Int, d1 = ((n / 10 : Nat) : Int) := ⟨_, rfl⟩
  obtain ⟨d2, e2⟩ : ∃ d2 : Int, d2 = ((n % 10 : Nat) : Int) := ⟨_, rfl⟩
  have b1 : 0 ≤ d1 ∧ d1 < 10 := by omega
  have b2 : 0 ≤ d2 ∧ d2 < 10 := by omega
  rw [← e1] at ed hD HFN
  rw [← e2] at em HFN
  obtain ⟨b1, b1'⟩ := b1
  obtain ⟨b2, b2'⟩ := b2
  clear e1 e2 hd1 hd2
  have hw1 := i64_ok d1 (by omega)
  have hw2 := i64_ok d2 (by omega)
  have hw3 := i64_ok (48 + d2) (by omega)
  have hw4 : IntKind.u8.wrap (48 + d2) = 48 + d2 := by simp only [IntKind.wrap, IntKind.signed, IntKind.bits]; simp; omega
  have hsz1 : (strOfNums [48 + d1]).size = 1 := rfl
  have hsz2 : (strOfNums [48 + d2]).size = 1 := rfl
  have HD := Lib.hid hD; clear hD
  go_enter Tryz.func178, Tryz.ntmps178
  go_upto_region 7 with (fail)
  refine wp_region_G (fun w' => Below w.drew.heap.size w.drew w') 10 (by kernel_rfl) ?_
  have hB0 : Below w.heap.size w w.drew := Below.drew (Below.refl w.heap.size w)
  generalize w.drew = WD at *
  have hTT : Below WD.heap.size WD WD := Below.refl _ _
  refine wpG_take (i := 0) (v := ?vd0) rfl (by kernel_rfl) (by kernel_rfl) (by kernel_rfl) (by kernel_rfl) (fun _ _ _ h => h) (Or.inl ⟨by rfl, ?hyd0⟩) hTT ?restd0
  case hyd0 => intro wq hSw; go_simp <;> with_reducible rfl
  simp only [List.getElem_toArray, List.getElem_cons_zero, List.getElem_cons_succ, Act.put, List.setIfInBounds_toArray, List.set_cons_zero, List.set_cons_succ]
  refine wpG_take (i := 1) (v := ?vd1) rfl (by kernel_rfl) (by kernel_rfl) (by kernel_rfl) (by kernel_rfl) (fun _ _ _ h => h) (Or.inl ⟨by rfl, ?hyd1⟩) hTT ?restd1
  case hyd1 => intro wq hSw; go_simp <;> with_reducible rfl
  simp only [List.getElem_toArray, List.getElem_cons_zero, List.getElem_cons_succ, Act.put, List.setIfInBounds_toArray, List.set_cons_zero, List.set_cons_succ]
  refine wpG_take (i := 3) (v := ?vd3) rfl (by kernel_rfl) (by kernel_rfl) (by kernel_rfl) (by kernel_rfl) (fun _ _ _ h => h) (Or.inl ⟨by rfl, ?hyd3⟩) hTT ?restd3
  case hyd3 => intro wq hSw; go_simp <;> with_reducible rfl
  simp only [List.getElem_toArray, List.getElem_cons_zero, List.getElem_cons_succ, Act.put, List.setIfInBounds_toArray, List.set_cons_zero, List.set_cons_succ]
  refine wpG_take (i := 4) (v := ?vd4) rfl (by kernel_rfl) (by kernel_rfl) (by kernel_rfl) (by kernel_rfl) (fun _ _ _ h => h) (Or.inl ⟨by rfl, ?hyd4⟩) hTT ?restd4
  case hyd4 => intro wq hSw; go_simp <;> with_reducible rfl
  simp only [List.getElem_toArray, List.getElem_cons_zero, List.getElem_cons_succ, Act.put, List.setIfInBounds_toArray, List.set_cons_zero, List.set_cons_succ]
  refine wpG_take (i := 5) (v := ?vd5) rfl (by kernel_rfl) (by kernel_rfl) (by kernel_rfl) (by kernel_rfl) (fun _ _ _ h => h) (Or.inl ⟨by rfl, ?hyd5⟩) hTT ?restd5
  case hyd5 => intro wq hSw; go_simp <;> with_reducible rfl
  simp only [List.getElem_toArray, List.getElem_cons_zero, List.getElem_cons_succ, Act.put, List.setIfInBounds_toArray, List.set_cons_zero, List.set_cons_succ]
  refine wpG_take (i := 6) (v := ?vd6) rfl (by kernel_rfl) (by kernel_rfl) (by kernel_rfl) (by kernel_rfl) (fun _ _ _ h => h) (Or.inl ⟨by rfl, ?hyd6⟩) hTT ?restd6
  case hyd6 => intro wq hSw; go_simp <;> with_reducible rfl
  simp only [List.getElem_toArray, List.getElem_cons_zero, List.getElem_cons_succ, Act.put, List.setIfInBounds_toArray, List.set_cons_zero, List.set_cons_succ]
  refine wpG_two (i := 2) (j := 7) rfl rfl (by kernel_rfl) (fun K hK => ?_) (fun K hK => ?_)
  · go_simp
    refine (HD.out _).mono ?_; rintro e w1 ⟨rfl, hb⟩
    replace hTT := hTT.trans (hb.mono hTT.size); (try replace hBk := hBk.below hb hBk.lt); clear hb; dsimp only
    refine hK _ _ (.inr hTT) ?_
    clear hK K
    try simp only [List.getElem_toArray, List.getElem_cons_zero, List.getElem_cons_succ, Act.put, List.setIfInBounds_toArray, List.set_cons_zero, List.set_cons_succ]
    refine wpG_one (i := 7) rfl (by kernel_rfl) (fun K hK => ?_)
    go_simp
    rename World => WB
    have hBk := Blk.new WB 5 #[.int .u8 (48 + d2)]
    obtain ⟨g, hg⟩ : ∃ g, g = WB.heap.size := ⟨_, rfl⟩
    rw [← hg] at hBk ⊢
    replace hTT := hTT.alloc hTT.size (.cells #[.int .u8 (48 + d2)] 5)
    refine hK _ _ (.inr hTT) ?_
    clear hK K hg
    generalize WB.alloc (.cells #[.int .u8 (48 + d2)] 5) = WC at *
    try simp only [List.getElem_toArray, List.getElem_cons_zero, List.getElem_cons_succ, Act.put, List.setIfInBounds_toArray, List.set_cons_zero, List.set_cons_succ]
    refine wpG_one (i := 8) rfl (by kernel_rfl) (fun K hK => ?_)
    have kc := run_convert_bytes_arg (P := Tryz.prog) _ 89 5 Tryz.underlying89 Tryz.underlying5 g 0 1 1 [48 + d2] rfl (fun i hi => by obtain rfl : i = 0 := (by omega); rw [hBk.cell]; rfl) 9 Tryz.underlying9
    go_simp
    refine hK _ _ (.inr hTT) ?_
    clear hK K kc
    try simp only [List.getElem_toArray, List.getElem_cons_zero, List.getElem_cons_succ, Act.put, List.setIfInBounds_toArray, List.set_cons_zero, List.set_cons_succ]
    refine wpG_take (i := 9) (v := ?vp9) rfl (by kernel_rfl) (by kernel_rfl) (by kernel_rfl) (by kernel_rfl) (fun _ _ _ h => h) (Or.inl ⟨by rfl, ?hyp9⟩) hTT ?restp9
    case hyp9 => intro wq hSw; go_simp <;> with_reducible rfl
    simp only [List.getElem_toArray, List.getElem_cons_zero, List.getElem_cons_succ, Act.put, List.setIfInBounds_toArray, List.set_cons_zero, List.set_cons_succ]
    refine wpG_one (i := 10) rfl (by kernel_rfl) (fun K hK => ?_)
    go_simp
    refine hK _ _ (.inl rfl) ?_
    clear hK K
    try simp only [List.getElem_toArray, List.getElem_cons_zero, List.getElem_cons_succ, Act.put, List.setIfInBounds_toArray, List.set_cons_zero, List.set_cons_succ]
    refine wpG_done (by kernel_rfl) ?_ _
    go_wp2_with (fail)
    go_ret
    exact ⟨HFN.out, hB0.trans (hTT.mono hB0.size)⟩
  · go_simp
    rename World => WB
    have hBk := Blk.new WB 5 #[.int .u8 (48 + d2)]
    obtain ⟨g, hg⟩ : ∃ g, g = WB.heap.size := ⟨_, rfl⟩
    rw [← hg] at hBk ⊢
    replace hTT := hTT.alloc hTT.size (.cells #[.int .u8 (48 + d2)] 5)
    refine hK _ _ (.inr hTT) ?_
    clear hK K hg
    generalize WB.alloc (.cells #[.int .u8 (48 + d2)] 5) = WC at *
    try simp only [List.getElem_toArray, List.getElem_cons_zero, List.getElem_cons_succ, Act.put, List.setIfInBounds_toArray, List.set_cons_zero, List.set_cons_succ]
    refine wpG_two (i := 2) (j := 8) rfl rfl (by kernel_rfl) (fun K hK => ?_) (fun K hK => ?_)
    · go_simp
      refine (HD.out _).mono ?_; rintro e w1 ⟨rfl, hb⟩
      replace hTT := hTT.trans (hb.mono hTT.size); (try replace hBk := hBk.below hb hBk.lt); clear hb; dsimp only
      refine hK _ _ (.inr hTT) ?_
      clear hK K
      try simp only [List.getElem_toArray, List.getElem_cons_zero, List.getElem_cons_succ, Act.put, List.setIfInBounds_toArray, List.set_cons_zero, List.set_cons_succ]
      refine wpG_one (i := 8) rfl (by kernel_rfl) (fun K hK => ?_)
      have kc := run_convert_bytes_arg (P := Tryz.prog) _ 89 5 Tryz.underlying89 Tryz.underlying5 g 0 1 1 [48 + d2] rfl (fun i hi => by obtain rfl : i = 0 := (by omega); rw [hBk.cell]; rfl) 9 Tryz.underlying9
      go_simp
      refine hK _ _ (.inr hTT) ?_
      clear hK K kc
      try simp only [List.getElem_toArray, List.getElem_cons_zero, List.getElem_cons_succ, Act.put, List.setIfInBounds_toArray, List.set_cons_zero, List.set_cons_succ]
      refine wpG_take (i := 9) (v := ?vq9) rfl (by kernel_rfl) (by kernel_rfl) (by kernel_rfl) (by kernel_rfl) (fun _ _ _ h => h) (Or.inl ⟨by rfl, ?hyq9⟩) hTT ?restq9
      case hyq9 => intro wq hSw; go_simp <;> with_reducible rfl
      simp only [List.getElem_toArray, List.getElem_cons_zero, List.getElem_cons_succ, Act.put, List.setIfInBounds_toArray, List.set_cons_zero, List.set_cons_succ]
      refine wpG_one (i := 10) rfl (by kernel_rfl) (fun K hK => ?_)
      go_simp
      refine hK _ _ (.inl rfl) ?_
      clear hK K
      try simp only [List.getElem_toArray, List.getElem_cons_zero, List.getElem_cons_succ, Act.put, List.setIfInBounds_toArray, List.set_cons_zero, List.set_cons_succ]
      refine wpG_done (by kernel_rfl) ?_ _
      go_wp2_with (fail)
      go_ret
      exact ⟨HFN.out, hB0.trans (hTT.mono hB0.size)⟩
    · have kc := run_convert_bytes_arg (P := Tryz.prog) _ 89 5 Tryz.underlying89 Tryz.underlying5 g 0 1 1 [48 + d2] rfl (fun i hi => by obtain rfl : i = 0 := (by omega); rw [hBk.cell]; rfl) 9 Tryz.underlying9
      go_simp
      refine hK _ _ (.inr hTT) ?_
      clear hK K kc
      try simp only [List.getElem_toArray, List.getElem_cons_zero, List.getElem_cons_succ, Act.put, List.setIfInBounds_toArray, List.set_cons_zero, List.set_cons_succ]
      refine wpG_one (i := 2) rfl (by kernel_rfl) (fun K hK => ?_)
      go_simp
      refine (HD.out _).mono ?_; rintro e w1 ⟨rfl, hb⟩
      replace hTT := hTT.trans (hb.mono hTT.size); (try replace hBk := hBk.below hb hBk.lt); clear hb; dsimp only
      refine hK _ _ (.inr hTT) ?_
      clear hK K
      try simp only [List.getElem_toArray, List.getElem_cons_zero, List.getElem_cons_succ, Act.put, List.setIfInBounds_toArray, List.set_cons_zero, List.set_cons_succ]
      refine wpG_take (i := 9) (v := ?vr9) rfl (by kernel_rfl) (by kernel_rfl) (by kernel_rfl) (by kernel_rfl) (fun _ _ _ h => h) (Or.inl ⟨by rfl, ?hyr9⟩) hTT ?restr9
      case hyr9 => intro wq hSw; go_simp <;> with_reducible rfl
      simp only [List.getElem_toArray, List.getElem_cons_zero, List.getElem_cons_succ, Act.put, List.setIfInBounds_toArray, List.set_cons_zero, List.set_cons_succ]
      refine wpG_one (i := 10) rfl (by kernel_rfl) (fun K hK => ?_)
      go_simp
      refine hK _ _ (.inl rfl) ?_
      clear hK K
      try simp only [List.getElem_toArray, List.getElem_cons_zero, List.getElem_cons_succ, Act.put, List.setIfInBounds_toArray, List.set_cons_zero, List.set_cons_succ]
      refine wpG_done (by kernel_rfl) ?_ _
      go_wp2_with (fail)
      go_ret
      exact ⟨HFN.out, hB0.trans (hTT.mono hB0.size)⟩
theorem decimal_any (n : Nat) (w : World) (h : n < 100) : Calls Tryz.prog 178 #[.int .i64 n] w fun e w' => e = .returned (.string (dS n)) ∧ Below w.heap.size w w' := by
  by_cases h1 : n < 10
  · have key := decimal_small (n : Int) w (by omega) (by omega)
    rw [nums_dgt n h1] at key
    have e : dS n = ⟨#[dgt n]⟩ := by unfold dS; rw [decDigits_one h1]; rfl
    rw [e]
    exact key
  · exact decimal_two n w (by omega) h
end
end Go.Proofs.YtifddfchpknkbaaGreatDoor
