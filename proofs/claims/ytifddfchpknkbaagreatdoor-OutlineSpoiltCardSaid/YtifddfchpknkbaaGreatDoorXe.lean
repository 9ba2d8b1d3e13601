import Derived.Test.YtifddfchpknkbaaGreatDoorXb
import Derived.Test.YtifddfchpknkbaaGreatDoorVb
set_option linter.unusedVariables false
set_option linter.unusedSimpArgs false
namespace Go.Proofs.YtifddfchpknkbaaGreatDoor
open Go.RowKit Go.Lib

/-- A text of which a figure's line is none, or of which the last line is not the one that it should be, is none. -/
theorem parse_rest (s : ByteArray) (ls : List ByteArray) (N : Nat) (m : Int) (w : World) (hE : Env m w) (hs : s.size ≤ 1000) (hend : Lib.hasSuffix s.data.toList [10] = true) (htz : ByteArray.size ⟨(Lib.trimSuffix s.data.toList [10]).toArray⟩ ≤ 1000) (hcnt : countB ⟨(Lib.trimSuffix s.data.toList [10]).toArray⟩ ⟨#[10]⟩ = N) (hspl : splitB ⟨#[10]⟩ 0 N ⟨(Lib.trimSuffix s.data.toList [10]).toArray⟩ = ls)
    (hsz : ∀ l ∈ ls, l.size ≤ 1000) (le : ByteArray) (hle : ls[N]? = some le) (S : Nat) (hS : sumA (ls.take N) 0 0 = S) (hbad : (∃ j l, j + 1 < N ∧ ls[1 + j]? = some l ∧ ¬ WOk wFigure l) ∨ le ≠ lineS wEnd [dgt3 (S % 173)]) : Calls Tryz.prog 141 #[.string s] w fun e w' => e = NONEB ∧ Below w.heap.size w w' := by
  have hlen : ls.length = N + 1 := by rw [← hspl, ← hcnt]; exact countB_split 10 _
  by_cases hz : N = 0
  · exact parse_b2 s ls N m w hE hs hend htz hcnt hspl hz
  obtain ⟨K, rfl⟩ : ∃ K, N = K + 1 := ⟨N - 1, by omega⟩
  obtain ⟨l0, h0⟩ : ∃ l0, ls[0]? = some l0 := ⟨_, List.getElem?_eq_getElem (by omega)⟩
  have hl0 : l0.size ≤ 1000 := hsz l0 (List.mem_of_getElem? h0)
  by_cases hok : WOk wStage l0
  · by_cases hb : countB l0 ⟨#[32]⟩ ≠ 6 ∨ ∃ s ∈ (cutW l0).drop 1, ∀ a, a < 100 → s ≠ dS a
    · exact parse_b4 s ls _ m w hE hs hend htz hcnt hspl (by omega) l0 h0 hl0 hok hb
    · have hn6 : countB l0 ⟨#[32]⟩ = 6 := by
        rcases Decidable.em (countB l0 ⟨#[32]⟩ = 6) with h | h
        · exact h
        · exact absurd (Or.inl h) hb
      have hall : ∀ x ∈ (cutW l0).drop 1, ∃ a, a < 100 ∧ x = dS a := fun x hx => by
        by_cases h : ∃ a, a < 100 ∧ x = dS a
        · exact h
        · exact absurd (Or.inr ⟨x, hx, fun a ha e => h ⟨a, ha, e⟩⟩) hb
      have hl6 : ((cutW l0).drop 1).length = 6 := by
        have := countB_split 32 l0
        rw [List.length_drop]; unfold cutW; omega
      generalize hx : (cutW l0).drop 1 = xs at *
      match xs, hl6 with
      | [x0, x1, x2, x3, x4, x5], _ =>
        obtain ⟨a0, h00, rfl⟩ := hall x0 (by simp)
        obtain ⟨a1, h01, rfl⟩ := hall x1 (by simp)
        obtain ⟨a2, h02, rfl⟩ := hall x2 (by simp)
        obtain ⟨a3, h03, rfl⟩ := hall x3 (by simp)
        obtain ⟨a4, h04, rfl⟩ := hall x4 (by simp)
        obtain ⟨a5, h05, rfl⟩ := hall x5 (by simp)
        refine parse_b5 a0 a1 a2 a3 a4 a5 (fun a ha => ?_) K s ls _ m w hE hs hend htz hcnt hspl rfl l0 h0 hl0 hok hn6 hx hsz le hle S hS ?_
        · simp at ha; rcases ha with rfl | rfl | rfl | rfl | rfl | rfl <;> assumption
        · rcases hbad with ⟨j, l, hj, hl, hn⟩ | h
          · exact .inl ⟨j, l, by omega, hl, hn⟩
          · exact .inr h
  · exact parse_b3 s ls _ m w hE hs hend htz hcnt hspl (by omega) l0 h0 hl0 hok
set_option maxRecDepth 100000 in
set_option maxHeartbeats 1600000 in
/-- What is no text is not read. -/
theorem Read_none (s : ByteArray) (m : Int) (w : World) (hE : Env m w) (hs : s.size ≤ 400) (hparse : ∀ wx, Env m wx → Calls Tryz.prog 141 #[.string s] wx fun e w' => e = NONEB ∧ Below wx.heap.size wx w') :
    Calls Tryz.prog 85 #[.string s] w fun e w' => e = NONEB ∧ Below w.heap.size w w' := by
  have hsz : ¬ (400 : Int) < s.size := by omega
  have hB1 : Below w.heap.size w (w.alloc (.cells #[.int .i64 0, .int .i64 0, .int .i64 0, .int .i64 0, .int .i64 0, .int .i64 0, .slice none 0 0] 121)) := (Below.refl _ w).alloc (Nat.le_refl _) _
  have gT : Blk (w.alloc (.cells #[.int .i64 0, .int .i64 0, .int .i64 0, .int .i64 0, .int .i64 0, .int .i64 0, .slice none 0 0] 121)) w.heap.size 121 #[.int .i64 0, .int .i64 0, .int .i64 0, .int .i64 0, .int .i64 0, .int .i64 0, .slice none 0 0] := Blk.new _ _ _
  have hE1 := hE.below hB1
  have hp := hparse _ hE1
  unfold NONEB at hp
  clear hparse
  go_enter Tryz.func85, Tryz.ntmps85
  go_upto_region 5 with (first
    | (go_at_call 141; refine hp.mono ?_; rintro e w1 ⟨rfl, hb⟩; replace gT := gT.below hb gT.lt; replace hB1 := hB1.trans (hb.mono hB1.size); clear hb; replace gT := gT.alloc (.cells #[.int .i64 0, .int .i64 0, .int .i64 0, .int .i64 0, .int .i64 0, .int .i64 0, .slice none 0 0] 121); replace hB1 := hB1.alloc hB1.size (.cells #[.int .i64 0, .int .i64 0, .int .i64 0, .int .i64 0, .int .i64 0, .int .i64 0, .slice none 0 0] 121)))
  have hqT := fun i => gT.cell i; have hfT := fun i => gT.frozen i; have hlT := gT.lt
  go_wp2
  clear hqT hfT hlT
  replace gT := gT.set_ 0 (.int .i64 0); replace hB1 := hB1.setCell (p := ⟨w.heap.size, 0, none⟩) (Nat.le_refl w.heap.size) (.int .i64 0)
  replace gT := gT.set_ 1 (.int .i64 0); replace hB1 := hB1.setCell (p := ⟨w.heap.size, 1, none⟩) (Nat.le_refl w.heap.size) (.int .i64 0)
  replace gT := gT.set_ 2 (.int .i64 0); replace hB1 := hB1.setCell (p := ⟨w.heap.size, 2, none⟩) (Nat.le_refl w.heap.size) (.int .i64 0)
  replace gT := gT.set_ 3 (.int .i64 0); replace hB1 := hB1.setCell (p := ⟨w.heap.size, 3, none⟩) (Nat.le_refl w.heap.size) (.int .i64 0)
  replace gT := gT.set_ 4 (.int .i64 0); replace hB1 := hB1.setCell (p := ⟨w.heap.size, 4, none⟩) (Nat.le_refl w.heap.size) (.int .i64 0)
  replace gT := gT.set_ 5 (.int .i64 0); replace hB1 := hB1.setCell (p := ⟨w.heap.size, 5, none⟩) (Nat.le_refl w.heap.size) (.int .i64 0)
  replace gT := gT.set_ 6 (.slice none 0 0); replace hB1 := hB1.setCell (p := ⟨w.heap.size, 6, none⟩) (Nat.le_refl w.heap.size) (.slice none 0 0)
  replace gT : Blk ((((((((w1.alloc (.cells #[.int .i64 0, .int .i64 0, .int .i64 0, .int .i64 0, .int .i64 0, .int .i64 0, .slice none 0 0] 121)).setCell ⟨w.heap.size, 0, none⟩ (.int .i64 0)).setCell ⟨w.heap.size, 1, none⟩ (.int .i64 0)).setCell ⟨w.heap.size, 2, none⟩ (.int .i64 0)).setCell ⟨w.heap.size, 3, none⟩ (.int .i64 0)).setCell ⟨w.heap.size, 4, none⟩ (.int .i64 0)).setCell ⟨w.heap.size, 5, none⟩ (.int .i64 0)).setCell ⟨w.heap.size, 6, none⟩ (.slice none 0 0)) w.heap.size 121 #[.int .i64 0, .int .i64 0, .int .i64 0, .int .i64 0, .int .i64 0, .int .i64 0, .slice none 0 0] := gT
  generalize ((((((((w1.alloc (.cells #[.int .i64 0, .int .i64 0, .int .i64 0, .int .i64 0, .int .i64 0, .int .i64 0, .slice none 0 0] 121)).setCell ⟨w.heap.size, 0, none⟩ (.int .i64 0)).setCell ⟨w.heap.size, 1, none⟩ (.int .i64 0)).setCell ⟨w.heap.size, 2, none⟩ (.int .i64 0)).setCell ⟨w.heap.size, 3, none⟩ (.int .i64 0)).setCell ⟨w.heap.size, 4, none⟩ (.int .i64 0)).setCell ⟨w.heap.size, 5, none⟩ (.int .i64 0)).setCell ⟨w.heap.size, 6, none⟩ (.slice none 0 0)) = w9 at *
  have hq9 := fun i => gT.cell i
  refine bodyPost_ret (v := .tuple #[.agg #[.int .i64 0, .int .i64 0, .int .i64 0, .int .i64 0, .int .i64 0, .int .i64 0, .slice none 0 0], .int .i64 4]) ?_ rfl ⟨rfl, hB1⟩
  simp [results, Tryz.results85, go_sem, hq9]
end Go.Proofs.YtifddfchpknkbaaGreatDoor
