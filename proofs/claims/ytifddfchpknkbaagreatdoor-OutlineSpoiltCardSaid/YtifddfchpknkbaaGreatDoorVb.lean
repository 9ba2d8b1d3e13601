import Derived.Test.YtifddfchpknkbaaGreatDoorVa
set_option linter.unusedVariables false
set_option linter.unusedSimpArgs false
namespace Go.Proofs.YtifddfchpknkbaaGreatDoor
open Go.RowKit Go.Lib

set_option maxRecDepth 100000 in
set_option maxHeartbeats 1600000 in
theorem Read_ok (a0 a1 a2 a3 a4 a5 : Nat) (s : ByteArray) (rl : List (List ByteArray)) (K : Nat) (m : Int) (w : World) (hE : Env m w) (hs : s.size ≤ 400) (hrl : ∀ rows ∈ rl, ∀ r ∈ rows, r.size ≤ maxLen) (hKm : K ≤ maxLen)
    (hparse : ∀ wx, Env m wx → Calls Tryz.prog 141 #[.string s] wx fun e w' => ∃ v vs, e = .returned (.tuple #[.agg #[.int .i64 a0, .int .i64 a1, .int .i64 a2, .int .i64 a3, .int .i64 a4, .int .i64 a5, v], .int .i64 0]) ∧ w'.ownsRow wx.heap.size 26 1 v K vs ∧ Cloths w' wx.heap.size vs rl ∧ Below wx.heap.size wx w')
    (hgood : ∀ gs : List Fig, gs.map Fig.rows = rl → (stageB a0 a1 a2 a3 a4 a5 && compB gs) = true) :
    Calls Tryz.prog 85 #[.string s] w fun e w' => ∃ (A : Option Addr) (c : Nat) (gs : List Fig), e = .returned (.tuple #[.agg #[.int .i64 a0, .int .i64 a1, .int .i64 a2, .int .i64 a3, .int .i64 a4, .int .i64 a5, .slice A K c], .int .i64 0]) ∧ gs.map Fig.rows = rl ∧ (∀ f ∈ gs, f.ok w' w'.heap.size) ∧ Rd w' w'.heap.size 1 A K (gs.map Fig.val) ∧ Below w.heap.size w w' := by
  have hsz : ¬ (400 : Int) < s.size := by omega
  have hB1 : Below w.heap.size w (w.alloc (.cells #[.int .i64 0, .int .i64 0, .int .i64 0, .int .i64 0, .int .i64 0, .int .i64 0, .slice none 0 0] 121)) := (Below.refl _ w).alloc (Nat.le_refl _) _
  have gT : Blk (w.alloc (.cells #[.int .i64 0, .int .i64 0, .int .i64 0, .int .i64 0, .int .i64 0, .int .i64 0, .slice none 0 0] 121)) w.heap.size 121 #[.int .i64 0, .int .i64 0, .int .i64 0, .int .i64 0, .int .i64 0, .int .i64 0, .slice none 0 0] := Blk.new _ _ _
  have hE1 := hE.below hB1
  have hp := hparse _ hE1
  rw [World.size_alloc] at hp
  clear hparse
  go_enter Tryz.func85, Tryz.ntmps85
  go_upto_region 8 with (first
    | (go_at_call 141; refine hp.mono ?_; rintro e w1 ⟨v, vs, rfl, hown, hcl, hb⟩; (have hb0 : Below (w.alloc (.cells #[.int .i64 0, .int .i64 0, .int .i64 0, .int .i64 0, .int .i64 0, .int .i64 0, .slice none 0 0] 121)).heap.size (w.alloc (.cells #[.int .i64 0, .int .i64 0, .int .i64 0, .int .i64 0, .int .i64 0, .int .i64 0, .slice none 0 0] 121)) w1 := by rw [World.size_alloc]; exact hb); obtain ⟨A, c, rfl⟩ := own_slice hown; replace gT := gT.below hb0 gT.lt; replace hB1 := hB1.trans (hb0.mono hB1.size); clear hb hb0; have gK := Blk.new w1 121 #[.int .i64 a0, .int .i64 a1, .int .i64 a2, .int .i64 a3, .int .i64 a4, .int .i64 a5, .slice A K c]; replace gT := gT.alloc (.cells #[.int .i64 a0, .int .i64 a1, .int .i64 a2, .int .i64 a3, .int .i64 a4, .int .i64 a5, .slice A K c] 121); replace hown := hown.alloc (.cells #[.int .i64 a0, .int .i64 a1, .int .i64 a2, .int .i64 a3, .int .i64 a4, .int .i64 a5, .slice A K c] 121); replace hcl := hcl.alloc (.cells #[.int .i64 a0, .int .i64 a1, .int .i64 a2, .int .i64 a3, .int .i64 a4, .int .i64 a5, .slice A K c] 121); replace hB1 := hB1.alloc hB1.size (.cells #[.int .i64 a0, .int .i64 a1, .int .i64 a2, .int .i64 a3, .int .i64 a4, .int .i64 a5, .slice A K c] 121); obtain ⟨gs, e1, e2, e3⟩ := figs_of hcl hrl; have hgd := hgood gs e2; have hrg := Rd.of_own hown; rw [← e1] at hrg; clear e1 e2)
    | (go_at_call 139; refine (goodBook_any a0 a1 a2 a3 a4 a5 A K c gs _ hKm e3 hrg).mono ?_; rintro e w2 ⟨rfl, hb2⟩; rw [hgd]; replace gT := gT.below hb2 gT.lt; replace gK := gK.below hb2 gK.lt; replace hown := ownsRow_below' hown hb2; replace hcl := hcl.below hb2; replace hB1 := hB1.trans (hb2.mono hB1.size); clear hb2 e3 hrg gs hgd))
  have hqT := fun i => gT.cell i; have hfT := fun i => gT.frozen i; have hlT := gT.lt; have hqK := fun i => gK.cell i; have hlK := gK.lt
  go_wp2
  clear hqT hfT hlT hqK hlK
  replace gT := gT.set_ 0 (.int .i64 a0); replace hB1 := hB1.setCell (p := ⟨w.heap.size, 0, none⟩) (Nat.le_refl w.heap.size) (.int .i64 a0); replace hown := ownsRow_setCell_below hown (a := ⟨w.heap.size, 0, none⟩) (Nat.lt_succ_self _) (.int .i64 a0); replace hcl := hcl.set (a := ⟨w.heap.size, 0, none⟩) (Nat.lt_succ_self _) (.int .i64 a0)
  replace gT := gT.set_ 1 (.int .i64 a1); replace hB1 := hB1.setCell (p := ⟨w.heap.size, 1, none⟩) (Nat.le_refl w.heap.size) (.int .i64 a1); replace hown := ownsRow_setCell_below hown (a := ⟨w.heap.size, 1, none⟩) (Nat.lt_succ_self _) (.int .i64 a1); replace hcl := hcl.set (a := ⟨w.heap.size, 1, none⟩) (Nat.lt_succ_self _) (.int .i64 a1)
  replace gT := gT.set_ 2 (.int .i64 a2); replace hB1 := hB1.setCell (p := ⟨w.heap.size, 2, none⟩) (Nat.le_refl w.heap.size) (.int .i64 a2); replace hown := ownsRow_setCell_below hown (a := ⟨w.heap.size, 2, none⟩) (Nat.lt_succ_self _) (.int .i64 a2); replace hcl := hcl.set (a := ⟨w.heap.size, 2, none⟩) (Nat.lt_succ_self _) (.int .i64 a2)
  replace gT := gT.set_ 3 (.int .i64 a3); replace hB1 := hB1.setCell (p := ⟨w.heap.size, 3, none⟩) (Nat.le_refl w.heap.size) (.int .i64 a3); replace hown := ownsRow_setCell_below hown (a := ⟨w.heap.size, 3, none⟩) (Nat.lt_succ_self _) (.int .i64 a3); replace hcl := hcl.set (a := ⟨w.heap.size, 3, none⟩) (Nat.lt_succ_self _) (.int .i64 a3)
  replace gT := gT.set_ 4 (.int .i64 a4); replace hB1 := hB1.setCell (p := ⟨w.heap.size, 4, none⟩) (Nat.le_refl w.heap.size) (.int .i64 a4); replace hown := ownsRow_setCell_below hown (a := ⟨w.heap.size, 4, none⟩) (Nat.lt_succ_self _) (.int .i64 a4); replace hcl := hcl.set (a := ⟨w.heap.size, 4, none⟩) (Nat.lt_succ_self _) (.int .i64 a4)
  replace gT := gT.set_ 5 (.int .i64 a5); replace hB1 := hB1.setCell (p := ⟨w.heap.size, 5, none⟩) (Nat.le_refl w.heap.size) (.int .i64 a5); replace hown := ownsRow_setCell_below hown (a := ⟨w.heap.size, 5, none⟩) (Nat.lt_succ_self _) (.int .i64 a5); replace hcl := hcl.set (a := ⟨w.heap.size, 5, none⟩) (Nat.lt_succ_self _) (.int .i64 a5)
  replace gT := gT.set_ 6 (.slice A K c); replace hB1 := hB1.setCell (p := ⟨w.heap.size, 6, none⟩) (Nat.le_refl w.heap.size) (.slice A K c); replace hown := ownsRow_setCell_below hown (a := ⟨w.heap.size, 6, none⟩) (Nat.lt_succ_self _) (.slice A K c); replace hcl := hcl.set (a := ⟨w.heap.size, 6, none⟩) (Nat.lt_succ_self _) (.slice A K c)
  generalize (((((((w2.setCell ⟨w.heap.size, 0, none⟩ (.int .i64 a0)).setCell ⟨w.heap.size, 1, none⟩ (.int .i64 a1)).setCell ⟨w.heap.size, 2, none⟩ (.int .i64 a2)).setCell ⟨w.heap.size, 3, none⟩ (.int .i64 a3)).setCell ⟨w.heap.size, 4, none⟩ (.int .i64 a4)).setCell ⟨w.heap.size, 5, none⟩ (.int .i64 a5)).setCell ⟨w.heap.size, 6, none⟩ (.slice A K c)) = w9 at *
  have hq9 := fun i => gT.cell i
  obtain ⟨gs, e1, e2, e3⟩ := figs_of hcl hrl
  have hrg := Rd.of_own hown
  rw [← e1] at hrg
  refine bodyPost_ret (v := .tuple #[.agg #[.int .i64 a0, .int .i64 a1, .int .i64 a2, .int .i64 a3, .int .i64 a4, .int .i64 a5, .slice A K c], .int .i64 0]) ?_ rfl ⟨A, c, gs, rfl, e2, e3, hrg, hB1⟩
  simp [results, Tryz.results85, go_sem, hq9]
end Go.Proofs.YtifddfchpknkbaaGreatDoor
