import Derived.Test.YtifddfchpknkbaaGreatDoorProg
import Derived.Test.YtifddfchpknkbaaGreatDoorBk13
import Derived.Test.YtifddfchpknkbaaGreatDoorBk14
import Derived.Test.YtifddfchpknkbaaGreatDoorBk15
import Derived.Test.YtifddfchpknkbaaGreatDoorBk16
set_option linter.unusedVariables false
set_option linter.unusedSimpArgs false
namespace Go.Proofs.YtifddfchpknkbaaGreatDoor
section
open Go.RowKit Go.Lib
/-- The figures of a book that was read, as they lie in memory. -/
theorem figs_of {w : World} {base : Nat} : ∀ {vs : List Value} {rl : List (List ByteArray)}, Cloths w base vs rl → (∀ rows ∈ rl, ∀ r ∈ rows, r.size ≤ maxLen) → ∃ gs : List Fig, gs.map Fig.val = vs ∧ gs.map Fig.rows = rl ∧ ∀ f ∈ gs, f.ok w w.heap.size
  | [], [], _, _ => ⟨[], rfl, rfl, fun f h => by cases h⟩
  | [], _ :: _, h, _ => by have := h.1; simp at this
  | _ :: _, [], h, _ => by have := h.1; simp at this
  | v :: vs, c :: rl, h, hs => by
    have h0 : w.ownsRow base 9 1 v c.length (c.map Value.string) := h.2 0 (by simp) (by simp)
    have ht : Cloths w base vs rl := ⟨by have := h.1; simpa using this, fun i h1 h2 => h.2 (i + 1) (by simpa using h1) (by simpa using h2)⟩
    obtain ⟨gs, e1, e2, e3⟩ := figs_of ht (fun rows hr => hs rows (by simp [hr]))
    obtain ⟨A, cap, rfl⟩ := own_slice h0
    refine ⟨⟨A, c.length, cap, c⟩ :: gs, by rw [List.map_cons, e1]; rfl, by rw [List.map_cons, e2], fun f hf => ?_⟩
    rcases List.mem_cons.1 hf with rfl | hf
    · exact ⟨own_le0 h0, own_cap h0, hs c (by simp), Rd.of_own h0⟩
    · exact e3 f hf
set_option maxRecDepth 100000 in
set_option maxHeartbeats 1600000 in
theorem SameBooks_eq (W H F L X Y : Int) (A A2 : Option Addr) (n cap cap2 : Nat) (fs gs : List Fig) (w : World) (hn : n ≤ 1000) (hf : ∀ f ∈ fs, f.ok w w.heap.size ∧ f.n ≤ 100000) (hg : ∀ f ∈ gs, f.ok w w.heap.size) (hrw : gs.map Fig.rows = fs.map Fig.rows) (hr : Rd w w.heap.size 1 A n (fs.map Fig.val)) (hr2 : Rd w w.heap.size 1 A2 n (gs.map Fig.val)) :
    Calls Tryz.prog 87 #[.agg #[.int .i64 W, .int .i64 H, .int .i64 F, .int .i64 L, .int .i64 X, .int .i64 Y, .slice A n cap], .agg #[.int .i64 W, .int .i64 H, .int .i64 F, .int .i64 L, .int .i64 X, .int .i64 Y, .slice A2 n cap2]] w fun e w' => e = .returned (.bool true) ∧ Below w.heap.size w w' := by
  have e0 : ∀ z : Int, (z != z) = false := fun z => by simp
  have e1 := e0 W; have e2 := e0 H; have e3 := e0 F; have e4 := e0 L; have e5 := e0 X; have e6 := e0 Y; have e7 := e0 (n : Int)
  have hlen := hr.len; have hlen2 := hr2.len
  have HL := Lib.hid hlen; have HL2 := Lib.hid hlen2; have HRW := Lib.hid hrw
  clear e0 hlen hlen2 hrw
  have hS := blk2_0 w (.cells #[.int .i64 W, .int .i64 H, .int .i64 F, .int .i64 L, .int .i64 X, .int .i64 Y, .slice A2 n cap2] 121) 121 #[.int .i64 W, .int .i64 H, .int .i64 F, .int .i64 L, .int .i64 X, .int .i64 Y, .slice A n cap]
  have hQ := blk2_1 w (.cells #[.int .i64 W, .int .i64 H, .int .i64 F, .int .i64 L, .int .i64 X, .int .i64 Y, .slice A n cap] 121) 121 #[.int .i64 W, .int .i64 H, .int .i64 F, .int .i64 L, .int .i64 X, .int .i64 Y, .slice A2 n cap2]
  have hB := pro_2 w (.cells #[.int .i64 W, .int .i64 H, .int .i64 F, .int .i64 L, .int .i64 X, .int .i64 Y, .slice A n cap] 121) (.cells #[.int .i64 W, .int .i64 H, .int .i64 F, .int .i64 L, .int .i64 X, .int .i64 Y, .slice A2 n cap2] 121)
  go_enter Tryz.func87, Tryz.ntmps87
  go_upto_region 1 with (fail)
  generalize (w.alloc (.cells #[.int .i64 W, .int .i64 H, .int .i64 F, .int .i64 L, .int .i64 X, .int .i64 Y, .slice A n cap] 121)).alloc (.cells #[.int .i64 W, .int .i64 H, .int .i64 F, .int .i64 L, .int .i64 X, .int .i64 Y, .slice A2 n cap2] 121) = W0 at *
  have qhS := fun i => Blk.cell hS i
  have qhQ := fun i => Blk.cell hQ i
  go_wp2_with (fail)
  clear qhS qhQ
  go_loopg [5] n (fun g i wr => ∃ k : Nat, g = n - k ∧ k ≤ n ∧ i = .int .i64 k ∧ Blk wr w.heap.size 121 #[.int .i64 W, .int .i64 H, .int .i64 F, .int .i64 L, .int .i64 X, .int .i64 Y, .slice A n cap] ∧ Blk wr (w.heap.size + 1) 121 #[.int .i64 W, .int .i64 H, .int .i64 F, .int .i64 L, .int .i64 X, .int .i64 Y, .slice A2 n cap2] ∧ Below w.heap.size w wr)
  case atStart => exact ⟨0, rfl, Nat.zero_le _, rfl, hS, hQ, hB⟩
  case round =>
    clear hS hQ hB
    obtain ⟨k, hg0, hk, rfl, hS, hQ, hB⟩ := hrel
    have HG := Lib.hid hg0; clear hg0
    rename World => W1
    have qhS := fun i => Blk.cell hS i
    have qhQ := fun i => Blk.cell hQ i
    by_cases hlt : k < n
    · have hlti : (k : Int) < n := by omega
      have hz1 : k < fs.length := by have := HL.out; omega
      have hz2 : k < gs.length := by have := HL2.out; omega
      obtain ⟨b1, o1, rfl, hb1, hc1⟩ := (rdB hr hB).2 (by omega)
      obtain ⟨b2, o2, rfl, hb2, hc2⟩ := (rdB hr2 hB).2 (by omega)
      have c1 : W1.cell? ⟨b1, o1 + k, none⟩ = some (Fig.val fs[k]) := hc1 k (Fig.val fs[k]) (by simp [hz1])
      have c2 : W1.cell? ⟨b2, o2 + k, none⟩ = some (Fig.val gs[k]) := hc2 k (Fig.val gs[k]) (by simp [hz2])
      have hrr : gs[k].rows = fs[k].rows := by
        have h1 : (gs.map Fig.rows)[k]? = (fs.map Fig.rows)[k]? := by rw [HRW.out]
        rw [List.getElem?_map, List.getElem?_map, List.getElem?_eq_getElem hz1, List.getElem?_eq_getElem hz2] at h1
        simpa using h1
      obtain ⟨hf1, hfn⟩ := hf _ (List.getElem_mem hz1)
      have hg1 := hg _ (List.getElem_mem hz2)
      generalize fs[k] = f1 at *
      generalize gs[k] = f2 at *
      obtain ⟨A1, n1, cp1, rows⟩ := f1
      obtain ⟨A3, n3, cp3, rows3⟩ := f2
      dsimp only at hrr hfn
      subst hrr
      simp only [Fig.val] at c1 c2
      obtain ⟨_, _, _, hr3⟩ := hf1
      obtain ⟨_, _, _, hr4⟩ := hg1
      dsimp only at hr3 hr4
      have hkk := fun p : Blw W1.heap.size W1 => sameCloths_eq A1 A3 n1 cp1 n3 cp3 rows3 p.toW hfn (rdB hr3 (hB.trans (p.h.mono hB.size))) (rdB hr4 (hB.trans (p.h.mono hB.size)))
      have hbS := fun p i => blw_blk hS p i
      have hbQ := fun p i => blw_blk hQ p i
      have q1 := fun p : Blw W1.heap.size W1 => blw_cell (a := ⟨b1, o1 + k, none⟩) hb1 c1 p
      have q2 := fun p : Blw W1.heap.size W1 => blw_cell (a := ⟨b2, o2 + k, none⟩) hb2 c2 p
      clear hc1 hc2 hr3 hr4
      go_upto_region 6 with (fail)
      refine wp_region_blw (by kernel_rfl) (by kernel_rfl) ?_
      repeat (go_big_quiet_step (first | (go_at_call 33; exact Calls.blw_of _ (hkk _))))
      refine wpQuiet_nil ?_
      rintro W3 ⟨⟨_, hb⟩, rfl⟩
      clear qhS qhQ hbS hbQ q1 q2 hkk
      go_wp2_with (fail)
      go_roundg (n - (k + 1))
      case measure => rw [HG.out]; omega
      case rel => exact ⟨k + 1, rfl, by omega, by go_num, hS.below hb hS.lt, hQ.below hb hQ.lt, hB.trans (hb.mono hB.size)⟩
    · obtain rfl : k = n := by omega
      have hge : ¬ (k : Int) < k := by omega
      go_wp2_with (fail)
      go_ret
      exact ⟨rfl, hB⟩
end
section
open Go.RowKit Go.Lib
set_option maxRecDepth 100000 in
theorem refBook_any (W H F L X Y : Int) (A : Option Addr) (n cap : Nat) (fs : List Fig) (w : World) (hn : n ≤ maxLen) (hf : ∀ f ∈ fs, f.ok w w.heap.size) (hr : Rd w w.heap.size 1 A n (fs.map Fig.val)) :
    Calls Tryz.prog 84 #[.agg #[.int .i64 W, .int .i64 H, .int .i64 F, .int .i64 L, .int .i64 X, .int .i64 Y, .slice A n cap]] w fun e w' => e = .returned (.bool (stageB W H F L X Y && compB fs)) ∧ Below w.heap.size w w' := by
  have hS := Blk.new w 121 #[.int .i64 W, .int .i64 H, .int .i64 F, .int .i64 L, .int .i64 X, .int .i64 Y, .slice A n cap]
  have hB : Below w.heap.size w (w.alloc (.cells #[.int .i64 W, .int .i64 H, .int .i64 F, .int .i64 L, .int .i64 X, .int .i64 Y, .slice A n cap] 121)) := (Below.refl _ w).alloc (Nat.le_refl _) _
  cases hst : stageB W H F L X Y
  all_goals
    go_enter Tryz.func84, Tryz.ntmps84
    go_upto_region 1 with (fail)
    generalize w.alloc (.cells #[.int .i64 W, .int .i64 H, .int .i64 F, .int .i64 L, .int .i64 X, .int .i64 Y, .slice A n cap] 121) = W0 at *
    have qS := fun i => Blk.cell hS i
    go_wp2_with (first
      | (go_at_call 27; refine (Stage_any W H F L X Y _).mono ?_; rintro e w1 ⟨rfl, hb⟩; rw [hst]; replace hS := hS.below hb hS.lt; replace hB := hB.trans (hb.mono hB.size); clear qS hb; have qS := fun i => Blk.cell hS i)
      | (go_at_call 119; refine (Company_any A n cap fs _ hn (fun f h => ((hf f h).below hB).more hB.size) (rdB hr hB)).mono ?_; rintro e w1 ⟨rfl, hb⟩; replace hB := hB.trans (hb.mono hB.size)))
    go_ret
    exact ⟨by simp, hB⟩
set_option maxRecDepth 100000 in
theorem Print_good (a0 a1 a2 a3 a4 a5 : Nat) (ha : ∀ a ∈ [a0, a1, a2, a3, a4, a5], a < 1000) (A : Option Addr) (n cap : Nat) (fs : List Fig) (s : Nat) (m : Int) (w : World) (hE : Env m w) (hn : n ≤ 100) (hf : ∀ f ∈ fs, f.ok w w.heap.size) (hfs : ∀ f ∈ fs, 1 ≤ f.rows.length ∧ f.rows.length ≤ 50 ∧ ∀ r ∈ f.rows, r.size ≤ 1000) (hr : Rd w w.heap.size 1 A n (fs.map Fig.val)) (hsum : sumA (linesL [a0, a1, a2, a3, a4, a5] fs) 0 0 = s) (hg : (stageB a0 a1 a2 a3 a4 a5 && compB fs) = true) :
    Calls Tryz.prog 83 #[.agg #[.int .i64 a0, .int .i64 a1, .int .i64 a2, .int .i64 a3, .int .i64 a4, .int .i64 a5, .slice A n cap]] w fun e w' => e = .returned (.tuple #[.string (textS (linesL [a0, a1, a2, a3, a4, a5] fs) s), .int .i64 0]) ∧ Below w.heap.size w w' := by
  have hS := Blk.new w 121 #[.int .i64 a0, .int .i64 a1, .int .i64 a2, .int .i64 a3, .int .i64 a4, .int .i64 a5, .slice A n cap]
  have hB : Below w.heap.size w (w.alloc (.cells #[.int .i64 a0, .int .i64 a1, .int .i64 a2, .int .i64 a3, .int .i64 a4, .int .i64 a5, .slice A n cap] 121)) := (Below.refl _ w).alloc (Nat.le_refl _) _
  have hwr := fun wx h1 h2 h3 => write_any a0 a1 a2 a3 a4 a5 ha A n cap fs s m wx h1 hn h2 hfs h3 hsum
  generalize textS (linesL [a0, a1, a2, a3, a4, a5] fs) s = T at *
  have HW := Lib.hid hwr; clear hwr hsum
  go_enter Tryz.func83, Tryz.ntmps83
  go_upto_region 1 with (fail)
  generalize w.alloc (.cells #[.int .i64 a0, .int .i64 a1, .int .i64 a2, .int .i64 a3, .int .i64 a4, .int .i64 a5, .slice A n cap] 121) = W0 at *
  have qS := fun i => Blk.cell hS i
  have hE0 := hE.below hB
  go_wp2_with (first
    | (go_at_call 139; refine (goodBook_any a0 a1 a2 a3 a4 a5 A n cap fs _ (by unfold maxLen; omega) (fun f h => ((hf f h).below hB).more hB.size) (rdB hr hB)).mono ?_; rintro e w1 ⟨rfl, hb⟩; rw [hg]; replace hS := hS.below hb hS.lt; replace hE0 := hE0.below hb; replace hB := hB.trans (hb.mono hB.size); clear qS hb; have qS := fun i => Blk.cell hS i)
    | (go_at_call 140; refine (HW.out _ hE0 (fun f h => ((hf f h).below hB).more hB.size) (rdB hr hB)).mono ?_; rintro e w1 ⟨rfl, hb⟩; replace hB := hB.trans (hb.mono hB.size)))
  go_ret2
  exact ⟨rfl, hB⟩
end
section
open Go.RowKit Go.Lib
set_option maxRecDepth 100000 in
set_option maxHeartbeats 1600000 in
theorem Read_ok (a0 a1 a2 a3 a4 a5 : Nat) (s : ByteArray) (rl : List (List ByteArray)) (K : Nat) (m : Int) (w : World) (hE : Env m w) (hs : s.size ≤ 400) (hrl : ∀ rows ∈ rl, ∀ r ∈ rows, r.size ≤ maxLen) (hKm : K ≤ maxLen)
    (hparse : ∀ wx, Env m wx → Calls Tryz.prog 141 #[.string s] wx fun e w' => ∃ v vs, e = .returned (.tuple #[.agg #[.int .i64 a0, .int .i64 a1, .int .i64 a2, .int .i64 a3, .int .i64 a4, .int .i64 a5, v], .int .i64 0]) ∧ w'.ownsRow wx.heap.size 26 1 v K vs ∧ Cloths w' wx.heap.size vs rl ∧ Below wx.heap.size wx w')
    (hgood : ∀ gs : List Fig, gs.map Fig.rows = rl → (stageB a0 a1 a2 a3 a4 a5 && compB gs) = true) :
    Calls Tryz.prog 85 #[.string s] w fun e w' => ∃ (A : Option Addr) (c : Nat) (gs : List Fig), e = .returned (.tuple #[.agg #[.int .i64 a0, .int .i64 a1, .int .i64 a2, .int .i64 a3, .int .i64 a4, .int .i64 a5, .slice A K c], .int .i64 0]) ∧ gs.map Fig.rows = rl ∧ (∀ f ∈ gs, f.ok w' w'.heap.size) ∧ Rd w' w'.heap.size 1 A K (gs.map Fig.val) ∧ Below w.heap.size w w' := by
  have hsz : ¬ (400 : Int) < s.size := by omega
  have hB1 : Below w.heap.size w (w.alloc (.cells #[.int .i64 0, .int .i64 0, .int .i64 0, .int .i64 0, .int .i64 0, .int .i64 0, .slice none 0 0] 121)) := (Below.refl _ w).alloc (Nat.le_refl _) _
  have gT : Blk (w.alloc (.cells #[.int .i64 0, .int .i64 0, .int .i64 0, .int .i64 0, .int .i64 0, .int .i64 0, .slice none 0 0] 121)) w.heap.size 121 #[.int .i64 0, .int .i64 0, .int .i64 0, .int .i64 0, .int .i64 0, .int .i64 0, .slice none 0 0] := Blk.new _ _ _
  have hE1 := hE.below hB1
  have hp := hparse _ hE1
  rw [World.size_alloc] at hp
  clear hparse
  go_enter Tryz.func85, Tryz.ntmps85
  go_upto_region 8 with (first
    | (go_at_call 141; refine hp.mono ?_; rintro e w1 ⟨v, vs, rfl, hown, hcl, hb⟩; (have hb0 : Below (w.alloc (.cells #[.int .i64 0, .int .i64 0, .int .i64 0, .int .i64 0, .int .i64 0, .int .i64 0, .slice none 0 0] 121)).heap.size (w.alloc (.cells #[.int .i64 0, .int .i64 0, .int .i64 0, .int .i64 0, .int .i64 0, .int .i64 0, .slice none 0 0] 121)) w1 := by rw [World.size_alloc]; exact hb); obtain ⟨A, c, rfl⟩ := own_slice hown; replace gT := gT.below hb0 gT.lt; replace hB1 := hB1.trans (hb0.mono hB1.size); clear hb hb0; have gK := Blk.new w1 121 #[.int .i64 a0, .int .i64 a1, .int .i64 a2, .int .i64 a3, .int .i64 a4, .int .i64 a5, .slice A K c]; replace gT := gT.alloc (.cells #[.int .i64 a0, .int .i64 a1, .int .i64 a2, .int .i64 a3, .int .i64 a4, .int .i64 a5, .slice A K c] 121); replace hown := hown.alloc (.cells #[.int .i64 a0, .int .i64 a1, .int .i64 a2, .int .i64 a3, .int .i64 a4, .int .i64 a5, .slice A K c] 121); replace hcl := hcl.alloc (.cells #[.int .i64 a0, .int .i64 a1, .int .i64 a2, .int .i64 a3, .int .i64 a4, .int .i64 a5, .slice A K c] 121); replace hB1 := hB1.alloc hB1.size (.cells #[.int .i64 a0, .int .i64 a1, .int .i64 a2, .int .i64 a3, .int .i64 a4, .int .i64 a5, .slice A K c] 121); obtain ⟨gs, e1, e2, e3⟩ := figs_of hcl hrl; have hgd := hgood gs e2; have hrg := Rd.of_own hown; rw [← e1] at hrg; clear e1 e2)
    | (go_at_call 139; refine (goodBook_any a0 a1 a2 a3 a4 a5 A K c gs _ hKm e3 hrg).mono ?_; rintro e w2 ⟨rfl, hb2⟩; rw [hgd]; replace gT := gT.below hb2 gT.lt; replace gK := gK.below hb2 gK.lt; replace hown := ownsRow_below' hown hb2; replace hcl := hcl.below hb2; replace hB1 := hB1.trans (hb2.mono hB1.size); clear hb2 e3 hrg gs hgd))
  have hqT := fun i => gT.cell i; have hfT := fun i => gT.frozen i; have hlT := gT.lt; have hqK := fun i => gK.cell i; have hlK := gK.lt
  go_wp2
  clear hqT hfT hlT hqK hlK
  replace gT := gT.set_ 0 (.int .i64 a0); replace hB1 := hB1.setCell (p := ⟨w.heap.size, 0, none⟩) (Nat.le_refl w.heap.size) (.int .i64 a0); replace hown := ownsRow_setCell_below hown (a := ⟨w.heap.size, 0, none⟩) (Nat.lt_succ_self _) (.int .i64 a0); replace hcl := hcl.set (a := ⟨w.heap.size, 0, none⟩) (Nat.lt_succ_self _) (.int .i64 a0)
  replace gT := gT.set_ 1 (.int .i64 a1); replace hB1 := hB1.setCell (p := ⟨w.heap.size, 1, none⟩) (Nat.le_refl w.heap.size) (.int .i64 a1); replace hown := ownsRow_setCell_below hown (a := ⟨w.heap.size, 1, none⟩) (Nat.lt_succ_self _) (.int .i64 a1); replace hcl := hcl.set (a := ⟨w.heap.size, 1, none⟩) (Nat.lt_succ_self _) (.int .i64 a1)
  replace gT := gT.set_ 2 (.int .i64 a2); replace hB1 := hB1.setCell (p := ⟨w.heap.size, 2, none⟩) (Nat.le_refl w.heap.size) (.int .i64 a2); replace hown := ownsRow_setCell_below hown (a := ⟨w.heap.size, 2, none⟩) (Nat.lt_succ_self _) (.int .i64 a2); replace hcl := hcl.set (a := ⟨w.heap.size, 2, none⟩) (Nat.lt_succ_self _) (.int .i64 a2)
  replace gT := gT.set_ 3 (.int .i64 a3); replace hB1 := hB1.setCell (p := ⟨w.heap.size, 3, none⟩) (Nat.le_refl w.heap.size) (.int .i64 a3); replace hown := ownsRow_setCell_below hown (a := ⟨w.heap.size, 3, none⟩) (Nat.lt_succ_self _) (.int .i64 a3); replace hcl := hcl.set (a := ⟨w.heap.size, 3, none⟩) (Nat.lt_succ_self _) (.int .i64 a3)
  replace gT := gT.set_ 4 (.int .i64 a4); replace hB1 := hB1.setCell (p := ⟨w.heap.size, 4, none⟩) (Nat.le_refl w.heap.size) (.int .i64 a4); replace hown := ownsRow_setCell_below hown (a := ⟨w.heap.size, 4, none⟩) (Nat.lt_succ_self _) (.int .i64 a4); replace hcl := hcl.set (a := ⟨w.heap.size, 4, none⟩) (Nat.lt_succ_self _) (.int .i64 a4)
  replace gT := gT.set_ 5 (.int .i64 a5); replace hB1 := hB1.setCell (p := ⟨w.heap.size, 5, none⟩) (Nat.le_refl w.heap.size) (.int .i64 a5); replace hown := ownsRow_setCell_below hown (a := ⟨w.heap.size, 5, none⟩) (Nat.lt_succ_self _) (.int .i64 a5); replace hcl := hcl.set (a := ⟨w.heap.size, 5, none⟩) (Nat.lt_succ_self _) (.int .i64 a5)
  replace gT := gT.set_ 6 (.slice A K c); replace hB1 := hB1.setCell (p := ⟨w.heap.size, 6, none⟩) (Nat.le_refl w.heap.size) (.slice A K c); replace hown := ownsRow_setCell_below hown (a := ⟨w.heap.size, 6, none⟩) (Nat.lt_succ_self _) (.slice A K c); replace hcl := hcl.set (a := ⟨w.heap.size, 6, none⟩) (Nat.lt_succ_self _) (.slice A K c)
  generalize (((((((w2.setCell ⟨w.heap.size, 0, none⟩ (.int .i64 a0)).setCell ⟨w.heap.size, 1, none⟩ (.int .i64 a1)).setCell ⟨w.heap.size, 2, none⟩ (.int .i64 a2)).setCell ⟨w.heap.size, 3, none⟩ (.int .i64 a3)).setCell ⟨w.heap.size, 4, none⟩ (.int .i64 a4)).setCell ⟨w.heap.size, 5, none⟩ (.int .i64 a5)).setCell ⟨w.heap.size, 6, none⟩ (.slice A K c)) = w9 at *
  have hq9 := fun i => gT.cell i
  obtain ⟨gs, e1, e2, e3⟩ := figs_of hcl hrl
  have hrg := Rd.of_own hown
  rw [← e1] at hrg
  refine bodyPost_ret (v := .tuple #[.agg #[.int .i64 a0, .int .i64 a1, .int .i64 a2, .int .i64 a3, .int .i64 a4, .int .i64 a5, .slice A K c], .int .i64 0]) ?_ rfl ⟨A, c, gs, rfl, e2, e3, hrg, hB1⟩
  simp [results, Tryz.results85, go_sem, hq9]
end
section
open Go.RowKit Go.Lib
/-- A text of which a figure's line is none, or of which the last line is not the one that it should be, is none. -/
theorem parse_rest (s : ByteArray) (ls : List ByteArray) (N : Nat) (m : Int) (w : World) (hE : Env m w) (hs : s.size ≤ 1000) (hend : Lib.hasSuffix s.data.toList [10] = true) (htz : ByteArray.size ⟨(Lib.trimSuffix s.data.toList [10]).toArray⟩ ≤ 1000) (hcnt : countB ⟨(Lib.trimSuffix s.data.toList [10]).toArray⟩ ⟨#[10]⟩ = N) (hspl : splitB ⟨#[10]⟩ 0 N ⟨(Lib.trimSuffix s.data.toList [10]).toArray⟩ = ls)
    (hsz : ∀ l ∈ ls, l.size ≤ 1000) (le : ByteArray) (hle : ls[N]? = some le) (S : Nat) (hS : sumA (ls.take N) 0 0 = S) (hbad : (∃ j l, j + 1 < N ∧ ls[1 + j]? = some l ∧ ¬ WOk wFigure l) ∨ le ≠ lineS wEnd [dgt3 (S % 173)]) : Calls Tryz.prog 141 #[.string s] w fun e w' => e = NONEB ∧ Below w.heap.size w w' := by
  have hlen : ls.length = N + 1 := by rw [← hspl, ← hcnt]; exact countB_split 10 _
  by_cases hz : N = 0
  · exact parse_b2 s ls N m w hE hs hend htz hcnt hspl hz
  obtain ⟨K, rfl⟩ : ∃ K, N = K + 1 := ⟨N - 1, by omega⟩
  obtain ⟨l0, h0⟩ : ∃ l0, ls[0]? = some l0 := ⟨_, List.getElem?_eq_getElem (by omega)⟩
  have hl0 : l0.size ≤ 1000 := hsz l0 (List.mem_of_getElem? h0)
  by_cases hok : WOk wStage l0
  · by_cases hb : countB l0 ⟨#[32]⟩ ≠ 6 ∨ ∃ s ∈ (cutW l0).drop 1, ∀ a, a < 100 → s ≠ dS a
    · exact parse_b4 s ls _ m w hE hs hend htz hcnt hspl (by omega) l0 h0 hl0 hok hb
    · have hn6 : countB l0 ⟨#[32]⟩ = 6 := by
        rcases Decidable.em (countB l0 ⟨#[32]⟩ = 6) with h | h
        · exact h
        · exact absurd (Or.inl h) hb
      have hall : ∀ x ∈ (cutW l0).drop 1, ∃ a, a < 100 ∧ x = dS a := fun x hx => by
        by_cases h : ∃ a, a < 100 ∧ x = dS a
        · exact h
        · exact absurd (Or.inr ⟨x, hx, fun a ha e => h ⟨a, ha, e⟩⟩) hb
      have hl6 : ((cutW l0).drop 1).length = 6 := by
        have := countB_split 32 l0
        rw [List.length_drop]; unfold cutW; omega
      generalize hx : (cutW l0).drop 1 = xs at *
      match xs, hl6 with
      | [x0, x1, x2, x3, x4, x5], _ =>
        obtain ⟨a0, h00, rfl⟩ := hall x0 (by simp)
        obtain ⟨a1, h01, rfl⟩ := hall x1 (by simp)
        obtain ⟨a2, h02, rfl⟩ := hall x2 (by simp)
        obtain ⟨a3, h03, rfl⟩ := hall x3 (by simp)
        obtain ⟨a4, h04, rfl⟩ := hall x4 (by simp)
        obtain ⟨a5, h05, rfl⟩ := hall x5 (by simp)
        refine parse_b5 a0 a1 a2 a3 a4 a5 (fun a ha => ?_) K s ls _ m w hE hs hend htz hcnt hspl rfl l0 h0 hl0 hok hn6 hx hsz le hle S hS ?_
        · simp at ha; rcases ha with rfl | rfl | rfl | rfl | rfl | rfl <;> assumption
        · rcases hbad with ⟨j, l, hj, hl, hn⟩ | h
          · exact .inl ⟨j, l, by omega, hl, hn⟩
          · exact .inr h
  · exact parse_b3 s ls _ m w hE hs hend htz hcnt hspl (by omega) l0 h0 hl0 hok
set_option maxRecDepth 100000 in
set_option maxHeartbeats 1600000 in
/-- What is no text is not read. -/
theorem Read_none (s : ByteArray) (m : Int) (w : World) (hE : Env m w) (hs : s.size ≤ 400) (hparse : ∀ wx, Env m wx → Calls Tryz.prog 141 #[.string s] wx fun e w' => e = NONEB ∧ Below wx.heap.size wx w') :
    Calls Tryz.prog 85 #[.string s] w fun e w' => e = NONEB ∧ Below w.heap.size w w' := by
  have hsz : ¬ (400 : Int) < s.size := by omega
  have hB1 : Below w.heap.size w (w.alloc (.cells #[.int .i64 0, .int .i64 0, .int .i64 0, .int .i64 0, .int .i64 0, .int .i64 0, .slice none 0 0] 121)) := (Below.refl _ w).alloc (Nat.le_refl _) _
  have gT : Blk (w.alloc (.cells #[.int .i64 0, .int .i64 0, .int .i64 0, .int .i64 0, .int .i64 0, .int .i64 0, .slice none 0 0] 121)) w.heap.size 121 #[.int .i64 0, .int .i64 0, .int .i64 0, .int .i64 0, .int .i64 0, .int .i64 0, .slice none 0 0] := Blk.new _ _ _
  have hE1 := hE.below hB1
  have hp := hparse _ hE1
  unfold NONEB at hp
  clear hparse
  go_enter Tryz.func85, Tryz.ntmps85
  go_upto_region 5 with (first
    | (go_at_call 141; refine hp.mono ?_; rintro e w1 ⟨rfl, hb⟩; replace gT := gT.below hb gT.lt; replace hB1 := hB1.trans (hb.mono hB1.size); clear hb; replace gT := gT.alloc (.cells #[.int .i64 0, .int .i64 0, .int .i64 0, .int .i64 0, .int .i64 0, .int .i64 0, .slice none 0 0] 121); replace hB1 := hB1.alloc hB1.size (.cells #[.int .i64 0, .int .i64 0, .int .i64 0, .int .i64 0, .int .i64 0, .int .i64 0, .slice none 0 0] 121)))
  have hqT := fun i => gT.cell i; have hfT := fun i => gT.frozen i; have hlT := gT.lt
  go_wp2
  clear hqT hfT hlT
  replace gT := gT.set_ 0 (.int .i64 0); replace hB1 := hB1.setCell (p := ⟨w.heap.size, 0, none⟩) (Nat.le_refl w.heap.size) (.int .i64 0)
  replace gT := gT.set_ 1 (.int .i64 0); replace hB1 := hB1.setCell (p := ⟨w.heap.size, 1, none⟩) (Nat.le_refl w.heap.size) (.int .i64 0)
  replace gT := gT.set_ 2 (.int .i64 0); replace hB1 := hB1.setCell (p := ⟨w.heap.size, 2, none⟩) (Nat.le_refl w.heap.size) (.int .i64 0)
  replace gT := gT.set_ 3 (.int .i64 0); replace hB1 := hB1.setCell (p := ⟨w.heap.size, 3, none⟩) (Nat.le_refl w.heap.size) (.int .i64 0)
  replace gT := gT.set_ 4 (.int .i64 0); replace hB1 := hB1.setCell (p := ⟨w.heap.size, 4, none⟩) (Nat.le_refl w.heap.size) (.int .i64 0)
  replace gT := gT.set_ 5 (.int .i64 0); replace hB1 := hB1.setCell (p := ⟨w.heap.size, 5, none⟩) (Nat.le_refl w.heap.size) (.int .i64 0)
  replace gT := gT.set_ 6 (.slice none 0 0); replace hB1 := hB1.setCell (p := ⟨w.heap.size, 6, none⟩) (Nat.le_refl w.heap.size) (.slice none 0 0)
  replace gT : Blk ((((((((w1.alloc (.cells #[.int .i64 0, .int .i64 0, .int .i64 0, .int .i64 0, .int .i64 0, .int .i64 0, .slice none 0 0] 121)).setCell ⟨w.heap.size, 0, none⟩ (.int .i64 0)).setCell ⟨w.heap.size, 1, none⟩ (.int .i64 0)).setCell ⟨w.heap.size, 2, none⟩ (.int .i64 0)).setCell ⟨w.heap.size, 3, none⟩ (.int .i64 0)).setCell ⟨w.heap.size, 4, none⟩ (.int .i64 0)).setCell ⟨w.heap.size, 5, none⟩ (.int .i64 0)).setCell ⟨w.heap.size, 6, none⟩ (.slice none 0 0)) w.heap.size 121 #[.int .i64 0, .int .i64 0, .int .i64 0, .int .i64 0, .int .i64 0, .int .i64 0, .slice none 0 0] := gT
  generalize ((((((((w1.alloc (.cells #[.int .i64 0, .int .i64 0, .int .i64 0, .int .i64 0, .int .i64 0, .int .i64 0, .slice none 0 0] 121)).setCell ⟨w.heap.size, 0, none⟩ (.int .i64 0)).setCell ⟨w.heap.size, 1, none⟩ (.int .i64 0)).setCell ⟨w.heap.size, 2, none⟩ (.int .i64 0)).setCell ⟨w.heap.size, 3, none⟩ (.int .i64 0)).setCell ⟨w.heap.size, 4, none⟩ (.int .i64 0)).setCell ⟨w.heap.size, 5, none⟩ (.int .i64 0)).setCell ⟨w.heap.size, 6, none⟩ (.slice none 0 0)) = w9 at *
  have hq9 := fun i => gT.cell i
  refine bodyPost_ret (v := .tuple #[.agg #[.int .i64 0, .int .i64 0, .int .i64 0, .int .i64 0, .int .i64 0, .int .i64 0, .slice none 0 0], .int .i64 4]) ?_ rfl ⟨rfl, hB1⟩
  simp [results, Tryz.results85, go_sem, hq9]
end
section
open Go.RowKit Go.Lib
theorem inB_two {c lo hi : Int} : inB c lo hi = true ↔ lo ≤ c ∧ c ≤ hi := by simp [inB]
theorem not_mem_tail {c : UInt8} {sep : List UInt8} (h1 : c ∉ sep) : ∀ r : List (List UInt8), (∀ x ∈ r, c ∉ x) → c ∉ joinTail sep r
  | [], _ => by simp [joinTail]
  | x :: r, h => by
    have e : joinTail sep (x :: r) = sep ++ x ++ joinTail sep r := by simp [joinTail]
    rw [e, List.mem_append, List.mem_append]
    rintro ((h2 | h2) | h2)
    · exact h1 h2
    · exact h x (by simp) h2
    · exact not_mem_tail h1 r (fun y hy => h y (by simp [hy])) h2
theorem not_mem_join {c : UInt8} {sep : List UInt8} (h1 : c ∉ sep) (r : List (List UInt8)) (h : ∀ x ∈ r, c ∉ x) : c ∉ join r sep := by
  cases r with
  | nil => simp [join_nil]
  | cons x r =>
    rw [join_cons, List.mem_append]
    rintro (h2 | h2)
    · exact h x (by simp) h2
    · exact not_mem_tail h1 r (fun y hy => h y (by simp [hy])) h2
/-- A word: not empty, without a blank and without a line feed. -/
def Word (b : ByteArray) : Prop := (32 : UInt8) ∉ b.data.toList ∧ (10 : UInt8) ∉ b.data.toList ∧ b ≠ ⟨#[]⟩
theorem jnS_list (xs : List ByteArray) (sep : ByteArray) : (jnS xs sep).data.toList = join (xs.map (·.data.toList)) sep.data.toList := rfl
theorem lineS_jn (wd : ByteArray) (ws : List ByteArray) (h : ws ≠ []) : lineS wd ws = jnS (wd :: ws) ⟨#[32]⟩ := by
  apply ba_list
  cases ws with
  | nil => exact absurd rfl h
  | cons x r =>
    show (wd ++ ⟨#[32]⟩ ++ jnS (x :: r) ⟨#[32]⟩).data.toList = _
    rw [jnS_list, ByteArray.data_append, ByteArray.data_append, Array.toList_append, Array.toList_append, jnS_list, List.map_cons, List.map_cons, join_cons, join_cons]
    simp [joinTail]
theorem line_ok (wd : ByteArray) (ws : List ByteArray) (hwd : Word wd) (hws : ∀ x ∈ ws, Word x) (h1 : 1 ≤ ws.length) (h6 : ws.length ≤ 6) (hs : wd.size ≤ 6) (hs6 : ∀ x ∈ ws, x.size ≤ 6) : LineOk wd ws ∧ (10 : UInt8) ∉ (lineS wd ws).data.toList ∧ (lineS wd ws).size ≤ 49 := by
  have hne : ws ≠ [] := fun e => by rw [e] at h1; simp at h1
  have hsz : (lineS wd ws).size ≤ 49 := by
    have h2 := lineS_size wd ws 6 hs6
    have h3 : ws.length * (6 + 1) ≤ 6 * 7 := Nat.mul_le_mul h6 (Nat.le_refl _)
    omega
  have e := lineS_jn wd ws hne
  refine ⟨⟨by omega, h1, by omega, ?_, ?_, ?_⟩, ?_, hsz⟩
  · rw [e]; exact countB_join 32 wd ws hwd.1 (fun y hy => (hws y hy).1)
  · have hc := countB_join 32 wd ws hwd.1 (fun y hy => (hws y hy).1)
    have hp := splitB_join 32 wd ws hwd.1 (fun y hy => (hws y hy).1)
    rw [hc] at hp
    rw [e]; exact hp
  · cases hq : containsS (wd :: ws) ⟨#[]⟩ with
    | false => rfl
    | true =>
      rw [containsS_iff] at hq
      rcases List.mem_cons.1 hq with h2 | h2
      · exact absurd h2.symm hwd.2.2
      · exact absurd rfl (hws _ h2).2.2
  · rw [e, jnS_list]
    refine not_mem_join (by decide) _ (fun x hx => ?_)
    obtain ⟨y, hy, rfl⟩ := List.mem_map.1 hx
    rcases List.mem_cons.1 hy with rfl | hy
    · exact hwd.2.1
    · exact (hws y hy).2.1
theorem word_stageW : Word wStage := ⟨by decide, by decide, by decide⟩
theorem word_figureW : Word wFigure := ⟨by decide, by decide, by decide⟩
theorem word_endW : Word wEnd := ⟨by decide, by decide, by decide⟩
theorem dgt_ne (d : Nat) (hd : d < 10) : dgt d ≠ 32 ∧ dgt d ≠ 10 := by
  rcases (show d = 0 ∨ d = 1 ∨ d = 2 ∨ d = 3 ∨ d = 4 ∨ d = 5 ∨ d = 6 ∨ d = 7 ∨ d = 8 ∨ d = 9 by omega) with rfl | rfl | rfl | rfl | rfl | rfl | rfl | rfl | rfl | rfl <;> decide
theorem word_dS (a : Nat) (ha : a < 100) : Word (dS a) ∧ (dS a).size ≤ 6 := by
  by_cases h : a < 10
  · have e : dS a = ⟨#[dgt a]⟩ := by unfold dS; rw [decDigits_one h]; rfl
    obtain ⟨n1, n2⟩ := dgt_ne a h
    rw [e]
    exact ⟨⟨by simpa using n1.symm, by simpa using n2.symm, fun h => by have := congrArg ByteArray.size h; cases this⟩, show 1 ≤ 6 by omega⟩
  · have e : dS a = ⟨#[dgt (a / 10), dgt (a % 10)]⟩ := by unfold dS; rw [decDigits_two h ha]; rfl
    obtain ⟨n1, n2⟩ := dgt_ne (a / 10) (by omega)
    obtain ⟨n3, n4⟩ := dgt_ne (a % 10) (by omega)
    rw [e]
    exact ⟨⟨by simpa using ⟨n1.symm, n3.symm⟩, by simpa using ⟨n2.symm, n4.symm⟩, fun h => by have := congrArg ByteArray.size h; cases this⟩, show 2 ≤ 6 by omega⟩
theorem word_dgt3 (v : Nat) (hv : v < 1000) : Word (dgt3 v) ∧ (dgt3 v).size ≤ 6 := by
  obtain ⟨n1, n2⟩ := dgt_ne (v / 100) (by omega)
  obtain ⟨n3, n4⟩ := dgt_ne (v / 10 % 10) (by omega)
  obtain ⟨n5, n6⟩ := dgt_ne (v % 10) (by omega)
  exact ⟨⟨by simpa [dgt3] using ⟨n1.symm, n3.symm, n5.symm⟩, by simpa [dgt3] using ⟨n2.symm, n4.symm, n6.symm⟩, fun h => by have := congrArg ByteArray.size h; cases this⟩, show 3 ≤ 6 by omega⟩
theorem figB_words {rows : List ByteArray} (h : figB rows = true) : (1 ≤ rows.length ∧ rows.length ≤ 6) ∧ ∀ r ∈ rows, Word r ∧ r.size ≤ 6 := by
  simp only [figB, Bool.and_eq_true, inB_two, List.all_eq_true] at h
  obtain ⟨⟨h1, h2⟩, ⟨h3, h4⟩, h5, _⟩ := h
  refine ⟨by omega, fun r hr => ?_⟩
  have h6 := h5 r hr
  simp only [rowB, Bool.and_eq_true, decide_eq_true_eq, onlyB, List.all_eq_true] at h6
  obtain ⟨h7, h8⟩ := h6
  have hno : ∀ c : UInt8, c.toNat ≠ 35 → c.toNat ≠ 46 → c ∉ r.data.toList := fun c n1 n2 hc => by
    have := h8 (c.toNat : Int) (List.mem_map.2 ⟨c, hc, rfl⟩)
    simp only [List.mem_cons, List.not_mem_nil, or_false] at this
    omega
  refine ⟨⟨hno 32 (by decide) (by decide), hno 10 (by decide) (by decide), fun e => ?_⟩, by omega⟩
  rw [e] at h7
  have : ByteArray.size ⟨#[]⟩ = 0 := rfl
  omega
theorem lines_ok (a0 a1 a2 a3 a4 a5 : Nat) (fs : List Fig) (hst : stageB a0 a1 a2 a3 a4 a5 = true) (hcb : compB fs = true) :
    (∀ a ∈ [a0, a1, a2, a3, a4, a5], a < 100) ∧ (1 ≤ fs.length ∧ fs.length ≤ 6) ∧ (LineOk wStage ([a0, a1, a2, a3, a4, a5].map dS)) ∧ (∀ f ∈ fs, LineOk wFigure f.rows ∧ (1 ≤ f.rows.length ∧ f.rows.length ≤ 6) ∧ ∀ r ∈ f.rows, r.size ≤ 6) ∧ ∀ l ∈ linesL [a0, a1, a2, a3, a4, a5] fs, (10 : UInt8) ∉ l.data.toList ∧ l.size ≤ 49 := by
  have hn : ∀ a ∈ [a0, a1, a2, a3, a4, a5], a < 100 := by
    simp only [stageB, Bool.and_eq_true, inB_two] at hst
    intro a ha
    simp only [List.mem_cons, List.not_mem_nil, or_false] at ha
    omega
  simp only [compB, Bool.and_eq_true, inB_two, List.all_eq_true] at hcb
  obtain ⟨⟨hc1, hc2⟩, hc3⟩ := hcb
  obtain ⟨l1, l2, l3⟩ := line_ok wStage ([a0, a1, a2, a3, a4, a5].map dS) word_stageW (fun x hx => by obtain ⟨a, ha, rfl⟩ := List.mem_map.1 hx; exact (word_dS a (hn a ha)).1) (show 1 ≤ 6 by omega) (Nat.le_refl 6) (show 5 ≤ 6 by omega) (fun x hx => by obtain ⟨a, ha, rfl⟩ := List.mem_map.1 hx; exact (word_dS a (hn a ha)).2)
  have hfl : ∀ f ∈ fs, (LineOk wFigure f.rows ∧ (10 : UInt8) ∉ (lineS wFigure f.rows).data.toList ∧ (lineS wFigure f.rows).size ≤ 49) ∧ (1 ≤ f.rows.length ∧ f.rows.length ≤ 6) ∧ ∀ r ∈ f.rows, r.size ≤ 6 := fun f hf => by
    obtain ⟨⟨h1, h2⟩, h3⟩ := figB_words (hc3 f hf)
    exact ⟨line_ok wFigure f.rows word_figureW (fun x hx => (h3 x hx).1) h1 h2 (Nat.le_refl 6) (fun x hx => (h3 x hx).2), ⟨h1, h2⟩, fun r hr => (h3 r hr).2⟩
  refine ⟨hn, by omega, l1, fun f hf => ⟨(hfl f hf).1.1, (hfl f hf).2⟩, fun l hl => ?_⟩
  rcases List.mem_cons.1 hl with rfl | hl
  · exact ⟨l2, l3⟩
  · obtain ⟨f, hf, rfl⟩ := List.mem_map.1 hl
    exact (hfl f hf).1.2
end
section
open Go.RowKit Go.Lib
theorem w64 (n : Int) (h : -9223372036854775808 ≤ n ∧ n ≤ 9223372036854775807) : wrap64 n = n := by unfold wrap64; omega
theorem sumB_ok (i : Int) (hi0 : 0 ≤ i) (hi : i ≤ 1000) : ∀ (l : List UInt8) (p acc : Int), 0 ≤ p → p + l.length ≤ 1000 → 0 ≤ acc → acc + l.length * 300000000 ≤ 4000000000000000000 → 0 ≤ sumB i l p acc ∧ sumB i l p acc ≤ acc + l.length * 300000000
  | [], _, acc, _, _, h, _ => by simp [sumB]; exact h
  | c :: l, p, acc, hp, hl, h0, h1 => by
    rw [List.length_cons] at hl h1
    have hc : (c.toNat : Int) ≤ 255 := by have := c.toNat_lt; omega
    obtain ⟨_, m1⟩ := mulB (x := (c.toNat : Int)) (y := p + 1) (a := 255) (b := 1000) (by omega) (by omega) (by omega) (by omega)
    have m0 : 0 ≤ (c.toNat : Int) * (p + 1) := Int.mul_nonneg (by omega) (by omega)
    obtain ⟨x, hx⟩ : ∃ x, x = (c.toNat : Int) * (p + 1) := ⟨_, rfl⟩
    rw [← hx] at m0 m1
    obtain ⟨_, n1⟩ := mulB (x := x) (y := i + 1) (a := 255000) (b := 1001) (by omega) (by omega) (by omega) (by omega)
    have n0 : 0 ≤ x * (i + 1) := Int.mul_nonneg m0 (by omega)
    have e : sumB i (c :: l) p acc = sumB i l (p + 1) (acc + x * (i + 1)) := by
      rw [sumB, w64 (c.toNat : Int) (by omega), ← hx, w64 x (by omega), w64 (x * (i + 1)) (by omega), w64 (acc + x * (i + 1)) (by omega)]
    rw [e]
    obtain ⟨y, hy⟩ : ∃ y, y = x * (i + 1) := ⟨_, rfl⟩
    rw [← hy] at n0 n1 ⊢
    obtain ⟨r1, r2⟩ := sumB_ok i hi0 hi l (p + 1) (acc + y) (by omega) (by omega) (by omega) (by omega)
    rw [List.length_cons]
    exact ⟨r1, by omega⟩
theorem sumA_ok : ∀ (rs : List ByteArray) (i acc : Int), 0 ≤ i → i + rs.length ≤ 1000 → (∀ r ∈ rs, r.size ≤ 900) → 0 ≤ acc → acc + rs.length * 300000000000 ≤ 4000000000000000000 → 0 ≤ sumA rs i acc
  | [], _, acc, _, _, _, h, _ => by simpa [sumA] using h
  | r :: rs, i, acc, hi, hl, hs, h0, h1 => by
    rw [List.length_cons] at hl h1
    have hr := hs r (by simp)
    have hrl : r.data.toList.length ≤ 900 := by rw [size_list]; exact hr
    obtain ⟨b1, b2⟩ := sumB_ok i hi (by omega) r.data.toList 0 acc (by omega) (by omega) h0 (by omega)
    rw [sumA]
    exact sumA_ok rs (i + 1) _ (by omega) (by omega) (fun x hx => hs x (by simp [hx])) b1 (by omega)
/-- What was joined and ended by a line feed, in one row. -/
theorem textS_jn (L : List ByteArray) (s : Nat) (h : L ≠ []) : textS L s = jnS (L ++ [lineS wEnd [dgt3 (s % 173)]]) ⟨#[10]⟩ ++ ⟨#[10]⟩ := by
  unfold textS
  rw [jnS_snoc L _ _ h]
theorem suf_end (x : ByteArray) : hasSuffix (x ++ ⟨#[10]⟩).data.toList [10] = true ∧ (⟨(trimSuffix (x ++ ⟨#[10]⟩).data.toList [10]).toArray⟩ : ByteArray) = x := by
  have e : (x ++ ⟨#[10]⟩).data.toList = x.data.toList ++ [10] := by rw [ByteArray.data_append, Array.toList_append]
  have h1 : hasSuffix (x ++ ⟨#[10]⟩).data.toList [10] = true := by
    rw [e, hasSuffix, List.isSuffixOf_iff_suffix]
    exact List.suffix_append _ _
  refine ⟨h1, ?_⟩
  apply ba_list
  show (trimSuffix (x ++ ⟨#[10]⟩).data.toList [10]).toArray.toList = _
  rw [trimSuffix, if_pos h1, e]
  simp
theorem end_word (v : Nat) (hv : v < 1000) : (10 : UInt8) ∉ (lineS wEnd [dgt3 v]).data.toList ∧ (lineS wEnd [dgt3 v]).size ≤ 8 := by
  obtain ⟨h1, h2⟩ := word_dgt3 v hv
  refine ⟨(line_ok wEnd [dgt3 v] word_endW (fun x hx => by obtain rfl : x = dgt3 v := (by simpa using hx); exact h1) (Nat.le_refl 1) (show 1 ≤ 6 by omega) (show 3 ≤ 6 by omega) (fun x hx => by obtain rfl : x = dgt3 v := (by simpa using hx); exact h2)).2.1, ?_⟩
  exact lineS_size wEnd [dgt3 v] 3 (fun x hx => by obtain rfl : x = dgt3 v := (by simpa using hx); exact Nat.le_refl 3)
theorem figS_jn : ∀ (l : List ByteArray) (s : ByteArray), figS l s = jnS (s :: l) ⟨#[32]⟩
  | [], s => by apply ba_list; rw [jnS_list, List.map_cons, List.map_nil, join_one]; rfl
  | r :: l, s => by
    rw [figS, figS_jn l]
    apply ba_list
    rw [jnS_list, jnS_list, List.map_cons, List.map_cons, List.map_cons, join_cons, join_cons]
    rw [ByteArray.data_append, ByteArray.data_append, Array.toList_append, Array.toList_append]
    simp [joinTail]
theorem rowS_jn (D : Int → ByteArray) : ∀ (l : List Int) (s : ByteArray), rowS D l s = jnS (s :: l.map D) ⟨#[32]⟩
  | [], s => by apply ba_list; rw [jnS_list, List.map_nil, List.map_cons, List.map_nil, join_one]; rfl
  | r :: l, s => by
    rw [rowS, rowS_jn D l]
    apply ba_list
    rw [jnS_list, jnS_list, List.map_cons, List.map_cons, List.map_cons, List.map_cons, join_cons, join_cons]
    rw [ByteArray.data_append, ByteArray.data_append, Array.toList_append, Array.toList_append]
    simp [joinTail]
theorem linesS_jn : ∀ (l : List ByteArray) (s : ByteArray), l ≠ [] → linesS l s = s ++ jnS l ⟨#[10]⟩ ++ ⟨#[10]⟩
  | [], _, h => absurd rfl h
  | [x], s, _ => by
    rw [linesS, linesS]
    apply ba_list
    simp only [ByteArray.data_append, Array.toList_append, jnS_list, List.map_cons, List.map_nil, join_one]
  | x :: y :: l, s, _ => by
    rw [linesS, linesS_jn (y :: l) _ (by simp)]
    apply ba_list
    simp only [ByteArray.data_append, Array.toList_append, jnS_list, List.map_cons, join_cons]
    simp [joinTail]
def DZ (x : Int) : ByteArray := dS x.toNat
theorem bookR_lines (a0 a1 a2 a3 a4 a5 : Nat) (fs : List Fig) (h : ∀ f ∈ fs, 1 ≤ f.rows.length) : bookR DZ a0 a1 a2 a3 a4 a5 fs = linesL [a0, a1, a2, a3, a4, a5] fs := by
  unfold bookR linesL
  congr 1
  · rw [rowS_jn, lineS_jn _ _ (by simp)]
    rfl
  · refine List.map_congr_left fun f hf => ?_
    have hne : f.rows ≠ [] := fun e => by have := h f hf; rw [e] at this; simp at this
    unfold figW figL
    rw [figS_jn, lineS_jn _ _ hne]
    rfl
theorem refText (L : List ByteArray) (s : Nat) (h : L ≠ []) : linesS L ⟨#[]⟩ ++ ⟨#[101, 110, 100, 32]⟩ ++ strOfNums [48 + ((s : Int) % 173) / 100] ++ strOfNums [48 + ((s : Int) % 173) / 10 % 10] ++ strOfNums [48 + ((s : Int) % 173) % 10] ++ ⟨#[10]⟩ = textS L s := by
  have hm := Nat.mod_lt s (show 0 < 173 by omega)
  have e0 : (s : Int) % 173 = ((s % 173 : Nat) : Int) := rfl
  rw [e0]
  obtain ⟨v, hv⟩ : ∃ v, v = s % 173 := ⟨_, rfl⟩
  rw [← hv] at hm ⊢
  have e1 : ((v : Int)) / 100 = ((v / 100 : Nat) : Int) := rfl
  have e2 : ((v : Int)) / 10 % 10 = ((v / 10 % 10 : Nat) : Int) := rfl
  have e3 : ((v : Int)) % 10 = ((v % 10 : Nat) : Int) := rfl
  rw [e1, e2, e3, nums_dgt _ (by omega), nums_dgt _ (by omega), nums_dgt _ (by omega), linesS_jn L _ h]
  unfold textS
  rw [← hv]
  have e4 : lineS wEnd [dgt3 v] = ⟨#[101, 110, 100, 32]⟩ ++ ⟨#[dgt (v / 100)]⟩ ++ ⟨#[dgt (v / 10 % 10)]⟩ ++ ⟨#[dgt (v % 10)]⟩ := by
    apply ba_list
    show (wEnd ++ ⟨#[32]⟩ ++ jnS [dgt3 v] ⟨#[32]⟩).data.toList = _
    simp only [ByteArray.data_append, Array.toList_append, jnS_list, List.map_cons, List.map_nil, join_one]
    rfl
  rw [e4]
  apply ba_list
  simp only [ByteArray.data_append, Array.toList_append]
  simp
end
section
open Go.RowKit Go.Lib
/-- A text of lines without a line feed is cut into them. -/
theorem cut_text (M : List ByteArray) (N : Nat) (hN : M.length = N + 1) (hM : ∀ l ∈ M, (10 : UInt8) ∉ l.data.toList) :
    hasSuffix (jnS M ⟨#[10]⟩ ++ ⟨#[10]⟩).data.toList [10] = true ∧ (⟨(trimSuffix (jnS M ⟨#[10]⟩ ++ ⟨#[10]⟩).data.toList [10]).toArray⟩ : ByteArray) = jnS M ⟨#[10]⟩ ∧ countB (jnS M ⟨#[10]⟩) ⟨#[10]⟩ = N ∧ splitB ⟨#[10]⟩ 0 N (jnS M ⟨#[10]⟩) = M := by
  obtain ⟨s1, s2⟩ := suf_end (jnS M ⟨#[10]⟩)
  cases M with
  | nil => simp at hN
  | cons x r =>
    have hcx := countB_join 10 x r (hM x (by simp)) (fun y hy => hM y (by simp [hy]))
    have hsx := splitB_join 10 x r (hM x (by simp)) (fun y hy => hM y (by simp [hy]))
    rw [hcx] at hsx
    have el : r.length = N := by simpa using hN
    rw [el] at hcx hsx
    exact ⟨s1, s2, hcx, hsx⟩
end
section
open Go.RowKit Go.Lib
theorem join_put (c b : UInt8) : ∀ (M : List (List UInt8)), M ≠ [] → join (putHead b M) [c] = b :: join M [c]
  | [], h => absurd rfl h
  | [x], _ => by rw [putHead, join_one, join_one]
  | x :: y :: r, _ => by rw [putHead, join_cons, join_cons]; rfl
/-- What is cut and joined is what it was. -/
theorem join_cut (c : UInt8) : ∀ l : List UInt8, join (cutL c l) [c] = l
  | [] => by rw [cutL, join_one]
  | b :: l => by
    have ih := join_cut c l
    rw [cutL]
    split
    · rename_i h
      subst h
      cases hM : cutL b l with
      | nil => exact absurd hM (cutL_ne b l)
      | cons x r =>
        rw [hM, join_cons] at ih
        rw [join_cons]
        simp only [joinTail, List.map_cons, List.flatten_cons, List.nil_append, List.cons_append] at ih ⊢
        rw [ih]
    · rw [join_put c b _ (cutL_ne c l), ih]
theorem jn_cutB (c : UInt8) (s : ByteArray) : jnS (cutB c s) ⟨#[c]⟩ = s := by
  apply ba_list
  show (join ((cutB c s).map (·.data.toList)) [c]).toArray.toList = _
  rw [cutB_data, join_cut]
theorem cutB_ne (c : UInt8) (s : ByteArray) : cutB c s ≠ [] := fun e => by
  have h := cutB_data c s
  rw [e] at h
  exact cutL_ne c _ h.symm
theorem cut_mem (c : UInt8) : ∀ l : List UInt8, ∀ x ∈ cutL c l, c ∉ x
  | [], x, hx => by
    rw [cutL] at hx
    rw [List.mem_singleton.1 hx]
    exact List.not_mem_nil
  | b :: l, x, hx => by
    have ih := cut_mem c l
    rw [cutL] at hx
    split at hx
    · rcases List.mem_cons.1 hx with h | h
      · rw [h]; simp
      · exact ih x h
    · rename_i hb
      cases hM : cutL c l with
      | nil => exact absurd hM (cutL_ne c l)
      | cons y r =>
        rw [hM] at hx ih
        rw [putHead] at hx
        rcases List.mem_cons.1 hx with h | h
        · rw [h]
          intro hc
          rcases List.mem_cons.1 hc with h1 | h1
          · exact hb h1.symm
          · exact ih y (by simp) h1
        · exact ih x (by simp [h])
theorem cutB_mem (c : UInt8) (s x : ByteArray) (hx : x ∈ cutB c s) : c ∉ x.data.toList :=
  cut_mem c s.data.toList _ (by rw [← cutB_data]; exact List.mem_map.2 ⟨x, hx, rfl⟩)
theorem cutW_eq (l : ByteArray) : cutW l = cutB 32 l := rfl
/-- A line whose words are good is these words again. -/
theorem line_words (wd l : ByteArray) (h : WOk wd l) : l = lineS wd ((cutW l).drop 1) := by
  obtain ⟨h1, h2, _⟩ := h
  have hl := countB_split 32 l
  have hj := jn_cutB 32 l
  rw [cutW_eq] at h2 ⊢
  have hl2 : (cutB 32 l).length = countB l ⟨#[32]⟩ + 1 := hl
  generalize cutB 32 l = M at *
  match M, h2, hl2 with
  | x :: y :: r, h2, _ =>
    obtain rfl : x = wd := by simpa using h2
    rw [← hj]
    apply ba_list
    simp only [lineS, ByteArray.data_append, Array.toList_append, List.drop_succ_cons, List.drop_zero]
    show (join ((x :: y :: r).map (·.data.toList)) [32]).toArray.toList = _
    rw [List.map_cons, List.map_cons, join_cons]
    show _ = x.data.toList ++ [32] ++ (join ((y :: r).map (·.data.toList)) [32]).toArray.toList
    rw [List.map_cons, join_cons]
    simp [joinTail]
  | [x], _, hl2 => simp at hl2; omega
theorem cutL_snoc (c : UInt8) : ∀ l : List UInt8, cutL c (l ++ [c]) = cutL c l ++ [[]]
  | [] => by simp [cutL]
  | b :: l => by
    rw [List.cons_append, cutL, cutL, cutL_snoc c l]
    split
    · rfl
    · cases hM : cutL c l with
      | nil => exact absurd hM (cutL_ne c l)
      | cons x r => rfl
/-- The specification cuts a text that ends in a line feed into its lines and an empty one. -/
theorem cutB_end (t : ByteArray) : cutB 10 (t ++ ⟨#[10]⟩) = cutB 10 t ++ [⟨#[]⟩] := by
  apply map_data_inj
  rw [cutB_data, List.map_append, cutB_data, ByteArray.data_append, Array.toList_append]
  exact cutL_snoc 10 t.data.toList
/-- A text that ends in a line feed is what is left without it, and the line feed. -/
theorem trim_end (s : ByteArray) (h : hasSuffix s.data.toList [10] = true) : s = ⟨(trimSuffix s.data.toList [10]).toArray⟩ ++ ⟨#[10]⟩ := by
  have h2 := h
  rw [hasSuffix, List.isSuffixOf_iff_suffix] at h2
  obtain ⟨t, ht⟩ := h2
  apply ba_list
  rw [ByteArray.data_append, Array.toList_append]
  show s.data.toList = (trimSuffix s.data.toList [10]) ++ [10]
  rw [trimSuffix, if_pos h, ← ht]
  simp
end
section
open Go.RowKit Go.Lib
theorem cut_size (c : UInt8) : ∀ l : List UInt8, (cutL c l).length ≤ l.length + 1 ∧ ∀ x ∈ cutL c l, x.length ≤ l.length
  | [] => by simp [cutL]
  | b :: l => by
    obtain ⟨h1, h2⟩ := cut_size c l
    rw [cutL]
    split
    · refine ⟨by simp; omega, fun x hx => ?_⟩
      rcases List.mem_cons.1 hx with h | h
      · rw [h]; simp
      · have := h2 x h; simp; omega
    · cases hM : cutL c l with
      | nil => exact absurd hM (cutL_ne c l)
      | cons y r =>
        rw [hM] at h1 h2
        refine ⟨by simp [putHead] at h1 ⊢; omega, fun x hx => ?_⟩
        rw [putHead] at hx
        rcases List.mem_cons.1 hx with h | h
        · have := h2 y (by simp); rw [h]; simp; omega
        · have := h2 x (by simp [h]); simp; omega
theorem cutB_size (c : UInt8) (s : ByteArray) : (cutB c s).length ≤ s.size + 1 ∧ ∀ x ∈ cutB c s, x.size ≤ s.size := by
  obtain ⟨h1, h2⟩ := cut_size c s.data.toList
  rw [← cutB_data, List.length_map, size_list] at h1
  refine ⟨h1, fun x hx => ?_⟩
  have := h2 x.data.toList (by rw [← cutB_data]; exact List.mem_map.2 ⟨x, hx, rfl⟩)
  rwa [size_list, size_list] at this
theorem cutB_pos (c : UInt8) (s : ByteArray) : 1 ≤ (cutB c s).length := by
  have := cutB_ne c s
  cases h : cutB c s with
  | nil => exact absurd h this
  | cons x r => simp
end
section
open Go.RowKit Go.Lib
/-- The lines of a book's text, but the last. -/
def linesR (a : List Nat) (rl : List (List ByteArray)) : List ByteArray := lineS wStage (a.map dS) :: rl.map (lineS wFigure)
/-- A word: not empty, without a space or a line feed. -/
def WordB (x : ByteArray) : Prop := x ≠ ⟨#[]⟩ ∧ (32 : UInt8) ∉ x.data.toList ∧ (10 : UInt8) ∉ x.data.toList
/-- What a text is the text of. -/
def TextOf (s : ByteArray) (a : List Nat) (rl : List (List ByteArray)) (S : Nat) : Prop := a.length = 6 ∧ (∀ x ∈ a, x < 100) ∧ (∀ rows ∈ rl, rows ≠ [] ∧ ∀ x ∈ rows, WordB x) ∧ sumA (linesR a rl) 0 0 = S ∧ s = textS (linesR a rl) S
theorem lineS_no10 {wd : ByteArray} {ws : List ByteArray} (h : (10 : UInt8) ∉ (lineS wd ws).data.toList) : ∀ x ∈ ws, (10 : UInt8) ∉ x.data.toList := by
  intro x hx h10
  apply h
  simp only [lineS, ByteArray.data_append, Array.toList_append]
  refine List.mem_append_right _ ?_
  show (10 : UInt8) ∈ (join (ws.map (·.data.toList)) [32]).toArray.toList
  simp only [List.toList_toArray]
  clear h
  induction ws with
  | nil => cases hx
  | cons y r ih =>
    rw [List.map_cons, join_cons]
    rcases List.mem_cons.1 hx with rfl | hx
    · exact List.mem_append_left _ h10
    · refine List.mem_append_right _ ?_
      simp only [joinTail]
      refine List.mem_flatten.2 ⟨[32] ++ x.data.toList, ?_, List.mem_append_right _ h10⟩
      exact List.mem_map.2 ⟨x.data.toList, List.mem_map.2 ⟨x, hx, rfl⟩, rfl⟩
theorem contains_no {ws : List ByteArray} (h : containsS ws ⟨#[]⟩ = false) : ∀ x ∈ ws, x ≠ ⟨#[]⟩ := by
  intro x hx e
  rw [e] at hx
  rw [(containsS_iff ws ⟨#[]⟩).2 hx] at h
  cases h
theorem words_of {wd l : ByteArray} (h : WOk wd l) (h10 : (10 : UInt8) ∉ l.data.toList) : (cutW l).drop 1 ≠ [] ∧ ∀ x ∈ (cutW l).drop 1, WordB x := by
  have hl := countB_split 32 l
  have hl2 : (cutW l).length = countB l ⟨#[32]⟩ + 1 := hl
  have h1 := h.1
  refine ⟨fun e => ?_, fun x hx => ⟨contains_no h.2.2 x (List.mem_of_mem_drop hx), cutB_mem 32 l x (List.mem_of_mem_drop hx), ?_⟩⟩
  · have := congrArg List.length e
    rw [List.length_drop, List.length_nil] at this
    omega
  · have e := line_words wd l h
    rw [e] at h10
    exact lineS_no10 h10 x hx
theorem lines_map {Ls : List ByteArray} (h : ∀ l ∈ Ls, WOk wFigure l) : Ls = (Ls.map fun l => (cutW l).drop 1).map (lineS wFigure) := by
  induction Ls with
  | nil => rfl
  | cons l r ih =>
    rw [List.map_cons, List.map_cons, ← ih (fun x hx => h x (by simp [hx])), ← line_words wFigure l (h l (by simp))]
/-- What is the text of nothing is not parsed. -/
theorem parse_none (s : ByteArray) (m : Int) (w : World) (hE : Env m w) (hs : s.size ≤ 400) (hno : ¬ ∃ a rl S, TextOf s a rl S) : Calls Tryz.prog 141 #[.string s] w fun e w' => e = NONEB ∧ Below w.heap.size w w' := by
  cases hend : hasSuffix s.data.toList [10]
  · exact parse_b1 s w (by omega) hend
  have hst := trim_end s hend
  obtain ⟨t, ht⟩ : ∃ t : ByteArray, t = ⟨(trimSuffix s.data.toList [10]).toArray⟩ := ⟨_, rfl⟩
  have htz : t.size ≤ 400 := by
    have h := congrArg ByteArray.size hst
    rw [size_app, ← ht] at h
    omega
  obtain ⟨hc1, hc2⟩ := cutB_size 10 t
  have hmem := cutB_mem 10 t
  have hjn := jn_cutB 10 t
  obtain ⟨N, hN⟩ : ∃ N, N = countB t ⟨#[10]⟩ := ⟨_, rfl⟩
  have hlen : (cutB 10 t).length = N + 1 := by rw [hN]; exact countB_split 10 t
  have hspl : splitB ⟨#[10]⟩ 0 N t = cutB 10 t := by rw [hN]; rfl
  generalize cutB 10 t = ls at *
  have hsz : ∀ l ∈ ls, l.size ≤ 1000 := fun l hl => by have := hc2 l hl; omega
  have htz2 : ByteArray.size ⟨(trimSuffix s.data.toList [10]).toArray⟩ ≤ 1000 := by rw [← ht]; omega
  by_cases hN0 : N = 0
  · exact parse_b2 s ls N m w hE (by omega) hend htz2 (by rw [← ht]; exact hN.symm) (by rw [← ht]; exact hspl) hN0
  obtain ⟨le, hle⟩ : ∃ le, ls[N]? = some le := ⟨_, List.getElem?_eq_getElem (by omega)⟩
  obtain ⟨l0, h0⟩ : ∃ l0, ls[0]? = some l0 := ⟨_, List.getElem?_eq_getElem (by omega)⟩
  have hl0 : l0 ∈ ls := List.mem_of_getElem? h0
  have hsum := sumA_ok (ls.take N) 0 0 (Int.le_refl _) (by rw [List.length_take]; omega) (fun r hr => by have := hc2 r (List.mem_of_mem_take hr); omega) (Int.le_refl _) (by rw [List.length_take]; omega)
  obtain ⟨S, hS⟩ : ∃ S : Nat, sumA (ls.take N) 0 0 = S := ⟨(sumA (ls.take N) 0 0).toNat, (Int.toNat_of_nonneg hsum).symm⟩
  by_cases hbad : (∃ j l, j + 1 < N ∧ ls[1 + j]? = some l ∧ ¬ WOk wFigure l) ∨ le ≠ lineS wEnd [dgt3 (S % 173)]
  · exact parse_rest s ls N m w hE (by omega) hend htz2 (by rw [← ht]; exact hN.symm) (by rw [← ht]; exact hspl) hsz le hle S hS hbad
  by_cases hok : WOk wStage l0
  · by_cases hb : countB l0 ⟨#[32]⟩ ≠ 6 ∨ ∃ s ∈ (cutW l0).drop 1, ∀ a, a < 100 → s ≠ dS a
    · exact parse_b4 s ls N m w hE (by omega) hend htz2 (by rw [← ht]; exact hN.symm) (by rw [← ht]; exact hspl) (by omega) l0 h0 (hsz l0 hl0) hok hb
    · exfalso
      have hall : ∀ x ∈ (cutW l0).drop 1, ∃ a, a < 100 ∧ x = dS a := fun x hx => by
        by_cases h : ∃ a, a < 100 ∧ x = dS a
        · exact h
        · exact absurd (Or.inr ⟨x, hx, fun a ha e => h ⟨a, ha, e⟩⟩) hb
      have hn6 : countB l0 ⟨#[32]⟩ = 6 := by
        rcases Decidable.em (countB l0 ⟨#[32]⟩ = 6) with h | h
        · exact h
        · exact absurd (Or.inl h) hb
      have hl6 : ((cutW l0).drop 1).length = 6 := by
        have := countB_split 32 l0
        rw [List.length_drop]; unfold cutW; omega
      obtain ⟨a, ha1, ha2⟩ : ∃ a : List Nat, (∀ x ∈ a, x < 100) ∧ (cutW l0).drop 1 = a.map dS := by
        clear hl6 hb
        generalize (cutW l0).drop 1 = xs at *
        induction xs with
        | nil => exact ⟨[], fun x hx => (by cases hx), rfl⟩
        | cons x r ih =>
          obtain ⟨a, h1, h2⟩ := ih (fun y hy => hall y (by simp [hy]))
          obtain ⟨b, hb, e⟩ := hall x (by simp)
          exact ⟨b :: a, fun y hy => by rcases List.mem_cons.1 hy with rfl | h; exact hb; exact h1 y h, by rw [e, h2]; rfl⟩
      have hfig : ∀ l ∈ (ls.take N).drop 1, WOk wFigure l := fun l hl => by
        obtain ⟨j, hj⟩ := List.mem_iff_getElem?.1 hl
        rw [List.getElem?_drop] at hj
        have hjN : 1 + j < N := by
          have := (List.getElem?_eq_some_iff.1 hj).1
          rw [List.length_take] at this
          omega
        rw [List.getElem?_take_of_lt hjN] at hj
        by_cases h : WOk wFigure l
        · exact h
        · exact absurd (Or.inl ⟨j, l, by omega, hj, h⟩) hbad
      have hleq : le = lineS wEnd [dgt3 (S % 173)] := by
        rcases Decidable.em (le = lineS wEnd [dgt3 (S % 173)]) with h | h
        · exact h
        · exact absurd (Or.inr h) hbad
      have hcons : ls.take N = l0 :: (ls.take N).drop 1 := by
        have h : (ls.take N)[0]? = some l0 := by rw [List.getElem?_take_of_lt (by omega)]; exact h0
        cases hl : ls.take N with
        | nil => rw [hl] at h; cases h
        | cons x r => rw [hl] at h; cases h; rfl
      obtain ⟨rl, hrl⟩ : ∃ rl, rl = ((ls.take N).drop 1).map fun l => (cutW l).drop 1 := ⟨_, rfl⟩
      have hLR : ls.take N = linesR a rl := by
        rw [hcons]
        unfold linesR
        rw [← ha2, ← line_words wStage l0 hok, hrl, ← lines_map hfig]
      have hls : ls = linesR a rl ++ [lineS wEnd [dgt3 (S % 173)]] := by
        rw [← hLR, ← hleq]
        have e : ls.drop N = [le] := by
          rw [List.drop_eq_getElem_cons (by omega), List.drop_of_length_le (by omega)]
          rw [(List.getElem?_eq_some_iff.1 hle).2]
        rw [← e, List.take_append_drop]
      refine hno ⟨a, rl, S, ?_, ha1, fun rows hr => ?_, by rw [← hLR]; exact hS, ?_⟩
      · have := congrArg List.length ha2
        rw [hl6, List.length_map] at this
        exact this.symm
      · rw [hrl] at hr
        obtain ⟨l, hl, rfl⟩ := List.mem_map.1 hr
        exact words_of (hfig l hl) (hmem l (List.mem_of_mem_take (List.mem_of_mem_drop hl)))
      · rw [textS_jn _ _ (by unfold linesR; simp), ← hls, hjn, ht]
        exact hst
  · exact parse_b3 s ls N m w hE (by omega) hend htz2 (by rw [← ht]; exact hN.symm) (by rw [← ht]; exact hspl) (by omega) l0 h0 (hsz l0 hl0) hok
end
section
open Go.RowKit Go.Lib
theorem join_long (c : UInt8) (k : Nat) : ∀ (M : List (List UInt8)), (∀ x ∈ M, k ≤ x.length) → M.length * (k + 1) ≤ (join M [c]).length + 1
  | [], _ => by simp
  | [x], h => by rw [join_one]; have := h x (by simp); simp; omega
  | x :: y :: r, h => by
    have ih := join_long c k (y :: r) (fun z hz => h z (by simp [hz]))
    have hx := h x (by simp)
    rw [join_cons] at ih ⊢
    simp only [joinTail, List.map_cons, List.flatten_cons, List.length_append, List.length_cons, List.length_nil, Nat.add_mul, Nat.one_mul] at ih ⊢
    omega
theorem lineS_jn1 (wd : ByteArray) (ws : List ByteArray) (h : ws ≠ []) : lineS wd ws = jnS (wd :: ws) ⟨#[32]⟩ := by
  cases ws with
  | nil => exact absurd rfl h
  | cons x r =>
    apply ba_list
    simp only [lineS, ByteArray.data_append, Array.toList_append]
    show wd.data.toList ++ [32] ++ (join ((x :: r).map (·.data.toList)) [32]).toArray.toList = (join ((wd :: x :: r).map (·.data.toList)) [32]).toArray.toList
    rw [List.map_cons, List.map_cons, List.map_cons, join_cons, join_cons]
    simp [joinTail]
/-- A line of words is cut into them again. -/
theorem lineOk_words (wd : ByteArray) (ws : List ByteArray) (hne : ws ≠ []) (hwd : wd ≠ ⟨#[]⟩ ∧ (32 : UInt8) ∉ wd.data.toList) (hws : ∀ x ∈ ws, x ≠ ⟨#[]⟩ ∧ (32 : UInt8) ∉ x.data.toList) (hsz : (lineS wd ws).size ≤ 400) : LineOk wd ws := by
  have e := lineS_jn1 wd ws hne
  have h1 := countB_join 32 wd ws hwd.2 (fun y hy => (hws y hy).2)
  have h2 := splitB_join 32 wd ws hwd.2 (fun y hy => (hws y hy).2)
  rw [← e] at h1 h2
  have h3 := countB_le ⟨#[32]⟩ (Nat.le_refl 1) _ (lineS wd ws) (Nat.le_refl _)
  rw [h1] at h2 h3
  refine ⟨by omega, ?_, by omega, h1, h2, ?_⟩
  · cases ws with
    | nil => exact absurd rfl hne
    | cons x r => simp
  · cases hc : containsS (wd :: ws) ⟨#[]⟩
    · rfl
    · rcases List.mem_cons.1 ((containsS_iff _ _).1 hc) with h | h
      · exact absurd h.symm hwd.1
      · exact absurd rfl (hws _ h).1
theorem lineS_no {wd : ByteArray} {ws : List ByteArray} (hwd : (10 : UInt8) ∉ wd.data.toList) (hws : ∀ x ∈ ws, (10 : UInt8) ∉ x.data.toList) : (10 : UInt8) ∉ (lineS wd ws).data.toList := by
  intro h
  simp only [lineS, ByteArray.data_append, Array.toList_append] at h
  rcases List.mem_append.1 h with h | h
  · rcases List.mem_append.1 h with h | h
    · exact hwd h
    · revert h; decide
  · have h2 : (10 : UInt8) ∈ (join (ws.map (·.data.toList)) [32]).toArray.toList := h
    simp only [List.toList_toArray] at h2
    clear h
    cases ws with
    | nil => simp [join_nil] at h2
    | cons y r =>
      rw [List.map_cons, join_cons] at h2
      rcases List.mem_append.1 h2 with h2 | h2
      · exact hws y (by simp) h2
      · simp only [joinTail] at h2
        obtain ⟨l, hl, hm⟩ := List.mem_flatten.1 h2
        obtain ⟨l2, hl2, rfl⟩ := List.mem_map.1 hl
        obtain ⟨x, hx, rfl⟩ := List.mem_map.1 hl2
        rcases List.mem_append.1 hm with hm | hm
        · revert hm; decide
        · exact hws x (by simp [hx]) hm
theorem lineS_min (wd : ByteArray) (ws : List ByteArray) : wd.size + 1 ≤ (lineS wd ws).size := by
  unfold lineS
  rw [size_app, size_app, show ByteArray.size ⟨#[32]⟩ = 1 from rfl]
  omega
theorem dS_word (a : Nat) (h : a < 100) : WordB (dS a) := by
  refine ⟨fun e => ?_, fun h32 => ?_, fun h10 => ?_⟩
  · have := dS_len a h
    rw [e] at this
    revert this; decide
  · obtain ⟨q, hq⟩ := List.mem_iff_getElem?.1 h32
    have := dS_digit a h q _ hq
    revert this; decide
  · obtain ⟨q, hq⟩ := List.mem_iff_getElem?.1 h10
    have := dS_digit a h q _ hq
    revert this; decide
end
section
open Go.RowKit Go.Lib
set_option maxRecDepth 100000 in
set_option maxHeartbeats 1600000 in
theorem Read_long (s : ByteArray) (w : World) (hs : 400 < s.size) : Calls Tryz.prog 85 #[.string s] w fun e w' => e = .returned (.tuple #[.agg #[.int .i64 0, .int .i64 0, .int .i64 0, .int .i64 0, .int .i64 0, .int .i64 0, .slice none 0 0], .int .i64 3]) ∧ Below w.heap.size w w' := by
  have hsz : (400 : Int) < s.size := by omega
  have hB1 : Below w.heap.size w (w.alloc (.cells #[.int .i64 0, .int .i64 0, .int .i64 0, .int .i64 0, .int .i64 0, .int .i64 0, .slice none 0 0] 121)) := (Below.refl _ w).alloc (Nat.le_refl _) _
  have gT : Blk (w.alloc (.cells #[.int .i64 0, .int .i64 0, .int .i64 0, .int .i64 0, .int .i64 0, .int .i64 0, .slice none 0 0] 121)) w.heap.size 121 #[.int .i64 0, .int .i64 0, .int .i64 0, .int .i64 0, .int .i64 0, .int .i64 0, .slice none 0 0] := Blk.new _ _ _
  go_enter Tryz.func85, Tryz.ntmps85
  go_upto_region 2 with (fail)
  have hqT := fun i => gT.cell i; have hfT := fun i => gT.frozen i; have hlT := gT.lt
  go_wp2
  refine bodyPost_ret (v := .tuple #[.agg #[.int .i64 0, .int .i64 0, .int .i64 0, .int .i64 0, .int .i64 0, .int .i64 0, .slice none 0 0], .int .i64 3]) ?_ rfl ⟨rfl, hB1⟩
  simp [results, Tryz.results85, go_sem, hqT]
set_option maxRecDepth 100000 in
set_option maxHeartbeats 1600000 in
theorem Read_unfit (a0 a1 a2 a3 a4 a5 : Nat) (s : ByteArray) (rl : List (List ByteArray)) (K : Nat) (m : Int) (w : World) (hE : Env m w) (hs : s.size ≤ 400) (hrl : ∀ rows ∈ rl, ∀ r ∈ rows, r.size ≤ maxLen) (hKm : K ≤ maxLen)
    (hparse : ∀ wx, Env m wx → Calls Tryz.prog 141 #[.string s] wx fun e w' => ∃ v vs, e = .returned (.tuple #[.agg #[.int .i64 a0, .int .i64 a1, .int .i64 a2, .int .i64 a3, .int .i64 a4, .int .i64 a5, v], .int .i64 0]) ∧ w'.ownsRow wx.heap.size 26 1 v K vs ∧ Cloths w' wx.heap.size vs rl ∧ Below wx.heap.size wx w')
    (hgood : ∀ gs : List Fig, gs.map Fig.rows = rl → (stageB a0 a1 a2 a3 a4 a5 && compB gs) = false) :
    Calls Tryz.prog 85 #[.string s] w fun e w' => e = .returned (.tuple #[.agg #[.int .i64 0, .int .i64 0, .int .i64 0, .int .i64 0, .int .i64 0, .int .i64 0, .slice none 0 0], .int .i64 2]) ∧ Below w.heap.size w w' := by
  have hsz : ¬ (400 : Int) < s.size := by omega
  have hB1 : Below w.heap.size w (w.alloc (.cells #[.int .i64 0, .int .i64 0, .int .i64 0, .int .i64 0, .int .i64 0, .int .i64 0, .slice none 0 0] 121)) := (Below.refl _ w).alloc (Nat.le_refl _) _
  have gT : Blk (w.alloc (.cells #[.int .i64 0, .int .i64 0, .int .i64 0, .int .i64 0, .int .i64 0, .int .i64 0, .slice none 0 0] 121)) w.heap.size 121 #[.int .i64 0, .int .i64 0, .int .i64 0, .int .i64 0, .int .i64 0, .int .i64 0, .slice none 0 0] := Blk.new _ _ _
  have hE1 := hE.below hB1
  have hp := hparse _ hE1
  rw [World.size_alloc] at hp
  clear hparse
  go_enter Tryz.func85, Tryz.ntmps85
  go_upto_region 7 with (first
    | (go_at_call 141; refine hp.mono ?_; rintro e w1 ⟨v, vs, rfl, hown, hcl, hb⟩; (have hb0 : Below (w.alloc (.cells #[.int .i64 0, .int .i64 0, .int .i64 0, .int .i64 0, .int .i64 0, .int .i64 0, .slice none 0 0] 121)).heap.size (w.alloc (.cells #[.int .i64 0, .int .i64 0, .int .i64 0, .int .i64 0, .int .i64 0, .int .i64 0, .slice none 0 0] 121)) w1 := by rw [World.size_alloc]; exact hb); obtain ⟨A, c, rfl⟩ := own_slice hown; replace gT := gT.below hb0 gT.lt; replace hB1 := hB1.trans (hb0.mono hB1.size); clear hb hb0; have gK := Blk.new w1 121 #[.int .i64 a0, .int .i64 a1, .int .i64 a2, .int .i64 a3, .int .i64 a4, .int .i64 a5, .slice A K c]; replace gT := gT.alloc (.cells #[.int .i64 a0, .int .i64 a1, .int .i64 a2, .int .i64 a3, .int .i64 a4, .int .i64 a5, .slice A K c] 121); replace hown := hown.alloc (.cells #[.int .i64 a0, .int .i64 a1, .int .i64 a2, .int .i64 a3, .int .i64 a4, .int .i64 a5, .slice A K c] 121); replace hcl := hcl.alloc (.cells #[.int .i64 a0, .int .i64 a1, .int .i64 a2, .int .i64 a3, .int .i64 a4, .int .i64 a5, .slice A K c] 121); replace hB1 := hB1.alloc hB1.size (.cells #[.int .i64 a0, .int .i64 a1, .int .i64 a2, .int .i64 a3, .int .i64 a4, .int .i64 a5, .slice A K c] 121); obtain ⟨gs, e1, e2, e3⟩ := figs_of hcl hrl; have hgd := hgood gs e2; have hrg := Rd.of_own hown; rw [← e1] at hrg; clear e1 e2)
    | (go_at_call 139; refine (goodBook_any a0 a1 a2 a3 a4 a5 A K c gs _ hKm e3 hrg).mono ?_; rintro e w2 ⟨rfl, hb2⟩; rw [hgd]; replace gT := gT.below hb2 gT.lt; replace gK := gK.below hb2 gK.lt; replace hown := ownsRow_below' hown hb2; replace hcl := hcl.below hb2; replace hB1 := hB1.trans (hb2.mono hB1.size); clear hb2 e3 hrg gs hgd))
  have hqT := fun i => gT.cell i; have hfT := fun i => gT.frozen i; have hlT := gT.lt
  clear hown hcl gK
  go_wp2
  clear hqT hfT hlT
  replace gT := gT.set_ 0 (.int .i64 0); replace hB1 := hB1.setCell (p := ⟨w.heap.size, 0, none⟩) (Nat.le_refl w.heap.size) (.int .i64 0)
  replace gT := gT.set_ 1 (.int .i64 0); replace hB1 := hB1.setCell (p := ⟨w.heap.size, 1, none⟩) (Nat.le_refl w.heap.size) (.int .i64 0)
  replace gT := gT.set_ 2 (.int .i64 0); replace hB1 := hB1.setCell (p := ⟨w.heap.size, 2, none⟩) (Nat.le_refl w.heap.size) (.int .i64 0)
  replace gT := gT.set_ 3 (.int .i64 0); replace hB1 := hB1.setCell (p := ⟨w.heap.size, 3, none⟩) (Nat.le_refl w.heap.size) (.int .i64 0)
  replace gT := gT.set_ 4 (.int .i64 0); replace hB1 := hB1.setCell (p := ⟨w.heap.size, 4, none⟩) (Nat.le_refl w.heap.size) (.int .i64 0)
  replace gT := gT.set_ 5 (.int .i64 0); replace hB1 := hB1.setCell (p := ⟨w.heap.size, 5, none⟩) (Nat.le_refl w.heap.size) (.int .i64 0)
  replace gT := gT.set_ 6 (.slice none 0 0); replace hB1 := hB1.setCell (p := ⟨w.heap.size, 6, none⟩) (Nat.le_refl w.heap.size) (.slice none 0 0)
  replace gT : Blk (((((((w2.setCell ⟨w.heap.size, 0, none⟩ (.int .i64 0)).setCell ⟨w.heap.size, 1, none⟩ (.int .i64 0)).setCell ⟨w.heap.size, 2, none⟩ (.int .i64 0)).setCell ⟨w.heap.size, 3, none⟩ (.int .i64 0)).setCell ⟨w.heap.size, 4, none⟩ (.int .i64 0)).setCell ⟨w.heap.size, 5, none⟩ (.int .i64 0)).setCell ⟨w.heap.size, 6, none⟩ (.slice none 0 0)) w.heap.size 121 #[.int .i64 0, .int .i64 0, .int .i64 0, .int .i64 0, .int .i64 0, .int .i64 0, .slice none 0 0] := gT
  generalize (((((((w2.setCell ⟨w.heap.size, 0, none⟩ (.int .i64 0)).setCell ⟨w.heap.size, 1, none⟩ (.int .i64 0)).setCell ⟨w.heap.size, 2, none⟩ (.int .i64 0)).setCell ⟨w.heap.size, 3, none⟩ (.int .i64 0)).setCell ⟨w.heap.size, 4, none⟩ (.int .i64 0)).setCell ⟨w.heap.size, 5, none⟩ (.int .i64 0)).setCell ⟨w.heap.size, 6, none⟩ (.slice none 0 0)) = w9 at *
  have hq9 := fun i => gT.cell i
  refine bodyPost_ret (v := .tuple #[.agg #[.int .i64 0, .int .i64 0, .int .i64 0, .int .i64 0, .int .i64 0, .int .i64 0, .slice none 0 0], .int .i64 2]) ?_ rfl ⟨rfl, hB1⟩
  simp [results, Tryz.results85, go_sem, hq9]
end
end Go.Proofs.YtifddfchpknkbaaGreatDoor
