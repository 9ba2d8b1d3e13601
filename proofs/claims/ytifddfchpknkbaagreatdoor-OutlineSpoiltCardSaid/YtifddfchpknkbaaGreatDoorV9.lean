import Derived.Test.YtifddfchpknkbaaGreatDoorV7
import Derived.Test.YtifddfchpknkbaaGreatDoorV8
import Derived.Test.YtifddfchpknkbaaGreatDoorCo
import Derived.Test.YtifddfchpknkbaaGreatDoorHe
import Derived.Test.YtifddfchpknkbaaGreatDoorKn
set_option linter.unusedVariables false
set_option linter.unusedSimpArgs false
namespace Go.Proofs.YtifddfchpknkbaaGreatDoor
open Go.RowKit Go.Lib

/-- The figures of a book that was read, as they lie in memory. -/
theorem figs_of {w : World} {base : Nat} : ∀ {vs : List Value} {rl : List (List ByteArray)}, Cloths w base vs rl → (∀ rows ∈ rl, ∀ r ∈ rows, r.size ≤ maxLen) → ∃ gs : List Fig, gs.map Fig.val = vs ∧ gs.map Fig.rows = rl ∧ ∀ f ∈ gs, f.ok w w.heap.size
  | [], [], _, _ => ⟨[], rfl, rfl, fun f h => by cases h⟩
  | [], _ :: _, h, _ => by have := h.1; simp at this
  | _ :: _, [], h, _ => by have := h.1; simp at this
  | v :: vs, c :: rl, h, hs => by
    have h0 : w.ownsRow base 9 1 v c.length (c.map Value.string) := h.2 0 (by simp) (by simp)
    have ht : Cloths w base vs rl := ⟨by have := h.1; simpa using this, fun i h1 h2 => h.2 (i + 1) (by simpa using h1) (by simpa using h2)⟩
    obtain ⟨gs, e1, e2, e3⟩ := figs_of ht (fun rows hr => hs rows (by simp [hr]))
    obtain ⟨A, cap, rfl⟩ := own_slice h0
    refine ⟨⟨A, c.length, cap, c⟩ :: gs, by rw [List.map_cons, e1]; rfl, by rw [List.map_cons, e2], fun f hf => ?_⟩
    rcases List.mem_cons.1 hf with rfl | hf
    · exact ⟨own_le0 h0, own_cap h0, hs c (by simp), Rd.of_own h0⟩
    · exact e3 f hf
set_option maxRecDepth 100000 in
set_option maxHeartbeats 1600000 in
theorem SameBooks_eq (W H F L X Y : Int) (A A2 : Option Addr) (n cap cap2 : Nat) (fs gs : List Fig) (w : World) (hn : n ≤ 1000) (hf : ∀ f ∈ fs, f.ok w w.heap.size ∧ f.n ≤ 100000) (hg : ∀ f ∈ gs, f.ok w w.heap.size) (hrw : gs.map Fig.rows = fs.map Fig.rows) (hr : Rd w w.heap.size 1 A n (fs.map Fig.val)) (hr2 : Rd w w.heap.size 1 A2 n (gs.map Fig.val)) :
    Calls Tryz.prog 87 #[.agg #[.int .i64 W, .int .i64 H, .int .i64 F, .int .i64 L, .int .i64 X, .int .i64 Y, .slice A n cap], .agg #[.int .i64 W, .int .i64 H, .int .i64 F, .int .i64 L, .int .i64 X, .int .i64 Y, .slice A2 n cap2]] w fun e w' => e = .returned (.bool true) ∧ Below w.heap.size w w' := by
  have e0 : ∀ z : Int, (z != z) = false := fun z => by simp
  have e1 := e0 W; have e2 := e0 H; have e3 := e0 F; have e4 := e0 L; have e5 := e0 X; have e6 := e0 Y; have e7 := e0 (n : Int)
  have hlen := hr.len; have hlen2 := hr2.len
  have HL := Lib.hid hlen; have HL2 := Lib.hid hlen2; have HRW := Lib.hid hrw
  clear e0 hlen hlen2 hrw
  have hS := blk2_0 w (.cells #[.int .i64 W, .int .i64 H, .int .i64 F, .int .i64 L, .int .i64 X, .int .i64 Y, .slice A2 n cap2] 121) 121 #[.int .i64 W, .int .i64 H, .int .i64 F, .int .i64 L, .int .i64 X, .int .i64 Y, .slice A n cap]
  have hQ := blk2_1 w (.cells #[.int .i64 W, .int .i64 H, .int .i64 F, .int .i64 L, .int .i64 X, .int .i64 Y, .slice A n cap] 121) 121 #[.int .i64 W, .int .i64 H, .int .i64 F, .int .i64 L, .int .i64 X, .int .i64 Y, .slice A2 n cap2]
  have hB := pro_2 w (.cells #[.int .i64 W, .int .i64 H, .int .i64 F, .int .i64 L, .int .i64 X, .int .i64 Y, .slice A n cap] 121) (.cells #[.int .i64 W, .int .i64 H, .int .i64 F, .int .i64 L, .int .i64 X, .int .i64 Y, .slice A2 n cap2] 121)
  go_enter Tryz.func87, Tryz.ntmps87
  go_upto_region 1 with (fail)
  generalize (w.alloc (.cells #[.int .i64 W, .int .i64 H, .int .i64 F, .int .i64 L, .int .i64 X, .int .i64 Y, .slice A n cap] 121)).alloc (.cells #[.int .i64 W, .int .i64 H, .int .i64 F, .int .i64 L, .int .i64 X, .int .i64 Y, .slice A2 n cap2] 121) = W0 at *
  have qhS := fun i => Blk.cell hS i
  have qhQ := fun i => Blk.cell hQ i
  go_wp2_with (fail)
  clear qhS qhQ
  go_loopg [5] n (fun g i wr => ∃ k : Nat, g = n - k ∧ k ≤ n ∧ i = .int .i64 k ∧ Blk wr w.heap.size 121 #[.int .i64 W, .int .i64 H, .int .i64 F, .int .i64 L, .int .i64 X, .int .i64 Y, .slice A n cap] ∧ Blk wr (w.heap.size + 1) 121 #[.int .i64 W, .int .i64 H, .int .i64 F, .int .i64 L, .int .i64 X, .int .i64 Y, .slice A2 n cap2] ∧ Below w.heap.size w wr)
  case atStart => exact ⟨0, rfl, Nat.zero_le _, rfl, hS, hQ, hB⟩
  case round =>
    clear hS hQ hB
    obtain ⟨k, hg0, hk, rfl, hS, hQ, hB⟩ := hrel
    have HG := Lib.hid hg0; clear hg0
    rename World => W1
    have qhS := fun i => Blk.cell hS i
    have qhQ := fun i => Blk.cell hQ i
    by_cases hlt : k < n
    · have hlti : (k : Int) < n := by omega
      have hz1 : k < fs.length := by have := HL.out; omega
      have hz2 : k < gs.length := by have := HL2.out; omega
      obtain ⟨b1, o1, rfl, hb1, hc1⟩ := (rdB hr hB).2 (by omega)
      obtain ⟨b2, o2, rfl, hb2, hc2⟩ := (rdB hr2 hB).2 (by omega)
      have c1 : W1.cell? ⟨b1, o1 + k, none⟩ = some (Fig.val fs[k]) := hc1 k (Fig.val fs[k]) (by simp [hz1])
      have c2 : W1.cell? ⟨b2, o2 + k, none⟩ = some (Fig.val gs[k]) := hc2 k (Fig.val gs[k]) (by simp [hz2])
      have hrr : gs[k].rows = fs[k].rows := by
        have h1 : (gs.map Fig.rows)[k]? = (fs.map Fig.rows)[k]? := by rw [HRW.out]
        rw [List.getElem?_map, List.getElem?_map, List.getElem?_eq_getElem hz1, List.getElem?_eq_getElem hz2] at h1
        simpa using h1
      obtain ⟨hf1, hfn⟩ := hf _ (List.getElem_mem hz1)
      have hg1 := hg _ (List.getElem_mem hz2)
      generalize fs[k] = f1 at *
      generalize gs[k] = f2 at *
      obtain ⟨A1, n1, cp1, rows⟩ := f1
      obtain ⟨A3, n3, cp3, rows3⟩ := f2
      dsimp only at hrr hfn
      subst hrr
      simp only [Fig.val] at c1 c2
      obtain ⟨_, _, _, hr3⟩ := hf1
      obtain ⟨_, _, _, hr4⟩ := hg1
      dsimp only at hr3 hr4
      have hkk := fun p : Blw W1.heap.size W1 => sameCloths_eq A1 A3 n1 cp1 n3 cp3 rows3 p.to hfn (rdB hr3 (hB.trans (p.h.mono hB.size))) (rdB hr4 (hB.trans (p.h.mono hB.size)))
      have hbS := fun p i => blw_blk hS p i
      have hbQ := fun p i => blw_blk hQ p i
      have q1 := fun p : Blw W1.heap.size W1 => blw_cell (a := ⟨b1, o1 + k, none⟩) hb1 c1 p
      have q2 := fun p : Blw W1.heap.size W1 => blw_cell (a := ⟨b2, o2 + k, none⟩) hb2 c2 p
      clear hc1 hc2 hr3 hr4
      go_upto_region 6 with (fail)
      refine wp_region_blw (by kernel_rfl) (by kernel_rfl) ?_
      repeat (go_big_quiet_step (first | (go_at_call 33; exact Calls.blw_of _ (hkk _))))
      refine wpQuiet_nil ?_
      rintro W3 ⟨⟨_, hb⟩, rfl⟩
      clear qhS qhQ hbS hbQ q1 q2 hkk
      go_wp2_with (fail)
      go_roundg (n - (k + 1))
      case measure => rw [HG.out]; omega
      case rel => exact ⟨k + 1, rfl, by omega, by go_num, hS.below hb hS.lt, hQ.below hb hQ.lt, hB.trans (hb.mono hB.size)⟩
    · obtain rfl : k = n := by omega
      have hge : ¬ (k : Int) < k := by omega
      go_wp2_with (fail)
      go_ret
      exact ⟨rfl, hB⟩
end Go.Proofs.YtifddfchpknkbaaGreatDoor
