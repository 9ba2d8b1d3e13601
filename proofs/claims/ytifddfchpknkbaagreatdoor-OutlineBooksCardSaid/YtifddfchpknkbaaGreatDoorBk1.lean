import Derived.Test.YtifddfchpknkbaaGreatDoorProg
import Derived.Test.YtifddfchpknkbaaGreatDoorShelf
import Derived.Test.YtifddfchpknkbaaGreatDoorBk0
import Derived.Deep.RegionHeld3
import Derived.OneCell
import Derived.Laws.BytesArg
import Derived.Laws.RangeAny
import Derived.Laws.Runes
import Derived.LoopTactic
import Derived.WalkMore
set_option linter.unusedVariables false
set_option linter.unusedSimpArgs false
namespace Go.Proofs.YtifddfchpknkbaaGreatDoor
section
open Go.RowKit
/-- The tone of the cell in the column k and the row m. -/
def cellS (F L X Y N PX PY : Int) (rows : List ByteArray) (wd n k m : Nat) : Int :=
  toneS rows (firstS X F N PX (lowV F N L k) wd) (endS X F N PX (lowV F N L k) (highV F N L k) wd) (insideS X F N PX (lowV F N L k) (highV F N L k) wd)
    (firstS Y F N PY (lowV F N L m) n) (endS Y F N PY (lowV F N L m) (highV F N L m) n) (insideS Y F N PY (lowV F N L m) (highV F N L m) n)
/-- The shadow, row by row in one list. -/
def shadL (W H : Nat) (F L X Y N PX PY : Int) (rows : List ByteArray) (wd n q : Nat) : List Int := (List.range q).map fun c => cellS F L X Y N PX PY rows wd n (c % W) (c / W)
theorem shadL_succ (W H : Nat) (F L X Y N PX PY : Int) (rows : List ByteArray) (wd n q : Nat) : shadL W H F L X Y N PX PY rows wd n (q + 1) = shadL W H F L X Y N PX PY rows wd n q ++ [cellS F L X Y N PX PY rows wd n (q % W) (q / W)] := by
  simp [shadL, List.range_succ]
theorem stripRow_len (ax F N L P : Int) (sz : Nat) : ∀ m : Nat, (stripRow ax F N L P sz m).length = m * 3
  | 0 => rfl
  | m + 1 => by rw [stripRow_succ, List.length_append, stripRow_len ax F N L P sz m]; simp [stripC]; omega
theorem own_slice {w : World} {base : Nat} {e : TypeId} {size : Nat} {v : Value} {n : Nat} {xs : List Value} (h : w.ownsRow base e size v n xs) : ∃ a c, v = .slice a n c := by
  rcases h.2 with ⟨h', rfl⟩ | ⟨g0, c0, cu, h', _⟩ <;> exact ⟨_, _, h'⟩
theorem stripRow_at (ax F N L P : Int) (sz : Nat) : ∀ (m k j : Nat), k < m → j < 3 → (stripRow ax F N L P sz m)[k * 3 + j]? = (stripC ax F N L P sz k)[j]?
  | 0, k, j, hk, _ => by omega
  | m + 1, k, j, hk, hj => by
    have hl := stripRow_len ax F N L P sz m
    rw [stripRow_succ]
    by_cases h : k < m
    · rw [List.getElem?_append_left (by omega)]; exact stripRow_at ax F N L P sz m k j h hj
    · obtain rfl : k = m := by omega
      rw [List.getElem?_append_right (by omega), hl]; congr 1; omega
theorem own_ne {w : World} {b b' : Nat} {e e' : TypeId} {s s' : Nat} {v v' : Value} {n n' : Nat} {xs xs' : List Value} (h : w.ownsRow b e s v n xs) (h' : w.ownsRow b' e' s' v' n' xs') (hne : e ≠ e') : v.ownBlock = none ∨ v.ownBlock ≠ v'.ownBlock := by
  rcases h.2 with ⟨rfl, _⟩ | ⟨g, cap, cur, rfl, _, hh, _⟩
  · exact .inl rfl
  · rcases h'.2 with ⟨rfl, _⟩ | ⟨g', cap', cur', rfl, _, hh', _⟩
    · exact .inr (by simp [Value.ownBlock])
    · refine .inr (fun e0 => ?_)
      have : g = g' := by simpa [Value.ownBlock] using e0
      subst this
      rw [hh] at hh'
      injection hh' with hh'
      injection hh' with _ ht
      exact hne ht
theorem strip_cells {w : World} {base g m c k : Nat} {ax F N L P : Int} {sz : Nat} (h : w.ownsRow base 191 3 (.slice (some ⟨g, 0, none⟩) m c) m (stripRow ax F N L P sz m)) (hk : k < m) :
    w.cell? ⟨g, k * 3, none⟩ = some (.int .i64 (firstS ax F N P (lowV F N L k) sz)) ∧ w.cell? ⟨g, k * 3 + 1, none⟩ = some (.int .i64 (endS ax F N P (lowV F N L k) (highV F N L k) sz)) ∧ w.cell? ⟨g, k * 3 + 2, none⟩ = some (.bool (insideS ax F N P (lowV F N L k) (highV F N L k) sz)) :=
  ⟨(h.cellAt (k * 3 + 0) (by omega)).trans (stripRow_at ax F N L P sz m k 0 hk (by omega)), (h.cellAt (k * 3 + 1) (by omega)).trans (stripRow_at ax F N L P sz m k 1 hk (by omega)), (h.cellAt (k * 3 + 2) (by omega)).trans (stripRow_at ax F N L P sz m k 2 hk (by omega))⟩
theorem info5 : (Tryz.prog.info? 5).map (fun i => (i.zero, i.size, i.bytes)) = some (some (.int .u8 0), 1, 1) := by kernel_rfl
theorem firstS_le (ax F N P lo : Int) (sz : Nat) : firstS ax F N P lo sz ≤ sz := by have := scanN_le (fun t => decide (lineV ax F N (P + (t + 1)) ≤ lo)) sz 0; unfold firstS; omega
theorem endS_le (ax F N P lo hi : Int) (sz : Nat) : firstS ax F N P lo sz ≤ endS ax F N P lo hi sz ∧ endS ax F N P lo hi sz ≤ sz := by
  have h1 := firstS_le ax F N P lo sz
  have := scanN_le (fun t => decide (lineV ax F N (P + t) < hi)) (sz - firstS ax F N P lo sz) (firstS ax F N P lo sz)
  unfold endS; omega
set_option maxRecDepth 100000 in
set_option maxHeartbeats 1600000 in
theorem shadow_any (W H : Nat) (F L X Y N PX PY : Int) (A : Option Addr) (n cap : Nat) (rows : List ByteArray) (wd : Nat) (w : World) (hr : Rd w w.heap.size 1 A n (rows.map Value.string)) (hn : 0 < n) (hn2 : n ≤ 50) (hcap : n ≤ cap) (hcm : cap ≤ maxLen) (hw : ∀ r ∈ rows, r.size = wd) (hwd : wd ≤ 50)
    (w1 : W ≤ 50) (w2 : H ≤ 50) (w3 : 1 ≤ W) (w4 : 1 ≤ H) (x1 : 0 ≤ X) (x2 : X ≤ 100) (y1 : 0 ≤ Y) (y2 : Y ≤ 100) (h1 : 0 ≤ F) (h2 : F ≤ 100) (h3 : 0 ≤ N) (h4 : N ≤ 100) (h5 : 0 ≤ L) (h6 : L ≤ 100) (p1 : -50 ≤ PX) (p2 : PX ≤ 50) (p3 : -50 ≤ PY) (p4 : PY ≤ 50) :
    Calls Tryz.prog 102 #[.agg #[.int .i64 W, .int .i64 H, .int .i64 F, .int .i64 L, .int .i64 X, .int .i64 Y, .slice A n cap, .int .i64 N, .int .i64 PX, .int .i64 PY]] w fun e w' => e = .returned (.string (strOfNums (shadL W H F L X Y N PX PY rows wd n (W * H)))) ∧ Below w.heap.size w w' := by
  obtain ⟨i0, hi, hz0, hz1', hz2'⟩ := info_parts info5
  obtain ⟨q1, q2⟩ := mulB (x := (W : Int)) (y := (H : Int)) (a := 50) (b := 50) (by omega) (by omega) (by omega) (by omega)
  have hWH : ((W * H : Nat) : Int) = (W : Int) * H := Int.natCast_mul W H
  have hWHle : W * H ≤ 2500 := Nat.mul_le_mul w1 w2
  have HWH := Lib.hid hWH; clear hWH
  go_enter Tryz.func102, Tryz.ntmps102
  go_wp2_with (go_at_call 147; refine (strips_any W H F L X Y N PX PY A n cap rows wd _ (by exact (hr.alloc (Nat.le_refl _) _).more (by simp)) hn hn2 hw hwd w1 w2 x1 x2 y1 y2 h1 h2 h3 h4 h5 h6 p1 p2 p3 p4).mono ?_; rintro e ws ⟨v0, v1, rfl, ho0, ho1, hbs⟩; obtain ⟨a0, c0, rfl⟩ := own_slice ho0; obtain ⟨a1, c1, rfl⟩ := own_slice ho1; have hbv := (Blk.new w 140 #[.int .i64 W, .int .i64 H, .int .i64 F, .int .i64 L, .int .i64 X, .int .i64 Y, .slice A n cap, .int .i64 N, .int .i64 PX, .int .i64 PY]).below hbs (by simp); have hcv := fun i => hbv.cell i; have hlv := hbv.lt)
  have hB : Below w.heap.size w (ws.alloc (.cells #[.slice a0 W c0, .slice a1 H c1] 187)) := (((Below.refl _ w).alloc (Nat.le_refl _) _).trans (hbs.mono (by simp))).alloc (by omega) _
  rw [World.size_alloc] at ho0 ho1
  have hbt := Blk.new ws 187 #[.slice a0 W c0, .slice a1 H c1]
  replace ho0 := ho0.alloc (.cells #[.slice a0 W c0, .slice a1 H c1] 187)
  replace ho1 := ho1.alloc (.cells #[.slice a0 W c0, .slice a1 H c1] 187)
  replace hbv := hbv.alloc (.cells #[.slice a0 W c0, .slice a1 H c1] 187)
  clear hcv
  generalize hWS : ws.alloc (.cells #[.slice a0 W c0, .slice a1 H c1] 187) = w5 at *
  have hgt : w.heap.size < ws.heap.size := hlv
  generalize hgs : ws.heap.size = gs at *
  clear hWS hgs hbs hlv
  go_loopg [4, 15] (W * H) (fun g v i wr => ∃ k : Nat, g = W * H - k ∧ k ≤ W * H ∧ i = .int .i64 k ∧ wr.ownsRow gs 5 1 v k ((shadL W H F L X Y N PX PY rows wd n k).map (Value.int .u8)) ∧
    wr.ownsRow (w.heap.size + 1) 191 3 (.slice a0 W c0) W (stripRow X F N L PX wd W) ∧ wr.ownsRow (w.heap.size + 1) 191 3 (.slice a1 H c1) H (stripRow Y F N L PY n H) ∧
    Blk wr w.heap.size 140 #[.int .i64 W, .int .i64 H, .int .i64 F, .int .i64 L, .int .i64 X, .int .i64 Y, .slice A n cap, .int .i64 N, .int .i64 PX, .int .i64 PY] ∧ Blk wr gs 187 #[.slice a0 W c0, .slice a1 H c1] ∧ Below w.heap.size w wr)
  case atStart => exact ⟨0, rfl, Nat.zero_le _, rfl, World.ownsRow_nil _ _ _ _, ho0, ho1, hbv, hbt, hB⟩
  case round =>
    clear hB hbv hbt ho0 ho1
    obtain ⟨k, hg, hk, rfl, hown, ho0, ho1, hbv, hbt, hB⟩ := hrel
    have HG := Lib.hid hg; clear hg
    have hWi : ((W : Int) * H) = ((W * H : Nat) : Int) := HWH.out.symm
    by_cases hlt : k < W * H
    · have htst : (k : Int) < (W : Int) * H := by have := HWH.out; omega
      have hkW : k % W < W := Nat.mod_lt _ (by omega)
      have hkH : k / W < H := by rw [Nat.div_lt_iff_lt_mul (by omega), Nat.mul_comm]; exact hlt
      obtain ⟨kc, hkc⟩ : ∃ kc, kc = k % W := ⟨_, rfl⟩
      obtain ⟨km, hkm⟩ : ∃ km, km = k / W := ⟨_, rfl⟩
      rw [← hkc] at hkW
      rw [← hkm] at hkH
      have em : (k : Int).tmod W = (kc : Int) := by rw [hkc]; rfl
      have ed : (k : Int).tdiv W = (km : Int) := by rw [hkm]; rfl
      have ed2 := i64_ok (km : Int) (by omega)
      have hW0 : ¬ W = 0 := by omega
      have hkWi : (kc : Int) < (W : Int) := by omega
      have hkHi : (km : Int) < (H : Int) := by omega
      have HKC := Lib.hid hkc; have HKM := Lib.hid hkm; clear hkc hkm
      obtain ⟨g0, cp0, hv0, hg01, hg02⟩ := ho0.form (by omega)
      obtain ⟨g1, cp1, hv1, hg11, hg12⟩ := ho1.form (by omega)
      injection hv0 with hv01 hv02 hv03
      injection hv1 with hv11 hv12 hv13
      subst hv01 hv11
      clear hv02 hv03 hv12 hv13
      have hcv := fun i => hbv.cell i
      have hct := fun i => hbt.cell i
      clear hWi
      go_wp2_with (fail)
      refine wp_region_G (fun w' => Blk w' w.heap.size 140 #[.int .i64 W, .int .i64 H, .int .i64 F, .int .i64 L, .int .i64 X, .int .i64 Y, .slice A n cap, .int .i64 N, .int .i64 PX, .int .i64 PY] ∧ Blk w' gs 187 #[.slice (some ⟨g0, 0, none⟩) W c0, .slice (some ⟨g1, 0, none⟩) H c1] ∧ w'.ownsRow (w.heap.size + 1) 191 3 (.slice (some ⟨g0, 0, none⟩) W c0) W (stripRow X F N L PX wd W) ∧ w'.ownsRow (w.heap.size + 1) 191 3 (.slice (some ⟨g1, 0, none⟩) H c1) H (stripRow Y F N L PY n H)) 23 (by kernel_rfl) ?_
      have hTT := And.intro hbv (And.intro hbt (And.intro ho0 ho1))
      refine wpG_take (i := 0) (v := ?v0) rfl (by kernel_rfl) (by kernel_rfl) (by kernel_rfl) (by kernel_rfl) (fun _ _ _ h => h) (Or.inl ⟨by rfl, ?hy0⟩) hTT ?rest0
      case hy0 => intro wq hSw; have hq1 := fun i => hSw.1.cell i; have hq2 := fun i => hSw.2.1.cell i; obtain ⟨hq3, hq4, hq5⟩ := strip_cells hSw.2.2.1 hkW; obtain ⟨hq6, hq7, hq8⟩ := strip_cells hSw.2.2.2 hkH; go_simp <;> with_reducible rfl
      simp only [List.getElem_toArray, List.getElem_cons_zero, List.getElem_cons_succ, Act.put, List.setIfInBounds_toArray, List.set_cons_zero, List.set_cons_succ]
      refine wpG_take (i := 1) (v := ?v1) rfl (by kernel_rfl) (by kernel_rfl) (by kernel_rfl) (by kernel_rfl) (fun _ _ _ h => h) (Or.inl ⟨by rfl, ?hy1⟩) hTT ?rest1
      case hy1 => intro wq hSw; have hq1 := fun i => hSw.1.cell i; have hq2 := fun i => hSw.2.1.cell i; obtain ⟨hq3, hq4, hq5⟩ := strip_cells hSw.2.2.1 hkW; obtain ⟨hq6, hq7, hq8⟩ := strip_cells hSw.2.2.2 hkH; go_simp <;> with_reducible rfl
      simp only [List.getElem_toArray, List.getElem_cons_zero, List.getElem_cons_succ, Act.put, List.setIfInBounds_toArray, List.set_cons_zero, List.set_cons_succ]
      refine wpG_take (i := 2) (v := ?v2) rfl (by kernel_rfl) (by kernel_rfl) (by kernel_rfl) (by kernel_rfl) (fun _ _ _ h => h) (Or.inl ⟨by rfl, ?hy2⟩) hTT ?rest2
      case hy2 => intro wq hSw; have hq1 := fun i => hSw.1.cell i; have hq2 := fun i => hSw.2.1.cell i; obtain ⟨hq3, hq4, hq5⟩ := strip_cells hSw.2.2.1 hkW; obtain ⟨hq6, hq7, hq8⟩ := strip_cells hSw.2.2.2 hkH; go_simp <;> with_reducible rfl
      simp only [List.getElem_toArray, List.getElem_cons_zero, List.getElem_cons_succ, Act.put, List.setIfInBounds_toArray, List.set_cons_zero, List.set_cons_succ]
      refine wpG_take (i := 3) (v := ?v3) rfl (by kernel_rfl) (by kernel_rfl) (by kernel_rfl) (by kernel_rfl) (fun _ _ _ h => h) (Or.inl ⟨by rfl, ?hy3⟩) hTT ?rest3
      case hy3 => intro wq hSw; have hq1 := fun i => hSw.1.cell i; have hq2 := fun i => hSw.2.1.cell i; obtain ⟨hq3, hq4, hq5⟩ := strip_cells hSw.2.2.1 hkW; obtain ⟨hq6, hq7, hq8⟩ := strip_cells hSw.2.2.2 hkH; go_simp <;> with_reducible rfl
      simp only [List.getElem_toArray, List.getElem_cons_zero, List.getElem_cons_succ, Act.put, List.setIfInBounds_toArray, List.set_cons_zero, List.set_cons_succ]
      refine wpG_take (i := 4) (v := ?v4) rfl (by kernel_rfl) (by kernel_rfl) (by kernel_rfl) (by kernel_rfl) (fun _ _ _ h => h) (Or.inl ⟨by rfl, ?hy4⟩) hTT ?rest4
      case hy4 => intro wq hSw; have hq1 := fun i => hSw.1.cell i; have hq2 := fun i => hSw.2.1.cell i; obtain ⟨hq3, hq4, hq5⟩ := strip_cells hSw.2.2.1 hkW; obtain ⟨hq6, hq7, hq8⟩ := strip_cells hSw.2.2.2 hkH; go_simp <;> with_reducible rfl
      simp only [List.getElem_toArray, List.getElem_cons_zero, List.getElem_cons_succ, Act.put, List.setIfInBounds_toArray, List.set_cons_zero, List.set_cons_succ]
      refine wpG_take (i := 5) (v := ?v5) rfl (by kernel_rfl) (by kernel_rfl) (by kernel_rfl) (by kernel_rfl) (fun _ _ _ h => h) (Or.inl ⟨by rfl, ?hy5⟩) hTT ?rest5
      case hy5 => intro wq hSw; have hq1 := fun i => hSw.1.cell i; have hq2 := fun i => hSw.2.1.cell i; obtain ⟨hq3, hq4, hq5⟩ := strip_cells hSw.2.2.1 hkW; obtain ⟨hq6, hq7, hq8⟩ := strip_cells hSw.2.2.2 hkH; go_simp <;> with_reducible rfl
      simp only [List.getElem_toArray, List.getElem_cons_zero, List.getElem_cons_succ, Act.put, List.setIfInBounds_toArray, List.set_cons_zero, List.set_cons_succ]
      refine wpG_take (i := 6) (v := ?v6) rfl (by kernel_rfl) (by kernel_rfl) (by kernel_rfl) (by kernel_rfl) (fun _ _ _ h => h) (Or.inl ⟨by rfl, ?hy6⟩) hTT ?rest6
      case hy6 => intro wq hSw; have hq1 := fun i => hSw.1.cell i; have hq2 := fun i => hSw.2.1.cell i; obtain ⟨hq3, hq4, hq5⟩ := strip_cells hSw.2.2.1 hkW; obtain ⟨hq6, hq7, hq8⟩ := strip_cells hSw.2.2.2 hkH; go_simp <;> with_reducible rfl
      simp only [List.getElem_toArray, List.getElem_cons_zero, List.getElem_cons_succ, Act.put, List.setIfInBounds_toArray, List.set_cons_zero, List.set_cons_succ]
      refine wpG_take (i := 7) (v := ?v7) rfl (by kernel_rfl) (by kernel_rfl) (by kernel_rfl) (by kernel_rfl) (fun _ _ _ h => h) (Or.inl ⟨by rfl, ?hy7⟩) hTT ?rest7
      case hy7 => intro wq hSw; have hq1 := fun i => hSw.1.cell i; have hq2 := fun i => hSw.2.1.cell i; obtain ⟨hq3, hq4, hq5⟩ := strip_cells hSw.2.2.1 hkW; obtain ⟨hq6, hq7, hq8⟩ := strip_cells hSw.2.2.2 hkH; go_simp <;> with_reducible rfl
      simp only [List.getElem_toArray, List.getElem_cons_zero, List.getElem_cons_succ, Act.put, List.setIfInBounds_toArray, List.set_cons_zero, List.set_cons_succ]
      refine wpG_take (i := 8) (v := ?v8) rfl (by kernel_rfl) (by kernel_rfl) (by kernel_rfl) (by kernel_rfl) (fun _ _ _ h => h) (Or.inl ⟨by rfl, ?hy8⟩) hTT ?rest8
      case hy8 => intro wq hSw; have hq1 := fun i => hSw.1.cell i; have hq2 := fun i => hSw.2.1.cell i; obtain ⟨hq3, hq4, hq5⟩ := strip_cells hSw.2.2.1 hkW; obtain ⟨hq6, hq7, hq8⟩ := strip_cells hSw.2.2.2 hkH; go_simp <;> with_reducible rfl
      simp only [List.getElem_toArray, List.getElem_cons_zero, List.getElem_cons_succ, Act.put, List.setIfInBounds_toArray, List.set_cons_zero, List.set_cons_succ]
      refine wpG_take (i := 9) (v := ?v9) rfl (by kernel_rfl) (by kernel_rfl) (by kernel_rfl) (by kernel_rfl) (fun _ _ _ h => h) (Or.inl ⟨by rfl, ?hy9⟩) hTT ?rest9
      case hy9 => intro wq hSw; have hq1 := fun i => hSw.1.cell i; have hq2 := fun i => hSw.2.1.cell i; obtain ⟨hq3, hq4, hq5⟩ := strip_cells hSw.2.2.1 hkW; obtain ⟨hq6, hq7, hq8⟩ := strip_cells hSw.2.2.2 hkH; go_simp <;> with_reducible rfl
      simp only [List.getElem_toArray, List.getElem_cons_zero, List.getElem_cons_succ, Act.put, List.setIfInBounds_toArray, List.set_cons_zero, List.set_cons_succ]
      refine wpG_take (i := 10) (v := ?v10) rfl (by kernel_rfl) (by kernel_rfl) (by kernel_rfl) (by kernel_rfl) (fun _ _ _ h => h) (Or.inl ⟨by rfl, ?hy10⟩) hTT ?rest10
      case hy10 => intro wq hSw; have hq1 := fun i => hSw.1.cell i; have hq2 := fun i => hSw.2.1.cell i; obtain ⟨hq3, hq4, hq5⟩ := strip_cells hSw.2.2.1 hkW; obtain ⟨hq6, hq7, hq8⟩ := strip_cells hSw.2.2.2 hkH; go_simp <;> with_reducible rfl
      simp only [List.getElem_toArray, List.getElem_cons_zero, List.getElem_cons_succ, Act.put, List.setIfInBounds_toArray, List.set_cons_zero, List.set_cons_succ]
      refine wpG_take (i := 11) (v := ?v11) rfl (by kernel_rfl) (by kernel_rfl) (by kernel_rfl) (by kernel_rfl) (fun _ _ _ h => h) (Or.inl ⟨by rfl, ?hy11⟩) hTT ?rest11
      case hy11 => intro wq hSw; have hq1 := fun i => hSw.1.cell i; have hq2 := fun i => hSw.2.1.cell i; obtain ⟨hq3, hq4, hq5⟩ := strip_cells hSw.2.2.1 hkW; obtain ⟨hq6, hq7, hq8⟩ := strip_cells hSw.2.2.2 hkH; go_simp <;> with_reducible rfl
      simp only [List.getElem_toArray, List.getElem_cons_zero, List.getElem_cons_succ, Act.put, List.setIfInBounds_toArray, List.set_cons_zero, List.set_cons_succ]
      refine wpG_take (i := 12) (v := ?v12) rfl (by kernel_rfl) (by kernel_rfl) (by kernel_rfl) (by kernel_rfl) (fun _ _ _ h => h) (Or.inl ⟨by rfl, ?hy12⟩) hTT ?rest12
      case hy12 => intro wq hSw; have hq1 := fun i => hSw.1.cell i; have hq2 := fun i => hSw.2.1.cell i; obtain ⟨hq3, hq4, hq5⟩ := strip_cells hSw.2.2.1 hkW; obtain ⟨hq6, hq7, hq8⟩ := strip_cells hSw.2.2.2 hkH; go_simp <;> with_reducible rfl
      simp only [List.getElem_toArray, List.getElem_cons_zero, List.getElem_cons_succ, Act.put, List.setIfInBounds_toArray, List.set_cons_zero, List.set_cons_succ]
      refine wpG_take (i := 13) (v := ?v13) rfl (by kernel_rfl) (by kernel_rfl) (by kernel_rfl) (by kernel_rfl) (fun _ _ _ h => h) (Or.inl ⟨by rfl, ?hy13⟩) hTT ?rest13
      case hy13 => intro wq hSw; have hq1 := fun i => hSw.1.cell i; have hq2 := fun i => hSw.2.1.cell i; obtain ⟨hq3, hq4, hq5⟩ := strip_cells hSw.2.2.1 hkW; obtain ⟨hq6, hq7, hq8⟩ := strip_cells hSw.2.2.2 hkH; go_simp <;> with_reducible rfl
      simp only [List.getElem_toArray, List.getElem_cons_zero, List.getElem_cons_succ, Act.put, List.setIfInBounds_toArray, List.set_cons_zero, List.set_cons_succ]
      refine wpG_take (i := 14) (v := ?v14) rfl (by kernel_rfl) (by kernel_rfl) (by kernel_rfl) (by kernel_rfl) (fun _ _ _ h => h) (Or.inl ⟨by rfl, ?hy14⟩) hTT ?rest14
      case hy14 => intro wq hSw; have hq1 := fun i => hSw.1.cell i; have hq2 := fun i => hSw.2.1.cell i; obtain ⟨hq3, hq4, hq5⟩ := strip_cells hSw.2.2.1 hkW; obtain ⟨hq6, hq7, hq8⟩ := strip_cells hSw.2.2.2 hkH; go_simp <;> with_reducible rfl
      simp only [List.getElem_toArray, List.getElem_cons_zero, List.getElem_cons_succ, Act.put, List.setIfInBounds_toArray, List.set_cons_zero, List.set_cons_succ]
      refine wpG_take (i := 15) (v := ?v15) rfl (by kernel_rfl) (by kernel_rfl) (by kernel_rfl) (by kernel_rfl) (fun _ _ _ h => h) (Or.inl ⟨by rfl, ?hy15⟩) hTT ?rest15
      case hy15 => intro wq hSw; have hq1 := fun i => hSw.1.cell i; have hq2 := fun i => hSw.2.1.cell i; obtain ⟨hq3, hq4, hq5⟩ := strip_cells hSw.2.2.1 hkW; obtain ⟨hq6, hq7, hq8⟩ := strip_cells hSw.2.2.2 hkH; go_simp <;> with_reducible rfl
      simp only [List.getElem_toArray, List.getElem_cons_zero, List.getElem_cons_succ, Act.put, List.setIfInBounds_toArray, List.set_cons_zero, List.set_cons_succ]
      refine wpG_take (i := 16) (v := ?v16) rfl (by kernel_rfl) (by kernel_rfl) (by kernel_rfl) (by kernel_rfl) (fun _ _ _ h => h) (Or.inl ⟨by rfl, ?hy16⟩) hTT ?rest16
      case hy16 => intro wq hSw; have hq1 := fun i => hSw.1.cell i; have hq2 := fun i => hSw.2.1.cell i; obtain ⟨hq3, hq4, hq5⟩ := strip_cells hSw.2.2.1 hkW; obtain ⟨hq6, hq7, hq8⟩ := strip_cells hSw.2.2.2 hkH; go_simp <;> with_reducible rfl
      simp only [List.getElem_toArray, List.getElem_cons_zero, List.getElem_cons_succ, Act.put, List.setIfInBounds_toArray, List.set_cons_zero, List.set_cons_succ]
      refine wpG_take (i := 17) (v := ?v17) rfl (by kernel_rfl) (by kernel_rfl) (by kernel_rfl) (by kernel_rfl) (fun _ _ _ h => h) (Or.inl ⟨by rfl, ?hy17⟩) hTT ?rest17
      case hy17 => intro wq hSw; have hq1 := fun i => hSw.1.cell i; have hq2 := fun i => hSw.2.1.cell i; obtain ⟨hq3, hq4, hq5⟩ := strip_cells hSw.2.2.1 hkW; obtain ⟨hq6, hq7, hq8⟩ := strip_cells hSw.2.2.2 hkH; go_simp <;> with_reducible rfl
      simp only [List.getElem_toArray, List.getElem_cons_zero, List.getElem_cons_succ, Act.put, List.setIfInBounds_toArray, List.set_cons_zero, List.set_cons_succ]
      refine wpG_take (i := 18) (v := ?v18) rfl (by kernel_rfl) (by kernel_rfl) (by kernel_rfl) (by kernel_rfl) (fun _ _ _ h => h) (Or.inl ⟨by rfl, ?hy18⟩) hTT ?rest18
      case hy18 => intro wq hSw; have hq1 := fun i => hSw.1.cell i; have hq2 := fun i => hSw.2.1.cell i; obtain ⟨hq3, hq4, hq5⟩ := strip_cells hSw.2.2.1 hkW; obtain ⟨hq6, hq7, hq8⟩ := strip_cells hSw.2.2.2 hkH; go_simp <;> with_reducible rfl
      simp only [List.getElem_toArray, List.getElem_cons_zero, List.getElem_cons_succ, Act.put, List.setIfInBounds_toArray, List.set_cons_zero, List.set_cons_succ]
      refine wpG_take (i := 19) (v := ?v19) rfl (by kernel_rfl) (by kernel_rfl) (by kernel_rfl) (by kernel_rfl) (fun _ _ _ h => h) (Or.inl ⟨by rfl, ?hy19⟩) hTT ?rest19
      case hy19 => intro wq hSw; have hq1 := fun i => hSw.1.cell i; have hq2 := fun i => hSw.2.1.cell i; obtain ⟨hq3, hq4, hq5⟩ := strip_cells hSw.2.2.1 hkW; obtain ⟨hq6, hq7, hq8⟩ := strip_cells hSw.2.2.2 hkH; go_simp <;> with_reducible rfl
      simp only [List.getElem_toArray, List.getElem_cons_zero, List.getElem_cons_succ, Act.put, List.setIfInBounds_toArray, List.set_cons_zero, List.set_cons_succ]
      refine wpG_one (i := 20) rfl (by kernel_rfl) (fun K hK => ?_)
      go_simp
      refine (tone_any W H F L X Y N PX PY A n cap rows wd _ _ _ _ _ _ _ (by exact (hr.below hB).more hB.size) hcap hn2 hcm hw hwd (endS_le _ _ _ _ _ _ _).1 (endS_le _ _ _ _ _ _ _).2 (endS_le _ _ _ _ _ _ _).1 (endS_le _ _ _ _ _ _ _).2).mono ?_; rintro e wx ⟨rfl, hbx⟩
      have hbt1 := Blk.below (w := wr.drew) hbt hbx hbt.lt; have hbv1 := Blk.below (w := wr.drew) hbv hbx hbv.lt; have hown1 := ownsRow_below' (w := wr.drew) hown hbx; have ho01 := ownsRow_below' (w := wr.drew) ho0 hbx; have ho11 := ownsRow_below' (w := wr.drew) ho1 hbx; have hz1 : wr.heap.size ≤ wx.heap.size := hbx.size; have hB1 : Below w.heap.size w wx := Below.trans (b := wr.drew) hB.drew (hbx.mono hB.size); clear hTT; have hTT := And.intro hbv1 (And.intro hbt1 (And.intro ho01 ho11)); dsimp only
      refine hK _ _ (.inr hTT) ?_
      clear hK K
      try simp only [List.getElem_toArray, List.getElem_cons_zero, List.getElem_cons_succ, Act.put, List.setIfInBounds_toArray, List.set_cons_zero, List.set_cons_succ]
      refine wpG_one (i := 21) rfl (by kernel_rfl) (fun K hK => ?_)
      go_simp
      have hbt3 := hbt1.alloc (.cells #[.int .u8 (cellS F L X Y N PX PY rows wd n kc km)] 5); have hbv3 := hbv1.alloc (.cells #[.int .u8 (cellS F L X Y N PX PY rows wd n kc km)] 5); have hown3 := hown1.alloc (.cells #[.int .u8 (cellS F L X Y N PX PY rows wd n kc km)] 5); have ho03 := ho01.alloc (.cells #[.int .u8 (cellS F L X Y N PX PY rows wd n kc km)] 5); have ho13 := ho11.alloc (.cells #[.int .u8 (cellS F L X Y N PX PY rows wd n kc km)] 5); have hB3 := hB1.alloc hB1.size (.cells #[.int .u8 (cellS F L X Y N PX PY rows wd n kc km)] 5); clear hTT; have hTT := And.intro hbv3 (And.intro hbt3 (And.intro ho03 ho13))
      refine hK _ _ (.inr hTT) ?_
      clear hK K
      try simp only [List.getElem_toArray, List.getElem_cons_zero, List.getElem_cons_succ, Act.put, List.setIfInBounds_toArray, List.set_cons_zero, List.set_cons_succ]
      refine wpG_one (i := 22) rfl (by kernel_rfl) (fun K hK => ?_)
      rw [if_pos (by rfl)]; refine wp_append_any _ _ _ 89 rfl gs 5 i0 (.int .u8 0) 1 1 Tryz.underlying89 hi hz0 hz1' hz2' rfl (by decide) _ k ((shadL W H F L X Y N PX PY rows wd n k).map (Value.int .u8)) rfl hown3 (wx.heap.size + 1) (some ⟨wx.heap.size, 0, none⟩) 1 1 [.int .u8 (cellS F L X Y N PX PY rows wd n kc km)] rfl (Rd.blkN (Blk.new _ _ _) rfl (Nat.lt_succ_self _)).reads (by simp [Value.oneCell']) (by unfold maxLen; omega) (by omega) (by have h9 := hbt1.lt; simp; omega) (fun v' w' hown' hgrow hob => ?_)
      have hgtb := hbt3.lt; have ho04 := ho03.kept hgrow (own_ne ho03 hown3 (by decide)); have ho14 := ho13.kept hgrow (own_ne ho13 hown3 (by decide)); obtain ⟨g', cap', rfl, hg1, hg2⟩ := hown'.form (Nat.succ_pos _); have hbt4 := hbt3.grown hgrow (fun e => own_blk_ne hown3 hbt3 (by decide) e.symm); have hbv4 := hbv3.grown hgrow (fun e => own_blk_ne hown3 hbv3 (by decide) e.symm); have hB4 := hB3.grown hgrow hB3.size (fun q hq => by have := (hown3.lt q hq).1; omega); clear hTT; have hTT := And.intro hbv4 (And.intro hbt4 (And.intro ho04 ho14))
      refine hK _ _ (.inr hTT) ?_
      clear hK K
      try simp only [List.getElem_toArray, List.getElem_cons_zero, List.getElem_cons_succ, Act.put, List.setIfInBounds_toArray, List.set_cons_zero, List.set_cons_succ]
      refine wpG_one (i := 23) rfl (by kernel_rfl) (fun K hK => ?_)
      go_simp
      refine hK _ _ (.inl rfl) ?_
      clear hK K
      try simp only [List.getElem_toArray, List.getElem_cons_zero, List.getElem_cons_succ, Act.put, List.setIfInBounds_toArray, List.set_cons_zero, List.set_cons_succ]
      refine wpG_done (by kernel_rfl) ?_ _
      go_wp2_with (fail)
      go_roundg (W * H - (k + 1))
      case measure => rw [HG.out]; omega
      case rel => exact ⟨k + 1, rfl, by omega, by go_num, by rw [shadL_succ, List.map_append]; have e1 := HKC.out; have e2 := HKM.out; rw [← e1, ← e2]; exact hown', ho04, ho14, hbv4, hbt4, hB4⟩
    · have hk2 : k = W * H := by omega
      have hpos : 0 < k := by rw [hk2]; exact Nat.mul_pos (by omega) (by omega)
      obtain ⟨g', cap', rfl, hg1, hg2⟩ := hown.form hpos
      have hlen : (shadL W H F L X Y N PX PY rows wd n k).length = k := by simp [shadL]
      have hcc := run_convert_bytes_arg (P := Tryz.prog) wr 89 5 Tryz.underlying89 Tryz.underlying5 g' 0 k cap' (shadL W H F L X Y N PX PY rows wd n k) hlen (fun i hi => by
        rw [Nat.zero_add, hown.cellAt i (by omega)]
        simp [List.getD_eq_getElem?_getD, hlen, hi]) 9 Tryz.underlying9
      have htst : ¬ ((k : Int) < (W : Int) * H) := by have := HWH.out; omega
      have HK2 := Lib.hid hk2; clear hk2 hWi hlen
      go_wp2_with (fail)
      go_ret
      refine ⟨?_, hB⟩
      have e := HK2.out
      rw [← e]
      simp
end
section
open Go.RowKit
theorem all_drop {α : Type} (p : α → Bool) (l : List α) (k : Nat) (h : k < l.length) : (l.drop k).all p = (p l[k] && (l.drop (k + 1)).all p) := by
  rw [List.drop_eq_getElem_cons h, List.all_cons]
theorem any_take {α : Type} (p : α → Bool) (l : List α) (k : Nat) (h : k < l.length) : (l.take (k + 1)).any p = ((l.take k).any p || p l[k]) := by
  rw [List.take_succ_eq_append_getElem h, List.any_append]; simp
/-- Two shadows have no cell that is dark in one and light in the other one. -/
def agreeB (s t : ByteArray) : Bool := ((ltr s).zip (ltr t)).all fun p => !clB p.1 p.2
theorem zip_at (s t : ByteArray) (k : Nat) (h : k < s.size) (h2 : k < t.size) : ∃ hz : k < ((ltr s).zip (ltr t)).length, ((ltr s).zip (ltr t))[k] = ((s[k].toNat : Int), (t[k].toNat : Int)) := by
  refine ⟨by simp [ltr_len]; omega, ?_⟩
  rw [List.getElem_zip, ltr_at s k h, ltr_at t k h2]
theorem agree_any (s t : ByteArray) (w : World) (hs : s.size ≤ maxLen) (hst : s.size ≤ t.size) :
    Calls Tryz.prog 159 #[.string s, .string t] w fun e w' => e = .returned (.bool (agreeB s t)) ∧ Below w.heap.size w w' := by
  unfold maxLen at hs
  go_enter Tryz.func159, Tryz.ntmps159
  go_wp2
  go_loopg [8] (s.size) (fun g i wr => ∃ k : Nat, g = s.size - k ∧ k ≤ s.size ∧ i = .int .i64 k ∧ (((ltr s).zip (ltr t)).drop k).all (fun p => !clB p.1 p.2) = agreeB s t ∧ Below w.heap.size w wr)
  case atStart => exact ⟨0, rfl, Nat.zero_le _, rfl, rfl, Below.refl _ _⟩
  case round =>
    obtain ⟨k, hg, hk, rfl, ha, hB⟩ := hrel
    have HG := Lib.hid hg; clear hg
    by_cases hlt : k < s.size
    · have hlt2 : k < t.size := by omega
      obtain ⟨hz, hze⟩ := zip_at s t k hlt hlt2
      have hd := all_drop (fun p : Int × Int => !clB p.1 p.2) _ k hz
      rw [ha, hze] at hd
      have HD := Lib.hid hd; clear hd ha hze
      cases hc : clB (s[k].toNat : Int) (t[k].toNat : Int)
      · go_wp2_with (fail)
        refine wp_region_blw (by kernel_rfl) (by kernel_rfl) ?_
        repeat (go_big_quiet_step ((go_at_call 163; exact Calls.blw_of_same _ (hc ▸ clash_any _ _ _))))
        refine wpQuiet_nil ?_
        rintro W3 ⟨⟨_, hb3⟩, rfl⟩
        go_wp2_with (fail)
        go_roundg (s.size - (k + 1))
        case measure => rw [HG.out]; omega
        case rel => exact ⟨k + 1, rfl, by omega, by go_num, by rw [HD.out, hc]; rfl, hB.trans (hb3.mono hB.size)⟩
      · go_wp2_with (fail)
        refine wp_region_blw (by kernel_rfl) (by kernel_rfl) ?_
        repeat (go_big_quiet_step ((go_at_call 163; exact Calls.blw_of_same _ (hc ▸ clash_any _ _ _))))
        refine wpQuiet_nil ?_
        rintro W3 ⟨⟨_, hb3⟩, rfl⟩
        go_wp2_with (fail)
        go_ret
        exact ⟨ret_bool (by rw [HD.out, hc]; rfl), hB.trans (hb3.mono hB.size)⟩
    · have hn : ((ltr s).zip (ltr t)).drop k = [] := List.drop_eq_nil_of_le (by simp [ltr_len]; omega)
      rw [hn] at ha
      have HA := Lib.hid ha; clear ha hn
      go_wp2
      go_ret
      exact ⟨ret_bool (by rw [← HA.out]; rfl), hB⟩
end
section
open Go.RowKit
theorem below_iter (w : World) (s : ByteArray) (p : Nat) : Below w.heap.size w (w.iter s p) := (Below.refl _ w).alloc (Nat.le_refl _) _
set_option maxRecDepth 1000000 in
theorem fffd_any (s : ByteArray) (w : World) (hs : ∀ (j : Nat) (h : j < s.size), (s[j]'h).toNat < 128) (hsz : s.size ≤ 100) :
    Calls Tryz.prog 203 #[.string s, .int .i32 65533] w fun e w' => e = .returned (.int .i64 (-1)) ∧ Below w.heap.size w w' := by
  go_enter Tryz.func203, Tryz.ntmps203
  go_wp2
  go_loopw [] (fun w' => ∃ pos, w' = w.iter s pos ∧ pos ≤ s.size) (fun w' => s.size - w'.iterPos w.heap.size)
  case atStart => exact ⟨0, rfl, Nat.zero_le _⟩
  case round =>
    obtain ⟨pos, rfl, hp⟩ := hrel
    by_cases hlt : pos < s.size
    · have hnx : ∀ ty, (Instr.next (.pointer (some ⟨w.heap.size, 0, none⟩)) true ty).run Tryz.prog (w.iter s pos) = _ := fun ty => run_next_ascii w s pos ty hlt (hs pos hlt)
      have hb := hs pos hlt
      generalize (s[pos]'hlt).toNat = bb at hnx hb
      have hne : ((bb : Int) == 65533) = false := by simp; omega
      go_wp2
      go_roundw
      case rel => exact ⟨pos + 1, rfl, by omega⟩
      case measure => simp; omega
    · have hnx : ∀ ty, (Instr.next (.pointer (some ⟨w.heap.size, 0, none⟩)) true ty).run Tryz.prog (w.iter s pos) = _ := fun ty => run_next_end w s pos ty hlt
      go_wp2
      go_ret
      exact ⟨rfl, below_iter _ _ _⟩
theorem indexByte_high (l : List UInt8) (c : UInt8) (h : ∀ b ∈ l, b.toNat < 128) (hc : 128 ≤ c.toNat) : Lib.indexByte l c = -1 := by
  induction l with
  | nil => rfl
  | cons b l ih =>
    have hb := h b (by simp)
    have hne : (b == c) = false := by
      cases hbc : b == c
      · rfl
      · have := eq_of_beq hbc; subst this; omega
    simp [Lib.indexByte, hne, ih (fun x hx => h x (by simp [hx]))]
set_option maxRecDepth 1000000 in
theorem high_any (s : ByteArray) (r : Int) (w : World) (hs : ∀ (j : Nat) (h : j < s.size), (s[j]'h).toNat < 128) (hsz : s.size ≤ 100) (h1 : 128 ≤ r) (h2 : r ≤ 2147483647) (h3 : (r == 65533) = false) :
    Calls Tryz.prog 203 #[.string s, .int .i32 r] w fun e w' => e = .returned (.int .i64 (-1)) ∧ Below w.heap.size w w' := by
  cases hv : Lib.validRune r
  · go_enter Tryz.func203, Tryz.ntmps203
    go_wp2_with (go_at_call 225; refine (Tryz.utf8_ValidRune _ _).mono ?_; rintro e w' ⟨rfl, hw⟩; rw [hw, hv]; clear hw)
    go_ret
    exact ⟨rfl, Below.refl _ _⟩
  · have hv2 : Utf8.valid r = true := by rw [validRune_eq]; simpa [Lib.validRune, validRune] using hv
    obtain ⟨f1, f2, f3⟩ := encode_facts r hv2 h1
    go_enter Tryz.func203, Tryz.ntmps203
    go_wp2_with (go_at_call 225; refine (Tryz.utf8_ValidRune _ _).mono ?_; rintro e w' ⟨rfl, hw⟩; rw [hv])
    go_step3
    go_wp2_with (fail)
    generalize Utf8.encode r = E at *
    have f3' := f3 (by omega)
    clear f3
    clear hw
    refine wp_loop_rounds 1 ?_
    rw [rounds_succ]
    by_cases hl : E.size - 1 < s.size
    · have hl2 : ((E.size : Int) - 1) < s.size := by omega
      go_wp2_with (fail)
      have hsl := hs (E.size - 1) hl
      have hne : (((s[E.size - 1]'hl).toNat : Int) == ((E[E.size - 1]'(by omega)).toNat : Int)) = false := by simp; omega
      have hlt256 : (E[E.size - 1]'(by omega)).toNat < 256 := UInt8.toNat_lt _
      generalize hEb : (E[E.size - 1]'(by omega)).toNat = eb at *
      generalize hsb : (s[E.size - 1]'hl).toNat = sb at *
      go_step3
      go_wp2_with (fail)
      refine wp_region_blw (by kernel_rfl) (by kernel_rfl) ?_
      repeat (go_big_quiet_step (fail))
      refine wpQuiet_nil ?_
      rintro W2 ⟨⟨_, hb2⟩, rfl⟩
      have hcall : ∀ i w1, Calls Tryz.prog 224 #[.string (s.extract i s.size), .int .u8 (eb : Int)] w1 fun e w' => e = .returned (.int .i64 (-1)) ∧ w1 = w' := by
        intro i w1
        refine (Tryz.strings_IndexByte _ _ _).mono ?_
        rintro e w' ⟨rfl, rfl⟩
        refine ⟨ret_int (indexByte_high _ _ ?_ ?_), rfl⟩
        · intro b hb
          have := mem_extract hb
          obtain ⟨j, hj, rfl⟩ := List.getElem_of_mem this
          exact hs j (by simpa using hj)
        · simp; omega
      go_wp2_with (fail)
      refine wp_region_blw (by kernel_rfl) (by kernel_rfl) ?_
      repeat (go_big_quiet_step ((go_at_call 224; exact Calls.blw_of_same _ (hcall _ _))))
      refine wpQuiet_nil ?_
      rintro W3 ⟨⟨_, hb3⟩, rfl⟩
      go_wp2_with (fail)
      repeat (first | rw [Exit.noGoto_ret] | (go_wp2; done) | simp only [go_sem])
      go_ret
      exact ⟨rfl, hb2.trans (hb3.mono hb2.size)⟩
    · have hl2 : ¬ ((E.size : Int) - 1) < s.size := by omega
      go_wp2_with (fail)
      go_ret
      exact ⟨rfl, Below.refl _ _⟩
end
section
open Go.RowKit
def asciiL (zs : List Int) : Prop := ∀ z ∈ zs, 0 ≤ z ∧ z < 128
theorem strOfNums_at {zs : List Int} (hz : asciiL zs) (j : Nat) (h : j < (strOfNums zs).size) : ((strOfNums zs)[j]'h).toNat < 128 := by
  have hl : j < zs.length := by rw [← strOfNums_size]; exact h
  have e : (strOfNums zs)[j]'h = UInt8.ofNat (zs[j]).toNat := by
    show (strOfNums zs).data[j] = _
    simp [strOfNums]
  have := hz zs[j] (List.getElem_mem hl)
  rw [e]; simp; omega
theorem indexByte_nums : ∀ (zs : List Int) (c : Int), asciiL zs → 0 ≤ c → c < 128 → decide (0 ≤ Lib.indexByte (zs.map fun n => UInt8.ofNat n.toNat) c.toNat.toUInt8) = decide (c ∈ zs)
  | [], c, _, _, _ => by simp [Lib.indexByte]
  | z :: zs, c, hz, h0, h1 => by
    have hz0 := hz z (by simp)
    have ih := indexByte_nums zs c (fun x hx => hz x (by simp [hx])) h0 h1
    by_cases h : c = z
    · subst h
      simp [Lib.indexByte]
    · have hne : (UInt8.ofNat z.toNat == c.toNat.toUInt8) = false := by
        cases hb : (UInt8.ofNat z.toNat == c.toNat.toUInt8)
        · rfl
        · have := congrArg UInt8.toNat (eq_of_beq hb)
          simp at this; omega
      simp only [List.map_cons, Lib.indexByte, hne]
      have hge : ∀ l : List UInt8, ∀ d, -1 ≤ Lib.indexByte l d := by
        intro l d
        induction l with
        | nil => simp [Lib.indexByte]
        | cons a l ihl => simp only [Lib.indexByte]; split; omega; split; omega; omega
      have hg := hge (zs.map fun n => UInt8.ofNat n.toNat) c.toNat.toUInt8
      simp only [List.mem_cons, h, false_or]
      rw [← ih]
      by_cases hm : Lib.indexByte (zs.map fun n => UInt8.ofNat n.toNat) c.toNat.toUInt8 = -1
      · simp [hm]
      · have : (Lib.indexByte (zs.map fun n => UInt8.ofNat n.toNat) c.toNat.toUInt8 == -1) = false := by simpa using hm
        simp only [this, Bool.false_eq_true, if_false]; congr 1; exact propext (by omega)
theorem containsLow (zs : List Int) (hz : asciiL zs) (r : Int) (w : World) (h0 : 0 ≤ r) (h1 : r < 128) :
    Calls Tryz.prog 180 #[.string (strOfNums zs), .int .i32 r] w fun e w' => e = .returned (.bool (decide (r ∈ zs))) ∧ w = w' := by
  refine (Tryz.strings_ContainsRune_ascii _ _ _ h0 h1).mono ?_
  rintro e w' ⟨rfl, rfl⟩
  exact ⟨ret_bool (by rw [strOfNums_data]; exact indexByte_nums zs r hz h0 h1), rfl⟩
set_option maxRecDepth 1000000 in
theorem containsHigh (zs : List Int) (hz : asciiL zs) (hl : zs.length ≤ 100) (r : Int) (w : World) (h1 : 128 ≤ r) (h2 : r ≤ 2147483647) :
    Calls Tryz.prog 180 #[.string (strOfNums zs), .int .i32 r] w fun e w' => e = .returned (.bool false) ∧ Below w.heap.size w w' := by
  have hsz : (strOfNums zs).size ≤ 100 := by rw [strOfNums_size]; exact hl
  have hs := fun j h => strOfNums_at hz j h
  generalize strOfNums zs = s at *
  by_cases h3 : r = 65533
  · subst h3
    go_enter Tryz.func180, Tryz.ntmps180
    go_wp2_with (go_at_call 203; refine (fffd_any _ _ hs hsz).mono ?_; rintro e w' ⟨rfl, hb⟩)
    go_ret
    exact ⟨rfl, by assumption⟩
  · have h3' : (r == 65533) = false := by simpa using h3
    go_enter Tryz.func180, Tryz.ntmps180
    go_wp2_with (go_at_call 203; refine (high_any _ _ _ hs hsz h1 h2 h3').mono ?_; rintro e w' ⟨rfl, hb⟩)
    go_ret
    exact ⟨rfl, by assumption⟩
/-- A text has no other letters than these. -/
def onlyB (s : ByteArray) (zs : List Int) : Bool := (ltr s).all fun b => decide (b ∈ zs)
set_option maxRecDepth 1000000 in
theorem only_any (s : ByteArray) (b off n cap : Nat) (zs : List Int) (w : World) (hsz : s.size ≤ maxLen) (hz : asciiL zs) (hl : zs.length = n) (hn : n ≤ 100)
    (hbl : b < w.heap.size) (hc : ∀ i, i < n → w.cell? ⟨b, off + i, none⟩ = some (.int .u8 (zs.getD i 0))) :
    Calls Tryz.prog 146 #[.string s, .slice (some ⟨b, off, none⟩) n cap] w fun e w' => e = .returned (.bool (onlyB s zs)) ∧ Below w.heap.size w w' := by
  unfold maxLen at hsz
  go_enter Tryz.func146, Tryz.ntmps146
  go_wp2
  go_loopw [] (fun w' => ∃ pos, w' = w.iter s pos ∧ pos ≤ s.size ∧ ((ltr s).drop pos).all (fun b => decide (b ∈ zs)) = onlyB s zs) (fun w' => s.size - w'.iterPos w.heap.size)
  case atStart => exact ⟨0, rfl, Nat.zero_le _, rfl⟩
  case round =>
    obtain ⟨pos, rfl, hp, ha⟩ := hrel
    have hcv := fun p => run_convert_bytes_arg (P := Tryz.prog) (w.iter s p) 89 5 Tryz.underlying89 Tryz.underlying5 b off n cap zs hl (fun i hi => by rw [← hc i hi]; exact (below_iter w s p).cell (p := ⟨b, off + i, none⟩) hbl)
    clear hc
    by_cases hlt : pos < s.size
    · have hd := all_drop (fun b : Int => decide (b ∈ zs)) (ltr s) pos (by rw [ltr_len]; exact hlt)
      rw [ha, ltr_at s pos hlt] at hd
      have HD := Lib.hid hd; clear hd ha
      by_cases hb : (s[pos]'hlt).toNat < 128
      · have hnx : ∀ ty, (Instr.next (.pointer (some ⟨w.heap.size, 0, none⟩)) true ty).run Tryz.prog (w.iter s pos) = _ := fun ty => run_next_ascii w s pos ty hlt hb
        generalize (s[pos]'hlt).toNat = bb at *
        have hb0 : (0 : Int) ≤ bb := by omega
        have hb1 : (bb : Int) < 128 := by omega
        cases hm : decide ((bb : Int) ∈ zs)
        · go_wp2_with (go_at_call 180; refine (containsLow zs hz _ _ hb0 hb1).mono ?_; rintro e w' ⟨rfl, rfl⟩; rw [hm])
          go_ret
          exact ⟨ret_bool (by rw [HD.out, hm]; rfl), below_iter _ _ _⟩
        · go_wp2_with (go_at_call 180; refine (containsLow zs hz _ _ hb0 hb1).mono ?_; rintro e w' ⟨rfl, rfl⟩; rw [hm])
          go_roundw
          case rel => exact ⟨pos + 1, rfl, by omega, by rw [HD.out, hm]; simp⟩
          case measure => simp; omega
      · have hnx : ∀ ty, (Instr.next (.pointer (some ⟨w.heap.size, 0, none⟩)) true ty).run Tryz.prog (w.iter s pos) = _ := fun ty => run_next_any w s pos ty hlt
        obtain ⟨hr1, hr2⟩ := decode_high s pos hlt (by omega)
        have hr3 := decode_le s pos
        have hm : decide ((((s[pos]'hlt).toNat : Nat) : Int) ∈ zs) = false := by
          simp only [decide_eq_false_iff_not]; intro h; have := hz _ h; omega
        generalize (s[pos]'hlt).toNat = bb at *
        generalize Utf8.decode s pos = dd at *
        obtain ⟨d1, d2⟩ := dd
        have hr1' : (128 : Int) ≤ (d1 : Int) := by simp at hr1; omega
        have hr3' : (d1 : Int) ≤ 2147483647 := by simp at hr3; omega
        go_wp2_with (go_at_call 180; refine (containsHigh zs hz (by omega) _ _ hr1' hr3').mono ?_; rintro e w' ⟨rfl, hbb⟩)
        go_ret
        refine ⟨ret_bool (by rw [HD.out, hm]; rfl), ?_⟩
        exact (below_iter w s (pos + d2)).trans (hbb.mono (below_iter w s (pos + d2)).size)
    · have hnx : ∀ ty, (Instr.next (.pointer (some ⟨w.heap.size, 0, none⟩)) true ty).run Tryz.prog (w.iter s pos) = _ := fun ty => run_next_end w s pos ty hlt
      have hn : (ltr s).drop pos = [] := List.drop_eq_nil_of_le (by rw [ltr_len]; omega)
      rw [hn] at ha
      have HA := Lib.hid ha; clear ha hn
      go_wp2
      go_ret
      exact ⟨ret_bool (by rw [← HA.out]; rfl), below_iter _ _ _⟩
theorem only_rd (s : ByteArray) (A : Option Addr) (n cap : Nat) (zs : List Int) (w : World) (hsz : s.size ≤ maxLen) (hz : asciiL zs) (h0 : 0 < n) (hn : n ≤ 100) (hr : Rd w w.heap.size 1 A n (zs.map (Value.int .u8))) :
    Calls Tryz.prog 146 #[.string s, .slice A n cap] w fun e w' => e = .returned (.bool (onlyB s zs)) ∧ Below w.heap.size w w' := by
  have hl := hr.len
  obtain ⟨b, off, rfl, hb, hc⟩ := hr.2 h0
  exact only_any s b off n cap zs w hsz hz hl hn hb fun i hi => hc i _ (by simp [List.getD, List.getElem?_eq_getElem (show i < zs.length by omega)])
end
section
open Go.RowKit
/-- A figure's rows are as defined. -/
def rowB (wd : Nat) (r : ByteArray) : Bool := decide (r.size = wd) && onlyB r [35, 46]
def hashB (r : ByteArray) : Bool := decide (0 < cntL (ltr r) [35])
def wdOf (rows : List ByteArray) : Nat := (rows.headD ByteArray.empty).size
def figB (rows : List ByteArray) : Bool := inB rows.length 1 6 && (inB (wdOf rows) 1 6 && (rows.all (rowB (wdOf rows)) && rows.any hashB))
theorem all_take {α : Type} (p : α → Bool) (l : List α) (k : Nat) (h : k < l.length) : (l.take (k + 1)).all p = ((l.take k).all p && p l[k]) := by
  rw [List.take_succ_eq_append_getElem h, List.all_append]; simp
theorem all_stop {α : Type} (p : α → Bool) (l : List α) (k : Nat) (h : k < l.length) (hf : p l[k] = false) : l.all p = false := by
  rw [List.all_eq_false]; exact ⟨l[k], List.getElem_mem h, by simp [hf]⟩
theorem ascii2 : asciiL [35, 46] := by intro z hz; simp at hz; omega
set_option maxRecDepth 1000000 in
set_option maxHeartbeats 1000000 in
theorem goodFigure_any (A : Option Addr) (n cap : Nat) (rows : List ByteArray) (w : World) (hn : n ≤ maxLen) (hs : ∀ r ∈ rows, r.size ≤ maxLen) (hr : Rd w w.heap.size 1 A n (rows.map Value.string)) :
    Calls Tryz.prog 98 #[.agg #[.slice A n cap]] w fun e w' => e = .returned (.bool (figB rows)) ∧ Below w.heap.size w w' := by
  have hlen := hr.len
  unfold maxLen at hn
  have hfig : figB rows = (inB n 1 6 && (inB (wdOf rows) 1 6 && (rows.all (rowB (wdOf rows)) && rows.any hashB))) := by rw [figB, hlen]
  have HF := Lib.hid hfig; clear hfig
  cases h1 : inB n 1 6
  · go_enter Tryz.func98, Tryz.ntmps98
    go_wp2_with (go_at_call 130; refine (within_any _ _ _ _).mono ?_; rintro e w' ⟨rfl, rfl⟩)
    go_ret
    exact ⟨ret_bool (by rw [HF.out, h1]; rfl), (Below.refl _ _).alloc (Nat.le_refl _) _⟩
  · have hn0 : 0 < n ∧ n ≤ 6 := by simp [inB] at h1; omega
    obtain ⟨hn1, hn6⟩ := hn0
    have hlt0 : 0 < rows.length := by omega
    obtain ⟨b, off, rfl, hb, hc⟩ := hr.2 hn1
    have hc0 := hc 0 (.string rows[0]) (by simp [hlt0])
    rw [Nat.add_zero] at hc0
    have hwd : wdOf rows = rows[0].size := by cases rows with | nil => simp at hlt0 | cons a l => rfl
    have hs0 := hs _ (List.getElem_mem hlt0)
    obtain ⟨r0, hr0⟩ : ∃ r0, r0 = rows[0] := ⟨_, rfl⟩
    rw [← hr0] at hc0 hwd hs0
    unfold maxLen at hs0
    rw [hwd] at HF
    clear hr0 hwd
    cases h2 : inB r0.size 1 6
    · go_enter Tryz.func98, Tryz.ntmps98
      go_wp2_with (go_at_call 130; refine (within_any _ _ _ _).mono ?_; rintro e w' ⟨rfl, rfl⟩)
      go_ret
      exact ⟨ret_bool (by rw [HF.out, h1, h2]; rfl), (Below.refl _ _).alloc (Nat.le_refl _) _⟩
    · go_enter Tryz.func98, Tryz.ntmps98
      go_wp2_with (go_at_call 130; refine (within_any _ _ _ _).mono ?_; rintro e w' ⟨rfl, rfl⟩)
      have hbf := Blk.new w 26 #[.slice (some ⟨b, off, none⟩) n cap]
      go_loopg [3, 21] n (fun g t i wr => ∃ k : Nat, g = n - k ∧ k ≤ n ∧ i = .int .i64 k ∧ t = .bool ((rows.take k).any hashB) ∧ (rows.take k).all (rowB r0.size) = true ∧ Below w.heap.size w wr ∧ Blk wr w.heap.size 26 #[.slice (some ⟨b, off, none⟩) n cap])
      case atStart => exact ⟨0, rfl, Nat.zero_le _, rfl, rfl, rfl, (Below.refl _ _).alloc (Nat.le_refl _) _, hbf⟩
      case round =>
        clear hbf
        obtain ⟨k, hg, hk, rfl, rfl, hall, hB, hbf⟩ := hrel
        have HG := Lib.hid hg; clear hg
        have HALL := Lib.hid hall; clear hall
        have hcf := fun i => hbf.cell i
        have hcr0 := (hB.cell (p := ⟨b, off, none⟩) hb).trans hc0
        by_cases hlt : k < n
        · have hkr : k < rows.length := by omega
          have hck := (hB.cell (p := ⟨b, off + k, none⟩) hb).trans (hc k (.string rows[k]) (by simp [hkr]))
          have hsk := hs _ (List.getElem_mem hkr)
          have ha := all_take (rowB r0.size) rows k hkr
          have hy := any_take hashB rows k hkr
          have hstop := all_stop (rowB r0.size) rows k hkr
          obtain ⟨rk, hrk⟩ : ∃ rk, rk = rows[k] := ⟨_, rfl⟩
          rw [← hrk] at hck hsk ha hy hstop
          clear hrk
          have hsk2 : rk.size < 9223372036854775808 := by unfold maxLen at hsk; omega
          have HA := Lib.hid ha; have HY := Lib.hid hy; have HST := Lib.hid hstop; clear ha hy hstop
          have HSK := Lib.hid hsk; clear hsk
          generalize hacc : (rows.take k).any hashB = acc at *
          have HACC := Lib.hid hacc; clear hacc
          by_cases hq : (rk.size : Int) = r0.size
          · cases ho : onlyB rk [35, 46]
            · have hrf : rowB r0.size rk = false := by simp [rowB, ho]
              go_wp2_with (go_at_call 146; refine (only_rd rk _ 2 2 [35, 46] _ HSK.out ascii2 (by decide) (by decide) (Rd.blk (Blk.new _ _ _) rfl (by simp))).mono ?_; rintro e w1 ⟨rfl, hb1⟩; obtain ⟨hcc, hff⟩ := bcell hb1)
              go_ret
              exact ⟨ret_bool (by rw [HF.out, HST.out hrf]; simp), (hB.alloc hB.size _).trans (hb1.mono (by have := hB.size; simp; omega))⟩
            · have hrt : rowB r0.size rk = true := by simp [rowB, ho]; omega
              have HRT := Lib.hid hrt; clear hrt
              cases acc
              · have hcl := cntL_le (ltr rk) [35]
                rw [ltr_len] at hcl
                have hrs : rk.size ≤ 6 := by simp [inB] at h2; omega
                by_cases hh : (0 : Int) < (cntL (ltr rk) [35] : Int)
                · have hhb : hashB rk = true := by simp [hashB]; omega
                  go_wp2_with (first
                    | (go_at_call 146; refine (only_rd rk _ 2 2 [35, 46] _ HSK.out ascii2 (by decide) (by decide) (Rd.blk (Blk.new _ _ _) rfl (by simp))).mono ?_; rintro e w1 ⟨rfl, hb1⟩; rw [ho]; have hB1 : Below w.heap.size w w1 := (hB.alloc hB.size _).trans (hb1.mono (by have := hB.size; simp; omega)); have hbf1 := (hbf.alloc (.cells #[.int .u8 35, .int .u8 46] 5)).below hb1 (hbf.alloc _).lt; obtain ⟨hcc, hff⟩ := bcell hb1)
                    | (go_at_call 103; refine (count_any rk _ 1 1 [35] _ _ HSK.out (by decide) (Rd.blk (Blk.new _ _ _) rfl (Nat.lt_succ_self _))).mono ?_; rintro e w2 ⟨rfl, rfl⟩))
                  go_roundg (n - (k + 1))
                  case measure => rw [HG.out]; omega
                  case rel => exact ⟨k + 1, rfl, by omega, by go_num, by rw [HY.out, hhb]; simp; omega, by rw [HA.out, HALL.out, HRT.out]; rfl, hB1.alloc hB1.size _, hbf1.alloc _⟩
                · have hhb : hashB rk = false := by simp [hashB]; omega
                  go_wp2_with (first
                    | (go_at_call 146; refine (only_rd rk _ 2 2 [35, 46] _ HSK.out ascii2 (by decide) (by decide) (Rd.blk (Blk.new _ _ _) rfl (by simp))).mono ?_; rintro e w1 ⟨rfl, hb1⟩; rw [ho]; have hB1 : Below w.heap.size w w1 := (hB.alloc hB.size _).trans (hb1.mono (by have := hB.size; simp; omega)); have hbf1 := (hbf.alloc (.cells #[.int .u8 35, .int .u8 46] 5)).below hb1 (hbf.alloc _).lt; obtain ⟨hcc, hff⟩ := bcell hb1)
                    | (go_at_call 103; refine (count_any rk _ 1 1 [35] _ _ HSK.out (by decide) (Rd.blk (Blk.new _ _ _) rfl (Nat.lt_succ_self _))).mono ?_; rintro e w2 ⟨rfl, rfl⟩))
                  go_roundg (n - (k + 1))
                  case measure => rw [HG.out]; omega
                  case rel => exact ⟨k + 1, rfl, by omega, by go_num, by rw [HY.out, hhb]; simp; omega, by rw [HA.out, HALL.out, HRT.out]; rfl, hB1.alloc hB1.size _, hbf1.alloc _⟩
              · go_wp2_with (go_at_call 146; refine (only_rd rk _ 2 2 [35, 46] _ HSK.out ascii2 (by decide) (by decide) (Rd.blk (Blk.new _ _ _) rfl (by simp))).mono ?_; rintro e w1 ⟨rfl, hb1⟩; rw [ho]; have hB1 : Below w.heap.size w w1 := (hB.alloc hB.size _).trans (hb1.mono (by have := hB.size; simp; omega)); have hbf1 := (hbf.alloc (.cells #[.int .u8 35, .int .u8 46] 5)).below hb1 (hbf.alloc _).lt; obtain ⟨hcc, hff⟩ := bcell hb1)
                go_roundg (n - (k + 1))
                case measure => rw [HG.out]; omega
                case rel => exact ⟨k + 1, rfl, by omega, by go_num, by rw [HY.out]; simp, by rw [HA.out, HALL.out, HRT.out]; rfl, hB1, hbf1⟩
          · have hrf : rowB r0.size rk = false := by simp [rowB]; intro h; omega
            go_wp2_with (fail)
            go_ret
            exact ⟨ret_bool (by rw [HF.out, HST.out hrf]; simp), hB⟩
        · obtain rfl : k = n := by omega
          have hta : rows.take k = rows := List.take_of_length_le (by omega)
          rw [hta] at HALL ⊢
          go_wp2
          go_ret
          exact ⟨ret_bool (by rw [HF.out, HALL.out]; simp [h1, h2]), hB⟩
end
end Go.Proofs.YtifddfchpknkbaaGreatDoor
