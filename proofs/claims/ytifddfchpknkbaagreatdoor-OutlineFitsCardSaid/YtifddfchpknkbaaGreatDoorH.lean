import Derived.Test.YtifddfchpknkbaaGreatDoorG
import Derived.Laws.BytesArg
set_option linter.unusedVariables false
set_option linter.unusedSimpArgs false
namespace Go.Proofs.YtifddfchpknkbaaGreatDoor
open Go.RowKit

/-- The tone of the cell in the column k and the row m. -/
def cellS (F L X Y N PX PY : Int) (rows : List ByteArray) (wd n k m : Nat) : Int :=
  toneS rows (firstS X F N PX (lowV F N L k) wd) (endS X F N PX (lowV F N L k) (highV F N L k) wd) (insideS X F N PX (lowV F N L k) (highV F N L k) wd)
    (firstS Y F N PY (lowV F N L m) n) (endS Y F N PY (lowV F N L m) (highV F N L m) n) (insideS Y F N PY (lowV F N L m) (highV F N L m) n)
/-- The shadow, row by row in one list. -/
def shadL (W H : Nat) (F L X Y N PX PY : Int) (rows : List ByteArray) (wd n q : Nat) : List Int := (List.range q).map fun c => cellS F L X Y N PX PY rows wd n (c % W) (c / W)
theorem shadL_succ (W H : Nat) (F L X Y N PX PY : Int) (rows : List ByteArray) (wd n q : Nat) : shadL W H F L X Y N PX PY rows wd n (q + 1) = shadL W H F L X Y N PX PY rows wd n q ++ [cellS F L X Y N PX PY rows wd n (q % W) (q / W)] := by
  simp [shadL, List.range_succ]
theorem stripRow_len (ax F N L P : Int) (sz : Nat) : ∀ m : Nat, (stripRow ax F N L P sz m).length = m * 3
  | 0 => rfl
  | m + 1 => by rw [stripRow_succ, List.length_append, stripRow_len ax F N L P sz m]; simp [stripC]; omega
theorem own_slice {w : World} {base : Nat} {e : TypeId} {size : Nat} {v : Value} {n : Nat} {xs : List Value} (h : w.ownsRow base e size v n xs) : ∃ a c, v = .slice a n c := by
  rcases h.2 with ⟨h', rfl⟩ | ⟨g0, c0, cu, h', _⟩ <;> exact ⟨_, _, h'⟩
theorem stripRow_at (ax F N L P : Int) (sz : Nat) : ∀ (m k j : Nat), k < m → j < 3 → (stripRow ax F N L P sz m)[k * 3 + j]? = (stripC ax F N L P sz k)[j]?
  | 0, k, j, hk, _ => by omega
  | m + 1, k, j, hk, hj => by
    have hl := stripRow_len ax F N L P sz m
    rw [stripRow_succ]
    by_cases h : k < m
    · rw [List.getElem?_append_left (by omega)]; exact stripRow_at ax F N L P sz m k j h hj
    · obtain rfl : k = m := by omega
      rw [List.getElem?_append_right (by omega), hl]; congr 1; omega
theorem own_ne {w : World} {b b' : Nat} {e e' : TypeId} {s s' : Nat} {v v' : Value} {n n' : Nat} {xs xs' : List Value} (h : w.ownsRow b e s v n xs) (h' : w.ownsRow b' e' s' v' n' xs') (hne : e ≠ e') : v.ownBlock = none ∨ v.ownBlock ≠ v'.ownBlock := by
  rcases h.2 with ⟨rfl, _⟩ | ⟨g, cap, cur, rfl, _, hh, _⟩
  · exact .inl rfl
  · rcases h'.2 with ⟨rfl, _⟩ | ⟨g', cap', cur', rfl, _, hh', _⟩
    · exact .inr (by simp [Value.ownBlock])
    · refine .inr (fun e0 => ?_)
      have : g = g' := by simpa [Value.ownBlock] using e0
      subst this
      rw [hh] at hh'
      injection hh' with hh'
      injection hh' with _ ht
      exact hne ht
theorem strip_cells {w : World} {base g m c k : Nat} {ax F N L P : Int} {sz : Nat} (h : w.ownsRow base 191 3 (.slice (some ⟨g, 0, none⟩) m c) m (stripRow ax F N L P sz m)) (hk : k < m) :
    w.cell? ⟨g, k * 3, none⟩ = some (.int .i64 (firstS ax F N P (lowV F N L k) sz)) ∧ w.cell? ⟨g, k * 3 + 1, none⟩ = some (.int .i64 (endS ax F N P (lowV F N L k) (highV F N L k) sz)) ∧ w.cell? ⟨g, k * 3 + 2, none⟩ = some (.bool (insideS ax F N P (lowV F N L k) (highV F N L k) sz)) :=
  ⟨(h.cellAt (k * 3 + 0) (by omega)).trans (stripRow_at ax F N L P sz m k 0 hk (by omega)), (h.cellAt (k * 3 + 1) (by omega)).trans (stripRow_at ax F N L P sz m k 1 hk (by omega)), (h.cellAt (k * 3 + 2) (by omega)).trans (stripRow_at ax F N L P sz m k 2 hk (by omega))⟩
theorem info5 : (Tryz.prog.info? 5).map (fun i => (i.zero, i.size, i.bytes)) = some (some (.int .u8 0), 1, 1) := by kernel_rfl
theorem firstS_le (ax F N P lo : Int) (sz : Nat) : firstS ax F N P lo sz ≤ sz := by have := scanN_le (fun t => decide (lineV ax F N (P + (t + 1)) ≤ lo)) sz 0; unfold firstS; omega
theorem endS_le (ax F N P lo hi : Int) (sz : Nat) : firstS ax F N P lo sz ≤ endS ax F N P lo hi sz ∧ endS ax F N P lo hi sz ≤ sz := by
  have h1 := firstS_le ax F N P lo sz
  have := scanN_le (fun t => decide (lineV ax F N (P + t) < hi)) (sz - firstS ax F N P lo sz) (firstS ax F N P lo sz)
  unfold endS; omega

set_option maxRecDepth 100000 in
set_option maxHeartbeats 1600000 in
theorem shadow_any (W H : Nat) (F L X Y N PX PY : Int) (A : Option Addr) (n cap : Nat) (rows : List ByteArray) (wd : Nat) (w : World) (hr : Rd w w.heap.size 1 A n (rows.map Value.string)) (hn : 0 < n) (hn2 : n ≤ 50) (hcap : n ≤ cap) (hcm : cap ≤ maxLen) (hw : ∀ r ∈ rows, r.size = wd) (hwd : wd ≤ 50)
    (w1 : W ≤ 50) (w2 : H ≤ 50) (w3 : 1 ≤ W) (w4 : 1 ≤ H) (x1 : 0 ≤ X) (x2 : X ≤ 100) (y1 : 0 ≤ Y) (y2 : Y ≤ 100) (h1 : 0 ≤ F) (h2 : F ≤ 100) (h3 : 0 ≤ N) (h4 : N ≤ 100) (h5 : 0 ≤ L) (h6 : L ≤ 100) (p1 : -50 ≤ PX) (p2 : PX ≤ 50) (p3 : -50 ≤ PY) (p4 : PY ≤ 50) :
    Calls Tryz.prog 102 #[.agg #[.int .i64 W, .int .i64 H, .int .i64 F, .int .i64 L, .int .i64 X, .int .i64 Y, .slice A n cap, .int .i64 N, .int .i64 PX, .int .i64 PY]] w fun e w' => e = .returned (.string (strOfNums (shadL W H F L X Y N PX PY rows wd n (W * H)))) ∧ Below w.heap.size w w' := by
  obtain ⟨i0, hi, hz0, hz1', hz2'⟩ := info_parts info5
  obtain ⟨q1, q2⟩ := mulB (x := (W : Int)) (y := (H : Int)) (a := 50) (b := 50) (by omega) (by omega) (by omega) (by omega)
  have hWH : ((W * H : Nat) : Int) = (W : Int) * H := Int.natCast_mul W H
  have hWHle : W * H ≤ 2500 := Nat.mul_le_mul w1 w2
  have HWH := Lib.hid hWH; clear hWH
  go_enter Tryz.func102, Tryz.ntmps102
  go_wp2_with (go_at_call 147; refine (strips_any W H F L X Y N PX PY A n cap rows wd _ (by exact (hr.alloc (Nat.le_refl _) _).more (by simp)) hn hn2 hw hwd w1 w2 x1 x2 y1 y2 h1 h2 h3 h4 h5 h6 p1 p2 p3 p4).mono ?_; rintro e ws ⟨v0, v1, rfl, ho0, ho1, hbs⟩; obtain ⟨a0, c0, rfl⟩ := own_slice ho0; obtain ⟨a1, c1, rfl⟩ := own_slice ho1; have hbv := (Blk.new w 140 #[.int .i64 W, .int .i64 H, .int .i64 F, .int .i64 L, .int .i64 X, .int .i64 Y, .slice A n cap, .int .i64 N, .int .i64 PX, .int .i64 PY]).below hbs (by simp); have hcv := fun i => hbv.cell i; have hlv := hbv.lt)
  have hB : Below w.heap.size w (ws.alloc (.cells #[.slice a0 W c0, .slice a1 H c1] 187)) := (((Below.refl _ w).alloc (Nat.le_refl _) _).trans (hbs.mono (by simp))).alloc (by omega) _
  rw [World.size_alloc] at ho0 ho1
  have hbt := Blk.new ws 187 #[.slice a0 W c0, .slice a1 H c1]
  replace ho0 := ho0.alloc (.cells #[.slice a0 W c0, .slice a1 H c1] 187)
  replace ho1 := ho1.alloc (.cells #[.slice a0 W c0, .slice a1 H c1] 187)
  replace hbv := hbv.alloc (.cells #[.slice a0 W c0, .slice a1 H c1] 187)
  clear hcv
  generalize hWS : ws.alloc (.cells #[.slice a0 W c0, .slice a1 H c1] 187) = w5 at *
  have hgt : w.heap.size < ws.heap.size := hlv
  generalize hgs : ws.heap.size = gs at *
  clear hWS hgs hbs hlv
  go_loopg [4, 15] (W * H) (fun g v i wr => ∃ k : Nat, g = W * H - k ∧ k ≤ W * H ∧ i = .int .i64 k ∧ wr.ownsRow gs 5 1 v k ((shadL W H F L X Y N PX PY rows wd n k).map (Value.int .u8)) ∧
    wr.ownsRow (w.heap.size + 1) 191 3 (.slice a0 W c0) W (stripRow X F N L PX wd W) ∧ wr.ownsRow (w.heap.size + 1) 191 3 (.slice a1 H c1) H (stripRow Y F N L PY n H) ∧
    Blk wr w.heap.size 140 #[.int .i64 W, .int .i64 H, .int .i64 F, .int .i64 L, .int .i64 X, .int .i64 Y, .slice A n cap, .int .i64 N, .int .i64 PX, .int .i64 PY] ∧ Blk wr gs 187 #[.slice a0 W c0, .slice a1 H c1] ∧ Below w.heap.size w wr)
  case atStart => exact ⟨0, rfl, Nat.zero_le _, rfl, World.ownsRow_nil _ _ _ _, ho0, ho1, hbv, hbt, hB⟩
  case round =>
    clear hB hbv hbt ho0 ho1
    obtain ⟨k, hg, hk, rfl, hown, ho0, ho1, hbv, hbt, hB⟩ := hrel
    have HG := Lib.hid hg; clear hg
    have hWi : ((W : Int) * H) = ((W * H : Nat) : Int) := HWH.out.symm
    by_cases hlt : k < W * H
    · have htst : (k : Int) < (W : Int) * H := by have := HWH.out; omega
      have hkW : k % W < W := Nat.mod_lt _ (by omega)
      have hkH : k / W < H := by rw [Nat.div_lt_iff_lt_mul (by omega), Nat.mul_comm]; exact hlt
      obtain ⟨kc, hkc⟩ : ∃ kc, kc = k % W := ⟨_, rfl⟩
      obtain ⟨km, hkm⟩ : ∃ km, km = k / W := ⟨_, rfl⟩
      rw [← hkc] at hkW
      rw [← hkm] at hkH
      have em : (k : Int).tmod W = (kc : Int) := by rw [hkc]; rfl
      have ed : (k : Int).tdiv W = (km : Int) := by rw [hkm]; rfl
      have ed2 := i64_ok (km : Int) (by omega)
      have hW0 : ¬ W = 0 := by omega
      have hkWi : (kc : Int) < (W : Int) := by omega
      have hkHi : (km : Int) < (H : Int) := by omega
      have HKC := Lib.hid hkc; have HKM := Lib.hid hkm; clear hkc hkm
      obtain ⟨g0, cp0, hv0, hg01, hg02⟩ := ho0.form (by omega)
      obtain ⟨g1, cp1, hv1, hg11, hg12⟩ := ho1.form (by omega)
      injection hv0 with hv01 hv02 hv03
      injection hv1 with hv11 hv12 hv13
      subst hv01 hv11
      clear hv02 hv03 hv12 hv13
      have hcv := fun i => hbv.cell i
      have hct := fun i => hbt.cell i
      clear hWi
      go_wp2_with (fail)
      refine wp_region_G (fun w' => Blk w' w.heap.size 140 #[.int .i64 W, .int .i64 H, .int .i64 F, .int .i64 L, .int .i64 X, .int .i64 Y, .slice A n cap, .int .i64 N, .int .i64 PX, .int .i64 PY] ∧ Blk w' gs 187 #[.slice (some ⟨g0, 0, none⟩) W c0, .slice (some ⟨g1, 0, none⟩) H c1] ∧ w'.ownsRow (w.heap.size + 1) 191 3 (.slice (some ⟨g0, 0, none⟩) W c0) W (stripRow X F N L PX wd W) ∧ w'.ownsRow (w.heap.size + 1) 191 3 (.slice (some ⟨g1, 0, none⟩) H c1) H (stripRow Y F N L PY n H)) 23 (by kernel_rfl) ?_
      have hTT := And.intro hbv (And.intro hbt (And.intro ho0 ho1))
      refine wpG_take (i := 0) (v := ?v0) rfl (by kernel_rfl) (by kernel_rfl) (by kernel_rfl) (by kernel_rfl) (fun _ _ _ h => h) (Or.inl ⟨by rfl, ?hy0⟩) hTT ?rest0
      case hy0 => intro wq hSw; have hq1 := fun i => hSw.1.cell i; have hq2 := fun i => hSw.2.1.cell i; obtain ⟨hq3, hq4, hq5⟩ := strip_cells hSw.2.2.1 hkW; obtain ⟨hq6, hq7, hq8⟩ := strip_cells hSw.2.2.2 hkH; go_simp <;> with_reducible rfl
      simp only [List.getElem_toArray, List.getElem_cons_zero, List.getElem_cons_succ, Act.put, List.setIfInBounds_toArray, List.set_cons_zero, List.set_cons_succ]
      refine wpG_take (i := 1) (v := ?v1) rfl (by kernel_rfl) (by kernel_rfl) (by kernel_rfl) (by kernel_rfl) (fun _ _ _ h => h) (Or.inl ⟨by rfl, ?hy1⟩) hTT ?rest1
      case hy1 => intro wq hSw; have hq1 := fun i => hSw.1.cell i; have hq2 := fun i => hSw.2.1.cell i; obtain ⟨hq3, hq4, hq5⟩ := strip_cells hSw.2.2.1 hkW; obtain ⟨hq6, hq7, hq8⟩ := strip_cells hSw.2.2.2 hkH; go_simp <;> with_reducible rfl
      simp only [List.getElem_toArray, List.getElem_cons_zero, List.getElem_cons_succ, Act.put, List.setIfInBounds_toArray, List.set_cons_zero, List.set_cons_succ]
      refine wpG_take (i := 2) (v := ?v2) rfl (by kernel_rfl) (by kernel_rfl) (by kernel_rfl) (by kernel_rfl) (fun _ _ _ h => h) (Or.inl ⟨by rfl, ?hy2⟩) hTT ?rest2
      case hy2 => intro wq hSw; have hq1 := fun i => hSw.1.cell i; have hq2 := fun i => hSw.2.1.cell i; obtain ⟨hq3, hq4, hq5⟩ := strip_cells hSw.2.2.1 hkW; obtain ⟨hq6, hq7, hq8⟩ := strip_cells hSw.2.2.2 hkH; go_simp <;> with_reducible rfl
      simp only [List.getElem_toArray, List.getElem_cons_zero, List.getElem_cons_succ, Act.put, List.setIfInBounds_toArray, List.set_cons_zero, List.set_cons_succ]
      refine wpG_take (i := 3) (v := ?v3) rfl (by kernel_rfl) (by kernel_rfl) (by kernel_rfl) (by kernel_rfl) (fun _ _ _ h => h) (Or.inl ⟨by rfl, ?hy3⟩) hTT ?rest3
      case hy3 => intro wq hSw; have hq1 := fun i => hSw.1.cell i; have hq2 := fun i => hSw.2.1.cell i; obtain ⟨hq3, hq4, hq5⟩ := strip_cells hSw.2.2.1 hkW; obtain ⟨hq6, hq7, hq8⟩ := strip_cells hSw.2.2.2 hkH; go_simp <;> with_reducible rfl
      simp only [List.getElem_toArray, List.getElem_cons_zero, List.getElem_cons_succ, Act.put, List.setIfInBounds_toArray, List.set_cons_zero, List.set_cons_succ]
      refine wpG_take (i := 4) (v := ?v4) rfl (by kernel_rfl) (by kernel_rfl) (by kernel_rfl) (by kernel_rfl) (fun _ _ _ h => h) (Or.inl ⟨by rfl, ?hy4⟩) hTT ?rest4
      case hy4 => intro wq hSw; have hq1 := fun i => hSw.1.cell i; have hq2 := fun i => hSw.2.1.cell i; obtain ⟨hq3, hq4, hq5⟩ := strip_cells hSw.2.2.1 hkW; obtain ⟨hq6, hq7, hq8⟩ := strip_cells hSw.2.2.2 hkH; go_simp <;> with_reducible rfl
      simp only [List.getElem_toArray, List.getElem_cons_zero, List.getElem_cons_succ, Act.put, List.setIfInBounds_toArray, List.set_cons_zero, List.set_cons_succ]
      refine wpG_take (i := 5) (v := ?v5) rfl (by kernel_rfl) (by kernel_rfl) (by kernel_rfl) (by kernel_rfl) (fun _ _ _ h => h) (Or.inl ⟨by rfl, ?hy5⟩) hTT ?rest5
      case hy5 => intro wq hSw; have hq1 := fun i => hSw.1.cell i; have hq2 := fun i => hSw.2.1.cell i; obtain ⟨hq3, hq4, hq5⟩ := strip_cells hSw.2.2.1 hkW; obtain ⟨hq6, hq7, hq8⟩ := strip_cells hSw.2.2.2 hkH; go_simp <;> with_reducible rfl
      simp only [List.getElem_toArray, List.getElem_cons_zero, List.getElem_cons_succ, Act.put, List.setIfInBounds_toArray, List.set_cons_zero, List.set_cons_succ]
      refine wpG_take (i := 6) (v := ?v6) rfl (by kernel_rfl) (by kernel_rfl) (by kernel_rfl) (by kernel_rfl) (fun _ _ _ h => h) (Or.inl ⟨by rfl, ?hy6⟩) hTT ?rest6
      case hy6 => intro wq hSw; have hq1 := fun i => hSw.1.cell i; have hq2 := fun i => hSw.2.1.cell i; obtain ⟨hq3, hq4, hq5⟩ := strip_cells hSw.2.2.1 hkW; obtain ⟨hq6, hq7, hq8⟩ := strip_cells hSw.2.2.2 hkH; go_simp <;> with_reducible rfl
      simp only [List.getElem_toArray, List.getElem_cons_zero, List.getElem_cons_succ, Act.put, List.setIfInBounds_toArray, List.set_cons_zero, List.set_cons_succ]
      refine wpG_take (i := 7) (v := ?v7) rfl (by kernel_rfl) (by kernel_rfl) (by kernel_rfl) (by kernel_rfl) (fun _ _ _ h => h) (Or.inl ⟨by rfl, ?hy7⟩) hTT ?rest7
      case hy7 => intro wq hSw; have hq1 := fun i => hSw.1.cell i; have hq2 := fun i => hSw.2.1.cell i; obtain ⟨hq3, hq4, hq5⟩ := strip_cells hSw.2.2.1 hkW; obtain ⟨hq6, hq7, hq8⟩ := strip_cells hSw.2.2.2 hkH; go_simp <;> with_reducible rfl
      simp only [List.getElem_toArray, List.getElem_cons_zero, List.getElem_cons_succ, Act.put, List.setIfInBounds_toArray, List.set_cons_zero, List.set_cons_succ]
      refine wpG_take (i := 8) (v := ?v8) rfl (by kernel_rfl) (by kernel_rfl) (by kernel_rfl) (by kernel_rfl) (fun _ _ _ h => h) (Or.inl ⟨by rfl, ?hy8⟩) hTT ?rest8
      case hy8 => intro wq hSw; have hq1 := fun i => hSw.1.cell i; have hq2 := fun i => hSw.2.1.cell i; obtain ⟨hq3, hq4, hq5⟩ := strip_cells hSw.2.2.1 hkW; obtain ⟨hq6, hq7, hq8⟩ := strip_cells hSw.2.2.2 hkH; go_simp <;> with_reducible rfl
      simp only [List.getElem_toArray, List.getElem_cons_zero, List.getElem_cons_succ, Act.put, List.setIfInBounds_toArray, List.set_cons_zero, List.set_cons_succ]
      refine wpG_take (i := 9) (v := ?v9) rfl (by kernel_rfl) (by kernel_rfl) (by kernel_rfl) (by kernel_rfl) (fun _ _ _ h => h) (Or.inl ⟨by rfl, ?hy9⟩) hTT ?rest9
      case hy9 => intro wq hSw; have hq1 := fun i => hSw.1.cell i; have hq2 := fun i => hSw.2.1.cell i; obtain ⟨hq3, hq4, hq5⟩ := strip_cells hSw.2.2.1 hkW; obtain ⟨hq6, hq7, hq8⟩ := strip_cells hSw.2.2.2 hkH; go_simp <;> with_reducible rfl
      simp only [List.getElem_toArray, List.getElem_cons_zero, List.getElem_cons_succ, Act.put, List.setIfInBounds_toArray, List.set_cons_zero, List.set_cons_succ]
      refine wpG_take (i := 10) (v := ?v10) rfl (by kernel_rfl) (by kernel_rfl) (by kernel_rfl) (by kernel_rfl) (fun _ _ _ h => h) (Or.inl ⟨by rfl, ?hy10⟩) hTT ?rest10
      case hy10 => intro wq hSw; have hq1 := fun i => hSw.1.cell i; have hq2 := fun i => hSw.2.1.cell i; obtain ⟨hq3, hq4, hq5⟩ := strip_cells hSw.2.2.1 hkW; obtain ⟨hq6, hq7, hq8⟩ := strip_cells hSw.2.2.2 hkH; go_simp <;> with_reducible rfl
      simp only [List.getElem_toArray, List.getElem_cons_zero, List.getElem_cons_succ, Act.put, List.setIfInBounds_toArray, List.set_cons_zero, List.set_cons_succ]
      refine wpG_take (i := 11) (v := ?v11) rfl (by kernel_rfl) (by kernel_rfl) (by kernel_rfl) (by kernel_rfl) (fun _ _ _ h => h) (Or.inl ⟨by rfl, ?hy11⟩) hTT ?rest11
      case hy11 => intro wq hSw; have hq1 := fun i => hSw.1.cell i; have hq2 := fun i => hSw.2.1.cell i; obtain ⟨hq3, hq4, hq5⟩ := strip_cells hSw.2.2.1 hkW; obtain ⟨hq6, hq7, hq8⟩ := strip_cells hSw.2.2.2 hkH; go_simp <;> with_reducible rfl
      simp only [List.getElem_toArray, List.getElem_cons_zero, List.getElem_cons_succ, Act.put, List.setIfInBounds_toArray, List.set_cons_zero, List.set_cons_succ]
      refine wpG_take (i := 12) (v := ?v12) rfl (by kernel_rfl) (by kernel_rfl) (by kernel_rfl) (by kernel_rfl) (fun _ _ _ h => h) (Or.inl ⟨by rfl, ?hy12⟩) hTT ?rest12
      case hy12 => intro wq hSw; have hq1 := fun i => hSw.1.cell i; have hq2 := fun i => hSw.2.1.cell i; obtain ⟨hq3, hq4, hq5⟩ := strip_cells hSw.2.2.1 hkW; obtain ⟨hq6, hq7, hq8⟩ := strip_cells hSw.2.2.2 hkH; go_simp <;> with_reducible rfl
      simp only [List.getElem_toArray, List.getElem_cons_zero, List.getElem_cons_succ, Act.put, List.setIfInBounds_toArray, List.set_cons_zero, List.set_cons_succ]
      refine wpG_take (i := 13) (v := ?v13) rfl (by kernel_rfl) (by kernel_rfl) (by kernel_rfl) (by kernel_rfl) (fun _ _ _ h => h) (Or.inl ⟨by rfl, ?hy13⟩) hTT ?rest13
      case hy13 => intro wq hSw; have hq1 := fun i => hSw.1.cell i; have hq2 := fun i => hSw.2.1.cell i; obtain ⟨hq3, hq4, hq5⟩ := strip_cells hSw.2.2.1 hkW; obtain ⟨hq6, hq7, hq8⟩ := strip_cells hSw.2.2.2 hkH; go_simp <;> with_reducible rfl
      simp only [List.getElem_toArray, List.getElem_cons_zero, List.getElem_cons_succ, Act.put, List.setIfInBounds_toArray, List.set_cons_zero, List.set_cons_succ]
      refine wpG_take (i := 14) (v := ?v14) rfl (by kernel_rfl) (by kernel_rfl) (by kernel_rfl) (by kernel_rfl) (fun _ _ _ h => h) (Or.inl ⟨by rfl, ?hy14⟩) hTT ?rest14
      case hy14 => intro wq hSw; have hq1 := fun i => hSw.1.cell i; have hq2 := fun i => hSw.2.1.cell i; obtain ⟨hq3, hq4, hq5⟩ := strip_cells hSw.2.2.1 hkW; obtain ⟨hq6, hq7, hq8⟩ := strip_cells hSw.2.2.2 hkH; go_simp <;> with_reducible rfl
      simp only [List.getElem_toArray, List.getElem_cons_zero, List.getElem_cons_succ, Act.put, List.setIfInBounds_toArray, List.set_cons_zero, List.set_cons_succ]
      refine wpG_take (i := 15) (v := ?v15) rfl (by kernel_rfl) (by kernel_rfl) (by kernel_rfl) (by kernel_rfl) (fun _ _ _ h => h) (Or.inl ⟨by rfl, ?hy15⟩) hTT ?rest15
      case hy15 => intro wq hSw; have hq1 := fun i => hSw.1.cell i; have hq2 := fun i => hSw.2.1.cell i; obtain ⟨hq3, hq4, hq5⟩ := strip_cells hSw.2.2.1 hkW; obtain ⟨hq6, hq7, hq8⟩ := strip_cells hSw.2.2.2 hkH; go_simp <;> with_reducible rfl
      simp only [List.getElem_toArray, List.getElem_cons_zero, List.getElem_cons_succ, Act.put, List.setIfInBounds_toArray, List.set_cons_zero, List.set_cons_succ]
      refine wpG_take (i := 16) (v := ?v16) rfl (by kernel_rfl) (by kernel_rfl) (by kernel_rfl) (by kernel_rfl) (fun _ _ _ h => h) (Or.inl ⟨by rfl, ?hy16⟩) hTT ?rest16
      case hy16 => intro wq hSw; have hq1 := fun i => hSw.1.cell i; have hq2 := fun i => hSw.2.1.cell i; obtain ⟨hq3, hq4, hq5⟩ := strip_cells hSw.2.2.1 hkW; obtain ⟨hq6, hq7, hq8⟩ := strip_cells hSw.2.2.2 hkH; go_simp <;> with_reducible rfl
      simp only [List.getElem_toArray, List.getElem_cons_zero, List.getElem_cons_succ, Act.put, List.setIfInBounds_toArray, List.set_cons_zero, List.set_cons_succ]
      refine wpG_take (i := 17) (v := ?v17) rfl (by kernel_rfl) (by kernel_rfl) (by kernel_rfl) (by kernel_rfl) (fun _ _ _ h => h) (Or.inl ⟨by rfl, ?hy17⟩) hTT ?rest17
      case hy17 => intro wq hSw; have hq1 := fun i => hSw.1.cell i; have hq2 := fun i => hSw.2.1.cell i; obtain ⟨hq3, hq4, hq5⟩ := strip_cells hSw.2.2.1 hkW; obtain ⟨hq6, hq7, hq8⟩ := strip_cells hSw.2.2.2 hkH; go_simp <;> with_reducible rfl
      simp only [List.getElem_toArray, List.getElem_cons_zero, List.getElem_cons_succ, Act.put, List.setIfInBounds_toArray, List.set_cons_zero, List.set_cons_succ]
      refine wpG_take (i := 18) (v := ?v18) rfl (by kernel_rfl) (by kernel_rfl) (by kernel_rfl) (by kernel_rfl) (fun _ _ _ h => h) (Or.inl ⟨by rfl, ?hy18⟩) hTT ?rest18
      case hy18 => intro wq hSw; have hq1 := fun i => hSw.1.cell i; have hq2 := fun i => hSw.2.1.cell i; obtain ⟨hq3, hq4, hq5⟩ := strip_cells hSw.2.2.1 hkW; obtain ⟨hq6, hq7, hq8⟩ := strip_cells hSw.2.2.2 hkH; go_simp <;> with_reducible rfl
      simp only [List.getElem_toArray, List.getElem_cons_zero, List.getElem_cons_succ, Act.put, List.setIfInBounds_toArray, List.set_cons_zero, List.set_cons_succ]
      refine wpG_take (i := 19) (v := ?v19) rfl (by kernel_rfl) (by kernel_rfl) (by kernel_rfl) (by kernel_rfl) (fun _ _ _ h => h) (Or.inl ⟨by rfl, ?hy19⟩) hTT ?rest19
      case hy19 => intro wq hSw; have hq1 := fun i => hSw.1.cell i; have hq2 := fun i => hSw.2.1.cell i; obtain ⟨hq3, hq4, hq5⟩ := strip_cells hSw.2.2.1 hkW; obtain ⟨hq6, hq7, hq8⟩ := strip_cells hSw.2.2.2 hkH; go_simp <;> with_reducible rfl
      simp only [List.getElem_toArray, List.getElem_cons_zero, List.getElem_cons_succ, Act.put, List.setIfInBounds_toArray, List.set_cons_zero, List.set_cons_succ]
      refine wpG_one (i := 20) rfl (by kernel_rfl) (fun K hK => ?_)
      go_simp
      refine (tone_any W H F L X Y N PX PY A n cap rows wd _ _ _ _ _ _ _ (by exact (hr.below hB).more hB.size) hcap hn2 hcm hw hwd (endS_le _ _ _ _ _ _ _).1 (endS_le _ _ _ _ _ _ _).2 (endS_le _ _ _ _ _ _ _).1 (endS_le _ _ _ _ _ _ _).2).mono ?_; rintro e wx ⟨rfl, hbx⟩
      have hbt1 := Blk.below (w := wr.drew) hbt hbx hbt.lt; have hbv1 := Blk.below (w := wr.drew) hbv hbx hbv.lt; have hown1 := ownsRow_below' (w := wr.drew) hown hbx; have ho01 := ownsRow_below' (w := wr.drew) ho0 hbx; have ho11 := ownsRow_below' (w := wr.drew) ho1 hbx; have hz1 : wr.heap.size ≤ wx.heap.size := hbx.size; have hB1 : Below w.heap.size w wx := Below.trans (b := wr.drew) hB.drew (hbx.mono hB.size); clear hTT; have hTT := And.intro hbv1 (And.intro hbt1 (And.intro ho01 ho11)); dsimp only
      refine hK _ _ (.inr hTT) ?_
      clear hK K
      try simp only [List.getElem_toArray, List.getElem_cons_zero, List.getElem_cons_succ, Act.put, List.setIfInBounds_toArray, List.set_cons_zero, List.set_cons_succ]
      refine wpG_one (i := 21) rfl (by kernel_rfl) (fun K hK => ?_)
      go_simp
      have hbt3 := hbt1.alloc (.cells #[.int .u8 (cellS F L X Y N PX PY rows wd n kc km)] 5); have hbv3 := hbv1.alloc (.cells #[.int .u8 (cellS F L X Y N PX PY rows wd n kc km)] 5); have hown3 := hown1.alloc (.cells #[.int .u8 (cellS F L X Y N PX PY rows wd n kc km)] 5); have ho03 := ho01.alloc (.cells #[.int .u8 (cellS F L X Y N PX PY rows wd n kc km)] 5); have ho13 := ho11.alloc (.cells #[.int .u8 (cellS F L X Y N PX PY rows wd n kc km)] 5); have hB3 := hB1.alloc hB1.size (.cells #[.int .u8 (cellS F L X Y N PX PY rows wd n kc km)] 5); clear hTT; have hTT := And.intro hbv3 (And.intro hbt3 (And.intro ho03 ho13))
      refine hK _ _ (.inr hTT) ?_
      clear hK K
      try simp only [List.getElem_toArray, List.getElem_cons_zero, List.getElem_cons_succ, Act.put, List.setIfInBounds_toArray, List.set_cons_zero, List.set_cons_succ]
      refine wpG_one (i := 22) rfl (by kernel_rfl) (fun K hK => ?_)
      rw [if_pos (by rfl)]; refine wp_append_any _ _ _ 89 rfl gs 5 i0 (.int .u8 0) 1 1 Tryz.underlying89 hi hz0 hz1' hz2' rfl (by decide) _ k ((shadL W H F L X Y N PX PY rows wd n k).map (Value.int .u8)) rfl hown3 (wx.heap.size + 1) (some ⟨wx.heap.size, 0, none⟩) 1 1 [.int .u8 (cellS F L X Y N PX PY rows wd n kc km)] rfl (Rd.blkN (Blk.new _ _ _) rfl (Nat.lt_succ_self _)).reads (by simp [Value.oneCell']) (by unfold maxLen; omega) (by omega) (by have h9 := hbt1.lt; simp; omega) (fun v' w' hown' hgrow hob => ?_)
      have hgtb := hbt3.lt; have ho04 := ho03.kept hgrow (own_ne ho03 hown3 (by decide)); have ho14 := ho13.kept hgrow (own_ne ho13 hown3 (by decide)); obtain ⟨g', cap', rfl, hg1, hg2⟩ := hown'.form (Nat.succ_pos _); have hbt4 := hbt3.grown hgrow (fun e => own_blk_ne hown3 hbt3 (by decide) e.symm); have hbv4 := hbv3.grown hgrow (fun e => own_blk_ne hown3 hbv3 (by decide) e.symm); have hB4 := hB3.grown hgrow hB3.size (fun q hq => by have := (hown3.lt q hq).1; omega); clear hTT; have hTT := And.intro hbv4 (And.intro hbt4 (And.intro ho04 ho14))
      refine hK _ _ (.inr hTT) ?_
      clear hK K
      try simp only [List.getElem_toArray, List.getElem_cons_zero, List.getElem_cons_succ, Act.put, List.setIfInBounds_toArray, List.set_cons_zero, List.set_cons_succ]
      refine wpG_one (i := 23) rfl (by kernel_rfl) (fun K hK => ?_)
      go_simp
      refine hK _ _ (.inl rfl) ?_
      clear hK K
      try simp only [List.getElem_toArray, List.getElem_cons_zero, List.getElem_cons_succ, Act.put, List.setIfInBounds_toArray, List.set_cons_zero, List.set_cons_succ]
      refine wpG_done (by kernel_rfl) ?_ _
      go_wp2_with (fail)
      go_roundg (W * H - (k + 1))
      case measure => rw [HG.out]; omega
      case rel => exact ⟨k + 1, rfl, by omega, by go_num, by rw [shadL_succ, List.map_append]; have e1 := HKC.out; have e2 := HKM.out; rw [← e1, ← e2]; exact hown', ho04, ho14, hbv4, hbt4, hB4⟩
    · have hk2 : k = W * H := by omega
      have hpos : 0 < k := by rw [hk2]; exact Nat.mul_pos (by omega) (by omega)
      obtain ⟨g', cap', rfl, hg1, hg2⟩ := hown.form hpos
      have hlen : (shadL W H F L X Y N PX PY rows wd n k).length = k := by simp [shadL]
      have hcc := run_convert_bytes_arg (P := Tryz.prog) wr 89 5 Tryz.underlying89 Tryz.underlying5 g' 0 k cap' (shadL W H F L X Y N PX PY rows wd n k) hlen (fun i hi => by
        rw [Nat.zero_add, hown.cellAt i (by omega)]
        simp [List.getD_eq_getElem?_getD, hlen, hi]) 9 Tryz.underlying9
      have htst : ¬ ((k : Int) < (W : Int) * H) := by have := HWH.out; omega
      have HK2 := Lib.hid hk2; clear hk2 hWi hlen
      go_wp2_with (fail)
      go_ret
      refine ⟨?_, hB⟩
      have e := HK2.out
      rw [← e]
      simp
end Go.Proofs.YtifddfchpknkbaaGreatDoor
