import Derived.Test.YtifddfchpknkbaaGreatDoorF
import Derived.Deep.RegionHeld3
import Derived.Test.YtifddfchpknkbaaGreatDoorK2
import Derived.OneCell
set_option linter.unusedVariables false
set_option linter.unusedSimpArgs false
namespace Go.Proofs.YtifddfchpknkbaaGreatDoor
open Go.RowKit
set_option maxHeartbeats 400000 in
theorem size_any (W H F L X Y N PX PY : Int) (A : Option Addr) (n cap : Nat) (rows : List ByteArray) (w : World) (hr : Rd w w.heap.size 1 A n (rows.map Value.string)) (hn : 0 < n) (hn2 : n ≤ 50) (wd : Nat) (hw : ∀ r ∈ rows, r.size = wd) :
    Calls Tryz.prog 154 #[.agg #[.int .i64 W, .int .i64 H, .int .i64 F, .int .i64 L, .int .i64 X, .int .i64 Y, .slice A n cap, .int .i64 N, .int .i64 PX, .int .i64 PY]] w
      fun r w' => r = .returned (.agg #[.int .i64 wd, .int .i64 n]) ∧ Below w.heap.size w w' := by
  obtain ⟨b, off, hz, rfl, hb, hc⟩ := hr.atm hn
  have hsz := hw rows[0] (List.getElem_mem hz)
  rw [Nat.add_zero] at hc
  have hn' : (0 : Int) < (n : Int) := by omega
  generalize rows[0] = r0 at hc hsz
  subst hsz
  go_enter Tryz.func154, Tryz.ntmps154
  go_wp2
  go_region
  all_goals
    go_wp2
    refine bodyPost_ret (v := .agg #[.int .i64 r0.size, .int .i64 n]) (by simp [results, Tryz.results154, go_sem]) rfl ⟨rfl, ?_⟩
    exact (((Below.refl _ _).alloc (Nat.le_refl _) _).alloc (by simp) _).drew

theorem ownsRow_below {w w' : World} {base : Nat} {e : TypeId} {size : Nat} {v : Value} {n : Nat} {xs : List Value} {B : Nat} (h : w.ownsRow base e size v n xs) (hb : Below B w w') (hB : ∀ g, v.ownBlock = some g → g < B) : w'.ownsRow base e size v n xs := by
  refine ⟨h.1, ?_⟩
  rcases h.2 with hn | ⟨g, cap, cur, rfl, hbb, hgg, rest⟩
  · exact .inl hn
  · exact .inr ⟨g, cap, cur, rfl, hbb, (hb.block g (hB g rfl)).trans hgg, rest⟩
theorem own_mono {w : World} {base base' : Nat} {e : TypeId} {size : Nat} {v : Value} {n : Nat} {xs : List Value} (h : w.ownsRow base e size v n xs) (hb : base' ≤ base) : w.ownsRow base' e size v n xs := by
  refine ⟨h.1, ?_⟩
  rcases h.2 with hn | ⟨g, cap, cur, rfl, hbb, rest⟩
  · exact .inl hn
  · exact .inr ⟨g, cap, cur, rfl, by omega, rest⟩
theorem ownsRow_below' {w w' : World} {base : Nat} {e : TypeId} {size : Nat} {v : Value} {n : Nat} {xs : List Value} (h : w.ownsRow base e size v n xs) (hb : Below w.heap.size w w') : w'.ownsRow base e size v n xs :=
  ownsRow_below h hb fun g hg => (h.lt g hg).2
theorem info191 : (Tryz.prog.info? 191).map (fun i => (i.zero, i.size, i.bytes)) = some (some (.agg #[.int .i64 0, .int .i64 0, .bool false]), 3, 24) := by kernel_rfl

theorem disj_step {a b c : Option Nat} {m : Nat} (h : a = none ∨ a ≠ b) (hc : c = b ∨ c = some m) (hm : ∀ q, a = some q → q < m) : a = none ∨ a ≠ c := by
  rcases h with h | h
  · exact .inl h
  · rcases hc with rfl | rfl
    · exact .inr h
    · cases a with
      | none => exact .inl rfl
      | some q => exact .inr (fun e => by injection e with e; have := hm q rfl; omega)
theorem Rd.blkN {w : World} {B g n sz : Nat} {t : TypeId} {cs : Array Value} (h : Blk w g t cs) (hn : cs.size = n * sz) (hg : g < B) : Rd w B sz (some ⟨g, 0, none⟩) n cs.toList :=
  ⟨by simpa using hn, fun _ => ⟨g, 0, rfl, hg, fun j u hu => by rw [Nat.zero_add, h.cell j]; simpa using hu⟩⟩

def stripC (ax F N L P : Int) (sz k : Nat) : List Value := [.int .i64 (firstS ax F N P (lowV F N L k) sz), .int .i64 (endS ax F N P (lowV F N L k) (highV F N L k) sz), .bool (insideS ax F N P (lowV F N L k) (highV F N L k) sz)]
def stripRow (ax F N L P : Int) (sz m : Nat) : List Value := (List.range m).flatMap (stripC ax F N L P sz)
theorem stripRow_succ (ax F N L P : Int) (sz m : Nat) : stripRow ax F N L P sz (m + 1) = stripRow ax F N L P sz m ++ stripC ax F N L P sz m := by
  simp [stripRow, List.range_succ, List.flatMap_append]

def TwoRows (w : World) (b : Nat) (xs ys : List Value) (n m : Nat) (e : Ending) (w' : World) : Prop :=
  ∃ v0 v1, e = .returned (.agg #[v0, v1]) ∧ w'.ownsRow b 191 3 v0 n xs ∧ w'.ownsRow b 191 3 v1 m ys ∧ Below w.heap.size w w'

set_option maxRecDepth 100000 in
set_option maxHeartbeats 1600000 in
theorem strips_any (W H : Nat) (F L X Y N PX PY : Int) (A : Option Addr) (n cap : Nat) (rows : List ByteArray) (wd : Nat) (w : World) (hr : Rd w w.heap.size 1 A n (rows.map Value.string)) (hn : 0 < n) (hn2 : n ≤ 50) (hw : ∀ r ∈ rows, r.size = wd) (hwd : wd ≤ 50)
    (w1 : W ≤ 50) (w2 : H ≤ 50) (x1 : 0 ≤ X) (x2 : X ≤ 100) (y1 : 0 ≤ Y) (y2 : Y ≤ 100) (h1 : 0 ≤ F) (h2 : F ≤ 100) (h3 : 0 ≤ N) (h4 : N ≤ 100) (h5 : 0 ≤ L) (h6 : L ≤ 100) (p1 : -50 ≤ PX) (p2 : PX ≤ 50) (p3 : -50 ≤ PY) (p4 : PY ≤ 50) :
    Calls Tryz.prog 147 #[.agg #[.int .i64 W, .int .i64 H, .int .i64 F, .int .i64 L, .int .i64 X, .int .i64 Y, .slice A n cap, .int .i64 N, .int .i64 PX, .int .i64 PY]] w
      (TwoRows w w.heap.size (stripRow X F N L PX wd W) (stripRow Y F N L PY n H) W H) := by
  obtain ⟨i0, hi, hz0, hz1', hz2'⟩ := info_parts info191
  have hT := Below.refl w.heap.size w
  have ix0 : ∀ w, (Instr.index 196 (.agg #[.func (.func 190) #[] #[], .func (.func 191) #[] #[]]) (.int .i64 0)).run Tryz.prog w = .ok (.func (.func 190) #[] #[]) w := fun _ => by kernel_rfl
  have ix1 : ∀ w, (Instr.index 196 (.agg #[.func (.func 190) #[] #[], .func (.func 191) #[] #[]]) (.int .i64 1)).run Tryz.prog w = .ok (.func (.func 191) #[] #[]) w := fun _ => by kernel_rfl
  have iy0 : ∀ a b w, (Instr.index 199 (.agg #[.int .i64 a, .int .i64 b]) (.int .i64 0)).run Tryz.prog w = .ok (.int .i64 a) w := fun _ _ _ => by kernel_rfl
  have iy1 : ∀ a b w, (Instr.index 199 (.agg #[.int .i64 a, .int .i64 b]) (.int .i64 1)).run Tryz.prog w = .ok (.int .i64 b) w := fun _ _ _ => by kernel_rfl
  go_enter Tryz.func147, Tryz.ntmps147
  go_wp2_with (first | (go_at_call 152; refine (directions_any _).mono ?_; rintro e wd1 ⟨rfl, hb⟩; obtain ⟨hcc, hff⟩ := bcell hb))
  refine wp_loop_rounds 3 ?_
  rw [rounds_succ]
  go_wp2_with (first | (go_at_call 155; refine (cloth_any _ _ _ _ _ _ _ _ _ _ _).mono ?_; rintro e we ⟨rfl, hb2⟩; obtain ⟨hcc2, hff2⟩ := bcell hb2))
  have hB : Below w.heap.size w we := ((((Below.refl _ _).alloc (Nat.le_refl _) _).alloc (by simp) _).alloc (by simp; omega) _).trans ((hb.trans (hb2.mono hb.size)).mono (by simp; omega))
  have hbv : Blk we w.heap.size 140 #[.int .i64 W, .int .i64 H, .int .i64 F, .int .i64 L, .int .i64 X, .int .i64 Y, .slice A n cap, .int .i64 N, .int .i64 PX, .int .i64 PY] := ((((Blk.new w _ _).alloc _).alloc _).below (hb.trans (hb2.mono hb.size)) (by simp; omega))
  have hbr : Blk we (w.heap.size + 1) 187 #[.slice none 0 0, .slice none 0 0] := by
    have h0 := (Blk.new (w.alloc (.cells #[.int .i64 W, .int .i64 H, .int .i64 F, .int .i64 L, .int .i64 X, .int .i64 Y, .slice A n cap, .int .i64 N, .int .i64 PX, .int .i64 PY] 140)) 187 #[.slice none 0 0, .slice none 0 0]).alloc (.cells #[.slice none 0 0, .slice none 0 0] 187)
    rw [World.size_alloc] at h0
    exact h0.below (hb.trans (hb2.mono hb.size)) (by simp)
  have hbt : Blk we (w.heap.size + 1 + 1) 187 #[.slice none 0 0, .slice none 0 0] := by
    have h0 := Blk.new ((w.alloc (.cells #[.int .i64 W, .int .i64 H, .int .i64 F, .int .i64 L, .int .i64 X, .int .i64 Y, .slice A n cap, .int .i64 N, .int .i64 PX, .int .i64 PY] 140)).alloc (.cells #[.slice none 0 0, .slice none 0 0] 187)) 187 #[.slice none 0 0, .slice none 0 0]
    rw [World.size_alloc, World.size_alloc] at h0
    exact h0.below (hb.trans (hb2.mono hb.size)) (by simp)
  clear hcc hff hcc2 hff2 hb hb2
  go_loopg [16] W (fun g i wr => ∃ (k : Nat) (v : Value), g = W - k ∧ k ≤ W ∧ i = .int .i64 k ∧ wr.ownsRow (w.heap.size + 1 + 1 + 1) 191 3 v k (stripRow X F N L PX wd k) ∧
    Blk wr (w.heap.size + 1 + 1) 187 #[v, .slice none 0 0] ∧ Blk wr w.heap.size 140 #[.int .i64 W, .int .i64 H, .int .i64 F, .int .i64 L, .int .i64 X, .int .i64 Y, .slice A n cap, .int .i64 N, .int .i64 PX, .int .i64 PY] ∧ Blk wr (w.heap.size + 1) 187 #[.slice none 0 0, .slice none 0 0] ∧ Below w.heap.size w wr)
  case atStart => exact ⟨0, _, rfl, Nat.zero_le _, rfl, World.ownsRow_nil _ _ _ _, hbt, hbv, hbr, hB⟩
  case round =>
    clear hB hbv hbr hbt
    obtain ⟨k, v, hg, hk, rfl, hown, hbt, hbv, hbr, hB⟩ := hrel
    have HG := Lib.hid hg; clear hg
    by_cases hlt : k < W
    · have hct := fun i => hbt.cell i
      have hcv := fun i => hbv.cell i
      have hft := fun i => hbt.frozen i
      have hlv := hbv.lt
      have hlt2 := hbt.lt
      have hlr := hbr.lt
      go_wp2_with (fail)
      refine wp_region_G (fun w' => Blk w' w.heap.size 140 #[.int .i64 W, .int .i64 H, .int .i64 F, .int .i64 L, .int .i64 X, .int .i64 Y, .slice A n cap, .int .i64 N, .int .i64 PX, .int .i64 PY] ∧ Blk w' (w.heap.size + 1 + 1) 187 #[v, .slice none 0 0]) 15 (by kernel_rfl) ?_
      have hTT := And.intro hbv hbt
      refine wpG_take (i := 0) (v := ?v0) rfl (by kernel_rfl) (by kernel_rfl) (by kernel_rfl) (by kernel_rfl) (fun _ _ _ h => h) (Or.inl ⟨by rfl, ?hy0⟩) hTT ?rest0
      case hy0 => intro wq hSw; have hq1 := fun i => hSw.1.cell i; have hq2 := fun i => hSw.2.cell i; go_simp <;> with_reducible rfl
      simp only [List.getElem_toArray, List.getElem_cons_zero, List.getElem_cons_succ, Act.put, List.setIfInBounds_toArray, List.set_cons_zero, List.set_cons_succ]
      refine wpG_take (i := 1) (v := ?v1) rfl (by kernel_rfl) (by kernel_rfl) (by kernel_rfl) (by kernel_rfl) (fun _ _ _ h => h) (Or.inl ⟨by rfl, ?hy1⟩) hTT ?rest1
      case hy1 => intro wq hSw; have hq1 := fun i => hSw.1.cell i; have hq2 := fun i => hSw.2.cell i; go_simp <;> with_reducible rfl
      simp only [List.getElem_toArray, List.getElem_cons_zero, List.getElem_cons_succ, Act.put, List.setIfInBounds_toArray, List.set_cons_zero, List.set_cons_succ]
      refine wpG_take (i := 2) (v := ?v2) rfl (by kernel_rfl) (by kernel_rfl) (by kernel_rfl) (by kernel_rfl) (fun _ _ _ h => h) (Or.inl ⟨by rfl, ?hy2⟩) hTT ?rest2
      case hy2 => intro wq hSw; have hq1 := fun i => hSw.1.cell i; have hq2 := fun i => hSw.2.cell i; go_simp <;> with_reducible rfl
      simp only [List.getElem_toArray, List.getElem_cons_zero, List.getElem_cons_succ, Act.put, List.setIfInBounds_toArray, List.set_cons_zero, List.set_cons_succ]
      refine wpG_take (i := 3) (v := ?v3) rfl (by kernel_rfl) (by kernel_rfl) (by kernel_rfl) (by kernel_rfl) (fun _ _ _ h => h) (Or.inl ⟨by rfl, ?hy3⟩) hTT ?rest3
      case hy3 => intro wq hSw; have hq1 := fun i => hSw.1.cell i; have hq2 := fun i => hSw.2.cell i; go_simp <;> with_reducible rfl
      simp only [List.getElem_toArray, List.getElem_cons_zero, List.getElem_cons_succ, Act.put, List.setIfInBounds_toArray, List.set_cons_zero, List.set_cons_succ]
      refine wpG_take (i := 4) (v := ?v4) rfl (by kernel_rfl) (by kernel_rfl) (by kernel_rfl) (by kernel_rfl) (fun _ _ _ h => h) (Or.inl ⟨by rfl, ?hy4⟩) hTT ?rest4
      case hy4 => intro wq hSw; have hq1 := fun i => hSw.1.cell i; have hq2 := fun i => hSw.2.cell i; go_simp <;> with_reducible rfl
      simp only [List.getElem_toArray, List.getElem_cons_zero, List.getElem_cons_succ, Act.put, List.setIfInBounds_toArray, List.set_cons_zero, List.set_cons_succ]
      refine wpG_take (i := 5) (v := ?v5) rfl (by kernel_rfl) (by kernel_rfl) (by kernel_rfl) (by kernel_rfl) (fun _ _ _ h => h) (Or.inl ⟨by rfl, ?hy5⟩) hTT ?rest5
      case hy5 => intro wq hSw; have hq1 := fun i => hSw.1.cell i; have hq2 := fun i => hSw.2.cell i; go_simp <;> with_reducible rfl
      simp only [List.getElem_toArray, List.getElem_cons_zero, List.getElem_cons_succ, Act.put, List.setIfInBounds_toArray, List.set_cons_zero, List.set_cons_succ]
      refine wpG_take (i := 6) (v := ?v6) rfl (by kernel_rfl) (by kernel_rfl) (by kernel_rfl) (by kernel_rfl) (fun _ _ _ h => h) (Or.inl ⟨by rfl, ?hy6⟩) hTT ?rest6
      case hy6 => intro wq hSw; have hq1 := fun i => hSw.1.cell i; have hq2 := fun i => hSw.2.cell i; go_simp <;> with_reducible rfl
      simp only [List.getElem_toArray, List.getElem_cons_zero, List.getElem_cons_succ, Act.put, List.setIfInBounds_toArray, List.set_cons_zero, List.set_cons_succ]
      refine wpG_take (i := 8) (v := ?v8) rfl (by kernel_rfl) (by kernel_rfl) (by kernel_rfl) (by kernel_rfl) (fun _ _ _ h => h) (Or.inl ⟨by rfl, ?hy8⟩) hTT ?rest8
      case hy8 => intro wq hSw; have hq1 := fun i => hSw.1.cell i; have hq2 := fun i => hSw.2.cell i; go_simp <;> with_reducible rfl
      simp only [List.getElem_toArray, List.getElem_cons_zero, List.getElem_cons_succ, Act.put, List.setIfInBounds_toArray, List.set_cons_zero, List.set_cons_succ]
      refine wpG_take (i := 10) (v := ?v10) rfl (by kernel_rfl) (by kernel_rfl) (by kernel_rfl) (by kernel_rfl) (fun _ _ _ h => h) (Or.inl ⟨by rfl, ?hy10⟩) hTT ?rest10
      case hy10 => intro wq hSw; have hq1 := fun i => hSw.1.cell i; have hq2 := fun i => hSw.2.cell i; go_simp <;> with_reducible rfl
      simp only [List.getElem_toArray, List.getElem_cons_zero, List.getElem_cons_succ, Act.put, List.setIfInBounds_toArray, List.set_cons_zero, List.set_cons_succ]
      refine wpG_one (i := 7) rfl (by kernel_rfl) (fun K hK => ?_)
      go_simp
      refine (size_any _ _ _ _ _ _ _ _ _ A n cap rows _ (by exact (hr.below hB).more hB.size) hn hn2 wd hw).mono ?_; rintro e wx ⟨rfl, hbx⟩
      have hbt1 := Blk.below (w := wr.drew) hbt hbx hlt2; have hbv1 := Blk.below (w := wr.drew) hbv hbx hlv; have hbr1 := Blk.below (w := wr.drew) hbr hbx hlr; have hown1 := ownsRow_below' (w := wr.drew) hown hbx; have hz1 : wr.heap.size ≤ wx.heap.size := hbx.size; have hB1 : Below w.heap.size w wx := Below.trans (b := wr.drew) hB.drew (hbx.mono hB.size); clear hTT; have hTT := And.intro hbv1 hbt1; dsimp only
      refine hK _ _ (.inr hTT) ?_
      clear hK K
      try simp only [List.getElem_toArray, List.getElem_cons_zero, List.getElem_cons_succ, Act.put, List.setIfInBounds_toArray, List.set_cons_zero, List.set_cons_succ]
      refine wpG_take (i := 9) (v := ?v9) rfl (by kernel_rfl) (by kernel_rfl) (by kernel_rfl) (by kernel_rfl) (fun _ _ _ h => h) (Or.inl ⟨by rfl, ?hy9⟩) hTT ?rest9
      case hy9 => intro wq hSw; have hq1 := fun i => hSw.1.cell i; have hq2 := fun i => hSw.2.cell i; go_simp <;> with_reducible rfl
      simp only [List.getElem_toArray, List.getElem_cons_zero, List.getElem_cons_succ, Act.put, List.setIfInBounds_toArray, List.set_cons_zero, List.set_cons_succ]
      refine wpG_one (i := 11) rfl (by kernel_rfl) (fun K hK => ?_)
      go_simp
      refine (strip_across W H F L X Y N PX PY (.slice A n cap) rfl wd k _ x1 x2 h1 h2 h3 h4 h5 h6 p1 p2 hwd (by omega)).mono ?_; rintro e wy ⟨rfl, hby⟩
      have hbt2 := hbt1.below hby hbt1.lt; have hbv2 := hbv1.below hby hbv1.lt; have hbr2 := hbr1.below hby hbr1.lt; have hown2 := ownsRow_below' hown1 hby; have hz2 : wr.heap.size ≤ wy.heap.size := Nat.le_trans hz1 hby.size; have hB2 := hB1.trans (hby.mono hB1.size); clear hTT; have hTT := And.intro hbv2 hbt2; dsimp only
      refine hK _ _ (.inr hTT) ?_
      clear hK K
      try simp only [List.getElem_toArray, List.getElem_cons_zero, List.getElem_cons_succ, Act.put, List.setIfInBounds_toArray, List.set_cons_zero, List.set_cons_succ]
      refine wpG_one (i := 12) rfl (by kernel_rfl) (fun K hK => ?_)
      go_simp
      have hbt3 := hbt2.alloc (.cells (stripC X F N L PX wd k).toArray 191); have hbv3 := hbv2.alloc (.cells (stripC X F N L PX wd k).toArray 191); have hbr3 := hbr2.alloc (.cells (stripC X F N L PX wd k).toArray 191); have hown3 := hown2.alloc (.cells (stripC X F N L PX wd k).toArray 191); have hB3 := hB2.alloc hB2.size (.cells (stripC X F N L PX wd k).toArray 191); clear hTT; have hTT := And.intro hbv3 hbt3
      refine hK _ _ (.inr hTT) ?_
      clear hK K
      try simp only [List.getElem_toArray, List.getElem_cons_zero, List.getElem_cons_succ, Act.put, List.setIfInBounds_toArray, List.set_cons_zero, List.set_cons_succ]
      refine wpG_one (i := 13) rfl (by kernel_rfl) (fun K hK => ?_)
      rw [if_pos (by rfl)]; refine wp_append_any _ _ _ 186 rfl (w.heap.size + 1 + 1 + 1) 191 i0 (.agg #[.int .i64 0, .int .i64 0, .bool false]) 3 24 Tryz.underlying186 hi hz0 hz1' hz2' rfl (by decide) v k (stripRow X F N L PX wd k) rfl hown3 (wy.heap.size + 1) (some ⟨wy.heap.size, 0, none⟩) 1 1 (stripC X F N L PX wd k) rfl (Rd.blkN (Blk.new _ _ _) rfl (Nat.lt_succ_self _)).reads (by simp [stripC, Value.oneCell']) (by unfold maxLen; omega) (by omega) (by simp; omega) (fun v' w' hown' hgrow hob => ?_)
      obtain ⟨g', cap', rfl, hg1, hg2⟩ := hown'.form (Nat.succ_pos _); have hbt4 := hbt3.grown hgrow (fun e => own_blk_ne hown3 hbt3 (by decide) e.symm); have hbv4 := hbv3.grown hgrow (fun e => own_blk_ne hown3 hbv3 (by decide) e.symm); have hbr4 := hbr3.grown hgrow (fun e => own_blk_ne hown3 hbr3 (by decide) e.symm); have hB4 := hB3.grown hgrow hB3.size (fun q hq => by have := (hown3.lt q hq).1; omega); clear hTT; have hTT := And.intro hbv4 hbt4
      refine hK _ _ (.inr hTT) ?_
      clear hK K
      try simp only [List.getElem_toArray, List.getElem_cons_zero, List.getElem_cons_succ, Act.put, List.setIfInBounds_toArray, List.set_cons_zero, List.set_cons_succ]
      refine wpG_take (i := 14) (v := ?v14) rfl (by kernel_rfl) (by kernel_rfl) (by kernel_rfl) (by kernel_rfl) (fun _ _ _ h => h) (Or.inl ⟨by rfl, ?hy14⟩) hTT ?rest14
      case hy14 => intro wq hSw; have hq1 := fun i => hSw.1.cell i; have hq2 := fun i => hSw.2.cell i; go_simp <;> with_reducible rfl
      simp only [List.getElem_toArray, List.getElem_cons_zero, List.getElem_cons_succ, Act.put, List.setIfInBounds_toArray, List.set_cons_zero, List.set_cons_succ]
      have hct4 := fun i => hbt4.cell i
      have hft4 := fun i => hbt4.frozen i
      refine wpG_one (i := 15) rfl (by kernel_rfl) (fun K hK => ?_)
      go_simp
      refine hK _ _ (.inl rfl) ?_
      clear hK K
      try simp only [List.getElem_toArray, List.getElem_cons_zero, List.getElem_cons_succ, Act.put, List.setIfInBounds_toArray, List.set_cons_zero, List.set_cons_succ]
      refine wpG_done (by kernel_rfl) ?_ _
      go_wp2_with (fail)
      go_roundg (W - (k + 1))
      case measure => rw [HG.out]; omega
      case rel => exact ⟨k + 1, _, rfl, by omega, by go_num, by rw [stripRow_succ]; exact ownsRow_setCell_other hown' (by simp [Value.ownBlock]; omega) _, hbt4.set_ 0 _, hbv4.far (p := ⟨w.heap.size + 1 + 1, 0, none⟩) (by show _ ≠ w.heap.size + 1 + 1; omega) _, hbr4.far (p := ⟨w.heap.size + 1 + 1, 0, none⟩) (by show _ ≠ w.heap.size + 1 + 1; omega) _, hB4.setCell (p := ⟨w.heap.size + 1 + 1, 0, none⟩) (by show _ ≤ w.heap.size + 1 + 1; omega) _⟩
    · obtain rfl : W = k := by omega
      have hct := fun i => hbt.cell i
      have hcv := fun i => hbv.cell i
      have hlv := hbv.lt
      go_wp2_with (fail)
      rw [rounds_succ]
      go_wp2_with (first | (go_at_call 155; refine (cloth_any _ _ _ _ _ _ _ _ _ _ _).mono ?_; rintro e we2 ⟨rfl, hb2⟩))
      replace hown := ownsRow_below' hown hb2
      replace hbt := hbt.below hb2 hbt.lt
      replace hbr := hbr.below hb2 hbr.lt
      replace hB := hB.trans (hb2.mono hB.size)
      replace hbv := hbv.below hb2 hbv.lt
      clear hct hcv hlv hb2
      go_loopg [16] H (fun g i wr => ∃ (k : Nat) (u : Value), g = H - k ∧ k ≤ H ∧ i = .int .i64 k ∧ wr.ownsRow (w.heap.size + 1 + 1 + 1) 191 3 v W (stripRow X F N L PX wd W) ∧ wr.ownsRow (w.heap.size + 1 + 1 + 1) 191 3 u k (stripRow Y F N L PY n k) ∧ (v.ownBlock = none ∨ v.ownBlock ≠ u.ownBlock) ∧
        Blk wr (w.heap.size + 1 + 1) 187 #[v, u] ∧ Blk wr w.heap.size 140 #[.int .i64 W, .int .i64 H, .int .i64 F, .int .i64 L, .int .i64 X, .int .i64 Y, .slice A n cap, .int .i64 N, .int .i64 PX, .int .i64 PY] ∧ Blk wr (w.heap.size + 1) 187 #[.slice none 0 0, .slice none 0 0] ∧ Below w.heap.size w wr)
      case atStart => exact ⟨0, _, rfl, Nat.zero_le _, rfl, hown, World.ownsRow_nil _ _ _ _, by cases v.ownBlock <;> simp [Value.ownBlock], hbt, hbv, hbr, hB⟩
      case round =>
        clear hB hbv hbr hbt hown HG
        obtain ⟨k, u, hg, hk, rfl, hov, hown, hdis, hbt, hbv, hbr, hB⟩ := hrel
        have HG := Lib.hid hg; clear hg
        have HD := Lib.hid hdis; clear hdis
        by_cases hlt : k < H
        · have hct := fun i => hbt.cell i
          have hcv := fun i => hbv.cell i
          have hft := fun i => hbt.frozen i
          have hlv := hbv.lt
          have hlt2 := hbt.lt
          have hlr := hbr.lt
          go_wp2_with (fail)
          refine wp_region_G (fun w' => Blk w' w.heap.size 140 #[.int .i64 W, .int .i64 H, .int .i64 F, .int .i64 L, .int .i64 X, .int .i64 Y, .slice A n cap, .int .i64 N, .int .i64 PX, .int .i64 PY] ∧ Blk w' (w.heap.size + 1 + 1) 187 #[v, u]) 15 (by kernel_rfl) ?_
          have hTT := And.intro hbv hbt
          refine wpG_take (i := 0) (v := ?vb0) rfl (by kernel_rfl) (by kernel_rfl) (by kernel_rfl) (by kernel_rfl) (fun _ _ _ h => h) (Or.inl ⟨by rfl, ?hyb0⟩) hTT ?restb0
          case hyb0 => intro wq hSw; have hq1 := fun i => hSw.1.cell i; have hq2 := fun i => hSw.2.cell i; go_simp <;> with_reducible rfl
          simp only [List.getElem_toArray, List.getElem_cons_zero, List.getElem_cons_succ, Act.put, List.setIfInBounds_toArray, List.set_cons_zero, List.set_cons_succ]
          refine wpG_take (i := 1) (v := ?vb1) rfl (by kernel_rfl) (by kernel_rfl) (by kernel_rfl) (by kernel_rfl) (fun _ _ _ h => h) (Or.inl ⟨by rfl, ?hyb1⟩) hTT ?restb1
          case hyb1 => intro wq hSw; have hq1 := fun i => hSw.1.cell i; have hq2 := fun i => hSw.2.cell i; go_simp <;> with_reducible rfl
          simp only [List.getElem_toArray, List.getElem_cons_zero, List.getElem_cons_succ, Act.put, List.setIfInBounds_toArray, List.set_cons_zero, List.set_cons_succ]
          refine wpG_take (i := 2) (v := ?vb2) rfl (by kernel_rfl) (by kernel_rfl) (by kernel_rfl) (by kernel_rfl) (fun _ _ _ h => h) (Or.inl ⟨by rfl, ?hyb2⟩) hTT ?restb2
          case hyb2 => intro wq hSw; have hq1 := fun i => hSw.1.cell i; have hq2 := fun i => hSw.2.cell i; go_simp <;> with_reducible rfl
          simp only [List.getElem_toArray, List.getElem_cons_zero, List.getElem_cons_succ, Act.put, List.setIfInBounds_toArray, List.set_cons_zero, List.set_cons_succ]
          refine wpG_take (i := 3) (v := ?vb3) rfl (by kernel_rfl) (by kernel_rfl) (by kernel_rfl) (by kernel_rfl) (fun _ _ _ h => h) (Or.inl ⟨by rfl, ?hyb3⟩) hTT ?restb3
          case hyb3 => intro wq hSw; have hq1 := fun i => hSw.1.cell i; have hq2 := fun i => hSw.2.cell i; go_simp <;> with_reducible rfl
          simp only [List.getElem_toArray, List.getElem_cons_zero, List.getElem_cons_succ, Act.put, List.setIfInBounds_toArray, List.set_cons_zero, List.set_cons_succ]
          refine wpG_take (i := 4) (v := ?vb4) rfl (by kernel_rfl) (by kernel_rfl) (by kernel_rfl) (by kernel_rfl) (fun _ _ _ h => h) (Or.inl ⟨by rfl, ?hyb4⟩) hTT ?restb4
          case hyb4 => intro wq hSw; have hq1 := fun i => hSw.1.cell i; have hq2 := fun i => hSw.2.cell i; go_simp <;> with_reducible rfl
          simp only [List.getElem_toArray, List.getElem_cons_zero, List.getElem_cons_succ, Act.put, List.setIfInBounds_toArray, List.set_cons_zero, List.set_cons_succ]
          refine wpG_take (i := 5) (v := ?vb5) rfl (by kernel_rfl) (by kernel_rfl) (by kernel_rfl) (by kernel_rfl) (fun _ _ _ h => h) (Or.inl ⟨by rfl, ?hyb5⟩) hTT ?restb5
          case hyb5 => intro wq hSw; have hq1 := fun i => hSw.1.cell i; have hq2 := fun i => hSw.2.cell i; go_simp <;> with_reducible rfl
          simp only [List.getElem_toArray, List.getElem_cons_zero, List.getElem_cons_succ, Act.put, List.setIfInBounds_toArray, List.set_cons_zero, List.set_cons_succ]
          refine wpG_take (i := 6) (v := ?vb6) rfl (by kernel_rfl) (by kernel_rfl) (by kernel_rfl) (by kernel_rfl) (fun _ _ _ h => h) (Or.inl ⟨by rfl, ?hyb6⟩) hTT ?restb6
          case hyb6 => intro wq hSw; have hq1 := fun i => hSw.1.cell i; have hq2 := fun i => hSw.2.cell i; go_simp <;> with_reducible rfl
          simp only [List.getElem_toArray, List.getElem_cons_zero, List.getElem_cons_succ, Act.put, List.setIfInBounds_toArray, List.set_cons_zero, List.set_cons_succ]
          refine wpG_take (i := 8) (v := ?vb8) rfl (by kernel_rfl) (by kernel_rfl) (by kernel_rfl) (by kernel_rfl) (fun _ _ _ h => h) (Or.inl ⟨by rfl, ?hyb8⟩) hTT ?restb8
          case hyb8 => intro wq hSw; have hq1 := fun i => hSw.1.cell i; have hq2 := fun i => hSw.2.cell i; go_simp <;> with_reducible rfl
          simp only [List.getElem_toArray, List.getElem_cons_zero, List.getElem_cons_succ, Act.put, List.setIfInBounds_toArray, List.set_cons_zero, List.set_cons_succ]
          refine wpG_take (i := 10) (v := ?vb10) rfl (by kernel_rfl) (by kernel_rfl) (by kernel_rfl) (by kernel_rfl) (fun _ _ _ h => h) (Or.inl ⟨by rfl, ?hyb10⟩) hTT ?restb10
          case hyb10 => intro wq hSw; have hq1 := fun i => hSw.1.cell i; have hq2 := fun i => hSw.2.cell i; go_simp <;> with_reducible rfl
          simp only [List.getElem_toArray, List.getElem_cons_zero, List.getElem_cons_succ, Act.put, List.setIfInBounds_toArray, List.set_cons_zero, List.set_cons_succ]
          refine wpG_one (i := 7) rfl (by kernel_rfl) (fun K hK => ?_)
          go_simp
          refine (size_any _ _ _ _ _ _ _ _ _ A n cap rows _ (by exact (hr.below hB).more hB.size) hn hn2 wd hw).mono ?_; rintro e wx ⟨rfl, hbx⟩
          have hbt1 := Blk.below (w := wr.drew) hbt hbx hlt2; have hbv1 := Blk.below (w := wr.drew) hbv hbx hlv; have hbr1 := Blk.below (w := wr.drew) hbr hbx hlr; have hown1 := ownsRow_below' (w := wr.drew) hown hbx; have hov1 := ownsRow_below' (w := wr.drew) hov hbx; have hz1 : wr.heap.size ≤ wx.heap.size := hbx.size; have hB1 : Below w.heap.size w wx := Below.trans (b := wr.drew) hB.drew (hbx.mono hB.size); clear hTT; have hTT := And.intro hbv1 hbt1; dsimp only
          refine hK _ _ (.inr hTT) ?_
          clear hK K
          try simp only [List.getElem_toArray, List.getElem_cons_zero, List.getElem_cons_succ, Act.put, List.setIfInBounds_toArray, List.set_cons_zero, List.set_cons_succ]
          refine wpG_take (i := 9) (v := ?vb9) rfl (by kernel_rfl) (by kernel_rfl) (by kernel_rfl) (by kernel_rfl) (fun _ _ _ h => h) (Or.inl ⟨by rfl, ?hyb9⟩) hTT ?restb9
          case hyb9 => intro wq hSw; have hq1 := fun i => hSw.1.cell i; have hq2 := fun i => hSw.2.cell i; go_simp <;> with_reducible rfl
          simp only [List.getElem_toArray, List.getElem_cons_zero, List.getElem_cons_succ, Act.put, List.setIfInBounds_toArray, List.set_cons_zero, List.set_cons_succ]
          refine wpG_one (i := 11) rfl (by kernel_rfl) (fun K hK => ?_)
          go_simp
          refine (strip_down W H F L X Y N PX PY (.slice A n cap) rfl n k _ y1 y2 h1 h2 h3 h4 h5 h6 p3 p4 hn2 (by omega)).mono ?_; rintro e wy ⟨rfl, hby⟩
          have hbt2 := hbt1.below hby hbt1.lt; have hbv2 := hbv1.below hby hbv1.lt; have hbr2 := hbr1.below hby hbr1.lt; have hown2 := ownsRow_below' hown1 hby; have hov2 := ownsRow_below' hov1 hby; have hz2 : wr.heap.size ≤ wy.heap.size := Nat.le_trans hz1 hby.size; have hB2 := hB1.trans (hby.mono hB1.size); clear hTT; have hTT := And.intro hbv2 hbt2; dsimp only
          refine hK _ _ (.inr hTT) ?_
          clear hK K
          try simp only [List.getElem_toArray, List.getElem_cons_zero, List.getElem_cons_succ, Act.put, List.setIfInBounds_toArray, List.set_cons_zero, List.set_cons_succ]
          refine wpG_one (i := 12) rfl (by kernel_rfl) (fun K hK => ?_)
          go_simp
          have hbt3 := hbt2.alloc (.cells (stripC Y F N L PY n k).toArray 191); have hbv3 := hbv2.alloc (.cells (stripC Y F N L PY n k).toArray 191); have hbr3 := hbr2.alloc (.cells (stripC Y F N L PY n k).toArray 191); have hown3 := hown2.alloc (.cells (stripC Y F N L PY n k).toArray 191); have hov3 := hov2.alloc (.cells (stripC Y F N L PY n k).toArray 191); have hB3 := hB2.alloc hB2.size (.cells (stripC Y F N L PY n k).toArray 191); clear hTT; have hTT := And.intro hbv3 hbt3
          refine hK _ _ (.inr hTT) ?_
          clear hK K
          try simp only [List.getElem_toArray, List.getElem_cons_zero, List.getElem_cons_succ, Act.put, List.setIfInBounds_toArray, List.set_cons_zero, List.set_cons_succ]
          refine wpG_one (i := 13) rfl (by kernel_rfl) (fun K hK => ?_)
          rw [if_pos (by rfl)]; refine wp_append_any _ _ _ 186 rfl (w.heap.size + 1 + 1 + 1) 191 i0 (.agg #[.int .i64 0, .int .i64 0, .bool false]) 3 24 Tryz.underlying186 hi hz0 hz1' hz2' rfl (by decide) u k (stripRow Y F N L PY n k) rfl hown3 (wy.heap.size + 1) (some ⟨wy.heap.size, 0, none⟩) 1 1 (stripC Y F N L PY n k) rfl (Rd.blkN (Blk.new _ _ _) rfl (Nat.lt_succ_self _)).reads (by simp [stripC, Value.oneCell']) (by unfold maxLen; omega) (by omega) (by simp; omega) (fun v' w' hown' hgrow hob => ?_)
          have hov4 := hov3.kept hgrow HD.out; have hdis' : v.ownBlock = none ∨ v.ownBlock ≠ v'.ownBlock := disj_step HD.out hob (fun q hq => (hov3.lt q hq).2); obtain ⟨g', cap', rfl, hg1, hg2⟩ := hown'.form (Nat.succ_pos _); have HD' := Lib.hid hdis'; clear hdis'; have hbt4 := hbt3.grown hgrow (fun e => own_blk_ne hown3 hbt3 (by decide) e.symm); have hbv4 := hbv3.grown hgrow (fun e => own_blk_ne hown3 hbv3 (by decide) e.symm); have hbr4 := hbr3.grown hgrow (fun e => own_blk_ne hown3 hbr3 (by decide) e.symm); have hB4 := hB3.grown hgrow hB3.size (fun q hq => by have := (hown3.lt q hq).1; omega); clear hTT; have hTT := And.intro hbv4 hbt4
          refine hK _ _ (.inr hTT) ?_
          clear hK K
          try simp only [List.getElem_toArray, List.getElem_cons_zero, List.getElem_cons_succ, Act.put, List.setIfInBounds_toArray, List.set_cons_zero, List.set_cons_succ]
          refine wpG_take (i := 14) (v := ?vb14) rfl (by kernel_rfl) (by kernel_rfl) (by kernel_rfl) (by kernel_rfl) (fun _ _ _ h => h) (Or.inl ⟨by rfl, ?hyb14⟩) hTT ?restb14
          case hyb14 => intro wq hSw; have hq1 := fun i => hSw.1.cell i; have hq2 := fun i => hSw.2.cell i; go_simp <;> with_reducible rfl
          simp only [List.getElem_toArray, List.getElem_cons_zero, List.getElem_cons_succ, Act.put, List.setIfInBounds_toArray, List.set_cons_zero, List.set_cons_succ]
          have hct4 := fun i => hbt4.cell i
          have hft4 := fun i => hbt4.frozen i
          refine wpG_one (i := 15) rfl (by kernel_rfl) (fun K hK => ?_)
          go_simp
          refine hK _ _ (.inl rfl) ?_
          clear hK K
          try simp only [List.getElem_toArray, List.getElem_cons_zero, List.getElem_cons_succ, Act.put, List.setIfInBounds_toArray, List.set_cons_zero, List.set_cons_succ]
          refine wpG_done (by kernel_rfl) ?_ _
          have hovb : v.ownBlock ≠ some (w.heap.size + 1 + 1) := own_blk_ne hov4 hbt4 (by decide)
          go_wp2_with (fail)
          go_roundg (H - (k + 1))
          case measure => rw [HG.out]; omega
          case rel => exact ⟨k + 1, _, rfl, by omega, by go_num, ownsRow_setCell_other (a := ⟨w.heap.size + 1 + 1, 1, none⟩) hov4 hovb _, by rw [stripRow_succ]; exact ownsRow_setCell_other hown' (by simp [Value.ownBlock]; omega) _, HD'.out, hbt4.set_ 1 _, hbv4.far (p := ⟨w.heap.size + 1 + 1, 1, none⟩) (by show _ ≠ w.heap.size + 1 + 1; omega) _, hbr4.far (p := ⟨w.heap.size + 1 + 1, 1, none⟩) (by show _ ≠ w.heap.size + 1 + 1; omega) _, hB4.setCell (p := ⟨w.heap.size + 1 + 1, 1, none⟩) (by show _ ≤ w.heap.size + 1 + 1; omega) _⟩
        · obtain rfl : H = k := by omega
          have hct := fun i => hbt.cell i
          have hcr := fun i => hbr.cell i
          have hfr := fun i => hbr.frozen i
          have hlr := hbr.lt
          go_wp2_with (fail)
          rw [rounds_succ]
          have hfv : ∃ a0 n0 c0, v = .slice a0 n0 c0 := by rcases hov.2 with ⟨h, _⟩ | ⟨g0, c0, cu, h, _⟩ <;> exact ⟨_, _, _, h⟩
          have hfu : ∃ a0 n0 c0, u = .slice a0 n0 c0 := by rcases hown.2 with ⟨h, _⟩ | ⟨g0, c0, cu, h, _⟩ <;> exact ⟨_, _, _, h⟩
          obtain ⟨a0, n0, c0, rfl⟩ := hfv
          obtain ⟨a1, n1, c1, rfl⟩ := hfu
          go_wp2_with (fail)
          refine bodyPost_ret (v := .agg #[.slice a0 n0 c0, .slice a1 n1 c1]) ?_ rfl ⟨_, _, rfl, ?_, ?_, ?_⟩
          · simp [results, Tryz.results147, go_sem, hlr, hcr]
          · refine own_mono ?_ (show w.heap.size ≤ w.heap.size + 1 + 1 + 1 by omega)
            exact (ownsRow_setCell_other (a := ⟨w.heap.size + 1, 1, none⟩) (ownsRow_setCell_other (a := ⟨w.heap.size + 1, 0, none⟩) hov (fun e => by have := (hov.lt _ e).1; simp at this; omega) _) (fun e => by have := (hov.lt _ e).1; simp at this; omega) _)
          · refine own_mono ?_ (show w.heap.size ≤ w.heap.size + 1 + 1 + 1 by omega)
            exact (ownsRow_setCell_other (a := ⟨w.heap.size + 1, 1, none⟩) (ownsRow_setCell_other (a := ⟨w.heap.size + 1, 0, none⟩) hown (fun e => by have := (hown.lt _ e).1; simp at this; omega) _) (fun e => by have := (hown.lt _ e).1; simp at this; omega) _)
          · exact (hB.setCell (p := ⟨w.heap.size + 1, 0, none⟩) (by show _ ≤ w.heap.size + 1; omega) _).setCell (p := ⟨w.heap.size + 1, 1, none⟩) (by show _ ≤ w.heap.size + 1; omega) _
end Go.Proofs.YtifddfchpknkbaaGreatDoor
