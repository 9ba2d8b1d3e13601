import Derived.Test.YtifddfchpknkbaaGreatDoorE
import Derived.Deep.RegionHeld3
import Derived.Test.YtifddfchpknkbaaGreatDoorK
import Derived.OneCell
import Derived.Laws.BytesArg
set_option linter.unusedVariables false
set_option linter.unusedSimpArgs false
namespace Go.Proofs.YtifddfchpknkbaaGreatDoor
open Go.RowKit
set_option maxHeartbeats 400000 in
theorem size_any (W H F L X Y N PX PY : Int) (A : Option Addr) (n cap : Nat) (rows : List ByteArray) (w : World) (hr : Rd w w.heap.size 1 A n (rows.map Value.string)) (hn : 0 < n) (hn2 : n ≤ 50) (wd : Nat) (hw : ∀ r ∈ rows, r.size = wd) :
    Calls Tryz.prog 154 #[.agg #[.int .i64 W, .int .i64 H, .int .i64 F, .int .i64 L, .int .i64 X, .int .i64 Y, .slice A n cap, .int .i64 N, .int .i64 PX, .int .i64 PY]] w
      fun r w' => r = .returned (.agg #[.int .i64 wd, .int .i64 n]) ∧ Below w.heap.size w w' := by
  obtain ⟨b, off, hz, rfl, hb, hc⟩ := hr.atm hn
  have hsz := hw rows[0] (List.getElem_mem hz)
  rw [Nat.add_zero] at hc
  have hn' : (0 : Int) < (n : Int) := by omega
  generalize rows[0] = r0 at hc hsz
  subst hsz
  go_enter Tryz.func154, Tryz.ntmps154
  go_wp2
  go_region
  all_goals
    go_wp2
    refine bodyPost_ret (v := .agg #[.int .i64 r0.size, .int .i64 n]) (by simp [results, Tryz.results154, go_sem]) rfl ⟨rfl, ?_⟩
    exact (((Below.refl _ _).alloc (Nat.le_refl _) _).alloc (by simp) _).drew

theorem ownsRow_below {w w' : World} {base : Nat} {e : TypeId} {size : Nat} {v : Value} {n : Nat} {xs : List Value} {B : Nat} (h : w.ownsRow base e size v n xs) (hb : Below B w w') (hB : ∀ g, v.ownBlock = some g → g < B) : w'.ownsRow base e size v n xs := by
  refine ⟨h.1, ?_⟩
  rcases h.2 with hn | ⟨g, cap, cur, rfl, hbb, hgg, rest⟩
  · exact .inl hn
  · exact .inr ⟨g, cap, cur, rfl, hbb, (hb.block g (hB g rfl)).trans hgg, rest⟩
theorem own_mono {w : World} {base base' : Nat} {e : TypeId} {size : Nat} {v : Value} {n : Nat} {xs : List Value} (h : w.ownsRow base e size v n xs) (hb : base' ≤ base) : w.ownsRow base' e size v n xs := by
  refine ⟨h.1, ?_⟩
  rcases h.2 with hn | ⟨g, cap, cur, rfl, hbb, rest⟩
  · exact .inl hn
  · exact .inr ⟨g, cap, cur, rfl, by omega, rest⟩
theorem ownsRow_below' {w w' : World} {base : Nat} {e : TypeId} {size : Nat} {v : Value} {n : Nat} {xs : List Value} (h : w.ownsRow base e size v n xs) (hb : Below w.heap.size w w') : w'.ownsRow base e size v n xs :=
  ownsRow_below h hb fun g hg => (h.lt g hg).2
theorem info191 : (Tryz.prog.info? 191).map (fun i => (i.zero, i.size, i.bytes)) = some (some (.agg #[.int .i64 0, .int .i64 0, .bool false]), 3, 24) := by kernel_rfl

theorem disj_step {a b c : Option Nat} {m : Nat} (h : a = none ∨ a ≠ b) (hc : c = b ∨ c = some m) (hm : ∀ q, a = some q → q < m) : a = none ∨ a ≠ c := by
  rcases h with h | h
  · exact .inl h
  · rcases hc with rfl | rfl
    · exact .inr h
    · cases a with
      | none => exact .inl rfl
      | some q => exact .inr (fun e => by injection e with e; have := hm q rfl; omega)
theorem Rd.blkN {w : World} {B g n sz : Nat} {t : TypeId} {cs : Array Value} (h : Blk w g t cs) (hn : cs.size = n * sz) (hg : g < B) : Rd w B sz (some ⟨g, 0, none⟩) n cs.toList :=
  ⟨by simpa using hn, fun _ => ⟨g, 0, rfl, hg, fun j u hu => by rw [Nat.zero_add, h.cell j]; simpa using hu⟩⟩

def stripC (ax F N L P : Int) (sz k : Nat) : List Value := [.int .i64 (firstS ax F N P (lowV F N L k) sz), .int .i64 (endS ax F N P (lowV F N L k) (highV F N L k) sz), .bool (insideS ax F N P (lowV F N L k) (highV F N L k) sz)]
def stripRow (ax F N L P : Int) (sz m : Nat) : List Value := (List.range m).flatMap (stripC ax F N L P sz)
theorem stripRow_succ (ax F N L P : Int) (sz m : Nat) : stripRow ax F N L P sz (m + 1) = stripRow ax F N L P sz m ++ stripC ax F N L P sz m := by
  simp [stripRow, List.range_succ, List.flatMap_append]

def TwoRows (w : World) (b : Nat) (xs ys : List Value) (n m : Nat) (e : Ending) (w' : World) : Prop :=
  ∃ v0 v1, e = .returned (.agg #[v0, v1]) ∧ w'.ownsRow b 191 3 v0 n xs ∧ w'.ownsRow b 191 3 v1 m ys ∧ Below w.heap.size w w'

set_option maxRecDepth 100000 in
set_option maxHeartbeats 1600000 in
theorem strips_any (W H : Nat) (F L X Y N PX PY : Int) (A : Option Addr) (n cap : Nat) (rows : List ByteArray) (wd : Nat) (w : World) (hr : Rd w w.heap.size 1 A n (rows.map Value.string)) (hn : 0 < n) (hn2 : n ≤ 50) (hw : ∀ r ∈ rows, r.size = wd) (hwd : wd ≤ 50)
    (w1 : W ≤ 50) (w2 : H ≤ 50) (x1 : 0 ≤ X) (x2 : X ≤ 100) (y1 : 0 ≤ Y) (y2 : Y ≤ 100) (h1 : 0 ≤ F) (h2 : F ≤ 100) (h3 : 0 ≤ N) (h4 : N ≤ 100) (h5 : 0 ≤ L) (h6 : L ≤ 100) (p1 : -50 ≤ PX) (p2 : PX ≤ 50) (p3 : -50 ≤ PY) (p4 : PY ≤ 50) :
    Calls Tryz.prog 147 #[.agg #[.int .i64 W, .int .i64 H, .int .i64 F, .int .i64 L, .int .i64 X, .int .i64 Y, .slice A n cap, .int .i64 N, .int .i64 PX, .int .i64 PY]] w
      (TwoRows w w.heap.size (stripRow X F N L PX wd W) (stripRow Y F N L PY n H) W H) := by
  obtain ⟨i0, hi, hz0, hz1', hz2'⟩ := info_parts info191
  have hT := Below.refl w.heap.size w
  have ix0 : ∀ w, (Instr.index 196 (.agg #[.func (.func 190) #[] #[], .func (.func 191) #[] #[]]) (.int .i64 0)).run Tryz.prog w = .ok (.func (.func 190) #[] #[]) w := fun _ => by kernel_rfl
  have ix1 : ∀ w, (Instr.index 196 (.agg #[.func (.func 190) #[] #[], .func (.func 191) #[] #[]]) (.int .i64 1)).run Tryz.prog w = .ok (.func (.func 191) #[] #[]) w := fun _ => by kernel_rfl
  have iy0 : ∀ a b w, (Instr.index 199 (.agg #[.int .i64 a, .int .i64 b]) (.int .i64 0)).run Tryz.prog w = .ok (.int .i64 a) w := fun _ _ _ => by kernel_rfl
  have iy1 : ∀ a b w, (Instr.index 199 (.agg #[.int .i64 a, .int .i64 b]) (.int .i64 1)).run Tryz.prog w = .ok (.int .i64 b) w := fun _ _ _ => by kernel_rfl
  go_enter Tryz.func147, Tryz.ntmps147
  go_wp2_with (first | (go_at_call 152; refine (directions_any _).mono ?_; rintro e wd1 ⟨rfl, hb⟩; obtain ⟨hcc, hff⟩ := bcell hb))
  refine wp_loop_rounds 3 ?_
  rw [rounds_succ]
  go_wp2_with (first | (go_at_call 155; refine (cloth_any _ _ _ _ _ _ _ _ _ _ _).mono ?_; rintro e we ⟨rfl, hb2⟩; obtain ⟨hcc2, hff2⟩ := bcell hb2))
  have hB : Below w.heap.size w we := ((((Below.refl _ _).alloc (Nat.le_refl _) _).alloc (by simp) _).alloc (by simp; omega) _).trans ((hb.trans (hb2.mono hb.size)).mono (by simp; omega))
  have hbv : Blk we w.heap.size 140 #[.int .i64 W, .int .i64 H, .int .i64 F, .int .i64 L, .int .i64 X, .int .i64 Y, .slice A n cap, .int .i64 N, .int .i64 PX, .int .i64 PY] := ((((Blk.new w _ _).alloc _).alloc _).below (hb.trans (hb2.mono hb.size)) (by simp; omega))
  have hbr : Blk we (w.heap.size + 1) 187 #[.slice none 0 0, .slice none 0 0] := by
    have h0 := (Blk.new (w.alloc (.cells #[.int .i64 W, .int .i64 H, .int .i64 F, .int .i64 L, .int .i64 X, .int .i64 Y, .slice A n cap, .int .i64 N, .int .i64 PX, .int .i64 PY] 140)) 187 #[.slice none 0 0, .slice none 0 0]).alloc (.cells #[.slice none 0 0, .slice none 0 0] 187)
    rw [World.size_alloc] at h0
    exact h0.below (hb.trans (hb2.mono hb.size)) (by simp)
  have hbt : Blk we (w.heap.size + 1 + 1) 187 #[.slice none 0 0, .slice none 0 0] := by
    have h0 := Blk.new ((w.alloc (.cells #[.int .i64 W, .int .i64 H, .int .i64 F, .int .i64 L, .int .i64 X, .int .i64 Y, .slice A n cap, .int .i64 N, .int .i64 PX, .int .i64 PY] 140)).alloc (.cells #[.slice none 0 0, .slice none 0 0] 187)) 187 #[.slice none 0 0, .slice none 0 0]
    rw [World.size_alloc, World.size_alloc] at h0
    exact h0.below (hb.trans (hb2.mono hb.size)) (by simp)
  clear hcc hff hcc2 hff2 hb hb2
  go_loopg [16] W (fun g i wr => ∃ (k : Nat) (v : Value), g = W - k ∧ k ≤ W ∧ i = .int .i64 k ∧ wr.ownsRow (w.heap.size + 1 + 1 + 1) 191 3 v k (stripRow X F N L PX wd k) ∧
    Blk wr (w.heap.size + 1 + 1) 187 #[v, .slice none 0 0] ∧ Blk wr w.heap.size 140 #[.int .i64 W, .int .i64 H, .int .i64 F, .int .i64 L, .int .i64 X, .int .i64 Y, .slice A n cap, .int .i64 N, .int .i64 PX, .int .i64 PY] ∧ Blk wr (w.heap.size + 1) 187 #[.slice none 0 0, .slice none 0 0] ∧ Below w.heap.size w wr)
  case atStart => exact ⟨0, _, rfl, Nat.zero_le _, rfl, World.ownsRow_nil _ _ _ _, hbt, hbv, hbr, hB⟩
  case round =>
    clear hB hbv hbr hbt
    obtain ⟨k, v, hg, hk, rfl, hown, hbt, hbv, hbr, hB⟩ := hrel
    have HG := Lib.hid hg; clear hg
    by_cases hlt : k < W
    · have hct := fun i => hbt.cell i
      have hcv := fun i => hbv.cell i
      have hft := fun i => hbt.frozen i
      have hlv := hbv.lt
      have hlt2 := hbt.lt
      have hlr := hbr.lt
      go_wp2_with (fail)
      refine wp_region_G (fun w' => Blk w' w.heap.size 140 #[.int .i64 W, .int .i64 H, .int .i64 F, .int .i64 L, .int .i64 X, .int .i64 Y, .slice A n cap, .int .i64 N, .int .i64 PX, .int .i64 PY] ∧ Blk w' (w.heap.size + 1 + 1) 187 #[v, .slice none 0 0]) 15 (by kernel_rfl) ?_
      have hTT := And.intro hbv hbt
      refine wpG_take (i := 0) (v := ?v0) rfl (by kernel_rfl) (by kernel_rfl) (by kernel_rfl) (by kernel_rfl) (fun _ _ _ h => h) (Or.inl ⟨by rfl, ?hy0⟩) hTT ?rest0
      case hy0 => intro wq hSw; have hq1 := fun i => hSw.1.cell i; have hq2 := fun i => hSw.2.cell i; go_simp <;> with_reducible rfl
      simp only [List.getElem_toArray, List.getElem_cons_zero, List.getElem_cons_succ, Act.put, List.setIfInBounds_toArray, List.set_cons_zero, List.set_cons_succ]
      refine wpG_take (i := 1) (v := ?v1) rfl (by kernel_rfl) (by kernel_rfl) (by kernel_rfl) (by kernel_rfl) (fun _ _ _ h => h) (Or.inl ⟨by rfl, ?hy1⟩) hTT ?rest1
      case hy1 => intro wq hSw; have hq1 := fun i => hSw.1.cell i; have hq2 := fun i => hSw.2.cell i; go_simp <;> with_reducible rfl
      simp only [List.getElem_toArray, List.getElem_cons_zero, List.getElem_cons_succ, Act.put, List.setIfInBounds_toArray, List.set_cons_zero, List.set_cons_succ]
      refine wpG_take (i := 2) (v := ?v2) rfl (by kernel_rfl) (by kernel_rfl) (by kernel_rfl) (by kernel_rfl) (fun _ _ _ h => h) (Or.inl ⟨by rfl, ?hy2⟩) hTT ?rest2
      case hy2 => intro wq hSw; have hq1 := fun i => hSw.1.cell i; have hq2 := fun i => hSw.2.cell i; go_simp <;> with_reducible rfl
      simp only [List.getElem_toArray, List.getElem_cons_zero, List.getElem_cons_succ, Act.put, List.setIfInBounds_toArray, List.set_cons_zero, List.set_cons_succ]
      refine wpG_take (i := 3) (v := ?v3) rfl (by kernel_rfl) (by kernel_rfl) (by kernel_rfl) (by kernel_rfl) (fun _ _ _ h => h) (Or.inl ⟨by rfl, ?hy3⟩) hTT ?rest3
      case hy3 => intro wq hSw; have hq1 := fun i => hSw.1.cell i; have hq2 := fun i => hSw.2.cell i; go_simp <;> with_reducible rfl
      simp only [List.getElem_toArray, List.getElem_cons_zero, List.getElem_cons_succ, Act.put, List.setIfInBounds_toArray, List.set_cons_zero, List.set_cons_succ]
      refine wpG_take (i := 4) (v := ?v4) rfl (by kernel_rfl) (by kernel_rfl) (by kernel_rfl) (by kernel_rfl) (fun _ _ _ h => h) (Or.inl ⟨by rfl, ?hy4⟩) hTT ?rest4
      case hy4 => intro wq hSw; have hq1 := fun i => hSw.1.cell i; have hq2 := fun i => hSw.2.cell i; go_simp <;> with_reducible rfl
      simp only [List.getElem_toArray, List.getElem_cons_zero, List.getElem_cons_succ, Act.put, List.setIfInBounds_toArray, List.set_cons_zero, List.set_cons_succ]
      refine wpG_take (i := 5) (v := ?v5) rfl (by kernel_rfl) (by kernel_rfl) (by kernel_rfl) (by kernel_rfl) (fun _ _ _ h => h) (Or.inl ⟨by rfl, ?hy5⟩) hTT ?rest5
      case hy5 => intro wq hSw; have hq1 := fun i => hSw.1.cell i; have hq2 := fun i => hSw.2.cell i; go_simp <;> with_reducible rfl
      simp only [List.getElem_toArray, List.getElem_cons_zero, List.getElem_cons_succ, Act.put, List.setIfInBounds_toArray, List.set_cons_zero, List.set_cons_succ]
      refine wpG_take (i := 6) (v := ?v6) rfl (by kernel_rfl) (by kernel_rfl) (by kernel_rfl) (by kernel_rfl) (fun _ _ _ h => h) (Or.inl ⟨by rfl, ?hy6⟩) hTT ?rest6
      case hy6 => intro wq hSw; have hq1 := fun i => hSw.1.cell i; have hq2 := fun i => hSw.2.cell i; go_simp <;> with_reducible rfl
      simp only [List.getElem_toArray, List.getElem_cons_zero, List.getElem_cons_succ, Act.put, List.setIfInBounds_toArray, List.set_cons_zero, List.set_cons_succ]
      refine wpG_take (i := 8) (v := ?v8) rfl (by kernel_rfl) (by kernel_rfl) (by kernel_rfl) (by kernel_rfl) (fun _ _ _ h => h) (Or.inl ⟨by rfl, ?hy8⟩) hTT ?rest8
      case hy8 => intro wq hSw; have hq1 := fun i => hSw.1.cell i; have hq2 := fun i => hSw.2.cell i; go_simp <;> with_reducible rfl
      simp only [List.getElem_toArray, List.getElem_cons_zero, List.getElem_cons_succ, Act.put, List.setIfInBounds_toArray, List.set_cons_zero, List.set_cons_succ]
      refine wpG_take (i := 10) (v := ?v10) rfl (by kernel_rfl) (by kernel_rfl) (by kernel_rfl) (by kernel_rfl) (fun _ _ _ h => h) (Or.inl ⟨by rfl, ?hy10⟩) hTT ?rest10
      case hy10 => intro wq hSw; have hq1 := fun i => hSw.1.cell i; have hq2 := fun i => hSw.2.cell i; go_simp <;> with_reducible rfl
      simp only [List.getElem_toArray, List.getElem_cons_zero, List.getElem_cons_succ, Act.put, List.setIfInBounds_toArray, List.set_cons_zero, List.set_cons_succ]
      refine wpG_one (i := 7) rfl (by kernel_rfl) (fun K hK => ?_)
      go_simp
      refine (size_any _ _ _ _ _ _ _ _ _ A n cap rows _ (by exact (hr.below hB).more hB.size) hn hn2 wd hw).mono ?_; rintro e wx ⟨rfl, hbx⟩
      have hbt1 := Blk.below (w := wr.drew) hbt hbx hlt2; have hbv1 := Blk.below (w := wr.drew) hbv hbx hlv; have hbr1 := Blk.below (w := wr.drew) hbr hbx hlr; have hown1 := ownsRow_below' (w := wr.drew) hown hbx; have hz1 : wr.heap.size ≤ wx.heap.size := hbx.size; have hB1 : Below w.heap.size w wx := Below.trans (b := wr.drew) hB.drew (hbx.mono hB.size); clear hTT; have hTT := And.intro hbv1 hbt1; dsimp only
      refine hK _ _ (.inr hTT) ?_
      clear hK K
      try simp only [List.getElem_toArray, List.getElem_cons_zero, List.getElem_cons_succ, Act.put, List.setIfInBounds_toArray, List.set_cons_zero, List.set_cons_succ]
      refine wpG_take (i := 9) (v := ?v9) rfl (by kernel_rfl) (by kernel_rfl) (by kernel_rfl) (by kernel_rfl) (fun _ _ _ h => h) (Or.inl ⟨by rfl, ?hy9⟩) hTT ?rest9
      case hy9 => intro wq hSw; have hq1 := fun i => hSw.1.cell i; have hq2 := fun i => hSw.2.cell i; go_simp <;> with_reducible rfl
      simp only [List.getElem_toArray, List.getElem_cons_zero, List.getElem_cons_succ, Act.put, List.setIfInBounds_toArray, List.set_cons_zero, List.set_cons_succ]
      refine wpG_one (i := 11) rfl (by kernel_rfl) (fun K hK => ?_)
      go_simp
      refine (strip_across W H F L X Y N PX PY (.slice A n cap) rfl wd k _ x1 x2 h1 h2 h3 h4 h5 h6 p1 p2 hwd (by omega)).mono ?_; rintro e wy ⟨rfl, hby⟩
      have hbt2 := hbt1.below hby hbt1.lt; have hbv2 := hbv1.below hby hbv1.lt; have hbr2 := hbr1.below hby hbr1.lt; have hown2 := ownsRow_below' hown1 hby; have hz2 : wr.heap.size ≤ wy.heap.size := Nat.le_trans hz1 hby.size; have hB2 := hB1.trans (hby.mono hB1.size); clear hTT; have hTT := And.intro hbv2 hbt2; dsimp only
      refine hK _ _ (.inr hTT) ?_
      clear hK K
      try simp only [List.getElem_toArray, List.getElem_cons_zero, List.getElem_cons_succ, Act.put, List.setIfInBounds_toArray, List.set_cons_zero, List.set_cons_succ]
      refine wpG_one (i := 12) rfl (by kernel_rfl) (fun K hK => ?_)
      go_simp
      have hbt3 := hbt2.alloc (.cells (stripC X F N L PX wd k).toArray 191); have hbv3 := hbv2.alloc (.cells (stripC X F N L PX wd k).toArray 191); have hbr3 := hbr2.alloc (.cells (stripC X F N L PX wd k).toArray 191); have hown3 := hown2.alloc (.cells (stripC X F N L PX wd k).toArray 191); have hB3 := hB2.alloc hB2.size (.cells (stripC X F N L PX wd k).toArray 191); clear hTT; have hTT := And.intro hbv3 hbt3
      refine hK _ _ (.inr hTT) ?_
      clear hK K
      try simp only [List.getElem_toArray, List.getElem_cons_zero, List.getElem_cons_succ, Act.put, List.setIfInBounds_toArray, List.set_cons_zero, List.set_cons_succ]
      refine wpG_one (i := 13) rfl (by kernel_rfl) (fun K hK => ?_)
      rw [if_pos (by rfl)]; refine wp_append_any _ _ _ 186 rfl (w.heap.size + 1 + 1 + 1) 191 i0 (.agg #[.int .i64 0, .int .i64 0, .bool false]) 3 24 Tryz.underlying186 hi hz0 hz1' hz2' rfl (by decide) v k (stripRow X F N L PX wd k) rfl hown3 (wy.heap.size + 1) (some ⟨wy.heap.size, 0, none⟩) 1 1 (stripC X F N L PX wd k) rfl (Rd.blkN (Blk.new _ _ _) rfl (Nat.lt_succ_self _)).reads (by simp [stripC, Value.oneCell']) (by unfold maxLen; omega) (by omega) (by simp; omega) (fun v' w' hown' hgrow hob => ?_)
      obtain ⟨g', cap', rfl, hg1, hg2⟩ := hown'.form (Nat.succ_pos _); have hbt4 := hbt3.grown hgrow (fun e => own_blk_ne hown3 hbt3 (by decide) e.symm); have hbv4 := hbv3.grown hgrow (fun e => own_blk_ne hown3 hbv3 (by decide) e.symm); have hbr4 := hbr3.grown hgrow (fun e => own_blk_ne hown3 hbr3 (by decide) e.symm); have hB4 := hB3.grown hgrow hB3.size (fun q hq => by have := (hown3.lt q hq).1; omega); clear hTT; have hTT := And.intro hbv4 hbt4
      refine hK _ _ (.inr hTT) ?_
      clear hK K
      try simp only [List.getElem_toArray, List.getElem_cons_zero, List.getElem_cons_succ, Act.put, List.setIfInBounds_toArray, List.set_cons_zero, List.set_cons_succ]
      refine wpG_take (i := 14) (v := ?v14) rfl (by kernel_rfl) (by kernel_rfl) (by kernel_rfl) (by kernel_rfl) (fun _ _ _ h => h) (Or.inl ⟨by rfl, ?hy14⟩) hTT ?rest14
      case hy14 => intro wq hSw; have hq1 := fun i => hSw.1.cell i; have hq2 := fun i => hSw.2.cell i; go_simp <;> with_reducible rfl
      simp only [List.getElem_toArray, List.getElem_cons_zero, List.getElem_cons_succ, Act.put, List.setIfInBounds_toArray, List.set_cons_zero, List.set_cons_succ]
      have hct4 := fun i => hbt4.cell i
      have hft4 := fun i => hbt4.frozen i
      refine wpG_one (i := 15) rfl (by kernel_rfl) (fun K hK => ?_)
      go_simp
      refine hK _ _ (.inl rfl) ?_
      clear hK K
      try simp only [List.getElem_toArray, List.getElem_cons_zero, List.getElem_cons_succ, Act.put, List.setIfInBounds_toArray, List.set_cons_zero, List.set_cons_succ]
      refine wpG_done (by kernel_rfl) ?_ _
      go_wp2_with (fail)
      go_roundg (W - (k + 1))
      case measure => rw [HG.out]; omega
      case rel => exact ⟨k + 1, _, rfl, by omega, by go_num, by rw [stripRow_succ]; exact ownsRow_setCell_other hown' (by simp [Value.ownBlock]; omega) _, hbt4.set_ 0 _, hbv4.far (p := ⟨w.heap.size + 1 + 1, 0, none⟩) (by show _ ≠ w.heap.size + 1 + 1; omega) _, hbr4.far (p := ⟨w.heap.size + 1 + 1, 0, none⟩) (by show _ ≠ w.heap.size + 1 + 1; omega) _, hB4.setCell (p := ⟨w.heap.size + 1 + 1, 0, none⟩) (by show _ ≤ w.heap.size + 1 + 1; omega) _⟩
    · obtain rfl : W = k := by omega
      have hct := fun i => hbt.cell i
      have hcv := fun i => hbv.cell i
      have hlv := hbv.lt
      go_wp2_with (fail)
      rw [rounds_succ]
      go_wp2_with (first | (go_at_call 155; refine (cloth_any _ _ _ _ _ _ _ _ _ _ _).mono ?_; rintro e we2 ⟨rfl, hb2⟩))
      replace hown := ownsRow_below' hown hb2
      replace hbt := hbt.below hb2 hbt.lt
      replace hbr := hbr.below hb2 hbr.lt
      replace hB := hB.trans (hb2.mono hB.size)
      replace hbv := hbv.below hb2 hbv.lt
      clear hct hcv hlv hb2
      go_loopg [16] H (fun g i wr => ∃ (k : Nat) (u : Value), g = H - k ∧ k ≤ H ∧ i = .int .i64 k ∧ wr.ownsRow (w.heap.size + 1 + 1 + 1) 191 3 v W (stripRow X F N L PX wd W) ∧ wr.ownsRow (w.heap.size + 1 + 1 + 1) 191 3 u k (stripRow Y F N L PY n k) ∧ (v.ownBlock = none ∨ v.ownBlock ≠ u.ownBlock) ∧
        Blk wr (w.heap.size + 1 + 1) 187 #[v, u] ∧ Blk wr w.heap.size 140 #[.int .i64 W, .int .i64 H, .int .i64 F, .int .i64 L, .int .i64 X, .int .i64 Y, .slice A n cap, .int .i64 N, .int .i64 PX, .int .i64 PY] ∧ Blk wr (w.heap.size + 1) 187 #[.slice none 0 0, .slice none 0 0] ∧ Below w.heap.size w wr)
      case atStart => exact ⟨0, _, rfl, Nat.zero_le _, rfl, hown, World.ownsRow_nil _ _ _ _, by cases v.ownBlock <;> simp [Value.ownBlock], hbt, hbv, hbr, hB⟩
      case round =>
        clear hB hbv hbr hbt hown HG
        obtain ⟨k, u, hg, hk, rfl, hov, hown, hdis, hbt, hbv, hbr, hB⟩ := hrel
        have HG := Lib.hid hg; clear hg
        have HD := Lib.hid hdis; clear hdis
        by_cases hlt : k < H
        · have hct := fun i => hbt.cell i
          have hcv := fun i => hbv.cell i
          have hft := fun i => hbt.frozen i
          have hlv := hbv.lt
          have hlt2 := hbt.lt
          have hlr := hbr.lt
          go_wp2_with (fail)
          refine wp_region_G (fun w' => Blk w' w.heap.size 140 #[.int .i64 W, .int .i64 H, .int .i64 F, .int .i64 L, .int .i64 X, .int .i64 Y, .slice A n cap, .int .i64 N, .int .i64 PX, .int .i64 PY] ∧ Blk w' (w.heap.size + 1 + 1) 187 #[v, u]) 15 (by kernel_rfl) ?_
          have hTT := And.intro hbv hbt
          refine wpG_take (i := 0) (v := ?vb0) rfl (by kernel_rfl) (by kernel_rfl) (by kernel_rfl) (by kernel_rfl) (fun _ _ _ h => h) (Or.inl ⟨by rfl, ?hyb0⟩) hTT ?restb0
          case hyb0 => intro wq hSw; have hq1 := fun i => hSw.1.cell i; have hq2 := fun i => hSw.2.cell i; go_simp <;> with_reducible rfl
          simp only [List.getElem_toArray, List.getElem_cons_zero, List.getElem_cons_succ, Act.put, List.setIfInBounds_toArray, List.set_cons_zero, List.set_cons_succ]
          refine wpG_take (i := 1) (v := ?vb1) rfl (by kernel_rfl) (by kernel_rfl) (by kernel_rfl) (by kernel_rfl) (fun _ _ _ h => h) (Or.inl ⟨by rfl, ?hyb1⟩) hTT ?restb1
          case hyb1 => intro wq hSw; have hq1 := fun i => hSw.1.cell i; have hq2 := fun i => hSw.2.cell i; go_simp <;> with_reducible rfl
          simp only [List.getElem_toArray, List.getElem_cons_zero, List.getElem_cons_succ, Act.put, List.setIfInBounds_toArray, List.set_cons_zero, List.set_cons_succ]
          refine wpG_take (i := 2) (v := ?vb2) rfl (by kernel_rfl) (by kernel_rfl) (by kernel_rfl) (by kernel_rfl) (fun _ _ _ h => h) (Or.inl ⟨by rfl, ?hyb2⟩) hTT ?restb2
          case hyb2 => intro wq hSw; have hq1 := fun i => hSw.1.cell i; have hq2 := fun i => hSw.2.cell i; go_simp <;> with_reducible rfl
          simp only [List.getElem_toArray, List.getElem_cons_zero, List.getElem_cons_succ, Act.put, List.setIfInBounds_toArray, List.set_cons_zero, List.set_cons_succ]
          refine wpG_take (i := 3) (v := ?vb3) rfl (by kernel_rfl) (by kernel_rfl) (by kernel_rfl) (by kernel_rfl) (fun _ _ _ h => h) (Or.inl ⟨by rfl, ?hyb3⟩) hTT ?restb3
          case hyb3 => intro wq hSw; have hq1 := fun i => hSw.1.cell i; have hq2 := fun i => hSw.2.cell i; go_simp <;> with_reducible rfl
          simp only [List.getElem_toArray, List.getElem_cons_zero, List.getElem_cons_succ, Act.put, List.setIfInBounds_toArray, List.set_cons_zero, List.set_cons_succ]
          refine wpG_take (i := 4) (v := ?vb4) rfl (by kernel_rfl) (by kernel_rfl) (by kernel_rfl) (by kernel_rfl) (fun _ _ _ h => h) (Or.inl ⟨by rfl, ?hyb4⟩) hTT ?restb4
          case hyb4 => intro wq hSw; have hq1 := fun i => hSw.1.cell i; have hq2 := fun i => hSw.2.cell i; go_simp <;> with_reducible rfl
          simp only [List.getElem_toArray, List.getElem_cons_zero, List.getElem_cons_succ, Act.put, List.setIfInBounds_toArray, List.set_cons_zero, List.set_cons_succ]
          refine wpG_take (i := 5) (v := ?vb5) rfl (by kernel_rfl) (by kernel_rfl) (by kernel_rfl) (by kernel_rfl) (fun _ _ _ h => h) (Or.inl ⟨by rfl, ?hyb5⟩) hTT ?restb5
          case hyb5 => intro wq hSw; have hq1 := fun i => hSw.1.cell i; have hq2 := fun i => hSw.2.cell i; go_simp <;> with_reducible rfl
          simp only [List.getElem_toArray, List.getElem_cons_zero, List.getElem_cons_succ, Act.put, List.setIfInBounds_toArray, List.set_cons_zero, List.set_cons_succ]
          refine wpG_take (i := 6) (v := ?vb6) rfl (by kernel_rfl) (by kernel_rfl) (by kernel_rfl) (by kernel_rfl) (fun _ _ _ h => h) (Or.inl ⟨by rfl, ?hyb6⟩) hTT ?restb6
          case hyb6 => intro wq hSw; have hq1 := fun i => hSw.1.cell i; have hq2 := fun i => hSw.2.cell i; go_simp <;> with_reducible rfl
          simp only [List.getElem_toArray, List.getElem_cons_zero, List.getElem_cons_succ, Act.put, List.setIfInBounds_toArray, List.set_cons_zero, List.set_cons_succ]
          refine wpG_take (i := 8) (v := ?vb8) rfl (by kernel_rfl) (by kernel_rfl) (by kernel_rfl) (by kernel_rfl) (fun _ _ _ h => h) (Or.inl ⟨by rfl, ?hyb8⟩) hTT ?restb8
          case hyb8 => intro wq hSw; have hq1 := fun i => hSw.1.cell i; have hq2 := fun i => hSw.2.cell i; go_simp <;> with_reducible rfl
          simp only [List.getElem_toArray, List.getElem_cons_zero, List.getElem_cons_succ, Act.put, List.setIfInBounds_toArray, List.set_cons_zero, List.set_cons_succ]
          refine wpG_take (i := 10) (v := ?vb10) rfl (by kernel_rfl) (by kernel_rfl) (by kernel_rfl) (by kernel_rfl) (fun _ _ _ h => h) (Or.inl ⟨by rfl, ?hyb10⟩) hTT ?restb10
          case hyb10 => intro wq hSw; have hq1 := fun i => hSw.1.cell i; have hq2 := fun i => hSw.2.cell i; go_simp <;> with_reducible rfl
          simp only [List.getElem_toArray, List.getElem_cons_zero, List.getElem_cons_succ, Act.put, List.setIfInBounds_toArray, List.set_cons_zero, List.set_cons_succ]
          refine wpG_one (i := 7) rfl (by kernel_rfl) (fun K hK => ?_)
          go_simp
          refine (size_any _ _ _ _ _ _ _ _ _ A n cap rows _ (by exact (hr.below hB).more hB.size) hn hn2 wd hw).mono ?_; rintro e wx ⟨rfl, hbx⟩
          have hbt1 := Blk.below (w := wr.drew) hbt hbx hlt2; have hbv1 := Blk.below (w := wr.drew) hbv hbx hlv; have hbr1 := Blk.below (w := wr.drew) hbr hbx hlr; have hown1 := ownsRow_below' (w := wr.drew) hown hbx; have hov1 := ownsRow_below' (w := wr.drew) hov hbx; have hz1 : wr.heap.size ≤ wx.heap.size := hbx.size; have hB1 : Below w.heap.size w wx := Below.trans (b := wr.drew) hB.drew (hbx.mono hB.size); clear hTT; have hTT := And.intro hbv1 hbt1; dsimp only
          refine hK _ _ (.inr hTT) ?_
          clear hK K
          try simp only [List.getElem_toArray, List.getElem_cons_zero, List.getElem_cons_succ, Act.put, List.setIfInBounds_toArray, List.set_cons_zero, List.set_cons_succ]
          refine wpG_take (i := 9) (v := ?vb9) rfl (by kernel_rfl) (by kernel_rfl) (by kernel_rfl) (by kernel_rfl) (fun _ _ _ h => h) (Or.inl ⟨by rfl, ?hyb9⟩) hTT ?restb9
          case hyb9 => intro wq hSw; have hq1 := fun i => hSw.1.cell i; have hq2 := fun i => hSw.2.cell i; go_simp <;> with_reducible rfl
          simp only [List.getElem_toArray, List.getElem_cons_zero, List.getElem_cons_succ, Act.put, List.setIfInBounds_toArray, List.set_cons_zero, List.set_cons_succ]
          refine wpG_one (i := 11) rfl (by kernel_rfl) (fun K hK => ?_)
          go_simp
          refine (strip_down W H F L X Y N PX PY (.slice A n cap) rfl n k _ y1 y2 h1 h2 h3 h4 h5 h6 p3 p4 hn2 (by omega)).mono ?_; rintro e wy ⟨rfl, hby⟩
          have hbt2 := hbt1.below hby hbt1.lt; have hbv2 := hbv1.below hby hbv1.lt; have hbr2 := hbr1.below hby hbr1.lt; have hown2 := ownsRow_below' hown1 hby; have hov2 := ownsRow_below' hov1 hby; have hz2 : wr.heap.size ≤ wy.heap.size := Nat.le_trans hz1 hby.size; have hB2 := hB1.trans (hby.mono hB1.size); clear hTT; have hTT := And.intro hbv2 hbt2; dsimp only
          refine hK _ _ (.inr hTT) ?_
          clear hK K
          try simp only [List.getElem_toArray, List.getElem_cons_zero, List.getElem_cons_succ, Act.put, List.setIfInBounds_toArray, List.set_cons_zero, List.set_cons_succ]
          refine wpG_one (i := 12) rfl (by kernel_rfl) (fun K hK => ?_)
          go_simp
          have hbt3 := hbt2.alloc (.cells (stripC Y F N L PY n k).toArray 191); have hbv3 := hbv2.alloc (.cells (stripC Y F N L PY n k).toArray 191); have hbr3 := hbr2.alloc (.cells (stripC Y F N L PY n k).toArray 191); have hown3 := hown2.alloc (.cells (stripC Y F N L PY n k).toArray 191); have hov3 := hov2.alloc (.cells (stripC Y F N L PY n k).toArray 191); have hB3 := hB2.alloc hB2.size (.cells (stripC Y F N L PY n k).toArray 191); clear hTT; have hTT := And.intro hbv3 hbt3
          refine hK _ _ (.inr hTT) ?_
          clear hK K
          try simp only [List.getElem_toArray, List.getElem_cons_zero, List.getElem_cons_succ, Act.put, List.setIfInBounds_toArray, List.set_cons_zero, List.set_cons_succ]
          refine wpG_one (i := 13) rfl (by kernel_rfl) (fun K hK => ?_)
          rw [if_pos (by rfl)]; refine wp_append_any _ _ _ 186 rfl (w.heap.size + 1 + 1 + 1) 191 i0 (.agg #[.int .i64 0, .int .i64 0, .bool false]) 3 24 Tryz.underlying186 hi hz0 hz1' hz2' rfl (by decide) u k (stripRow Y F N L PY n k) rfl hown3 (wy.heap.size + 1) (some ⟨wy.heap.size, 0, none⟩) 1 1 (stripC Y F N L PY n k) rfl (Rd.blkN (Blk.new _ _ _) rfl (Nat.lt_succ_self _)).reads (by simp [stripC, Value.oneCell']) (by unfold maxLen; omega) (by omega) (by simp; omega) (fun v' w' hown' hgrow hob => ?_)
          have hov4 := hov3.kept hgrow HD.out; have hdis' : v.ownBlock = none ∨ v.ownBlock ≠ v'.ownBlock := disj_step HD.out hob (fun q hq => (hov3.lt q hq).2); obtain ⟨g', cap', rfl, hg1, hg2⟩ := hown'.form (Nat.succ_pos _); have HD' := Lib.hid hdis'; clear hdis'; have hbt4 := hbt3.grown hgrow (fun e => own_blk_ne hown3 hbt3 (by decide) e.symm); have hbv4 := hbv3.grown hgrow (fun e => own_blk_ne hown3 hbv3 (by decide) e.symm); have hbr4 := hbr3.grown hgrow (fun e => own_blk_ne hown3 hbr3 (by decide) e.symm); have hB4 := hB3.grown hgrow hB3.size (fun q hq => by have := (hown3.lt q hq).1; omega); clear hTT; have hTT := And.intro hbv4 hbt4
          refine hK _ _ (.inr hTT) ?_
          clear hK K
          try simp only [List.getElem_toArray, List.getElem_cons_zero, List.getElem_cons_succ, Act.put, List.setIfInBounds_toArray, List.set_cons_zero, List.set_cons_succ]
          refine wpG_take (i := 14) (v := ?vb14) rfl (by kernel_rfl) (by kernel_rfl) (by kernel_rfl) (by kernel_rfl) (fun _ _ _ h => h) (Or.inl ⟨by rfl, ?hyb14⟩) hTT ?restb14
          case hyb14 => intro wq hSw; have hq1 := fun i => hSw.1.cell i; have hq2 := fun i => hSw.2.cell i; go_simp <;> with_reducible rfl
          simp only [List.getElem_toArray, List.getElem_cons_zero, List.getElem_cons_succ, Act.put, List.setIfInBounds_toArray, List.set_cons_zero, List.set_cons_succ]
          have hct4 := fun i => hbt4.cell i
          have hft4 := fun i => hbt4.frozen i
          refine wpG_one (i := 15) rfl (by kernel_rfl) (fun K hK => ?_)
          go_simp
          refine hK _ _ (.inl rfl) ?_
          clear hK K
          try simp only [List.getElem_toArray, List.getElem_cons_zero, List.getElem_cons_succ, Act.put, List.setIfInBounds_toArray, List.set_cons_zero, List.set_cons_succ]
          refine wpG_done (by kernel_rfl) ?_ _
          have hovb : v.ownBlock ≠ some (w.heap.size + 1 + 1) := own_blk_ne hov4 hbt4 (by decide)
          go_wp2_with (fail)
          go_roundg (H - (k + 1))
          case measure => rw [HG.out]; omega
          case rel => exact ⟨k + 1, _, rfl, by omega, by go_num, ownsRow_setCell_other (a := ⟨w.heap.size + 1 + 1, 1, none⟩) hov4 hovb _, by rw [stripRow_succ]; exact ownsRow_setCell_other hown' (by simp [Value.ownBlock]; omega) _, HD'.out, hbt4.set_ 1 _, hbv4.far (p := ⟨w.heap.size + 1 + 1, 1, none⟩) (by show _ ≠ w.heap.size + 1 + 1; omega) _, hbr4.far (p := ⟨w.heap.size + 1 + 1, 1, none⟩) (by show _ ≠ w.heap.size + 1 + 1; omega) _, hB4.setCell (p := ⟨w.heap.size + 1 + 1, 1, none⟩) (by show _ ≤ w.heap.size + 1 + 1; omega) _⟩
        · obtain rfl : H = k := by omega
          have hct := fun i => hbt.cell i
          have hcr := fun i => hbr.cell i
          have hfr := fun i => hbr.frozen i
          have hlr := hbr.lt
          go_wp2_with (fail)
          rw [rounds_succ]
          have hfv : ∃ a0 n0 c0, v = .slice a0 n0 c0 := by rcases hov.2 with ⟨h, _⟩ | ⟨g0, c0, cu, h, _⟩ <;> exact ⟨_, _, _, h⟩
          have hfu : ∃ a0 n0 c0, u = .slice a0 n0 c0 := by rcases hown.2 with ⟨h, _⟩ | ⟨g0, c0, cu, h, _⟩ <;> exact ⟨_, _, _, h⟩
          obtain ⟨a0, n0, c0, rfl⟩ := hfv
          obtain ⟨a1, n1, c1, rfl⟩ := hfu
          go_wp2_with (fail)
          refine bodyPost_ret (v := .agg #[.slice a0 n0 c0, .slice a1 n1 c1]) ?_ rfl ⟨_, _, rfl, ?_, ?_, ?_⟩
          · simp [results, Tryz.results147, go_sem, hlr, hcr]
          · refine own_mono ?_ (show w.heap.size ≤ w.heap.size + 1 + 1 + 1 by omega)
            exact (ownsRow_setCell_other (a := ⟨w.heap.size + 1, 1, none⟩) (ownsRow_setCell_other (a := ⟨w.heap.size + 1, 0, none⟩) hov (fun e => by have := (hov.lt _ e).1; simp at this; omega) _) (fun e => by have := (hov.lt _ e).1; simp at this; omega) _)
          · refine own_mono ?_ (show w.heap.size ≤ w.heap.size + 1 + 1 + 1 by omega)
            exact (ownsRow_setCell_other (a := ⟨w.heap.size + 1, 1, none⟩) (ownsRow_setCell_other (a := ⟨w.heap.size + 1, 0, none⟩) hown (fun e => by have := (hown.lt _ e).1; simp at this; omega) _) (fun e => by have := (hown.lt _ e).1; simp at this; omega) _)
          · exact (hB.setCell (p := ⟨w.heap.size + 1, 0, none⟩) (by show _ ≤ w.heap.size + 1; omega) _).setCell (p := ⟨w.heap.size + 1, 1, none⟩) (by show _ ≤ w.heap.size + 1; omega) _
end Go.Proofs.YtifddfchpknkbaaGreatDoor

namespace Go.Proofs.YtifddfchpknkbaaGreatDoor
open Go.RowKit

/-- The tone of the cell in the column k and the row m. -/
def cellS (F L X Y N PX PY : Int) (rows : List ByteArray) (wd n k m : Nat) : Int :=
  toneS rows (firstS X F N PX (lowV F N L k) wd) (endS X F N PX (lowV F N L k) (highV F N L k) wd) (insideS X F N PX (lowV F N L k) (highV F N L k) wd)
    (firstS Y F N PY (lowV F N L m) n) (endS Y F N PY (lowV F N L m) (highV F N L m) n) (insideS Y F N PY (lowV F N L m) (highV F N L m) n)
/-- The shadow, row by row in one list. -/
def shadL (W H : Nat) (F L X Y N PX PY : Int) (rows : List ByteArray) (wd n q : Nat) : List Int := (List.range q).map fun c => cellS F L X Y N PX PY rows wd n (c % W) (c / W)
theorem shadL_succ (W H : Nat) (F L X Y N PX PY : Int) (rows : List ByteArray) (wd n q : Nat) : shadL W H F L X Y N PX PY rows wd n (q + 1) = shadL W H F L X Y N PX PY rows wd n q ++ [cellS F L X Y N PX PY rows wd n (q % W) (q / W)] := by
  simp [shadL, List.range_succ]
theorem stripRow_len (ax F N L P : Int) (sz : Nat) : ∀ m : Nat, (stripRow ax F N L P sz m).length = m * 3
  | 0 => rfl
  | m + 1 => by rw [stripRow_succ, List.length_append, stripRow_len ax F N L P sz m]; simp [stripC]; omega
theorem own_slice {w : World} {base : Nat} {e : TypeId} {size : Nat} {v : Value} {n : Nat} {xs : List Value} (h : w.ownsRow base e size v n xs) : ∃ a c, v = .slice a n c := by
  rcases h.2 with ⟨h', rfl⟩ | ⟨g0, c0, cu, h', _⟩ <;> exact ⟨_, _, h'⟩
theorem stripRow_at (ax F N L P : Int) (sz : Nat) : ∀ (m k j : Nat), k < m → j < 3 → (stripRow ax F N L P sz m)[k * 3 + j]? = (stripC ax F N L P sz k)[j]?
  | 0, k, j, hk, _ => by omega
  | m + 1, k, j, hk, hj => by
    have hl := stripRow_len ax F N L P sz m
    rw [stripRow_succ]
    by_cases h : k < m
    · rw [List.getElem?_append_left (by omega)]; exact stripRow_at ax F N L P sz m k j h hj
    · obtain rfl : k = m := by omega
      rw [List.getElem?_append_right (by omega), hl]; congr 1; omega
theorem own_ne {w : World} {b b' : Nat} {e e' : TypeId} {s s' : Nat} {v v' : Value} {n n' : Nat} {xs xs' : List Value} (h : w.ownsRow b e s v n xs) (h' : w.ownsRow b' e' s' v' n' xs') (hne : e ≠ e') : v.ownBlock = none ∨ v.ownBlock ≠ v'.ownBlock := by
  rcases h.2 with ⟨rfl, _⟩ | ⟨g, cap, cur, rfl, _, hh, _⟩
  · exact .inl rfl
  · rcases h'.2 with ⟨rfl, _⟩ | ⟨g', cap', cur', rfl, _, hh', _⟩
    · exact .inr (by simp [Value.ownBlock])
    · refine .inr (fun e0 => ?_)
      have : g = g' := by simpa [Value.ownBlock] using e0
      subst this
      rw [hh] at hh'
      injection hh' with hh'
      injection hh' with _ ht
      exact hne ht
theorem strip_cells {w : World} {base g m c k : Nat} {ax F N L P : Int} {sz : Nat} (h : w.ownsRow base 191 3 (.slice (some ⟨g, 0, none⟩) m c) m (stripRow ax F N L P sz m)) (hk : k < m) :
    w.cell? ⟨g, k * 3, none⟩ = some (.int .i64 (firstS ax F N P (lowV F N L k) sz)) ∧ w.cell? ⟨g, k * 3 + 1, none⟩ = some (.int .i64 (endS ax F N P (lowV F N L k) (highV F N L k) sz)) ∧ w.cell? ⟨g, k * 3 + 2, none⟩ = some (.bool (insideS ax F N P (lowV F N L k) (highV F N L k) sz)) :=
  ⟨(h.cellAt (k * 3 + 0) (by omega)).trans (stripRow_at ax F N L P sz m k 0 hk (by omega)), (h.cellAt (k * 3 + 1) (by omega)).trans (stripRow_at ax F N L P sz m k 1 hk (by omega)), (h.cellAt (k * 3 + 2) (by omega)).trans (stripRow_at ax F N L P sz m k 2 hk (by omega))⟩
theorem info5 : (Tryz.prog.info? 5).map (fun i => (i.zero, i.size, i.bytes)) = some (some (.int .u8 0), 1, 1) := by kernel_rfl
theorem firstS_le (ax F N P lo : Int) (sz : Nat) : firstS ax F N P lo sz ≤ sz := by have := scanN_le (fun t => decide (lineV ax F N (P + (t + 1)) ≤ lo)) sz 0; unfold firstS; omega
theorem endS_le (ax F N P lo hi : Int) (sz : Nat) : firstS ax F N P lo sz ≤ endS ax F N P lo hi sz ∧ endS ax F N P lo hi sz ≤ sz := by
  have h1 := firstS_le ax F N P lo sz
  have := scanN_le (fun t => decide (lineV ax F N (P + t) < hi)) (sz - firstS ax F N P lo sz) (firstS ax F N P lo sz)
  unfold endS; omega

set_option maxRecDepth 100000 in
set_option maxHeartbeats 1600000 in
theorem shadow_any (W H : Nat) (F L X Y N PX PY : Int) (A : Option Addr) (n cap : Nat) (rows : List ByteArray) (wd : Nat) (w : World) (hr : Rd w w.heap.size 1 A n (rows.map Value.string)) (hn : 0 < n) (hn2 : n ≤ 50) (hcap : n ≤ cap) (hcm : cap ≤ maxLen) (hw : ∀ r ∈ rows, r.size = wd) (hwd : wd ≤ 50)
    (w1 : W ≤ 50) (w2 : H ≤ 50) (w3 : 1 ≤ W) (w4 : 1 ≤ H) (x1 : 0 ≤ X) (x2 : X ≤ 100) (y1 : 0 ≤ Y) (y2 : Y ≤ 100) (h1 : 0 ≤ F) (h2 : F ≤ 100) (h3 : 0 ≤ N) (h4 : N ≤ 100) (h5 : 0 ≤ L) (h6 : L ≤ 100) (p1 : -50 ≤ PX) (p2 : PX ≤ 50) (p3 : -50 ≤ PY) (p4 : PY ≤ 50) :
    Calls Tryz.prog 102 #[.agg #[.int .i64 W, .int .i64 H, .int .i64 F, .int .i64 L, .int .i64 X, .int .i64 Y, .slice A n cap, .int .i64 N, .int .i64 PX, .int .i64 PY]] w fun e w' => e = .returned (.string (strOfNums (shadL W H F L X Y N PX PY rows wd n (W * H)))) ∧ Below w.heap.size w w' := by
  obtain ⟨i0, hi, hz0, hz1', hz2'⟩ := info_parts info5
  obtain ⟨q1, q2⟩ := mulB (x := (W : Int)) (y := (H : Int)) (a := 50) (b := 50) (by omega) (by omega) (by omega) (by omega)
  have hWH : ((W * H : Nat) : Int) = (W : Int) * H := Int.natCast_mul W H
  have hWHle : W * H ≤ 2500 := Nat.mul_le_mul w1 w2
  have HWH := Lib.hid hWH; clear hWH
  go_enter Tryz.func102, Tryz.ntmps102
  go_wp2_with (go_at_call 147; refine (strips_any W H F L X Y N PX PY A n cap rows wd _ (by exact (hr.alloc (Nat.le_refl _) _).more (by simp)) hn hn2 hw hwd w1 w2 x1 x2 y1 y2 h1 h2 h3 h4 h5 h6 p1 p2 p3 p4).mono ?_; rintro e ws ⟨v0, v1, rfl, ho0, ho1, hbs⟩; obtain ⟨a0, c0, rfl⟩ := own_slice ho0; obtain ⟨a1, c1, rfl⟩ := own_slice ho1; have hbv := (Blk.new w 140 #[.int .i64 W, .int .i64 H, .int .i64 F, .int .i64 L, .int .i64 X, .int .i64 Y, .slice A n cap, .int .i64 N, .int .i64 PX, .int .i64 PY]).below hbs (by simp); have hcv := fun i => hbv.cell i; have hlv := hbv.lt)
  have hB : Below w.heap.size w (ws.alloc (.cells #[.slice a0 W c0, .slice a1 H c1] 187)) := (((Below.refl _ w).alloc (Nat.le_refl _) _).trans (hbs.mono (by simp))).alloc (by omega) _
  rw [World.size_alloc] at ho0 ho1
  have hbt := Blk.new ws 187 #[.slice a0 W c0, .slice a1 H c1]
  replace ho0 := ho0.alloc (.cells #[.slice a0 W c0, .slice a1 H c1] 187)
  replace ho1 := ho1.alloc (.cells #[.slice a0 W c0, .slice a1 H c1] 187)
  replace hbv := hbv.alloc (.cells #[.slice a0 W c0, .slice a1 H c1] 187)
  clear hcv
  generalize hWS : ws.alloc (.cells #[.slice a0 W c0, .slice a1 H c1] 187) = w5 at *
  have hgt : w.heap.size < ws.heap.size := hlv
  generalize hgs : ws.heap.size = gs at *
  clear hWS hgs hbs hlv
  go_loopg [4, 15] (W * H) (fun g v i wr => ∃ k : Nat, g = W * H - k ∧ k ≤ W * H ∧ i = .int .i64 k ∧ wr.ownsRow gs 5 1 v k ((shadL W H F L X Y N PX PY rows wd n k).map (Value.int .u8)) ∧
    wr.ownsRow (w.heap.size + 1) 191 3 (.slice a0 W c0) W (stripRow X F N L PX wd W) ∧ wr.ownsRow (w.heap.size + 1) 191 3 (.slice a1 H c1) H (stripRow Y F N L PY n H) ∧
    Blk wr w.heap.size 140 #[.int .i64 W, .int .i64 H, .int .i64 F, .int .i64 L, .int .i64 X, .int .i64 Y, .slice A n cap, .int .i64 N, .int .i64 PX, .int .i64 PY] ∧ Blk wr gs 187 #[.slice a0 W c0, .slice a1 H c1] ∧ Below w.heap.size w wr)
  case atStart => exact ⟨0, rfl, Nat.zero_le _, rfl, World.ownsRow_nil _ _ _ _, ho0, ho1, hbv, hbt, hB⟩
  case round =>
    clear hB hbv hbt ho0 ho1
    obtain ⟨k, hg, hk, rfl, hown, ho0, ho1, hbv, hbt, hB⟩ := hrel
    have HG := Lib.hid hg; clear hg
    have hWi : ((W : Int) * H) = ((W * H : Nat) : Int) := HWH.out.symm
    by_cases hlt : k < W * H
    · have htst : (k : Int) < (W : Int) * H := by have := HWH.out; omega
      have hkW : k % W < W := Nat.mod_lt _ (by omega)
      have hkH : k / W < H := by rw [Nat.div_lt_iff_lt_mul (by omega), Nat.mul_comm]; exact hlt
      obtain ⟨kc, hkc⟩ : ∃ kc, kc = k % W := ⟨_, rfl⟩
      obtain ⟨km, hkm⟩ : ∃ km, km = k / W := ⟨_, rfl⟩
      rw [← hkc] at hkW
      rw [← hkm] at hkH
      have em : (k : Int).tmod W = (kc : Int) := by rw [hkc]; rfl
      have ed : (k : Int).tdiv W = (km : Int) := by rw [hkm]; rfl
      have ed2 := i64_ok (km : Int) (by omega)
      have hW0 : ¬ W = 0 := by omega
      have hkWi : (kc : Int) < (W : Int) := by omega
      have hkHi : (km : Int) < (H : Int) := by omega
      have HKC := Lib.hid hkc; have HKM := Lib.hid hkm; clear hkc hkm
      obtain ⟨g0, cp0, hv0, hg01, hg02⟩ := ho0.form (by omega)
      obtain ⟨g1, cp1, hv1, hg11, hg12⟩ := ho1.form (by omega)
      injection hv0 with hv01 hv02 hv03
      injection hv1 with hv11 hv12 hv13
      subst hv01 hv11
      clear hv02 hv03 hv12 hv13
      have hcv := fun i => hbv.cell i
      have hct := fun i => hbt.cell i
      clear hWi
      go_wp2_with (fail)
      refine wp_region_G (fun w' => Blk w' w.heap.size 140 #[.int .i64 W, .int .i64 H, .int .i64 F, .int .i64 L, .int .i64 X, .int .i64 Y, .slice A n cap, .int .i64 N, .int .i64 PX, .int .i64 PY] ∧ Blk w' gs 187 #[.slice (some ⟨g0, 0, none⟩) W c0, .slice (some ⟨g1, 0, none⟩) H c1] ∧ w'.ownsRow (w.heap.size + 1) 191 3 (.slice (some ⟨g0, 0, none⟩) W c0) W (stripRow X F N L PX wd W) ∧ w'.ownsRow (w.heap.size + 1) 191 3 (.slice (some ⟨g1, 0, none⟩) H c1) H (stripRow Y F N L PY n H)) 23 (by kernel_rfl) ?_
      have hTT := And.intro hbv (And.intro hbt (And.intro ho0 ho1))
      refine wpG_take (i := 0) (v := ?v0) rfl (by kernel_rfl) (by kernel_rfl) (by kernel_rfl) (by kernel_rfl) (fun _ _ _ h => h) (Or.inl ⟨by rfl, ?hy0⟩) hTT ?rest0
      case hy0 => intro wq hSw; have hq1 := fun i => hSw.1.cell i; have hq2 := fun i => hSw.2.1.cell i; obtain ⟨hq3, hq4, hq5⟩ := strip_cells hSw.2.2.1 hkW; obtain ⟨hq6, hq7, hq8⟩ := strip_cells hSw.2.2.2 hkH; go_simp <;> with_reducible rfl
      simp only [List.getElem_toArray, List.getElem_cons_zero, List.getElem_cons_succ, Act.put, List.setIfInBounds_toArray, List.set_cons_zero, List.set_cons_succ]
      refine wpG_take (i := 1) (v := ?v1) rfl (by kernel_rfl) (by kernel_rfl) (by kernel_rfl) (by kernel_rfl) (fun _ _ _ h => h) (Or.inl ⟨by rfl, ?hy1⟩) hTT ?rest1
      case hy1 => intro wq hSw; have hq1 := fun i => hSw.1.cell i; have hq2 := fun i => hSw.2.1.cell i; obtain ⟨hq3, hq4, hq5⟩ := strip_cells hSw.2.2.1 hkW; obtain ⟨hq6, hq7, hq8⟩ := strip_cells hSw.2.2.2 hkH; go_simp <;> with_reducible rfl
      simp only [List.getElem_toArray, List.getElem_cons_zero, List.getElem_cons_succ, Act.put, List.setIfInBounds_toArray, List.set_cons_zero, List.set_cons_succ]
      refine wpG_take (i := 2) (v := ?v2) rfl (by kernel_rfl) (by kernel_rfl) (by kernel_rfl) (by kernel_rfl) (fun _ _ _ h => h) (Or.inl ⟨by rfl, ?hy2⟩) hTT ?rest2
      case hy2 => intro wq hSw; have hq1 := fun i => hSw.1.cell i; have hq2 := fun i => hSw.2.1.cell i; obtain ⟨hq3, hq4, hq5⟩ := strip_cells hSw.2.2.1 hkW; obtain ⟨hq6, hq7, hq8⟩ := strip_cells hSw.2.2.2 hkH; go_simp <;> with_reducible rfl
      simp only [List.getElem_toArray, List.getElem_cons_zero, List.getElem_cons_succ, Act.put, List.setIfInBounds_toArray, List.set_cons_zero, List.set_cons_succ]
      refine wpG_take (i := 3) (v := ?v3) rfl (by kernel_rfl) (by kernel_rfl) (by kernel_rfl) (by kernel_rfl) (fun _ _ _ h => h) (Or.inl ⟨by rfl, ?hy3⟩) hTT ?rest3
      case hy3 => intro wq hSw; have hq1 := fun i => hSw.1.cell i; have hq2 := fun i => hSw.2.1.cell i; obtain ⟨hq3, hq4, hq5⟩ := strip_cells hSw.2.2.1 hkW; obtain ⟨hq6, hq7, hq8⟩ := strip_cells hSw.2.2.2 hkH; go_simp <;> with_reducible rfl
      simp only [List.getElem_toArray, List.getElem_cons_zero, List.getElem_cons_succ, Act.put, List.setIfInBounds_toArray, List.set_cons_zero, List.set_cons_succ]
      refine wpG_take (i := 4) (v := ?v4) rfl (by kernel_rfl) (by kernel_rfl) (by kernel_rfl) (by kernel_rfl) (fun _ _ _ h => h) (Or.inl ⟨by rfl, ?hy4⟩) hTT ?rest4
      case hy4 => intro wq hSw; have hq1 := fun i => hSw.1.cell i; have hq2 := fun i => hSw.2.1.cell i; obtain ⟨hq3, hq4, hq5⟩ := strip_cells hSw.2.2.1 hkW; obtain ⟨hq6, hq7, hq8⟩ := strip_cells hSw.2.2.2 hkH; go_simp <;> with_reducible rfl
      simp only [List.getElem_toArray, List.getElem_cons_zero, List.getElem_cons_succ, Act.put, List.setIfInBounds_toArray, List.set_cons_zero, List.set_cons_succ]
      refine wpG_take (i := 5) (v := ?v5) rfl (by kernel_rfl) (by kernel_rfl) (by kernel_rfl) (by kernel_rfl) (fun _ _ _ h => h) (Or.inl ⟨by rfl, ?hy5⟩) hTT ?rest5
      case hy5 => intro wq hSw; have hq1 := fun i => hSw.1.cell i; have hq2 := fun i => hSw.2.1.cell i; obtain ⟨hq3, hq4, hq5⟩ := strip_cells hSw.2.2.1 hkW; obtain ⟨hq6, hq7, hq8⟩ := strip_cells hSw.2.2.2 hkH; go_simp <;> with_reducible rfl
      simp only [List.getElem_toArray, List.getElem_cons_zero, List.getElem_cons_succ, Act.put, List.setIfInBounds_toArray, List.set_cons_zero, List.set_cons_succ]
      refine wpG_take (i := 6) (v := ?v6) rfl (by kernel_rfl) (by kernel_rfl) (by kernel_rfl) (by kernel_rfl) (fun _ _ _ h => h) (Or.inl ⟨by rfl, ?hy6⟩) hTT ?rest6
      case hy6 => intro wq hSw; have hq1 := fun i => hSw.1.cell i; have hq2 := fun i => hSw.2.1.cell i; obtain ⟨hq3, hq4, hq5⟩ := strip_cells hSw.2.2.1 hkW; obtain ⟨hq6, hq7, hq8⟩ := strip_cells hSw.2.2.2 hkH; go_simp <;> with_reducible rfl
      simp only [List.getElem_toArray, List.getElem_cons_zero, List.getElem_cons_succ, Act.put, List.setIfInBounds_toArray, List.set_cons_zero, List.set_cons_succ]
      refine wpG_take (i := 7) (v := ?v7) rfl (by kernel_rfl) (by kernel_rfl) (by kernel_rfl) (by kernel_rfl) (fun _ _ _ h => h) (Or.inl ⟨by rfl, ?hy7⟩) hTT ?rest7
      case hy7 => intro wq hSw; have hq1 := fun i => hSw.1.cell i; have hq2 := fun i => hSw.2.1.cell i; obtain ⟨hq3, hq4, hq5⟩ := strip_cells hSw.2.2.1 hkW; obtain ⟨hq6, hq7, hq8⟩ := strip_cells hSw.2.2.2 hkH; go_simp <;> with_reducible rfl
      simp only [List.getElem_toArray, List.getElem_cons_zero, List.getElem_cons_succ, Act.put, List.setIfInBounds_toArray, List.set_cons_zero, List.set_cons_succ]
      refine wpG_take (i := 8) (v := ?v8) rfl (by kernel_rfl) (by kernel_rfl) (by kernel_rfl) (by kernel_rfl) (fun _ _ _ h => h) (Or.inl ⟨by rfl, ?hy8⟩) hTT ?rest8
      case hy8 => intro wq hSw; have hq1 := fun i => hSw.1.cell i; have hq2 := fun i => hSw.2.1.cell i; obtain ⟨hq3, hq4, hq5⟩ := strip_cells hSw.2.2.1 hkW; obtain ⟨hq6, hq7, hq8⟩ := strip_cells hSw.2.2.2 hkH; go_simp <;> with_reducible rfl
      simp only [List.getElem_toArray, List.getElem_cons_zero, List.getElem_cons_succ, Act.put, List.setIfInBounds_toArray, List.set_cons_zero, List.set_cons_succ]
      refine wpG_take (i := 9) (v := ?v9) rfl (by kernel_rfl) (by kernel_rfl) (by kernel_rfl) (by kernel_rfl) (fun _ _ _ h => h) (Or.inl ⟨by rfl, ?hy9⟩) hTT ?rest9
      case hy9 => intro wq hSw; have hq1 := fun i => hSw.1.cell i; have hq2 := fun i => hSw.2.1.cell i; obtain ⟨hq3, hq4, hq5⟩ := strip_cells hSw.2.2.1 hkW; obtain ⟨hq6, hq7, hq8⟩ := strip_cells hSw.2.2.2 hkH; go_simp <;> with_reducible rfl
      simp only [List.getElem_toArray, List.getElem_cons_zero, List.getElem_cons_succ, Act.put, List.setIfInBounds_toArray, List.set_cons_zero, List.set_cons_succ]
      refine wpG_take (i := 10) (v := ?v10) rfl (by kernel_rfl) (by kernel_rfl) (by kernel_rfl) (by kernel_rfl) (fun _ _ _ h => h) (Or.inl ⟨by rfl, ?hy10⟩) hTT ?rest10
      case hy10 => intro wq hSw; have hq1 := fun i => hSw.1.cell i; have hq2 := fun i => hSw.2.1.cell i; obtain ⟨hq3, hq4, hq5⟩ := strip_cells hSw.2.2.1 hkW; obtain ⟨hq6, hq7, hq8⟩ := strip_cells hSw.2.2.2 hkH; go_simp <;> with_reducible rfl
      simp only [List.getElem_toArray, List.getElem_cons_zero, List.getElem_cons_succ, Act.put, List.setIfInBounds_toArray, List.set_cons_zero, List.set_cons_succ]
      refine wpG_take (i := 11) (v := ?v11) rfl (by kernel_rfl) (by kernel_rfl) (by kernel_rfl) (by kernel_rfl) (fun _ _ _ h => h) (Or.inl ⟨by rfl, ?hy11⟩) hTT ?rest11
      case hy11 => intro wq hSw; have hq1 := fun i => hSw.1.cell i; have hq2 := fun i => hSw.2.1.cell i; obtain ⟨hq3, hq4, hq5⟩ := strip_cells hSw.2.2.1 hkW; obtain ⟨hq6, hq7, hq8⟩ := strip_cells hSw.2.2.2 hkH; go_simp <;> with_reducible rfl
      simp only [List.getElem_toArray, List.getElem_cons_zero, List.getElem_cons_succ, Act.put, List.setIfInBounds_toArray, List.set_cons_zero, List.set_cons_succ]
      refine wpG_take (i := 12) (v := ?v12) rfl (by kernel_rfl) (by kernel_rfl) (by kernel_rfl) (by kernel_rfl) (fun _ _ _ h => h) (Or.inl ⟨by rfl, ?hy12⟩) hTT ?rest12
      case hy12 => intro wq hSw; have hq1 := fun i => hSw.1.cell i; have hq2 := fun i => hSw.2.1.cell i; obtain ⟨hq3, hq4, hq5⟩ := strip_cells hSw.2.2.1 hkW; obtain ⟨hq6, hq7, hq8⟩ := strip_cells hSw.2.2.2 hkH; go_simp <;> with_reducible rfl
      simp only [List.getElem_toArray, List.getElem_cons_zero, List.getElem_cons_succ, Act.put, List.setIfInBounds_toArray, List.set_cons_zero, List.set_cons_succ]
      refine wpG_take (i := 13) (v := ?v13) rfl (by kernel_rfl) (by kernel_rfl) (by kernel_rfl) (by kernel_rfl) (fun _ _ _ h => h) (Or.inl ⟨by rfl, ?hy13⟩) hTT ?rest13
      case hy13 => intro wq hSw; have hq1 := fun i => hSw.1.cell i; have hq2 := fun i => hSw.2.1.cell i; obtain ⟨hq3, hq4, hq5⟩ := strip_cells hSw.2.2.1 hkW; obtain ⟨hq6, hq7, hq8⟩ := strip_cells hSw.2.2.2 hkH; go_simp <;> with_reducible rfl
      simp only [List.getElem_toArray, List.getElem_cons_zero, List.getElem_cons_succ, Act.put, List.setIfInBounds_toArray, List.set_cons_zero, List.set_cons_succ]
      refine wpG_take (i := 14) (v := ?v14) rfl (by kernel_rfl) (by kernel_rfl) (by kernel_rfl) (by kernel_rfl) (fun _ _ _ h => h) (Or.inl ⟨by rfl, ?hy14⟩) hTT ?rest14
      case hy14 => intro wq hSw; have hq1 := fun i => hSw.1.cell i; have hq2 := fun i => hSw.2.1.cell i; obtain ⟨hq3, hq4, hq5⟩ := strip_cells hSw.2.2.1 hkW; obtain ⟨hq6, hq7, hq8⟩ := strip_cells hSw.2.2.2 hkH; go_simp <;> with_reducible rfl
      simp only [List.getElem_toArray, List.getElem_cons_zero, List.getElem_cons_succ, Act.put, List.setIfInBounds_toArray, List.set_cons_zero, List.set_cons_succ]
      refine wpG_take (i := 15) (v := ?v15) rfl (by kernel_rfl) (by kernel_rfl) (by kernel_rfl) (by kernel_rfl) (fun _ _ _ h => h) (Or.inl ⟨by rfl, ?hy15⟩) hTT ?rest15
      case hy15 => intro wq hSw; have hq1 := fun i => hSw.1.cell i; have hq2 := fun i => hSw.2.1.cell i; obtain ⟨hq3, hq4, hq5⟩ := strip_cells hSw.2.2.1 hkW; obtain ⟨hq6, hq7, hq8⟩ := strip_cells hSw.2.2.2 hkH; go_simp <;> with_reducible rfl
      simp only [List.getElem_toArray, List.getElem_cons_zero, List.getElem_cons_succ, Act.put, List.setIfInBounds_toArray, List.set_cons_zero, List.set_cons_succ]
      refine wpG_take (i := 16) (v := ?v16) rfl (by kernel_rfl) (by kernel_rfl) (by kernel_rfl) (by kernel_rfl) (fun _ _ _ h => h) (Or.inl ⟨by rfl, ?hy16⟩) hTT ?rest16
      case hy16 => intro wq hSw; have hq1 := fun i => hSw.1.cell i; have hq2 := fun i => hSw.2.1.cell i; obtain ⟨hq3, hq4, hq5⟩ := strip_cells hSw.2.2.1 hkW; obtain ⟨hq6, hq7, hq8⟩ := strip_cells hSw.2.2.2 hkH; go_simp <;> with_reducible rfl
      simp only [List.getElem_toArray, List.getElem_cons_zero, List.getElem_cons_succ, Act.put, List.setIfInBounds_toArray, List.set_cons_zero, List.set_cons_succ]
      refine wpG_take (i := 17) (v := ?v17) rfl (by kernel_rfl) (by kernel_rfl) (by kernel_rfl) (by kernel_rfl) (fun _ _ _ h => h) (Or.inl ⟨by rfl, ?hy17⟩) hTT ?rest17
      case hy17 => intro wq hSw; have hq1 := fun i => hSw.1.cell i; have hq2 := fun i => hSw.2.1.cell i; obtain ⟨hq3, hq4, hq5⟩ := strip_cells hSw.2.2.1 hkW; obtain ⟨hq6, hq7, hq8⟩ := strip_cells hSw.2.2.2 hkH; go_simp <;> with_reducible rfl
      simp only [List.getElem_toArray, List.getElem_cons_zero, List.getElem_cons_succ, Act.put, List.setIfInBounds_toArray, List.set_cons_zero, List.set_cons_succ]
      refine wpG_take (i := 18) (v := ?v18) rfl (by kernel_rfl) (by kernel_rfl) (by kernel_rfl) (by kernel_rfl) (fun _ _ _ h => h) (Or.inl ⟨by rfl, ?hy18⟩) hTT ?rest18
      case hy18 => intro wq hSw; have hq1 := fun i => hSw.1.cell i; have hq2 := fun i => hSw.2.1.cell i; obtain ⟨hq3, hq4, hq5⟩ := strip_cells hSw.2.2.1 hkW; obtain ⟨hq6, hq7, hq8⟩ := strip_cells hSw.2.2.2 hkH; go_simp <;> with_reducible rfl
      simp only [List.getElem_toArray, List.getElem_cons_zero, List.getElem_cons_succ, Act.put, List.setIfInBounds_toArray, List.set_cons_zero, List.set_cons_succ]
      refine wpG_take (i := 19) (v := ?v19) rfl (by kernel_rfl) (by kernel_rfl) (by kernel_rfl) (by kernel_rfl) (fun _ _ _ h => h) (Or.inl ⟨by rfl, ?hy19⟩) hTT ?rest19
      case hy19 => intro wq hSw; have hq1 := fun i => hSw.1.cell i; have hq2 := fun i => hSw.2.1.cell i; obtain ⟨hq3, hq4, hq5⟩ := strip_cells hSw.2.2.1 hkW; obtain ⟨hq6, hq7, hq8⟩ := strip_cells hSw.2.2.2 hkH; go_simp <;> with_reducible rfl
      simp only [List.getElem_toArray, List.getElem_cons_zero, List.getElem_cons_succ, Act.put, List.setIfInBounds_toArray, List.set_cons_zero, List.set_cons_succ]
      refine wpG_one (i := 20) rfl (by kernel_rfl) (fun K hK => ?_)
      go_simp
      refine (tone_any W H F L X Y N PX PY A n cap rows wd _ _ _ _ _ _ _ (by exact (hr.below hB).more hB.size) hcap hn2 hcm hw hwd (endS_le _ _ _ _ _ _ _).1 (endS_le _ _ _ _ _ _ _).2 (endS_le _ _ _ _ _ _ _).1 (endS_le _ _ _ _ _ _ _).2).mono ?_; rintro e wx ⟨rfl, hbx⟩
      have hbt1 := Blk.below (w := wr.drew) hbt hbx hbt.lt; have hbv1 := Blk.below (w := wr.drew) hbv hbx hbv.lt; have hown1 := ownsRow_below' (w := wr.drew) hown hbx; have ho01 := ownsRow_below' (w := wr.drew) ho0 hbx; have ho11 := ownsRow_below' (w := wr.drew) ho1 hbx; have hz1 : wr.heap.size ≤ wx.heap.size := hbx.size; have hB1 : Below w.heap.size w wx := Below.trans (b := wr.drew) hB.drew (hbx.mono hB.size); clear hTT; have hTT := And.intro hbv1 (And.intro hbt1 (And.intro ho01 ho11)); dsimp only
      refine hK _ _ (.inr hTT) ?_
      clear hK K
      try simp only [List.getElem_toArray, List.getElem_cons_zero, List.getElem_cons_succ, Act.put, List.setIfInBounds_toArray, List.set_cons_zero, List.set_cons_succ]
      refine wpG_one (i := 21) rfl (by kernel_rfl) (fun K hK => ?_)
      go_simp
      have hbt3 := hbt1.alloc (.cells #[.int .u8 (cellS F L X Y N PX PY rows wd n kc km)] 5); have hbv3 := hbv1.alloc (.cells #[.int .u8 (cellS F L X Y N PX PY rows wd n kc km)] 5); have hown3 := hown1.alloc (.cells #[.int .u8 (cellS F L X Y N PX PY rows wd n kc km)] 5); have ho03 := ho01.alloc (.cells #[.int .u8 (cellS F L X Y N PX PY rows wd n kc km)] 5); have ho13 := ho11.alloc (.cells #[.int .u8 (cellS F L X Y N PX PY rows wd n kc km)] 5); have hB3 := hB1.alloc hB1.size (.cells #[.int .u8 (cellS F L X Y N PX PY rows wd n kc km)] 5); clear hTT; have hTT := And.intro hbv3 (And.intro hbt3 (And.intro ho03 ho13))
      refine hK _ _ (.inr hTT) ?_
      clear hK K
      try simp only [List.getElem_toArray, List.getElem_cons_zero, List.getElem_cons_succ, Act.put, List.setIfInBounds_toArray, List.set_cons_zero, List.set_cons_succ]
      refine wpG_one (i := 22) rfl (by kernel_rfl) (fun K hK => ?_)
      rw [if_pos (by rfl)]; refine wp_append_any _ _ _ 89 rfl gs 5 i0 (.int .u8 0) 1 1 Tryz.underlying89 hi hz0 hz1' hz2' rfl (by decide) _ k ((shadL W H F L X Y N PX PY rows wd n k).map (Value.int .u8)) rfl hown3 (wx.heap.size + 1) (some ⟨wx.heap.size, 0, none⟩) 1 1 [.int .u8 (cellS F L X Y N PX PY rows wd n kc km)] rfl (Rd.blkN (Blk.new _ _ _) rfl (Nat.lt_succ_self _)).reads (by simp [Value.oneCell']) (by unfold maxLen; omega) (by omega) (by have h9 := hbt1.lt; simp; omega) (fun v' w' hown' hgrow hob => ?_)
      have hgtb := hbt3.lt; have ho04 := ho03.kept hgrow (own_ne ho03 hown3 (by decide)); have ho14 := ho13.kept hgrow (own_ne ho13 hown3 (by decide)); obtain ⟨g', cap', rfl, hg1, hg2⟩ := hown'.form (Nat.succ_pos _); have hbt4 := hbt3.grown hgrow (fun e => own_blk_ne hown3 hbt3 (by decide) e.symm); have hbv4 := hbv3.grown hgrow (fun e => own_blk_ne hown3 hbv3 (by decide) e.symm); have hB4 := hB3.grown hgrow hB3.size (fun q hq => by have := (hown3.lt q hq).1; omega); clear hTT; have hTT := And.intro hbv4 (And.intro hbt4 (And.intro ho04 ho14))
      refine hK _ _ (.inr hTT) ?_
      clear hK K
      try simp only [List.getElem_toArray, List.getElem_cons_zero, List.getElem_cons_succ, Act.put, List.setIfInBounds_toArray, List.set_cons_zero, List.set_cons_succ]
      refine wpG_one (i := 23) rfl (by kernel_rfl) (fun K hK => ?_)
      go_simp
      refine hK _ _ (.inl rfl) ?_
      clear hK K
      try simp only [List.getElem_toArray, List.getElem_cons_zero, List.getElem_cons_succ, Act.put, List.setIfInBounds_toArray, List.set_cons_zero, List.set_cons_succ]
      refine wpG_done (by kernel_rfl) ?_ _
      go_wp2_with (fail)
      go_roundg (W * H - (k + 1))
      case measure => rw [HG.out]; omega
      case rel => exact ⟨k + 1, rfl, by omega, by go_num, by rw [shadL_succ, List.map_append]; have e1 := HKC.out; have e2 := HKM.out; rw [← e1, ← e2]; exact hown', ho04, ho14, hbv4, hbt4, hB4⟩
    · have hk2 : k = W * H := by omega
      have hpos : 0 < k := by rw [hk2]; exact Nat.mul_pos (by omega) (by omega)
      obtain ⟨g', cap', rfl, hg1, hg2⟩ := hown.form hpos
      have hlen : (shadL W H F L X Y N PX PY rows wd n k).length = k := by simp [shadL]
      have hcc := run_convert_bytes_arg (P := Tryz.prog) wr 89 5 Tryz.underlying89 Tryz.underlying5 g' 0 k cap' (shadL W H F L X Y N PX PY rows wd n k) hlen (fun i hi => by
        rw [Nat.zero_add, hown.cellAt i (by omega)]
        simp [List.getD_eq_getElem?_getD, hlen, hi]) 9 Tryz.underlying9
      have htst : ¬ ((k : Int) < (W : Int) * H) := by have := HWH.out; omega
      have HK2 := Lib.hid hk2; clear hk2 hWi hlen
      go_wp2_with (fail)
      go_ret
      refine ⟨?_, hB⟩
      have e := HK2.out
      rw [← e]
      simp
end Go.Proofs.YtifddfchpknkbaaGreatDoor
