import Derived.Test.YtifddfchpknkbaaGreatDoorK
import Derived.Deep.LoopGhost
import Derived.Deep.DeepCutAuto
import Derived.Deep.CutBlock
set_option linter.unusedVariables false
set_option linter.unusedSimpArgs false
namespace Go.Proofs.YtifddfchpknkbaaGreatDoor
open Go.RowKit

def scanN (p : Nat → Bool) : Nat → Nat → Nat
  | 0, t => t
  | f + 1, t => if p t then scanN p f (t + 1) else t
theorem scanN_le (p : Nat → Bool) : ∀ (f t : Nat), t ≤ scanN p f t ∧ scanN p f t ≤ t + f
  | 0, t => by simp [scanN]
  | f + 1, t => by
    unfold scanN
    split
    · have := scanN_le p f (t + 1); omega
    · omega
theorem scanN_go (p : Nat → Bool) (f t n : Nat) (hf : f = n - t) (h : t < n) (hp : p t = true) : scanN p f t = scanN p (n - (t + 1)) (t + 1) := by
  subst hf
  rw [show n - t = (n - (t + 1)) + 1 from by omega, scanN, hp, if_pos rfl]
theorem scanN_stop (p : Nat → Bool) (f t : Nat) (h : p t = false ∨ f = 0) : scanN p f t = t := by
  cases f with
  | zero => rfl
  | succ f => rcases h with h | h
              · rw [scanN, h]; rfl
              · cases h

/-- The first column, and the one behind the last, of which a cell gets shadows; and whether nothing beside the figure does. -/
def lowV (F N L k : Int) : Int := k * (F - N) - L * N
def highV (F N L k : Int) : Int := (k + 1) * (F - N) + L * N
def firstS (ax F N P lo : Int) (sz : Nat) : Nat := scanN (fun t => decide (lineV ax F N (P + (t + 1)) ≤ lo)) sz 0
def endS (ax F N P lo hi : Int) (sz : Nat) : Nat := scanN (fun t => decide (lineV ax F N (P + t) < hi)) (sz - firstS ax F N P lo sz) (firstS ax F N P lo sz)
def insideS (ax F N P lo hi : Int) (sz : Nat) : Bool := decide (lineV ax F N P ≤ lo) && decide (hi ≤ lineV ax F N (P + sz))

set_option maxHeartbeats 1600000 in
theorem strip_across (W H F L X Y N PX PY : Int) (R : Value) (hR : R.oneCell' = true) (sz k : Nat) (w : World) (x1 : 0 ≤ X) (x2 : X ≤ 100) (h1 : 0 ≤ F) (h2 : F ≤ 100) (h3 : 0 ≤ N) (h4 : N ≤ 100) (h5 : 0 ≤ L) (h6 : L ≤ 100)
    (p1 : -50 ≤ PX) (p2 : PX ≤ 50) (c1 : sz ≤ 50) (c2 : k ≤ 50) :
    Calls Tryz.prog 181 #[.agg #[.int .i64 W, .int .i64 H, .int .i64 F, .int .i64 L, .int .i64 X, .int .i64 Y, R, .int .i64 N, .int .i64 PX, .int .i64 PY], .func (.func 190) #[] #[], .int .i64 sz, .int .i64 k] w
      fun r w' => r = .returned (.agg #[.int .i64 (firstS X F N PX (lowV F N L k) sz), .int .i64 (endS X F N PX (lowV F N L k) (highV F N L k) sz), .bool (insideS X F N PX (lowV F N L k) (highV F N L k) sz)]) ∧ Below w.heap.size w w' := by
  obtain ⟨s1, s2⟩ := mulB (x := (k : Int)) (y := F - N) (a := 100) (b := 200) (by omega) (by omega) (by omega) (by omega)
  obtain ⟨q1, q2⟩ := mulB (x := (k : Int) + 1) (y := F - N) (a := 100) (b := 200) (by omega) (by omega) (by omega) (by omega)
  obtain ⟨r1, r2⟩ := mulB (x := L) (y := N) (a := 100) (b := 100) (by omega) (by omega) (by omega) (by omega)
  go_enter Tryz.func181, Tryz.ntmps181
  go_wp2
  obtain ⟨W1, hW1⟩ : ∃ W1 : World, W1 = (w.alloc (.cells #[.int .i64 W, .int .i64 H, .int .i64 F, .int .i64 L, .int .i64 X, .int .i64 Y, R, .int .i64 N, .int .i64 PX, .int .i64 PY] 140)).alloc (.cells #[.int .i64 0, .int .i64 0, .bool false] 191) := ⟨_, rfl⟩
  rw [← hW1]
  have hblk : Blk W1 w.heap.size 140 #[.int .i64 W, .int .i64 H, .int .i64 F, .int .i64 L, .int .i64 X, .int .i64 Y, R, .int .i64 N, .int .i64 PX, .int .i64 PY] := by rw [hW1]; exact (Blk.new _ _ _).alloc _
  have hres : Blk W1 (w.heap.size + 1) 191 #[.int .i64 0, .int .i64 0, .bool false] := by rw [hW1]; have := Blk.new (w.alloc (.cells #[.int .i64 W, .int .i64 H, .int .i64 F, .int .i64 L, .int .i64 X, .int .i64 Y, R, .int .i64 N, .int .i64 PX, .int .i64 PY] 140)) 191 #[.int .i64 0, .int .i64 0, .bool false]; simpa using this
  have hB : Below w.heap.size w W1 := by rw [hW1]; exact ((Below.refl _ _).alloc (Nat.le_refl _) _).alloc (by simp) _
  clear hW1
  have hc := fun p i => blw_blk hblk p i
  have e1 := i64_ok ((k : Int) * (F - N)) (by omega)
  have e2 := i64_ok ((k : Int) * (F - N) - L * N) (by omega)
  refine wp_region_blw (by kernel_rfl) (by kernel_rfl) ?_
  repeat (quiet_step (first | (go_at_call 156; exact Calls.blw_of _ (parts_any _ _ _ _ _ _ _ _ _ _ _ h1 h2 h3 h4)) | (go_at_call 153; exact Calls.blw_of _ (blur_any _ _ _ _ _ _ _ _ _ _ _ h5 h6 h3 h4))))
  clear e1 e2
  refine wpQuiet_nil ?_
  rintro W2 ⟨⟨_, hb2⟩, rfl⟩
  replace hblk := hblk.below hb2 hblk.lt
  replace hres := hres.below hb2 hres.lt
  replace hB := hB.trans (hb2.mono hB.size)
  clear hb2 hc
  go_wp2
  have hc := fun p i => blw_blk hblk p i
  have e3 := i64_ok ((k : Int) + 1) (by omega)
  have e1 := i64_ok (((k : Int) + 1) * (F - N)) (by omega)
  have e2 := i64_ok (((k : Int) + 1) * (F - N) + L * N) (by omega)
  refine wp_region_blw (by kernel_rfl) (by kernel_rfl) ?_
  repeat (quiet_step (first | (go_at_call 156; exact Calls.blw_of _ (parts_any _ _ _ _ _ _ _ _ _ _ _ h1 h2 h3 h4)) | (go_at_call 153; exact Calls.blw_of _ (blur_any _ _ _ _ _ _ _ _ _ _ _ h5 h6 h3 h4))))
  clear e1 e2 e3
  refine wpQuiet_nil ?_
  rintro W3 ⟨⟨_, hb3⟩, rfl⟩
  replace hblk := hblk.below hb3 hblk.lt
  replace hres := hres.below hb3 hres.lt
  replace hB := hB.trans (hb3.mono hB.size)
  clear hb3 hc
  have hlow : (k : Int) * (F - N) - L * N = lowV F N L k := rfl
  have hhigh : ((k : Int) + 1) * (F - N) + L * N = highV F N L k := rfl
  rw [hlow, hhigh]
  generalize hlo : lowV F N L k = lo
  generalize hhi : highV F N L k = hi
  have HLO := Lib.hid hlo; have HHI := Lib.hid hhi; clear hlo hhi hlow hhigh s1 s2 q1 q2 r1 r2
  have hc := fun i => hblk.cell i
  have hg := hblk.lt
  have hg2 := hres.lt
  go_upto_region 3 with (fail)
  go_cut [11] (fun v wx => ∃ g : Nat, v = .pointer (some ⟨g, 0, none⟩) ∧ Blk wx g 191 #[.int .i64 0, .int .i64 0, .bool (insideS X F N PX lo hi sz)] ∧
    Blk wx w.heap.size 140 #[.int .i64 W, .int .i64 H, .int .i64 F, .int .i64 L, .int .i64 X, .int .i64 Y, R, .int .i64 N, .int .i64 PX, .int .i64 PY] ∧ Blk wx (w.heap.size + 1) 191 #[.int .i64 0, .int .i64 0, .bool false] ∧ w.heap.size + 1 < g ∧ Below w.heap.size w wx)
  case first =>
    have hin : insideS X F N PX lo hi sz = (decide (lineV X F N PX ≤ lo) && decide (hi ≤ lineV X F N (PX + sz))) := rfl
    have HIN := Lib.hid hin; clear hin
    have hT := Below.refl W3.heap.size W3
    cases i1 : decide (lineV X F N PX ≤ lo)
    all_goals
      go_wp2_with (go_at_call 190; refine (across_any _ _ _ _ _ _ _ _ _ _ _ hR _ x1 x2 h1 h2 h3 h4 (by omega) (by omega) (by omega) (by omega)).mono ?_; rintro e w1 ⟨rfl, hb⟩; replace hT := hT.trans (hb.mono hT.size); obtain ⟨hcc, hff⟩ := bcell hT)
      go_meet
      have hz := hT.size
      have hz2 := hB.size
      refine ⟨_, rfl, ?_, (hblk.below hT hg).alloc _, (hres.below hT hg2).alloc _, by omega, (hB.trans (hT.mono hB.size)).alloc (by omega) _⟩
      rw [HIN.out, i1]
      exact Blk.new _ _ _
  case rest =>
    obtain ⟨g, rfl, hbx, hblk, hres, hgt, hB⟩ := hcut
    go_upto_block 0 with (fail)
    go_cut [] (fun wx => Blk wx g 191 #[.int .i64 (firstS X F N PX lo sz), .int .i64 0, .bool (insideS X F N PX lo hi sz)] ∧ Blk wx w.heap.size 140 #[.int .i64 W, .int .i64 H, .int .i64 F, .int .i64 L, .int .i64 X, .int .i64 Y, R, .int .i64 N, .int .i64 PX, .int .i64 PY] ∧ Blk wx (w.heap.size + 1) 191 #[.int .i64 0, .int .i64 0, .bool false] ∧ Below w.heap.size w wx)
    case first =>
      go_wp2_with (fail)
      go_loopg [] sz (fun n wr => ∃ t : Nat, n = sz - t ∧ t ≤ sz ∧ scanN (fun t => decide (lineV X F N (PX + (t + 1)) ≤ lo)) n t = firstS X F N PX lo sz ∧ Blk wr g 191 #[.int .i64 t, .int .i64 0, .bool (insideS X F N PX lo hi sz)] ∧
        Blk wr w.heap.size 140 #[.int .i64 W, .int .i64 H, .int .i64 F, .int .i64 L, .int .i64 X, .int .i64 Y, R, .int .i64 N, .int .i64 PX, .int .i64 PY] ∧ Blk wr (w.heap.size + 1) 191 #[.int .i64 0, .int .i64 0, .bool false] ∧ Below w.heap.size w wr)
      case atStart => exact ⟨0, rfl, Nat.zero_le _, rfl, hbx, hblk, hres, hB⟩
      case round =>
        clear hbx hblk hres hB
        obtain ⟨t, hn, htl, hsc, hbx, hblk, hres, hB⟩ := hrel
        have HN := Lib.hid hn; have HS := Lib.hid hsc; clear hn hsc
        have hcx := fun i => hbx.cell i
        have hcv := fun i => hblk.cell i
        have hfx := fun i => hbx.frozen i
        have hg := hblk.lt
        have hg2 := hbx.lt
        have hT := Below.refl wr.heap.size wr
        by_cases hts : t < sz
        · cases hp : decide (lineV X F N (PX + (t + 1)) ≤ lo)
          · go_wp2_with (go_at_call 190; refine (across_any _ _ _ _ _ _ _ _ _ _ _ hR _ x1 x2 h1 h2 h3 h4 (by omega) (by omega) (by omega) (by omega)).mono ?_; rintro e w1 ⟨rfl, hb⟩; replace hT := hT.trans (hb.mono hT.size); obtain ⟨hcc, hff⟩ := bcell hT)
            go_meet
            have he : t = firstS X F N PX lo sz := by rw [← HS.out]; exact (scanN_stop _ _ _ (.inl hp)).symm
            exact ⟨by rw [← he]; exact hbx.below hT hg2, hblk.below hT hg, hres.below hT hres.lt, hB.trans (hT.mono hB.size)⟩
          · go_wp2_with (go_at_call 190; refine (across_any _ _ _ _ _ _ _ _ _ _ _ hR _ x1 x2 h1 h2 h3 h4 (by omega) (by omega) (by omega) (by omega)).mono ?_; rintro e w1 ⟨rfl, hb⟩; replace hT := hT.trans (hb.mono hT.size); obtain ⟨hcc, hff⟩ := bcell hT)
            go_roundg (sz - (t + 1))
            case measure => rw [HN.out]; omega
            case rel => exact ⟨t + 1, rfl, by omega, by rw [← HS.out]; exact (scanN_go _ _ _ _ HN.out hts hp).symm, (hbx.below hT hg2).set_ 0 _, (hblk.below hT hg).far (p := ⟨g, 0, none⟩) (by show _ ≠ g; omega) _, (hres.below hT hres.lt).far (p := ⟨g, 0, none⟩) (by show _ ≠ g; omega) _, (hB.trans (hT.mono hB.size)).setCell (p := ⟨g, 0, none⟩) (by show _ ≤ g; omega) _⟩
        · go_wp2
          go_meet
          have he : t = firstS X F N PX lo sz := by rw [← HS.out]; exact (scanN_stop _ _ _ (.inr (by rw [HN.out]; omega))).symm
          exact ⟨by rw [← he]; exact hbx, hblk, hres, hB⟩
    case rest =>
      clear hbx hblk hres hB
      obtain ⟨hbx, hblk, hres, hB⟩ := hcut
      generalize hfi : firstS X F N PX lo sz = fi
      have hfle : fi ≤ sz := by rw [← hfi]; have := scanN_le (fun t => decide (lineV X F N (PX + (t + 1)) ≤ lo)) sz 0; unfold firstS; omega
      rw [hfi] at hbx
      have HFI := Lib.hid hfi; clear hfi
      have hcx := fun i => hbx.cell i
      have hfx := fun i => hbx.frozen i
      have hg2 := hbx.lt
      go_upto_block 2 with (fail)
      go_cut [] (fun wx => Blk wx g 191 #[.int .i64 fi, .int .i64 (endS X F N PX lo hi sz), .bool (insideS X F N PX lo hi sz)] ∧ Blk wx (w.heap.size + 1) 191 #[.int .i64 0, .int .i64 0, .bool false] ∧ Below w.heap.size w wx)
      case first =>
        clear hcx hfx
        go_wp2_with (fail)
        go_loopg [] (sz - fi) (fun n wr => ∃ t : Nat, n = sz - t ∧ t ≤ sz ∧ scanN (fun t => decide (lineV X F N (PX + t) < hi)) n t = endS X F N PX lo hi sz ∧ Blk wr g 191 #[.int .i64 fi, .int .i64 t, .bool (insideS X F N PX lo hi sz)] ∧
          Blk wr w.heap.size 140 #[.int .i64 W, .int .i64 H, .int .i64 F, .int .i64 L, .int .i64 X, .int .i64 Y, R, .int .i64 N, .int .i64 PX, .int .i64 PY] ∧ Blk wr (w.heap.size + 1) 191 #[.int .i64 0, .int .i64 0, .bool false] ∧ Below w.heap.size w wr)
        case atStart => exact ⟨fi, rfl, hfle, by unfold endS; rw [HFI.out], hbx.set_ 1 _, hblk.far (p := ⟨g, 1, none⟩) (by show _ ≠ g; omega) _, hres.far (p := ⟨g, 1, none⟩) (by show _ ≠ g; omega) _, hB.setCell (p := ⟨g, 1, none⟩) (by show _ ≤ g; omega) _⟩
        case round =>
          clear hbx hblk hres hB hg2
          obtain ⟨t, hn, htl, hsc, hbx, hblk, hres, hB⟩ := hrel
          have HN := Lib.hid hn; have HS := Lib.hid hsc; clear hn hsc
          have hcx := fun i => hbx.cell i
          have hcv := fun i => hblk.cell i
          have hfx := fun i => hbx.frozen i
          have hg := hblk.lt
          have hg2 := hbx.lt
          have hT := Below.refl wr.heap.size wr
          by_cases hts : t < sz
          · cases hp : decide (lineV X F N (PX + t) < hi)
            · go_wp2_with (go_at_call 190; refine (across_any _ _ _ _ _ _ _ _ _ _ _ hR _ x1 x2 h1 h2 h3 h4 (by omega) (by omega) (by omega) (by omega)).mono ?_; rintro e w1 ⟨rfl, hb⟩; replace hT := hT.trans (hb.mono hT.size); obtain ⟨hcc, hff⟩ := bcell hT)
              go_meet
              have he : t = endS X F N PX lo hi sz := by rw [← HS.out]; exact (scanN_stop _ _ _ (.inl hp)).symm
              exact ⟨by rw [← he]; exact hbx.below hT hg2, hres.below hT hres.lt, hB.trans (hT.mono hB.size)⟩
            · go_wp2_with (go_at_call 190; refine (across_any _ _ _ _ _ _ _ _ _ _ _ hR _ x1 x2 h1 h2 h3 h4 (by omega) (by omega) (by omega) (by omega)).mono ?_; rintro e w1 ⟨rfl, hb⟩; replace hT := hT.trans (hb.mono hT.size); obtain ⟨hcc, hff⟩ := bcell hT)
              go_roundg (sz - (t + 1))
              case measure => rw [HN.out]; omega
              case rel => exact ⟨t + 1, rfl, by omega, by rw [← HS.out]; exact (scanN_go _ _ _ _ HN.out hts hp).symm, (hbx.below hT hg2).set_ 1 _, (hblk.below hT hg).far (p := ⟨g, 1, none⟩) (by show _ ≠ g; omega) _, (hres.below hT hres.lt).far (p := ⟨g, 1, none⟩) (by show _ ≠ g; omega) _, (hB.trans (hT.mono hB.size)).setCell (p := ⟨g, 1, none⟩) (by show _ ≤ g; omega) _⟩
          · go_wp2
            go_meet
            have he : t = endS X F N PX lo hi sz := by rw [← HS.out]; exact (scanN_stop _ _ _ (.inr (by rw [HN.out]; omega))).symm
            exact ⟨by rw [← he]; exact hbx, hres, hB⟩
      case rest =>
        clear hbx hblk hres hB hcx hfx hg2
        obtain ⟨hbx, hres, hB⟩ := hcut
        have hcx := fun i => hbx.cell i
        have hcr := fun i => hres.cell i
        have hfr := fun i => hres.frozen i
        have hg := hres.lt
        go_wp2
        refine bodyPost_ret (v := .agg #[.int .i64 fi, .int .i64 (endS X F N PX lo hi sz), .bool (insideS X F N PX lo hi sz)]) ?_ rfl ⟨?_, ?_⟩
        · simp [results, Tryz.results181, go_sem, hg, hcr]
        · rw [HLO.out, HHI.out, ← HFI.out]
        · repeat (first | exact hB | refine Below.setCell ?_ (by simp) _)
set_option maxHeartbeats 1600000 in
theorem strip_down (W H F L X Y N PX PY : Int) (R : Value) (hR : R.oneCell' = true) (sz k : Nat) (w : World) (x1 : 0 ≤ Y) (x2 : Y ≤ 100) (h1 : 0 ≤ F) (h2 : F ≤ 100) (h3 : 0 ≤ N) (h4 : N ≤ 100) (h5 : 0 ≤ L) (h6 : L ≤ 100)
    (p1 : -50 ≤ PY) (p2 : PY ≤ 50) (c1 : sz ≤ 50) (c2 : k ≤ 50) :
    Calls Tryz.prog 181 #[.agg #[.int .i64 W, .int .i64 H, .int .i64 F, .int .i64 L, .int .i64 X, .int .i64 Y, R, .int .i64 N, .int .i64 PX, .int .i64 PY], .func (.func 191) #[] #[], .int .i64 sz, .int .i64 k] w
      fun r w' => r = .returned (.agg #[.int .i64 (firstS Y F N PY (lowV F N L k) sz), .int .i64 (endS Y F N PY (lowV F N L k) (highV F N L k) sz), .bool (insideS Y F N PY (lowV F N L k) (highV F N L k) sz)]) ∧ Below w.heap.size w w' := by
  obtain ⟨s1, s2⟩ := mulB (x := (k : Int)) (y := F - N) (a := 100) (b := 200) (by omega) (by omega) (by omega) (by omega)
  obtain ⟨q1, q2⟩ := mulB (x := (k : Int) + 1) (y := F - N) (a := 100) (b := 200) (by omega) (by omega) (by omega) (by omega)
  obtain ⟨r1, r2⟩ := mulB (x := L) (y := N) (a := 100) (b := 100) (by omega) (by omega) (by omega) (by omega)
  go_enter Tryz.func181, Tryz.ntmps181
  go_wp2
  obtain ⟨W1, hW1⟩ : ∃ W1 : World, W1 = (w.alloc (.cells #[.int .i64 W, .int .i64 H, .int .i64 F, .int .i64 L, .int .i64 X, .int .i64 Y, R, .int .i64 N, .int .i64 PX, .int .i64 PY] 140)).alloc (.cells #[.int .i64 0, .int .i64 0, .bool false] 191) := ⟨_, rfl⟩
  rw [← hW1]
  have hblk : Blk W1 w.heap.size 140 #[.int .i64 W, .int .i64 H, .int .i64 F, .int .i64 L, .int .i64 X, .int .i64 Y, R, .int .i64 N, .int .i64 PX, .int .i64 PY] := by rw [hW1]; exact (Blk.new _ _ _).alloc _
  have hres : Blk W1 (w.heap.size + 1) 191 #[.int .i64 0, .int .i64 0, .bool false] := by rw [hW1]; have := Blk.new (w.alloc (.cells #[.int .i64 W, .int .i64 H, .int .i64 F, .int .i64 L, .int .i64 X, .int .i64 Y, R, .int .i64 N, .int .i64 PX, .int .i64 PY] 140)) 191 #[.int .i64 0, .int .i64 0, .bool false]; simpa using this
  have hB : Below w.heap.size w W1 := by rw [hW1]; exact ((Below.refl _ _).alloc (Nat.le_refl _) _).alloc (by simp) _
  clear hW1
  have hc := fun p i => blw_blk hblk p i
  have e1 := i64_ok ((k : Int) * (F - N)) (by omega)
  have e2 := i64_ok ((k : Int) * (F - N) - L * N) (by omega)
  refine wp_region_blw (by kernel_rfl) (by kernel_rfl) ?_
  repeat (quiet_step (first | (go_at_call 156; exact Calls.blw_of _ (parts_any _ _ _ _ _ _ _ _ _ _ _ h1 h2 h3 h4)) | (go_at_call 153; exact Calls.blw_of _ (blur_any _ _ _ _ _ _ _ _ _ _ _ h5 h6 h3 h4))))
  clear e1 e2
  refine wpQuiet_nil ?_
  rintro W2 ⟨⟨_, hb2⟩, rfl⟩
  replace hblk := hblk.below hb2 hblk.lt
  replace hres := hres.below hb2 hres.lt
  replace hB := hB.trans (hb2.mono hB.size)
  clear hb2 hc
  go_wp2
  have hc := fun p i => blw_blk hblk p i
  have e3 := i64_ok ((k : Int) + 1) (by omega)
  have e1 := i64_ok (((k : Int) + 1) * (F - N)) (by omega)
  have e2 := i64_ok (((k : Int) + 1) * (F - N) + L * N) (by omega)
  refine wp_region_blw (by kernel_rfl) (by kernel_rfl) ?_
  repeat (quiet_step (first | (go_at_call 156; exact Calls.blw_of _ (parts_any _ _ _ _ _ _ _ _ _ _ _ h1 h2 h3 h4)) | (go_at_call 153; exact Calls.blw_of _ (blur_any _ _ _ _ _ _ _ _ _ _ _ h5 h6 h3 h4))))
  clear e1 e2 e3
  refine wpQuiet_nil ?_
  rintro W3 ⟨⟨_, hb3⟩, rfl⟩
  replace hblk := hblk.below hb3 hblk.lt
  replace hres := hres.below hb3 hres.lt
  replace hB := hB.trans (hb3.mono hB.size)
  clear hb3 hc
  have hlow : (k : Int) * (F - N) - L * N = lowV F N L k := rfl
  have hhigh : ((k : Int) + 1) * (F - N) + L * N = highV F N L k := rfl
  rw [hlow, hhigh]
  generalize hlo : lowV F N L k = lo
  generalize hhi : highV F N L k = hi
  have HLO := Lib.hid hlo; have HHI := Lib.hid hhi; clear hlo hhi hlow hhigh s1 s2 q1 q2 r1 r2
  have hc := fun i => hblk.cell i
  have hg := hblk.lt
  have hg2 := hres.lt
  go_upto_region 3 with (fail)
  go_cut [11] (fun v wx => ∃ g : Nat, v = .pointer (some ⟨g, 0, none⟩) ∧ Blk wx g 191 #[.int .i64 0, .int .i64 0, .bool (insideS Y F N PY lo hi sz)] ∧
    Blk wx w.heap.size 140 #[.int .i64 W, .int .i64 H, .int .i64 F, .int .i64 L, .int .i64 X, .int .i64 Y, R, .int .i64 N, .int .i64 PX, .int .i64 PY] ∧ Blk wx (w.heap.size + 1) 191 #[.int .i64 0, .int .i64 0, .bool false] ∧ w.heap.size + 1 < g ∧ Below w.heap.size w wx)
  case first =>
    have hin : insideS Y F N PY lo hi sz = (decide (lineV Y F N PY ≤ lo) && decide (hi ≤ lineV Y F N (PY + sz))) := rfl
    have HIN := Lib.hid hin; clear hin
    have hT := Below.refl W3.heap.size W3
    cases i1 : decide (lineV Y F N PY ≤ lo)
    all_goals
      go_wp2_with (go_at_call 191; refine (down_any _ _ _ _ _ _ _ _ _ _ _ hR _ x1 x2 h1 h2 h3 h4 (by omega) (by omega) (by omega) (by omega)).mono ?_; rintro e w1 ⟨rfl, hb⟩; replace hT := hT.trans (hb.mono hT.size); obtain ⟨hcc, hff⟩ := bcell hT)
      go_meet
      have hz := hT.size
      have hz2 := hB.size
      refine ⟨_, rfl, ?_, (hblk.below hT hg).alloc _, (hres.below hT hg2).alloc _, by omega, (hB.trans (hT.mono hB.size)).alloc (by omega) _⟩
      rw [HIN.out, i1]
      exact Blk.new _ _ _
  case rest =>
    obtain ⟨g, rfl, hbx, hblk, hres, hgt, hB⟩ := hcut
    go_upto_block 0 with (fail)
    go_cut [] (fun wx => Blk wx g 191 #[.int .i64 (firstS Y F N PY lo sz), .int .i64 0, .bool (insideS Y F N PY lo hi sz)] ∧ Blk wx w.heap.size 140 #[.int .i64 W, .int .i64 H, .int .i64 F, .int .i64 L, .int .i64 X, .int .i64 Y, R, .int .i64 N, .int .i64 PX, .int .i64 PY] ∧ Blk wx (w.heap.size + 1) 191 #[.int .i64 0, .int .i64 0, .bool false] ∧ Below w.heap.size w wx)
    case first =>
      go_wp2_with (fail)
      go_loopg [] sz (fun n wr => ∃ t : Nat, n = sz - t ∧ t ≤ sz ∧ scanN (fun t => decide (lineV Y F N (PY + (t + 1)) ≤ lo)) n t = firstS Y F N PY lo sz ∧ Blk wr g 191 #[.int .i64 t, .int .i64 0, .bool (insideS Y F N PY lo hi sz)] ∧
        Blk wr w.heap.size 140 #[.int .i64 W, .int .i64 H, .int .i64 F, .int .i64 L, .int .i64 X, .int .i64 Y, R, .int .i64 N, .int .i64 PX, .int .i64 PY] ∧ Blk wr (w.heap.size + 1) 191 #[.int .i64 0, .int .i64 0, .bool false] ∧ Below w.heap.size w wr)
      case atStart => exact ⟨0, rfl, Nat.zero_le _, rfl, hbx, hblk, hres, hB⟩
      case round =>
        clear hbx hblk hres hB
        obtain ⟨t, hn, htl, hsc, hbx, hblk, hres, hB⟩ := hrel
        have HN := Lib.hid hn; have HS := Lib.hid hsc; clear hn hsc
        have hcx := fun i => hbx.cell i
        have hcv := fun i => hblk.cell i
        have hfx := fun i => hbx.frozen i
        have hg := hblk.lt
        have hg2 := hbx.lt
        have hT := Below.refl wr.heap.size wr
        by_cases hts : t < sz
        · cases hp : decide (lineV Y F N (PY + (t + 1)) ≤ lo)
          · go_wp2_with (go_at_call 191; refine (down_any _ _ _ _ _ _ _ _ _ _ _ hR _ x1 x2 h1 h2 h3 h4 (by omega) (by omega) (by omega) (by omega)).mono ?_; rintro e w1 ⟨rfl, hb⟩; replace hT := hT.trans (hb.mono hT.size); obtain ⟨hcc, hff⟩ := bcell hT)
            go_meet
            have he : t = firstS Y F N PY lo sz := by rw [← HS.out]; exact (scanN_stop _ _ _ (.inl hp)).symm
            exact ⟨by rw [← he]; exact hbx.below hT hg2, hblk.below hT hg, hres.below hT hres.lt, hB.trans (hT.mono hB.size)⟩
          · go_wp2_with (go_at_call 191; refine (down_any _ _ _ _ _ _ _ _ _ _ _ hR _ x1 x2 h1 h2 h3 h4 (by omega) (by omega) (by omega) (by omega)).mono ?_; rintro e w1 ⟨rfl, hb⟩; replace hT := hT.trans (hb.mono hT.size); obtain ⟨hcc, hff⟩ := bcell hT)
            go_roundg (sz - (t + 1))
            case measure => rw [HN.out]; omega
            case rel => exact ⟨t + 1, rfl, by omega, by rw [← HS.out]; exact (scanN_go _ _ _ _ HN.out hts hp).symm, (hbx.below hT hg2).set_ 0 _, (hblk.below hT hg).far (p := ⟨g, 0, none⟩) (by show _ ≠ g; omega) _, (hres.below hT hres.lt).far (p := ⟨g, 0, none⟩) (by show _ ≠ g; omega) _, (hB.trans (hT.mono hB.size)).setCell (p := ⟨g, 0, none⟩) (by show _ ≤ g; omega) _⟩
        · go_wp2
          go_meet
          have he : t = firstS Y F N PY lo sz := by rw [← HS.out]; exact (scanN_stop _ _ _ (.inr (by rw [HN.out]; omega))).symm
          exact ⟨by rw [← he]; exact hbx, hblk, hres, hB⟩
    case rest =>
      clear hbx hblk hres hB
      obtain ⟨hbx, hblk, hres, hB⟩ := hcut
      generalize hfi : firstS Y F N PY lo sz = fi
      have hfle : fi ≤ sz := by rw [← hfi]; have := scanN_le (fun t => decide (lineV Y F N (PY + (t + 1)) ≤ lo)) sz 0; unfold firstS; omega
      rw [hfi] at hbx
      have HFI := Lib.hid hfi; clear hfi
      have hcx := fun i => hbx.cell i
      have hfx := fun i => hbx.frozen i
      have hg2 := hbx.lt
      go_upto_block 2 with (fail)
      go_cut [] (fun wx => Blk wx g 191 #[.int .i64 fi, .int .i64 (endS Y F N PY lo hi sz), .bool (insideS Y F N PY lo hi sz)] ∧ Blk wx (w.heap.size + 1) 191 #[.int .i64 0, .int .i64 0, .bool false] ∧ Below w.heap.size w wx)
      case first =>
        clear hcx hfx
        go_wp2_with (fail)
        go_loopg [] (sz - fi) (fun n wr => ∃ t : Nat, n = sz - t ∧ t ≤ sz ∧ scanN (fun t => decide (lineV Y F N (PY + t) < hi)) n t = endS Y F N PY lo hi sz ∧ Blk wr g 191 #[.int .i64 fi, .int .i64 t, .bool (insideS Y F N PY lo hi sz)] ∧
          Blk wr w.heap.size 140 #[.int .i64 W, .int .i64 H, .int .i64 F, .int .i64 L, .int .i64 X, .int .i64 Y, R, .int .i64 N, .int .i64 PX, .int .i64 PY] ∧ Blk wr (w.heap.size + 1) 191 #[.int .i64 0, .int .i64 0, .bool false] ∧ Below w.heap.size w wr)
        case atStart => exact ⟨fi, rfl, hfle, by unfold endS; rw [HFI.out], hbx.set_ 1 _, hblk.far (p := ⟨g, 1, none⟩) (by show _ ≠ g; omega) _, hres.far (p := ⟨g, 1, none⟩) (by show _ ≠ g; omega) _, hB.setCell (p := ⟨g, 1, none⟩) (by show _ ≤ g; omega) _⟩
        case round =>
          clear hbx hblk hres hB hg2
          obtain ⟨t, hn, htl, hsc, hbx, hblk, hres, hB⟩ := hrel
          have HN := Lib.hid hn; have HS := Lib.hid hsc; clear hn hsc
          have hcx := fun i => hbx.cell i
          have hcv := fun i => hblk.cell i
          have hfx := fun i => hbx.frozen i
          have hg := hblk.lt
          have hg2 := hbx.lt
          have hT := Below.refl wr.heap.size wr
          by_cases hts : t < sz
          · cases hp : decide (lineV Y F N (PY + t) < hi)
            · go_wp2_with (go_at_call 191; refine (down_any _ _ _ _ _ _ _ _ _ _ _ hR _ x1 x2 h1 h2 h3 h4 (by omega) (by omega) (by omega) (by omega)).mono ?_; rintro e w1 ⟨rfl, hb⟩; replace hT := hT.trans (hb.mono hT.size); obtain ⟨hcc, hff⟩ := bcell hT)
              go_meet
              have he : t = endS Y F N PY lo hi sz := by rw [← HS.out]; exact (scanN_stop _ _ _ (.inl hp)).symm
              exact ⟨by rw [← he]; exact hbx.below hT hg2, hres.below hT hres.lt, hB.trans (hT.mono hB.size)⟩
            · go_wp2_with (go_at_call 191; refine (down_any _ _ _ _ _ _ _ _ _ _ _ hR _ x1 x2 h1 h2 h3 h4 (by omega) (by omega) (by omega) (by omega)).mono ?_; rintro e w1 ⟨rfl, hb⟩; replace hT := hT.trans (hb.mono hT.size); obtain ⟨hcc, hff⟩ := bcell hT)
              go_roundg (sz - (t + 1))
              case measure => rw [HN.out]; omega
              case rel => exact ⟨t + 1, rfl, by omega, by rw [← HS.out]; exact (scanN_go _ _ _ _ HN.out hts hp).symm, (hbx.below hT hg2).set_ 1 _, (hblk.below hT hg).far (p := ⟨g, 1, none⟩) (by show _ ≠ g; omega) _, (hres.below hT hres.lt).far (p := ⟨g, 1, none⟩) (by show _ ≠ g; omega) _, (hB.trans (hT.mono hB.size)).setCell (p := ⟨g, 1, none⟩) (by show _ ≤ g; omega) _⟩
          · go_wp2
            go_meet
            have he : t = endS Y F N PY lo hi sz := by rw [← HS.out]; exact (scanN_stop _ _ _ (.inr (by rw [HN.out]; omega))).symm
            exact ⟨by rw [← he]; exact hbx, hres, hB⟩
      case rest =>
        clear hbx hblk hres hB hcx hfx hg2
        obtain ⟨hbx, hres, hB⟩ := hcut
        have hcx := fun i => hbx.cell i
        have hcr := fun i => hres.cell i
        have hfr := fun i => hres.frozen i
        have hg := hres.lt
        go_wp2
        refine bodyPost_ret (v := .agg #[.int .i64 fi, .int .i64 (endS Y F N PY lo hi sz), .bool (insideS Y F N PY lo hi sz)]) ?_ rfl ⟨?_, ?_⟩
        · simp [results, Tryz.results181, go_sem, hg, hcr]
        · rw [HLO.out, HHI.out, ← HFI.out]
        · repeat (first | exact hB | refine Below.setCell ?_ (by simp) _)
end Go.Proofs.YtifddfchpknkbaaGreatDoor

namespace Go.Proofs.YtifddfchpknkbaaGreatDoor
open Go.RowKit

def cutA (A : Option Addr) (cap k sz : Nat) : Option Addr := if cap = k then A else A.map (·.add (k * sz))
theorem run_slice_cut {P : Program} (t e : TypeId) (sz : Nat) (ht : P.underlying t = some (.slice e)) (hs : ∀ w, (sizeOf e).run P w = .ok sz w) (A : Option Addr) (n cap : Nat) (kl kh : IntKind) (l h : Nat) (h1 : l ≤ h) (h2 : h ≤ cap) (w : World) :
    (Instr.slice t (.slice A n cap) (some (.int kl l)) (some (.int kh h)) none).run P w = .ok (.slice (cutA A cap l sz) (h - l) (cap - l)) w := by
  have e1 : 0 ≤ (h : Int) ∧ (h : Int) ≤ (cap : Int) := by omega
  have e2 : 0 ≤ (l : Int) ∧ (l : Int) ≤ (h : Int) := by omega
  simp [Instr.slice, run_underlying ht, Instr.sliceBounds, Instr.sliceBound, asIntOf, hs, cutA, h1, h2]
theorem Rd.cutA' {w : World} {B sz n : Nat} {A : Option Addr} {xs : List Value} (h : Rd w B sz A n xs) {k m cap : Nat} (hk : k ≤ m) (hm : m ≤ n) (hc : n ≤ cap) :
    Rd w B sz (cutA A cap k sz) (m - k) ((xs.drop (k * sz)).take ((m - k) * sz)) := h.cut hk hm hc

/-- How many # the rows f to e have in the columns c to d. -/
def sumL (rows : List ByteArray) (c d : Nat) : Nat := (rows.map fun r => cntL (ltr (r.extract c d)) [35]).sum
theorem sumL_snoc (rows : List ByteArray) (r : ByteArray) (c d : Nat) : sumL (rows ++ [r]) c d = sumL rows c d + cntL (ltr (r.extract c d)) [35] := by
  simp [sumL]
theorem sumL_le (rows : List ByteArray) (c d m : Nat) (h : ∀ r ∈ rows, r.size ≤ m) : sumL rows c d ≤ rows.length * m := by
  induction rows with
  | nil => simp [sumL]
  | cons r rows ih =>
    have h1 := ih (fun x hx => h x (by simp [hx]))
    have h2 := cntL_le (ltr (r.extract c d)) [35]
    rw [ltr_len, ByteArray.size_extract] at h2
    have h3 := h r (by simp)
    simp only [sumL, List.map_cons, List.sum_cons, List.length_cons] at *
    rw [Nat.succ_mul]
    omega

def toneS (rows : List ByteArray) (c d : Nat) (ci : Bool) (f e : Nat) (ri : Bool) : Int :=
  if sumL ((rows.drop f).take (e - f)) c d = 0 then 46
  else if ci && ri && decide (sumL ((rows.drop f).take (e - f)) c d = (d - c) * (e - f)) then 35 else 43

set_option maxHeartbeats 2000000 in
theorem tone_any (W H F L X Y N PX PY : Int) (A : Option Addr) (n cap : Nat) (rows : List ByteArray) (wd c d f e : Nat) (ci ri : Bool) (w : World) (hr : Rd w w.heap.size 1 A n (rows.map Value.string)) (hcap : n ≤ cap) (hn : n ≤ 50) (hcm : cap ≤ maxLen)
    (hw : ∀ r ∈ rows, r.size = wd) (hwd : wd ≤ 50) (hc : c ≤ d) (hd : d ≤ wd) (hf : f ≤ e) (he : e ≤ n) :
    Calls Tryz.prog 148 #[.agg #[.int .i64 W, .int .i64 H, .int .i64 F, .int .i64 L, .int .i64 X, .int .i64 Y, .slice A n cap, .int .i64 N, .int .i64 PX, .int .i64 PY],
      .agg #[.int .i64 c, .int .i64 d, .bool ci], .agg #[.int .i64 f, .int .i64 e, .bool ri]] w
      fun r w' => r = .returned (.int .u8 (toneS rows c d ci f e ri)) ∧ Below w.heap.size w w' := by
  have hz := hr.len
  unfold maxLen at hcm
  have hsl := run_slice_cut (P := Tryz.prog) 24 9 1 Tryz.underlying24 (fun _ => by kernel_rfl) A n cap .i64 .i64 f e hf (by omega)
  have hr2 := hr.cutA' hf he hcap
  generalize hA2 : cutA A cap f 1 = A2 at hsl hr2
  clear hA2
  rw [Nat.mul_one, Nat.mul_one, ← List.map_drop, ← List.map_take] at hr2
  have hsum : toneS rows c d ci f e ri = if sumL ((rows.drop f).take (e - f)) c d = 0 then 46 else if ci && ri && decide (sumL ((rows.drop f).take (e - f)) c d = (d - c) * (e - f)) then 35 else 43 := rfl
  have hsub : ∀ r ∈ (rows.drop f).take (e - f), r.size = wd := fun r hr => hw r (List.mem_of_mem_drop (List.mem_of_mem_take hr))
  have hz2 := hr2.len
  generalize hrs : (rows.drop f).take (e - f) = rs at hr2 hsum hsub hz2
  have HSUM := Lib.hid hsum; have HZ := Lib.hid hz2; clear hsum hrs hz2 hz hr
  obtain ⟨m, hm⟩ : ∃ m, m = e - f := ⟨_, rfl⟩
  have hme : m ≤ 50 := by omega
  rw [← hm] at hr2 hsl
  have HM := Lib.hid hm; clear hm
  go_enter Tryz.func148, Tryz.ntmps148
  go_wp2
  go_loopg [7, 19] m (fun g t i wr => ∃ k : Nat, g = m - k ∧ k ≤ m ∧ i = .int .i64 k ∧ t = .int .i64 (sumL (rs.take k) c d) ∧ Below w.heap.size w wr ∧
    Blk wr (w.heap.size + 1) 191 #[.int .i64 c, .int .i64 d, .bool ci] ∧ Blk wr (w.heap.size + 1 + 1) 191 #[.int .i64 f, .int .i64 e, .bool ri])
  case atStart =>
    refine ⟨0, rfl, Nat.zero_le _, rfl, rfl, (((Below.refl _ _).alloc (Nat.le_refl _) _).alloc (by simp) _).alloc (by simp; omega) _, ?_, ?_⟩
    · exact ((World.size_alloc w _) ▸ Blk.new (w.alloc _) 191 #[.int .i64 c, .int .i64 d, .bool ci]).alloc _
    · have := Blk.new ((w.alloc (Obj.cells #[.int .i64 W, .int .i64 H, .int .i64 F, .int .i64 L, .int .i64 X, .int .i64 Y, .slice A n cap, .int .i64 N, .int .i64 PX, .int .i64 PY] 140)).alloc (Obj.cells #[.int .i64 c, .int .i64 d, .bool ci] 191)) 191 #[.int .i64 f, .int .i64 e, .bool ri]
      simpa using this
  case round =>
    obtain ⟨k, hg, hk, rfl, rfl, hB, hbc, hbr⟩ := hrel
    have HG := Lib.hid hg; clear hg
    have hcc := fun i => hbc.cell i
    have hcr := fun i => hbr.cell i
    have hlc := hbc.lt
    have hlr := hbr.lt
    have hle := sumL_le (rs.take k) c d 50 (fun r hr => by rw [hsub r (List.mem_of_mem_take hr)]; exact hwd)
    have hlt2 : (rs.take k).length ≤ k := List.length_take_le _ _
    have hle2 : sumL (rs.take k) c d ≤ 2500 := Nat.le_trans hle (Nat.le_trans (Nat.mul_le_mul_right 50 (Nat.le_trans hlt2 (Nat.le_trans hk hme))) (by decide))
    clear hle hlt2
    by_cases hlt : k < m
    · obtain ⟨b, off, hzk, rfl, hb, hcell⟩ := (hr2.below hB).atm hlt
      have hrsz := hsub rs[k] (List.getElem_mem hzk)
      have hin : d ≤ rs[k].size := by omega
      have hcl := cntL_le (ltr (rs[k].extract c d)) [35]
      rw [ltr_len, ByteArray.size_extract] at hcl
      have hcl2 : cntL (ltr (rs[k].extract c d)) [35] ≤ 100 := by omega
      have hsn := sumL_snoc (rs.take k) rs[k] c d
      rw [← List.take_succ_eq_append_getElem hzk] at hsn
      have HS := Lib.hid hsn; have HRS := Lib.hid hrsz; clear hsn hrsz hcl
      have hexs : (rs[k].extract c d).size ≤ maxLen := by rw [ByteArray.size_extract]; unfold maxLen; omega
      go_wp2_with (go_at_call 103; refine (count_any _ _ 1 1 [35] _ (wr.heap.size + 1) hexs (by decide) (Rd.blk (Blk.new _ _ _) rfl (by simp))).mono ?_; rintro e w1 ⟨rfl, rfl⟩)
      go_roundg (m - (k + 1))
      case measure => rw [HG.out]; omega
      case rel => exact ⟨k + 1, rfl, by omega, by go_num, by rw [HS.out]; go_num, hB.alloc hB.size _, hbc.alloc _, hbr.alloc _⟩
    · have hkm : rs.take k = rs := List.take_of_length_le (by rw [HZ.out]; have := HM.out; omega)
      rw [hkm] at hle2 ⊢
      have hprod : (((d - c) * (e - f) : Nat) : Int) = ((d : Int) - c) * ((e : Int) - f) := by rw [Int.natCast_mul, Int.ofNat_sub hc, Int.ofNat_sub hf]
      generalize sumL rs c d = s0 at HSUM hle2 ⊢
      have HP := Lib.hid hprod; clear hprod hkm
      have hlt' : ¬ ((k : Int) < (m : Int)) := by omega
      have h0c : (0 : Int) ≤ c := by omega
      obtain ⟨q1, q2⟩ := mulB (x := (d : Int) - c) (y := (e : Int) - f) (a := 100) (b := 100) (by omega) (by omega) (by omega) (by omega)
      cases hz0 : ((s0 : Int) == 0)
      · have hz1 : ¬ (s0 = 0) := by intro h; subst h; simp at hz0
        clear hr2 hsub hle2 hcc hcr
        cases hq : ((s0 : Int) == ((d : Int) - c) * ((e : Int) - f)) <;> cases ci <;> cases ri
        all_goals
          go_wp2_with (fail)
          have hbb := fun p i => blw_blk hbc p i
          have hbb2 := fun p i => blw_blk hbr p i
          refine wp_region_blw (by kernel_rfl) (by kernel_rfl) ?_
          repeat (go_big_quiet_step ((go_at_call 182; exact Calls.blw_of _ (long_any _ _ _ _ (by omega) (by omega) (by omega) (by omega)))))
          refine wpQuiet_nil ?_
          rintro W3 ⟨⟨_, hb3⟩, rfl⟩
          clear hbb hbb2
          go_wp2_with (fail)
          go_ret
          refine ⟨?_, hB.trans (hb3.mono hB.size)⟩
          rw [HSUM.out, if_neg hz1]
          have HPo := HP.out
          simp only [beq_iff_eq, beq_eq_false_iff_ne, ne_eq] at hq
          first
            | (rw [if_neg (by simp only [Bool.false_and, Bool.and_false, Bool.false_eq_true, not_false_eq_true])]; rfl)
            | (rw [if_neg (by simp only [Bool.true_and, decide_eq_true_eq]; omega)]; rfl)
            | (rw [if_pos (by simp only [Bool.true_and, decide_eq_true_eq]; omega)]; rfl)
      · have hz1 : s0 = 0 := by simpa using hz0
        go_wp2_with (fail)
        go_ret
        exact ⟨by rw [HSUM.out, if_pos hz1]; rfl, hB⟩
end Go.Proofs.YtifddfchpknkbaaGreatDoor
