import Derived.Test.YtifddfchpknkbaaGreatDoorT
set_option linter.unusedVariables false
set_option linter.unusedSimpArgs false
namespace Go.Proofs.YtifddfchpknkbaaGreatDoor
open Go.RowKit

theorem viewB_near {W H F L X Y PX PY : Int} {rows : List ByteArray} (h : viewB W H F L X Y 0 PX PY rows = true) (k : Int) (h0 : 0 ≤ k) (h1 : k ≤ F - 1) : viewB W H F L X Y k PX PY rows = true := by
  simp only [viewB, placeB, Bool.and_eq_true] at h ⊢
  refine ⟨h.1, h.2.1, ⟨?_, h.2.2.1.2⟩, h.2.2.2⟩
  simp [inB]; omega
/-- The least number from k on, below k + m, of which something is so, or none. -/
def fadeFrom (ok : Nat → Bool) : Nat → Nat → Array Value
  | 0, _ => #[.int .i64 0, .int .i64 5]
  | m + 1, k => if ok k then #[.int .i64 k, .int .i64 0] else fadeFrom ok m (k + 1)
def noDark (W H F L X Y PX PY : Int) (rows : List ByteArray) (k : Nat) : Bool := (cntL (ltr (shS W H F L X Y k PX PY rows)) [35] : Int) == 0
def fadesR (W H F L X Y PX PY : Int) (rows : List ByteArray) : Array Value :=
  if viewB W H F L X Y 0 PX PY rows then fadeFrom (noDark W H F L X Y PX PY rows) F.toNat 0 else #[.int .i64 0, .int .i64 2]
set_option maxRecDepth 100000 in
set_option maxHeartbeats 1600000 in
theorem Fades_any (W H F L X Y PX PY : Int) (A : Option Addr) (n cap : Nat) (rows : List ByteArray) (w : World) (hcap : n ≤ cap) (hcm : cap ≤ maxLen) (hs : ∀ r ∈ rows, r.size ≤ maxLen) (hr : Rd w w.heap.size 1 A n (rows.map Value.string)) :
    Calls Tryz.prog 48 #[.agg #[.int .i64 W, .int .i64 H, .int .i64 F, .int .i64 L, .int .i64 X, .int .i64 Y], .agg #[.slice A n cap], .int .i64 PX, .int .i64 PY] w fun e w' => e = .returned (.tuple (fadesR W H F L X Y PX PY rows)) ∧ Below w.heap.size w w' := by
  have hn : n ≤ maxLen := Nat.le_trans hcap hcm
  unfold fadesR
  cases hv : viewB W H F L X Y 0 PX PY rows
  · go_enter Tryz.func48, Tryz.ntmps48
    go_wp2_with (first | (go_at_call 100; refine (viewGood_any W H F L X Y 0 PX PY A n cap rows _ hn hs (rd2 hr _ _)).mono ?_; rintro e w1 ⟨rfl, hb1⟩; rw [hv]; have hB1 : Below w.heap.size w w1 := (pro2 w _ _).trans (hb1.mono (by simp only [World.size_alloc]; omega)); have hbs1 := ((Blk.new w 23 #[.int .i64 W, .int .i64 H, .int .i64 F, .int .i64 L, .int .i64 X, .int .i64 Y]).alloc (.cells #[.slice A n cap] 26)).below hb1 (by simp only [World.size_alloc]; omega); have hcs1 := fun i => hbs1.cell i; have hlts1 := hbs1.lt; have hbf1 := (blk2 w (.cells #[.int .i64 W, .int .i64 H, .int .i64 F, .int .i64 L, .int .i64 X, .int .i64 Y] 23) 26 #[.slice A n cap]).below hb1 (by simp only [World.size_alloc]; omega); have hcf1 := fun i => hbf1.cell i; have hltf1 := hbf1.lt))
    go_ret2
    exact ⟨rfl, hB1⟩
  · have hv2 := hv
    simp only [viewB, Bool.and_eq_true] at hv2
    obtain ⟨hv3, hv4, hv5⟩ := hv2
    obtain ⟨⟨a1, a2⟩, ⟨a3, a4⟩, ⟨a5, a6⟩, ⟨a7, a8⟩, ⟨a9, a10⟩, a11, a12⟩ := stageB_nums hv3
    obtain ⟨⟨b1, b2⟩, b3, b4, b5⟩ := figB_nums hv4
    obtain ⟨⟨c1, c2⟩, ⟨c3, c4⟩, c5, c6⟩ := placeB_nums hv5
    clear hv3 hv4 hv5
    obtain ⟨Fn, rfl⟩ : ∃ k : Nat, F = k := ⟨F.toNat, by omega⟩
    obtain ⟨ok, hok⟩ : ∃ ok : Nat → Bool, ok = noDark W H Fn L X Y PX PY rows := ⟨_, rfl⟩
    rw [← hok]
    have hokk := fun k => congrFun hok k
    have HOK := Lib.hid hokk; clear hok hokk
    go_enter Tryz.func48, Tryz.ntmps48
    go_wp2_with (first | (go_at_call 100; refine (viewGood_any W H Fn L X Y 0 PX PY A n cap rows _ hn hs (rd2 hr _ _)).mono ?_; rintro e w1 ⟨rfl, hb1⟩; rw [hv]; have hB1 : Below w.heap.size w w1 := (pro2 w _ _).trans (hb1.mono (by simp only [World.size_alloc]; omega)); have hbs1 := ((Blk.new w 23 #[.int .i64 W, .int .i64 H, .int .i64 Fn, .int .i64 L, .int .i64 X, .int .i64 Y]).alloc (.cells #[.slice A n cap] 26)).below hb1 (by simp only [World.size_alloc]; omega); have hcs1 := fun i => hbs1.cell i; have hlts1 := hbs1.lt; have hbf1 := (blk2 w (.cells #[.int .i64 W, .int .i64 H, .int .i64 Fn, .int .i64 L, .int .i64 X, .int .i64 Y] 23) 26 #[.slice A n cap]).below hb1 (by simp only [World.size_alloc]; omega); have hcf1 := fun i => hbf1.cell i; have hltf1 := hbf1.lt))
    clear hcs1 hcf1
    go_loopg [22] Fn (fun g i wr => ∃ k : Nat, g = Fn - k ∧ k ≤ Fn ∧ i = .int .i64 k ∧ fadeFrom ok Fn 0 = fadeFrom ok (Fn - k) k ∧ Blk wr w.heap.size 23 #[.int .i64 W, .int .i64 H, .int .i64 Fn, .int .i64 L, .int .i64 X, .int .i64 Y] ∧ Blk wr (w.heap.size + 1) 26 #[.slice A n cap] ∧ Below w.heap.size w wr)
    case atStart => exact ⟨0, rfl, Nat.zero_le _, rfl, rfl, hbs1, hbf1, hB1⟩
    case round =>
      clear hbs1 hbf1 hB1 hlts1 hltf1
      obtain ⟨k, hg, hk, rfl, hm, hbs, hbf, hB⟩ := hrel
      have HG := Lib.hid hg; clear hg
      have HM := Lib.hid hm; clear hm
      have hcs := fun i => hbs.cell i
      have hcf := fun i => hbf.cell i
      have hls := hbs.lt
      have hlf := hbf.lt
      by_cases hlt : k < Fn
      · obtain ⟨m, hmk⟩ : ∃ m, Fn - k = m + 1 := ⟨Fn - k - 1, by omega⟩
        have hstep : fadeFrom ok (Fn - k) k = if ok k then #[.int .i64 k, .int .i64 0] else fadeFrom ok (Fn - (k + 1)) (k + 1) := by
          rw [hmk, show Fn - (k + 1) = m by omega]; rfl
        have HST := Lib.hid hstep; clear hstep hmk
        have hvk := viewB_near hv k (by omega) (by omega)
        obtain ⟨sh, hsh⟩ : ∃ sh, sh = shS W H Fn L X Y k PX PY rows := ⟨_, rfl⟩
        have hsz := shS_le Fn L X Y k PX PY rows (show W ≤ 50 by omega) (show H ≤ 50 by omega)
        rw [← hsh] at hsz
        have hsm : sh.size ≤ maxLen := by unfold maxLen; omega
        obtain ⟨c, hc⟩ : ∃ c, c = cntL (ltr sh) [35] := ⟨_, rfl⟩
        have hokc : ok k = ((c : Int) == 0) := by rw [HOK.out, noDark, ← hsh, ← hc]
        have HOC := Lib.hid hokc; have HSH := Lib.hid hsh; have HC := Lib.hid hc; clear hokc hsh hc
        cases hq : ((c : Int) == 0)
        all_goals
          go_wp2_with (first | (go_at_call 102; refine (shadow_int W H Fn L X Y k PX PY A n cap rows _ hcap hcm ((hr.below hB).more hB.size) hvk).mono ?_; rintro e w2 ⟨rfl, hb2⟩; rw [← HSH.out]; have hB2 := hB.trans (hb2.mono hB.size)) | (go_at_call 103; refine (count_any sh _ 1 1 [35] _ (w2.heap.size + 1) hsm (by decide) (Rd.blk (Blk.new w2 5 #[.int .u8 35]) rfl (Nat.lt_succ_self _))).mono ?_; rintro e w3 ⟨rfl, rfl⟩; rw [← HC.out]))
        · go_roundg (Fn - (k + 1))
          case measure => rw [HG.out]; omega
          case rel => exact ⟨k + 1, rfl, by omega, by go_num, by rw [HM.out, HST.out, HOC.out, hq]; rfl, (hbs.below hb2 hls).alloc _, (hbf.below hb2 hlf).alloc _, hB2.alloc hB2.size _⟩
        · go_ret2
          exact ⟨by show Ending.returned (.tuple #[.int .i64 k, .int .i64 0]) = .returned (.tuple (fadeFrom ok ((Fn : Int).toNat) 0)); rw [Int.toNat_natCast, HM.out, HST.out, HOC.out, hq]; rfl, hB2.alloc hB2.size _⟩
      · have hz : fadeFrom ok (Fn - k) k = #[.int .i64 0, .int .i64 5] := by rw [show Fn - k = 0 by omega]; rfl
        have HZ := Lib.hid hz; clear hz
        go_wp2
        go_ret2
        exact ⟨by show Ending.returned (.tuple #[.int .i64 0, .int .i64 5]) = .returned (.tuple (fadeFrom ok ((Fn : Int).toNat) 0)); rw [Int.toNat_natCast, HM.out, HZ.out], hB⟩
end Go.Proofs.YtifddfchpknkbaaGreatDoor

namespace Go.Proofs.YtifddfchpknkbaaGreatDoor
open Go.RowKit

theorem info9 : (Tryz.prog.info? 9).map (fun i => (i.zero, i.size, i.bytes)) = some (some (.string ByteArray.empty), 1, 16) := by kernel_rfl
/-- A string cut into pieces of W letters. -/
def rowsOf (s : ByteArray) (W : Nat) (q : Nat) : List ByteArray := (List.range q).map fun i => s.extract (i * W) (i * W + W)
theorem rowsOf_succ (s : ByteArray) (W q : Nat) : rowsOf s W (q + 1) = rowsOf s W q ++ [s.extract (q * W) (q * W + W)] := by simp [rowsOf, List.range_succ]
theorem rowsOf_len (s : ByteArray) (W q : Nat) : (rowsOf s W q).length = q := by simp [rowsOf]

set_option maxRecDepth 100000 in
theorem cut_any (s : ByteArray) (W H : Nat) (w : World) (hs : s.size = W * H) (hW : 1 ≤ W) (hs2 : s.size ≤ 2500) :
    Calls Tryz.prog 101 #[.string s, .int .i64 W] w fun e w' => ∃ v, e = .returned v ∧ w'.ownsRow w.heap.size 9 1 v H ((rowsOf s W H).map Value.string) ∧ Below w.heap.size w w' := by
  obtain ⟨i0, hi, hz0, hz1', hz2'⟩ := info_parts info9
  have hHs : H ≤ 2500 := by have := Nat.le_mul_of_pos_left H (show 0 < W by omega); omega
  have HS := Lib.hid hs; clear hs
  go_enter Tryz.func101, Tryz.ntmps101
  go_wp2
  go_loopg [0, 5] H (fun g t v wr => ∃ (k : Nat) (r : ByteArray) (v0 : Value), g = H - k ∧ k ≤ H ∧ t = .string r ∧ v = v0 ∧ r = s.extract (k * W) s.size ∧ wr.ownsRow w.heap.size 9 1 v0 k ((rowsOf s W k).map Value.string) ∧ Below w.heap.size w wr)
  case atStart => exact ⟨0, s, _, rfl, Nat.zero_le _, rfl, rfl, by simp, World.ownsRow_nil _ _ _ _, Below.refl _ _⟩
  case round =>
    obtain ⟨k, r, v, hg, hk, rfl, rfl, hr, hown, hB⟩ := hrel
    obtain ⟨va, vc, rfl⟩ := own_slice hown
    have HG := Lib.hid hg; clear hg
    have hrs : r.size = (H - k) * W := by rw [hr, ByteArray.size_extract, HS.out, Nat.mul_comm W H, Nat.sub_mul]; omega
    by_cases hlt : k < H
    · have hge : W ≤ r.size := by rw [hrs]; exact Nat.le_mul_of_pos_left W (by omega)
      have hpos : (0 : Int) < r.size := by omega
      have hkW : k * W + W ≤ s.size := by
        have := Nat.mul_le_mul_right W (show k + 1 ≤ H by omega)
        rw [HS.out, Nat.mul_comm W H]; rw [Nat.add_mul, Nat.one_mul] at this; exact this
      have hx1 : r.extract 0 W = s.extract (k * W) (k * W + W) := by
        rw [hr, ByteArray.extract_extract]; congr 1; omega
      have hx2 : r.extract W r.size = s.extract ((k + 1) * W) s.size := by
        have e : r.size = s.size - k * W := by rw [hr, ByteArray.size_extract]; omega
        rw [e, hr, ByteArray.extract_extract, Nat.add_mul, Nat.one_mul]; congr 1; omega
      have HX1 := Lib.hid hx1; have HX2 := Lib.hid hx2; have HRS := Lib.hid hrs; have HR := Lib.hid hr; clear hx1 hx2 hrs hr
      go_wp2_with (first
        | (at_builtin; refine wpList_append_any _ rfl _ _ 24 rfl w.heap.size 9 i0 (.string ByteArray.empty) 1 16 Tryz.underlying24 hi hz0 hz1' hz2' rfl (by decide) (.slice va k vc) k ((rowsOf s W k).map Value.string) rfl (hown.alloc _) (wr.heap.size + 1) (some ⟨wr.heap.size, 0, none⟩) 1 1 [.string (r.extract 0 W)] rfl (Rd.blkN (Blk.new _ _ _) rfl (Nat.lt_succ_self _)).reads (by simp [Value.oneCell']) (by unfold maxLen; omega) (by omega) (by have := hB.size; simp only [World.size_alloc]; omega) (fun v' w' hown' hgrow hob => ?_))
        | go_in)
      go_roundg (H - (k + 1))
      case measure => rw [HG.out]; omega
      case rel => exact ⟨k + 1, _, _, rfl, by omega, rfl, rfl, HX2.out, by rw [rowsOf_succ, List.map_append, ← HX1.out]; exact hown', (hB.alloc hB.size _).grown hgrow (by have := hB.size; simp only [World.size_alloc]; omega) (fun g hg => (hown.lt g hg).1)⟩
    · obtain rfl : k = H := by omega
      have hr0 : r.size = 0 := by rw [hrs]; simp
      have hr0i : ¬ (0 : Int) < r.size := by omega
      clear hrs hr
      go_wp2
      go_ret
      exact ⟨_, rfl, hown, hB⟩
end Go.Proofs.YtifddfchpknkbaaGreatDoor
