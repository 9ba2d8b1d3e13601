import Derived.Test.YtifddfchpknkbaaGreatDoorT
import Derived.Test.YtifddfchpknkbaaGreatDoorLb
set_option linter.unusedVariables false
set_option linter.unusedSimpArgs false
namespace Go.Proofs.YtifddfchpknkbaaGreatDoor
open Go.RowKit

theorem rdB {w w' : World} {sz n : Nat} {A : Option Addr} {xs : List Value} (h : Rd w w.heap.size sz A n xs) (hB : Below w.heap.size w w') : Rd w' w'.heap.size sz A n xs := (h.below hB).more hB.size
theorem known_at {m : Int} {w w' : World} (hm : w.cell? ⟨0, 0, none⟩ = some (.int .i64 m)) (hB : Below w.heap.size w w') : w'.cell? ⟨0, 0, none⟩ = some (.int .i64 m) := (hB.cell (p := ⟨0, 0, none⟩) (block_lt_of_cell hm)).trans hm
theorem pro_3 (w : World) (o0 o1 o2 : Obj) : Below w.heap.size w (((w.alloc o0).alloc o1).alloc o2) :=
  (((Below.refl _ w).alloc (Nat.le_refl _) _).alloc (by simp only [World.size_alloc]; omega) _).alloc (by simp only [World.size_alloc]; omega) _
theorem blk3_0 (w : World) (o1 o2 : Obj) (t : TypeId) (cs : Array Value) : Blk (((w.alloc (.cells cs t)).alloc o1).alloc o2) (w.heap.size) t cs := by
  have := ((Blk.new (w) t cs).alloc o1).alloc o2
  simpa only [World.size_alloc] using this
theorem blk3_1 (w : World) (o0 o2 : Obj) (t : TypeId) (cs : Array Value) : Blk (((w.alloc o0).alloc (.cells cs t)).alloc o2) (w.heap.size + 1) t cs := by
  have := (Blk.new (w.alloc o0) t cs).alloc o2
  simpa only [World.size_alloc] using this
theorem blk3_2 (w : World) (o0 o1 : Obj) (t : TypeId) (cs : Array Value) : Blk (((w.alloc o0).alloc o1).alloc (.cells cs t)) (w.heap.size + 1 + 1) t cs := by
  have := Blk.new ((w.alloc o0).alloc o1) t cs
  simpa only [World.size_alloc] using this
theorem pro_5 (w : World) (o0 o1 o2 o3 o4 : Obj) : Below w.heap.size w (((((w.alloc o0).alloc o1).alloc o2).alloc o3).alloc o4) :=
  (((((Below.refl _ w).alloc (Nat.le_refl _) _).alloc (by simp only [World.size_alloc]; omega) _).alloc (by simp only [World.size_alloc]; omega) _).alloc (by simp only [World.size_alloc]; omega) _).alloc (by simp only [World.size_alloc]; omega) _
theorem blk5_0 (w : World) (o1 o2 o3 o4 : Obj) (t : TypeId) (cs : Array Value) : Blk (((((w.alloc (.cells cs t)).alloc o1).alloc o2).alloc o3).alloc o4) (w.heap.size) t cs := by
  have := ((((Blk.new (w) t cs).alloc o1).alloc o2).alloc o3).alloc o4
  simpa only [World.size_alloc] using this
theorem blk5_1 (w : World) (o0 o2 o3 o4 : Obj) (t : TypeId) (cs : Array Value) : Blk (((((w.alloc o0).alloc (.cells cs t)).alloc o2).alloc o3).alloc o4) (w.heap.size + 1) t cs := by
  have := (((Blk.new (w.alloc o0) t cs).alloc o2).alloc o3).alloc o4
  simpa only [World.size_alloc] using this
theorem blk5_2 (w : World) (o0 o1 o3 o4 : Obj) (t : TypeId) (cs : Array Value) : Blk (((((w.alloc o0).alloc o1).alloc (.cells cs t)).alloc o3).alloc o4) (w.heap.size + 1 + 1) t cs := by
  have := ((Blk.new ((w.alloc o0).alloc o1) t cs).alloc o3).alloc o4
  simpa only [World.size_alloc] using this
theorem blk5_3 (w : World) (o0 o1 o2 o4 : Obj) (t : TypeId) (cs : Array Value) : Blk (((((w.alloc o0).alloc o1).alloc o2).alloc (.cells cs t)).alloc o4) (w.heap.size + 1 + 1 + 1) t cs := by
  have := (Blk.new (((w.alloc o0).alloc o1).alloc o2) t cs).alloc o4
  simpa only [World.size_alloc] using this
theorem blk5_4 (w : World) (o0 o1 o2 o3 : Obj) (t : TypeId) (cs : Array Value) : Blk (((((w.alloc o0).alloc o1).alloc o2).alloc o3).alloc (.cells cs t)) (w.heap.size + 1 + 1 + 1 + 1) t cs := by
  have := Blk.new ((((w.alloc o0).alloc o1).alloc o2).alloc o3) t cs
  simpa only [World.size_alloc] using this
theorem pro_2 (w : World) (o0 o1 : Obj) : Below w.heap.size w ((w.alloc o0).alloc o1) :=
  ((Below.refl _ w).alloc (Nat.le_refl _) _).alloc (by simp only [World.size_alloc]; omega) _
theorem blk2_0 (w : World) (o1 : Obj) (t : TypeId) (cs : Array Value) : Blk ((w.alloc (.cells cs t)).alloc o1) (w.heap.size) t cs := by
  have := (Blk.new (w) t cs).alloc o1
  simpa only [World.size_alloc] using this
theorem blk2_1 (w : World) (o0 : Obj) (t : TypeId) (cs : Array Value) : Blk ((w.alloc o0).alloc (.cells cs t)) (w.heap.size + 1) t cs := by
  have := Blk.new (w.alloc o0) t cs
  simpa only [World.size_alloc] using this
end Go.Proofs.YtifddfchpknkbaaGreatDoor

namespace Go.Proofs.YtifddfchpknkbaaGreatDoor
open Go.RowKit

/-- How many bytes of lines are c. -/
def countR (rs : List ByteArray) (c : Int) : Nat := (rs.map fun r => cntL (ltr r) [c]).sum
theorem countR_take (rs : List ByteArray) (c : Int) (k : Nat) (h : k < rs.length) : countR (rs.take (k + 1)) c = countR (rs.take k) c + cntL (ltr rs[k]) [c] := by
  unfold countR
  rw [List.take_succ_eq_append_getElem h, List.map_append, List.sum_append]; simp
theorem idx_one (b c : Int) : decide (0 ≤ idxOf b [c] 0) = decide (b = c) := by
  by_cases h : b = c
  · subst h; simp [idxOf]
  · simp [idxOf, h, Ne.symm h]

set_option maxRecDepth 1000000 in
set_option maxHeartbeats 1600000 in
theorem refCount_any (A : Option Addr) (n cap : Nat) (rs : List ByteArray) (c : Nat) (w : World) (hn : n ≤ 100000) (hc : c ≤ 255) (hs : ∀ r ∈ rs, r.size ≤ 100000) (hr : Rd w w.heap.size 1 A n (rs.map Value.string)) :
    Calls Tryz.prog 34 #[.slice A n cap, .int .u8 (c : Int)] w fun e w' => e = .returned (.int .i64 (countR rs c : Nat)) ∧ w = w' := by
  have hlen := hr.len
  have HLEN := Lib.hid hlen; clear hlen
  go_enter Tryz.func34, Tryz.ntmps34
  go_wp2
  go_loop [5, 6] (fun s i => ∃ (k acc : Nat), k ≤ n ∧ i = .int .i64 k ∧ s = .int .i64 acc ∧ acc = countR (rs.take k) c ∧ acc ≤ 100000 * k) (fun _ i => n - (intOf i).toNat)
  case atStart => exact ⟨0, 0, Nat.zero_le _, rfl, rfl, rfl, Nat.zero_le _⟩
  case round =>
    obtain ⟨k, acc, hk, rfl, rfl, hacc, hle⟩ := hrel
    by_cases hlt : k < n
    · obtain ⟨cb, coff, hz, rfl, hcb, hcc⟩ := hr.atm hlt
      have htk := countR_take rs c k hz
      rw [← hacc] at htk
      have hsz := hs _ (List.getElem_mem hz)
      generalize rs[k] = r at *
      have HT := Lib.hid htk; clear htk hacc
      go_wp2
      go_loop [5, 7] (fun s i => ∃ (q a2 : Nat), q ≤ r.size ∧ i = .int .i64 q ∧ s = .int .i64 (acc + a2 : Nat) ∧ a2 = cntL ((ltr r).take q) [(c : Int)] ∧ a2 ≤ q) (fun _ i => r.size - (intOf i).toNat)
      case atStart => exact ⟨0, 0, Nat.zero_le _, rfl, rfl, by simp [cntL], Nat.zero_le _⟩
      case round =>
        obtain ⟨q, a2, hq, rfl, rfl, ha2, hle2⟩ := hrel
        by_cases hqt : q < r.size
        · have htq := ltr_take r q hqt
          have hsn := cntL_snoc ((ltr r).take q) ((r[q].toNat : Nat) : Int) [(c : Int)]
          rw [← htq, idx_one, ← ha2] at hsn
          generalize hbb : r[q].toNat = bb at *
          have HSN := Lib.hid hsn; clear hsn htq ha2
          by_cases hbc : bb = c
          · subst hbc
            have he : (((bb : Nat) : Int) == (bb : Int)) = true := by simp
            go_wp2
            go_round
            case rel => exact ⟨q + 1, a2 + 1, by omega, by go_num, by go_num, by rw [HSN.out]; simp, by omega⟩
            case measure => simp [intOf]; omega
          · have he : ((bb : Int) == (c : Int)) = false := by simp; omega
            go_wp2
            go_round
            case rel => exact ⟨q + 1, a2, by omega, by go_num, rfl, by rw [HSN.out]; simp; omega, by omega⟩
            case measure => simp [intOf]; omega
        · have htk : (ltr r).take q = ltr r := List.take_of_length_le (by rw [ltr_len]; omega)
          rw [htk] at ha2
          have HA2 := Lib.hid ha2; clear ha2 htk
          go_wp2
          go_round
          case rel => exact ⟨k + 1, acc + a2, by omega, by go_num, rfl, by rw [HT.out, HA2.out], by omega⟩
          case measure => simp [intOf]; omega
    · have hkn : k = n := by omega
      have htk : rs.take k = rs := List.take_of_length_le (by have := HLEN.out; omega)
      rw [htk] at hacc
      have HACC := Lib.hid hacc; clear hacc htk
      go_wp2
      go_ret
      exact ⟨by rw [← HACC.out]; rfl, rfl⟩
end Go.Proofs.YtifddfchpknkbaaGreatDoor

namespace Go.Proofs.YtifddfchpknkbaaGreatDoor
open Go.RowKit

set_option maxRecDepth 100000 in
set_option maxHeartbeats 800000 in
theorem Check_any (W H F L X Y : Int) (w : World) :
    Calls Tryz.prog 25 #[.agg #[.int .i64 W, .int .i64 H, .int .i64 F, .int .i64 L, .int .i64 X, .int .i64 Y]] w fun e w' => e = .returned (.int .i64 (if stageB W H F L X Y then 0 else 2)) ∧ Below w.heap.size w w' := by
  have hB : Below w.heap.size w (w.alloc (.cells #[.int .i64 W, .int .i64 H, .int .i64 F, .int .i64 L, .int .i64 X, .int .i64 Y] 23)) := (Below.refl _ w).alloc (Nat.le_refl _) _
  cases hs : stageB W H F L X Y
  all_goals
    go_enter Tryz.func25, Tryz.ntmps25
    go_wp2_with (first
      | (go_at_call 97; refine (goodStage_any W H F L X Y _).mono ?_; rintro e w1 ⟨rfl, hb⟩; rw [hs]; replace hB := hB.trans (hb.mono hB.size); clear hb)
      | (go_at_call 96; refine (argument_any _ _).mono ?_; rintro e w2 ⟨rfl, rfl⟩))
    go_ret
    exact ⟨rfl, hB⟩

set_option maxRecDepth 100000 in
set_option maxHeartbeats 800000 in
theorem CheckFigure_any (A : Option Addr) (n cap : Nat) (rows : List ByteArray) (w : World) (hn : n ≤ maxLen) (hs : ∀ r ∈ rows, r.size ≤ maxLen) (hr : Rd w w.heap.size 1 A n (rows.map Value.string)) :
    Calls Tryz.prog 26 #[.agg #[.slice A n cap]] w fun e w' => e = .returned (.int .i64 (if figB rows then 0 else 2)) ∧ Below w.heap.size w w' := by
  have hB : Below w.heap.size w (w.alloc (.cells #[.slice A n cap] 26)) := (Below.refl _ w).alloc (Nat.le_refl _) _
  cases hf : figB rows
  all_goals
    go_enter Tryz.func26, Tryz.ntmps26
    go_wp2_with (first
      | (go_at_call 98; refine (goodFigure_any A n cap rows _ hn hs ((hr.below hB).more hB.size)).mono ?_; rintro e w1 ⟨rfl, hb⟩; rw [hf]; replace hB := hB.trans (hb.mono hB.size); clear hb)
      | (go_at_call 96; refine (argument_any _ _).mono ?_; rintro e w2 ⟨rfl, rfl⟩))
    go_ret
    exact ⟨rfl, hB⟩
end Go.Proofs.YtifddfchpknkbaaGreatDoor
