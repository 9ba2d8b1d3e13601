import Derived.Test.YtifddfchpknkbaaGreatDoorPa
set_option linter.unusedVariables false
set_option linter.unusedSimpArgs false
namespace Go.Proofs.YtifddfchpknkbaaGreatDoor
open Go.RowKit Go.Lib

def stA (a0 a1 a2 a3 a4 a5 : Int) : Nat → Array Value
  | 0 => #[.int .i64 0, .int .i64 0, .int .i64 0, .int .i64 0, .int .i64 0, .int .i64 0]
  | 1 => #[.int .i64 a0, .int .i64 0, .int .i64 0, .int .i64 0, .int .i64 0, .int .i64 0]
  | 2 => #[.int .i64 a0, .int .i64 a1, .int .i64 0, .int .i64 0, .int .i64 0, .int .i64 0]
  | 3 => #[.int .i64 a0, .int .i64 a1, .int .i64 a2, .int .i64 0, .int .i64 0, .int .i64 0]
  | 4 => #[.int .i64 a0, .int .i64 a1, .int .i64 a2, .int .i64 a3, .int .i64 0, .int .i64 0]
  | 5 => #[.int .i64 a0, .int .i64 a1, .int .i64 a2, .int .i64 a3, .int .i64 a4, .int .i64 0]
  | _ => #[.int .i64 a0, .int .i64 a1, .int .i64 a2, .int .i64 a3, .int .i64 a4, .int .i64 a5]

set_option maxRecDepth 100000 in
set_option maxHeartbeats 1600000 in
theorem parseStage_ok (a0 a1 a2 a3 a4 a5 : Int) (A : Option Addr) (cap : Nat) (s0 s1 s2 s3 s4 s5 : ByteArray) (w : World) (hr : Rd w w.heap.size 1 A 6 ([s0, s1, s2, s3, s4, s5].map Value.string))
    (h0 : ∀ w : World, Calls Tryz.prog 200 #[.string s0] w fun e w' => e = .returned (.int .i64 a0) ∧ Below w.heap.size w w')
    (h1 : ∀ w : World, Calls Tryz.prog 200 #[.string s1] w fun e w' => e = .returned (.int .i64 a1) ∧ Below w.heap.size w w')
    (h2 : ∀ w : World, Calls Tryz.prog 200 #[.string s2] w fun e w' => e = .returned (.int .i64 a2) ∧ Below w.heap.size w w')
    (h3 : ∀ w : World, Calls Tryz.prog 200 #[.string s3] w fun e w' => e = .returned (.int .i64 a3) ∧ Below w.heap.size w w')
    (h4 : ∀ w : World, Calls Tryz.prog 200 #[.string s4] w fun e w' => e = .returned (.int .i64 a4) ∧ Below w.heap.size w w')
    (h5 : ∀ w : World, Calls Tryz.prog 200 #[.string s5] w fun e w' => e = .returned (.int .i64 a5) ∧ Below w.heap.size w w') :
    Calls Tryz.prog 176 #[.slice A 6 cap] w fun e' w' => e' = .returned (.agg #[.int .i64 a0, .int .i64 a1, .int .i64 a2, .int .i64 a3, .int .i64 a4, .int .i64 a5]) ∧ Below w.heap.size w w' := by
  go_enter Tryz.func176, Tryz.ntmps176
  go_wp2_with (first
    | (go_at_call 175; refine (insist_ok _).mono ?_; rintro e w1 ⟨rfl, rfl⟩))
  go_loopg [12] 6 (fun g i wr => ∃ k : Nat, g = 6 - k ∧ k ≤ 6 ∧ i = .int .i64 k ∧ Blk wr (w.heap.size + 1) 256 (stA a0 a1 a2 a3 a4 a5 k) ∧ Blk wr w.heap.size 23 #[.int .i64 0, .int .i64 0, .int .i64 0, .int .i64 0, .int .i64 0, .int .i64 0] ∧ Below w.heap.size w wr)
  case atStart => exact ⟨0, rfl, Nat.zero_le _, rfl, blk2 w _ 256 #[.int .i64 0, .int .i64 0, .int .i64 0, .int .i64 0, .int .i64 0, .int .i64 0], (Blk.new w 23 #[.int .i64 0, .int .i64 0, .int .i64 0, .int .i64 0, .int .i64 0, .int .i64 0]).alloc _, ((Below.refl _ w).alloc (Nat.le_refl _) _).alloc (by simp only [World.size_alloc]; omega) _⟩
  case round =>
    obtain ⟨k, hg, hk, rfl, gA, gZ, hB⟩ := hrel
    rcases (show k = 0 ∨ k = 1 ∨ k = 2 ∨ k = 3 ∨ k = 4 ∨ k = 5 ∨ k = 6 by omega) with rfl | rfl | rfl | rfl | rfl | rfl | rfl
    · obtain ⟨cb, coff, hz, rfl, hcb, hcc⟩ := (hr.below hB).atm (show 0 < 6 by omega)
      replace hcc : wr.cell? ⟨cb, coff, none⟩ = some (.string s0) := hcc
      clear hz
      go_wp2_with (go_at_call 200; refine (h0 _).mono ?_; rintro e w1 ⟨rfl, hb⟩; replace gA := gA.below hb gA.lt; replace gZ := gZ.below hb gZ.lt; replace hB := hB.trans (hb.mono hB.size); have hqA := fun i => gA.cell i; have hfA := fun i => gA.frozen i; have hlA := gA.lt; clear hb)
      go_roundg (6 - (0 + 1))
      case measure => rw [hg]; omega
      case rel => exact ⟨0 + 1, rfl, by omega, by go_num, by simpa [stA] using gA.set_ 0 (.int .i64 a0), gZ.far (p := ⟨w.heap.size + 1, 0, none⟩) (show w.heap.size ≠ w.heap.size + 1 by omega) _, hB.setCell (p := ⟨w.heap.size + 1, 0, none⟩) (show w.heap.size ≤ w.heap.size + 1 by omega) _⟩
    · obtain ⟨cb, coff, hz, rfl, hcb, hcc⟩ := (hr.below hB).atm (show 1 < 6 by omega)
      replace hcc : wr.cell? ⟨cb, coff + 1, none⟩ = some (.string s1) := hcc
      clear hz
      go_wp2_with (go_at_call 200; refine (h1 _).mono ?_; rintro e w1 ⟨rfl, hb⟩; replace gA := gA.below hb gA.lt; replace gZ := gZ.below hb gZ.lt; replace hB := hB.trans (hb.mono hB.size); have hqA := fun i => gA.cell i; have hfA := fun i => gA.frozen i; have hlA := gA.lt; clear hb)
      go_roundg (6 - (1 + 1))
      case measure => rw [hg]; omega
      case rel => exact ⟨1 + 1, rfl, by omega, by go_num, by simpa [stA] using gA.set_ 1 (.int .i64 a1), gZ.far (p := ⟨w.heap.size + 1, 1, none⟩) (show w.heap.size ≠ w.heap.size + 1 by omega) _, hB.setCell (p := ⟨w.heap.size + 1, 1, none⟩) (show w.heap.size ≤ w.heap.size + 1 by omega) _⟩
    · obtain ⟨cb, coff, hz, rfl, hcb, hcc⟩ := (hr.below hB).atm (show 2 < 6 by omega)
      replace hcc : wr.cell? ⟨cb, coff + 2, none⟩ = some (.string s2) := hcc
      clear hz
      go_wp2_with (go_at_call 200; refine (h2 _).mono ?_; rintro e w1 ⟨rfl, hb⟩; replace gA := gA.below hb gA.lt; replace gZ := gZ.below hb gZ.lt; replace hB := hB.trans (hb.mono hB.size); have hqA := fun i => gA.cell i; have hfA := fun i => gA.frozen i; have hlA := gA.lt; clear hb)
      go_roundg (6 - (2 + 1))
      case measure => rw [hg]; omega
      case rel => exact ⟨2 + 1, rfl, by omega, by go_num, by simpa [stA] using gA.set_ 2 (.int .i64 a2), gZ.far (p := ⟨w.heap.size + 1, 2, none⟩) (show w.heap.size ≠ w.heap.size + 1 by omega) _, hB.setCell (p := ⟨w.heap.size + 1, 2, none⟩) (show w.heap.size ≤ w.heap.size + 1 by omega) _⟩
    · obtain ⟨cb, coff, hz, rfl, hcb, hcc⟩ := (hr.below hB).atm (show 3 < 6 by omega)
      replace hcc : wr.cell? ⟨cb, coff + 3, none⟩ = some (.string s3) := hcc
      clear hz
      go_wp2_with (go_at_call 200; refine (h3 _).mono ?_; rintro e w1 ⟨rfl, hb⟩; replace gA := gA.below hb gA.lt; replace gZ := gZ.below hb gZ.lt; replace hB := hB.trans (hb.mono hB.size); have hqA := fun i => gA.cell i; have hfA := fun i => gA.frozen i; have hlA := gA.lt; clear hb)
      go_roundg (6 - (3 + 1))
      case measure => rw [hg]; omega
      case rel => exact ⟨3 + 1, rfl, by omega, by go_num, by simpa [stA] using gA.set_ 3 (.int .i64 a3), gZ.far (p := ⟨w.heap.size + 1, 3, none⟩) (show w.heap.size ≠ w.heap.size + 1 by omega) _, hB.setCell (p := ⟨w.heap.size + 1, 3, none⟩) (show w.heap.size ≤ w.heap.size + 1 by omega) _⟩
    · obtain ⟨cb, coff, hz, rfl, hcb, hcc⟩ := (hr.below hB).atm (show 4 < 6 by omega)
      replace hcc : wr.cell? ⟨cb, coff + 4, none⟩ = some (.string s4) := hcc
      clear hz
      go_wp2_with (go_at_call 200; refine (h4 _).mono ?_; rintro e w1 ⟨rfl, hb⟩; replace gA := gA.below hb gA.lt; replace gZ := gZ.below hb gZ.lt; replace hB := hB.trans (hb.mono hB.size); have hqA := fun i => gA.cell i; have hfA := fun i => gA.frozen i; have hlA := gA.lt; clear hb)
      go_roundg (6 - (4 + 1))
      case measure => rw [hg]; omega
      case rel => exact ⟨4 + 1, rfl, by omega, by go_num, by simpa [stA] using gA.set_ 4 (.int .i64 a4), gZ.far (p := ⟨w.heap.size + 1, 4, none⟩) (show w.heap.size ≠ w.heap.size + 1 by omega) _, hB.setCell (p := ⟨w.heap.size + 1, 4, none⟩) (show w.heap.size ≤ w.heap.size + 1 by omega) _⟩
    · obtain ⟨cb, coff, hz, rfl, hcb, hcc⟩ := (hr.below hB).atm (show 5 < 6 by omega)
      replace hcc : wr.cell? ⟨cb, coff + 5, none⟩ = some (.string s5) := hcc
      clear hz
      go_wp2_with (go_at_call 200; refine (h5 _).mono ?_; rintro e w1 ⟨rfl, hb⟩; replace gA := gA.below hb gA.lt; replace gZ := gZ.below hb gZ.lt; replace hB := hB.trans (hb.mono hB.size); have hqA := fun i => gA.cell i; have hfA := fun i => gA.frozen i; have hlA := gA.lt; clear hb)
      go_roundg (6 - (5 + 1))
      case measure => rw [hg]; omega
      case rel => exact ⟨5 + 1, rfl, by omega, by go_num, by simpa [stA] using gA.set_ 5 (.int .i64 a5), gZ.far (p := ⟨w.heap.size + 1, 5, none⟩) (show w.heap.size ≠ w.heap.size + 1 by omega) _, hB.setCell (p := ⟨w.heap.size + 1, 5, none⟩) (show w.heap.size ≤ w.heap.size + 1 by omega) _⟩
    · have hqA := fun i => gA.cell i
      have hlA := gA.lt
      have hqZ := fun i => gZ.cell i
      have hfZ := fun i => gZ.frozen i
      have hlZ := gZ.lt
      simp only [stA] at hqA
      go_wp2
      have g1 := gZ.set_ 0 (.int .i64 a0)
      have g2 := g1.set_ 1 (.int .i64 a1)
      have g3 := g2.set_ 2 (.int .i64 a2)
      have g4 := g3.set_ 3 (.int .i64 a3)
      have g5 := g4.set_ 4 (.int .i64 a4)
      have g6 := g5.set_ 5 (.int .i64 a5)
      have b1 := hB.setCell (p := ⟨w.heap.size, 0, none⟩) (Nat.le_refl w.heap.size) (.int .i64 a0)
      have b2 := b1.setCell (p := ⟨w.heap.size, 1, none⟩) (Nat.le_refl w.heap.size) (.int .i64 a1)
      have b3 := b2.setCell (p := ⟨w.heap.size, 2, none⟩) (Nat.le_refl w.heap.size) (.int .i64 a2)
      have b4 := b3.setCell (p := ⟨w.heap.size, 3, none⟩) (Nat.le_refl w.heap.size) (.int .i64 a3)
      have b5 := b4.setCell (p := ⟨w.heap.size, 4, none⟩) (Nat.le_refl w.heap.size) (.int .i64 a4)
      have b6 := b5.setCell (p := ⟨w.heap.size, 5, none⟩) (Nat.le_refl w.heap.size) (.int .i64 a5)
      clear g1 g2 g3 g4 g5 b1 b2 b3 b4 b5 hqA hlA hqZ hfZ hlZ gZ gA hB hg
      generalize (((((wr.setCell ⟨w.heap.size, 0, none⟩ (.int .i64 a0)).setCell ⟨w.heap.size, 1, none⟩ (.int .i64 a1)).setCell ⟨w.heap.size, 2, none⟩ (.int .i64 a2)).setCell ⟨w.heap.size, 3, none⟩ (.int .i64 a3)).setCell ⟨w.heap.size, 4, none⟩ (.int .i64 a4)).setCell ⟨w.heap.size, 5, none⟩ (.int .i64 a5) = w6 at *
      have hq6 := fun i => g6.cell i
      refine bodyPost_ret (v := .agg #[.int .i64 a0, .int .i64 a1, .int .i64 a2, .int .i64 a3, .int .i64 a4, .int .i64 a5]) ?_ rfl ⟨rfl, b6⟩
      simp [results, Tryz.results176, go_sem, hq6]
end Go.Proofs.YtifddfchpknkbaaGreatDoor

namespace Go.Proofs.YtifddfchpknkbaaGreatDoor
open Go.RowKit Go.Lib

def kText : ByteArray := ⟨#[115, 116, 97, 103, 101, 32, 49, 32, 49, 32, 50, 32, 48, 32, 48, 32, 48, 10, 102, 105, 103, 117, 114, 101, 32, 35, 10, 101, 110, 100, 32, 48, 55, 48, 10]⟩
def kText1 : ByteArray := ⟨#[115, 116, 97, 103, 101, 32, 49, 32, 49, 32, 50, 32, 48, 32, 48, 32, 48, 10, 102, 105, 103, 117, 114, 101, 32, 35, 10, 101, 110, 100, 32, 48, 55, 48]⟩
def kL0 : ByteArray := ⟨#[115, 116, 97, 103, 101, 32, 49, 32, 49, 32, 50, 32, 48, 32, 48, 32, 48]⟩
def kL1 : ByteArray := ⟨#[102, 105, 103, 117, 114, 101, 32, 35]⟩
def kL2 : ByteArray := ⟨#[101, 110, 100, 32, 48, 55, 48]⟩
theorem kSuf : hasSuffix kText.data.toList [10] = true := by decide
theorem kTrim : (⟨(trimSuffix kText.data.toList [10]).toArray⟩ : ByteArray) = kText1 := by decide
theorem kCnt : countB kText1 ⟨#[10]⟩ = 2 := by kernel_rfl
theorem kSpl : splitB ⟨#[10]⟩ 0 2 kText1 = [kL0, kL1, kL2] := by kernel_rfl
theorem kCnt0 : countB kL0 ⟨#[32]⟩ = 6 := by kernel_rfl
theorem kSpl0 : splitB ⟨#[32]⟩ 0 6 kL0 = [⟨#[115, 116, 97, 103, 101]⟩, ⟨#[49]⟩, ⟨#[49]⟩, ⟨#[50]⟩, ⟨#[48]⟩, ⟨#[48]⟩, ⟨#[48]⟩] := by kernel_rfl
theorem kCnt1 : countB kL1 ⟨#[32]⟩ = 1 := by kernel_rfl
theorem kSpl1 : splitB ⟨#[32]⟩ 0 1 kL1 = [⟨#[102, 105, 103, 117, 114, 101]⟩, ⟨#[35]⟩] := by kernel_rfl
theorem kNo0 : containsS [⟨#[115, 116, 97, 103, 101]⟩, ⟨#[49]⟩, ⟨#[49]⟩, ⟨#[50]⟩, ⟨#[48]⟩, ⟨#[48]⟩, ⟨#[48]⟩] ⟨#[]⟩ = false := by decide
theorem kNo1 : containsS [⟨#[102, 105, 103, 117, 114, 101]⟩, ⟨#[35]⟩] ⟨#[]⟩ = false := by decide
theorem kSum : sumA [kL0, kL1] 0 0 = 12699 := by kernel_rfl
theorem kD0 : (⟨#[48]⟩ : ByteArray) = ⟨(decDigits 0).toArray⟩ := by simp [decDigits]
theorem kD1 : (⟨#[49]⟩ : ByteArray) = ⟨(decDigits 1).toArray⟩ := by simp [decDigits]
theorem kD2 : (⟨#[50]⟩ : ByteArray) = ⟨(decDigits 2).toArray⟩ := by simp [decDigits]
theorem parse0 (w : World) : Calls Tryz.prog 200 #[.string ⟨#[48]⟩] w fun e w' => e = .returned (.int .i64 0) ∧ Below w.heap.size w w' := parseDigit ⟨#[48]⟩ 0 w (by omega) kD0 rfl rfl
theorem parse1 (w : World) : Calls Tryz.prog 200 #[.string ⟨#[49]⟩] w fun e w' => e = .returned (.int .i64 1) ∧ Below w.heap.size w w' := parseDigit ⟨#[49]⟩ 1 w (by omega) kD1 rfl rfl
theorem parse2 (w : World) : Calls Tryz.prog 200 #[.string ⟨#[50]⟩] w fun e w' => e = .returned (.int .i64 2) ∧ Below w.heap.size w w' := parseDigit ⟨#[50]⟩ 2 w (by omega) kD2 rfl rfl

set_option maxRecDepth 100000 in
theorem parseIdle (b0 b1 : Nat) (w : World) :
    CallsD Tryz.prog 173 #[.pointer (some ⟨b0, 0, none⟩), .pointer (some ⟨b1, 0, none⟩)] .returning w fun e u' w' => e = .returned (.tuple #[]) ∧ u' = .returning ∧ w' = w := by
  refine callsD_of_wpS Tryz.func173 rfl fun c₀ cs hu => ?_
  simp only [Tryz.ntmps173, List.size_toArray, List.length_cons, List.length_nil, Nat.reduceAdd, Nat.reduceSub, Array.replicate_succ, Array.replicate_zero, List.push_toArray, List.append_toArray, List.nil_append, List.cons_append]
  apply wpS_seq
  apply wpS_region
  simp [wpOpsS, go_sem, recoverD, hu, Tryz.ntmps173, Exit.thenS]
  refine wpS_of_wp ?_
  go_wp2
  cases c₀
  simp_all [bodyPostS, results, Tryz.results173]

theorem linesK (m : Int) (w : World) (hm : w.cell? ⟨0, 0, none⟩ = some (.int .i64 m)) : Calls Tryz.prog 174 #[.string kText] w fun e w' => e = .returned (.slice (some ⟨w.heap.size, 0, none⟩) 3 3) ∧ w' = w.alloc (.cells #[.string kL0, .string kL1, .string kL2] 9) := by
  have h := linesOf_ok kText m w (by decide) hm kSuf (by rw [kTrim]; decide)
  rw [kTrim, kCnt, kSpl] at h
  exact h
theorem wordsK0 (m : Int) (w : World) (hm : w.cell? ⟨0, 0, none⟩ = some (.int .i64 m)) : Calls Tryz.prog 177 #[.int .i64 0, .string kL0] w fun e w' => ∃ v, e = .returned v ∧ w'.ownsRow w.heap.size 9 1 v 6 ([⟨#[49]⟩, ⟨#[49]⟩, ⟨#[50]⟩, ⟨#[48]⟩, ⟨#[48]⟩, ⟨#[48]⟩].map Value.string) ∧ Below w.heap.size w w' :=
  wordsOf_ok 0 _ kL0 6 _ m w word_stage (by decide) hm kCnt0 (by omega) (by omega) kSpl0 rfl rfl kNo0
theorem wordsK1 (m : Int) (w : World) (hm : w.cell? ⟨0, 0, none⟩ = some (.int .i64 m)) : Calls Tryz.prog 177 #[.int .i64 1, .string kL1] w fun e w' => ∃ v, e = .returned v ∧ w'.ownsRow w.heap.size 9 1 v 1 ([⟨#[35]⟩].map Value.string) ∧ Below w.heap.size w w' :=
  wordsOf_ok 1 _ kL1 1 _ m w word_figure (by decide) hm kCnt1 (by omega) (by omega) kSpl1 rfl rfl kNo1
theorem stageK (A : Option Addr) (cap : Nat) (w : World) (hr : Rd w w.heap.size 1 A 6 ([⟨#[49]⟩, ⟨#[49]⟩, ⟨#[50]⟩, ⟨#[48]⟩, ⟨#[48]⟩, ⟨#[48]⟩].map Value.string)) : Calls Tryz.prog 176 #[.slice A 6 cap] w fun e w' => e = .returned (.agg #[.int .i64 1, .int .i64 1, .int .i64 2, .int .i64 0, .int .i64 0, .int .i64 0]) ∧ Below w.heap.size w w' :=
  parseStage_ok 1 1 2 0 0 0 A cap _ _ _ _ _ _ w hr parse1 parse1 parse2 parse0 parse0 parse0
theorem Rd_two {w : World} {g B : Nat} {t : TypeId} {a b c : Value} (h : Blk w g t #[a, b, c]) (hg : g < B) : Rd w B 1 (some ⟨g, 0, none⟩) 2 [a, b] := by
  refine ⟨rfl, fun _ => ⟨g, 0, rfl, hg, fun j u hu => ?_⟩⟩
  rw [Nat.zero_add, h.cell j]
  match j, hu with
  | 0, hu => exact hu
  | 1, hu => exact hu
  | _ + 2, hu => simp at hu
theorem endK (g t : Nat) (w : World) (h : Blk w g t #[.string kL0, .string kL1, .string kL2]) : Calls Tryz.prog 172 #[.slice (some ⟨g, 0, none⟩) 2 3] w fun e w' => e = .returned (.string kL2) ∧ Below w.heap.size w w' :=
  endOf_70 (some ⟨g, 0, none⟩) 2 3 [kL0, kL1] w (by omega) (by decide) (Rd_two h h.lt) kSum
theorem wp_nopanic {P : Program} {c : Code} {Q : Exit → Act → World → Prop} {a : Act} {w : World} (h : c.wp P (fun ex a w => match ex with | .panic _ => False | ex => Q ex a w) a w) : c.wp P Q a w := by
  refine Code.wp_mono (fun e a w hq => ?_) h
  cases e <;> first | exact hq | exact hq.elim
theorem Rd_one {w : World} {g B : Nat} {v : Value} (hg : g < B) (hc : w.cell? ⟨g, 0, none⟩ = some v) : Rd w B 1 (some ⟨g, 0, none⟩) 1 [v] := by
  refine ⟨rfl, fun _ => ⟨g, 0, rfl, hg, fun j u hu => ?_⟩⟩
  match j, hu with
  | 0, hu => rw [hc]; exact hu
  | _ + 1, hu => simp at hu
theorem cell_far (w : World) (p : Addr) (v : Value) (g : Nat) (h : g ≠ p.block) : (w.setCell p v).cell? ⟨g, 0, none⟩ = w.cell? ⟨g, 0, none⟩ :=
  World.cell?_setCell_other _ _ _ _ (fun e => h (by rw [e]))
/-- The book of known(), as it lies in memory: one figure of one row. -/
def BookAt (B : Nat) (w' : World) (g8 c g4 c1 : Nat) : Prop := B ≤ g8 ∧ g8 < w'.heap.size ∧ w'.cell? ⟨g8, 0, none⟩ = some (.slice (some ⟨g4, 0, none⟩) 1 c1) ∧ 1 ≤ c ∧ c ≤ maxLen ∧ B ≤ g4 ∧ g4 < w'.heap.size ∧ w'.cell? ⟨g4, 0, none⟩ = some (.string ⟨#[35]⟩) ∧ 1 ≤ c1 ∧ c1 ≤ maxLen
theorem info26 : (Tryz.prog.info? 26).map (fun i => (i.zero, i.size, i.bytes)) = some (some (.agg #[.slice none 0 0]), 1, 24) := by kernel_rfl

set_option maxRecDepth 100000 in
set_option maxHeartbeats 1600000 in
theorem parseText (m : Int) (w : World) (hm : w.cell? ⟨0, 0, none⟩ = some (.int .i64 m)) :
    Calls Tryz.prog 141 #[.string kText] w fun e w' => ∃ g8 c g4 c1 : Nat, e = .returned (.tuple #[.agg #[.int .i64 1, .int .i64 1, .int .i64 2, .int .i64 0, .int .i64 0, .int .i64 0, .slice (some ⟨g8, 0, none⟩) 1 c], .int .i64 0]) ∧ BookAt w.heap.size w' g8 c g4 c1 ∧ Below w.heap.size w w' := by
  have hmf : ∀ (fn : Fn) (first cap : Array Value) (w : World), (Instr.makeFunc fn first cap).run Tryz.prog w = .ok (.func fn first cap) w := fun _ _ _ _ => rfl
  have h00 : 0 < w.heap.size := block_lt_of_cell hm
  obtain ⟨i0, hi, hz0, hz1', hz2'⟩ := info_parts info26
  have hmB : ∀ w', Below w.heap.size w w' → w'.cell? ⟨0, 0, none⟩ = some (.int .i64 m) := fun w' hb => (hb.cell (p := ⟨0, 0, none⟩) h00).trans hm
  have hB2 : Below w.heap.size w ((w.alloc (.cells #[.int .i64 0, .int .i64 0, .int .i64 0, .int .i64 0, .int .i64 0, .int .i64 0, .slice none 0 0] 121)).alloc (.cells #[.int .i64 0] 31)) := ((Below.refl _ w).alloc (Nat.le_refl _) _).alloc (by simp only [World.size_alloc]; omega) _
  have hB3 : Below w.heap.size w (((w.alloc (.cells #[.int .i64 0, .int .i64 0, .int .i64 0, .int .i64 0, .int .i64 0, .int .i64 0, .slice none 0 0] 121)).alloc (.cells #[.int .i64 0] 31)).alloc (.cells #[.string kL0, .string kL1, .string kL2] 9)) := hB2.alloc hB2.size _
  have gT : Blk (((w.alloc (.cells #[.int .i64 0, .int .i64 0, .int .i64 0, .int .i64 0, .int .i64 0, .int .i64 0, .slice none 0 0] 121)).alloc (.cells #[.int .i64 0] 31)).alloc (.cells #[.string kL0, .string kL1, .string kL2] 9)) w.heap.size 121 #[.int .i64 0, .int .i64 0, .int .i64 0, .int .i64 0, .int .i64 0, .int .i64 0, .slice none 0 0] := ((Blk.new w 121 #[.int .i64 0, .int .i64 0, .int .i64 0, .int .i64 0, .int .i64 0, .int .i64 0, .slice none 0 0]).alloc _).alloc _
  have gE : Blk (((w.alloc (.cells #[.int .i64 0, .int .i64 0, .int .i64 0, .int .i64 0, .int .i64 0, .int .i64 0, .slice none 0 0] 121)).alloc (.cells #[.int .i64 0] 31)).alloc (.cells #[.string kL0, .string kL1, .string kL2] 9)) (w.heap.size + 1) 31 #[.int .i64 0] := (blk2 w _ 31 #[.int .i64 0]).alloc _
  have gL : Blk (((w.alloc (.cells #[.int .i64 0, .int .i64 0, .int .i64 0, .int .i64 0, .int .i64 0, .int .i64 0, .slice none 0 0] 121)).alloc (.cells #[.int .i64 0] 31)).alloc (.cells #[.string kL0, .string kL1, .string kL2] 9)) (w.heap.size + 1 + 1) 9 #[.string kL0, .string kL1, .string kL2] := by have h := Blk.new ((w.alloc (.cells #[.int .i64 0, .int .i64 0, .int .i64 0, .int .i64 0, .int .i64 0, .int .i64 0, .slice none 0 0] 121)).alloc (.cells #[.int .i64 0] 31)) 9 #[.string kL0, .string kL1, .string kL2]; simpa only [World.size_alloc] using h
  have hqL := fun i => gL.cell i; have hlL := gL.lt
  have hmW := hmB _ hB2
  go_enter_defers Tryz.func141, Tryz.ntmps141
  go_upto_region 6 with (first
    | (go_at_call 174; refine (linesK m _ hmW).mono ?_; rintro e w4 ⟨rfl, rfl⟩; clear hmW)
    | (go_at_call 175; refine (insist_ok _).mono ?_; rintro e w4 ⟨rfl, rfl⟩)
    | (go_at_call 177; refine (wordsK0 m _ (hmB _ hB3)).mono ?_; rintro e w4 ⟨v4, rfl, own4, hb4⟩; obtain ⟨A4, c4, rfl⟩ := own_slice own4; have hr4 := Rd.of_own own4; clear own4; replace gT := gT.below hb4 gT.lt; replace gE := gE.below hb4 gE.lt; replace gL := gL.below hb4 gL.lt; replace hB3 := hB3.trans (hb4.mono hB3.size); clear hb4 hqL hlL)
    | (go_at_call 176; refine (stageK A4 c4 _ hr4).mono ?_; rintro e w5 ⟨rfl, hb5⟩; clear hr4; replace gT := gT.below hb5 gT.lt; replace gE := gE.below hb5 gE.lt; replace gL := gL.below hb5 gL.lt; replace hB3 := hB3.trans (hb5.mono hB3.size); clear hb5; have hqT := fun i => gT.cell i; have hfT := fun i => gT.frozen i; have hlT := gT.lt))
  clear hqT hfT hlT
  replace gT := gT.set_ 0 (.int .i64 1)
  replace gE := gE.far (p := ⟨w.heap.size, 0, none⟩) (show w.heap.size + 1 ≠ w.heap.size by omega) (.int .i64 1)
  replace gL := gL.far (p := ⟨w.heap.size, 0, none⟩) (show w.heap.size + 1 + 1 ≠ w.heap.size by omega) (.int .i64 1)
  replace hB3 := hB3.setCell (p := ⟨w.heap.size, 0, none⟩) (Nat.le_refl w.heap.size) (.int .i64 1)
  replace gT := gT.set_ 1 (.int .i64 1)
  replace gE := gE.far (p := ⟨w.heap.size, 1, none⟩) (show w.heap.size + 1 ≠ w.heap.size by omega) (.int .i64 1)
  replace gL := gL.far (p := ⟨w.heap.size, 1, none⟩) (show w.heap.size + 1 + 1 ≠ w.heap.size by omega) (.int .i64 1)
  replace hB3 := hB3.setCell (p := ⟨w.heap.size, 1, none⟩) (Nat.le_refl w.heap.size) (.int .i64 1)
  replace gT := gT.set_ 2 (.int .i64 2)
  replace gE := gE.far (p := ⟨w.heap.size, 2, none⟩) (show w.heap.size + 1 ≠ w.heap.size by omega) (.int .i64 2)
  replace gL := gL.far (p := ⟨w.heap.size, 2, none⟩) (show w.heap.size + 1 + 1 ≠ w.heap.size by omega) (.int .i64 2)
  replace hB3 := hB3.setCell (p := ⟨w.heap.size, 2, none⟩) (Nat.le_refl w.heap.size) (.int .i64 2)
  replace gT := gT.set_ 3 (.int .i64 0)
  replace gE := gE.far (p := ⟨w.heap.size, 3, none⟩) (show w.heap.size + 1 ≠ w.heap.size by omega) (.int .i64 0)
  replace gL := gL.far (p := ⟨w.heap.size, 3, none⟩) (show w.heap.size + 1 + 1 ≠ w.heap.size by omega) (.int .i64 0)
  replace hB3 := hB3.setCell (p := ⟨w.heap.size, 3, none⟩) (Nat.le_refl w.heap.size) (.int .i64 0)
  replace gT := gT.set_ 4 (.int .i64 0)
  replace gE := gE.far (p := ⟨w.heap.size, 4, none⟩) (show w.heap.size + 1 ≠ w.heap.size by omega) (.int .i64 0)
  replace gL := gL.far (p := ⟨w.heap.size, 4, none⟩) (show w.heap.size + 1 + 1 ≠ w.heap.size by omega) (.int .i64 0)
  replace hB3 := hB3.setCell (p := ⟨w.heap.size, 4, none⟩) (Nat.le_refl w.heap.size) (.int .i64 0)
  replace gT := gT.set_ 5 (.int .i64 0)
  replace gE := gE.far (p := ⟨w.heap.size, 5, none⟩) (show w.heap.size + 1 ≠ w.heap.size by omega) (.int .i64 0)
  replace gL := gL.far (p := ⟨w.heap.size, 5, none⟩) (show w.heap.size + 1 + 1 ≠ w.heap.size by omega) (.int .i64 0)
  replace hB3 := hB3.setCell (p := ⟨w.heap.size, 5, none⟩) (Nat.le_refl w.heap.size) (.int .i64 0)
  replace gT : Blk ((((((w5.setCell ⟨w.heap.size, 0, none⟩ (.int .i64 1)).setCell ⟨w.heap.size, 1, none⟩ (.int .i64 1)).setCell ⟨w.heap.size, 2, none⟩ (.int .i64 2)).setCell ⟨w.heap.size, 3, none⟩ (.int .i64 0)).setCell ⟨w.heap.size, 4, none⟩ (.int .i64 0)).setCell ⟨w.heap.size, 5, none⟩ (.int .i64 0)) w.heap.size 121 #[.int .i64 1, .int .i64 1, .int .i64 2, .int .i64 0, .int .i64 0, .int .i64 0, .slice none 0 0] := gT
  generalize ((((((w5.setCell ⟨w.heap.size, 0, none⟩ (.int .i64 1)).setCell ⟨w.heap.size, 1, none⟩ (.int .i64 1)).setCell ⟨w.heap.size, 2, none⟩ (.int .i64 2)).setCell ⟨w.heap.size, 3, none⟩ (.int .i64 0)).setCell ⟨w.heap.size, 4, none⟩ (.int .i64 0)).setCell ⟨w.heap.size, 5, none⟩ (.int .i64 0)) = w6 at *
  go_wp2_with (fail)
  go_loopg [27] 1 (fun g i wr => ∃ k : Nat, g = 1 - k ∧ i = .int .i64 k ∧ Blk wr (w.heap.size + 1) 31 #[.int .i64 0] ∧ Blk wr (w.heap.size + 1 + 1) 9 #[.string kL0, .string kL1, .string kL2] ∧ Below w.heap.size w wr ∧ ((k = 0 ∧ Blk wr w.heap.size 121 #[.int .i64 1, .int .i64 1, .int .i64 2, .int .i64 0, .int .i64 0, .int .i64 0, .slice none 0 0]) ∨ (k = 1 ∧ ∃ g8 c g4 c1 : Nat, Blk wr w.heap.size 121 #[.int .i64 1, .int .i64 1, .int .i64 2, .int .i64 0, .int .i64 0, .int .i64 0, .slice (some ⟨g8, 0, none⟩) 1 c] ∧ w.heap.size + 1 < g8 ∧ g8 < wr.heap.size ∧ wr.cell? ⟨g8, 0, none⟩ = some (.slice (some ⟨g4, 0, none⟩) 1 c1) ∧ 1 ≤ c ∧ c ≤ maxLen ∧ w.heap.size + 1 < g4 ∧ g4 < wr.heap.size ∧ wr.cell? ⟨g4, 0, none⟩ = some (.string ⟨#[35]⟩) ∧ 1 ≤ c1 ∧ c1 ≤ maxLen)))
  case atStart => exact ⟨0, rfl, rfl, gE, gL, hB3, .inl ⟨rfl, gT⟩⟩
  case round =>
    clear gT gE gL hB3
    obtain ⟨k, hg, rfl, gE, gL, hB, ⟨rfl, gT⟩ | ⟨rfl, g8, c, g4, c1, gT, hw8, hl8, hcl8, hc1, hc2, hw4, hl4, hcl4, hc3, hc4⟩⟩ := hrel
    · have hqL := fun i => gL.cell i; have hlL := gL.lt
      go_wp2_with (fail)
      refine wp_nopanic ?_
      refine wp_region_G (fun w' => Blk w' w.heap.size 121 #[.int .i64 1, .int .i64 1, .int .i64 2, .int .i64 0, .int .i64 0, .int .i64 0, .slice none 0 0]) 8 (by kernel_rfl) ?_
      replace gT := gT.drew; replace gE := gE.drew; replace gL := gL.drew; replace hB := hB.drew
      have hTT := gT
      refine wpG_take (i := 0) (v := ?v0) rfl (by kernel_rfl) (by kernel_rfl) (by kernel_rfl) (by kernel_rfl) (fun _ _ _ h => h) (Or.inl ⟨by rfl, ?hy0⟩) hTT ?rest0
      case hy0 => intro wq hSw; have hq1 := fun i => hSw.cell i; go_simp <;> with_reducible rfl
      simp only [List.getElem_toArray, List.getElem_cons_zero, List.getElem_cons_succ, Act.put, List.setIfInBounds_toArray, List.set_cons_zero, List.set_cons_succ]
      refine wpG_take (i := 1) (v := ?v1) rfl (by kernel_rfl) (by kernel_rfl) (by kernel_rfl) (by kernel_rfl) (fun _ _ _ h => h) (Or.inl ⟨by rfl, ?hy1⟩) hTT ?rest1
      case hy1 => intro wq hSw; have hq1 := fun i => hSw.cell i; go_simp <;> with_reducible rfl
      simp only [List.getElem_toArray, List.getElem_cons_zero, List.getElem_cons_succ, Act.put, List.setIfInBounds_toArray, List.set_cons_zero, List.set_cons_succ]
      refine wpG_take (i := 2) (v := ?v2) rfl (by kernel_rfl) (by kernel_rfl) (by kernel_rfl) (by kernel_rfl) (fun _ _ _ h => h) (Or.inl ⟨by rfl, ?hy2⟩) hTT ?rest2
      case hy2 => intro wq hSw; have hq1 := fun i => hSw.cell i; go_simp <;> with_reducible rfl
      simp only [List.getElem_toArray, List.getElem_cons_zero, List.getElem_cons_succ, Act.put, List.setIfInBounds_toArray, List.set_cons_zero, List.set_cons_succ]
      refine wpG_one (i := 3) rfl (by kernel_rfl) (fun K hK => ?_)
      go_simp
      refine (wordsK1 m _ (hmB _ hB)).mono ?_; rintro e w7 ⟨v4, rfl, own4, hb4⟩; obtain ⟨g4, c4', rfl, hg4, hl4'⟩ := own4.form (Nat.succ_pos _)
      have hl4 := own_le0 own4; have hl4a : g4 < (w7.alloc (.cells #[.slice (some ⟨g4, 0, none⟩) 1 c4'] 26)).heap.size := (by rw [World.size_alloc]; omega); have hm4 := own_cap own4; have hcl4 : w7.cell? ⟨g4, 0, none⟩ = some (.string ⟨#[35]⟩) := own4.cellAt 0 (by omega); have hw4 : w.heap.size + 1 < g4 := Nat.lt_of_lt_of_le gE.lt hg4; clear own4; replace gT := gT.below hb4 gT.lt; replace gE := gE.below hb4 gE.lt; replace gL := gL.below hb4 gL.lt; replace hB := hB.trans (hb4.mono hB.size); clear hb4 hTT; have hTT := gT; dsimp only
      refine hK _ _ (.inr hTT) ?_
      clear hK K
      try simp only [List.getElem_toArray, List.getElem_cons_zero, List.getElem_cons_succ, Act.put, List.setIfInBounds_toArray, List.set_cons_zero, List.set_cons_succ]
      refine wpG_take (i := 4) (v := ?v4) rfl (by kernel_rfl) (by kernel_rfl) (by kernel_rfl) (by kernel_rfl) (fun _ _ _ h => h) (Or.inl ⟨by rfl, ?hy4⟩) hTT ?rest4
      case hy4 => intro wq hSw; have hq1 := fun i => hSw.cell i; go_simp <;> with_reducible rfl
      simp only [List.getElem_toArray, List.getElem_cons_zero, List.getElem_cons_succ, Act.put, List.setIfInBounds_toArray, List.set_cons_zero, List.set_cons_succ]
      refine wpG_one (i := 5) rfl (by kernel_rfl) (fun K hK => ?_)
      go_simp
      replace gT := gT.alloc (.cells #[.slice (some ⟨g4, 0, none⟩) 1 c4'] 26); replace gE := gE.alloc (.cells #[.slice (some ⟨g4, 0, none⟩) 1 c4'] 26); replace gL := gL.alloc (.cells #[.slice (some ⟨g4, 0, none⟩) 1 c4'] 26); replace hcl4 := (World.cell?_alloc_lt w7 (.cells #[.slice (some ⟨g4, 0, none⟩) 1 c4'] 26) ⟨g4, 0, none⟩ hl4').trans hcl4; replace hB := hB.alloc hB.size (.cells #[.slice (some ⟨g4, 0, none⟩) 1 c4'] 26); clear hTT; have hTT := gT
      refine hK _ _ (.inr hTT) ?_
      clear hK K
      try simp only [List.getElem_toArray, List.getElem_cons_zero, List.getElem_cons_succ, Act.put, List.setIfInBounds_toArray, List.set_cons_zero, List.set_cons_succ]
      refine wpG_one (i := 6) rfl (by kernel_rfl) (fun K hK => ?_)
      rw [if_pos (by rfl)]; refine wp_append_any _ _ _ 51 rfl (w.heap.size + 1 + 1) 26 i0 (.agg #[.slice none 0 0]) 1 24 Tryz.underlying51 hi hz0 hz1' hz2' rfl (by decide) _ 0 [] rfl (World.ownsRow_nil _ _ _ _) (w7.heap.size + 1) (some ⟨w7.heap.size, 0, none⟩) 1 1 [.slice (some ⟨g4, 0, none⟩) 1 c4'] rfl (Rd.blkN (Blk.new _ _ _) rfl (Nat.lt_succ_self _)).reads (by simp [Value.oneCell']) (by unfold maxLen; omega) (by omega) (by exact gE.lt) (fun v8 w8 hown8 hgrow hob => ?_)
      have hbW := (Below.refl _ _).grown hgrow (Nat.le_refl _) (fun z hz => by cases hz); replace gT := gT.below hbW gT.lt; replace gE := gE.below hbW gE.lt; replace gL := gL.below hbW gL.lt; replace hcl4 := (hbW.cell (p := ⟨g4, 0, none⟩) hl4a).trans hcl4; have hl48 := Nat.lt_of_lt_of_le hl4a hbW.size; replace hB := hB.trans (hbW.mono hB.size); obtain ⟨g8, c8, rfl, hg8, hl8⟩ := hown8.form (Nat.succ_pos _); have hl88 := own_le0 hown8; have hm8 := own_cap hown8; have hcl8 : w8.cell? ⟨g8, 0, none⟩ = some (.slice (some ⟨g4, 0, none⟩) 1 c4') := hown8.cellAt 0 (by omega); clear hbW hTT; have hTT := gT; have hqT := fun i => gT.cell i; have hfT := fun i => gT.frozen i; have hlT := gT.lt
      refine hK _ _ (.inr hTT) ?_
      clear hK K
      try simp only [List.getElem_toArray, List.getElem_cons_zero, List.getElem_cons_succ, Act.put, List.setIfInBounds_toArray, List.set_cons_zero, List.set_cons_succ]
      refine wpG_take (i := 7) (v := ?v7) rfl (by kernel_rfl) (by kernel_rfl) (by kernel_rfl) (by kernel_rfl) (fun _ _ _ h => h) (Or.inl ⟨by rfl, ?hy7⟩) hTT ?rest7
      case hy7 => intro wq hSw; have hq1 := fun i => hSw.cell i; go_simp <;> with_reducible rfl
      simp only [List.getElem_toArray, List.getElem_cons_zero, List.getElem_cons_succ, Act.put, List.setIfInBounds_toArray, List.set_cons_zero, List.set_cons_succ]
      refine wpG_one (i := 8) rfl (by kernel_rfl) (fun K hK => ?_)
      go_simp
      refine hK _ _ (.inl rfl) ?_
      clear hK K
      try simp only [List.getElem_toArray, List.getElem_cons_zero, List.getElem_cons_succ, Act.put, List.setIfInBounds_toArray, List.set_cons_zero, List.set_cons_succ]
      refine wpG_done (by kernel_rfl) ?_ _
      dsimp only
      have hne8 : g8 ≠ w.heap.size := by omega
      have hne4 : g4 ≠ w.heap.size := by omega
      clear hTT hqT hfT hlT hqL hlL
      replace gT := gT.set_ 6 (.slice (some ⟨g8, 0, none⟩) 1 c8)
      replace gE := gE.far (p := ⟨w.heap.size, 6, none⟩) (show w.heap.size + 1 ≠ w.heap.size by omega) (.slice (some ⟨g8, 0, none⟩) 1 c8)
      replace gL := gL.far (p := ⟨w.heap.size, 6, none⟩) (show w.heap.size + 1 + 1 ≠ w.heap.size by omega) (.slice (some ⟨g8, 0, none⟩) 1 c8)
      replace hB := hB.setCell (p := ⟨w.heap.size, 6, none⟩) (Nat.le_refl w.heap.size) (.slice (some ⟨g8, 0, none⟩) 1 c8)
      replace hcl8 := (cell_far w8 ⟨w.heap.size, 6, none⟩ (.slice (some ⟨g8, 0, none⟩) 1 c8) g8 hne8).trans hcl8
      replace hcl4 := (cell_far w8 ⟨w.heap.size, 6, none⟩ (.slice (some ⟨g8, 0, none⟩) 1 c8) g4 hne4).trans hcl4
      have hs9 : (w8.setCell ⟨w.heap.size, 6, none⟩ (.slice (some ⟨g8, 0, none⟩) 1 c8)).heap.size = w8.heap.size := by simp
      generalize w8.setCell ⟨w.heap.size, 6, none⟩ (.slice (some ⟨g8, 0, none⟩) 1 c8) = w9 at *
      go_wp2_with (fail)
      go_roundg (1 - (0 + 1))
      case measure => rw [hg]; omega
      case rel => exact ⟨0 + 1, rfl, by go_num, gE, gL, hB, .inr ⟨rfl, g8, c8, g4, c4', by simpa using gT, by omega, by omega, hcl8, hl88, hm8, by omega, by omega, hcl4, hl4, hm4⟩⟩
    · have hqL := fun i => gL.cell i; have hlL := gL.lt
      go_wp2_with (fail)
      have hbb := fun p i => blw_blk gL p i
      refine wp_region_blw (by kernel_rfl) (by kernel_rfl) ?_
      repeat (go_big_quiet_step (first | (go_at_call 172; exact Calls.blw_of _ (endK _ _ _ (gL.below (Blw.h _) gL.lt))) | (go_at_call 175; exact Calls.blw_of_same _ (insist_ok _))))
      refine wpQuiet_nil ?_
      rintro W3 ⟨⟨_, hb3⟩, rfl⟩
      replace gT := gT.below hb3 gT.lt; replace gE := gE.below hb3 gE.lt; replace hB := hB.trans (hb3.mono hB.size)
      have hqT := fun i => gT.cell i; have hfT := fun i => gT.frozen i; have hlT := gT.lt; have hqE := fun i => gE.cell i; have hfE := fun i => gE.frozen i; have hlE := gE.lt
      replace hcl8 := (hb3.cell (p := ⟨g8, 0, none⟩) hl8).trans hcl8; replace hcl4 := (hb3.cell (p := ⟨g4, 0, none⟩) hl4).trans hcl4; replace hl8 := Nat.lt_of_lt_of_le hl8 hb3.size; replace hl4 := Nat.lt_of_lt_of_le hl4 hb3.size
      clear hbb hqL hlL
      go_wp2_with (fail)
      clear hqT hfT hlT hqE hfE hlE
      replace gT := gT.set_ 0 (.int .i64 1); replace gE := gE.far (p := ⟨w.heap.size, 0, none⟩) (show w.heap.size + 1 ≠ w.heap.size by omega) (.int .i64 1); replace hB := hB.setCell (p := ⟨w.heap.size, 0, none⟩) (Nat.le_refl w.heap.size) (.int .i64 1); replace hcl8 := (cell_far _ ⟨w.heap.size, 0, none⟩ (.int .i64 1) g8 (show g8 ≠ w.heap.size by omega)).trans hcl8; replace hcl4 := (cell_far _ ⟨w.heap.size, 0, none⟩ (.int .i64 1) g4 (show g4 ≠ w.heap.size by omega)).trans hcl4
      replace gT := gT.set_ 1 (.int .i64 1); replace gE := gE.far (p := ⟨w.heap.size, 1, none⟩) (show w.heap.size + 1 ≠ w.heap.size by omega) (.int .i64 1); replace hB := hB.setCell (p := ⟨w.heap.size, 1, none⟩) (Nat.le_refl w.heap.size) (.int .i64 1); replace hcl8 := (cell_far _ ⟨w.heap.size, 1, none⟩ (.int .i64 1) g8 (show g8 ≠ w.heap.size by omega)).trans hcl8; replace hcl4 := (cell_far _ ⟨w.heap.size, 1, none⟩ (.int .i64 1) g4 (show g4 ≠ w.heap.size by omega)).trans hcl4
      replace gT := gT.set_ 2 (.int .i64 2); replace gE := gE.far (p := ⟨w.heap.size, 2, none⟩) (show w.heap.size + 1 ≠ w.heap.size by omega) (.int .i64 2); replace hB := hB.setCell (p := ⟨w.heap.size, 2, none⟩) (Nat.le_refl w.heap.size) (.int .i64 2); replace hcl8 := (cell_far _ ⟨w.heap.size, 2, none⟩ (.int .i64 2) g8 (show g8 ≠ w.heap.size by omega)).trans hcl8; replace hcl4 := (cell_far _ ⟨w.heap.size, 2, none⟩ (.int .i64 2) g4 (show g4 ≠ w.heap.size by omega)).trans hcl4
      replace gT := gT.set_ 3 (.int .i64 0); replace gE := gE.far (p := ⟨w.heap.size, 3, none⟩) (show w.heap.size + 1 ≠ w.heap.size by omega) (.int .i64 0); replace hB := hB.setCell (p := ⟨w.heap.size, 3, none⟩) (Nat.le_refl w.heap.size) (.int .i64 0); replace hcl8 := (cell_far _ ⟨w.heap.size, 3, none⟩ (.int .i64 0) g8 (show g8 ≠ w.heap.size by omega)).trans hcl8; replace hcl4 := (cell_far _ ⟨w.heap.size, 3, none⟩ (.int .i64 0) g4 (show g4 ≠ w.heap.size by omega)).trans hcl4
      replace gT := gT.set_ 4 (.int .i64 0); replace gE := gE.far (p := ⟨w.heap.size, 4, none⟩) (show w.heap.size + 1 ≠ w.heap.size by omega) (.int .i64 0); replace hB := hB.setCell (p := ⟨w.heap.size, 4, none⟩) (Nat.le_refl w.heap.size) (.int .i64 0); replace hcl8 := (cell_far _ ⟨w.heap.size, 4, none⟩ (.int .i64 0) g8 (show g8 ≠ w.heap.size by omega)).trans hcl8; replace hcl4 := (cell_far _ ⟨w.heap.size, 4, none⟩ (.int .i64 0) g4 (show g4 ≠ w.heap.size by omega)).trans hcl4
      replace gT := gT.set_ 5 (.int .i64 0); replace gE := gE.far (p := ⟨w.heap.size, 5, none⟩) (show w.heap.size + 1 ≠ w.heap.size by omega) (.int .i64 0); replace hB := hB.setCell (p := ⟨w.heap.size, 5, none⟩) (Nat.le_refl w.heap.size) (.int .i64 0); replace hcl8 := (cell_far _ ⟨w.heap.size, 5, none⟩ (.int .i64 0) g8 (show g8 ≠ w.heap.size by omega)).trans hcl8; replace hcl4 := (cell_far _ ⟨w.heap.size, 5, none⟩ (.int .i64 0) g4 (show g4 ≠ w.heap.size by omega)).trans hcl4
      replace gT := gT.set_ 6 (.slice (some ⟨g8, 0, none⟩) 1 c); replace gE := gE.far (p := ⟨w.heap.size, 6, none⟩) (show w.heap.size + 1 ≠ w.heap.size by omega) (.slice (some ⟨g8, 0, none⟩) 1 c); replace hB := hB.setCell (p := ⟨w.heap.size, 6, none⟩) (Nat.le_refl w.heap.size) (.slice (some ⟨g8, 0, none⟩) 1 c); replace hcl8 := (cell_far _ ⟨w.heap.size, 6, none⟩ (.slice (some ⟨g8, 0, none⟩) 1 c) g8 (show g8 ≠ w.heap.size by omega)).trans hcl8; replace hcl4 := (cell_far _ ⟨w.heap.size, 6, none⟩ (.slice (some ⟨g8, 0, none⟩) 1 c) g4 (show g4 ≠ w.heap.size by omega)).trans hcl4
      replace gE := gE.set_ 0 (.int .i64 0); replace gT := gT.far (p := ⟨w.heap.size + 1, 0, none⟩) (show w.heap.size ≠ w.heap.size + 1 by omega) (.int .i64 0); replace hB := hB.setCell (p := ⟨w.heap.size + 1, 0, none⟩) (show w.heap.size ≤ w.heap.size + 1 by omega) (.int .i64 0); replace hcl8 := (cell_far _ ⟨w.heap.size + 1, 0, none⟩ (.int .i64 0) g8 (show g8 ≠ w.heap.size + 1 by omega)).trans hcl8; replace hcl4 := (cell_far _ ⟨w.heap.size + 1, 0, none⟩ (.int .i64 0) g4 (show g4 ≠ w.heap.size + 1 by omega)).trans hcl4
      have hs : ((((((((W3.setCell ⟨w.heap.size, 0, none⟩ (.int .i64 1)).setCell ⟨w.heap.size, 1, none⟩ (.int .i64 1)).setCell ⟨w.heap.size, 2, none⟩ (.int .i64 2)).setCell ⟨w.heap.size, 3, none⟩ (.int .i64 0)).setCell ⟨w.heap.size, 4, none⟩ (.int .i64 0)).setCell ⟨w.heap.size, 5, none⟩ (.int .i64 0)).setCell ⟨w.heap.size, 6, none⟩ (.slice (some ⟨g8, 0, none⟩) 1 c)).setCell ⟨w.heap.size + 1, 0, none⟩ (.int .i64 0)).heap.size = W3.heap.size := by simp
      generalize ((((((((W3.setCell ⟨w.heap.size, 0, none⟩ (.int .i64 1)).setCell ⟨w.heap.size, 1, none⟩ (.int .i64 1)).setCell ⟨w.heap.size, 2, none⟩ (.int .i64 2)).setCell ⟨w.heap.size, 3, none⟩ (.int .i64 0)).setCell ⟨w.heap.size, 4, none⟩ (.int .i64 0)).setCell ⟨w.heap.size, 5, none⟩ (.int .i64 0)).setCell ⟨w.heap.size, 6, none⟩ (.slice (some ⟨g8, 0, none⟩) 1 c)).setCell ⟨w.heap.size + 1, 0, none⟩ (.int .i64 0)) = w9 at *
      refine leaves_cons (f := 173) (args := #[.pointer (some ⟨w.heap.size, 0, none⟩), .pointer (some ⟨w.heap.size + 1, 0, none⟩)]) (by simp) (by simp [go_sem]) ?_
      refine (parseIdle _ _ _).mono ?_
      rintro e u' w2 ⟨rfl, rfl, rfl⟩
      have hcT := fun i => gT.cell i; have hcE := fun i => gE.cell i
      refine ⟨.tuple #[.agg #[.int .i64 1, .int .i64 1, .int .i64 2, .int .i64 0, .int .i64 0, .int .i64 0, .slice (some ⟨g8, 0, none⟩) 1 c], .int .i64 0], ?_, _, _, _, _, rfl, ⟨by omega, by omega, hcl8, hc1, hc2, by omega, by omega, hcl4, hc3, hc4⟩, hB⟩
      simp [results, Tryz.results141, go_sem, hcT, hcE]
end Go.Proofs.YtifddfchpknkbaaGreatDoor
