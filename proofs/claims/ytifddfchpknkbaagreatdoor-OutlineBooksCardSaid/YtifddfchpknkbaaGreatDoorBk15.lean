import Derived.Test.YtifddfchpknkbaaGreatDoorProg
import Derived.Test.YtifddfchpknkbaaGreatDoorBk0
import Derived.Test.YtifddfchpknkbaaGreatDoorBk1
import Derived.Test.YtifddfchpknkbaaGreatDoorBk2
import Derived.Test.YtifddfchpknkbaaGreatDoorBk3
import Derived.Test.YtifddfchpknkbaaGreatDoorBk5
import Derived.Test.YtifddfchpknkbaaGreatDoorBk6
import Derived.Test.YtifddfchpknkbaaGreatDoorBk7
import Derived.Test.YtifddfchpknkbaaGreatDoorBk8
import Derived.Test.YtifddfchpknkbaaGreatDoorBk9
import Derived.Test.YtifddfchpknkbaaGreatDoorBk12
import Derived.Test.YtifddfchpknkbaaGreatDoorBk13
import Derived.Test.YtifddfchpknkbaaGreatDoorBk14
import Derived.Laws.RangeAny
import Derived.OrdersHeld
set_option linter.unusedVariables false
set_option linter.unusedSimpArgs false
namespace Go.Proofs.YtifddfchpknkbaaGreatDoor
section
open Go.RowKit Go.Lib
set_option maxRecDepth 100000 in
set_option maxHeartbeats 1600000 in
theorem parseCatch (b0 b1 : Nat) (z0 z1 z2 z3 z4 z5 z6 y : Value) (older : List PanicEntry) (w : World) (g0 : Blk w b0 121 #[z0, z1, z2, z3, z4, z5, z6]) (g1 : Blk w b1 31 #[y]) (hne : b0 ≠ b1) :
    CallsD Tryz.prog 173 #[.pointer (some ⟨b0, 0, none⟩), .pointer (some ⟨b1, 0, none⟩)] (.panicking ({ v := .iface 222 (.agg #[]), recovered := false } :: older)) w fun e u' w' => e = .returned (.tuple #[]) ∧ u' = .panicking ({ v := .iface 222 (.agg #[]), recovered := true } :: older) ∧
      Blk w' b0 121 #[.int .i64 0, .int .i64 0, .int .i64 0, .int .i64 0, .int .i64 0, .int .i64 0, .slice none 0 0] ∧ Blk w' b1 31 #[.int .i64 4] ∧ ∀ (B : Nat) (v : World), Below B v w → B ≤ b0 → B ≤ b1 → Below B v w' := by
  have hta : ∀ w : World, (Instr.typeAssert (.iface 222 (.agg #[])) 20 222 true).run Tryz.prog w = .ok (.tuple #[.agg #[], .bool true]) w := fun _ => by kernel_rfl
  refine callsD_of_wpS Tryz.func173 rfl fun c₀ cs hu => ?_
  simp only [Tryz.ntmps173, List.size_toArray, List.length_cons, List.length_nil, Nat.reduceAdd, Nat.reduceSub, Array.replicate_succ, Array.replicate_zero, List.push_toArray, List.append_toArray, List.nil_append, List.cons_append]
  apply wpS_seq
  apply wpS_region
  simp [wpOpsS, go_sem, recoverD, hu, Tryz.ntmps173, Exit.thenS]
  refine wpS_of_wp ?_
  have q0 := fun i => g0.cell i; have f0 := fun i => g0.frozen i; have l0 := g0.lt
  have q1 := fun i => g1.cell i; have f1 := fun i => g1.frozen i; have l1 := g1.lt
  go_wp2
  clear q0 f0 l0 q1 f1 l1
  have G0 := (((((((((g0.set_ 0 (.int .i64 0)).set_ 1 (.int .i64 0)).set_ 2 (.int .i64 0)).set_ 3 (.int .i64 0)).set_ 4 (.int .i64 0)).set_ 5 (.int .i64 0)).set_ 6 (.slice none 0 0)).far (p := ⟨b1, 0, none⟩) hne (.int .i64 4)).alloc (.cells #[] 222))
  have G1 := (((((((((g1.far (p := ⟨b0, 0, none⟩) (Ne.symm hne) (.int .i64 0)).far (p := ⟨b0, 1, none⟩) (Ne.symm hne) (.int .i64 0)).far (p := ⟨b0, 2, none⟩) (Ne.symm hne) (.int .i64 0)).far (p := ⟨b0, 3, none⟩) (Ne.symm hne) (.int .i64 0)).far (p := ⟨b0, 4, none⟩) (Ne.symm hne) (.int .i64 0)).far (p := ⟨b0, 5, none⟩) (Ne.symm hne) (.int .i64 0)).far (p := ⟨b0, 6, none⟩) (Ne.symm hne) (.slice none 0 0)).set_ 0 (.int .i64 4)).alloc (.cells #[] 222))
  have HB : ∀ (B : Nat) (v : World), Below B v w → B ≤ b0 → B ≤ b1 → Below B v (((((((((w.setCell ⟨b0, 0, none⟩ (.int .i64 0)).setCell ⟨b0, 1, none⟩ (.int .i64 0)).setCell ⟨b0, 2, none⟩ (.int .i64 0)).setCell ⟨b0, 3, none⟩ (.int .i64 0)).setCell ⟨b0, 4, none⟩ (.int .i64 0)).setCell ⟨b0, 5, none⟩ (.int .i64 0)).setCell ⟨b0, 6, none⟩ (.slice none 0 0)).setCell ⟨b1, 0, none⟩ (.int .i64 4)).alloc (.cells #[] 222)) := fun B v h h0 h1 => (have h2 := ((((((((h.setCell (p := ⟨b0, 0, none⟩) h0 (.int .i64 0)).setCell (p := ⟨b0, 1, none⟩) h0 (.int .i64 0)).setCell (p := ⟨b0, 2, none⟩) h0 (.int .i64 0)).setCell (p := ⟨b0, 3, none⟩) h0 (.int .i64 0)).setCell (p := ⟨b0, 4, none⟩) h0 (.int .i64 0)).setCell (p := ⟨b0, 5, none⟩) h0 (.int .i64 0)).setCell (p := ⟨b0, 6, none⟩) h0 (.slice none 0 0)).setCell (p := ⟨b1, 0, none⟩) h1 (.int .i64 4)); h2.alloc (Nat.le_trans h0 (Nat.le_of_lt (((((((((g0.set_ 0 (.int .i64 0)).set_ 1 (.int .i64 0)).set_ 2 (.int .i64 0)).set_ 3 (.int .i64 0)).set_ 4 (.int .i64 0)).set_ 5 (.int .i64 0)).set_ 6 (.slice none 0 0)).far (p := ⟨b1, 0, none⟩) hne (.int .i64 4))).lt)) _)
  replace G0 : Blk (((((((((w.setCell ⟨b0, 0, none⟩ (.int .i64 0)).setCell ⟨b0, 1, none⟩ (.int .i64 0)).setCell ⟨b0, 2, none⟩ (.int .i64 0)).setCell ⟨b0, 3, none⟩ (.int .i64 0)).setCell ⟨b0, 4, none⟩ (.int .i64 0)).setCell ⟨b0, 5, none⟩ (.int .i64 0)).setCell ⟨b0, 6, none⟩ (.slice none 0 0)).setCell ⟨b1, 0, none⟩ (.int .i64 4)).alloc (.cells #[] 222)) b0 121 #[.int .i64 0, .int .i64 0, .int .i64 0, .int .i64 0, .int .i64 0, .int .i64 0, .slice none 0 0] := by simpa using G0
  replace G1 : Blk (((((((((w.setCell ⟨b0, 0, none⟩ (.int .i64 0)).setCell ⟨b0, 1, none⟩ (.int .i64 0)).setCell ⟨b0, 2, none⟩ (.int .i64 0)).setCell ⟨b0, 3, none⟩ (.int .i64 0)).setCell ⟨b0, 4, none⟩ (.int .i64 0)).setCell ⟨b0, 5, none⟩ (.int .i64 0)).setCell ⟨b0, 6, none⟩ (.slice none 0 0)).setCell ⟨b1, 0, none⟩ (.int .i64 4)).alloc (.cells #[] 222)) b1 31 #[.int .i64 4] := by simpa using G1
  generalize (((((((((w.setCell ⟨b0, 0, none⟩ (.int .i64 0)).setCell ⟨b0, 1, none⟩ (.int .i64 0)).setCell ⟨b0, 2, none⟩ (.int .i64 0)).setCell ⟨b0, 3, none⟩ (.int .i64 0)).setCell ⟨b0, 4, none⟩ (.int .i64 0)).setCell ⟨b0, 5, none⟩ (.int .i64 0)).setCell ⟨b0, 6, none⟩ (.slice none 0 0)).setCell ⟨b1, 0, none⟩ (.int .i64 4)).alloc (.cells #[] 222)) = W9 at *
  cases c₀
  simp_all [bodyPostS, results, Tryz.results173]
end
section
open Go.RowKit Go.Lib
def kF : List ByteArray := [⟨#[35, 35]⟩, ⟨#[35, 35]⟩]
def kH : List ByteArray := [⟨#[35, 35]⟩, ⟨#[35, 46]⟩]
def kfs (A B : Option Addr) (a b : Nat) : List Fig := [⟨A, 2, a, kF⟩, ⟨B, 2, b, kH⟩]
theorem vCounts : countsR 8 8 8 1 4 4 4 3 3 kF = #[.int .i64 4, .int .i64 32, .int .i64 0] := by kernel_rfl
theorem vMost : mostR 8 8 8 1 4 4 3 3 kF = #[.int .i64 4, .int .i64 0] := by kernel_rfl
theorem vFades : fadesR 8 8 8 1 4 4 3 3 kH = #[.int .i64 1, .int .i64 0] := by kernel_rfl
theorem vMeets : meetsR 8 8 8 1 4 4 1 3 3 1 5 3 kF kF = #[.int .i64 2, .int .i64 0] := by kernel_rfl
theorem vMist (A B : Option Addr) (a b : Nat) : mistR 8 8 8 1 4 4 0 1 3 3 3 (kfs A B a b) = #[.int .i64 0, .int .i64 1, .int .i64 0] := by kernel_rfl
theorem vToldE (A B : Option Addr) (a b : Nat) : toldE 8 8 8 1 4 4 0 1 3 3 3 (kfs A B a b) 1 = 0 := by kernel_rfl
theorem vToldR (A B : Option Addr) (a b : Nat) : toldR 8 8 8 1 4 4 0 1 3 3 3 (kfs A B a b) 1 = [0] := by kernel_rfl
theorem vWhoE (A B : Option Addr) (a b : Nat) : whoE 8 8 8 0 4 4 0 1 3 3 3 (kfs A B a b) dRows = 0 := by kernel_rfl
theorem vWhoL (A B : Option Addr) (a b : Nat) : whoL 8 8 8 0 4 4 0 1 3 3 3 (kfs A B a b) dRows = [3, 1] := by kernel_rfl
theorem vNextP (A B : Option Addr) (a b : Nat) : nextP 8 8 8 0 4 4 0 1 3 3 3 (kfs A B a b) (List.replicate 8 blankRow) = (36, 1) := by kernel_rfl
theorem vNextE (A B : Option Addr) (a b : Nat) : nextE 8 8 8 0 4 4 0 1 3 3 3 (kfs A B a b) (List.replicate 8 blankRow) = 0 := by kernel_rfl
theorem vPlanE (A B : Option Addr) (a b : Nat) : planE 8 8 8 0 4 4 0 1 3 3 3 (kfs A B a b) [0, 27, 36] = 0 := by kernel_rfl
theorem vPlanL (A B : Option Addr) (a b : Nat) : planL 8 8 8 0 4 4 0 1 3 3 3 (kfs A B a b) [0, 27, 36] = [36] := by kernel_rfl
theorem vDif (A B : Option Addr) (a b : Nat) : (difP 8 8 8 0 4 4 0 1 3 3 3 (kfs A B a b) [0, 27, 36]).length = 4 := by kernel_rfl
theorem vView : viewB 8 8 8 1 4 4 4 3 3 kH = true := by kernel_rfl
end
section
open Go.RowKit Go.Lib
def CompAt (w : World) (A : Option Addr) (gf gh : Nat) : Prop := (∀ f ∈ kfs (some ⟨gf, 0, none⟩) (some ⟨gh, 0, none⟩) 2 2, f.ok w w.heap.size) ∧ Rd w w.heap.size 1 A 2 ((kfs (some ⟨gf, 0, none⟩) (some ⟨gh, 0, none⟩) 2 2).map Fig.val)
theorem CompAt.below {w w' : World} {A : Option Addr} {gf gh : Nat} (h : CompAt w A gf gh) (hb : Below w.heap.size w w') : CompAt w' A gf gh :=
  ⟨fun f hf => ((h.1 f hf).below hb).more hb.size, (h.2.below hb).more hb.size⟩
theorem kFs : ∀ r ∈ kF, r.size ≤ maxLen := by unfold maxLen; decide
theorem kHs : ∀ r ∈ kH, r.size ≤ maxLen := by unfold maxLen; decide
theorem dRs : ∀ r ∈ dRows, r.size ≤ maxLen := by unfold maxLen; decide
theorem nRs : ∀ r ∈ List.replicate 8 blankRow, r.size ≤ maxLen := by unfold maxLen; decide
theorem vShL : (shadowRows 8 8 8 1 4 4 4 3 3 kH).length = 8 := by kernel_rfl
theorem vSh1 : ((shadowRows 8 8 8 1 4 4 4 3 3 kH).map Value.string)[1]? = some (.string ⟨#[46, 43, 43, 43, 43, 43, 43, 46]⟩) := by kernel_rfl
theorem vSh5 : ((shadowRows 8 8 8 1 4 4 4 3 3 kH).map Value.string)[5]? = some (.string ⟨#[46, 43, 43, 43, 43, 46, 46, 46]⟩) := by kernel_rfl
theorem vErr : errV (viewB 8 8 8 1 4 4 4 3 3 kH) = .int .i64 0 := by rw [vView]; rfl
theorem CompAt.new {w : World} {gf gh : Nat} (hF : Blk w gf 9 #[.string ⟨#[35, 35]⟩, .string ⟨#[35, 35]⟩]) (hG : Blk w gh 9 #[.string ⟨#[35, 35]⟩, .string ⟨#[35, 46]⟩]) : CompAt (w.alloc (.cells #[.slice (some ⟨gf, 0, none⟩) 2 2, .slice (some ⟨gh, 0, none⟩) 2 2] 26)) (some ⟨w.heap.size, 0, none⟩) gf gh := by
  have hb : Below w.heap.size w (w.alloc (.cells #[.slice (some ⟨gf, 0, none⟩) 2 2, .slice (some ⟨gh, 0, none⟩) 2 2] 26)) := (Below.refl _ w).alloc (Nat.le_refl _) _
  have h1 : Rd w w.heap.size 1 (some ⟨gf, 0, none⟩) 2 (kF.map Value.string) := Rd.blkN hF rfl hF.lt
  have h2 : Rd w w.heap.size 1 (some ⟨gh, 0, none⟩) 2 (kH.map Value.string) := Rd.blkN hG rfl hG.lt
  refine ⟨fun f hf => ?_, Rd.blkN (Blk.new w 26 #[.slice (some ⟨gf, 0, none⟩) 2 2, .slice (some ⟨gh, 0, none⟩) 2 2]) rfl (by rw [World.size_alloc]; omega)⟩
  rcases List.mem_cons.1 hf with rfl | hf
  · exact ⟨Nat.le_refl _, (show (2 : Nat) ≤ maxLen by unfold maxLen; omega), kFs, (h1.below hb).more hb.size⟩
  · rw [List.mem_singleton] at hf
    subst hf
    exact ⟨Nat.le_refl _, (show (2 : Nat) ≤ maxLen by unfold maxLen; omega), kHs, (h2.below hb).more hb.size⟩
theorem figSmall (A : Option Addr) (c : Nat) : (⟨A, 1, c, [⟨#[35]⟩]⟩ : Fig).rows.length ≤ 100 ∧ ∀ r ∈ (⟨A, 1, c, [⟨#[35]⟩]⟩ : Fig).rows, r.size ≤ 100 := by
  refine ⟨(show (1 : Nat) ≤ 100 by omega), fun r hr => ?_⟩
  have hr2 : r = ⟨#[35]⟩ := by simpa using hr
  subst hr2
  decide
theorem dig : ∀ x ∈ ([1, 1, 2, 0, 0, 0] : List Int), 0 ≤ x ∧ x < 10 := by decide
theorem vPrS (A : Option Addr) (c : Nat) : 0 ≤ sumA (bookR (fun n => strOfNums [48 + n]) 1 1 2 0 0 0 [⟨A, 1, c, [⟨#[35]⟩]⟩]) 0 0 := by
  have h : sumA (bookR (fun n => strOfNums [48 + n]) 1 1 2 0 0 0 [⟨A, 1, c, [⟨#[35]⟩]⟩]) 0 0 = 12699 := by kernel_rfl
  rw [h]; omega
theorem vPrint (A : Option Addr) (c : Nat) : linesS (bookR (fun n => strOfNums [48 + n]) 1 1 2 0 0 0 [⟨A, 1, c, [⟨#[35]⟩]⟩]) ⟨#[]⟩ ++ ⟨#[101, 110, 100, 32]⟩ ++ strOfNums [48 + (sumA (bookR (fun n => strOfNums [48 + n]) 1 1 2 0 0 0 [⟨A, 1, c, [⟨#[35]⟩]⟩]) 0 0 % 173) / 100] ++ strOfNums [48 + (sumA (bookR (fun n => strOfNums [48 + n]) 1 1 2 0 0 0 [⟨A, 1, c, [⟨#[35]⟩]⟩]) 0 0 % 173) / 10 % 10] ++ strOfNums [48 + (sumA (bookR (fun n => strOfNums [48 + n]) 1 1 2 0 0 0 [⟨A, 1, c, [⟨#[35]⟩]⟩]) 0 0 % 173) % 10] ++ ⟨#[10]⟩ = ⟨#[115, 116, 97, 103, 101, 32, 49, 32, 49, 32, 50, 32, 48, 32, 48, 32, 48, 10, 102, 105, 103, 117, 114, 101, 32, 35, 10, 101, 110, 100, 32, 48, 55, 48, 10]⟩ := by kernel_rfl
set_option maxRecDepth 100000 in
set_option maxHeartbeats 6400000 in
theorem known_true (m : Int) (w : World) (hm : w.cell? ⟨0, 0, none⟩ = some (.int .i64 m)) : Calls Tryz.prog 24 #[] w fun e w' => e = .returned (.bool true) ∧ Below w.heap.size w w' := by
  have h00 : 0 < w.heap.size := block_lt_of_cell hm
  have hmB : ∀ w', Below w.heap.size w w' → w'.cell? ⟨0, 0, none⟩ = some (.int .i64 m) := fun w' hb => (hb.cell (p := ⟨0, 0, none⟩) h00).trans hm
  have hB : Below w.heap.size w w := Below.refl _ _
  go_enter Tryz.func24, Tryz.ntmps24
  go_upto_region 2 with (first | (go_at_call 89; refine (F_fun _).mono ?_; rintro e w1 ⟨gf, rfl, _, hF, hb⟩; replace hB := hB.trans (hb.mono hB.size); clear hb) | (go_at_call 90; refine (H_fun _).mono ?_; rintro e w1 ⟨gh, rfl, _, hG, hb⟩; replace hF := hF.below hb hF.lt; replace hB := hB.trans (hb.mono hB.size); clear hb))
  have hC := CompAt.new hF hG
  replace hB := hB.alloc hB.size (.cells #[.slice (some ⟨gf, 0, none⟩) 2 2, .slice (some ⟨gh, 0, none⟩) 2 2] 26)
  clear hF hG
  go_upto_region 13 with (first
    | (go_at_call 91; refine (T_fun _).mono ?_; rintro e w1 ⟨rfl, hb⟩; (try replace hF := hF.below hb hF.lt); (try replace hG := hG.below hb hG.lt); (try replace hC := hC.below hb); (try replace hSh := (hSh.below hb).more hb.size); (try replace hTo := (hTo.below hb).more hb.size); (try replace hWh := (hWh.below hb).more hb.size); (try replace hD := (hD.below hb).more hb.size); (try replace hPl := (hPl.below hb).more hb.size); (try replace hBk := hBk.below hb); (try replace gX := gX.below hb gX.lt); replace hB := hB.trans (hb.mono hB.size); clear hb)
    | (go_at_call 89; refine (F_fun _).mono ?_; rintro e w1 ⟨g1, rfl, _, hF1, hb⟩; (try replace hF := hF.below hb hF.lt); (try replace hG := hG.below hb hG.lt); (try replace hC := hC.below hb); (try replace hSh := (hSh.below hb).more hb.size); (try replace hTo := (hTo.below hb).more hb.size); (try replace hWh := (hWh.below hb).more hb.size); (try replace hD := (hD.below hb).more hb.size); (try replace hPl := (hPl.below hb).more hb.size); (try replace hBk := hBk.below hb); (try replace gX := gX.below hb gX.lt); replace hB := hB.trans (hb.mono hB.size); clear hb; first | (have hG := hF; clear hF; have hF := hF1; clear hF1) | (have hF := hF1; clear hF1))
    | (go_at_call 90; refine (H_fun _).mono ?_; rintro e w1 ⟨g1, rfl, _, hF1, hb⟩; (try replace hF := hF.below hb hF.lt); (try replace hG := hG.below hb hG.lt); (try replace hC := hC.below hb); (try replace hSh := (hSh.below hb).more hb.size); (try replace hTo := (hTo.below hb).more hb.size); (try replace hWh := (hWh.below hb).more hb.size); (try replace hD := (hD.below hb).more hb.size); (try replace hPl := (hPl.below hb).more hb.size); (try replace hBk := hBk.below hb); (try replace gX := gX.below hb gX.lt); replace hB := hB.trans (hb.mono hB.size); clear hb; first | (have hG := hF; clear hF; have hF := hF1; clear hF1) | (have hF := hF1; clear hF1))
    | (go_at_call 38; refine (at_fun _ _ _ _).mono ?_; rintro e w1 ⟨rfl, hb⟩; (try replace hF := hF.below hb hF.lt); (try replace hG := hG.below hb hG.lt); (try replace hC := hC.below hb); (try replace hSh := (hSh.below hb).more hb.size); (try replace hTo := (hTo.below hb).more hb.size); (try replace hWh := (hWh.below hb).more hb.size); (try replace hD := (hD.below hb).more hb.size); (try replace hPl := (hPl.below hb).more hb.size); (try replace hBk := hBk.below hb); (try replace gX := gX.below hb gX.lt); replace hB := hB.trans (hb.mono hB.size); clear hb)
    | (go_at_call 92; refine (R_fun _).mono ?_; rintro e w1 ⟨rfl, hb⟩; (try replace hF := hF.below hb hF.lt); (try replace hG := hG.below hb hG.lt); (try replace hC := hC.below hb); (try replace hSh := (hSh.below hb).more hb.size); (try replace hTo := (hTo.below hb).more hb.size); (try replace hWh := (hWh.below hb).more hb.size); (try replace hD := (hD.below hb).more hb.size); (try replace hPl := (hPl.below hb).more hb.size); (try replace hBk := hBk.below hb); (try replace gX := gX.below hb gX.lt); replace hB := hB.trans (hb.mono hB.size); clear hb)
    | (go_at_call 93; refine (S_fun _).mono ?_; rintro e w1 ⟨rfl, hb⟩; (try replace hF := hF.below hb hF.lt); (try replace hG := hG.below hb hG.lt); (try replace hC := hC.below hb); (try replace hSh := (hSh.below hb).more hb.size); (try replace hTo := (hTo.below hb).more hb.size); (try replace hWh := (hWh.below hb).more hb.size); (try replace hD := (hD.below hb).more hb.size); (try replace hPl := (hPl.below hb).more hb.size); (try replace hBk := hBk.below hb); (try replace gX := gX.below hb gX.lt); replace hB := hB.trans (hb.mono hB.size); clear hb)
    | (go_at_call 30; go_loud (refine (Counts_any 8 8 8 1 4 4 4 3 3 _ 2 2 kF _ (by omega) (by unfold maxLen; omega) kFs (by exact Rd.blkN hF rfl hF.lt)).mono ?_; rintro e w1 ⟨rfl, hb⟩; rw [vCounts]; (try replace hF := hF.below hb hF.lt); (try replace hG := hG.below hb hG.lt); (try replace hC := hC.below hb); (try replace hSh := (hSh.below hb).more hb.size); (try replace hTo := (hTo.below hb).more hb.size); (try replace hWh := (hWh.below hb).more hb.size); (try replace hD := (hD.below hb).more hb.size); (try replace hPl := (hPl.below hb).more hb.size); (try replace hBk := hBk.below hb); (try replace gX := gX.below hb gX.lt); replace hB := hB.trans (hb.mono hB.size); clear hb; clear hF))
    | (go_at_call 29; refine (Shadow_any 8 8 8 1 4 4 4 3 3 _ 2 2 kH _ (by omega) (by unfold maxLen; omega) kHs (by exact Rd.blkN hF rfl hF.lt)).mono ?_; rintro e w1 ⟨v, rfl, ownS, hb⟩; rw [vErr]; rw [vShL] at ownS; (try replace hF := hF.below hb hF.lt); (try replace hG := hG.below hb hG.lt); (try replace hC := hC.below hb); (try replace hSh := (hSh.below hb).more hb.size); (try replace hTo := (hTo.below hb).more hb.size); (try replace hWh := (hWh.below hb).more hb.size); (try replace hD := (hD.below hb).more hb.size); (try replace hPl := (hPl.below hb).more hb.size); (try replace hBk := hBk.below hb); (try replace gX := gX.below hb gX.lt); replace hB := hB.trans (hb.mono hB.size); clear hb; clear hF; obtain ⟨AS, cS, rfl⟩ := own_slice ownS; have hSh := Rd.of_own ownS; clear ownS)
    | (go_at_call 44; refine (Meets_any 8 8 8 1 4 4 1 3 3 _ 2 2 kF 1 5 3 _ 2 2 kF _ (by omega) (by unfold maxLen; omega) kFs (by exact Rd.blkN hG rfl hG.lt) (by omega) (by unfold maxLen; omega) kFs (by exact Rd.blkN hF rfl hF.lt)).mono ?_; rintro e w1 ⟨rfl, hb⟩; rw [vMeets]; (try replace hF := hF.below hb hF.lt); (try replace hG := hG.below hb hG.lt); (try replace hC := hC.below hb); (try replace hSh := (hSh.below hb).more hb.size); (try replace hTo := (hTo.below hb).more hb.size); (try replace hWh := (hWh.below hb).more hb.size); (try replace hD := (hD.below hb).more hb.size); (try replace hPl := (hPl.below hb).more hb.size); (try replace hBk := hBk.below hb); (try replace gX := gX.below hb gX.lt); replace hB := hB.trans (hb.mono hB.size); clear hb; clear hF hG)
    | (go_at_call 47; refine (Most_any 8 8 8 1 4 4 3 3 _ 2 2 kF _ (by omega) (by unfold maxLen; omega) kFs (by exact Rd.blkN hF rfl hF.lt)).mono ?_; rintro e w1 ⟨rfl, hb⟩; rw [vMost]; (try replace hF := hF.below hb hF.lt); (try replace hG := hG.below hb hG.lt); (try replace hC := hC.below hb); (try replace hSh := (hSh.below hb).more hb.size); (try replace hTo := (hTo.below hb).more hb.size); (try replace hWh := (hWh.below hb).more hb.size); (try replace hD := (hD.below hb).more hb.size); (try replace hPl := (hPl.below hb).more hb.size); (try replace hBk := hBk.below hb); (try replace gX := gX.below hb gX.lt); replace hB := hB.trans (hb.mono hB.size); clear hb; clear hF)
    | (go_at_call 48; refine (Fades_any 8 8 8 1 4 4 3 3 _ 2 2 kH _ (by omega) (by unfold maxLen; omega) kHs (by exact Rd.blkN hF rfl hF.lt)).mono ?_; rintro e w1 ⟨rfl, hb⟩; rw [vFades]; (try replace hF := hF.below hb hF.lt); (try replace hG := hG.below hb hG.lt); (try replace hC := hC.below hb); (try replace hSh := (hSh.below hb).more hb.size); (try replace hTo := (hTo.below hb).more hb.size); (try replace hWh := (hWh.below hb).more hb.size); (try replace hD := (hD.below hb).more hb.size); (try replace hPl := (hPl.below hb).more hb.size); (try replace hBk := hBk.below hb); (try replace gX := gX.below hb gX.lt); replace hB := hB.trans (hb.mono hB.size); clear hb; clear hF)
    | (go_at_call 68; refine (Mistaken_any 8 8 8 1 4 4 0 1 3 3 3 _ 2 2 (kfs (some ⟨gf, 0, none⟩) (some ⟨gh, 0, none⟩) 2 2) _ (by omega) (by unfold maxLen; omega) hC.1 hC.2).mono ?_; rintro e w1 ⟨rfl, hb⟩; rw [vMist]; (try replace hF := hF.below hb hF.lt); (try replace hG := hG.below hb hG.lt); (try replace hC := hC.below hb); (try replace hSh := (hSh.below hb).more hb.size); (try replace hTo := (hTo.below hb).more hb.size); (try replace hWh := (hWh.below hb).more hb.size); (try replace hD := (hD.below hb).more hb.size); (try replace hPl := (hPl.below hb).more hb.size); (try replace hBk := hBk.below hb); (try replace gX := gX.below hb gX.lt); replace hB := hB.trans (hb.mono hB.size); clear hb)
    | (go_at_call 69; refine (Told_any 8 8 8 1 4 4 0 1 3 3 3 _ 2 2 (kfs (some ⟨gf, 0, none⟩) (some ⟨gh, 0, none⟩) 2 2) 1 _ (by omega) (by unfold maxLen; omega) hC.1 hC.2).mono ?_; rintro e w1 ⟨v, rfl, ⟨ATo, nTo, cTo, rfl, hto1, hto2, hTo1⟩, hb⟩; rw [vToldE]; rw [vToldR] at hTo1; obtain rfl : nTo = 1 := (hTo1.len).symm; (try replace hF := hF.below hb hF.lt); (try replace hG := hG.below hb hG.lt); (try replace hC := hC.below hb); (try replace hSh := (hSh.below hb).more hb.size); (try replace hTo := (hTo.below hb).more hb.size); (try replace hWh := (hWh.below hb).more hb.size); (try replace hD := (hD.below hb).more hb.size); (try replace hPl := (hPl.below hb).more hb.size); (try replace hBk := hBk.below hb); (try replace gX := gX.below hb gX.lt); replace hB := hB.trans (hb.mono hB.size); clear hb; have hTo := hTo1; clear hTo1)
    | (go_at_call 94; refine (D_fun _).mono ?_; rintro e w1 ⟨v, rfl, ⟨AD, nD, cD, rfl, hd1, hd2, hD1⟩, hb⟩; obtain rfl : nD = 8 := (hD1.len).symm; (try replace hF := hF.below hb hF.lt); (try replace hG := hG.below hb hG.lt); (try replace hC := hC.below hb); (try replace hSh := (hSh.below hb).more hb.size); (try replace hTo := (hTo.below hb).more hb.size); (try replace hWh := (hWh.below hb).more hb.size); (try replace hD := (hD.below hb).more hb.size); (try replace hPl := (hPl.below hb).more hb.size); (try replace hBk := hBk.below hb); (try replace gX := gX.below hb gX.lt); replace hB := hB.trans (hb.mono hB.size); clear hb; have hD := hD1; clear hD1)
    | (go_at_call 95; refine (N_fun _).mono ?_; rintro e w1 ⟨v, rfl, ownN, hb⟩; (try replace hF := hF.below hb hF.lt); (try replace hG := hG.below hb hG.lt); (try replace hC := hC.below hb); (try replace hSh := (hSh.below hb).more hb.size); (try replace hTo := (hTo.below hb).more hb.size); (try replace hWh := (hWh.below hb).more hb.size); (try replace hD := (hD.below hb).more hb.size); (try replace hPl := (hPl.below hb).more hb.size); (try replace hBk := hBk.below hb); (try replace gX := gX.below hb gX.lt); replace hB := hB.trans (hb.mono hB.size); clear hb; obtain ⟨AN, cN, rfl⟩ := own_slice ownN; have hn1 := own_le0 ownN; have hn2 := own_cap ownN; have hN := Rd.of_own ownN; clear ownN)
    | (go_at_call 53; refine (Who_any 8 8 8 0 4 4 0 1 3 3 3 _ 2 2 (kfs (some ⟨gf, 0, none⟩) (some ⟨gh, 0, none⟩) 2 2) AD 8 cD dRows _ (by omega) (by unfold maxLen; omega) hC.1 hC.2 hd1 hd2 dRs hD).mono ?_; rintro e w1 ⟨v, rfl, ⟨AW, nW, cW, rfl, hw1, hw2, hWh1⟩, hb⟩; rw [vWhoE]; rw [vWhoL] at hWh1; obtain rfl : nW = 2 := (hWh1.len).symm; (try replace hF := hF.below hb hF.lt); (try replace hG := hG.below hb hG.lt); (try replace hC := hC.below hb); (try replace hSh := (hSh.below hb).more hb.size); (try replace hTo := (hTo.below hb).more hb.size); (try replace hWh := (hWh.below hb).more hb.size); (try replace hD := (hD.below hb).more hb.size); (try replace hPl := (hPl.below hb).more hb.size); (try replace hBk := hBk.below hb); (try replace gX := gX.below hb gX.lt); replace hB := hB.trans (hb.mono hB.size); clear hb; clear hD; have hWh := hWh1; clear hWh1)
    | (go_at_call 63; refine (Next_any 8 8 8 0 4 4 0 1 3 3 3 _ 2 2 (kfs (some ⟨gf, 0, none⟩) (some ⟨gh, 0, none⟩) 2 2) AN 8 cN (List.replicate 8 blankRow) _ (by omega) (by unfold maxLen; omega) hC.1 hC.2 hn1 hn2 nRs hN).mono ?_; rintro e w1 ⟨rfl, hb⟩; rw [vNextP, vNextE]; (try replace hF := hF.below hb hF.lt); (try replace hG := hG.below hb hG.lt); (try replace hC := hC.below hb); (try replace hSh := (hSh.below hb).more hb.size); (try replace hTo := (hTo.below hb).more hb.size); (try replace hWh := (hWh.below hb).more hb.size); (try replace hD := (hD.below hb).more hb.size); (try replace hPl := (hPl.below hb).more hb.size); (try replace hBk := hBk.below hb); (try replace gX := gX.below hb gX.lt); replace hB := hB.trans (hb.mono hB.size); clear hb; clear hN)
    | (go_at_call 75; have hba := (Below.refl w1.heap.size w1).alloc (Nat.le_refl _) (.cells #[.int .i64 0, .int .i64 27, .int .i64 36] 3); (try replace hF := hF.below hba hF.lt); (try replace hG := hG.below hba hG.lt); (try replace hC := hC.below hba); (try replace hSh := (hSh.below hba).more hba.size); (try replace hTo := (hTo.below hba).more hba.size); (try replace hWh := (hWh.below hba).more hba.size); (try replace hD := (hD.below hba).more hba.size); (try replace hPl := (hPl.below hba).more hba.size); (try replace hBk := hBk.below hba); (try replace gX := gX.below hba gX.lt); replace hB := hB.trans (hba.mono hB.size); clear hba; refine (Plan_any 8 8 8 0 4 4 0 1 3 3 3 _ 2 2 (kfs (some ⟨gf, 0, none⟩) (some ⟨gh, 0, none⟩) 2 2) _ 3 3 [0, 27, 36] _ (by omega) (by unfold maxLen; omega) hC.1 hC.2 (by unfold maxLen; omega) (by exact Rd.blkN (Blk.new w1 3 #[.int .i64 0, .int .i64 27, .int .i64 36]) rfl (by rw [World.size_alloc]; omega)) (fun _ => by rw [vDif]; omega)).mono ?_; rintro e w2 ⟨v, rfl, ⟨AP, nP, cP, rfl, hp1, hp2, hPl1⟩, hb⟩; rw [vPlanE]; rw [vPlanL] at hPl1; obtain rfl : nP = 1 := (hPl1.len).symm; (try replace hF := hF.below hb hF.lt); (try replace hG := hG.below hb hG.lt); (try replace hC := hC.below hb); (try replace hSh := (hSh.below hb).more hb.size); (try replace hTo := (hTo.below hb).more hb.size); (try replace hWh := (hWh.below hb).more hb.size); (try replace hD := (hD.below hb).more hb.size); (try replace hPl := (hPl.below hb).more hb.size); (try replace hBk := hBk.below hb); (try replace gX := gX.below hb gX.lt); replace hB := hB.trans (hb.mono hB.size); clear hb; have hPl := hPl1; clear hPl1)
    | (go_at_call 85; refine (readText m _ (hmB _ hB)).mono ?_; rintro e w3 ⟨g8, c8, g4, c4, rfl, hBk, hb⟩; (try replace hF := hF.below hb hF.lt); (try replace hG := hG.below hb hG.lt); (try replace hC := hC.below hb); (try replace hSh := (hSh.below hb).more hb.size); (try replace hTo := (hTo.below hb).more hb.size); (try replace hWh := (hWh.below hb).more hb.size); (try replace hD := (hD.below hb).more hb.size); (try replace hPl := (hPl.below hb).more hb.size); (try replace hBk := hBk.below hb); (try replace gX := gX.below hb gX.lt); replace hB := hB.trans (hb.mono hB.size); clear hb))
  have gX := Blk.new w3 121 #[.int .i64 1, .int .i64 1, .int .i64 2, .int .i64 0, .int .i64 0, .int .i64 0, .slice (some ⟨g8, 0, none⟩) 1 c8]
  have hba := (Below.refl w3.heap.size w3).alloc (Nat.le_refl _) (.cells #[.int .i64 1, .int .i64 1, .int .i64 2, .int .i64 0, .int .i64 0, .int .i64 0, .slice (some ⟨g8, 0, none⟩) 1 c8] 121)
  replace hC := hC.below hba; replace hSh := (hSh.below hba).more hba.size; replace hTo := (hTo.below hba).more hba.size; replace hWh := (hWh.below hba).more hba.size; replace hPl := (hPl.below hba).more hba.size; replace hBk := hBk.below hba; replace hB := hB.trans (hba.mono hB.size)
  clear hba
  generalize w3.alloc (.cells #[.int .i64 1, .int .i64 1, .int .i64 2, .int .i64 0, .int .i64 0, .int .i64 0, .slice (some ⟨g8, 0, none⟩) 1 c8] 121) = W at *
  obtain ⟨sb, soff, rfl, hsb, hsc⟩ := hSh.2 (by omega)
  have hs1 := hsc 1 _ vSh1
  have hs5 := hsc 5 _ vSh5
  clear hsc hSh
  go_wp2_with (first
    | (go_at_call 71; have hx := hTo; clear hx; have hba := (Below.refl W.heap.size W).alloc (Nat.le_refl _) (.cells #[.int .i64 0] 3); (try replace hF := hF.below hba hF.lt); (try replace hG := hG.below hba hG.lt); (try replace hC := hC.below hba); (try replace hSh := (hSh.below hba).more hba.size); (try replace hTo := (hTo.below hba).more hba.size); (try replace hWh := (hWh.below hba).more hba.size); (try replace hD := (hD.below hba).more hba.size); (try replace hPl := (hPl.below hba).more hba.size); (try replace hBk := hBk.below hba); (try replace gX := gX.below hba gX.lt); replace hB := hB.trans (hba.mono hB.size); clear hba; refine (Same_any ATo (some ⟨W.heap.size, 0, none⟩) 1 1 cTo 1 [0] [0] _ (by unfold maxLen; omega) (by unfold maxLen; omega) (by exact hTo) (by exact Rd.blkN (Blk.new W 3 #[.int .i64 0]) rfl (by rw [World.size_alloc]; omega))).mono ?_; rintro e W ⟨rfl, hb⟩; rw [show sameL [0] [0] = true from rfl]; (try replace hF := hF.below hb hF.lt); (try replace hG := hG.below hb hG.lt); (try replace hC := hC.below hb); (try replace hSh := (hSh.below hb).more hb.size); (try replace hTo := (hTo.below hb).more hb.size); (try replace hWh := (hWh.below hb).more hb.size); (try replace hD := (hD.below hb).more hb.size); (try replace hPl := (hPl.below hb).more hb.size); (try replace hBk := hBk.below hb); (try replace gX := gX.below hb gX.lt); replace hB := hB.trans (hb.mono hB.size); clear hb; clear hTo)
    | (go_at_call 59; have hx := hWh; clear hx; have hba := (Below.refl W.heap.size W).alloc (Nat.le_refl _) (.cells #[.int .i64 3, .int .i64 1] 57); (try replace hF := hF.below hba hF.lt); (try replace hG := hG.below hba hG.lt); (try replace hC := hC.below hba); (try replace hSh := (hSh.below hba).more hba.size); (try replace hTo := (hTo.below hba).more hba.size); (try replace hWh := (hWh.below hba).more hba.size); (try replace hD := (hD.below hba).more hba.size); (try replace hPl := (hPl.below hba).more hba.size); (try replace hBk := hBk.below hba); (try replace gX := gX.below hba gX.lt); replace hB := hB.trans (hba.mono hB.size); clear hba; refine (SameWords_any AW (some ⟨W.heap.size, 0, none⟩) 2 2 cW 2 [3, 1] [3, 1] _ (by unfold maxLen; omega) (by unfold maxLen; omega) (by exact hWh) (by exact Rd.blkN (Blk.new W 57 #[.int .i64 3, .int .i64 1]) rfl (by rw [World.size_alloc]; omega))).mono ?_; rintro e W ⟨rfl, hb⟩; rw [show sameL [3, 1] [3, 1] = true from rfl]; (try replace hF := hF.below hb hF.lt); (try replace hG := hG.below hb hG.lt); (try replace hC := hC.below hb); (try replace hSh := (hSh.below hb).more hb.size); (try replace hTo := (hTo.below hb).more hb.size); (try replace hWh := (hWh.below hb).more hb.size); (try replace hD := (hD.below hb).more hb.size); (try replace hPl := (hPl.below hb).more hb.size); (try replace hBk := hBk.below hb); (try replace gX := gX.below hb gX.lt); replace hB := hB.trans (hb.mono hB.size); clear hb; clear hWh)
    | (go_at_call 71; have hx := hPl; clear hx; have hba := (Below.refl W.heap.size W).alloc (Nat.le_refl _) (.cells #[.int .i64 36] 3); (try replace hF := hF.below hba hF.lt); (try replace hG := hG.below hba hG.lt); (try replace hC := hC.below hba); (try replace hSh := (hSh.below hba).more hba.size); (try replace hTo := (hTo.below hba).more hba.size); (try replace hWh := (hWh.below hba).more hba.size); (try replace hD := (hD.below hba).more hba.size); (try replace hPl := (hPl.below hba).more hba.size); (try replace hBk := hBk.below hba); (try replace gX := gX.below hba gX.lt); replace hB := hB.trans (hba.mono hB.size); clear hba; refine (Same_any AP (some ⟨W.heap.size, 0, none⟩) 1 1 cP 1 [36] [36] _ (by unfold maxLen; omega) (by unfold maxLen; omega) (by exact hPl) (by exact Rd.blkN (Blk.new W 3 #[.int .i64 36]) rfl (by rw [World.size_alloc]; omega))).mono ?_; rintro e W ⟨rfl, hb⟩; rw [show sameL [36] [36] = true from rfl]; (try replace hF := hF.below hb hF.lt); (try replace hG := hG.below hb hG.lt); (try replace hC := hC.below hb); (try replace hSh := (hSh.below hb).more hb.size); (try replace hTo := (hTo.below hb).more hb.size); (try replace hWh := (hWh.below hb).more hb.size); (try replace hD := (hD.below hb).more hb.size); (try replace hPl := (hPl.below hb).more hb.size); (try replace hBk := hBk.below hb); (try replace gX := gX.below hb gX.lt); replace hB := hB.trans (hb.mono hB.size); clear hb; clear hPl; have hqX := fun i => gX.cell i; have hlX := gX.lt; have hfg := hBk.fig)
    | (go_at_call 86; go_loud (refine (refPrint_any (fun n => strOfNums [48 + n]) 1 1 2 0 0 0 (some ⟨g8, 0, none⟩) 1 c8 [⟨some ⟨g4, 0, none⟩, 1, c4, [⟨#[35]⟩]⟩] _ (by omega) hfg.1 (fun f hf => by rw [List.mem_singleton] at hf; subst hf; exact figSmall _ _) hfg.2 (fun x _ => by rw [strNum_size]; omega) (fun x hx W' => decimal_small x W' (dig x hx).1 (dig x hx).2) (vPrS _ _)).mono ?_; rintro e W ⟨rfl, hb⟩; rw [vPrint]; (try replace hF := hF.below hb hF.lt); (try replace hG := hG.below hb hG.lt); (try replace hC := hC.below hb); (try replace hSh := (hSh.below hb).more hb.size); (try replace hTo := (hTo.below hb).more hb.size); (try replace hWh := (hWh.below hb).more hb.size); (try replace hD := (hD.below hb).more hb.size); (try replace hPl := (hPl.below hb).more hb.size); (try replace hBk := hBk.below hb); (try replace gX := gX.below hb gX.lt); replace hB := hB.trans (hb.mono hB.size); clear hb)))
  go_ret
  exact ⟨rfl, hB⟩
end
section
open Go.RowKit
theorem hash_any (r : ByteArray) : hashB r = (ltr r).any (fun b => decide (b = 35)) := by
  have hp : (fun b : Int => decide (0 ≤ idxOf b [35] 0)) = fun b => decide (b = 35) := by
    funext b
    by_cases h : b = 35
    · subst h; rfl
    · simp [idxOf, h, Ne.symm h]
  unfold hashB cntL
  rw [hp, Bool.eq_iff_iff, decide_eq_true_eq, List.any_eq_true, List.length_pos_iff_exists_mem]
  simp only [List.mem_filter]
set_option maxRecDepth 1000000 in
set_option maxHeartbeats 1600000 in
theorem refFigure_any (A : Option Addr) (n cap : Nat) (rows : List ByteArray) (w : World) (hn : n ≤ maxLen) (hs : ∀ r ∈ rows, r.size ≤ maxLen) (hr : Rd w w.heap.size 1 A n (rows.map Value.string)) :
    Calls Tryz.prog 28 #[.agg #[.slice A n cap]] w fun e w' => e = .returned (.bool (figB rows)) ∧ Below w.heap.size w w' := by
  have hlen := hr.len
  unfold maxLen at hn
  have hfig : figB rows = (inB n 1 6 && (inB (wdOf rows) 1 6 && (rows.all (rowB (wdOf rows)) && rows.any hashB))) := by rw [figB, hlen]
  have HF := Lib.hid hfig; clear hfig
  cases h1 : inB n 1 6
  · go_enter Tryz.func28, Tryz.ntmps28
    go_wp2_with (go_at_call 99; refine (in_any _ _ _ _).mono ?_; rintro e w' ⟨rfl, rfl⟩; rw [h1])
    go_ret
    exact ⟨ret_bool (by rw [HF.out, h1]; rfl), (Below.refl _ _).alloc (Nat.le_refl _) _⟩
  · have hn0 : 0 < n ∧ n ≤ 6 := by simp [inB] at h1; omega
    obtain ⟨hn1, hn6⟩ := hn0
    have hlt0 : 0 < rows.length := by omega
    obtain ⟨b, off, rfl, hb, hc⟩ := hr.2 hn1
    have hc0 := hc 0 (.string rows[0]) (by simp [hlt0])
    rw [Nat.add_zero] at hc0
    have hwd : wdOf rows = rows[0].size := by cases rows with | nil => simp at hlt0 | cons a l => rfl
    have hs0 := hs _ (List.getElem_mem hlt0)
    obtain ⟨r0, hr0⟩ : ∃ r0, r0 = rows[0] := ⟨_, rfl⟩
    rw [← hr0] at hc0 hwd hs0
    unfold maxLen at hs0
    rw [hwd] at HF
    clear hr0 hwd
    cases h2 : inB r0.size 1 6
    · go_enter Tryz.func28, Tryz.ntmps28
      go_wp2_with (go_at_call 99; refine (in_any _ _ _ _).mono ?_; rintro e w' ⟨rfl, rfl⟩; (first | rw [h1] | rw [h2]))
      go_ret
      exact ⟨ret_bool (by rw [HF.out, h1, h2]; rfl), (Below.refl _ _).alloc (Nat.le_refl _) _⟩
    · go_enter Tryz.func28, Tryz.ntmps28
      go_wp2_with (go_at_call 99; refine (in_any _ _ _ _).mono ?_; rintro e w' ⟨rfl, rfl⟩; (first | rw [h1] | rw [h2]))
      have hbf := Blk.new w 26 #[.slice (some ⟨b, off, none⟩) n cap]
      go_loopg [3, 4] n (fun g t i wr => ∃ k : Nat, g = n - k ∧ k ≤ n ∧ i = .int .i64 k ∧ t = .bool ((rows.take k).any hashB) ∧ (rows.drop k).all (rowB r0.size) = rows.all (rowB r0.size) ∧ Below w.heap.size w wr ∧ Blk wr w.heap.size 26 #[.slice (some ⟨b, off, none⟩) n cap])
      case atStart => exact ⟨0, rfl, Nat.zero_le _, rfl, rfl, rfl, (Below.refl _ _).alloc (Nat.le_refl _) _, hbf⟩
      case round =>
        clear hbf
        obtain ⟨k, hg, hk, rfl, rfl, hall, hB, hbf⟩ := hrel
        have HG := Lib.hid hg; clear hg
        have hcf := fun i => hbf.cell i
        have hlf := hbf.lt
        have hcr0 := (hB.cell (p := ⟨b, off, none⟩) hb).trans hc0
        by_cases hlt : k < n
        · have hkr : k < rows.length := by omega
          have hck := (hB.cell (p := ⟨b, off + k, none⟩) hb).trans (hc k (.string rows[k]) (by simp [hkr]))
          have hsk := hs _ (List.getElem_mem hkr)
          have hd := all_drop (rowB r0.size) rows k hkr
          rw [hall] at hd
          have hy := any_take hashB rows k hkr
          generalize rows[k] = rk at *
          unfold maxLen at hsk
          have HD := Lib.hid hd; have HY := Lib.hid hy; clear hd hy hall
          generalize hacc : (rows.take k).any hashB = acc at *
          have HACC := Lib.hid hacc; clear hacc
          by_cases hq : (rk.size : Int) = r0.size
          · have hne : ((rk.size : Int) != r0.size) = false := by simp [hq]
            have hbb := fun p i => blw_blk hbf p i
            have hbc : ∀ p : Blw wr.heap.size wr, p.toW.cell? ⟨b, off + k, none⟩ = some (.string rk) := fun p => (p.h.cell (p := ⟨b, off + k, none⟩) (Nat.lt_of_lt_of_le hb hB.size)).trans hck
            have hb0 : ∀ p : Blw wr.heap.size wr, p.toW.cell? ⟨b, off, none⟩ = some (.string r0) := fun p => (p.h.cell (p := ⟨b, off, none⟩) (Nat.lt_of_lt_of_le hb hB.size)).trans hcr0
            go_upto_region 7 with (fail)
            refine wp_region_blw (by kernel_rfl) (by kernel_rfl) ?_
            repeat (go_big_quiet_step (fail))
            refine wpQuiet_nil ?_
            rintro W3 ⟨⟨_, hb3⟩, rfl⟩
            clear hbb hbc hb0 hcf hcr0
            have hck3 := (hb3.cell (p := ⟨b, off + k, none⟩) (Nat.lt_of_lt_of_le hb hB.size)).trans hck
            replace hbf := hbf.below hb3 hlf
            replace hB := hB.trans (hb3.mono hB.size)
            clear hb3 hlf hck
            have hcf := fun i => hbf.cell i
            have hlf := hbf.lt
            go_wp2_with (fail)
            go_loop [3, 5] (fun t i => ∃ q : Nat, q ≤ rk.size ∧ i = .int .i64 q ∧ t = .bool (acc || ((ltr rk).take q).any (fun b => decide (b = 35))) ∧ ((ltr rk).drop q).all (fun b => decide (b ∈ [(35 : Int), 46])) = onlyB rk [35, 46]) (fun _ i => rk.size - (intOf i).toNat)
            case atStart => exact ⟨0, Nat.zero_le _, rfl, by simp, rfl⟩
            case round =>
              obtain ⟨q, hq2, rfl, rfl, hal⟩ := hrel
              by_cases hqt : q < rk.size
              · have hd := all_drop (fun b : Int => decide (b ∈ [(35 : Int), 46])) (ltr rk) q (by rw [ltr_len]; exact hqt)
                rw [hal, ltr_at rk q hqt] at hd
                have hy := any_take (fun b : Int => decide (b = 35)) (ltr rk) q (by rw [ltr_len]; exact hqt)
                rw [ltr_at rk q hqt] at hy
                generalize hm : ((ltr rk).take q).any (fun b => decide (b = 35)) = met at *
                have HM := Lib.hid hm; clear hm
                generalize hbb : rk[q].toNat = bb at *
                have HBB := Lib.hid hbb
                have HDD := Lib.hid hd; have HYY := Lib.hid hy; clear hd hy hal
                cases acc <;> cases met
                all_goals
                  by_cases h35 : bb = 35
                  · subst h35
                    go_wp2_with (fail)
                    go_round
                    case rel => exact ⟨q + 1, by omega, by go_num, by rw [HYY.out]; simp, by rw [HDD.out]; simp⟩
                    case measure => simp [intOf]; omega
                  · by_cases h46 : bb = 46
                    · subst h46
                      go_wp2_with (fail)
                      go_round
                      case rel => exact ⟨q + 1, by omega, by go_num, by rw [HYY.out]; simp, by rw [HDD.out]; simp⟩
                      case measure => simp [intOf]; omega
                    · have hno : decide ((bb : Int) ∈ [(35 : Int), 46]) = false := by simp; omega
                      have HNO := Lib.hid hno; clear hno
                      have e1 : ((bb : Int) == 35) = false := by simp; omega
                      have e2 : ((bb : Int) != 35) = true := by simp; omega
                      have e3 : ((bb : Int) != 46) = true := by simp; omega
                      go_wp2_with (fail)
                      go_ret
                      exact ⟨ret_bool (by rw [HF.out, HD.out, rowB, HDD.out, HNO.out]; simp), hB⟩
              · have hqe : q = rk.size := by omega
                have hdr : (ltr rk).drop q = [] := List.drop_of_length_le (by rw [ltr_len]; omega)
                have htk : (ltr rk).take q = ltr rk := List.take_of_length_le (by rw [ltr_len]; omega)
                rw [hdr] at hal
                rw [htk, ← hash_any]
                have HAL := Lib.hid hal; clear hal hdr htk
                go_wp2_with (fail)
                go_roundg (n - (k + 1))
                case measure => rw [HG.out]; omega
                case rel =>
                  have hrt : rowB r0.size rk = true := by rw [rowB, ← HAL.out]; simp; omega
                  exact ⟨k + 1, rfl, by omega, by go_num, by rw [HY.out], by rw [HD.out, hrt]; rfl, hB, hbf⟩
          · have hne : ((rk.size : Int) != r0.size) = true := by simp; omega
            have hrf : rowB r0.size rk = false := by rw [rowB, decide_eq_false (by omega)]; rfl
            have HRF := Lib.hid hrf; clear hrf
            have hbb := fun p i => blw_blk hbf p i
            have hbc : ∀ p : Blw wr.heap.size wr, p.toW.cell? ⟨b, off + k, none⟩ = some (.string rk) := fun p => (p.h.cell (p := ⟨b, off + k, none⟩) (Nat.lt_of_lt_of_le hb hB.size)).trans hck
            have hb0 : ∀ p : Blw wr.heap.size wr, p.toW.cell? ⟨b, off, none⟩ = some (.string r0) := fun p => (p.h.cell (p := ⟨b, off, none⟩) (Nat.lt_of_lt_of_le hb hB.size)).trans hcr0
            go_upto_region 7 with (fail)
            refine wp_region_blw (by kernel_rfl) (by kernel_rfl) ?_
            repeat (go_big_quiet_step (fail))
            refine wpQuiet_nil ?_
            rintro W3 ⟨⟨_, hb3⟩, rfl⟩
            replace hB := hB.trans (hb3.mono hB.size)
            clear hbb hbc hb0
            go_wp2_with (fail)
            go_ret
            exact ⟨ret_bool (by rw [HF.out, HD.out, HRF.out]; simp), hB⟩
        · have hkn : k = n := by omega
          subst hkn
          have hd : rows.drop k = [] := List.drop_of_length_le (by omega)
          have ht : rows.take k = rows := List.take_of_length_le (by omega)
          rw [hd] at hall
          rw [ht]
          have HALL := Lib.hid hall; clear hall hd ht
          go_wp2_with (fail)
          go_ret
          exact ⟨ret_bool (by rw [HF.out, h1, h2, ← HALL.out]; rfl), hB⟩
end
section
open Go.RowKit
/-- Figures that are as defined, at most six. -/
def figsB (fs : List Fig) : Bool := (fs.all fun f => figB f.rows) && decide (fs.length ≤ 6)
set_option maxRecDepth 100000 in
set_option maxHeartbeats 1600000 in
theorem refFigures_any (A : Option Addr) (n cap : Nat) (fs : List Fig) (w : World) (hn : n ≤ maxLen) (hf : ∀ f ∈ fs, f.ok w w.heap.size) (hr : Rd w w.heap.size 1 A n (fs.map Fig.val)) :
    Calls Tryz.prog 41 #[.slice A n cap] w fun e w' => e = .returned (.bool (figsB fs)) ∧ Below w.heap.size w w' := by
  have hlen := hr.len
  unfold maxLen at hn
  have HF := Lib.hid (show figsB fs = ((fs.all fun f => figB f.rows) && decide (n ≤ 6)) by rw [figsB, hlen])
  have HLEN := Lib.hid hlen; clear hlen
  go_enter Tryz.func41, Tryz.ntmps41
  go_wp2
  go_loopg [3] n (fun g i wr => ∃ k : Nat, g = n - k ∧ k ≤ n ∧ k ≤ 6 ∧ i = .int .i64 k ∧ (fs.take k).all (fun f => figB f.rows) = true ∧ Below w.heap.size w wr)
  case atStart => exact ⟨0, rfl, Nat.zero_le _, Nat.zero_le _, rfl, rfl, Below.refl _ _⟩
  case round =>
    obtain ⟨k, hg, hk, hk6, rfl, hall, hB⟩ := hrel
    have HG := Lib.hid hg; clear hg
    have HALL := Lib.hid hall; clear hall
    by_cases hlt : k < n
    · by_cases h6 : k < 6
      · obtain ⟨b, off, hzk, rfl, hb, hc⟩ := (hr.below hB).atm hlt
        have ha := all_take (fun f : Fig => figB f.rows) fs k hzk
        have hstop := all_stop (fun f : Fig => figB f.rows) fs k hzk
        have hok := ((hf _ (List.getElem_mem hzk)).below hB).more hB.size
        generalize fs[k] = f at *
        obtain ⟨fA, fn, fcap, frows⟩ := f
        simp only [Fig.val] at hc
        obtain ⟨hf1, hf2, hf3, hfr⟩ := hok
        have hfn : fn ≤ maxLen := Nat.le_trans hf1 hf2
        have HA := Lib.hid ha; have HST := Lib.hid hstop; clear ha hstop
        cases hh : figB frows
        all_goals
          go_wp2_with (go_at_call 28; refine (refFigure_any fA fn fcap frows _ hfn hf3 hfr).mono ?_; rintro e w1 ⟨rfl, hb1⟩; rw [hh])
        · go_ret
          exact ⟨ret_bool (by rw [HF.out, HST.out hh]; simp), hB.trans (hb1.mono hB.size)⟩
        · go_roundg (n - (k + 1))
          case measure => rw [HG.out]; omega
          case rel => exact ⟨k + 1, rfl, by omega, by omega, by go_num, by rw [HA.out, HALL.out]; exact hh, hB.trans (hb1.mono hB.size)⟩
      · have hgt : ¬ (n : Int) ≤ 6 := by omega
        have hgtn : ¬ n ≤ 6 := by omega
        have h6i : ¬ (k : Int) < 6 := by omega
        go_wp2
        go_ret
        exact ⟨ret_bool (by rw [HF.out, decide_eq_false hgtn, Bool.and_false]), hB⟩
    · obtain rfl : k = n := by omega
      have hta : fs.take k = fs := List.take_of_length_le (by have := HLEN.out; omega)
      rw [hta] at HALL
      have hle : (k : Int) ≤ 6 := by omega
      go_wp2
      go_ret
      exact ⟨ret_bool (by rw [HF.out, HALL.out, decide_eq_true hk6]; rfl), hB⟩
theorem compB_figs (fs : List Fig) : compB fs = (decide (0 < fs.length) && figsB fs) := by
  unfold compB figsB
  by_cases h0 : 0 < fs.length <;> by_cases h6 : fs.length ≤ 6
  · have : inB fs.length 1 6 = true := by simp [inB]; omega
    rw [this, decide_eq_true h0, decide_eq_true h6]; simp
  · have : inB fs.length 1 6 = false := by simp [inB]; omega
    rw [this, decide_eq_false h6]; simp
  · have : inB fs.length 1 6 = false := by simp [inB]; omega
    rw [this, decide_eq_false h0]; simp
  · have : inB fs.length 1 6 = false := by simp [inB]; omega
    rw [this, decide_eq_false h0]; simp
set_option maxRecDepth 100000 in
theorem Company_any (A : Option Addr) (n cap : Nat) (fs : List Fig) (w : World) (hn : n ≤ maxLen) (hf : ∀ f ∈ fs, f.ok w w.heap.size) (hr : Rd w w.heap.size 1 A n (fs.map Fig.val)) :
    Calls Tryz.prog 119 #[.slice A n cap] w fun e w' => e = .returned (.bool (compB fs)) ∧ Below w.heap.size w w' := by
  have hlen := hr.len
  have HC := Lib.hid (show compB fs = (decide (0 < n) && figsB fs) by rw [compB_figs, hlen])
  by_cases h0 : 0 < n
  · have h0i : (0 : Int) < n := by omega
    go_enter Tryz.func119, Tryz.ntmps119
    go_wp2_with (go_at_call 41; refine (refFigures_any A n cap fs _ hn hf hr).mono ?_; rintro e w1 ⟨rfl, hb1⟩)
    go_ret
    exact ⟨ret_bool (by rw [HC.out, decide_eq_true h0]; rfl), hb1⟩
  · have h0i : ¬ (0 : Int) < n := by omega
    go_enter Tryz.func119, Tryz.ntmps119
    go_wp2
    go_ret
    exact ⟨ret_bool (by rw [HC.out, decide_eq_false h0]; rfl), Below.refl _ _⟩
end
section
open Go.RowKit
/-- Values that are slices of a call's own, each with the rows of a cloth. -/
def Cloths (w : World) (base : Nat) (vs : List Value) (cls : List (List ByteArray)) : Prop := vs.length = cls.length ∧ ∀ i (h : i < vs.length) (h2 : i < cls.length), w.ownsRow base 9 1 vs[i] cls[i].length (cls[i].map Value.string)
theorem Cloths.nil (w : World) (base : Nat) : Cloths w base [] [] := ⟨rfl, fun i h => absurd h (by simp)⟩
theorem Cloths.below {w w' : World} {base : Nat} {vs : List Value} {cls : List (List ByteArray)} (h : Cloths w base vs cls) (hb : Below w.heap.size w w') : Cloths w' base vs cls := ⟨h.1, fun i h1 h2 => ownsRow_below' (h.2 i h1 h2) hb⟩
theorem Cloths.alloc {w : World} {base : Nat} {vs : List Value} {cls : List (List ByteArray)} (h : Cloths w base vs cls) (o : Obj) : Cloths (w.alloc o) base vs cls := ⟨h.1, fun i h1 h2 => (h.2 i h1 h2).alloc o⟩
theorem Cloths.drew {w : World} {base : Nat} {vs : List Value} {cls : List (List ByteArray)} (h : Cloths w base vs cls) : Cloths w.drew base vs cls := ⟨h.1, fun i h1 h2 => (h.2 i h1 h2).drew⟩
theorem Cloths.kept {w w' : World} {base b' s' n' : Nat} {e' : TypeId} {v' : Value} {xs' : List Value} {vs : List Value} {cls : List (List ByteArray)} (h : Cloths w base vs cls) (hr : w.ownsRow b' e' s' v' n' xs') (hne : 9 ≠ e') (hg : w.grownBy w' v'.ownBlock) : Cloths w' base vs cls :=
  ⟨h.1, fun i h1 h2 => (h.2 i h1 h2).kept hg (own_ne (h.2 i h1 h2) hr hne)⟩
theorem Cloths.snoc {w : World} {base : Nat} {vs : List Value} {cls : List (List ByteArray)} {v : Value} {c : List ByteArray} (h : Cloths w base vs cls) (hv : w.ownsRow base 9 1 v c.length (c.map Value.string)) : Cloths w base (vs ++ [v]) (cls ++ [c]) := by
  refine ⟨by simp [h.1], fun i h1 h2 => ?_⟩
  rcases Nat.lt_or_ge i vs.length with hi | hi
  · have := h.2 i hi (by rw [← h.1]; exact hi)
    rw [List.getElem_append_left hi]
    have e : (cls ++ [c])[i] = cls[i]'(by rw [← h.1]; exact hi) := List.getElem_append_left _
    rw [e]; exact this
  · have hi2 : i = vs.length := by simp at h1; omega
    subst hi2
    have e1 : (vs ++ [v])[vs.length] = v := by simp
    have e2 : (cls ++ [c])[vs.length] = c := by simp [h.1]
    rw [e1, e2]; exact hv
end
end Go.Proofs.YtifddfchpknkbaaGreatDoor
