import Derived.Test.YtekmnelpkogppaaGreatDoorProg
import Derived.Test.YtekmnelpkogppaaGreatDoorShelf
import Derived.Test.YtekmnelpkogppaaGreatDoorKw0
import Derived.Test.YtekmnelpkogppaaGreatDoorKw1
import Derived.Test.YtekmnelpkogppaaGreatDoorKw2
import Derived.Test.YtekmnelpkogppaaGreatDoorKw3
import Derived.Test.YtekmnelpkogppaaGreatDoorKw4
import Derived.Test.YtekmnelpkogppaaGreatDoorKw5
import Derived.Test.YtekmnelpkogppaaGreatDoorKw6
import Derived.Test.YtekmnelpkogppaaGreatDoorKw7
import Derived.Test.YtekmnelpkogppaaGreatDoorKw8
import Derived.Test.YtekmnelpkogppaaGreatDoorKw9
import Derived.Test.YtekmnelpkogppaaGreatDoorKw10
import Derived.Test.YtekmnelpkogppaaGreatDoorKw11
import Derived.Lib.Hide
import Derived.WalkKit
import Derived.WalkSpells
import Derived.WalkLawsBesides
import Derived.BigQuiet
import Derived.Deep.QuietTactic
import Derived.Deep.DeepFit
import Derived.Deep.DeepMust
import Derived.Maps.AppendAt
import Derived.Deep.AppendLies
import Derived.RegionTactic
import Derived.OwnWalk
import Derived.Laws.EntriesVeiled
import Derived.OrdersHeld
import Derived.Deep.LoopGhost
import Derived.Deep.DeepCutAuto
import Derived.Deep.CutBlock
import Derived.Deep.RegionHeld3
import Derived.OneCell
import Derived.Laws.BytesArg
import Derived.Laws.RangeAny
import Derived.Laws.Runes
import Derived.LoopTactic
import Derived.WalkMore
import Derived.Maps.OwnOps
import Derived.Maps.OwnSet
import Derived.Laws.MakeOwn
import Derived.RangeFuncNested
import Derived.RangeFuncBound
import Derived.RangeFuncCalls
import Derived.RangeFuncLeaves
import Derived.Shelf.Abstract
import Derived.OwnWalkIn
import Derived.TacticsInMore
import Derived.LoopNIn
import Derived.LoopIn
import Derived.Sort.LoopGhostIn
import Derived.Recover
import Derived.Laws.OwnMore
import Derived.Lib.OwnBridge
import Derived.Sort.Walk7a
import Derived.Lib.ItoaNum
import Derived.Laws.Bits64b
import Derived.Laws.IdiomStrings
import Derived.ProofKit
import Derived.Carry
import Derived.HandedShaped
import Derived.Deep.Strs
import Derived.Deep.Fields
import Derived.OpenShut
import Derived.Deep.Slices
import Derived.Lib.LaidTab
import Derived.Lib.SplitLaws
import Derived.MakeChecks
import Derived.Lib.ConvBytes
import Derived.Lib.Repeat
import Derived.Lib.Join
import Derived.Lib.SlicesS
import Derived.Shelf.SlicesE.Kit
import Derived.DeepKeys4
import Derived.Defers
import Derived.Lib.AppendZerosOnto
import Derived.Lib.SliceRun
set_option linter.unusedVariables false
set_option linter.unusedSimpArgs false
set_option maxRecDepth 100000
set_option maxHeartbeats 40000000
namespace Go.Proofs.YtekmnelpkogppaaGreatDoor
section
section
variable {α : Type} [DecidableEq α]
end
section
variable {α : Type} [DecidableEq α]
end
theorem ed_map {α β : Type} [DecidableEq α] [DecidableEq β] (f : α → β) : ∀ (a b : List α), (∀ x ∈ a, ∀ y ∈ b, f x = f y → x = y) → ed (a.map f) (b.map f) = ed a b
 | [], b, _ => by simp [ed_nil]
 | x :: xs, b, h => by
  have ih := fun b hb => ed_map f xs b hb
  induction b with
  | nil => simp [ed_nil_r]
  | cons y ys ihb =>
   rw [List.map_cons, List.map_cons, ed_cons, ed_cons, ← List.map_cons, ← List.map_cons]
   rw [ih ys (fun p hp q hq => h p (by simp [hp]) q (by simp [hq])), ih (y :: ys) (fun p hp q hq => h p (by simp [hp]) q hq), ihb (fun p hp q hq => h p hp q (by simp [hq]))]
   by_cases e : x = y
   ·rw [if_pos e, if_pos (by rw [e])]
   ·rw [if_neg e, if_neg (fun e2 => e (h x (by simp) y (by simp) e2))]
end
section
open Go.RowKit Go.Lib Go.Maps
theorem refChanges_any (s : Nat) : ∀ (A : Option Addr) (n cap : Nat) (xs : List Int) (A2 : Option Addr) (n2 cap2 : Nat) (ys : List Int) (w : World), n + n2 ≤ s → n ≤ 1000 → n2 ≤ 1000 → n ≤ cap → n2 ≤ cap2 → Rd w w.heap.size 1 A n (xs.map (Value.int .i64)) → Rd w w.heap.size 1 A2 n2 (ys.map (Value.int .i64)) →
  Calls Tryz.prog 29 #[.slice A n cap, .slice A2 n2 cap2] w fun e w' => e = .returned (.int .i64 (ed xs ys : Nat)) ∧ Below w.heap.size w w' := by
 induction s using Nat.strongRecOn with
 | ind s ih =>
 intro A n cap xs A2 n2 cap2 ys w hs hn hn2 hc hc2 hr hr2
 have hl1 : xs.length = n := by simpa using hr.len
 have hl2 : ys.length = n2 := by simpa using hr2.len
 match xs, ys, hl1, hl2 with
 | [], ys, hl1, hl2 =>
  obtain rfl : n = 0 := hl1.symm
  have he : ((ed ([] : List Int) ys : Nat) : Int) = n2 := by rw [ed_nil, hl2]
  rw [he]
  clear he ih
  go_enter Tryz.func29, Tryz.ntmps29
  go_wp2_with (fail)
  go_ret
  exact ⟨rfl, Below.refl _ _⟩
 | x :: xs, [], hl1, hl2 =>
  obtain rfl : n2 = 0 := hl2.symm
  have he : ((ed (x :: xs) ([] : List Int) : Nat) : Int) = n := by rw [ed_nil_r, hl1]
  have hn0 : ((n : Int) == 0) = false := by rw [beq_eq_false_iff_ne]; simp at hl1; omega
  rw [he]
  clear he ih
  go_enter Tryz.func29, Tryz.ntmps29
  go_wp2_with (fail)
  go_ret
  exact ⟨rfl, Below.refl _ _⟩
 | x :: xs, y :: ys, hl1, hl2 =>
  simp only [List.length_cons] at hl1 hl2
  obtain ⟨b, off, hz, rfl, hb, hcell⟩ := hr.atm (show 0 < n by omega)
  obtain ⟨b2, off2, hz2, rfl, hb2, hcell2⟩ := hr2.atm (show 0 < n2 by omega)
  simp only [List.getElem_cons_zero, Nat.add_zero] at hcell hcell2
  have hni : (0 : Int) < n := by omega
  have hn2i : (0 : Int) < n2 := by omega
  have hn0 : ((n : Int) == 0) = false := by rw [beq_eq_false_iff_ne]; omega
  have hn20 : ((n2 : Int) == 0) = false := by rw [beq_eq_false_iff_ne]; omega
  have hd1 := hr.cutA' (k := 1) (m := n) (cap := cap) (by omega) (Nat.le_refl _) hc
  have hd2 := hr2.cutA' (k := 1) (m := n2) (cap := cap2) (by omega) (Nat.le_refl _) hc2
  simp only [List.map_cons, Nat.mul_one, List.drop_succ_cons, List.drop_zero] at hd1 hd2
  rw [List.take_of_length_le (by rw [List.length_map]; omega)] at hd1 hd2
  have hS1 : ∀ w, (Instr.slice 25 (.slice (some ⟨b, off, none⟩) n cap) (some (.int .i64 1)) none none).run Tryz.prog w = .ok (.slice (cutA (some ⟨b, off, none⟩) cap 1 1) (n - 1) (cap - 1)) w := fun w => run_slice_lo (P := Tryz.prog) 25 3 1 Tryz.underlying25 Tryz.sizeOf3 _ n cap .i64 1 (by omega) hc w
  have hS2 : ∀ w, (Instr.slice 25 (.slice (some ⟨b2, off2, none⟩) n2 cap2) (some (.int .i64 1)) none none).run Tryz.prog w = .ok (.slice (cutA (some ⟨b2, off2, none⟩) cap2 1 1) (n2 - 1) (cap2 - 1)) w := fun w => run_slice_lo (P := Tryz.prog) 25 3 1 Tryz.underlying25 Tryz.sizeOf3 _ n2 cap2 .i64 1 (by omega) hc2 w
  have hr1 := fun wx (hx : Below w.heap.size w wx) => ih (n - 1 + (n2 - 1)) (by omega) (cutA (some ⟨b, off, none⟩) cap 1 1) (n - 1) (cap - 1) xs (cutA (some ⟨b2, off2, none⟩) cap2 1 1) (n2 - 1) (cap2 - 1) ys wx (Nat.le_refl _) (by omega) (by omega) (by omega) (by omega) (rdB hd1 hx) (rdB hd2 hx)
  have hr2' := fun wx (hx : Below w.heap.size w wx) => ih (n - 1 + n2) (by omega) (cutA (some ⟨b, off, none⟩) cap 1 1) (n - 1) (cap - 1) xs (some ⟨b2, off2, none⟩) n2 cap2 (y :: ys) wx (Nat.le_refl _) (by omega) (by omega) (by omega) (by omega) (rdB hd1 hx) (rdB hr2 hx)
  have hr3 := fun wx (hx : Below w.heap.size w wx) => ih (n + (n2 - 1)) (by omega) (some ⟨b, off, none⟩) n cap (x :: xs) (cutA (some ⟨b2, off2, none⟩) cap2 1 1) (n2 - 1) (cap2 - 1) ys wx (Nat.le_refl _) (by omega) (by omega) (by omega) (by omega) (rdB hr hx) (rdB hd2 hx)
  have hcc1 : ∀ wx, Below w.heap.size w wx → wx.cell? ⟨b, off, none⟩ = some (.int .i64 x) := fun wx hx => by rw [hx.cell hb]; exact hcell
  have hcc2 : ∀ wx, Below w.heap.size w wx → wx.cell? ⟨b2, off2, none⟩ = some (.int .i64 y) := fun wx hx => by rw [hx.cell hb2]; exact hcell2
  have hb1 := ed_le xs ys
  have hb2' := ed_le xs (y :: ys)
  have hb3 := ed_le (x :: xs) ys
  simp only [List.length_cons] at hb2' hb3
  have heq : ed (x :: xs) (y :: ys) = if x = y then ed xs ys else 1 + min (ed xs ys) (min (ed xs (y :: ys)) (ed (x :: xs) ys)) := rfl
  generalize cutA (some ⟨b, off, none⟩) cap 1 1 = A1 at *
  generalize cutA (some ⟨b2, off2, none⟩) cap2 1 1 = A21 at *
  obtain ⟨D, hD⟩ : ∃ D, D = ed (x :: xs) (y :: ys) := ⟨_, rfl⟩
  rw [← hD] at heq ⊢
  clear hD
  generalize ed xs ys = e1 at *
  generalize ed xs (y :: ys) = e2 at *
  generalize ed (x :: xs) ys = e3 at *
  have HR1 := Lib.hid hr1; have HR2 := Lib.hid hr2'; have HR3 := Lib.hid hr3; have HC1 := Lib.hid hcc1; have HC2 := Lib.hid hcc2; have HEQ := Lib.hid heq
  have hB : Below w.heap.size w w := Below.refl _ _
  clear hr1 hr2' hr3 hcc1 hcc2 heq hcell hcell2 hd1 hd2 hz hz2 ih
  by_cases hxy : x = y
  ·subst hxy
   have HD : Hid (D = e1) := Lib.hid (by rw [HEQ.out, if_pos rfl])
   clear HR2 HR3
   go_enter Tryz.func29, Tryz.ntmps29
   go_upto_region 5 with (fail)
   rename World => WR
   refine wp_region_G (fun _ => True) 6 (by kernel_rfl) ?_
   replace hB := hB.drew
   generalize WR.drew = WD at *
   have hTT : True := trivial
   refine wpG_take2 (i := 0) (v := ?vx1_0) rfl (by kernel_rfl) (by kernel_rfl) (by kernel_rfl) rfl (fun _ _ _ h => h) (Or.inl ⟨by rfl, ?hyx1_0⟩) hTT ?restx1_0
   case hyx1_0 => intro wq hSw; have s1 := hS1; have s2 := hS2; skip; go_simp <;> with_reducible rfl
   simp only [List.getElem_toArray, List.getElem_cons_zero, List.getElem_cons_succ, Act.put, List.setIfInBounds_toArray, List.set_cons_zero, List.set_cons_succ]
   refine wpG_take2 (i := 1) (v := ?vx1_1) rfl (by kernel_rfl) (by kernel_rfl) (by kernel_rfl) rfl (fun _ _ _ h => h) (Or.inl ⟨by rfl, ?hyx1_1⟩) hTT ?restx1_1
   case hyx1_1 => intro wq hSw; have s1 := hS1; have s2 := hS2; skip; go_simp <;> with_reducible rfl
   simp only [List.getElem_toArray, List.getElem_cons_zero, List.getElem_cons_succ, Act.put, List.setIfInBounds_toArray, List.set_cons_zero, List.set_cons_succ]
   refine wpG_take2 (i := 2) (v := ?vx1_2) rfl (by kernel_rfl) (by kernel_rfl) (by kernel_rfl) rfl (fun _ _ _ h => h) (Or.inl ⟨by rfl, ?hyx1_2⟩) hTT ?restx1_2
   case hyx1_2 => intro wq hSw; have s1 := hS1; have s2 := hS2; skip; go_simp <;> with_reducible rfl
   simp only [List.getElem_toArray, List.getElem_cons_zero, List.getElem_cons_succ, Act.put, List.setIfInBounds_toArray, List.set_cons_zero, List.set_cons_succ]
   refine wpG_take2 (i := 3) (v := ?vx1_3) rfl (by kernel_rfl) (by kernel_rfl) (by kernel_rfl) rfl (fun _ _ _ h => h) (Or.inl ⟨by rfl, ?hyx1_3⟩) hTT ?restx1_3
   case hyx1_3 => intro wq hSw; have s1 := hS1; have s2 := hS2; skip; go_simp <;> with_reducible rfl
   simp only [List.getElem_toArray, List.getElem_cons_zero, List.getElem_cons_succ, Act.put, List.setIfInBounds_toArray, List.set_cons_zero, List.set_cons_succ]
   refine wpG_one (i := 4) rfl (by kernel_rfl) (fun K hK => ?_)
   go_simp
   refine (HR1.out _ hB).mono ?_
   rintro e w1 ⟨rfl, hb⟩
   replace hB := hB.trans (hb.mono hB.size); clear hb
   refine hK _ _ (.inr hTT) ?_
   clear hK K
   try simp only [List.getElem_toArray, List.getElem_cons_zero, List.getElem_cons_succ, Act.put, List.setIfInBounds_toArray, List.set_cons_zero, List.set_cons_succ]
   refine wpG_one (i := 5) rfl (by kernel_rfl) (fun K hK => ?_)
   go_simp
   refine hK _ _ (.inr hTT) ?_
   clear hK K
   try simp only [List.getElem_toArray, List.getElem_cons_zero, List.getElem_cons_succ, Act.put, List.setIfInBounds_toArray, List.set_cons_zero, List.set_cons_succ]
   refine wpG_done (by kernel_rfl) ?_ _
   clear hTT
   go_upto_region 6 with (fail)
   rename World => WR
   refine wp_region_G (fun w' => w'.cell? ⟨b, off, none⟩ = some (.int .i64 x) ∧ w'.cell? ⟨b2, off2, none⟩ = some (.int .i64 x)) 7 (by kernel_rfl) ?_
   replace hB := hB.drew
   generalize WR.drew = WD at *
   have hTT : WD.cell? ⟨b, off, none⟩ = some (.int .i64 x) ∧ WD.cell? ⟨b2, off2, none⟩ = some (.int .i64 x) := ⟨HC1.out _ hB, HC2.out _ hB⟩
   refine wpG_take2 (i := 0) (v := ?vx2_0) rfl (by kernel_rfl) (by kernel_rfl) (by kernel_rfl) rfl (fun _ _ _ h => h) (Or.inl ⟨by rfl, ?hyx2_0⟩) hTT ?restx2_0
   case hyx2_0 => intro wq hSw; have q1 := hSw.1; have q2 := hSw.2; have e1 : 0 < n := (by omega); have e2 : 0 < n2 := (by omega); skip; go_simp <;> with_reducible rfl
   simp only [List.getElem_toArray, List.getElem_cons_zero, List.getElem_cons_succ, Act.put, List.setIfInBounds_toArray, List.set_cons_zero, List.set_cons_succ]
   refine wpG_take2 (i := 1) (v := ?vx2_1) rfl (by kernel_rfl) (by kernel_rfl) (by kernel_rfl) rfl (fun _ _ _ h => h) (Or.inl ⟨by rfl, ?hyx2_1⟩) hTT ?restx2_1
   case hyx2_1 => intro wq hSw; have q1 := hSw.1; have q2 := hSw.2; have e1 : 0 < n := (by omega); have e2 : 0 < n2 := (by omega); skip; go_simp <;> with_reducible rfl
   simp only [List.getElem_toArray, List.getElem_cons_zero, List.getElem_cons_succ, Act.put, List.setIfInBounds_toArray, List.set_cons_zero, List.set_cons_succ]
   refine wpG_take2 (i := 2) (v := ?vx2_2) rfl (by kernel_rfl) (by kernel_rfl) (by kernel_rfl) rfl (fun _ _ _ h => h) (Or.inl ⟨by rfl, ?hyx2_2⟩) hTT ?restx2_2
   case hyx2_2 => intro wq hSw; have q1 := hSw.1; have q2 := hSw.2; have e1 : 0 < n := (by omega); have e2 : 0 < n2 := (by omega); skip; go_simp <;> with_reducible rfl
   simp only [List.getElem_toArray, List.getElem_cons_zero, List.getElem_cons_succ, Act.put, List.setIfInBounds_toArray, List.set_cons_zero, List.set_cons_succ]
   refine wpG_take2 (i := 3) (v := ?vx2_3) rfl (by kernel_rfl) (by kernel_rfl) (by kernel_rfl) rfl (fun _ _ _ h => h) (Or.inl ⟨by rfl, ?hyx2_3⟩) hTT ?restx2_3
   case hyx2_3 => intro wq hSw; have q1 := hSw.1; have q2 := hSw.2; have e1 : 0 < n := (by omega); have e2 : 0 < n2 := (by omega); skip; go_simp <;> with_reducible rfl
   simp only [List.getElem_toArray, List.getElem_cons_zero, List.getElem_cons_succ, Act.put, List.setIfInBounds_toArray, List.set_cons_zero, List.set_cons_succ]
   refine wpG_take2 (i := 4) (v := ?vx2_4) rfl (by kernel_rfl) (by kernel_rfl) (by kernel_rfl) rfl (fun _ _ _ h => h) (Or.inl ⟨by rfl, ?hyx2_4⟩) hTT ?restx2_4
   case hyx2_4 => intro wq hSw; have q1 := hSw.1; have q2 := hSw.2; have e1 : 0 < n := (by omega); have e2 : 0 < n2 := (by omega); skip; go_simp <;> with_reducible rfl
   simp only [List.getElem_toArray, List.getElem_cons_zero, List.getElem_cons_succ, Act.put, List.setIfInBounds_toArray, List.set_cons_zero, List.set_cons_succ]
   refine wpG_take2 (i := 5) (v := ?vx2_5) rfl (by kernel_rfl) (by kernel_rfl) (by kernel_rfl) rfl (fun _ _ _ h => h) (Or.inl ⟨by rfl, ?hyx2_5⟩) hTT ?restx2_5
   case hyx2_5 => intro wq hSw; have q1 := hSw.1; have q2 := hSw.2; have e1 : 0 < n := (by omega); have e2 : 0 < n2 := (by omega); skip; go_simp <;> with_reducible rfl
   simp only [List.getElem_toArray, List.getElem_cons_zero, List.getElem_cons_succ, Act.put, List.setIfInBounds_toArray, List.set_cons_zero, List.set_cons_succ]
   refine wpG_one (i := 6) rfl (by kernel_rfl) (fun K hK => ?_)
   go_simp
   refine hK _ _ (.inr hTT) ?_
   clear hK K
   try simp only [List.getElem_toArray, List.getElem_cons_zero, List.getElem_cons_succ, Act.put, List.setIfInBounds_toArray, List.set_cons_zero, List.set_cons_succ]
   refine wpG_done (by kernel_rfl) ?_ _
   clear hTT
   go_wp2_with (fail)
   go_ret
   exact ⟨by rw [HD.out]; rfl, hB⟩
  ·have HD : Hid (D = 1 + min e1 (min e2 e3)) := Lib.hid (by rw [HEQ.out, if_neg hxy])
   have hw1 : IntKind.i64.wrap (1 + (e1 : Int)) = 1 + (e1 : Int) := IntWalk.i64_in _ (by omega)
   have hw2 : IntKind.i64.wrap (1 + (e2 : Int)) = 1 + (e2 : Int) := IntWalk.i64_in _ (by omega)
   have hw3 : IntKind.i64.wrap (1 + (e3 : Int)) = 1 + (e3 : Int) := IntWalk.i64_in _ (by omega)
   go_enter Tryz.func29, Tryz.ntmps29
   go_upto_region 5 with (fail)
   rename World => WR
   refine wp_region_G (fun _ => True) 6 (by kernel_rfl) ?_
   replace hB := hB.drew
   generalize WR.drew = WD at *
   have hTT : True := trivial
   refine wpG_take2 (i := 0) (v := ?vx3_0) rfl (by kernel_rfl) (by kernel_rfl) (by kernel_rfl) rfl (fun _ _ _ h => h) (Or.inl ⟨by rfl, ?hyx3_0⟩) hTT ?restx3_0
   case hyx3_0 => intro wq hSw; have s1 := hS1; have s2 := hS2; skip; go_simp <;> with_reducible rfl
   simp only [List.getElem_toArray, List.getElem_cons_zero, List.getElem_cons_succ, Act.put, List.setIfInBounds_toArray, List.set_cons_zero, List.set_cons_succ]
   refine wpG_take2 (i := 1) (v := ?vx3_1) rfl (by kernel_rfl) (by kernel_rfl) (by kernel_rfl) rfl (fun _ _ _ h => h) (Or.inl ⟨by rfl, ?hyx3_1⟩) hTT ?restx3_1
   case hyx3_1 => intro wq hSw; have s1 := hS1; have s2 := hS2; skip; go_simp <;> with_reducible rfl
   simp only [List.getElem_toArray, List.getElem_cons_zero, List.getElem_cons_succ, Act.put, List.setIfInBounds_toArray, List.set_cons_zero, List.set_cons_succ]
   refine wpG_take2 (i := 2) (v := ?vx3_2) rfl (by kernel_rfl) (by kernel_rfl) (by kernel_rfl) rfl (fun _ _ _ h => h) (Or.inl ⟨by rfl, ?hyx3_2⟩) hTT ?restx3_2
   case hyx3_2 => intro wq hSw; have s1 := hS1; have s2 := hS2; skip; go_simp <;> with_reducible rfl
   simp only [List.getElem_toArray, List.getElem_cons_zero, List.getElem_cons_succ, Act.put, List.setIfInBounds_toArray, List.set_cons_zero, List.set_cons_succ]
   refine wpG_take2 (i := 3) (v := ?vx3_3) rfl (by kernel_rfl) (by kernel_rfl) (by kernel_rfl) rfl (fun _ _ _ h => h) (Or.inl ⟨by rfl, ?hyx3_3⟩) hTT ?restx3_3
   case hyx3_3 => intro wq hSw; have s1 := hS1; have s2 := hS2; skip; go_simp <;> with_reducible rfl
   simp only [List.getElem_toArray, List.getElem_cons_zero, List.getElem_cons_succ, Act.put, List.setIfInBounds_toArray, List.set_cons_zero, List.set_cons_succ]
   refine wpG_one (i := 4) rfl (by kernel_rfl) (fun K hK => ?_)
   go_simp
   refine (HR1.out _ hB).mono ?_
   rintro e w1 ⟨rfl, hb⟩
   replace hB := hB.trans (hb.mono hB.size); clear hb
   refine hK _ _ (.inr hTT) ?_
   clear hK K
   try simp only [List.getElem_toArray, List.getElem_cons_zero, List.getElem_cons_succ, Act.put, List.setIfInBounds_toArray, List.set_cons_zero, List.set_cons_succ]
   refine wpG_one (i := 5) rfl (by kernel_rfl) (fun K hK => ?_)
   go_simp
   refine hK _ _ (.inr hTT) ?_
   clear hK K
   try simp only [List.getElem_toArray, List.getElem_cons_zero, List.getElem_cons_succ, Act.put, List.setIfInBounds_toArray, List.set_cons_zero, List.set_cons_succ]
   refine wpG_done (by kernel_rfl) ?_ _
   clear hTT
   go_upto_region 6 with (fail)
   rename World => WR
   refine wp_region_G (fun w' => w'.cell? ⟨b, off, none⟩ = some (.int .i64 x) ∧ w'.cell? ⟨b2, off2, none⟩ = some (.int .i64 y)) 7 (by kernel_rfl) ?_
   replace hB := hB.drew
   generalize WR.drew = WD at *
   have hTT : WD.cell? ⟨b, off, none⟩ = some (.int .i64 x) ∧ WD.cell? ⟨b2, off2, none⟩ = some (.int .i64 y) := ⟨HC1.out _ hB, HC2.out _ hB⟩
   refine wpG_take2 (i := 0) (v := ?vx4_0) rfl (by kernel_rfl) (by kernel_rfl) (by kernel_rfl) rfl (fun _ _ _ h => h) (Or.inl ⟨by rfl, ?hyx4_0⟩) hTT ?restx4_0
   case hyx4_0 => intro wq hSw; have q1 := hSw.1; have q2 := hSw.2; have e1 : 0 < n := (by omega); have e2 : 0 < n2 := (by omega); skip; go_simp <;> with_reducible rfl
   simp only [List.getElem_toArray, List.getElem_cons_zero, List.getElem_cons_succ, Act.put, List.setIfInBounds_toArray, List.set_cons_zero, List.set_cons_succ]
   refine wpG_take2 (i := 1) (v := ?vx4_1) rfl (by kernel_rfl) (by kernel_rfl) (by kernel_rfl) rfl (fun _ _ _ h => h) (Or.inl ⟨by rfl, ?hyx4_1⟩) hTT ?restx4_1
   case hyx4_1 => intro wq hSw; have q1 := hSw.1; have q2 := hSw.2; have e1 : 0 < n := (by omega); have e2 : 0 < n2 := (by omega); skip; go_simp <;> with_reducible rfl
   simp only [List.getElem_toArray, List.getElem_cons_zero, List.getElem_cons_succ, Act.put, List.setIfInBounds_toArray, List.set_cons_zero, List.set_cons_succ]
   refine wpG_take2 (i := 2) (v := ?vx4_2) rfl (by kernel_rfl) (by kernel_rfl) (by kernel_rfl) rfl (fun _ _ _ h => h) (Or.inl ⟨by rfl, ?hyx4_2⟩) hTT ?restx4_2
   case hyx4_2 => intro wq hSw; have q1 := hSw.1; have q2 := hSw.2; have e1 : 0 < n := (by omega); have e2 : 0 < n2 := (by omega); skip; go_simp <;> with_reducible rfl
   simp only [List.getElem_toArray, List.getElem_cons_zero, List.getElem_cons_succ, Act.put, List.setIfInBounds_toArray, List.set_cons_zero, List.set_cons_succ]
   refine wpG_take2 (i := 3) (v := ?vx4_3) rfl (by kernel_rfl) (by kernel_rfl) (by kernel_rfl) rfl (fun _ _ _ h => h) (Or.inl ⟨by rfl, ?hyx4_3⟩) hTT ?restx4_3
   case hyx4_3 => intro wq hSw; have q1 := hSw.1; have q2 := hSw.2; have e1 : 0 < n := (by omega); have e2 : 0 < n2 := (by omega); skip; go_simp <;> with_reducible rfl
   simp only [List.getElem_toArray, List.getElem_cons_zero, List.getElem_cons_succ, Act.put, List.setIfInBounds_toArray, List.set_cons_zero, List.set_cons_succ]
   refine wpG_take2 (i := 4) (v := ?vx4_4) rfl (by kernel_rfl) (by kernel_rfl) (by kernel_rfl) rfl (fun _ _ _ h => h) (Or.inl ⟨by rfl, ?hyx4_4⟩) hTT ?restx4_4
   case hyx4_4 => intro wq hSw; have q1 := hSw.1; have q2 := hSw.2; have e1 : 0 < n := (by omega); have e2 : 0 < n2 := (by omega); skip; go_simp <;> with_reducible rfl
   simp only [List.getElem_toArray, List.getElem_cons_zero, List.getElem_cons_succ, Act.put, List.setIfInBounds_toArray, List.set_cons_zero, List.set_cons_succ]
   refine wpG_take2 (i := 5) (v := ?vx4_5) rfl (by kernel_rfl) (by kernel_rfl) (by kernel_rfl) rfl (fun _ _ _ h => h) (Or.inl ⟨by rfl, ?hyx4_5⟩) hTT ?restx4_5
   case hyx4_5 => intro wq hSw; have q1 := hSw.1; have q2 := hSw.2; have e1 : 0 < n := (by omega); have e2 : 0 < n2 := (by omega); skip; go_simp <;> with_reducible rfl
   simp only [List.getElem_toArray, List.getElem_cons_zero, List.getElem_cons_succ, Act.put, List.setIfInBounds_toArray, List.set_cons_zero, List.set_cons_succ]
   refine wpG_one (i := 6) rfl (by kernel_rfl) (fun K hK => ?_)
   go_simp
   refine hK _ _ (.inr hTT) ?_
   clear hK K
   try simp only [List.getElem_toArray, List.getElem_cons_zero, List.getElem_cons_succ, Act.put, List.setIfInBounds_toArray, List.set_cons_zero, List.set_cons_succ]
   refine wpG_done (by kernel_rfl) ?_ _
   clear hTT
   go_upto_region 8 with (fail)
   rename World => WR
   refine wp_region_G (fun _ => True) 12 (by kernel_rfl) ?_
   replace hB := hB.drew
   generalize WR.drew = WD at *
   have hTT : True := trivial
   refine wpG_take2 (i := 0) (v := ?vx5_0) rfl (by kernel_rfl) (by kernel_rfl) (by kernel_rfl) rfl (fun _ _ _ h => h) (Or.inl ⟨by rfl, ?hyx5_0⟩) hTT ?restx5_0
   case hyx5_0 => intro wq hSw; have s1 := hS1; have s2 := hS2; skip; go_simp <;> with_reducible rfl
   simp only [List.getElem_toArray, List.getElem_cons_zero, List.getElem_cons_succ, Act.put, List.setIfInBounds_toArray, List.set_cons_zero, List.set_cons_succ]
   refine wpG_take2 (i := 1) (v := ?vx5_1) rfl (by kernel_rfl) (by kernel_rfl) (by kernel_rfl) rfl (fun _ _ _ h => h) (Or.inl ⟨by rfl, ?hyx5_1⟩) hTT ?restx5_1
   case hyx5_1 => intro wq hSw; have s1 := hS1; have s2 := hS2; skip; go_simp <;> with_reducible rfl
   simp only [List.getElem_toArray, List.getElem_cons_zero, List.getElem_cons_succ, Act.put, List.setIfInBounds_toArray, List.set_cons_zero, List.set_cons_succ]
   refine wpG_take2 (i := 2) (v := ?vx5_2) rfl (by kernel_rfl) (by kernel_rfl) (by kernel_rfl) rfl (fun _ _ _ h => h) (Or.inl ⟨by rfl, ?hyx5_2⟩) hTT ?restx5_2
   case hyx5_2 => intro wq hSw; have s1 := hS1; have s2 := hS2; skip; go_simp <;> with_reducible rfl
   simp only [List.getElem_toArray, List.getElem_cons_zero, List.getElem_cons_succ, Act.put, List.setIfInBounds_toArray, List.set_cons_zero, List.set_cons_succ]
   refine wpG_take2 (i := 3) (v := ?vx5_3) rfl (by kernel_rfl) (by kernel_rfl) (by kernel_rfl) rfl (fun _ _ _ h => h) (Or.inl ⟨by rfl, ?hyx5_3⟩) hTT ?restx5_3
   case hyx5_3 => intro wq hSw; have s1 := hS1; have s2 := hS2; skip; go_simp <;> with_reducible rfl
   simp only [List.getElem_toArray, List.getElem_cons_zero, List.getElem_cons_succ, Act.put, List.setIfInBounds_toArray, List.set_cons_zero, List.set_cons_succ]
   refine wpG_take2 (i := 5) (v := ?vx5_5) rfl (by kernel_rfl) (by kernel_rfl) (by kernel_rfl) rfl (fun _ _ _ h => h) (Or.inl ⟨by rfl, ?hyx5_5⟩) hTT ?restx5_5
   case hyx5_5 => intro wq hSw; have s1 := hS1; have s2 := hS2; skip; go_simp <;> with_reducible rfl
   simp only [List.getElem_toArray, List.getElem_cons_zero, List.getElem_cons_succ, Act.put, List.setIfInBounds_toArray, List.set_cons_zero, List.set_cons_succ]
   refine wpG_take2 (i := 6) (v := ?vx5_6) rfl (by kernel_rfl) (by kernel_rfl) (by kernel_rfl) rfl (fun _ _ _ h => h) (Or.inl ⟨by rfl, ?hyx5_6⟩) hTT ?restx5_6
   case hyx5_6 => intro wq hSw; have s1 := hS1; have s2 := hS2; skip; go_simp <;> with_reducible rfl
   simp only [List.getElem_toArray, List.getElem_cons_zero, List.getElem_cons_succ, Act.put, List.setIfInBounds_toArray, List.set_cons_zero, List.set_cons_succ]
   refine wpG_take2 (i := 7) (v := ?vx5_7) rfl (by kernel_rfl) (by kernel_rfl) (by kernel_rfl) rfl (fun _ _ _ h => h) (Or.inl ⟨by rfl, ?hyx5_7⟩) hTT ?restx5_7
   case hyx5_7 => intro wq hSw; have s1 := hS1; have s2 := hS2; skip; go_simp <;> with_reducible rfl
   simp only [List.getElem_toArray, List.getElem_cons_zero, List.getElem_cons_succ, Act.put, List.setIfInBounds_toArray, List.set_cons_zero, List.set_cons_succ]
   refine wpG_one (i := 4) rfl (by kernel_rfl) (fun K hK => ?_)
   go_simp
   refine (HR2.out _ hB).mono ?_
   rintro e w1 ⟨rfl, hb⟩
   replace hB := hB.trans (hb.mono hB.size); clear hb
   refine hK _ _ (.inr hTT) ?_
   clear hK K
   try simp only [List.getElem_toArray, List.getElem_cons_zero, List.getElem_cons_succ, Act.put, List.setIfInBounds_toArray, List.set_cons_zero, List.set_cons_succ]
   refine wpG_one (i := 8) rfl (by kernel_rfl) (fun K hK => ?_)
   go_simp
   refine (HR3.out _ hB).mono ?_
   rintro e w1 ⟨rfl, hb⟩
   replace hB := hB.trans (hb.mono hB.size); clear hb
   refine hK _ _ (.inr hTT) ?_
   clear hK K
   try simp only [List.getElem_toArray, List.getElem_cons_zero, List.getElem_cons_succ, Act.put, List.setIfInBounds_toArray, List.set_cons_zero, List.set_cons_succ]
   refine wpG_one (i := 9) rfl (by kernel_rfl) (fun K hK => ?_)
   go_simp
   refine hK _ _ (.inr hTT) ?_
   clear hK K
   try simp only [List.getElem_toArray, List.getElem_cons_zero, List.getElem_cons_succ, Act.put, List.setIfInBounds_toArray, List.set_cons_zero, List.set_cons_succ]
   refine wpG_take2 (i := 10) (v := ?vx5_10) rfl (by kernel_rfl) (by kernel_rfl) (by kernel_rfl) rfl (fun _ _ _ h => h) (Or.inl ⟨by rfl, ?hyx5_10⟩) hTT ?restx5_10
   case hyx5_10 => intro wq hSw; have s1 := hS1; have s2 := hS2; skip; go_simp <;> with_reducible rfl
   simp only [List.getElem_toArray, List.getElem_cons_zero, List.getElem_cons_succ, Act.put, List.setIfInBounds_toArray, List.set_cons_zero, List.set_cons_succ]
   refine wpG_one (i := 11) rfl (by kernel_rfl) (fun K hK => ?_)
   go_simp
   refine hK _ _ (.inr hTT) ?_
   clear hK K
   try simp only [List.getElem_toArray, List.getElem_cons_zero, List.getElem_cons_succ, Act.put, List.setIfInBounds_toArray, List.set_cons_zero, List.set_cons_succ]
   refine wpG_done (by kernel_rfl) ?_ _
   clear hTT
   all_goals try go_wp2_with (fail)
   all_goals
    go_ret
    refine ⟨congrArg Ending.returned (congrArg (Value.int .i64) ?_), hB⟩
    have h := HD.out
    omega
end
section
open Go.RowKit Go.Lib Go.Maps
theorem Between_no1 (W : Int) (A : Option Addr) (n cap : Nat) (cs : List VC) (tA : Option Addr) (tn tc : Nat) (rA : Option Addr) (rn rc : Nat) (w : World) (hn : n ≤ maxLen) (hr : Rd w w.heap.size 1 A n (cs.map VC.val)) (hc : ∀ c ∈ cs, c.ok w w.heap.size) (h1 : bookB W cs = false) :
  Calls Tryz.prog 38 #[.agg #[.int .i64 W, .slice A n cap], .slice tA tn tc, .slice rA rn rc] w fun e w' => e = .returned (.tuple #[.slice none 0 0, .int .i64 2]) ∧ Below w.heap.size w w' := by
 have hX := Blk.new w 24 #[.int .i64 W, .slice A n cap]
 have hB : Below w.heap.size w (w.alloc (.cells #[.int .i64 W, .slice A n cap] 24)) := (Below.refl _ w).alloc (Nat.le_refl _) _
 have qX := fun i => hX.cell i
 have hgb := fun (wx : World) (hx : Below w.heap.size w wx) => goodBook_any W A n cap cs wx hn (rdB hr hx) (fun c h => okB (hc c h) hx)
 simp only [h1] at hgb
 have HGB := Lib.hid hgb
 clear hgb h1 hr hc
 go_enter Tryz.func38, Tryz.ntmps38
 go_wp2_with fail
 refine (HGB.out _ hB).mono ?_; rintro e w1 ⟨rfl, hb⟩; replace hX := hX.below hb hX.lt; replace hB := hB.trans (hb.mono hB.size); clear hb qX; have qX := fun i => hX.cell i
 go_wp2_with fail
 refine bodyPost_ret (v := .tuple #[.slice none 0 0, .int .i64 2]) (by simp [results, Tryz.results38, go_sem]) rfl ⟨rfl, hB⟩
theorem Between_no2 {wn : Nat} {A : Option Addr} {n : Nat} (cap : Nat) {cs : List VC} (tA : Option Addr) (tn tc : Nat) (rA : Option Addr) (rn rc : Nat) {w : World} (hb : BkG wn A n cs w w.heap.size) (h1 : bookB (wn : Int) cs = true) (l1 : List Int) (htn : tn ≤ maxLen) (htr : Rd w w.heap.size 1 tA tn (l1.map (Value.int .i64))) (h2 : lnB (wn : Int) l1 = false) :
  Calls Tryz.prog 38 #[.agg #[.int .i64 (wn : Int), .slice A n cap], .slice tA tn tc, .slice rA rn rc] w fun e w' => e = .returned (.tuple #[.slice none 0 0, .int .i64 2]) ∧ Below w.heap.size w w' := by
 have hX := Blk.new w 24 #[.int .i64 (wn : Int), .slice A n cap]
 have hB : Below w.heap.size w (w.alloc (.cells #[.int .i64 (wn : Int), .slice A n cap] 24)) := (Below.refl _ w).alloc (Nat.le_refl _) _
 have qX := fun i => hX.cell i
 have hq0 := fun (wx : World) (hx : Below w.heap.size w wx) => goodBook_any (wn : Int) A n cap cs wx (by have := hb.2.1.2; unfold maxLen; omega) (rdB hb.2.2.2.1 hx) (fun c h => okB (hb.2.2.2.2.1 c h) hx)
 simp only [h1] at hq0
 have HQ0 := Lib.hid hq0
 have hq1 := fun (wx : World) (hx : Below w.heap.size w wx) => goodLine_any (wn : Int) A n cap tA tn tc l1 wx (by have := hb.1; omega) (by have := hb.1; omega) htn (rdB htr hx)
 simp only [h2] at hq1
 have HQ1 := Lib.hid hq1
 clear hq0 hq1 h1 h2 hb
 go_enter Tryz.func38, Tryz.ntmps38
 go_wp2_with fail
 refine (HQ0.out _ hB).mono ?_; rintro e w1 ⟨rfl, hb⟩; replace hX := hX.below hb hX.lt; replace hB := hB.trans (hb.mono hB.size); clear hb qX; have qX := fun i => hX.cell i
 go_wp2_with fail
 refine (HQ1.out _ hB).mono ?_; rintro e w1 ⟨rfl, hb⟩; replace hX := hX.below hb hX.lt; replace hB := hB.trans (hb.mono hB.size); clear hb qX; have qX := fun i => hX.cell i
 go_wp2_with fail
 refine bodyPost_ret (v := .tuple #[.slice none 0 0, .int .i64 2]) (by simp [results, Tryz.results38, go_sem]) rfl ⟨rfl, hB⟩
theorem Between_no3 {wn : Nat} {A : Option Addr} {n : Nat} (cap : Nat) {cs : List VC} (tA : Option Addr) (tn tc : Nat) (rA : Option Addr) (rn rc : Nat) {w : World} (hb : BkG wn A n cs w w.heap.size) (h1 : bookB (wn : Int) cs = true) (l1 : List Int) (htn : tn ≤ maxLen) (htr : Rd w w.heap.size 1 tA tn (l1.map (Value.int .i64))) (h2 : lnB (wn : Int) l1 = true) (l2 : List Int) (hrn : rn ≤ maxLen) (hr : Rd w w.heap.size 1 rA rn (l2.map (Value.int .i64))) (h3 : lnB (wn : Int) l2 = false) :
  Calls Tryz.prog 38 #[.agg #[.int .i64 (wn : Int), .slice A n cap], .slice tA tn tc, .slice rA rn rc] w fun e w' => e = .returned (.tuple #[.slice none 0 0, .int .i64 2]) ∧ Below w.heap.size w w' := by
 have hX := Blk.new w 24 #[.int .i64 (wn : Int), .slice A n cap]
 have hB : Below w.heap.size w (w.alloc (.cells #[.int .i64 (wn : Int), .slice A n cap] 24)) := (Below.refl _ w).alloc (Nat.le_refl _) _
 have qX := fun i => hX.cell i
 have hq0 := fun (wx : World) (hx : Below w.heap.size w wx) => goodBook_any (wn : Int) A n cap cs wx (by have := hb.2.1.2; unfold maxLen; omega) (rdB hb.2.2.2.1 hx) (fun c h => okB (hb.2.2.2.2.1 c h) hx)
 simp only [h1] at hq0
 have HQ0 := Lib.hid hq0
 have hq1 := fun (wx : World) (hx : Below w.heap.size w wx) => goodLine_any (wn : Int) A n cap tA tn tc l1 wx (by have := hb.1; omega) (by have := hb.1; omega) htn (rdB htr hx)
 simp only [h2] at hq1
 have HQ1 := Lib.hid hq1
 have hq2 := fun (wx : World) (hx : Below w.heap.size w wx) => goodLine_any (wn : Int) A n cap rA rn rc l2 wx (by have := hb.1; omega) (by have := hb.1; omega) hrn (rdB hr hx)
 simp only [h3] at hq2
 have HQ2 := Lib.hid hq2
 clear hq0 hq1 hq2 h1 h2 h3 hb
 go_enter Tryz.func38, Tryz.ntmps38
 go_wp2_with fail
 refine (HQ0.out _ hB).mono ?_; rintro e w1 ⟨rfl, hb⟩; replace hX := hX.below hb hX.lt; replace hB := hB.trans (hb.mono hB.size); clear hb qX; have qX := fun i => hX.cell i
 go_wp2_with fail
 refine (HQ1.out _ hB).mono ?_; rintro e w1 ⟨rfl, hb⟩; replace hX := hX.below hb hX.lt; replace hB := hB.trans (hb.mono hB.size); clear hb qX; have qX := fun i => hX.cell i
 go_wp2_with fail
 refine (HQ2.out _ hB).mono ?_; rintro e w1 ⟨rfl, hb⟩; replace hX := hX.below hb hX.lt; replace hB := hB.trans (hb.mono hB.size); clear hb qX; have qX := fun i => hX.cell i
 go_wp2_with fail
 refine bodyPost_ret (v := .tuple #[.slice none 0 0, .int .i64 2]) (by simp [results, Tryz.results38, go_sem]) rfl ⟨rfl, hB⟩
end
section
open Go.RowKit Go.Lib
theorem IA.toW {w w' : World} {A : Option Addr} {n cap : Nat} {l : List Int} (h : IA w A n cap l) (hb : Below w.heap.size w w') : IA w' A n cap l := ⟨h.1, h.2.1, rdB h.2.2 hb⟩
theorem IA.max {w : World} {A : Option Addr} {n cap : Nat} {l : List Int} (h : IA w A n cap l) : n ≤ maxLen := Nat.le_trans h.1 h.2.1
theorem IA.len {w : World} {A : Option Addr} {n cap : Nat} {l : List Int} (h : IA w A n cap l) : l.length = n := by simpa using h.2.2.len
theorem u8_inj {x y : Int} (hx : 0 ≤ x ∧ x ≤ 2) (hy : 0 ≤ y ∧ y ≤ 2) (e : UInt8.ofNat x.toNat = UInt8.ofNat y.toNat) : x = y := by
 have h := congrArg UInt8.toNat e
 simp only [UInt8.toNat_ofNat'] at h
 omega
theorem edB_int {a b : List Int} (ha : ∀ x ∈ a, 0 ≤ x ∧ x ≤ 2) (hb : ∀ x ∈ b, 0 ≤ x ∧ x ≤ 2) : edB (lbS a) (lbS b) = ed a b := by
 show ed (lbL a) (lbL b) = ed a b
 unfold lbL
 exact ed_map _ a b (fun x hx y hy e => u8_inj (ha x hx) (hb y hy) e)
theorem book_W {W : Int} {cs : List VC} (h : bookB W cs = true) : 1 ≤ W ∧ W ≤ 3 := by
 unfold bookB at h
 simp only [Bool.and_eq_true] at h
 simpa [inB] using h.1.1.1
section
variable {W : Int} {A : Option Addr} {n cap : Nat} {cs : List VC} {w : World} {A1 A2 : Option Addr} {n1 n2 c1 c2 : Nat} {l1 l2 : List Int}
theorem Line_I (h : BkI w A n cap cs) (hk : bookB W cs = true) (h1 : IA w A1 n1 c1 l1) : Calls Tryz.prog 28 #[.agg #[.int .i64 W, .slice A n cap], .slice A1 n1 c1] w fun e w' => e = .returned (.bool (lnB W l1)) ∧ Below w.heap.size w w' := refLine_any W A n cap A1 n1 c1 l1 w (by have := book_W hk; omega) (by have := book_W hk; omega) h1.max h1.2.2
end
end
section
open Go.RowKit Go.Lib
def allLL (wn : Nat) : List (List Int) := (List.range 5).flatMap fun k => allLs k wn
def allW (l : List Int) (W : Nat) : Nat → List (List Int) → List (List Int)
 | 0, out => out
 | r + 1, out => allW l W r (out ++ [l ++ [((W - (r + 1) : Nat) : Int)]])
def allI (W : Nat) : Nat → Nat → List (List Int) → List (List Int)
 | 0, _, out => out
 | c + 1, i, out => allI W c (i + 1) (allW (out.getD i []) W W out)
def allK (W : Nat) : Nat → Nat → List (List Int) → List (List Int)
 | 0, _, out => out
 | c + 1, fr, out => allK W c out.length (allI W (out.length - fr) fr out)
theorem allW_pre (l : List Int) (W : Nat) : ∀ (r : Nat) (out : List (List Int)), out <+: allW l W r out
 | 0, out => List.prefix_refl out
 | r + 1, out => (List.prefix_append out _).trans (allW_pre l W r _)
theorem allI_pre (W : Nat) : ∀ (c i : Nat) (out : List (List Int)), out <+: allI W c i out
 | 0, _, out => List.prefix_refl out
 | c + 1, i, out => (allW_pre _ W W out).trans (allI_pre W c (i + 1) _)
theorem allK_pre (W : Nat) : ∀ (c fr : Nat) (out : List (List Int)), out <+: allK W c fr out
 | 0, _, out => List.prefix_refl out
 | c + 1, fr, out => (allI_pre W _ fr out).trans (allK_pre W c _ _)
theorem allK_fin {wn : Nat} (h1 : 1 ≤ wn) (h3 : wn ≤ 3) : allK wn 4 0 [[]] = allLL wn := by
 have : wn = 1 ∨ wn = 2 ∨ wn = 3 := by omega
 rcases this with rfl | rfl | rfl
 ·exact (by kernel_rfl : allK 1 4 0 [[]] = allLL 1)
 ·exact (by kernel_rfl : allK 2 4 0 [[]] = allLL 2)
 ·exact (by kernel_rfl : allK 3 4 0 [[]] = allLL 3)
theorem allLL_mem {wn : Nat} {l : List Int} (h : l ∈ allLL wn) : l.length ≤ 4 ∧ ∀ x ∈ l, 0 ≤ x ∧ x < (wn : Int) := by
 obtain ⟨k, hk, hl⟩ := List.mem_flatMap.1 h
 obtain ⟨h1, h2⟩ := allLs_mem hl
 have := List.mem_range.1 hk
 exact ⟨by omega, h2⟩
theorem allLL_len {wn : Nat} (h1 : 1 ≤ wn) (h3 : wn ≤ 3) : (allLL wn).length ≤ 121 := by
 have : wn = 1 ∨ wn = 2 ∨ wn = 3 := by omega
 rcases this with rfl | rfl | rfl
 ·exact of_decide_eq_true (by kernel_rfl)
 ·exact of_decide_eq_true (by kernel_rfl)
 ·exact of_decide_eq_true (by kernel_rfl)
theorem pre_len {out fin : List (List Int)} (h : out <+: fin) : out.length ≤ fin.length := h.length_le
def LRows (w : World) (B : Nat) (rs : List RI) (L : List (List Int)) : Prop := rs.map RI.ws = L ∧ ∀ r ∈ rs, w.ownsRow B 3 1 r.val r.n (r.ws.map (Value.int .i64))
theorem LRows.below {w w' : World} {B : Nat} {rs : List RI} {L : List (List Int)} (h : LRows w B rs L) (hb : Below w.heap.size w w') : LRows w' B rs L :=
 ⟨h.1, fun r hr => ownsRow_below' (h.2 r hr) hb⟩
theorem LRows.len {w : World} {B : Nat} {rs : List RI} {L : List (List Int)} (h : LRows w B rs L) : L.length = rs.length := by rw [← h.1, List.length_map]
def leftW (wn k T i : Nat) (l : List Int) (q : Nat) (L FIN : List (List Int)) : Prop := i < T ∧ T ≤ L.length ∧ L[i]? = some l ∧ allK wn (4 - (k + 1)) T (allI wn (T - (i + 1)) (i + 1) (allW l wn (wn - q) L)) = FIN
def leftI (wn k T i : Nat) (L FIN : List (List Int)) : Prop := i ≤ T ∧ T ≤ L.length ∧ allK wn (4 - (k + 1)) T (allI wn (T - i) i L) = FIN
def leftK (wn k F : Nat) (L FIN : List (List Int)) : Prop := F ≤ L.length ∧ allK wn (4 - k) F L = FIN
theorem leftK.start {wn k F : Nat} {L FIN : List (List Int)} (h : leftK wn k F L FIN) (hk : k < 4) : leftI wn k L.length F L FIN := by
 refine ⟨h.1, Nat.le_refl _, ?_⟩
 have h2 := h.2
 rw [show 4 - k = (4 - (k + 1)) + 1 by omega, allK] at h2
 exact h2
theorem leftI.start {wn k T i : Nat} {L FIN : List (List Int)} (h : leftI wn k T i L FIN) (hi : i < T) : ∃ l, leftW wn k T i l 0 L FIN := by
 have hl : i < L.length := Nat.lt_of_lt_of_le hi h.2.1
 refine ⟨L[i], hi, h.2.1, List.getElem?_eq_getElem hl, ?_⟩
 have h2 := h.2.2
 rw [show T - i = (T - (i + 1)) + 1 by omega, allI] at h2
 rw [Nat.sub_zero, ← h2]
 congr 4
 simp [List.getD_eq_getElem?_getD, hl]
theorem leftI.done {wn k T i : Nat} {L FIN : List (List Int)} (h : leftI wn k T i L FIN) (hi : ¬ i < T) : leftK wn (k + 1) T L FIN := by
 have e : i = T := by have := h.1; omega
 refine ⟨h.2.1, ?_⟩
 have h2 := h.2.2
 rw [e, Nat.sub_self, allI] at h2
 exact h2
theorem leftW.step {wn k T i q : Nat} {l : List Int} {L FIN : List (List Int)} (h : leftW wn k T i l q L FIN) (hq : q < wn) : leftW wn k T i l (q + 1) (L ++ [l ++ [(q : Int)]]) FIN := by
 refine ⟨h.1, by rw [List.length_append]; have := h.2.1; omega, ?_, ?_⟩
 ·rw [List.getElem?_append_left (Nat.lt_of_lt_of_le h.1 h.2.1)]; exact h.2.2.1
 ·have h2 := h.2.2.2
  rw [show wn - q = (wn - (q + 1)) + 1 by omega, allW, show wn - (wn - (q + 1) + 1) = q by omega] at h2
  exact h2
theorem leftW.done {wn k T i q : Nat} {l : List Int} {L FIN : List (List Int)} (h : leftW wn k T i l q L FIN) (hq : ¬ q < wn) : leftI wn k T (i + 1) L FIN := by
 refine ⟨h.1, h.2.1, ?_⟩
 have h2 := h.2.2.2
 rw [show wn - q = 0 by omega, allW] at h2
 exact h2
theorem leftW.pre {wn k T i q : Nat} {l : List Int} {L FIN : List (List Int)} (h : leftW wn k T i l q L FIN) : L <+: FIN := by
 rw [← h.2.2.2]
 exact ((allW_pre _ _ _ _).trans (allI_pre _ _ _ _)).trans (allK_pre _ _ _ _)
theorem leftK.fin {wn k F : Nat} {L FIN : List (List Int)} (h : leftK wn k F L FIN) (hk : ¬ k < 4) : L = FIN := by
 have h2 := h.2
 rw [show 4 - k = 0 by omega, allK] at h2
 exact h2
end
section
open Go.RowKit Go.Lib
theorem ownL1 (w : World) (base : Nat) (e : TypeId) (v : Value) (hb : base ≤ w.heap.size) : (w.alloc (.cells #[v] e)).ownsRow base e 1 (.slice (some ⟨w.heap.size, 0, none⟩) 1 1) 1 [v] :=
 ⟨by simp, .inr ⟨w.heap.size, 1, #[v], rfl, hb, heap_alloc_new w _, Nat.le_refl _, by unfold maxLen; omega, rfl, by simp⟩⟩
theorem refAll_any (wn : Nat) (h1 : 1 ≤ wn) (h3 : wn ≤ 3) (A : Option Addr) (n cap : Nat) (w : World) :
  Calls Tryz.prog 63 #[.agg #[.int .i64 (wn : Int), .slice A n cap]] w fun e w' => ∃ v rs, e = .returned v ∧ w'.ownsRow w.heap.size 25 1 v (allLL wn).length (rs.map RI.val) ∧ LRows w' w.heap.size rs (allLL wn) ∧ Below w.heap.size w w' := by
 have hfin := allK_fin h1 h3
 have hfl := allLL_len h1 h3
 have hfm : ∀ l ∈ allLL wn, l.length ≤ 4 := fun l hl => (allLL_mem hl).1
 generalize allLL wn = FIN at *
 have HFM := Lib.hid hfm; clear hfm
 have hX := Blk.new w 24 #[.int .i64 (wn : Int), .slice A n cap]
 have hB : Below w.heap.size w (w.alloc (.cells #[.int .i64 (wn : Int), .slice A n cap] 24)) := (Below.refl _ w).alloc (Nat.le_refl _) _
 have qX := fun i => hX.cell i
 go_enter Tryz.func63, Tryz.ntmps63
 go_wp2_with fail
 obtain ⟨i25, hi, hz0, hz1', hz2'⟩ := info_parts info25
 obtain ⟨i3, hj, hy0, hy1', hy2'⟩ := info_parts info3
 have hX2 := hX.alloc (.cells #[.slice none 0 0] 25)
 have hB2 := hB.alloc (by rw [World.size_alloc]; omega) (.cells #[.slice none 0 0] 25)
 have hO := ownL1 (w.alloc (.cells #[.int .i64 (wn : Int), .slice A n cap] 24)) w.heap.size 25 (.slice none 0 0) (by rw [World.size_alloc]; omega)
 simp only [World.size_alloc] at hO
 clear hX hB qX
 have qX := fun i => hX2.cell i
 go_wp2_with fail
 go_loopg [3, 4, 5] 4 (fun g v f k wr => ∃ (kk F : Nat) (v0 : Value) (rs : List RI) (L : List (List Int)), g = 4 - kk ∧ kk ≤ 4 ∧ v = v0 ∧ f = .int .i64 F ∧ k = .int .i64 kk ∧ wr.ownsRow w.heap.size 25 1 v0 L.length (rs.map RI.val) ∧ Hid (LRows wr w.heap.size rs L) ∧ Hid (leftK wn kk F L FIN) ∧ Below w.heap.size w wr ∧ Blk wr w.heap.size 24 #[.int .i64 (wn : Int), .slice A n cap])
 case atStart => exact ⟨0, 0, _, [⟨none, 0, 0, []⟩], [[]], rfl, by omega, rfl, rfl, rfl, hO, Lib.hid ⟨rfl, fun r hr => by obtain rfl := List.mem_singleton.1 hr; exact World.ownsRow_nil _ _ _ _⟩, Lib.hid ⟨Nat.zero_le _, hfin⟩, hB2, hX2⟩
 case round =>
  clear hX2 hB2 hO qX hfin
  obtain ⟨kk, F, v0, rs, L, hg, hk, rfl, rfl, rfl, hown, hrows, hleft, hB, hX⟩ := hrel
  rename World => wr
  obtain ⟨va, vc, rfl⟩ := own_slice hown
  have HG := Lib.hid hg; clear hg
  have qX := fun i => hX.cell i
  by_cases hlt : kk < 4
  ·have hlti : (kk : Int) < 4 := by omega
   have HI := Lib.hid (hleft.out.start hlt); clear hleft
   obtain ⟨T, hT⟩ : ∃ T, T = L.length := ⟨_, rfl⟩
   rw [← hT] at HI hown ⊢
   have HT := Lib.hid hT; clear hT
   have hFT := HI.out.1
   have hwr := hB.size
   go_wp2_with fail
   go_loopg [3, 7] (T - F) (fun g v i wr => ∃ (ii : Nat) (v0 : Value) (rs : List RI) (L : List (List Int)), g = T - ii ∧ ii ≤ T ∧ v = v0 ∧ i = .int .i64 ii ∧ wr.ownsRow w.heap.size 25 1 v0 L.length (rs.map RI.val) ∧ Hid (LRows wr w.heap.size rs L) ∧ Hid (leftI wn kk T ii L FIN) ∧ Below w.heap.size w wr ∧ Blk wr w.heap.size 24 #[.int .i64 (wn : Int), .slice A n cap])
   case atStart => exact ⟨F, _, rs, L, rfl, hFT, rfl, rfl, by rw [← HT.out]; exact hown, hrows, HI, hB, hX⟩
   case round =>
    clear hown hrows HI HT hB hX qX hwr hFT
    rename World => wr0
    obtain ⟨ii, v0, rs, L, hg, hii, rfl, rfl, hown, hrows, HI, hB, hX⟩ := hrel
    rename World => wr
    obtain ⟨va, vc, rfl⟩ := own_slice hown
    have HG2 := Lib.hid hg; clear hg
    have qX := fun i => hX.cell i
    by_cases hlt2 : ii < T
    ·have hlti2 : (ii : Int) < T := by omega
     obtain ⟨l, hl⟩ := HI.out.start hlt2
     have HW := Lib.hid hl; clear hl HI
     have hwr := hB.size
     go_wp2_with fail
     go_loopg [3, 8] wn (fun g v i wr => ∃ (q : Nat) (v0 : Value) (rs : List RI) (L : List (List Int)), g = wn - q ∧ q ≤ wn ∧ v = v0 ∧ i = .int .i64 q ∧ wr.ownsRow w.heap.size 25 1 v0 L.length (rs.map RI.val) ∧ Hid (LRows wr w.heap.size rs L) ∧ Hid (leftW wn kk T ii l q L FIN) ∧ Below w.heap.size w wr ∧ Blk wr w.heap.size 24 #[.int .i64 (wn : Int), .slice A n cap])
     case atStart => exact ⟨0, _, rs, L, rfl, Nat.zero_le _, rfl, rfl, hown, hrows, HW, hB, hX⟩
     case round =>
      clear hown hrows HW hB hX qX hwr
      rename World => wr1
      obtain ⟨q, v0, rs, L, hg, hq, rfl, rfl, hown, hrows, HW, hB, hX⟩ := hrel
      rename World => wr
      obtain ⟨va, vc, rfl⟩ := own_slice hown
      have HG3 := Lib.hid hg; clear hg
      have qX := fun i => hX.cell i
      by_cases hlt3 : q < wn
      ·have hlti3 : (q : Int) < wn := by omega
       have hiL : ii < L.length := Nat.lt_of_lt_of_le HW.out.1 HW.out.2.1
       have hrl := hrows.out.len
       have hLf := pre_len HW.out.pre
       obtain ⟨b, off, hz, rfl, hb, hc0⟩ := (Rd.of_own hown).atm hiL
       have hzr : ii < rs.length := by simpa using hz
       have hxm := hrows.out.2 _ (List.getElem_mem hzr)
       have hxl : rs[ii].ws = l := by
        have h5 := HW.out.2.2.1
        rw [← hrows.out.1, List.getElem?_map, List.getElem?_eq_getElem hzr] at h5
        simpa using h5
       have hl4 : l.length ≤ 4 := HFM.out l (HW.out.pre.subset (List.mem_of_getElem? HW.out.2.2.1))
       rw [hxl] at hxm
       have hxn : rs[ii].n = l.length := by have h6 := hxm.1; simpa using h6.symm
       have hstep := HW.out.step hlt3
       have HS := Lib.hid hstep; clear hstep hxl
       unfold RI.val at hc0 hxm
       generalize rs[ii] = x at *
       obtain ⟨xa, xn, xc, xw⟩ := x
       simp only at hc0 hxm hxn
       subst hxn
       clear hz hzr hrl
       have hBs := hB.size
       go_wp2_with (first
        | (at_builtin; refine wpList_append_any _ rfl _ _ 25 rfl wr.heap.size 3 i3 (.int .i64 0) 1 8 Tryz.underlying25 hj hy0 hy1' hy2' rfl (by decide) (.slice none 0 0) 0 [] rfl (World.ownsRow_nil _ _ _ _) wr.heap.size xa l.length xc (l.map (Value.int .i64)) rfl ((Rd.of_own hxm).reads) (by simp [Value.oneCell']) (by unfold maxLen; omega) (by omega) (Nat.le_refl _) (fun v1 w1 hown1 hg1 hob1 => ?_); rw [Nat.zero_add, List.nil_append] at hown1; have hb1 : Below wr.heap.size wr w1 := (Below.refl _ wr).grown hg1 (Nat.le_refl _) (fun g hg => by cases hg); obtain ⟨ya, yc, rfl⟩ := own_slice hown1; clear hg1 hob1)
        | (at_builtin; refine wpList_append_any _ rfl _ _ 25 rfl wr.heap.size 3 i3 (.int .i64 0) 1 8 Tryz.underlying25 hj hy0 hy1' hy2' rfl (by decide) (.slice ya l.length yc) l.length (l.map (Value.int .i64)) rfl (hown1.alloc (.cells #[.int .i64 (q : Int)] 3)) (w1.heap.size + 1) (some ⟨w1.heap.size, 0, none⟩) 1 1 [.int .i64 (q : Int)] rfl (Rd.blkN (Blk.new w1 3 #[.int .i64 (q : Int)]) rfl (by omega)).reads (by simp [Value.oneCell']) (by unfold maxLen; omega) (by omega) (by have := hb1.size; simp only [World.size_alloc]; omega) (fun v2 w2 hown2 hg2 hob2 => ?_); have hb2 : Below wr.heap.size wr w2 := (hb1.alloc hb1.size (.cells #[.int .i64 (q : Int)] 3)).grown hg2 (by have := hb1.size; simp only [World.size_alloc]; omega) (fun g hg => ((hown1.alloc (.cells #[.int .i64 (q : Int)] 3)).lt g hg).1); obtain ⟨za, zc, rfl⟩ := own_slice hown2; clear hg2 hob2)
        | (at_builtin; refine wpList_append_any _ rfl _ _ 46 rfl w.heap.size 25 i25 (.slice none 0 0) 1 24 Tryz.underlying46 hi hz0 hz1' hz2' rfl (by decide) (.slice (some ⟨b, off, none⟩) L.length vc) L.length (rs.map RI.val) rfl ((ownsRow_below' hown hb2).alloc (.cells #[.slice za (l.length + 1) zc] 25)) (w2.heap.size + 1) (some ⟨w2.heap.size, 0, none⟩) 1 1 [.slice za (l.length + 1) zc] rfl (Rd.blkN (Blk.new w2 25 #[.slice za (l.length + 1) zc]) rfl (by omega)).reads (by simp [Value.oneCell']) (by unfold maxLen; omega) (by omega) (by have := hb2.size; simp only [World.size_alloc]; omega) (fun v3 w3 hown3 hg3 hob3 => ?_)))
       have hoA := (ownsRow_below' hown hb2).alloc (.cells #[.slice za (l.length + 1) zc] 25)
       have hB2 := ((hB.trans (hb2.mono hBs)).alloc (by have := hb2.size; omega) (.cells #[.slice za (l.length + 1) zc] 25)).grown hg3 (by have := hb2.size; simp only [World.size_alloc]; omega) (fun g hg => (hoA.lt g hg).1)
       have hX3 := ((hX.below hb2 hX.lt).alloc (.cells #[.slice za (l.length + 1) zc] 25)).grown hg3 (fun e' => own_blk_ne hoA ((hX.below hb2 hX.lt).alloc (.cells #[.slice za (l.length + 1) zc] 25)) (by decide) e'.symm)
       have hrow2 : LRows w3 w.heap.size (rs ++ [⟨za, l.length + 1, zc, l ++ [(q : Int)]⟩]) (L ++ [l ++ [(q : Int)]]) := by
        refine ⟨by rw [List.map_append, hrows.out.1]; rfl, fun r hr => ?_⟩
        rcases List.mem_append.1 hr with h | h
        ·have h1' := (ownsRow_below' (hrows.out.2 r h) hb2).alloc (.cells #[.slice za (l.length + 1) zc] 25)
         exact h1'.kept hg3 (own_ne h1' hoA (by decide))
        ·obtain rfl := List.mem_singleton.1 h
         have h1' := (own_mono hown2 hBs).alloc (.cells #[.slice za (l.length + 1) zc] 25)
         have h2' := h1'.kept hg3 (own_ne h1' hoA (by decide))
         show w3.ownsRow w.heap.size 3 1 (.slice za (l.length + 1) zc) (l.length + 1) ((l ++ [(q : Int)]).map (Value.int .i64))
         rw [List.map_append]; exact h2'
       go_roundg (wn - (q + 1))
       case measure => rw [HG3.out]; omega
       case rel => exact ⟨q + 1, v3, rs ++ [⟨za, l.length + 1, zc, l ++ [(q : Int)]⟩], L ++ [l ++ [(q : Int)]], rfl, by omega, rfl, by go_num, by rw [List.length_append, List.map_append]; exact hown3, Lib.hid hrow2, HS, hB2, hX3⟩
      ·have hge3 : ¬ (q : Int) < wn := by omega
       have hTb : T ≤ 121 := by have h5 := pre_len HW.out.pre; have h6 := HW.out.2.1; omega
       have HI := Lib.hid (HW.out.done hlt3); clear HW
       go_wp2_with fail
       go_roundg (T - (ii + 1))
       case measure => rw [HG2.out]; omega
       case rel => exact ⟨ii + 1, _, rs, L, rfl, by omega, rfl, by go_num, hown, hrows, HI, hB, hX⟩
    ·have hge2 : ¬ (ii : Int) < T := by omega
     have HK := Lib.hid (HI.out.done hlt2); clear HI
     go_wp2_with fail
     go_roundg (4 - (kk + 1))
     case measure => rw [HG.out]; omega
     case rel => exact ⟨kk + 1, T, _, rs, L, rfl, by omega, rfl, rfl, by go_num, hown, hrows, HK, hB, hX⟩
  ·have hge : ¬ (kk : Int) < 4 := by omega
   have hLF := hleft.out.fin hlt
   go_wp2_with (fail)
   go_ret
   exact ⟨_, rfl, rs, by rw [← hLF]; exact hown, by rw [← hLF]; exact hrows.out, hB⟩
end
section
open Go.RowKit Go.Lib
def betL (wn : Nat) (a b : List Int) : List (List Int) := (allLL wn).filter fun l => ed a l + ed l b == ed a b
theorem refBetween_any (wn : Nat) (h1 : 1 ≤ wn) (h3 : wn ≤ 3) (A : Option Addr) (n cap : Nat) (A1 : Option Addr) (n1 c1 : Nat) (a : List Int) (A2 : Option Addr) (n2 c2 : Nat) (b : List Int) (w : World) (ha : IA w A1 n1 c1 a) (hb : IA w A2 n2 c2 b) (hn1 : n1 ≤ 6) (hn2 : n2 ≤ 6) :
  Calls Tryz.prog 40 #[.agg #[.int .i64 (wn : Int), .slice A n cap], .slice A1 n1 c1, .slice A2 n2 c2] w fun e w' => (∃ v rs, e = .returned v ∧ w'.ownsRow w.heap.size 25 1 v (betL wn a b).length (rs.map RI.val) ∧ LRows w' w.heap.size rs (betL wn a b)) ∧ Below w.heap.size w w' := by
 obtain ⟨i25, hi, hz0, hz1', hz2'⟩ := info_parts info25
 have hfl := allLL_len h1 h3
 have hfm : ∀ l ∈ allLL wn, l.length ≤ 4 := fun l hl => (allLL_mem hl).1
 have hal := refAll_any wn h1 h3 A n cap
 unfold betL
 generalize allLL wn = FIN at *
 have HFM := Lib.hid hfm; have HAL := Lib.hid hal; clear hfm hal
 have hX := Blk.new w 24 #[.int .i64 (wn : Int), .slice A n cap]
 have hB : Below w.heap.size w (w.alloc (.cells #[.int .i64 (wn : Int), .slice A n cap] 24)) := (Below.refl _ w).alloc (Nat.le_refl _) _
 have qX := fun i => hX.cell i
 have rc1 := fun (wx : World) (hx : Below w.heap.size w wx) => refChanges_any (n1 + n2) A1 n1 c1 a A2 n2 c2 b wx (Nat.le_refl _) (by omega) (by omega) ha.1 hb.1 (ha.toW (w' := wx) hx).2.2 (hb.toW hx).2.2
 have HRC := Lib.hid rc1; clear rc1
 go_enter Tryz.func40, Tryz.ntmps40
 go_wp2_with fail
 refine (HAL.out _).mono ?_; rintro e wc ⟨va0, rs, rfl, hown, hrows, hbw⟩
 have hsz := hB.size
 replace hown := own_mono hown hsz
 replace hB := hB.trans (hbw.mono hsz); replace hX := hX.below hbw hX.lt; clear hbw qX hsz HAL
 have hrows' : LRows wc w.heap.size rs FIN := ⟨hrows.1, fun r hr => own_mono (hrows.2 r hr) (by simp)⟩
 have HR := Lib.hid hrows'; clear hrows hrows'
 obtain ⟨va, vc, rfl⟩ := own_slice hown
 go_wp2_with fail
 refine (HRC.out _ hB).mono ?_; rintro e wd ⟨rfl, hbw⟩
 replace hown := ownsRow_below' hown hbw
 have HR2 := Lib.hid (HR.out.below hbw)
 replace hB := hB.trans (hbw.mono hB.size); replace hX := hX.below hbw hX.lt; clear hbw HR HRC
 generalize hD : ed a b = D at *
 have hwd := hB.size
 obtain ⟨N, hN⟩ : ∃ N, N = FIN.length := ⟨_, rfl⟩
 have hrN : rs.length = N := by rw [hN, HR2.out.len]
 have hN121 : N ≤ 121 := by rw [hN]; exact hfl
 rw [← hN] at hown ⊢
 obtain ⟨P, hP⟩ : ∃ P : RI → Bool, P = fun r => ed a r.ws + ed r.ws b == D := ⟨_, rfl⟩
 have HP := Lib.hid hP; have HHa := Lib.hid ha; have HHb := Lib.hid hb; have HN := Lib.hid hrN; have HD := Lib.hid hD; clear hD hN hrN hP ha hb hfl
 go_wp2_with fail
 go_loopg [9, 10] N (fun g v i wr => ∃ (k : Nat) (v0 : Value), g = N - k ∧ k ≤ N ∧ v = v0 ∧ i = .int .i64 k ∧ wr.ownsRow wd.heap.size 25 1 v0 ((rs.take k).filter P).length (((rs.take k).filter P).map RI.val) ∧ Below wd.heap.size wd wr)
 case atStart => exact ⟨0, _, rfl, Nat.zero_le _, rfl, rfl, World.ownsRow_nil _ _ _ _, Below.refl _ _⟩
 case round =>
  obtain ⟨k, v0, hg, hk, rfl, rfl, hout, hBd⟩ := hrel
  rename World => wr
  obtain ⟨oa, oc, rfl⟩ := own_slice hout
  have HG := Lib.hid hg; clear hg
  by_cases hlt : k < N
  ·have hlti : (k : Int) < N := by omega
   have hownr := ownsRow_below' hown hBd
   obtain ⟨b', off, hz, rfl, hbb, hc0⟩ := (Rd.of_own hownr).atm hlt
   have hzr : k < rs.length := by simpa using hz
   have hxm := (HR2.out.below hBd).2 _ (List.getElem_mem hzr)
   have htk : rs.take (k + 1) = rs.take k ++ [rs[k]] := List.take_succ_eq_append_getElem hzr
   have hl4 : rs[k].ws.length ≤ 4 := HFM.out _ (by rw [← HR2.out.1]; exact List.mem_map_of_mem (List.getElem_mem hzr))
   have hPx : P rs[k] = (ed a rs[k].ws + ed rs[k].ws b == D) := by rw [HP.out]
   have HTK := Lib.hid htk; clear htk
   have hfl := List.length_filter_le P (rs.take k)
   rw [List.length_take, HN.out] at hfl
   have hF121 : ((rs.take k).filter P).length ≤ 121 := by omega
   clear hfl
   unfold RI.val at hc0 hxm
   generalize rs[k] = xx at *
   clear hz hzr
   obtain ⟨xa, xn, xc, l⟩ := xx
   simp only at hc0 hxm hl4 hPx
   have hxn : xn = l.length := by have h6 := hxm.1; simpa using h6.symm
   subst hxn
   have hle := own_le0 hxm
   have hRx := Rd.of_own hxm
   have c1 := fun (p : Blw wr.heap.size wr) => refChanges_any (n1 + l.length) A1 n1 c1 a xa l.length xc l p.toW (Nat.le_refl _) (by omega) (by omega) HHa.out.1 hle ((HHa.out.toW ((hB.trans (hBd.mono hwd)).trans (p.h.mono (Nat.le_trans hwd hBd.size)))).2.2) (rdB hRx p.h)
   have c2 := fun (p : Blw wr.heap.size wr) => refChanges_any (l.length + n2) xa l.length xc l A2 n2 c2 b p.toW (Nat.le_refl _) (by omega) (by omega) hle HHb.out.1 (rdB hRx p.h) ((HHb.out.toW ((hB.trans (hBd.mono hwd)).trans (p.h.mono (Nat.le_trans hwd hBd.size)))).2.2)
   have hq1 := fun (p : Blw wr.heap.size wr) => ((Blw.h p).cell (p := ⟨b', off + k, none⟩) hbb).trans hc0
   have b1 := ed_le a l; have b2 := ed_le l b
   have hal := HHa.out.len; have hbl := HHb.out.len
   rw [hal] at b1; rw [hbl] at b2
   generalize ed a l = E1 at *
   generalize ed l b = E2 at *
   clear hal hbl
   have m1 : E1 ≤ 6 := by omega
   have m2 : E2 ≤ 6 := by omega
   clear b1 b2
   have HC1 := Lib.hid c1; have HC2 := Lib.hid c2; have HX := Lib.hid hxm; have HPX := Lib.hid hPx; clear c1 c2 hxm hPx hRx
   go_upto_region 7 with (fail)
   refine wp_region_blw (by kernel_rfl) (by kernel_rfl) ?_
   repeat (go_big_quiet_step (fail))
   go_big_quiet_step ((go_at_call 29; exact Calls.blw_of _ (HC1.out _)))
   repeat (go_big_quiet_step (fail))
   go_big_quiet_step ((go_at_call 29; exact Calls.blw_of _ (HC2.out _)))
   repeat (go_big_quiet_step (fail))
   refine wpQuiet_nil ?_
   rintro W3 ⟨⟨_, hb3⟩, rfl⟩
   clear hq1 HC1 HC2
   replace hc0 := (hb3.cell (p := ⟨b', off + k, none⟩) hbb).trans hc0
   replace hout := ownsRow_below' hout hb3
   replace hBd := hBd.trans (hb3.mono hBd.size)
   by_cases hcc : E1 + E2 = D
   ·have hcc1 : E1 + E2 ≤ D := by omega
    have hcc2 : D ≤ E1 + E2 := by omega
    have hPt : P ⟨xa, l.length, xc, l⟩ = true := by rw [HPX.out]; simp [hcc]
    have hft : (rs.take (k + 1)).filter P = (rs.take k).filter P ++ [⟨xa, l.length, xc, l⟩] := by rw [HTK.out, List.filter_append, List.filter_cons_of_pos hPt]; rfl
    have HFT := Lib.hid hft; clear hft hPt hcc HPX
    have hBs := hBd.size
    go_wp2_with (at_builtin; refine wpList_append_any _ rfl _ _ 46 rfl wd.heap.size 25 i25 (.slice none 0 0) 1 24 Tryz.underlying46 hi hz0 hz1' hz2' rfl (by decide) (.slice oa ((rs.take k).filter P).length oc) ((rs.take k).filter P).length (((rs.take k).filter P).map RI.val) rfl (hout.alloc (.cells #[.slice xa l.length xc] 25)) (W3.heap.size + 1) (some ⟨W3.heap.size, 0, none⟩) 1 1 [.slice xa l.length xc] rfl (Rd.blkN (Blk.new W3 25 #[.slice xa l.length xc]) rfl (by omega)).reads (by simp [Value.oneCell']) (by unfold maxLen; omega) (by omega) (by simp only [World.size_alloc]; omega) (fun v3 w3 hown3 hg3 hob3 => ?_))
    have hB2 := (hBd.alloc hBs (.cells #[.slice xa l.length xc] 25)).grown hg3 (by simp only [World.size_alloc]; omega) (fun g hg => ((hout.alloc (.cells #[.slice xa l.length xc] 25)).lt g hg).1)
    go_roundg (N - (k + 1))
    case measure => rw [HG.out]; omega
    case rel => exact ⟨k + 1, v3, rfl, by omega, rfl, by go_num, by rw [HFT.out, List.length_append, List.map_append]; exact hown3, hB2⟩
   ·have hcc1 : ¬ ((E1 : Int) + E2 = D) := by omega
    have hPf : ¬ P ⟨xa, l.length, xc, l⟩ = true := by rw [HPX.out]; simp [hcc]
    have hft : (rs.take (k + 1)).filter P = (rs.take k).filter P := by rw [HTK.out, List.filter_append, List.filter_cons_of_neg hPf]; simp
    have HFT := Lib.hid hft; clear hft hPf hcc HPX
    go_wp2_with (fail)
    go_roundg (N - (k + 1))
    case measure => rw [HG.out]; omega
    case rel => exact ⟨k + 1, _, rfl, by omega, rfl, by go_num, by rw [HFT.out]; exact hout, hBd⟩
  ·obtain rfl : k = N := by omega
   have hge : ¬ (k : Int) < k := by omega
   have htk : rs.take k = rs := List.take_of_length_le (by rw [HN.out]; exact Nat.le_refl _)
   have HTK := Lib.hid htk; clear htk
   go_wp2_with (fail)
   go_ret
   have hD := HD.out
   subst hD
   have hfe : FIN.filter (fun l => ed a l + ed l b == ed a b) = (rs.filter P).map RI.ws := by
    rw [← HR2.out.1, List.filter_map, HP.out]; rfl
   refine ⟨⟨_, rfl, rs.filter P, ?_, ?_, ?_⟩, hB.trans (hBd.mono hwd)⟩
   ·rw [hfe, List.length_map]
    show wr.ownsRow w.heap.size 25 1 (.slice oa ((rs.take k).filter P).length oc) _ _
    rw [HTK.out] at hout ⊢
    exact own_mono hout hwd
   ·exact hfe.symm
   ·exact fun r hr => ownsRow_below' (HR2.out.2 r (List.mem_filter.1 hr).1) hBd
end
section
open Go.RowKit Go.Lib
theorem nwL_lbS {l : List Int} (h : ∀ x ∈ l, 0 ≤ x ∧ x ≤ 2) : nwL (lbS l) = l := by
 unfold nwL lbS lbL
 show (l.map fun x => UInt8.ofNat x.toNat).map (fun b => ((b.toNat : Nat) : Int)) = l
 rw [List.map_map]
 conv => rhs; rw [← List.map_id l]
 refine List.map_congr_left fun x hx => ?_
 have := h x hx
 simp only [Function.comp_apply, UInt8.toNat_ofNat', id]
 omega
theorem allLn_LL (wn : Nat) : allLn wn = (allLL wn).map lbS := by
 unfold allLn allLL
 rw [List.map_flatMap]
theorem allLL_small {wn : Nat} (h3 : wn ≤ 3) {l : List Int} (h : l ∈ allLL wn) : ∀ x ∈ l, 0 ≤ x ∧ x ≤ 2 := fun x hx => by
 have := (allLL_mem h).2 x hx
 omega
theorem between_bet {wn : Nat} (h3 : wn ≤ 3) {a b : List Int} (ha : ∀ x ∈ a, 0 ≤ x ∧ x ≤ 2) (hb : ∀ x ∈ b, 0 ≤ x ∧ x ≤ 2) : (betweenL wn (lbS a) (lbS b)).map nwL = betL wn a b := by
 unfold betweenL betL
 rw [allLn_LL, List.filter_map, List.map_map]
 have e1 : (allLL wn).filter (liesB (lbS a) (lbS b) ∘ lbS) = (allLL wn).filter fun l => ed a l + ed l b == ed a b := by
  refine List.filter_congr fun l hl => ?_
  have hs := allLL_small h3 hl
  simp only [Function.comp_apply, liesB]
  rw [edB_int ha hs, edB_int hs hb, edB_int ha hb]
  by_cases h : ed a l + ed l b = ed a b
  ·rw [decide_eq_true (by omega)]; simp [h]
  ·rw [decide_eq_false (by omega)]; simp [h]
 rw [e1]
 conv => rhs; rw [← List.map_id (List.filter _ (allLL wn))]
 refine List.map_congr_left fun l hl => ?_
 exact nwL_lbS (allLL_small h3 (List.mem_filter.1 hl).1)
theorem LL.of_lrows {w : World} {base N : Nat} {v : Value} {rs : List RI} {L : List (List Int)} (h : w.ownsRow base 25 1 v N (rs.map RI.val)) (hR : LRows w base rs L) (hN : N ≤ 1000000) (hl : ∀ l ∈ L, l.length ≤ 1000) : LL w v L := by
 obtain ⟨a, c, rfl⟩ := own_slice h
 refine ⟨a, N, c, rs, rfl, own_le0 h, own_cap h, hN, Rd.of_own h, fun r hr => ?_, hR.1⟩
 have h2 := hR.2 r hr
 have h4 := hl r.ws (by rw [← hR.1]; exact List.mem_map_of_mem hr)
 have h5 : r.ws.length = r.n := by have := h2.1; simpa using this
 exact ⟨⟨own_le0 h2, own_cap h2, Rd.of_own h2⟩, by omega⟩
theorem betL_le {wn : Nat} (h1 : 1 ≤ wn) (h3 : wn ≤ 3) (a b : List Int) : (betL wn a b).length ≤ 121 ∧ ∀ l ∈ betL wn a b, l.length ≤ 4 :=
 ⟨Nat.le_trans (List.length_filter_le _ _) (allLL_len h1 h3), fun l hl => (allLL_mem (List.mem_filter.1 hl).1).1⟩
section
variable {wn : Nat} {A : Option Addr} {n cap : Nat} {cs : List VC} {w : World} {A1 A2 : Option Addr} {n1 n2 c1 c2 : Nat} {l1 l2 : List Int}
theorem Between_I (h : BkG wn A n cs w w.heap.size) (hk : bookB (wn : Int) cs = true) (h1 : IA w A1 n1 c1 l1) (h2 : IA w A2 n2 c2 l2) (k1 : lnB (wn : Int) l1 = true) (k2 : lnB (wn : Int) l2 = true) :
  Calls Tryz.prog 38 #[.agg #[.int .i64 (wn : Int), .slice A n cap], .slice A1 n1 c1, .slice A2 n2 c2] w fun e w' => (∃ u, e = .returned (.tuple #[u, .int .i64 0]) ∧ LL w' u (betL wn l1 l2)) ∧ Below w.heap.size w w' := by
 refine (Between_yes cap A1 n1 c1 l1 A2 n2 c2 l2 h hk h1.max h1.2.2 h2.max h2.2.2 k1 k2).mono ?_
 rintro e w' ⟨⟨v, rfl, rs, hown, hrows⟩, hb⟩
 have hw := book_W hk
 have s1 := (ln_small hw k1).2; have s2 := (ln_small hw k2).2
 have hl := betL_le h.1.1 h.1.2 l1 l2
 have e0 := between_bet h.1.2 s1 s2
 have e1 : (betweenL wn (lbS l1) (lbS l2)).length = (betL wn l1 l2).length := by rw [← e0, List.length_map]
 refine ⟨⟨v, rfl, LL.of_lrows (L := betL wn l1 l2) (base := w.heap.size) hown ⟨hrows.1.trans e0, fun r hr => (hrows.2 r hr).1⟩ (by omega) (fun l hl' => by have := hl.2 l hl'; omega)⟩, hb⟩
theorem refBetween_I (h : BkG wn A n cs w w.heap.size) (h1 : IA w A1 n1 c1 l1) (h2 : IA w A2 n2 c2 l2) (k1 : n1 ≤ 6) (k2 : n2 ≤ 6) :
  Calls Tryz.prog 40 #[.agg #[.int .i64 (wn : Int), .slice A n cap], .slice A1 n1 c1, .slice A2 n2 c2] w fun e w' => (∃ u, e = .returned u ∧ LL w' u (betL wn l1 l2)) ∧ Below w.heap.size w w' := by
 refine (refBetween_any wn h.1.1 h.1.2 A n cap A1 n1 c1 l1 A2 n2 c2 l2 w h1 h2 k1 k2).mono ?_
 rintro e w' ⟨⟨v, rs, rfl, hown, hrows⟩, hb⟩
 have hl := betL_le h.1.1 h.1.2 l1 l2
 exact ⟨⟨v, rfl, LL.of_lrows hown hrows (by omega) (fun l hl' => by have := hl.2 l hl'; omega)⟩, hb⟩
theorem same_LL_eq {w : World} {v v2 : Value} {l : List (List Int)} (h : LL w v l) (h2 : LL w v2 l) : Calls Tryz.prog 39 #[v, v2] w fun e w' => e = .returned (.bool true) ∧ Below w.heap.size w w' := by
 have h3 := same_LL h h2
 rw [decide_eq_true rfl] at h3
 exact h3
end
theorem betweens_law (W : Int) (A : Option Addr) (n cap : Nat) (cs : List VC) (A1 : Option Addr) (n1 c1 : Nat) (l1 : List Int) (A2 : Option Addr) (n2 c2 : Nat) (l2 : List Int) (m : Int) (w : World) (hE : Env m w) (h : BkI w A n cap cs) (h1 : IA w A1 n1 c1 l1) (h2 : IA w A2 n2 c2 l2) :
  Calls Tryz.prog 7 #[.agg #[.int .i64 W, .slice A n cap], .slice A1 n1 c1, .slice A2 n2 c2] w fun e w' => e = .returned (.bool true) ∧ Below w.heap.size w w' := by
 have hX := Blk.new w 24 #[.int .i64 W, .slice A n cap]
 have hB : Below w.heap.size w (w.alloc (.cells #[.int .i64 W, .slice A n cap] 24)) := (Below.refl _ w).alloc (Nat.le_refl _) _
 have qX := fun i => hX.cell i
 go_enter Tryz.func7, Tryz.ntmps7
 go_wp2_with fail
 refine (short_any W A n cap cs _ (h.toW hB)).mono ?_; rintro e wc ⟨⟨b, rfl⟩, hb⟩
 replace hB := hB.trans (hb.mono hB.size); replace hX := hX.below hb hX.lt; clear hb qX; have qX := fun i => hX.cell i
 cases b with
 | false =>
  clear h1 h2
  go_wp2_with fail
  refine (known_true m _ (hE.below hB)).mono ?_; rintro e wc ⟨rfl, hb⟩
  replace hB := hB.trans (hb.mono hB.size); clear hb
  go_wp2_with fail
  go_ret
  exact ⟨rfl, hB⟩
 | true =>
  by_cases hn1 : (6 : Int) < (n1 : Int)
  ·clear h1 h2
   go_wp2_with fail
   refine (known_true m _ (hE.below hB)).mono ?_; rintro e wc ⟨rfl, hb⟩
   replace hB := hB.trans (hb.mono hB.size); clear hb
   go_wp2_with fail
   go_ret
   exact ⟨rfl, hB⟩
  ·by_cases hn2 : (6 : Int) < (n2 : Int)
   ·clear h1 h2
    go_wp2_with fail
    refine (known_true m _ (hE.below hB)).mono ?_; rintro e wc ⟨rfl, hb⟩
    replace hB := hB.trans (hb.mono hB.size); clear hb
    go_wp2_with fail
    go_ret
    exact ⟨rfl, hB⟩
   ·have hrb := fun wx hx => refBook_any W A n cap cs wx (h.toW hx)
    cases hbk : bookB W cs with
    | false =>
     have hch := fun wx hx => Between_no1 W A n cap cs A1 n1 c1 A2 n2 c2 wx h.max (h.toW hx).2.2.1 (h.toW hx).2.2.2 hbk
     simp only [hbk] at hrb
     have HCH := Lib.hid hch; have HRB := Lib.hid hrb; clear hch hrb hbk h h1 h2
     go_wp2_with fail
     refine (HCH.out _ hB).mono ?_; rintro e wc ⟨rfl, hb⟩
     replace hB := hB.trans (hb.mono hB.size); replace hX := hX.below hb hX.lt; clear hb qX; have qX := fun i => hX.cell i
     go_wp2_with fail
     refine (HRB.out _ hB).mono ?_; rintro e wc ⟨rfl, hb⟩
     replace hB := hB.trans (hb.mono hB.size); replace hX := hX.below hb hX.lt; clear hb qX; have qX := fun i => hX.cell i
     go_wp2_with fail
     refine (known_true m _ (hE.below hB)).mono ?_; rintro e wc ⟨rfl, hb⟩
     replace hB := hB.trans (hb.mono hB.size); clear hb
     go_wp2_with fail
     go_ret
     exact ⟨rfl, hB⟩
    | true =>
     have hl1 := fun wx hx => Line_I (w := wx) (h.toW hx) hbk (h1.toW hx)
     have hl2 := fun wx hx => Line_I (w := wx) (h.toW hx) hbk (h2.toW hx)
     obtain ⟨wn, rfl, hG⟩ := BkG.of_book hbk h.2.2.1 h.2.2.2
     simp only [hbk] at hrb
     cases hk1 : lnB (wn : Int) l1 with
     | false =>
      have hch := fun wx hx => Between_no2 cap A1 n1 c1 A2 n2 c2 (w := wx) (hG.toW hx) hbk l1 h1.max (h1.toW hx).2.2 hk1
      simp only [hk1] at hl1
      have HCH := Lib.hid hch; have HRB := Lib.hid hrb; have HL1 := Lib.hid hl1; clear hch hrb hl1 hl2 hbk hk1 h h1 h2 hG
      go_wp2_with fail
      refine (HCH.out _ hB).mono ?_; rintro e wc ⟨rfl, hb⟩
      replace hB := hB.trans (hb.mono hB.size); replace hX := hX.below hb hX.lt; clear hb qX; have qX := fun i => hX.cell i
      go_wp2_with fail
      refine (HRB.out _ hB).mono ?_; rintro e wc ⟨rfl, hb⟩
      replace hB := hB.trans (hb.mono hB.size); replace hX := hX.below hb hX.lt; clear hb qX; have qX := fun i => hX.cell i
      go_wp2_with fail
      refine (HL1.out _ hB).mono ?_; rintro e wc ⟨rfl, hb⟩
      replace hB := hB.trans (hb.mono hB.size); replace hX := hX.below hb hX.lt; clear hb qX; have qX := fun i => hX.cell i
      go_wp2_with fail
      refine (known_true m _ (hE.below hB)).mono ?_; rintro e wc ⟨rfl, hb⟩
      replace hB := hB.trans (hb.mono hB.size); clear hb
      go_wp2_with fail
      go_ret
      exact ⟨rfl, hB⟩
     | true =>
      cases hk2 : lnB (wn : Int) l2 with
      | false =>
       have hch := fun wx hx => Between_no3 cap A1 n1 c1 A2 n2 c2 (w := wx) (hG.toW hx) hbk l1 h1.max (h1.toW hx).2.2 hk1 l2 h2.max (h2.toW hx).2.2 hk2
       simp only [hk1] at hl1
       simp only [hk2] at hl2
       have HCH := Lib.hid hch; have HRB := Lib.hid hrb; have HL1 := Lib.hid hl1; have HL2 := Lib.hid hl2; clear hch hrb hl1 hl2 hbk hk1 hk2 h h1 h2 hG
       go_wp2_with fail
       refine (HCH.out _ hB).mono ?_; rintro e wc ⟨rfl, hb⟩
       replace hB := hB.trans (hb.mono hB.size); replace hX := hX.below hb hX.lt; clear hb qX; have qX := fun i => hX.cell i
       go_wp2_with fail
       refine (HRB.out _ hB).mono ?_; rintro e wc ⟨rfl, hb⟩
       replace hB := hB.trans (hb.mono hB.size); replace hX := hX.below hb hX.lt; clear hb qX; have qX := fun i => hX.cell i
       go_wp2_with fail
       refine (HL1.out _ hB).mono ?_; rintro e wc ⟨rfl, hb⟩
       replace hB := hB.trans (hb.mono hB.size); replace hX := hX.below hb hX.lt; clear hb qX; have qX := fun i => hX.cell i
       go_wp2_with fail
       refine (HL2.out _ hB).mono ?_; rintro e wc ⟨rfl, hb⟩
       replace hB := hB.trans (hb.mono hB.size); replace hX := hX.below hb hX.lt; clear hb qX; have qX := fun i => hX.cell i
       go_wp2_with fail
       refine (known_true m _ (hE.below hB)).mono ?_; rintro e wc ⟨rfl, hb⟩
       replace hB := hB.trans (hb.mono hB.size); clear hb
       go_wp2_with fail
       go_ret
       exact ⟨rfl, hB⟩
      | true =>
       have hch := fun wx hx => Between_I (cap := cap) (w := wx) (hG.toW hx) hbk (h1.toW hx) (h2.toW hx) hk1 hk2
       have hrf := fun wx hx => refBetween_I (cap := cap) (w := wx) (hG.toW hx) (h1.toW hx) (h2.toW hx) (by omega) (by omega)
       simp only [hk1] at hl1
       simp only [hk2] at hl2
       generalize betL wn l1 l2 = L at *
       have HCH := Lib.hid hch; have HRF := Lib.hid hrf; have HRB := Lib.hid hrb; have HL1 := Lib.hid hl1; have HL2 := Lib.hid hl2; clear hch hrf hrb hl1 hl2 hbk hk1 hk2 h h1 h2 hG
       go_wp2_with fail
       refine (HCH.out _ hB).mono ?_; rintro e wc ⟨⟨u, rfl, hU⟩, hb⟩
       replace hB := hB.trans (hb.mono hB.size); replace hX := hX.below hb hX.lt; clear hb qX; have qX := fun i => hX.cell i
       go_wp2_with fail
       refine (HRB.out _ hB).mono ?_; rintro e wc ⟨rfl, hb⟩
       replace hB := hB.trans (hb.mono hB.size); replace hX := hX.below hb hX.lt; replace hU := hU.below hb; clear hb qX; have qX := fun i => hX.cell i
       go_wp2_with fail
       refine (HL1.out _ hB).mono ?_; rintro e wc ⟨rfl, hb⟩
       replace hB := hB.trans (hb.mono hB.size); replace hX := hX.below hb hX.lt; replace hU := hU.below hb; clear hb qX; have qX := fun i => hX.cell i
       go_wp2_with fail
       refine (HL2.out _ hB).mono ?_; rintro e wc ⟨rfl, hb⟩
       replace hB := hB.trans (hb.mono hB.size); replace hX := hX.below hb hX.lt; replace hU := hU.below hb; clear hb qX; have qX := fun i => hX.cell i
       go_wp2_with fail
       refine (HRF.out _ hB).mono ?_; rintro e wc ⟨⟨v, rfl, hV⟩, hb⟩
       replace hB := hB.trans (hb.mono hB.size); replace hX := hX.below hb hX.lt; replace hU := hU.below hb; clear hb qX; have qX := fun i => hX.cell i
       go_wp2_with fail
       refine (same_LL_eq hU hV).mono ?_; rintro e wc ⟨rfl, hb⟩
       replace hB := hB.trans (hb.mono hB.size); replace hX := hX.below hb hX.lt; clear hU hV; clear hb qX; have qX := fun i => hX.cell i
       go_wp2_with fail
       refine (known_true m _ (hE.below hB)).mono ?_; rintro e wc ⟨rfl, hb⟩
       replace hB := hB.trans (hb.mono hB.size); clear hb
       go_wp2_with fail
       go_ret
       exact ⟨rfl, hB⟩
end
end Go.Proofs.YtekmnelpkogppaaGreatDoor
