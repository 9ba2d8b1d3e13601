import Derived.Test.YtifddfchpknkbaaGreatDoorAs
import Derived.Test.YtifddfchpknkbaaGreatDoorTx
import Derived.Test.YtifddfchpknkbaaGreatDoorRa
set_option linter.unusedVariables false
set_option linter.unusedSimpArgs false
namespace Go.Proofs.YtifddfchpknkbaaGreatDoor
open Go.RowKit

set_option maxRecDepth 100000 in
set_option maxHeartbeats 3200000 in
theorem refSeen_any (Wn : Nat) (H F L X Y : Int) (A : Option Addr) (n scap : Nat) (rs : List ByteArray) (row : ByteArray) (k c : Nat) (w : World) (hW : 1 ≤ Wn) (hW2 : Wn ≤ 100) (hk2 : k ≤ 10000) (hn : n ≤ 10000) (hz : rs[k / Wn]? = some row) (hrz : row.size = Wn) (hc : c < 256) (hr : Rd w w.heap.size 1 A n (rs.map Value.string)) :
    Calls Tryz.prog 82 #[.agg #[.int .i64 Wn, .int .i64 H, .int .i64 F, .int .i64 L, .int .i64 X, .int .i64 Y], .slice A n scap, .int .i64 k, .int .u8 c] w fun e w' => ∃ v, e = .returned v ∧ w'.ownsRow w.heap.size 9 1 v n ((rs.set (k / Wn) (seenRow row c (k % Wn))).map Value.string) ∧ Below w.heap.size w w' := by
  have hlen := hr.len
  obtain ⟨i0, hi0, hz0, hz1', hz2'⟩ := info_parts info9
  have hkn : k / Wn < n := by obtain ⟨hin, _⟩ := List.getElem?_eq_some_iff.1 hz; omega
  have hq1 : k / Wn ≤ k := Nat.div_le_self _ _
  have hr1 : k % Wn < Wn := Nat.mod_lt _ (by omega)
  have ed : (k : Int).tdiv (Wn : Int) = ((k / Wn : Nat) : Int) := rfl
  have em : (k : Int).tmod (Wn : Int) = ((k % Wn : Nat) : Int) := rfl
  have hW0 : ¬ Wn = 0 := by omega
  generalize k % Wn = kc at *
  generalize k / Wn = km at *
  have ed2 := i64_ok (km : Int) (by omega)
  have em2 := i64_ok (kc : Int) (by omega)
  have ec2 := i64_ok ((kc : Int) + 1) (by omega)
  have hkn2 : (km : Int) < n := by omega
  have hkc2 : (kc : Int) ≤ row.size := by omega
  have hkc3 : (kc : Int) + 1 ≤ row.size := by omega
  have hkc4 : kc ≤ Wn := by omega
  have hkc5 : kc + 1 ≤ Wn := by omega
  have hkc6 : 0 ≤ (kc : Int) + 1 := by omega
  have hkc7 : (kc : Int) + 1 ≤ Wn := by omega
  have hkc9 : ¬ 9223372036854775807 < Wn := by omega
  have hkc8 : ¬ 9223372036854775807 < kc + 1 := by omega
  have HLEN := Lib.hid hlen
  clear hlen
  have hA : Blk (w.alloc (.cells #[.int .i64 Wn, .int .i64 H, .int .i64 F, .int .i64 L, .int .i64 X, .int .i64 Y] 23)) w.heap.size 23 #[.int .i64 Wn, .int .i64 H, .int .i64 F, .int .i64 L, .int .i64 X, .int .i64 Y] := Blk.new _ _ _
  have hB : Below w.heap.size w (w.alloc (.cells #[.int .i64 Wn, .int .i64 H, .int .i64 F, .int .i64 L, .int .i64 X, .int .i64 Y] 23)) := (Below.refl _ w).alloc (Nat.le_refl _) _
  have hr1 := (hr.below hB).more hB.size
  have hqA := fun i => hA.cell i
  have hlA := hA.lt
  go_enter Tryz.func82, Tryz.ntmps82
  go_upto_region 2 with (first
    | (at_builtin; refine wpList_append_any _ rfl _ _ 24 rfl w.heap.size 9 i0 (.string ByteArray.empty) 1 16 Tryz.underlying24 hi0 hz0 hz1' hz2' rfl (by decide) (.slice none 0 0) 0 [] rfl (World.ownsRow_nil _ _ _ _) _ A n scap _ rfl hr1.reads (by simp [Value.oneCell']) (by unfold maxLen; omega) (by omega) (by exact hB.size) (fun v' w1 hown' hgrow hob => ?_); rw [Nat.zero_add, List.nil_append] at hown'; obtain ⟨g, cap', rfl, hg1, hg2⟩ := hown'.form (show 0 < n by omega); replace hA := hA.kept_own (World.ownsRow_nil _ w.heap.size 9 1) (by decide) hgrow; replace hB := hB.grown hgrow hB.size (fun z hz => by cases hz); clear hqA hlA; have hqA := fun i => hA.cell i; have hlA := hA.lt; have hcg : w1.cell? ⟨g, km, none⟩ = some (.string row) := (by rw [hown'.cellAt km (by omega), List.getElem?_map, hz]; rfl)))
  go_upto_region 3 with (fail)
  refine wp_region_G (fun w' => Blk w' w.heap.size 23 #[.int .i64 Wn, .int .i64 H, .int .i64 F, .int .i64 L, .int .i64 X, .int .i64 Y]) 24 (by kernel_rfl) ?_
  replace hA := hA.drew; replace hB := hB.drew; replace hown' := hown'.drew; replace hg2 := (show g < w1.drew.heap.size from hg2)
  have hsz1 : (strOfNums [(c : Int)]).size = 1 := rfl
  have hx1 : (row.extract 0 kc).size ≤ 100 := by simp [ByteArray.size_extract]; omega
  have hx2 : (row.extract (kc + 1) row.size).size ≤ 100 := by simp [ByteArray.size_extract]; omega
  have hTT := hA
  refine wpG_take (i := 0) (v := ?v0) rfl (by kernel_rfl) (by kernel_rfl) (by kernel_rfl) (by kernel_rfl) (fun _ _ _ h => h) (Or.inl ⟨by rfl, ?hy0⟩) hTT ?rest0
  case hy0 => intro wq hSw; have hq1 := fun i => hSw.cell i; go_simp <;> with_reducible rfl
  simp only [List.getElem_toArray, List.getElem_cons_zero, List.getElem_cons_succ, Act.put, List.setIfInBounds_toArray, List.set_cons_zero, List.set_cons_succ]
  refine wpG_take (i := 1) (v := ?v1) rfl (by kernel_rfl) (by kernel_rfl) (by kernel_rfl) (by kernel_rfl) (fun _ _ _ h => h) (Or.inl ⟨by rfl, ?hy1⟩) hTT ?rest1
  case hy1 => intro wq hSw; have hq1 := fun i => hSw.cell i; go_simp <;> with_reducible rfl
  simp only [List.getElem_toArray, List.getElem_cons_zero, List.getElem_cons_succ, Act.put, List.setIfInBounds_toArray, List.set_cons_zero, List.set_cons_succ]
  refine wpG_take (i := 2) (v := ?v2) rfl (by kernel_rfl) (by kernel_rfl) (by kernel_rfl) (by kernel_rfl) (fun _ _ _ h => h) (Or.inl ⟨by rfl, ?hy2⟩) hTT ?rest2
  case hy2 => intro wq hSw; have hq1 := fun i => hSw.cell i; go_simp <;> with_reducible rfl
  simp only [List.getElem_toArray, List.getElem_cons_zero, List.getElem_cons_succ, Act.put, List.setIfInBounds_toArray, List.set_cons_zero, List.set_cons_succ]
  refine wpG_take (i := 3) (v := ?v3) rfl (by kernel_rfl) (by kernel_rfl) (by kernel_rfl) (by kernel_rfl) (fun _ _ _ h => h) (Or.inl ⟨by rfl, ?hy3⟩) hTT ?rest3
  case hy3 => intro wq hSw; have hq1 := fun i => hSw.cell i; go_simp <;> with_reducible rfl
  simp only [List.getElem_toArray, List.getElem_cons_zero, List.getElem_cons_succ, Act.put, List.setIfInBounds_toArray, List.set_cons_zero, List.set_cons_succ]
  refine wpG_take (i := 4) (v := ?v4) rfl (by kernel_rfl) (by kernel_rfl) (by kernel_rfl) (by kernel_rfl) (fun _ _ _ h => h) (Or.inl ⟨by rfl, ?hy4⟩) hTT ?rest4
  case hy4 => intro wq hSw; have hq1 := fun i => hSw.cell i; go_simp <;> with_reducible rfl
  simp only [List.getElem_toArray, List.getElem_cons_zero, List.getElem_cons_succ, Act.put, List.setIfInBounds_toArray, List.set_cons_zero, List.set_cons_succ]
  refine wpG_take (i := 5) (v := ?v5) rfl (by kernel_rfl) (by kernel_rfl) (by kernel_rfl) (by kernel_rfl) (fun _ _ _ h => h) (Or.inl ⟨by rfl, ?hy5⟩) hTT ?rest5
  case hy5 => intro wq hSw; have hq1 := fun i => hSw.cell i; go_simp <;> with_reducible rfl
  simp only [List.getElem_toArray, List.getElem_cons_zero, List.getElem_cons_succ, Act.put, List.setIfInBounds_toArray, List.set_cons_zero, List.set_cons_succ]
  refine wpG_take (i := 6) (v := ?v6) rfl (by kernel_rfl) (by kernel_rfl) (by kernel_rfl) (by kernel_rfl) (fun _ _ _ h => h) (Or.inl ⟨by rfl, ?hy6⟩) hTT ?rest6
  case hy6 => intro wq hSw; have hq1 := fun i => hSw.cell i; go_simp <;> with_reducible rfl
  simp only [List.getElem_toArray, List.getElem_cons_zero, List.getElem_cons_succ, Act.put, List.setIfInBounds_toArray, List.set_cons_zero, List.set_cons_succ]
  refine wpG_take (i := 7) (v := ?v7) rfl (by kernel_rfl) (by kernel_rfl) (by kernel_rfl) (by kernel_rfl) (fun _ _ _ h => h) (Or.inl ⟨by rfl, ?hy7⟩) hTT ?rest7
  case hy7 => intro wq hSw; have hq1 := fun i => hSw.cell i; go_simp <;> with_reducible rfl
  simp only [List.getElem_toArray, List.getElem_cons_zero, List.getElem_cons_succ, Act.put, List.setIfInBounds_toArray, List.set_cons_zero, List.set_cons_succ]
  refine wpG_take (i := 8) (v := ?v8) rfl (by kernel_rfl) (by kernel_rfl) (by kernel_rfl) (by kernel_rfl) (fun _ _ _ h => h) (Or.inl ⟨by rfl, ?hy8⟩) hTT ?rest8
  case hy8 => intro wq hSw; have hq1 := fun i => hSw.cell i; go_simp <;> with_reducible rfl
  simp only [List.getElem_toArray, List.getElem_cons_zero, List.getElem_cons_succ, Act.put, List.setIfInBounds_toArray, List.set_cons_zero, List.set_cons_succ]
  refine wpG_take (i := 9) (v := ?v9) rfl (by kernel_rfl) (by kernel_rfl) (by kernel_rfl) (by kernel_rfl) (fun _ _ _ h => h) (Or.inl ⟨by rfl, ?hy9⟩) hTT ?rest9
  case hy9 => intro wq hSw; have hq1 := fun i => hSw.cell i; go_simp <;> with_reducible rfl
  simp only [List.getElem_toArray, List.getElem_cons_zero, List.getElem_cons_succ, Act.put, List.setIfInBounds_toArray, List.set_cons_zero, List.set_cons_succ]
  refine wpG_take (i := 10) (v := ?v10) rfl (by kernel_rfl) (by kernel_rfl) (by kernel_rfl) (by kernel_rfl) (fun _ _ _ h => h) (Or.inl ⟨by rfl, ?hy10⟩) hTT ?rest10
  case hy10 => intro wq hSw; have hq1 := fun i => hSw.cell i; go_simp <;> with_reducible rfl
  simp only [List.getElem_toArray, List.getElem_cons_zero, List.getElem_cons_succ, Act.put, List.setIfInBounds_toArray, List.set_cons_zero, List.set_cons_succ]
  refine wpG_take (i := 11) (v := ?v11) rfl (by kernel_rfl) (by kernel_rfl) (by kernel_rfl) (by kernel_rfl) (fun _ _ _ h => h) (Or.inl ⟨by rfl, ?hy11⟩) hTT ?rest11
  case hy11 => intro wq hSw; have hq1 := fun i => hSw.cell i; go_simp <;> with_reducible rfl
  simp only [List.getElem_toArray, List.getElem_cons_zero, List.getElem_cons_succ, Act.put, List.setIfInBounds_toArray, List.set_cons_zero, List.set_cons_succ]
  refine wpG_take (i := 15) (v := ?v15) rfl (by kernel_rfl) (by kernel_rfl) (by kernel_rfl) (by kernel_rfl) (fun _ _ _ h => h) (Or.inl ⟨by rfl, ?hy15⟩) hTT ?rest15
  case hy15 => intro wq hSw; have hq1 := fun i => hSw.cell i; go_simp <;> with_reducible rfl
  simp only [List.getElem_toArray, List.getElem_cons_zero, List.getElem_cons_succ, Act.put, List.setIfInBounds_toArray, List.set_cons_zero, List.set_cons_succ]
  refine wpG_take (i := 16) (v := ?v16) rfl (by kernel_rfl) (by kernel_rfl) (by kernel_rfl) (by kernel_rfl) (fun _ _ _ h => h) (Or.inl ⟨by rfl, ?hy16⟩) hTT ?rest16
  case hy16 => intro wq hSw; have hq1 := fun i => hSw.cell i; go_simp <;> with_reducible rfl
  simp only [List.getElem_toArray, List.getElem_cons_zero, List.getElem_cons_succ, Act.put, List.setIfInBounds_toArray, List.set_cons_zero, List.set_cons_succ]
  refine wpG_take (i := 17) (v := ?v17) rfl (by kernel_rfl) (by kernel_rfl) (by kernel_rfl) (by kernel_rfl) (fun _ _ _ h => h) (Or.inl ⟨by rfl, ?hy17⟩) hTT ?rest17
  case hy17 => intro wq hSw; have hq1 := fun i => hSw.cell i; go_simp <;> with_reducible rfl
  simp only [List.getElem_toArray, List.getElem_cons_zero, List.getElem_cons_succ, Act.put, List.setIfInBounds_toArray, List.set_cons_zero, List.set_cons_succ]
  refine wpG_take (i := 18) (v := ?v18) rfl (by kernel_rfl) (by kernel_rfl) (by kernel_rfl) (by kernel_rfl) (fun _ _ _ h => h) (Or.inl ⟨by rfl, ?hy18⟩) hTT ?rest18
  case hy18 => intro wq hSw; have hq1 := fun i => hSw.cell i; go_simp <;> with_reducible rfl
  simp only [List.getElem_toArray, List.getElem_cons_zero, List.getElem_cons_succ, Act.put, List.setIfInBounds_toArray, List.set_cons_zero, List.set_cons_succ]
  refine wpG_take (i := 19) (v := ?v19) rfl (by kernel_rfl) (by kernel_rfl) (by kernel_rfl) (by kernel_rfl) (fun _ _ _ h => h) (Or.inl ⟨by rfl, ?hy19⟩) hTT ?rest19
  case hy19 => intro wq hSw; have hq1 := fun i => hSw.cell i; go_simp <;> with_reducible rfl
  simp only [List.getElem_toArray, List.getElem_cons_zero, List.getElem_cons_succ, Act.put, List.setIfInBounds_toArray, List.set_cons_zero, List.set_cons_succ]
  refine wpG_take (i := 20) (v := ?v20) rfl (by kernel_rfl) (by kernel_rfl) (by kernel_rfl) (by kernel_rfl) (fun _ _ _ h => h) (Or.inl ⟨by rfl, ?hy20⟩) hTT ?rest20
  case hy20 => intro wq hSw; have hq1 := fun i => hSw.cell i; go_simp <;> with_reducible rfl
  simp only [List.getElem_toArray, List.getElem_cons_zero, List.getElem_cons_succ, Act.put, List.setIfInBounds_toArray, List.set_cons_zero, List.set_cons_succ]
  refine wpG_take (i := 21) (v := ?v21) rfl (by kernel_rfl) (by kernel_rfl) (by kernel_rfl) (by kernel_rfl) (fun _ _ _ h => h) (Or.inl ⟨by rfl, ?hy21⟩) hTT ?rest21
  case hy21 => intro wq hSw; have hq1 := fun i => hSw.cell i; go_simp <;> with_reducible rfl
  simp only [List.getElem_toArray, List.getElem_cons_zero, List.getElem_cons_succ, Act.put, List.setIfInBounds_toArray, List.set_cons_zero, List.set_cons_succ]
  refine wpG_one (i := 12) rfl (by kernel_rfl) (fun K hK => ?_)
  go_simp
  replace hA := hA.alloc (.cells #[.int .u8 c] 5); replace hB := hB.alloc hB.size (.cells #[.int .u8 c] 5); replace hown' := hown'.alloc (.cells #[.int .u8 c] 5); clear hTT; have hTT := hA; have kc' := run_convert_bytes_arg (P := Tryz.prog) (w1.alloc (.cells #[.int .u8 c] 5)).drew 89 5 Tryz.underlying89 Tryz.underlying5 w1.heap.size 0 1 1 [(c : Int)] rfl (fun i hi => by obtain rfl : i = 0 := (by omega); simp) 9 Tryz.underlying9
  refine hK _ _ (.inr hTT) ?_
  clear hK K
  try simp only [List.getElem_toArray, List.getElem_cons_zero, List.getElem_cons_succ, Act.put, List.setIfInBounds_toArray, List.set_cons_zero, List.set_cons_succ]
  refine wpG_one (i := 13) rfl (by kernel_rfl) (fun K hK => ?_)
  go_simp
  refine hK _ _ (.inr hTT) ?_
  clear hK K
  try simp only [List.getElem_toArray, List.getElem_cons_zero, List.getElem_cons_succ, Act.put, List.setIfInBounds_toArray, List.set_cons_zero, List.set_cons_succ]
  refine wpG_take (i := 14) (v := ?v14) rfl (by kernel_rfl) (by kernel_rfl) (by kernel_rfl) (by kernel_rfl) (fun _ _ _ h => h) (Or.inl ⟨by rfl, ?hy14⟩) hTT ?rest14
  case hy14 => intro wq hSw; have hq1 := fun i => hSw.cell i; go_simp <;> with_reducible rfl
  simp only [List.getElem_toArray, List.getElem_cons_zero, List.getElem_cons_succ, Act.put, List.setIfInBounds_toArray, List.set_cons_zero, List.set_cons_succ]
  refine wpG_take (i := 22) (v := ?v22) rfl (by kernel_rfl) (by kernel_rfl) (by kernel_rfl) (by kernel_rfl) (fun _ _ _ h => h) (Or.inl ⟨by rfl, ?hy22⟩) hTT ?rest22
  case hy22 => intro wq hSw; have hq1 := fun i => hSw.cell i; go_simp <;> with_reducible rfl
  simp only [List.getElem_toArray, List.getElem_cons_zero, List.getElem_cons_succ, Act.put, List.setIfInBounds_toArray, List.set_cons_zero, List.set_cons_succ]
  refine wpG_take (i := 23) (v := ?v23) rfl (by kernel_rfl) (by kernel_rfl) (by kernel_rfl) (by kernel_rfl) (fun _ _ _ h => h) (Or.inl ⟨by rfl, ?hy23⟩) hTT ?rest23
  case hy23 => intro wq hSw; have hq1 := fun i => hSw.cell i; go_simp <;> with_reducible rfl
  simp only [List.getElem_toArray, List.getElem_cons_zero, List.getElem_cons_succ, Act.put, List.setIfInBounds_toArray, List.set_cons_zero, List.set_cons_succ]
  have hc4 : (w1.alloc (.cells #[.int .u8 c] 5)).drew.cell? ⟨g, km, none⟩ = some (.string row) := by
    have h := hown'.cellAt km (by omega)
    rw [List.getElem?_map, hz] at h
    exact h
  have hf4 : (w1.alloc (.cells #[.int .u8 c] 5)).frozen? ⟨g, km, none⟩ = false := hown'.frozenAt km
  refine wpG_one (i := 24) rfl (by kernel_rfl) (fun K hK => ?_)
  go_simp
  refine hK _ _ (.inl rfl) ?_
  clear hK K
  try simp only [List.getElem_toArray, List.getElem_cons_zero, List.getElem_cons_succ, Act.put, List.setIfInBounds_toArray, List.set_cons_zero, List.set_cons_succ]
  refine wpG_done (by kernel_rfl) ?_ _
  have kown := (hown'.stored km (.string (row.extract 0 kc ++ strOfNums [(c : Int)] ++ row.extract (kc + 1) row.size))).1
  rw [show (rs.map Value.string).set km (.string (row.extract 0 kc ++ strOfNums [(c : Int)] ++ row.extract (kc + 1) row.size)) = (rs.set km (seenRow row c kc)).map Value.string by rw [List.map_set]; rfl] at kown
  rw [hrz] at kown
  have kB := hB.setCell (p := ⟨g, km, none⟩) (show w.heap.size ≤ g by omega) (.string (row.extract 0 kc ++ strOfNums [(c : Int)] ++ row.extract (kc + 1) row.size))
  rw [hrz] at kB
  clear hTT hc4 hf4 hqA hcg
  go_wp2_with (fail)
  go_ret
  exact ⟨_, rfl, kown, kB⟩
end Go.Proofs.YtifddfchpknkbaaGreatDoor
