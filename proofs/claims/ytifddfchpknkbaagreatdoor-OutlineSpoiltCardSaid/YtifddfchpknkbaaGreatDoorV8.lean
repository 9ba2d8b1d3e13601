import Derived.Test.YtifddfchpknkbaaGreatDoorV1
import Derived.Test.YtifddfchpknkbaaGreatDoorTx
import Derived.Test.YtifddfchpknkbaaGreatDoorPf
set_option linter.unusedVariables false
set_option linter.unusedSimpArgs false
namespace Go.Proofs.YtifddfchpknkbaaGreatDoor
open Go.RowKit Go.Lib

theorem nums_dgt (d : Nat) (hd : d < 10) : strOfNums [48 + (d : Int)] = ⟨#[dgt d]⟩ := by
  have e : (48 + (d : Int)) = ((48 + d : Nat) : Int) := by omega
  rw [e]; rfl
set_option maxRecDepth 100000 in
set_option maxHeartbeats 25600000 in
theorem decimal_two (n : Nat) (w : World) (h0 : 10 ≤ n) (h1 : n < 100) :
    Calls Tryz.prog 178 #[.int .i64 n] w fun e w' => e = .returned (.string (dS n)) ∧ Below w.heap.size w w' := by
  have hD := fun wx => decimal_small ((n / 10 : Nat) : Int) wx (by omega) (by omega)
  have hfn : Ending.returned (Value.string (strOfNums [48 + ((n / 10 : Nat) : Int)] ++ strOfNums [48 + ((n % 10 : Nat) : Int)])) = Ending.returned (Value.string (dS n)) := by
    rw [nums_dgt _ (by omega), nums_dgt _ (by omega), ba_cons]
    unfold dS
    rw [decDigits_two (by omega) h1]
    rfl
  have HFN := Lib.hid hfn; clear hfn
  have ed : (n : Int).tdiv 10 = ((n / 10 : Nat) : Int) := rfl
  have em : (n : Int).tmod 10 = ((n % 10 : Nat) : Int) := rfl
  have hd1 : n / 10 < 10 := by omega
  have hd2 : n % 10 < 10 := by omega
  have a1 : ¬ (n : Int) < 0 := by omega
  have a2 : ¬ (n : Int) < 10 := by omega
  have a3 : ¬ n < 10 := by omega
  obtain ⟨d1, e1⟩ : ∃ d1 : Int, d1 = ((n / 10 : Nat) : Int) := ⟨_, rfl⟩
  obtain ⟨d2, e2⟩ : ∃ d2 : Int, d2 = ((n % 10 : Nat) : Int) := ⟨_, rfl⟩
  have b1 : 0 ≤ d1 ∧ d1 < 10 := by omega
  have b2 : 0 ≤ d2 ∧ d2 < 10 := by omega
  rw [← e1] at ed hD HFN
  rw [← e2] at em HFN
  obtain ⟨b1, b1'⟩ := b1
  obtain ⟨b2, b2'⟩ := b2
  clear e1 e2 hd1 hd2
  have hw1 := i64_ok d1 (by omega)
  have hw2 := i64_ok d2 (by omega)
  have hw3 := i64_ok (48 + d2) (by omega)
  have hw4 : IntKind.u8.wrap (48 + d2) = 48 + d2 := by simp only [IntKind.wrap, IntKind.signed, IntKind.bits]; simp; omega
  have hsz1 : (strOfNums [48 + d1]).size = 1 := rfl
  have hsz2 : (strOfNums [48 + d2]).size = 1 := rfl
  have HD := Lib.hid hD; clear hD
  go_enter Tryz.func178, Tryz.ntmps178
  go_upto_region 7 with (fail)
  refine wp_region_G (fun w' => Below w.drew.heap.size w.drew w') 10 (by kernel_rfl) ?_
  have hB0 : Below w.heap.size w w.drew := Below.drew (Below.refl w.heap.size w)
  generalize w.drew = WD at *
  have hTT : Below WD.heap.size WD WD := Below.refl _ _
  refine wpG_take (i := 0) (v := ?vd0) rfl (by kernel_rfl) (by kernel_rfl) (by kernel_rfl) (by kernel_rfl) (fun _ _ _ h => h) (Or.inl ⟨by rfl, ?hyd0⟩) hTT ?restd0
  case hyd0 => intro wq hSw; go_simp <;> with_reducible rfl
  simp only [List.getElem_toArray, List.getElem_cons_zero, List.getElem_cons_succ, Act.put, List.setIfInBounds_toArray, List.set_cons_zero, List.set_cons_succ]
  refine wpG_take (i := 1) (v := ?vd1) rfl (by kernel_rfl) (by kernel_rfl) (by kernel_rfl) (by kernel_rfl) (fun _ _ _ h => h) (Or.inl ⟨by rfl, ?hyd1⟩) hTT ?restd1
  case hyd1 => intro wq hSw; go_simp <;> with_reducible rfl
  simp only [List.getElem_toArray, List.getElem_cons_zero, List.getElem_cons_succ, Act.put, List.setIfInBounds_toArray, List.set_cons_zero, List.set_cons_succ]
  refine wpG_take (i := 3) (v := ?vd3) rfl (by kernel_rfl) (by kernel_rfl) (by kernel_rfl) (by kernel_rfl) (fun _ _ _ h => h) (Or.inl ⟨by rfl, ?hyd3⟩) hTT ?restd3
  case hyd3 => intro wq hSw; go_simp <;> with_reducible rfl
  simp only [List.getElem_toArray, List.getElem_cons_zero, List.getElem_cons_succ, Act.put, List.setIfInBounds_toArray, List.set_cons_zero, List.set_cons_succ]
  refine wpG_take (i := 4) (v := ?vd4) rfl (by kernel_rfl) (by kernel_rfl) (by kernel_rfl) (by kernel_rfl) (fun _ _ _ h => h) (Or.inl ⟨by rfl, ?hyd4⟩) hTT ?restd4
  case hyd4 => intro wq hSw; go_simp <;> with_reducible rfl
  simp only [List.getElem_toArray, List.getElem_cons_zero, List.getElem_cons_succ, Act.put, List.setIfInBounds_toArray, List.set_cons_zero, List.set_cons_succ]
  refine wpG_take (i := 5) (v := ?vd5) rfl (by kernel_rfl) (by kernel_rfl) (by kernel_rfl) (by kernel_rfl) (fun _ _ _ h => h) (Or.inl ⟨by rfl, ?hyd5⟩) hTT ?restd5
  case hyd5 => intro wq hSw; go_simp <;> with_reducible rfl
  simp only [List.getElem_toArray, List.getElem_cons_zero, List.getElem_cons_succ, Act.put, List.setIfInBounds_toArray, List.set_cons_zero, List.set_cons_succ]
  refine wpG_take (i := 6) (v := ?vd6) rfl (by kernel_rfl) (by kernel_rfl) (by kernel_rfl) (by kernel_rfl) (fun _ _ _ h => h) (Or.inl ⟨by rfl, ?hyd6⟩) hTT ?restd6
  case hyd6 => intro wq hSw; go_simp <;> with_reducible rfl
  simp only [List.getElem_toArray, List.getElem_cons_zero, List.getElem_cons_succ, Act.put, List.setIfInBounds_toArray, List.set_cons_zero, List.set_cons_succ]
  refine wpG_two (i := 2) (j := 7) rfl rfl (by kernel_rfl) (fun K hK => ?_) (fun K hK => ?_)
  · go_simp
    refine (HD.out _).mono ?_; rintro e w1 ⟨rfl, hb⟩
    replace hTT := hTT.trans (hb.mono hTT.size); (try replace hBk := hBk.below hb hBk.lt); clear hb; dsimp only
    refine hK _ _ (.inr hTT) ?_
    clear hK K
    try simp only [List.getElem_toArray, List.getElem_cons_zero, List.getElem_cons_succ, Act.put, List.setIfInBounds_toArray, List.set_cons_zero, List.set_cons_succ]
    refine wpG_one (i := 7) rfl (by kernel_rfl) (fun K hK => ?_)
    go_simp
    rename World => WB
    have hBk := Blk.new WB 5 #[.int .u8 (48 + d2)]
    obtain ⟨g, hg⟩ : ∃ g, g = WB.heap.size := ⟨_, rfl⟩
    rw [← hg] at hBk ⊢
    replace hTT := hTT.alloc hTT.size (.cells #[.int .u8 (48 + d2)] 5)
    refine hK _ _ (.inr hTT) ?_
    clear hK K hg
    generalize WB.alloc (.cells #[.int .u8 (48 + d2)] 5) = WC at *
    try simp only [List.getElem_toArray, List.getElem_cons_zero, List.getElem_cons_succ, Act.put, List.setIfInBounds_toArray, List.set_cons_zero, List.set_cons_succ]
    refine wpG_one (i := 8) rfl (by kernel_rfl) (fun K hK => ?_)
    have kc := run_convert_bytes_arg (P := Tryz.prog) _ 89 5 Tryz.underlying89 Tryz.underlying5 g 0 1 1 [48 + d2] rfl (fun i hi => by obtain rfl : i = 0 := (by omega); rw [hBk.cell]; rfl) 9 Tryz.underlying9
    go_simp
    refine hK _ _ (.inr hTT) ?_
    clear hK K kc
    try simp only [List.getElem_toArray, List.getElem_cons_zero, List.getElem_cons_succ, Act.put, List.setIfInBounds_toArray, List.set_cons_zero, List.set_cons_succ]
    refine wpG_take (i := 9) (v := ?vp9) rfl (by kernel_rfl) (by kernel_rfl) (by kernel_rfl) (by kernel_rfl) (fun _ _ _ h => h) (Or.inl ⟨by rfl, ?hyp9⟩) hTT ?restp9
    case hyp9 => intro wq hSw; go_simp <;> with_reducible rfl
    simp only [List.getElem_toArray, List.getElem_cons_zero, List.getElem_cons_succ, Act.put, List.setIfInBounds_toArray, List.set_cons_zero, List.set_cons_succ]
    refine wpG_one (i := 10) rfl (by kernel_rfl) (fun K hK => ?_)
    go_simp
    refine hK _ _ (.inl rfl) ?_
    clear hK K
    try simp only [List.getElem_toArray, List.getElem_cons_zero, List.getElem_cons_succ, Act.put, List.setIfInBounds_toArray, List.set_cons_zero, List.set_cons_succ]
    refine wpG_done (by kernel_rfl) ?_ _
    go_wp2_with (fail)
    go_ret
    exact ⟨HFN.out, hB0.trans (hTT.mono hB0.size)⟩
  · go_simp
    rename World => WB
    have hBk := Blk.new WB 5 #[.int .u8 (48 + d2)]
    obtain ⟨g, hg⟩ : ∃ g, g = WB.heap.size := ⟨_, rfl⟩
    rw [← hg] at hBk ⊢
    replace hTT := hTT.alloc hTT.size (.cells #[.int .u8 (48 + d2)] 5)
    refine hK _ _ (.inr hTT) ?_
    clear hK K hg
    generalize WB.alloc (.cells #[.int .u8 (48 + d2)] 5) = WC at *
    try simp only [List.getElem_toArray, List.getElem_cons_zero, List.getElem_cons_succ, Act.put, List.setIfInBounds_toArray, List.set_cons_zero, List.set_cons_succ]
    refine wpG_two (i := 2) (j := 8) rfl rfl (by kernel_rfl) (fun K hK => ?_) (fun K hK => ?_)
    · go_simp
      refine (HD.out _).mono ?_; rintro e w1 ⟨rfl, hb⟩
      replace hTT := hTT.trans (hb.mono hTT.size); (try replace hBk := hBk.below hb hBk.lt); clear hb; dsimp only
      refine hK _ _ (.inr hTT) ?_
      clear hK K
      try simp only [List.getElem_toArray, List.getElem_cons_zero, List.getElem_cons_succ, Act.put, List.setIfInBounds_toArray, List.set_cons_zero, List.set_cons_succ]
      refine wpG_one (i := 8) rfl (by kernel_rfl) (fun K hK => ?_)
      have kc := run_convert_bytes_arg (P := Tryz.prog) _ 89 5 Tryz.underlying89 Tryz.underlying5 g 0 1 1 [48 + d2] rfl (fun i hi => by obtain rfl : i = 0 := (by omega); rw [hBk.cell]; rfl) 9 Tryz.underlying9
      go_simp
      refine hK _ _ (.inr hTT) ?_
      clear hK K kc
      try simp only [List.getElem_toArray, List.getElem_cons_zero, List.getElem_cons_succ, Act.put, List.setIfInBounds_toArray, List.set_cons_zero, List.set_cons_succ]
      refine wpG_take (i := 9) (v := ?vq9) rfl (by kernel_rfl) (by kernel_rfl) (by kernel_rfl) (by kernel_rfl) (fun _ _ _ h => h) (Or.inl ⟨by rfl, ?hyq9⟩) hTT ?restq9
      case hyq9 => intro wq hSw; go_simp <;> with_reducible rfl
      simp only [List.getElem_toArray, List.getElem_cons_zero, List.getElem_cons_succ, Act.put, List.setIfInBounds_toArray, List.set_cons_zero, List.set_cons_succ]
      refine wpG_one (i := 10) rfl (by kernel_rfl) (fun K hK => ?_)
      go_simp
      refine hK _ _ (.inl rfl) ?_
      clear hK K
      try simp only [List.getElem_toArray, List.getElem_cons_zero, List.getElem_cons_succ, Act.put, List.setIfInBounds_toArray, List.set_cons_zero, List.set_cons_succ]
      refine wpG_done (by kernel_rfl) ?_ _
      go_wp2_with (fail)
      go_ret
      exact ⟨HFN.out, hB0.trans (hTT.mono hB0.size)⟩
    · have kc := run_convert_bytes_arg (P := Tryz.prog) _ 89 5 Tryz.underlying89 Tryz.underlying5 g 0 1 1 [48 + d2] rfl (fun i hi => by obtain rfl : i = 0 := (by omega); rw [hBk.cell]; rfl) 9 Tryz.underlying9
      go_simp
      refine hK _ _ (.inr hTT) ?_
      clear hK K kc
      try simp only [List.getElem_toArray, List.getElem_cons_zero, List.getElem_cons_succ, Act.put, List.setIfInBounds_toArray, List.set_cons_zero, List.set_cons_succ]
      refine wpG_one (i := 2) rfl (by kernel_rfl) (fun K hK => ?_)
      go_simp
      refine (HD.out _).mono ?_; rintro e w1 ⟨rfl, hb⟩
      replace hTT := hTT.trans (hb.mono hTT.size); (try replace hBk := hBk.below hb hBk.lt); clear hb; dsimp only
      refine hK _ _ (.inr hTT) ?_
      clear hK K
      try simp only [List.getElem_toArray, List.getElem_cons_zero, List.getElem_cons_succ, Act.put, List.setIfInBounds_toArray, List.set_cons_zero, List.set_cons_succ]
      refine wpG_take (i := 9) (v := ?vr9) rfl (by kernel_rfl) (by kernel_rfl) (by kernel_rfl) (by kernel_rfl) (fun _ _ _ h => h) (Or.inl ⟨by rfl, ?hyr9⟩) hTT ?restr9
      case hyr9 => intro wq hSw; go_simp <;> with_reducible rfl
      simp only [List.getElem_toArray, List.getElem_cons_zero, List.getElem_cons_succ, Act.put, List.setIfInBounds_toArray, List.set_cons_zero, List.set_cons_succ]
      refine wpG_one (i := 10) rfl (by kernel_rfl) (fun K hK => ?_)
      go_simp
      refine hK _ _ (.inl rfl) ?_
      clear hK K
      try simp only [List.getElem_toArray, List.getElem_cons_zero, List.getElem_cons_succ, Act.put, List.setIfInBounds_toArray, List.set_cons_zero, List.set_cons_succ]
      refine wpG_done (by kernel_rfl) ?_ _
      go_wp2_with (fail)
      go_ret
      exact ⟨HFN.out, hB0.trans (hTT.mono hB0.size)⟩
theorem decimal_any (n : Nat) (w : World) (h : n < 100) : Calls Tryz.prog 178 #[.int .i64 n] w fun e w' => e = .returned (.string (dS n)) ∧ Below w.heap.size w w' := by
  by_cases h1 : n < 10
  · have key := decimal_small (n : Int) w (by omega) (by omega)
    rw [nums_dgt n h1] at key
    have e : dS n = ⟨#[dgt n]⟩ := by unfold dS; rw [decDigits_one h1]; rfl
    rw [e]
    exact key
  · exact decimal_two n w (by omega) h
end Go.Proofs.YtifddfchpknkbaaGreatDoor
