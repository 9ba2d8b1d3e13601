import Derived.Test.YtifddfchpknkbaaGreatDoorW
set_option linter.unusedVariables false
set_option linter.unusedSimpArgs false
namespace Go.Proofs.YtifddfchpknkbaaGreatDoor
open Go.RowKit

set_option maxRecDepth 100000 in
theorem seen_any (A : Option Addr) (n cap : Nat) (l : List Sh) (sg : ByteArray) (w : World) (hn : n ≤ 100000) (hss : ∀ h ∈ l, h.s.size ≤ sg.size) (hsg : sg.size ≤ maxLen) (hr : Rd w w.heap.size 5 A n (l.flatMap shC)) :
    Calls Tryz.prog 114 #[.slice A n cap, .string sg] w fun e w' => ∃ v, e = .returned v ∧ w'.ownsRow w.heap.size 156 5 v (l.filter fun h => agreeB h.s sg).length ((l.filter fun h => agreeB h.s sg).flatMap shC) ∧ Below w.heap.size w w' := by
  obtain ⟨i0, hi, hz0, hz1', hz2'⟩ := info_parts info156
  have hlen := hr.len5
  go_enter Tryz.func114, Tryz.ntmps114
  go_wp2
  go_loopg [5, 10] n (fun g u i wr => ∃ (k : Nat) (m : Nat) (v0 : Value), g = n - k ∧ k ≤ n ∧ i = .int .i64 k ∧ u = v0 ∧ m = ((l.take k).filter fun h => agreeB h.s sg).length ∧ wr.ownsRow w.heap.size 156 5 v0 m (((l.take k).filter fun h => agreeB h.s sg).flatMap shC) ∧ Below w.heap.size w wr)
  case atStart => exact ⟨0, 0, _, rfl, Nat.zero_le _, rfl, rfl, rfl, World.ownsRow_nil _ _ _ _, Below.refl _ _⟩
  case round =>
    obtain ⟨k, m, v, hg, hk, rfl, rfl, hm, hown, hB⟩ := hrel
    obtain ⟨va, vc, rfl⟩ := own_slice hown
    have HG := Lib.hid hg; clear hg
    have hm2 : m ≤ 100000 := by have h1 := List.length_filter_le (fun h : Sh => agreeB h.s sg) (l.take k); have h2 := List.length_take_le k l; omega
    have HM := Lib.hid hm; clear hm
    have HLEN := Lib.hid hlen; clear hlen
    by_cases hlt : k < n
    · obtain ⟨b, off, hz, rfl, hb, c0, c1, c2, c3, c4⟩ := (hr.below hB).at5 hlt
      have hft := filter_take (fun h : Sh => agreeB h.s sg) l k hz
      have hsk := hss _ (List.getElem_mem hz)
      generalize l[k] = h at *
      obtain ⟨f, hn0, x, y, s⟩ := h
      have HFT := Lib.hid hft; clear hft
      dsimp only at c0 c1 c2 c3 c4
      dsimp only at hsk
      have HSK := Lib.hid hsk; clear hsk
      cases hq : agreeB s sg
      · go_wp2_with (go_at_call 159; refine (agree_any s sg _ (Nat.le_trans HSK.out hsg) HSK.out).mono ?_; rintro e w1 ⟨rfl, hb1⟩; rw [hq]; have hB1 : Below w.heap.size w w1 := (hB.alloc hB.size _).trans (hb1.mono (by have := hB.size; simp only [World.size_alloc]; omega)); have hown1 := ownsRow_below' (hown.alloc (.cells #[.int .i64 f, .int .i64 hn0, .int .i64 x, .int .i64 y, .string s] 156)) hb1; have hbk := (Blk.new wr 156 #[.int .i64 f, .int .i64 hn0, .int .i64 x, .int .i64 y, .string s]).below hb1 (by simp only [World.size_alloc]; omega); have hck := fun i => hbk.cell i; have hlk := hbk.lt)
        go_roundg (n - (k + 1))
        case measure => rw [HG.out]; omega
        case rel => exact ⟨k + 1, m, _, rfl, by omega, by go_num, rfl, by rw [HFT.out, HM.out]; simp [hq], by rw [HFT.out]; simpa [hq] using hown1, hB1⟩
      · go_wp2_with (first
          | (go_at_call 159; refine (agree_any s sg _ (Nat.le_trans HSK.out hsg) HSK.out).mono ?_; rintro e w1 ⟨rfl, hb1⟩; rw [hq]; have hB1 : Below w.heap.size w w1 := (hB.alloc hB.size _).trans (hb1.mono (by have := hB.size; simp only [World.size_alloc]; omega)); have hown1 := ownsRow_below' (hown.alloc (.cells #[.int .i64 f, .int .i64 hn0, .int .i64 x, .int .i64 y, .string s] 156)) hb1; have hbk := (Blk.new wr 156 #[.int .i64 f, .int .i64 hn0, .int .i64 x, .int .i64 y, .string s]).below hb1 (by simp only [World.size_alloc]; omega); have hck := fun i => hbk.cell i; have hlk := hbk.lt)
          | (at_builtin; refine wpList_append_any _ rfl _ _ 151 rfl w.heap.size 156 i0 (.agg #[.int .i64 0, .int .i64 0, .int .i64 0, .int .i64 0, .string ByteArray.empty]) 5 48 Tryz.underlying151 hi hz0 hz1' hz2' rfl (by decide) (.slice va m vc) m (((l.take k).filter fun h => agreeB h.s sg).flatMap shC) rfl (hown1.alloc _) (w1.heap.size + 1) (some ⟨w1.heap.size, 0, none⟩) 1 1 (shC ⟨f, hn0, x, y, s⟩) rfl (Rd.blkN (Blk.new w1 156 #[.int .i64 f, .int .i64 hn0, .int .i64 x, .int .i64 y, .string s]) rfl (Nat.lt_succ_self _)).reads (by simp [shC, Value.oneCell']) (by unfold maxLen; omega) (by omega) (by have := hB1.size; simp only [World.size_alloc]; omega) (fun v' w' hown' hgrow hob => ?_))
          | go_in)
        go_roundg (n - (k + 1))
        case measure => rw [HG.out]; omega
        case rel => exact ⟨k + 1, m + 1, _, rfl, by omega, by go_num, rfl, by rw [HFT.out, HM.out]; simp [hq], by rw [HFT.out]; simpa [hq] using hown', (hB1.alloc hB1.size _).grown hgrow (by have := hB1.size; simp only [World.size_alloc]; omega) (fun g hg => (hown.lt g hg).1)⟩
    · have hta : l.take k = l := List.take_of_length_le (by have := HLEN.out; omega)
      rw [hta] at hown HM
      go_wp2
      go_ret
      exact ⟨_, rfl, by rw [← HM.out]; exact hown, hB⟩
end Go.Proofs.YtifddfchpknkbaaGreatDoor

namespace Go.Proofs.YtifddfchpknkbaaGreatDoor
open Go.RowKit

theorem info3 : (Tryz.prog.info? 3).map (fun i => (i.zero, i.size, i.bytes)) = some (some (.int .i64 0), 1, 8) := by kernel_rfl
/-- The cells that a sight does not tell. -/
def unseenL (s : ByteArray) : List Nat := (List.range s.size).filter fun i => (ltr s).getD i 0 == 63
def unseenK (s : ByteArray) (k : Nat) : List Nat := (List.range k).filter fun i => (ltr s).getD i 0 == 63
theorem unseenK_succ (s : ByteArray) (k : Nat) (h : k < s.size) : unseenK s (k + 1) = unseenK s k ++ (if ((s[k].toNat : Int) == 63) then [k] else []) := by
  have e : (ltr s).getD k 0 = (s[k].toNat : Int) := by
    rw [List.getD, List.getElem?_eq_getElem (by rw [ltr_len]; exact h), ltr_at s k h]; rfl
  rw [unseenK, List.range_succ, List.filter_append, unseenK, List.filter_cons, List.filter_nil, e]
theorem unseenK_le (s : ByteArray) (k : Nat) : (unseenK s k).length ≤ k := by have := List.length_filter_le (fun i => (ltr s).getD i 0 == 63) (List.range k); simpa [unseenK] using this
def natV (k : Nat) : Value := .int .i64 k

set_option maxRecDepth 100000 in
theorem unseenCells_any (s : ByteArray) (w : World) (hs : s.size ≤ 100000) :
    Calls Tryz.prog 124 #[.string s] w fun e w' => ∃ v, e = .returned v ∧ w'.ownsRow w.heap.size 3 1 v (unseenL s).length ((unseenL s).map natV) ∧ Below w.heap.size w w' := by
  obtain ⟨i0, hi, hz0, hz1', hz2'⟩ := info_parts info3
  go_enter Tryz.func124, Tryz.ntmps124
  go_wp2
  go_loopg [3, 7] (s.size) (fun g u i wr => ∃ (k : Nat) (m : Nat) (v0 : Value), g = s.size - k ∧ k ≤ s.size ∧ i = .int .i64 k ∧ u = v0 ∧ m = (unseenK s k).length ∧ wr.ownsRow w.heap.size 3 1 v0 m ((unseenK s k).map natV) ∧ Below w.heap.size w wr)
  case atStart => exact ⟨0, 0, _, rfl, Nat.zero_le _, rfl, rfl, rfl, World.ownsRow_nil _ _ _ _, Below.refl _ _⟩
  case round =>
    obtain ⟨k, m, v, hg, hk, rfl, rfl, hm, hown, hB⟩ := hrel
    obtain ⟨va, vc, rfl⟩ := own_slice hown
    have HG := Lib.hid hg; clear hg
    have hm2 : m ≤ 100000 := by have := unseenK_le s k; omega
    have HM := Lib.hid hm; clear hm
    by_cases hlt : k < s.size
    · have hft := unseenK_succ s k hlt
      have HFT := Lib.hid hft; clear hft
      cases hq : (((s[k]'hlt).toNat : Int) == 63)
      · go_wp2
        go_roundg (s.size - (k + 1))
        case measure => rw [HG.out]; omega
        case rel => exact ⟨k + 1, m, _, rfl, by omega, by go_num, rfl, by rw [HFT.out, HM.out]; simp [hq], by rw [HFT.out]; simpa [hq] using hown, hB⟩
      · go_wp2_with (first
          | (at_builtin; refine wpList_append_any _ rfl _ _ 87 rfl w.heap.size 3 i0 (.int .i64 0) 1 8 Tryz.underlying87 hi hz0 hz1' hz2' rfl (by decide) (.slice va m vc) m ((unseenK s k).map natV) rfl (hown.alloc _) (wr.heap.size + 1) (some ⟨wr.heap.size, 0, none⟩) 1 1 [natV k] rfl (Rd.blkN (Blk.new wr 3 #[.int .i64 k]) rfl (Nat.lt_succ_self _)).reads (by simp [natV, Value.oneCell']) (by unfold maxLen; omega) (by omega) (by have := hB.size; simp only [World.size_alloc]; omega) (fun v' w' hown' hgrow hob => ?_))
          | go_in)
        go_roundg (s.size - (k + 1))
        case measure => rw [HG.out]; omega
        case rel => exact ⟨k + 1, m + 1, _, rfl, by omega, by go_num, rfl, by rw [HFT.out, HM.out]; simp [hq], by rw [HFT.out]; simpa [hq] using hown', (hB.alloc hB.size _).grown hgrow (by have := hB.size; simp only [World.size_alloc]; omega) (fun g hg => (hown.lt g hg).1)⟩
    · obtain rfl : k = s.size := by omega
      go_wp2
      go_ret
      exact ⟨_, rfl, by rw [show unseenL s = unseenK s s.size from rfl, ← HM.out]; exact hown, hB⟩

theorem at_fun (n x y : Int) (w : World) : Calls Tryz.prog 38 #[.int .i64 n, .int .i64 x, .int .i64 y] w fun e w' => e = .returned (.agg #[.int .i64 n, .int .i64 x, .int .i64 y]) ∧ Below w.heap.size w w' := by
  go_enter Tryz.func38, Tryz.ntmps38
  go_wp2
  refine bodyPost_ret (v := .agg #[.int .i64 n, .int .i64 x, .int .i64 y]) (by simp [results, Tryz.results38, go_sem]) rfl ⟨rfl, ?_⟩
  exact (Below.refl _ _).alloc (Nat.le_refl _) _
end Go.Proofs.YtifddfchpknkbaaGreatDoor

namespace Go.Proofs.YtifddfchpknkbaaGreatDoor
open Go.RowKit

/-- The rows of a sight, one behind the other. -/
def flatS (rs : List ByteArray) : ByteArray := ⟨(rs.flatMap fun r => r.data.toList).toArray⟩
theorem join_empty (xs : List (List UInt8)) : Lib.join xs [] = xs.flatten := by
  unfold Lib.join
  induction xs with
  | nil => rfl
  | cons a l ih =>
    cases l with
    | nil => simp [List.intercalate]
    | cons b l => simp [List.intercalate, List.intersperse] at ih ⊢; rw [ih]
theorem flat_any (A : Option Addr) (n cap : Nat) (rs : List ByteArray) (w : World) (hr : Rd w w.heap.size 1 A n (rs.map Value.string)) (hn : n ≤ 1000) (hcap : n ≤ cap) (hlen : (flatS rs).size ≤ 100000) :
    Calls Tryz.prog 116 #[.slice A n cap] w fun e w' => e = .returned (.string (flatS rs)) ∧ Below w.heap.size w w' := by
  have hl := hr.len
  rcases Nat.eq_zero_or_pos n with h0 | h0
  · subst h0
    have hrs : rs = [] := List.eq_nil_of_length_eq_zero hl
    subst hrs
    go_enter Tryz.func116, Tryz.ntmps116
    go_wp2_with (go_at_call 161; refine (Tryz.strings_Join_none _ _ _ _).mono ?_; rintro e w' ⟨rfl, rfl⟩)
    go_ret
    exact ⟨rfl, Below.refl _ _⟩
  · obtain ⟨b, off, rfl, hb, hc⟩ := hr.2 h0
    have hj := Tryz.strings_Join b off cap rs ⟨#[]⟩ w (fun j x hx => hc j _ (by rw [List.getElem?_map, hx]; rfl)) hb (by omega) (by omega) (by
      rw [join_empty]
      have : (flatS rs).size = ((rs.map (·.data.toList)).flatten).length := by rw [← List.flatMap_def]; show ((rs.flatMap fun r => r.data.toList).toArray).size = _; rw [List.size_toArray]
      omega)
    rw [join_empty, ← List.flatMap_def, hl] at hj
    go_enter Tryz.func116, Tryz.ntmps116
    go_wp2_with (go_at_call 161; refine hj.mono ?_; rintro e w' ⟨rfl, hb⟩)
    go_ret
    exact ⟨rfl, by assumption⟩

theorem S_fun (w : World) : Calls Tryz.prog 93 #[] w fun e w' => e = .returned (.agg #[.int .i64 8, .int .i64 8, .int .i64 8, .int .i64 0, .int .i64 4, .int .i64 4]) ∧ Below w.heap.size w w' := by
  go_enter Tryz.func93, Tryz.ntmps93
  go_wp2
  refine bodyPost_ret (v := .agg #[.int .i64 8, .int .i64 8, .int .i64 8, .int .i64 0, .int .i64 4, .int .i64 4]) (by simp [results, Tryz.results93, go_sem]) rfl ⟨rfl, ?_⟩
  exact (Below.refl _ _).alloc (Nat.le_refl _) _
theorem R_fun (w : World) : Calls Tryz.prog 92 #[] w fun e w' => e = .returned (.agg #[.int .i64 0, .int .i64 1, .int .i64 3, .int .i64 3, .int .i64 3]) ∧ Below w.heap.size w w' := by
  go_enter Tryz.func92, Tryz.ntmps92
  go_wp2
  refine bodyPost_ret (v := .agg #[.int .i64 0, .int .i64 1, .int .i64 3, .int .i64 3, .int .i64 3]) (by simp [results, Tryz.results92, go_sem]) rfl ⟨rfl, ?_⟩
  exact (Below.refl _ _).alloc (Nat.le_refl _) _
def FigPost (w : World) (rows : Array Value) (e : Ending) (w' : World) : Prop := ∃ g, e = .returned (.agg #[.slice (some ⟨g, 0, none⟩) 2 2]) ∧ w.heap.size ≤ g ∧ Blk w' g 9 rows ∧ Below w.heap.size w w'
theorem F_fun (w : World) : Calls Tryz.prog 89 #[] w (FigPost w #[.string ⟨#[35, 35]⟩, .string ⟨#[35, 35]⟩]) := by
  go_enter Tryz.func89, Tryz.ntmps89
  go_wp2
  refine bodyPost_ret (v := .agg #[.slice (some ⟨w.heap.size + 1, 0, none⟩) 2 2]) (by simp [results, Tryz.results89, go_sem]) rfl ⟨_, rfl, by omega, blk2 w _ 9 _, pro2 w _ _⟩
theorem H_fun (w : World) : Calls Tryz.prog 90 #[] w (FigPost w #[.string ⟨#[35, 35]⟩, .string ⟨#[35, 46]⟩]) := by
  go_enter Tryz.func90, Tryz.ntmps90
  go_wp2
  exact bodyPost_ret (v := .agg #[.slice (some ⟨w.heap.size + 1, 0, none⟩) 2 2]) (by simp [results, Tryz.results90, go_sem]) rfl ⟨_, rfl, by omega, blk2 w _ 9 _, pro2 w _ _⟩
theorem T_fun (w : World) : Calls Tryz.prog 91 #[] w fun e w' => e = .returned (.agg #[.int .i64 8, .int .i64 8, .int .i64 8, .int .i64 1, .int .i64 4, .int .i64 4]) ∧ Below w.heap.size w w' := by
  go_enter Tryz.func91, Tryz.ntmps91
  go_wp2_with (go_at_call 93; refine (S_fun _).mono ?_; rintro e w1 ⟨rfl, hb1⟩; have hbk := (Blk.new w 23 #[.int .i64 0, .int .i64 0, .int .i64 0, .int .i64 0, .int .i64 0, .int .i64 0]).below hb1 (by simp only [World.size_alloc]; omega); have hck := fun i => hbk.cell i; have hfk := fun i => hbk.frozen i; have hlk := hbk.lt)
  have hB1 : Below w.heap.size w w1 := ((Below.refl _ w).alloc (Nat.le_refl _) _).trans (hb1.mono (by simp only [World.size_alloc]; omega))
  refine bodyPost_ret (v := .agg #[.int .i64 8, .int .i64 8, .int .i64 8, .int .i64 1, .int .i64 4, .int .i64 4]) (by simp [results, Tryz.results91, go_sem, hlk, hck]) rfl ⟨rfl, ?_⟩
  have hle : w.heap.size ≤ w.heap.size := Nat.le_refl _
  exact ((((((hB1.setCell (p := ⟨w.heap.size, 0, none⟩) hle _).setCell (p := ⟨w.heap.size, 1, none⟩) hle _).setCell (p := ⟨w.heap.size, 2, none⟩) hle _).setCell (p := ⟨w.heap.size, 3, none⟩) hle _).setCell (p := ⟨w.heap.size, 4, none⟩) hle _).setCell (p := ⟨w.heap.size, 5, none⟩) hle _).alloc (by simpa using Nat.le_of_lt hlk) _
end Go.Proofs.YtifddfchpknkbaaGreatDoor
