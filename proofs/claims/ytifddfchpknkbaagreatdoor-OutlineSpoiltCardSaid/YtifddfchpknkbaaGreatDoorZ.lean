import Derived.Test.YtifddfchpknkbaaGreatDoorMl
import Derived.Test.YtifddfchpknkbaaGreatDoorRa
set_option linter.unusedVariables false
set_option linter.unusedSimpArgs false
namespace Go.Proofs.YtifddfchpknkbaaGreatDoor
open Go.RowKit

set_option maxRecDepth 100000 in
theorem seen_any (A : Option Addr) (n cap : Nat) (l : List Sh) (sg : ByteArray) (w : World) (hn : n ≤ 100000) (hss : ∀ h ∈ l, h.s.size ≤ sg.size) (hsg : sg.size ≤ maxLen) (hr : Rd w w.heap.size 5 A n (l.flatMap shC)) :
    Calls Tryz.prog 114 #[.slice A n cap, .string sg] w fun e w' => ∃ v, e = .returned v ∧ w'.ownsRow w.heap.size 156 5 v (l.filter fun h => agreeB h.s sg).length ((l.filter fun h => agreeB h.s sg).flatMap shC) ∧ Below w.heap.size w w' := by
  obtain ⟨i0, hi, hz0, hz1', hz2'⟩ := info_parts info156
  have hlen := hr.len5
  go_enter Tryz.func114, Tryz.ntmps114
  go_wp2
  go_loopg [5, 10] n (fun g u i wr => ∃ (k : Nat) (m : Nat) (v0 : Value), g = n - k ∧ k ≤ n ∧ i = .int .i64 k ∧ u = v0 ∧ m = ((l.take k).filter fun h => agreeB h.s sg).length ∧ wr.ownsRow w.heap.size 156 5 v0 m (((l.take k).filter fun h => agreeB h.s sg).flatMap shC) ∧ Below w.heap.size w wr)
  case atStart => exact ⟨0, 0, _, rfl, Nat.zero_le _, rfl, rfl, rfl, World.ownsRow_nil _ _ _ _, Below.refl _ _⟩
  case round =>
    obtain ⟨k, m, v, hg, hk, rfl, rfl, hm, hown, hB⟩ := hrel
    obtain ⟨va, vc, rfl⟩ := own_slice hown
    have HG := Lib.hid hg; clear hg
    have hm2 : m ≤ 100000 := by have h1 := List.length_filter_le (fun h : Sh => agreeB h.s sg) (l.take k); have h2 := List.length_take_le k l; omega
    have HM := Lib.hid hm; clear hm
    have HLEN := Lib.hid hlen; clear hlen
    by_cases hlt : k < n
    · obtain ⟨b, off, hz, rfl, hb, c0, c1, c2, c3, c4⟩ := (hr.below hB).at5 hlt
      have hft := filter_take (fun h : Sh => agreeB h.s sg) l k hz
      have hsk := hss _ (List.getElem_mem hz)
      generalize l[k] = h at *
      obtain ⟨f, hn0, x, y, s⟩ := h
      have HFT := Lib.hid hft; clear hft
      dsimp only at c0 c1 c2 c3 c4
      dsimp only at hsk
      have HSK := Lib.hid hsk; clear hsk
      cases hq : agreeB s sg
      · go_wp2_with (go_at_call 159; refine (agree_any s sg _ (Nat.le_trans HSK.out hsg) HSK.out).mono ?_; rintro e w1 ⟨rfl, hb1⟩; rw [hq]; have hB1 : Below w.heap.size w w1 := (hB.alloc hB.size _).trans (hb1.mono (by have := hB.size; simp only [World.size_alloc]; omega)); have hown1 := ownsRow_below' (hown.alloc (.cells #[.int .i64 f, .int .i64 hn0, .int .i64 x, .int .i64 y, .string s] 156)) hb1; have hbk := (Blk.new wr 156 #[.int .i64 f, .int .i64 hn0, .int .i64 x, .int .i64 y, .string s]).below hb1 (by simp only [World.size_alloc]; omega); have hck := fun i => hbk.cell i; have hlk := hbk.lt)
        go_roundg (n - (k + 1))
        case measure => rw [HG.out]; omega
        case rel => exact ⟨k + 1, m, _, rfl, by omega, by go_num, rfl, by rw [HFT.out, HM.out]; simp [hq], by rw [HFT.out]; simpa [hq] using hown1, hB1⟩
      · go_wp2_with (first
          | (go_at_call 159; refine (agree_any s sg _ (Nat.le_trans HSK.out hsg) HSK.out).mono ?_; rintro e w1 ⟨rfl, hb1⟩; rw [hq]; have hB1 : Below w.heap.size w w1 := (hB.alloc hB.size _).trans (hb1.mono (by have := hB.size; simp only [World.size_alloc]; omega)); have hown1 := ownsRow_below' (hown.alloc (.cells #[.int .i64 f, .int .i64 hn0, .int .i64 x, .int .i64 y, .string s] 156)) hb1; have hbk := (Blk.new wr 156 #[.int .i64 f, .int .i64 hn0, .int .i64 x, .int .i64 y, .string s]).below hb1 (by simp only [World.size_alloc]; omega); have hck := fun i => hbk.cell i; have hlk := hbk.lt)
          | (at_builtin; refine wpList_append_any _ rfl _ _ 151 rfl w.heap.size 156 i0 (.agg #[.int .i64 0, .int .i64 0, .int .i64 0, .int .i64 0, .string ByteArray.empty]) 5 48 Tryz.underlying151 hi hz0 hz1' hz2' rfl (by decide) (.slice va m vc) m (((l.take k).filter fun h => agreeB h.s sg).flatMap shC) rfl (hown1.alloc _) (w1.heap.size + 1) (some ⟨w1.heap.size, 0, none⟩) 1 1 (shC ⟨f, hn0, x, y, s⟩) rfl (Rd.blkN (Blk.new w1 156 #[.int .i64 f, .int .i64 hn0, .int .i64 x, .int .i64 y, .string s]) rfl (Nat.lt_succ_self _)).reads (by simp [shC, Value.oneCell']) (by unfold maxLen; omega) (by omega) (by have := hB1.size; simp only [World.size_alloc]; omega) (fun v' w' hown' hgrow hob => ?_))
          | go_in)
        go_roundg (n - (k + 1))
        case measure => rw [HG.out]; omega
        case rel => exact ⟨k + 1, m + 1, _, rfl, by omega, by go_num, rfl, by rw [HFT.out, HM.out]; simp [hq], by rw [HFT.out]; simpa [hq] using hown', (hB1.alloc hB1.size _).grown hgrow (by have := hB1.size; simp only [World.size_alloc]; omega) (fun g hg => (hown.lt g hg).1)⟩
    · have hta : l.take k = l := List.take_of_length_le (by have := HLEN.out; omega)
      rw [hta] at hown HM
      go_wp2
      go_ret
      exact ⟨_, rfl, by rw [← HM.out]; exact hown, hB⟩
end Go.Proofs.YtifddfchpknkbaaGreatDoor

namespace Go.Proofs.YtifddfchpknkbaaGreatDoor
open Go.RowKit

theorem info3 : (Tryz.prog.info? 3).map (fun i => (i.zero, i.size, i.bytes)) = some (some (.int .i64 0), 1, 8) := by kernel_rfl
/-- The cells that a sight does not tell. -/
def unseenL (s : ByteArray) : List Nat := (List.range s.size).filter fun i => (ltr s).getD i 0 == 63
def unseenK (s : ByteArray) (k : Nat) : List Nat := (List.range k).filter fun i => (ltr s).getD i 0 == 63
theorem unseenK_succ (s : ByteArray) (k : Nat) (h : k < s.size) : unseenK s (k + 1) = unseenK s k ++ (if ((s[k].toNat : Int) == 63) then [k] else []) := by
  have e : (ltr s).getD k 0 = (s[k].toNat : Int) := by
    rw [List.getD, List.getElem?_eq_getElem (by rw [ltr_len]; exact h), ltr_at s k h]; rfl
  rw [unseenK, List.range_succ, List.filter_append, unseenK, List.filter_cons, List.filter_nil, e]
theorem unseenK_le (s : ByteArray) (k : Nat) : (unseenK s k).length ≤ k := by have := List.length_filter_le (fun i => (ltr s).getD i 0 == 63) (List.range k); simpa [unseenK] using this
def natV (k : Nat) : Value := .int .i64 k

set_option maxRecDepth 100000 in
theorem unseenCells_any (s : ByteArray) (w : World) (hs : s.size ≤ 100000) :
    Calls Tryz.prog 124 #[.string s] w fun e w' => ∃ v, e = .returned v ∧ w'.ownsRow w.heap.size 3 1 v (unseenL s).length ((unseenL s).map natV) ∧ Below w.heap.size w w' := by
  obtain ⟨i0, hi, hz0, hz1', hz2'⟩ := info_parts info3
  go_enter Tryz.func124, Tryz.ntmps124
  go_wp2
  go_loopg [3, 7] (s.size) (fun g u i wr => ∃ (k : Nat) (m : Nat) (v0 : Value), g = s.size - k ∧ k ≤ s.size ∧ i = .int .i64 k ∧ u = v0 ∧ m = (unseenK s k).length ∧ wr.ownsRow w.heap.size 3 1 v0 m ((unseenK s k).map natV) ∧ Below w.heap.size w wr)
  case atStart => exact ⟨0, 0, _, rfl, Nat.zero_le _, rfl, rfl, rfl, World.ownsRow_nil _ _ _ _, Below.refl _ _⟩
  case round =>
    obtain ⟨k, m, v, hg, hk, rfl, rfl, hm, hown, hB⟩ := hrel
    obtain ⟨va, vc, rfl⟩ := own_slice hown
    have HG := Lib.hid hg; clear hg
    have hm2 : m ≤ 100000 := by have := unseenK_le s k; omega
    have HM := Lib.hid hm; clear hm
    by_cases hlt : k < s.size
    · have hft := unseenK_succ s k hlt
      have HFT := Lib.hid hft; clear hft
      cases hq : (((s[k]'hlt).toNat : Int) == 63)
      · go_wp2
        go_roundg (s.size - (k + 1))
        case measure => rw [HG.out]; omega
        case rel => exact ⟨k + 1, m, _, rfl, by omega, by go_num, rfl, by rw [HFT.out, HM.out]; simp [hq], by rw [HFT.out]; simpa [hq] using hown, hB⟩
      · go_wp2_with (first
          | (at_builtin; refine wpList_append_any _ rfl _ _ 87 rfl w.heap.size 3 i0 (.int .i64 0) 1 8 Tryz.underlying87 hi hz0 hz1' hz2' rfl (by decide) (.slice va m vc) m ((unseenK s k).map natV) rfl (hown.alloc _) (wr.heap.size + 1) (some ⟨wr.heap.size, 0, none⟩) 1 1 [natV k] rfl (Rd.blkN (Blk.new wr 3 #[.int .i64 k]) rfl (Nat.lt_succ_self _)).reads (by simp [natV, Value.oneCell']) (by unfold maxLen; omega) (by omega) (by have := hB.size; simp only [World.size_alloc]; omega) (fun v' w' hown' hgrow hob => ?_))
          | go_in)
        go_roundg (s.size - (k + 1))
        case measure => rw [HG.out]; omega
        case rel => exact ⟨k + 1, m + 1, _, rfl, by omega, by go_num, rfl, by rw [HFT.out, HM.out]; simp [hq], by rw [HFT.out]; simpa [hq] using hown', (hB.alloc hB.size _).grown hgrow (by have := hB.size; simp only [World.size_alloc]; omega) (fun g hg => (hown.lt g hg).1)⟩
    · obtain rfl : k = s.size := by omega
      go_wp2
      go_ret
      exact ⟨_, rfl, by rw [show unseenL s = unseenK s s.size from rfl, ← HM.out]; exact hown, hB⟩

theorem at_fun (n x y : Int) (w : World) : Calls Tryz.prog 38 #[.int .i64 n, .int .i64 x, .int .i64 y] w fun e w' => e = .returned (.agg #[.int .i64 n, .int .i64 x, .int .i64 y]) ∧ Below w.heap.size w w' := by
  go_enter Tryz.func38, Tryz.ntmps38
  go_wp2
  refine bodyPost_ret (v := .agg #[.int .i64 n, .int .i64 x, .int .i64 y]) (by simp [results, Tryz.results38, go_sem]) rfl ⟨rfl, ?_⟩
  exact (Below.refl _ _).alloc (Nat.le_refl _) _
end Go.Proofs.YtifddfchpknkbaaGreatDoor

namespace Go.Proofs.YtifddfchpknkbaaGreatDoor
open Go.RowKit

/-- The rows of a sight, one behind the other. -/
def flatS (rs : List ByteArray) : ByteArray := ⟨(rs.flatMap fun r => r.data.toList).toArray⟩
theorem join_empty (xs : List (List UInt8)) : Lib.join xs [] = xs.flatten := by
  unfold Lib.join
  induction xs with
  | nil => rfl
  | cons a l ih =>
    cases l with
    | nil => simp [List.intercalate]
    | cons b l => simp [List.intercalate, List.intersperse] at ih ⊢; rw [ih]
theorem flat_any (A : Option Addr) (n cap : Nat) (rs : List ByteArray) (w : World) (hr : Rd w w.heap.size 1 A n (rs.map Value.string)) (hn : n ≤ 1000) (hcap : n ≤ cap) (hlen : (flatS rs).size ≤ 100000) :
    Calls Tryz.prog 116 #[.slice A n cap] w fun e w' => e = .returned (.string (flatS rs)) ∧ Below w.heap.size w w' := by
  have hl := hr.len
  rcases Nat.eq_zero_or_pos n with h0 | h0
  · subst h0
    have hrs : rs = [] := List.eq_nil_of_length_eq_zero hl
    subst hrs
    go_enter Tryz.func116, Tryz.ntmps116
    go_wp2_with (go_at_call 161; refine (Tryz.strings_Join_none _ _ _ _).mono ?_; rintro e w' ⟨rfl, rfl⟩)
    go_ret
    exact ⟨rfl, Below.refl _ _⟩
  · obtain ⟨b, off, rfl, hb, hc⟩ := hr.2 h0
    have hj := Tryz.strings_Join b off cap rs ⟨#[]⟩ w (fun j x hx => hc j _ (by rw [List.getElem?_map, hx]; rfl)) hb (by omega) (by omega) (by
      rw [join_empty]
      have : (flatS rs).size = ((rs.map (·.data.toList)).flatten).length := by rw [← List.flatMap_def]; show ((rs.flatMap fun r => r.data.toList).toArray).size = _; rw [List.size_toArray]
      omega)
    rw [join_empty, ← List.flatMap_def, hl] at hj
    go_enter Tryz.func116, Tryz.ntmps116
    go_wp2_with (go_at_call 161; refine hj.mono ?_; rintro e w' ⟨rfl, hb⟩)
    go_ret
    exact ⟨rfl, by assumption⟩

theorem S_fun (w : World) : Calls Tryz.prog 93 #[] w fun e w' => e = .returned (.agg #[.int .i64 8, .int .i64 8, .int .i64 8, .int .i64 0, .int .i64 4, .int .i64 4]) ∧ Below w.heap.size w w' := by
  go_enter Tryz.func93, Tryz.ntmps93
  go_wp2
  refine bodyPost_ret (v := .agg #[.int .i64 8, .int .i64 8, .int .i64 8, .int .i64 0, .int .i64 4, .int .i64 4]) (by simp [results, Tryz.results93, go_sem]) rfl ⟨rfl, ?_⟩
  exact (Below.refl _ _).alloc (Nat.le_refl _) _
theorem R_fun (w : World) : Calls Tryz.prog 92 #[] w fun e w' => e = .returned (.agg #[.int .i64 0, .int .i64 1, .int .i64 3, .int .i64 3, .int .i64 3]) ∧ Below w.heap.size w w' := by
  go_enter Tryz.func92, Tryz.ntmps92
  go_wp2
  refine bodyPost_ret (v := .agg #[.int .i64 0, .int .i64 1, .int .i64 3, .int .i64 3, .int .i64 3]) (by simp [results, Tryz.results92, go_sem]) rfl ⟨rfl, ?_⟩
  exact (Below.refl _ _).alloc (Nat.le_refl _) _
def FigPost (w : World) (rows : Array Value) (e : Ending) (w' : World) : Prop := ∃ g, e = .returned (.agg #[.slice (some ⟨g, 0, none⟩) 2 2]) ∧ w.heap.size ≤ g ∧ Blk w' g 9 rows ∧ Below w.heap.size w w'
theorem F_fun (w : World) : Calls Tryz.prog 89 #[] w (FigPost w #[.string ⟨#[35, 35]⟩, .string ⟨#[35, 35]⟩]) := by
  go_enter Tryz.func89, Tryz.ntmps89
  go_wp2
  refine bodyPost_ret (v := .agg #[.slice (some ⟨w.heap.size + 1, 0, none⟩) 2 2]) (by simp [results, Tryz.results89, go_sem]) rfl ⟨_, rfl, by omega, blk2 w _ 9 _, pro2 w _ _⟩
theorem H_fun (w : World) : Calls Tryz.prog 90 #[] w (FigPost w #[.string ⟨#[35, 35]⟩, .string ⟨#[35, 46]⟩]) := by
  go_enter Tryz.func90, Tryz.ntmps90
  go_wp2
  exact bodyPost_ret (v := .agg #[.slice (some ⟨w.heap.size + 1, 0, none⟩) 2 2]) (by simp [results, Tryz.results90, go_sem]) rfl ⟨_, rfl, by omega, blk2 w _ 9 _, pro2 w _ _⟩
theorem T_fun (w : World) : Calls Tryz.prog 91 #[] w fun e w' => e = .returned (.agg #[.int .i64 8, .int .i64 8, .int .i64 8, .int .i64 1, .int .i64 4, .int .i64 4]) ∧ Below w.heap.size w w' := by
  go_enter Tryz.func91, Tryz.ntmps91
  go_wp2_with (go_at_call 93; refine (S_fun _).mono ?_; rintro e w1 ⟨rfl, hb1⟩; have hbk := (Blk.new w 23 #[.int .i64 0, .int .i64 0, .int .i64 0, .int .i64 0, .int .i64 0, .int .i64 0]).below hb1 (by simp only [World.size_alloc]; omega); have hck := fun i => hbk.cell i; have hfk := fun i => hbk.frozen i; have hlk := hbk.lt)
  have hB1 : Below w.heap.size w w1 := ((Below.refl _ w).alloc (Nat.le_refl _) _).trans (hb1.mono (by simp only [World.size_alloc]; omega))
  refine bodyPost_ret (v := .agg #[.int .i64 8, .int .i64 8, .int .i64 8, .int .i64 1, .int .i64 4, .int .i64 4]) (by simp [results, Tryz.results91, go_sem, hlk, hck]) rfl ⟨rfl, ?_⟩
  have hle : w.heap.size ≤ w.heap.size := Nat.le_refl _
  exact ((((((hB1.setCell (p := ⟨w.heap.size, 0, none⟩) hle _).setCell (p := ⟨w.heap.size, 1, none⟩) hle _).setCell (p := ⟨w.heap.size, 2, none⟩) hle _).setCell (p := ⟨w.heap.size, 3, none⟩) hle _).setCell (p := ⟨w.heap.size, 4, none⟩) hle _).setCell (p := ⟨w.heap.size, 5, none⟩) hle _).alloc (by simpa using Nat.le_of_lt hlk) _
end Go.Proofs.YtifddfchpknkbaaGreatDoor

namespace Go.Proofs.YtifddfchpknkbaaGreatDoor
open Go.RowKit

def tellB (ds : List Nat) (set : Nat) : Bool := ds.all fun d => !(((d &&& set : Nat) : Int) == 0)
theorem tell_any (A : Option Addr) (n cap : Nat) (ds : List Nat) (set : Nat) (w : World) (hn : n ≤ 100000) (hd : ∀ d ∈ ds, d < 18446744073709551616) (hset : set < 18446744073709551616) (hr : Rd w w.heap.size 1 A n (ds.map fun d : Nat => Value.int .u64 d)) :
    Calls Tryz.prog 134 #[.slice A n cap, .int .u64 set] w fun e w' => e = .returned (.bool (tellB ds set)) ∧ w = w' := by
  have hlen := hr.len
  go_enter Tryz.func134, Tryz.ntmps134
  go_wp2
  go_loop [9] (fun i => ∃ k : Nat, k ≤ n ∧ i = .int .i64 k ∧ tellB (ds.drop k) set = tellB ds set) (fun i => n - (intOf i).toNat)
  case atStart => exact ⟨0, Nat.zero_le _, rfl, rfl⟩
  case round =>
    obtain ⟨k, hk, rfl, hi⟩ := hrel
    have HI := Lib.hid hi; clear hi
    have HLEN := Lib.hid hlen; clear hlen
    by_cases hlt : k < n
    · obtain ⟨b, off, hzk, rfl, hb, hc⟩ := hr.atm hlt
      have hdr : tellB (ds.drop k) set = (!(((ds[k] &&& set : Nat) : Int) == 0) && tellB (ds.drop (k + 1)) set) := all_drop _ ds k hzk
      have hd0 := hd _ (List.getElem_mem hzk)
      generalize ds[k] = d at *
      have HD := Lib.hid hdr; clear hdr
      have hbt := bits_and_u64_nat d set hd0 hset
      generalize d &&& set = x at *
      cases hq : ((x : Int) == 0)
      · have hq2 : (bits .and .u64 (d : Int) (set : Int) == 0) = false := by rw [hbt]; exact hq
        clear hbt
        go_wp2
        go_round
        case rel => exact ⟨k + 1, by omega, by go_num, by rw [← HI.out, HD.out, hq]; rfl⟩
        case measure => simp [intOf]; omega
      · have hq2 : (bits .and .u64 (d : Int) (set : Int) == 0) = true := by rw [hbt]; exact hq
        clear hbt
        go_wp2
        go_ret
        exact ⟨ret_bool (by rw [← HI.out, HD.out, hq]; rfl), rfl⟩
    · have hdn : ds.drop k = [] := List.drop_eq_nil_of_le (by have := HLEN.out; omega)
      have HDN := Lib.hid hdn; clear hdn
      go_wp2
      go_ret
      exact ⟨ret_bool (by rw [← HI.out, HDN.out]; rfl), rfl⟩
end Go.Proofs.YtifddfchpknkbaaGreatDoor

namespace Go.Proofs.YtifddfchpknkbaaGreatDoor
open Go.RowKit

def ltAt (s : ByteArray) (c : Nat) : Int := (ltr s).getD c 0
theorem ltAt_eq (s : ByteArray) (c : Nat) (h : c < s.size) : ltAt s c = (s[c].toNat : Int) := by
  rw [ltAt, List.getD, List.getElem?_eq_getElem (by rw [ltr_len]; exact h), ltr_at s c h]; rfl
/-- Which of some cells tell two shadows. -/
def diffN (s t : ByteArray) (cs : List Nat) : Nat → Nat
  | 0 => 0
  | k + 1 => if clB (ltAt s (cs.getD k 0)) (ltAt t (cs.getD k 0)) then diffN s t cs k ||| 2 ^ k else diffN s t cs k
theorem diffN_lt (s t : ByteArray) (cs : List Nat) : ∀ k, diffN s t cs k < 2 ^ k
  | 0 => by simp [diffN]
  | k + 1 => by
    have h := diffN_lt s t cs k
    have h2 : 2 ^ k < 2 ^ (k + 1) := Nat.pow_lt_pow_right (by omega) (by omega)
    rw [diffN]; split
    · exact Nat.or_lt_two_pow (by omega) h2
    · omega

set_option maxRecDepth 100000 in
theorem difference_any (a b : Sh) (A : Option Addr) (n cap : Nat) (cs : List Nat) (w : World) (hn : n ≤ 8) (hca : ∀ c ∈ cs, c < a.s.size) (hcb : ∀ c ∈ cs, c < b.s.size) (hsz : a.s.size ≤ 100000) (hr : Rd w w.heap.size 1 A n (cs.map natV)) :
    Calls Tryz.prog 167 #[.agg (shC a).toArray, .agg (shC b).toArray, .slice A n cap] w fun e w' => e = .returned (.int .u64 (diffN a.s b.s cs n)) ∧ Below w.heap.size w w' := by
  have hlen := hr.len
  obtain ⟨f1, n1, x1, y1, s⟩ := a
  obtain ⟨f2, n2, x2, y2, t⟩ := b
  simp only [shC]
  dsimp only at hca hcb hsz ⊢
  go_enter Tryz.func167, Tryz.ntmps167
  go_wp2
  have hb1 := (Blk.new w 156 #[.int .i64 f1, .int .i64 n1, .int .i64 x1, .int .i64 y1, .string s]).alloc (.cells #[.int .i64 f2, .int .i64 n2, .int .i64 x2, .int .i64 y2, .string t] 156)
  have hb2 := blk2 w (.cells #[.int .i64 f1, .int .i64 n1, .int .i64 x1, .int .i64 y1, .string s] 156) 156 #[.int .i64 f2, .int .i64 n2, .int .i64 x2, .int .i64 y2, .string t]
  have hB := pro2 w (.cells #[.int .i64 f1, .int .i64 n1, .int .i64 x1, .int .i64 y1, .string s] 156) (.cells #[.int .i64 f2, .int .i64 n2, .int .i64 x2, .int .i64 y2, .string t] 156)
  go_loopg [7, 12] n (fun g d i wr => ∃ k : Nat, g = n - k ∧ k ≤ n ∧ i = .int .i64 k ∧ d = .int .u64 (diffN s t cs k) ∧ Blk wr w.heap.size 156 #[.int .i64 f1, .int .i64 n1, .int .i64 x1, .int .i64 y1, .string s] ∧ Blk wr (w.heap.size + 1) 156 #[.int .i64 f2, .int .i64 n2, .int .i64 x2, .int .i64 y2, .string t] ∧ Below w.heap.size w wr)
  case atStart => exact ⟨0, rfl, Nat.zero_le _, rfl, rfl, hb1, hb2, hB⟩
  case round =>
    clear hb1 hb2 hB
    obtain ⟨k, hg, hk, rfl, rfl, hb1, hb2, hB⟩ := hrel
    have HG := Lib.hid hg; clear hg
    have HLEN := Lib.hid hlen; clear hlen
    have hl1 := hb1.lt
    have hl2 := hb2.lt
    by_cases hlt : k < n
    · obtain ⟨b, off, hzk, rfl, hb, hc⟩ := (hr.below hB).atm hlt
      have hc1 := hca _ (List.getElem_mem hzk)
      have hc2 := hcb _ (List.getElem_mem hzk)
      have hgd : cs.getD k 0 = cs[k] := by rw [List.getD, List.getElem?_eq_getElem hzk]; rfl
      have hstep : diffN s t cs (k + 1) = if clB (ltAt s (cs.getD k 0)) (ltAt t (cs.getD k 0)) then diffN s t cs k ||| 2 ^ k else diffN s t cs k := rfl
      rw [hgd] at hstep
      have hlt1 := diffN_lt s t cs k
      clear hgd
      generalize cs[k] = c at *
      rw [ltAt_eq s _ hc1, ltAt_eq t _ hc2] at hstep
      simp only [natV] at hc
      have hci : (c : Int) < s.size := by omega
      have hp8 : (2 : Nat) ^ k ≤ 128 := by have : k ≤ 7 := by omega
                                           exact Nat.le_trans (Nat.pow_le_pow_right (by omega) this) (by decide)
      have HST := Lib.hid hstep; clear hstep
      generalize diffN s t cs k = acc at *
      have hcq1 := fun p : Blw wr.heap.size wr => fun i => (blw_blk hb1 p i)
      have hcq2 := fun p : Blw wr.heap.size wr => fun i => (blw_blk hb2 p i)
      cases hq : clB ((s[c]'hc1).toNat : Int) ((t[c]'hc2).toNat : Int)
      · go_wp2_with (fail)
        refine wp_region_blw (by kernel_rfl) (by kernel_rfl) ?_
        repeat (go_big_quiet_step ((go_at_call 163; exact Calls.blw_of_same _ (hq ▸ clash_any _ _ _))))
        refine wpQuiet_nil ?_
        rintro W3 ⟨⟨_, hb3⟩, rfl⟩
        clear hcq1 hcq2
        go_wp2_with (fail)
        go_roundg (n - (k + 1))
        case measure => rw [HG.out]; omega
        case rel => exact ⟨k + 1, rfl, by omega, by go_num, by rw [HST.out, hq]; rfl, hb1.below hb3 hl1, hb2.below hb3 hl2, hB.trans (hb3.mono hB.size)⟩
      · go_wp2_with (fail)
        refine wp_region_blw (by kernel_rfl) (by kernel_rfl) ?_
        repeat (go_big_quiet_step ((go_at_call 163; exact Calls.blw_of_same _ (hq ▸ clash_any _ _ _))))
        refine wpQuiet_nil ?_
        rintro W3 ⟨⟨_, hb3⟩, rfl⟩
        clear hcq1 hcq2
        go_wp2_with (fail)
        have hw : IntKind.u64.wrap ((2 : Int) ^ k) = ((2 ^ k : Nat) : Int) := by
          rw [show (2 : Int) ^ k = ((2 ^ k : Nat) : Int) by rw [Int.natCast_pow]; rfl]
          exact IntWalk.u64_in _ (by omega)
        have hor := bits_or_u64_nat acc (2 ^ k) (by omega) (by omega)
        go_roundg (n - (k + 1))
        case measure => rw [HG.out]; omega
        case rel => exact ⟨k + 1, rfl, by omega, by go_num, by rw [HST.out, if_pos hq, hw, hor], hb1.below hb3 hl1, hb2.below hb3 hl2, hB.trans (hb3.mono hB.size)⟩
    · obtain rfl : k = n := by omega
      go_wp2
      go_ret
      exact ⟨rfl, hB⟩
end Go.Proofs.YtifddfchpknkbaaGreatDoor

namespace Go.Proofs.YtifddfchpknkbaaGreatDoor
open Go.RowKit

def emptyS (q : Nat) : ByteArray := ⟨(Lib.repeatL [46] q).toArray⟩
theorem emptyCloth_any (W H F L X Y : Int) (w : World) (h1 : 0 ≤ W) (h2 : W ≤ 100) (h3 : 0 ≤ H) (h4 : H ≤ 100) :
    Calls Tryz.prog 107 #[.agg #[.int .i64 W, .int .i64 H, .int .i64 F, .int .i64 L, .int .i64 X, .int .i64 Y]] w fun e w' => e = .returned (.string (emptyS (W.toNat * H.toNat))) ∧ Below w.heap.size w w' := by
  obtain ⟨Wn, rfl⟩ : ∃ k : Nat, W = k := ⟨W.toNat, by omega⟩
  obtain ⟨Hn, rfl⟩ : ∃ k : Nat, H = k := ⟨H.toNat, by omega⟩
  have hle : Wn * Hn ≤ 10000 := Nat.mul_le_mul (show Wn ≤ 100 by omega) (show Hn ≤ 100 by omega)
  have hc : ((Wn * Hn : Nat) : Int) = (Wn : Int) * Hn := Int.natCast_mul Wn Hn
  have hw := i64_ok ((Wn : Int) * Hn) (by omega)
  have hrep : ∀ w1, Calls Tryz.prog 151 #[.string ⟨#[46]⟩, .int .i64 ((Wn : Int) * Hn)] w1 fun e w' => e = .returned (.string (emptyS (Wn * Hn))) ∧ Below w1.heap.size w1 w' := fun w1 => by
    rw [← hc]
    exact Tryz.strings_Repeat ⟨#[46]⟩ (Wn * Hn) w1 (by omega) (by show 1 * (Wn * Hn) ≤ _; omega)
  clear hc
  go_enter Tryz.func107, Tryz.ntmps107
  go_wp2_with (go_at_call 151; refine (hrep _).mono ?_; rintro e w1 ⟨rfl, hb1⟩)
  go_ret
  exact ⟨rfl, ((Below.refl _ w).alloc (Nat.le_refl _) _).trans (hb1.mono (by simp only [World.size_alloc]; omega))⟩
end Go.Proofs.YtifddfchpknkbaaGreatDoor

namespace Go.Proofs.YtifddfchpknkbaaGreatDoor
open Go.RowKit

def blankRow : ByteArray := ⟨#[63, 63, 63, 63, 63, 63, 63, 63]⟩
set_option maxRecDepth 100000 in
theorem N_fun (w : World) : Calls Tryz.prog 95 #[] w fun e w' => ∃ v, e = .returned v ∧ w'.ownsRow w.heap.size 9 1 v 8 (List.replicate 8 (Value.string blankRow)) ∧ Below w.heap.size w w' := by
  obtain ⟨i0, hi, hz0, hz1', hz2'⟩ := info_parts info9
  go_enter Tryz.func95, Tryz.ntmps95
  go_wp2
  go_loopg [1, 2] 8 (fun g u i wr => ∃ (k : Nat) (v0 : Value), g = 8 - k ∧ k ≤ 8 ∧ i = .int .i64 k ∧ u = v0 ∧ wr.ownsRow w.heap.size 9 1 v0 k (List.replicate k (Value.string blankRow)) ∧ Below w.heap.size w wr)
  case atStart => exact ⟨0, _, rfl, Nat.zero_le _, rfl, rfl, World.ownsRow_nil _ _ _ _, Below.refl _ _⟩
  case round =>
    obtain ⟨k, v, hg, hk, rfl, rfl, hown, hB⟩ := hrel
    obtain ⟨va, vc, rfl⟩ := own_slice hown
    have HG := Lib.hid hg; clear hg
    by_cases hlt : k < 8
    · go_wp2_with (first
        | (at_builtin; refine wpList_append_any _ rfl _ _ 24 rfl w.heap.size 9 i0 (.string ByteArray.empty) 1 16 Tryz.underlying24 hi hz0 hz1' hz2' rfl (by decide) (.slice va k vc) k (List.replicate k (Value.string blankRow)) rfl (hown.alloc _) (wr.heap.size + 1) (some ⟨wr.heap.size, 0, none⟩) 1 1 [.string blankRow] rfl (Rd.blkN (Blk.new wr 9 #[.string blankRow]) rfl (Nat.lt_succ_self _)).reads (by simp [Value.oneCell']) (by unfold maxLen; omega) (by omega) (by have := hB.size; simp only [World.size_alloc]; omega) (fun v' w' hown' hgrow hob => ?_))
        | go_in)
      go_roundg (8 - (k + 1))
      case measure => rw [HG.out]; omega
      case rel => exact ⟨k + 1, _, rfl, by omega, by go_num, rfl, by rw [List.replicate_succ']; exact hown', (hB.alloc hB.size _).grown hgrow (by have := hB.size; simp only [World.size_alloc]; omega) (fun g hg => (hown.lt g hg).1)⟩
    · obtain rfl : k = 8 := by omega
      go_wp2
      go_ret
      exact ⟨_, rfl, hown, hB⟩
end Go.Proofs.YtifddfchpknkbaaGreatDoor

namespace Go.Proofs.YtifddfchpknkbaaGreatDoor
open Go.RowKit

def sameP (p : Int × Int) : Bool := p.1 == p.2
/-- Two lists are the same. -/
def sameL (xs ys : List Int) : Bool := decide (xs.length = ys.length) && (xs.zip ys).all sameP

set_option maxRecDepth 100000 in
theorem Same_any (A A2 : Option Addr) (n n2 cap cap2 : Nat) (xs ys : List Int) (w : World) (hn : n ≤ maxLen) (hn2 : n2 ≤ maxLen) (hr : Rd w w.heap.size 1 A n (xs.map (Value.int .i64))) (hr2 : Rd w w.heap.size 1 A2 n2 (ys.map (Value.int .i64))) :
    Calls Tryz.prog 71 #[.slice A n cap, .slice A2 n2 cap2] w fun e w' => e = .returned (.bool (sameL xs ys)) ∧ Below w.heap.size w w' := by
  have hlen := hr.len
  have hlen2 := hr2.len
  unfold maxLen at hn hn2
  have HL := Lib.hid hlen; have HL2 := Lib.hid hlen2; clear hlen hlen2
  by_cases hnn : n = n2
  · subst hnn
    have hne : ((n : Int) != n) = false := by simp
    go_enter Tryz.func71, Tryz.ntmps71
    go_wp2
    go_loopg [5] n (fun g i wr => ∃ k : Nat, g = n - k ∧ k ≤ n ∧ i = .int .i64 k ∧ ((xs.zip ys).drop k).all sameP = (xs.zip ys).all sameP ∧ Below w.heap.size w wr)
    case atStart => exact ⟨0, rfl, Nat.zero_le _, rfl, rfl, Below.refl _ _⟩
    case round =>
      obtain ⟨k, hg, hk, rfl, hi, hB⟩ := hrel
      have HG := Lib.hid hg; have HI := Lib.hid hi; clear hg hi
      by_cases hlt : k < n
      · obtain ⟨b, off, hz, rfl, hb, hc⟩ := (hr.below hB).atm hlt
        obtain ⟨b2, off2, hz2, rfl, hb2, hc2⟩ := (hr2.below hB).atm hlt
        have hzz : k < (xs.zip ys).length := by simp; omega
        have hd := all_drop sameP (xs.zip ys) k hzz
        rw [List.getElem_zip] at hd
        generalize xs[k] = x at *
        generalize ys[k] = y at *
        have HD := Lib.hid hd; clear hd
        have hq1 := fun p : Blw wr.heap.size wr => blw_cell (a := ⟨b, off + k, none⟩) (Nat.lt_of_lt_of_le hb hB.size) hc p
        have hq2 := fun p : Blw wr.heap.size wr => blw_cell (a := ⟨b2, off2 + k, none⟩) (Nat.lt_of_lt_of_le hb2 hB.size) hc2 p
        cases hxy : (x != y)
        · have hs : sameP (x, y) = true := by simp [sameP] at hxy ⊢; exact hxy
          have HS := Lib.hid hs; clear hs
          go_wp2_with (fail)
          refine wp_region_blw (by kernel_rfl) (by kernel_rfl) ?_
          repeat (go_big_quiet_step (fail))
          refine wpQuiet_nil ?_
          rintro W3 ⟨⟨_, hb3⟩, rfl⟩
          clear hq1 hq2
          go_wp2_with (fail)
          go_roundg (n - (k + 1))
          case measure => rw [HG.out]; omega
          case rel => exact ⟨k + 1, rfl, by omega, by go_num, by rw [← HI.out, HD.out, HS.out]; rfl, hB.trans (hb3.mono hB.size)⟩
        · have hs : sameP (x, y) = false := by simp [sameP] at hxy ⊢; exact hxy
          have HS := Lib.hid hs; clear hs
          go_wp2_with (fail)
          refine wp_region_blw (by kernel_rfl) (by kernel_rfl) ?_
          repeat (go_big_quiet_step (fail))
          refine wpQuiet_nil ?_
          rintro W3 ⟨⟨_, hb3⟩, rfl⟩
          clear hq1 hq2
          go_wp2_with (fail)
          go_ret
          exact ⟨ret_bool (by rw [sameL, ← HI.out, HD.out, HS.out]; simp), hB.trans (hb3.mono hB.size)⟩
      · have hdn : (xs.zip ys).drop k = [] := List.drop_eq_nil_of_le (by simp; have := HL.out; omega)
        rw [hdn] at HI
        clear hdn
        go_wp2
        go_ret
        exact ⟨ret_bool (by rw [sameL, ← HI.out, HL.out, HL2.out]; simp), hB⟩
  · have hne : ((n : Int) != n2) = true := by simp; omega
    go_enter Tryz.func71, Tryz.ntmps71
    go_wp2
    go_ret
    exact ⟨ret_bool (by rw [sameL, HL.out, HL2.out, decide_eq_false hnn]; rfl), Below.refl _ _⟩

set_option maxRecDepth 100000 in
theorem SameWords_any (A A2 : Option Addr) (n n2 cap cap2 : Nat) (xs ys : List Int) (w : World) (hn : n ≤ maxLen) (hn2 : n2 ≤ maxLen) (hr : Rd w w.heap.size 1 A n (xs.map (Value.int .i64))) (hr2 : Rd w w.heap.size 1 A2 n2 (ys.map (Value.int .i64))) :
    Calls Tryz.prog 59 #[.slice A n cap, .slice A2 n2 cap2] w fun e w' => e = .returned (.bool (sameL xs ys)) ∧ Below w.heap.size w w' := by
  have hlen := hr.len
  have hlen2 := hr2.len
  unfold maxLen at hn hn2
  have HL := Lib.hid hlen; have HL2 := Lib.hid hlen2; clear hlen hlen2
  by_cases hnn : n = n2
  · subst hnn
    have hne : ((n : Int) != n) = false := by simp
    go_enter Tryz.func59, Tryz.ntmps59
    go_wp2
    go_loopg [5] n (fun g i wr => ∃ k : Nat, g = n - k ∧ k ≤ n ∧ i = .int .i64 k ∧ ((xs.zip ys).drop k).all sameP = (xs.zip ys).all sameP ∧ Below w.heap.size w wr)
    case atStart => exact ⟨0, rfl, Nat.zero_le _, rfl, rfl, Below.refl _ _⟩
    case round =>
      obtain ⟨k, hg, hk, rfl, hi, hB⟩ := hrel
      have HG := Lib.hid hg; have HI := Lib.hid hi; clear hg hi
      by_cases hlt : k < n
      · obtain ⟨b, off, hz, rfl, hb, hc⟩ := (hr.below hB).atm hlt
        obtain ⟨b2, off2, hz2, rfl, hb2, hc2⟩ := (hr2.below hB).atm hlt
        have hzz : k < (xs.zip ys).length := by simp; omega
        have hd := all_drop sameP (xs.zip ys) k hzz
        rw [List.getElem_zip] at hd
        generalize xs[k] = x at *
        generalize ys[k] = y at *
        have HD := Lib.hid hd; clear hd
        have hq1 := fun p : Blw wr.heap.size wr => blw_cell (a := ⟨b, off + k, none⟩) (Nat.lt_of_lt_of_le hb hB.size) hc p
        have hq2 := fun p : Blw wr.heap.size wr => blw_cell (a := ⟨b2, off2 + k, none⟩) (Nat.lt_of_lt_of_le hb2 hB.size) hc2 p
        cases hxy : (x != y)
        · have hs : sameP (x, y) = true := by simp [sameP] at hxy ⊢; exact hxy
          have HS := Lib.hid hs; clear hs
          go_wp2_with (fail)
          refine wp_region_blw (by kernel_rfl) (by kernel_rfl) ?_
          repeat (go_big_quiet_step (fail))
          refine wpQuiet_nil ?_
          rintro W3 ⟨⟨_, hb3⟩, rfl⟩
          clear hq1 hq2
          go_wp2_with (fail)
          go_roundg (n - (k + 1))
          case measure => rw [HG.out]; omega
          case rel => exact ⟨k + 1, rfl, by omega, by go_num, by rw [← HI.out, HD.out, HS.out]; rfl, hB.trans (hb3.mono hB.size)⟩
        · have hs : sameP (x, y) = false := by simp [sameP] at hxy ⊢; exact hxy
          have HS := Lib.hid hs; clear hs
          go_wp2_with (fail)
          refine wp_region_blw (by kernel_rfl) (by kernel_rfl) ?_
          repeat (go_big_quiet_step (fail))
          refine wpQuiet_nil ?_
          rintro W3 ⟨⟨_, hb3⟩, rfl⟩
          clear hq1 hq2
          go_wp2_with (fail)
          go_ret
          exact ⟨ret_bool (by rw [sameL, ← HI.out, HD.out, HS.out]; simp), hB.trans (hb3.mono hB.size)⟩
      · have hdn : (xs.zip ys).drop k = [] := List.drop_eq_nil_of_le (by simp; have := HL.out; omega)
        rw [hdn] at HI
        clear hdn
        go_wp2
        go_ret
        exact ⟨ret_bool (by rw [sameL, ← HI.out, HL.out, HL2.out]; simp), hB⟩
  · have hne : ((n : Int) != n2) = true := by simp; omega
    go_enter Tryz.func59, Tryz.ntmps59
    go_wp2
    go_ret
    exact ⟨ret_bool (by rw [sameL, HL.out, HL2.out, decide_eq_false hnn]; rfl), Below.refl _ _⟩
end Go.Proofs.YtifddfchpknkbaaGreatDoor

namespace Go.Proofs.YtifddfchpknkbaaGreatDoor
open Go.RowKit Go.Maps

theorem flatS_size : ∀ (rs : List ByteArray) (W : Nat), (∀ r ∈ rs, r.size = W) → (flatS rs).size = rs.length * W
  | [], W, _ => by simp [flatS, ByteArray.size]
  | r :: rs, W, h => by
    have ih := flatS_size rs W (fun r hr => h r (by simp [hr]))
    have h1 := h r (by simp)
    simp only [flatS, ByteArray.size, List.flatMap_cons, List.size_toArray, List.length_append, List.length_cons, Array.length_toList] at ih h1 ⊢
    rw [ih, h1, Nat.add_mul, Nat.one_mul, Nat.add_comm]
theorem sight_size {W H : Int} {rs : List ByteArray} (h : sightB W H rs = true) : (flatS rs).size = H.toNat * W.toNat ∧ rs.length = H.toNat := by
  simp only [sightB, Bool.and_eq_true, decide_eq_true_eq, List.all_eq_true] at h
  obtain ⟨h1, h2⟩ := h
  have h3 : ∀ r ∈ rs, r.size = W.toNat := by
    intro r hr
    have h4 := h2 r hr
    simp only [sightRow, Bool.and_eq_true, decide_eq_true_eq] at h4
    omega
  rw [flatS_size rs W.toNat h3]
  exact ⟨by rw [show rs.length = H.toNat by omega], by omega⟩
theorem shL_size {W H F L X Y nl nh xl xh y : Int} {fs : List Fig} {h : Sh} (hh : h ∈ shL W H F L X Y nl nh xl xh y fs) : h.s.size = W.toNat * H.toNat := by
  obtain ⟨t, _, rfl⟩ := List.mem_map.1 hh
  exact shS_size _ _ _ _ _ _ _ _ _ _
theorem shL_f {W H F L X Y nl nh xl xh y : Int} {fs : List Fig} {h : Sh} (hh : h ∈ shL W H F L X Y nl nh xl xh y fs) : 0 ≤ h.f ∧ h.f < fs.length := by
  obtain ⟨t, ht, rfl⟩ := List.mem_map.1 hh
  exact (mem_fR.1 ht).1
theorem ask_dims {W H F L X Y nl nh xl xh y : Int} {fs : List Fig} (h : askB W H F L X Y nl nh xl xh y fs = true) : (1 ≤ W ∧ W ≤ 16) ∧ (1 ≤ H ∧ H ≤ 16) ∧ (1 ≤ fs.length ∧ fs.length ≤ 6) ∧ W.toNat * H.toNat ≤ 256 := by
  simp only [askB, Bool.and_eq_true] at h
  have a := stageB_nums h.1
  have c := (compB_nums h.2.1).1
  exact ⟨a.1, a.2.1, c, Nat.mul_le_mul (show W.toNat ≤ 16 by omega) (show H.toNat ≤ 16 by omega)⟩

/-- A slice that reads as a list of values. -/
def IsL (w : World) (v : Value) (xs : List Value) : Prop := ∃ A n cap, v = .slice A n cap ∧ n ≤ cap ∧ cap ≤ maxLen ∧ Rd w w.heap.size 1 A n xs
theorem IsL.nil (w : World) : IsL w (.slice none 0 0) [] := ⟨none, 0, 0, rfl, Nat.le_refl _, by unfold maxLen; omega, Rd.nil _ _ _ _⟩
theorem IsL.below {w w' : World} {v : Value} {xs : List Value} (h : IsL w v xs) (hb : Below w.heap.size w w') : IsL w' v xs := by
  obtain ⟨A, n, cap, rfl, h1, h2, h3⟩ := h
  exact ⟨A, n, cap, rfl, h1, h2, (h3.below hb).more hb.size⟩

/-- The shades that agree with a sight. -/
def agL (W H F L X Y nl nh xl xh y : Int) (fs : List Fig) (rs : List ByteArray) : List Sh := (shL W H F L X Y nl nh xl xh y fs).filter fun h => agreeB h.s (flatS rs)
def goodQ (W H F L X Y nl nh xl xh y : Int) (fs : List Fig) (rs : List ByteArray) : Bool := askB W H F L X Y nl nh xl xh y fs && sightB W H rs
def whoF (W H F L X Y nl nh xl xh y : Int) (fs : List Fig) (rs : List ByteArray) : List Int := (agL W H F L X Y nl nh xl xh y fs rs).map Sh.f
def whoE (W H F L X Y nl nh xl xh y : Int) (fs : List Fig) (rs : List ByteArray) : Int := if goodQ W H F L X Y nl nh xl xh y fs rs then (if (uniq (whoF W H F L X Y nl nh xl xh y fs rs)).length = 0 then 7 else 0) else 2
def whoL (W H F L X Y nl nh xl xh y : Int) (fs : List Fig) (rs : List ByteArray) : List Int := if goodQ W H F L X Y nl nh xl xh y fs rs then (if (uniq (whoF W H F L X Y nl nh xl xh y fs rs)).length = 0 then [] else wordsL (whoF W H F L X Y nl nh xl xh y fs rs) fs.length) else []

set_option maxRecDepth 100000 in
set_option maxHeartbeats 1600000 in
theorem Who_any (W H F L X Y nl nh xl xh y : Int) (A : Option Addr) (n cap : Nat) (fs : List Fig) (SA : Option Addr) (sn scap : Nat) (rs : List ByteArray) (w : World) (hn : n ≤ cap) (hcm : cap ≤ maxLen) (hf : ∀ f ∈ fs, f.ok w w.heap.size) (hr : Rd w w.heap.size 1 A n (fs.map Fig.val)) (hsn : sn ≤ scap) (hscm : scap ≤ maxLen) (hss : ∀ r ∈ rs, r.size ≤ maxLen) (hsr : Rd w w.heap.size 1 SA sn (rs.map Value.string)) :
    Calls Tryz.prog 53 #[.agg #[.int .i64 W, .int .i64 H, .int .i64 F, .int .i64 L, .int .i64 X, .int .i64 Y], .slice A n cap, .agg #[.int .i64 nl, .int .i64 nh, .int .i64 xl, .int .i64 xh, .int .i64 y], .slice SA sn scap] w fun e w' => ∃ v, e = .returned (.tuple #[v, .int .i64 (whoE W H F L X Y nl nh xl xh y fs rs)]) ∧ IsL w' v ((whoL W H F L X Y nl nh xl xh y fs rs).map (Value.int .i64)) ∧ Below w.heap.size w w' := by
  have hA : Blk ((w.alloc (.cells #[.int .i64 W, .int .i64 H, .int .i64 F, .int .i64 L, .int .i64 X, .int .i64 Y] 23)).alloc (.cells #[.int .i64 nl, .int .i64 nh, .int .i64 xl, .int .i64 xh, .int .i64 y] 71)) w.heap.size 23 #[.int .i64 W, .int .i64 H, .int .i64 F, .int .i64 L, .int .i64 X, .int .i64 Y] := (Blk.new w 23 #[.int .i64 W, .int .i64 H, .int .i64 F, .int .i64 L, .int .i64 X, .int .i64 Y]).alloc _
  have hBk : Blk ((w.alloc (.cells #[.int .i64 W, .int .i64 H, .int .i64 F, .int .i64 L, .int .i64 X, .int .i64 Y] 23)).alloc (.cells #[.int .i64 nl, .int .i64 nh, .int .i64 xl, .int .i64 xh, .int .i64 y] 71)) (w.heap.size + 1) 71 #[.int .i64 nl, .int .i64 nh, .int .i64 xl, .int .i64 xh, .int .i64 y] := blk2 w _ 71 #[.int .i64 nl, .int .i64 nh, .int .i64 xl, .int .i64 xh, .int .i64 y]
  have hB2 : Below w.heap.size w ((w.alloc (.cells #[.int .i64 W, .int .i64 H, .int .i64 F, .int .i64 L, .int .i64 X, .int .i64 Y] 23)).alloc (.cells #[.int .i64 nl, .int .i64 nh, .int .i64 xl, .int .i64 xh, .int .i64 y] 71)) := ((Below.refl _ w).alloc (Nat.le_refl _) _).alloc (by simp only [World.size_alloc]; omega) _
  have hqA := fun i => hA.cell i; have hqB := fun i => hBk.cell i; have hlA := hA.lt; have hlB := hBk.lt
  cases hask : (stageB W H F L X Y && (compB fs && reachB F nl nh xl xh y))
  · have he : whoE W H F L X Y nl nh xl xh y fs rs = 2 := by simp [whoE, goodQ, askB, hask]
    have hl : whoL W H F L X Y nl nh xl xh y fs rs = [] := by simp [whoL, goodQ, askB, hask]
    rw [he, hl]
    go_enter Tryz.func53, Tryz.ntmps53
    go_wp2_with (first | (go_at_call 112; refine (goodReach_any W H F L X Y nl nh xl xh y A n cap fs _ (Nat.le_trans hn hcm) (fun f hf' => ((hf f hf').below hB2).more hB2.size) ((hr.below hB2).more hB2.size)).mono ?_; rintro e w1 ⟨rfl, hb⟩; rw [hask]; replace hA := hA.below hb hA.lt; replace hBk := hBk.below hb hBk.lt; replace hB2 := hB2.trans (hb.mono hB2.size); replace hqA := fun i => hA.cell i; replace hqB := fun i => hBk.cell i; replace hlA := hA.lt; replace hlB := hBk.lt; clear hb))
    go_ret2
    exact ⟨_, rfl, IsL.nil _, hB2⟩
  · have hask2 : askB W H F L X Y nl nh xl xh y fs = true := hask
    cases hsight : sightB W H rs
    · have he : whoE W H F L X Y nl nh xl xh y fs rs = 2 := by simp [whoE, goodQ, hsight]
      have hl : whoL W H F L X Y nl nh xl xh y fs rs = [] := by simp [whoL, goodQ, hsight]
      rw [he, hl]
      go_enter Tryz.func53, Tryz.ntmps53
      go_wp2_with (first | (go_at_call 112; refine (goodReach_any W H F L X Y nl nh xl xh y A n cap fs _ (Nat.le_trans hn hcm) (fun f hf' => ((hf f hf').below hB2).more hB2.size) ((hr.below hB2).more hB2.size)).mono ?_; rintro e w1 ⟨rfl, hb⟩; rw [hask]; replace hA := hA.below hb hA.lt; replace hBk := hBk.below hb hBk.lt; replace hB2 := hB2.trans (hb.mono hB2.size); replace hqA := fun i => hA.cell i; replace hqB := fun i => hBk.cell i; replace hlA := hA.lt; replace hlB := hBk.lt; clear hb) | (go_at_call 113; refine (goodSight_any W H F L X Y SA sn scap rs _ (Nat.le_trans hsn hscm) hss ((hsr.below hB2).more hB2.size)).mono ?_; rintro e w1 ⟨rfl, hb⟩; rw [hsight]; replace hA := hA.below hb hA.lt; replace hBk := hBk.below hb hBk.lt; replace hB2 := hB2.trans (hb.mono hB2.size); replace hqA := fun i => hA.cell i; replace hqB := fun i => hBk.cell i; replace hlA := hA.lt; replace hlB := hBk.lt; clear hb))
      go_ret2
      exact ⟨_, rfl, IsL.nil _, hB2⟩
    · have hg : goodQ W H F L X Y nl nh xl xh y fs rs = true := by simp [goodQ, hask2, hsight]
      have hdm := ask_dims hask2
      have hsm : (shL W H F L X Y nl nh xl xh y fs).length ≤ 216 := by rw [shL, List.length_map]; exact allR_small hask2
      obtain ⟨hs1, hs2⟩ := sight_size hsight
      have hmul := Nat.mul_comm H.toNat W.toNat
      have hsz : ∀ h ∈ shL W H F L X Y nl nh xl xh y fs, h.s.size ≤ (flatS rs).size := fun h hh => by rw [shL_size hh]; omega
      have hagl : (agL W H F L X Y nl nh xl xh y fs rs).length ≤ 216 := Nat.le_trans (List.length_filter_le _ _) hsm
      have hwf : ∀ h ∈ agL W H F L X Y nl nh xl xh y fs rs, (Lit.int .i64 h.f).wf = true := fun h hh => by have := shL_f (List.mem_filter.1 hh).1; exact WalkArith.wf_i64 (by omega)
      have hlr := hr.len
      have hlsr := hsr.len
      by_cases hq : (uniq (whoF W H F L X Y nl nh xl xh y fs rs)).length = 0
      · have he : whoE W H F L X Y nl nh xl xh y fs rs = 7 := by simp [whoE, hg, hq]
        have hl : whoL W H F L X Y nl nh xl xh y fs rs = [] := by simp [whoL, hg, hq]
        rw [he, hl]
        change (uniq (((shL W H F L X Y nl nh xl xh y fs).filter fun h => agreeB h.s (flatS rs)).map Sh.f)).length = 0 at hq
        unfold agL at hagl hwf
        go_enter Tryz.func53, Tryz.ntmps53
        go_wp2_with (first | (go_at_call 112; refine (goodReach_any W H F L X Y nl nh xl xh y A n cap fs _ (Nat.le_trans hn hcm) (fun f hf' => ((hf f hf').below hB2).more hB2.size) ((hr.below hB2).more hB2.size)).mono ?_; rintro e w1 ⟨rfl, hb⟩; rw [hask]; replace hA := hA.below hb hA.lt; replace hBk := hBk.below hb hBk.lt; replace hB2 := hB2.trans (hb.mono hB2.size); replace hqA := fun i => hA.cell i; replace hqB := fun i => hBk.cell i; replace hlA := hA.lt; replace hlB := hBk.lt; clear hb) | (go_at_call 113; refine (goodSight_any W H F L X Y SA sn scap rs _ (Nat.le_trans hsn hscm) hss ((hsr.below hB2).more hB2.size)).mono ?_; rintro e w1 ⟨rfl, hb⟩; rw [hsight]; replace hA := hA.below hb hA.lt; replace hBk := hBk.below hb hBk.lt; replace hB2 := hB2.trans (hb.mono hB2.size); replace hqA := fun i => hA.cell i; replace hqB := fun i => hBk.cell i; replace hlA := hA.lt; replace hlB := hBk.lt; clear hb) | (go_at_call 115; refine (shades_any W H F L X Y nl nh xl xh y A n cap fs _ hn hcm (fun f hf' => ((hf f hf').below hB2).more hB2.size) ((hr.below hB2).more hB2.size) hask2).mono ?_; rintro e w1 ⟨v1, rfl, own1, hb⟩; obtain ⟨A1, c1, rfl⟩ := own_slice own1; have hr1 := Rd.of_own own1; clear own1; replace hA := hA.below hb hA.lt; replace hBk := hBk.below hb hBk.lt; replace hB2 := hB2.trans (hb.mono hB2.size); replace hqA := fun i => hA.cell i; replace hqB := fun i => hBk.cell i; replace hlA := hA.lt; replace hlB := hBk.lt; clear hb) | (go_at_call 116; refine (flat_any SA sn scap rs _ ((hsr.below hB2).more hB2.size) (by omega) hsn (by omega)).mono ?_; rintro e w1 ⟨rfl, hb⟩; replace hr1 := (hr1.below hb).more hb.size; replace hA := hA.below hb hA.lt; replace hBk := hBk.below hb hBk.lt; replace hB2 := hB2.trans (hb.mono hB2.size); replace hqA := fun i => hA.cell i; replace hqB := fun i => hBk.cell i; replace hlA := hA.lt; replace hlB := hBk.lt; clear hb) | (go_at_call 114; refine (seen_any A1 _ c1 _ (flatS rs) _ (by omega) hsz (by unfold maxLen; omega) hr1).mono ?_; rintro e w1 ⟨v2, rfl, own2, hb⟩; obtain ⟨A2, c2, rfl⟩ := own_slice own2; have hr2 := Rd.of_own own2; clear own2; clear hr1; replace hA := hA.below hb hA.lt; replace hBk := hBk.below hb hBk.lt; replace hB2 := hB2.trans (hb.mono hB2.size); replace hqA := fun i => hA.cell i; replace hqB := fun i => hBk.cell i; replace hlA := hA.lt; replace hlB := hBk.lt; clear hb) | (go_at_call 117; refine (figures_any A2 _ c2 _ _ (by omega) hwf hr2).mono ?_; rintro e w1 ⟨rfl, own3, hb⟩; clear hr2; replace hA := hA.below hb hA.lt; replace hBk := hBk.below hb hBk.lt; replace hB2 := hB2.trans (hb.mono hB2.size); replace hqA := fun i => hA.cell i; replace hqB := fun i => hBk.cell i; replace hlA := hA.lt; replace hlB := hBk.lt; clear hb) | (at_len; refine wpList_len_own _ rfl _ 157 rfl 3 4 Tryz.underlying157 _ _ _ _ rfl own3 ?_; rw [iset_size]))
        go_ret2
        exact ⟨_, rfl, IsL.nil _, hB2⟩
      · have he : whoE W H F L X Y nl nh xl xh y fs rs = 0 := by simp [whoE, hg, hq]
        have hl : whoL W H F L X Y nl nh xl xh y fs rs = wordsL (whoF W H F L X Y nl nh xl xh y fs rs) n := by simp [whoL, hg, hq, hlr]
        rw [he, hl]
        change ¬ (uniq (((shL W H F L X Y nl nh xl xh y fs).filter fun h => agreeB h.s (flatS rs)).map Sh.f)).length = 0 at hq
        unfold agL at hagl hwf
        unfold whoF agL
        go_enter Tryz.func53, Tryz.ntmps53
        go_wp2_with (first | (go_at_call 112; refine (goodReach_any W H F L X Y nl nh xl xh y A n cap fs _ (Nat.le_trans hn hcm) (fun f hf' => ((hf f hf').below hB2).more hB2.size) ((hr.below hB2).more hB2.size)).mono ?_; rintro e w1 ⟨rfl, hb⟩; rw [hask]; replace hA := hA.below hb hA.lt; replace hBk := hBk.below hb hBk.lt; replace hB2 := hB2.trans (hb.mono hB2.size); replace hqA := fun i => hA.cell i; replace hqB := fun i => hBk.cell i; replace hlA := hA.lt; replace hlB := hBk.lt; clear hb) | (go_at_call 113; refine (goodSight_any W H F L X Y SA sn scap rs _ (Nat.le_trans hsn hscm) hss ((hsr.below hB2).more hB2.size)).mono ?_; rintro e w1 ⟨rfl, hb⟩; rw [hsight]; replace hA := hA.below hb hA.lt; replace hBk := hBk.below hb hBk.lt; replace hB2 := hB2.trans (hb.mono hB2.size); replace hqA := fun i => hA.cell i; replace hqB := fun i => hBk.cell i; replace hlA := hA.lt; replace hlB := hBk.lt; clear hb) | (go_at_call 115; refine (shades_any W H F L X Y nl nh xl xh y A n cap fs _ hn hcm (fun f hf' => ((hf f hf').below hB2).more hB2.size) ((hr.below hB2).more hB2.size) hask2).mono ?_; rintro e w1 ⟨v1, rfl, own1, hb⟩; obtain ⟨A1, c1, rfl⟩ := own_slice own1; have hr1 := Rd.of_own own1; clear own1; replace hA := hA.below hb hA.lt; replace hBk := hBk.below hb hBk.lt; replace hB2 := hB2.trans (hb.mono hB2.size); replace hqA := fun i => hA.cell i; replace hqB := fun i => hBk.cell i; replace hlA := hA.lt; replace hlB := hBk.lt; clear hb) | (go_at_call 116; refine (flat_any SA sn scap rs _ ((hsr.below hB2).more hB2.size) (by omega) hsn (by omega)).mono ?_; rintro e w1 ⟨rfl, hb⟩; replace hr1 := (hr1.below hb).more hb.size; replace hA := hA.below hb hA.lt; replace hBk := hBk.below hb hBk.lt; replace hB2 := hB2.trans (hb.mono hB2.size); replace hqA := fun i => hA.cell i; replace hqB := fun i => hBk.cell i; replace hlA := hA.lt; replace hlB := hBk.lt; clear hb) | (go_at_call 114; refine (seen_any A1 _ c1 _ (flatS rs) _ (by omega) hsz (by unfold maxLen; omega) hr1).mono ?_; rintro e w1 ⟨v2, rfl, own2, hb⟩; obtain ⟨A2, c2, rfl⟩ := own_slice own2; have hr2 := Rd.of_own own2; clear own2; clear hr1; replace hA := hA.below hb hA.lt; replace hBk := hBk.below hb hBk.lt; replace hB2 := hB2.trans (hb.mono hB2.size); replace hqA := fun i => hA.cell i; replace hqB := fun i => hBk.cell i; replace hlA := hA.lt; replace hlB := hBk.lt; clear hb) | (go_at_call 117; refine (figures_any A2 _ c2 _ _ (by omega) hwf hr2).mono ?_; rintro e w1 ⟨rfl, own3, hb⟩; clear hr2; replace hA := hA.below hb hA.lt; replace hBk := hBk.below hb hBk.lt; replace hB2 := hB2.trans (hb.mono hB2.size); replace hqA := fun i => hA.cell i; replace hqB := fun i => hBk.cell i; replace hlA := hA.lt; replace hlB := hBk.lt; clear hb) | (at_len; refine wpList_len_own _ rfl _ 157 rfl 3 4 Tryz.underlying157 _ _ _ _ rfl own3 ?_; rw [iset_size]) | (go_at_call 118; refine (words_any _ _ n _ _ (by omega) own3).mono ?_; rintro e w1 ⟨rfl, hbw, hb⟩; have hw1 := Rd.blk (n := n) hbw (by simp [wordsL]) hbw.lt; clear own3; replace hA := hA.below hb hA.lt; replace hBk := hBk.below hb hBk.lt; replace hB2 := hB2.trans (hb.mono hB2.size); replace hqA := fun i => hA.cell i; replace hqB := fun i => hBk.cell i; replace hlA := hA.lt; replace hlB := hBk.lt; clear hb))
        go_ret2
        exact ⟨_, rfl, ⟨_, _, _, rfl, Nat.le_refl _, by unfold maxLen at *; omega, by simpa using hw1⟩, hB2⟩
end Go.Proofs.YtifddfchpknkbaaGreatDoor
