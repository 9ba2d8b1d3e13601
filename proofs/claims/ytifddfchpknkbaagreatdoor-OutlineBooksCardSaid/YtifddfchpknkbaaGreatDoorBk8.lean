import Derived.Test.YtifddfchpknkbaaGreatDoorProg
import Derived.Test.YtifddfchpknkbaaGreatDoorBk6
import Derived.Test.YtifddfchpknkbaaGreatDoorBk7
import Derived.Recover
set_option linter.unusedVariables false
set_option linter.unusedSimpArgs false
namespace Go.Proofs.YtifddfchpknkbaaGreatDoor
section
open Go.RowKit
/-- The rows of a sight, one behind the other. -/
def flatS (rs : List ByteArray) : ByteArray := ⟨(rs.flatMap fun r => r.data.toList).toArray⟩
theorem join_empty (xs : List (List UInt8)) : Lib.join xs [] = xs.flatten := by
  unfold Lib.join
  induction xs with
  | nil => rfl
  | cons a l ih =>
    cases l with
    | nil => simp [List.intercalate]
    | cons b l => simp [List.intercalate, List.intersperse] at ih ⊢; rw [ih]
theorem flat_any (A : Option Addr) (n cap : Nat) (rs : List ByteArray) (w : World) (hr : Rd w w.heap.size 1 A n (rs.map Value.string)) (hn : n ≤ 1000) (hcap : n ≤ cap) (hlen : (flatS rs).size ≤ 100000) :
    Calls Tryz.prog 116 #[.slice A n cap] w fun e w' => e = .returned (.string (flatS rs)) ∧ Below w.heap.size w w' := by
  have hl := hr.len
  rcases Nat.eq_zero_or_pos n with h0 | h0
  · subst h0
    have hrs : rs = [] := List.eq_nil_of_length_eq_zero hl
    subst hrs
    go_enter Tryz.func116, Tryz.ntmps116
    go_wp2_with (go_at_call 161; refine (Tryz.strings_Join_none _ _ _ _).mono ?_; rintro e w' ⟨rfl, rfl⟩)
    go_ret
    exact ⟨rfl, Below.refl _ _⟩
  · obtain ⟨b, off, rfl, hb, hc⟩ := hr.2 h0
    have hj := Tryz.strings_Join b off cap rs ⟨#[]⟩ w (fun j x hx => hc j _ (by rw [List.getElem?_map, hx]; rfl)) hb (by omega) (by omega) (by
      rw [join_empty]
      have : (flatS rs).size = ((rs.map (·.data.toList)).flatten).length := by rw [← List.flatMap_def]; show ((rs.flatMap fun r => r.data.toList).toArray).size = _; rw [List.size_toArray]
      omega)
    rw [join_empty, ← List.flatMap_def, hl] at hj
    go_enter Tryz.func116, Tryz.ntmps116
    go_wp2_with (go_at_call 161; refine hj.mono ?_; rintro e w' ⟨rfl, hb⟩)
    go_ret
    exact ⟨rfl, by assumption⟩
theorem S_fun (w : World) : Calls Tryz.prog 93 #[] w fun e w' => e = .returned (.agg #[.int .i64 8, .int .i64 8, .int .i64 8, .int .i64 0, .int .i64 4, .int .i64 4]) ∧ Below w.heap.size w w' := by
  go_enter Tryz.func93, Tryz.ntmps93
  go_wp2
  refine bodyPost_ret (v := .agg #[.int .i64 8, .int .i64 8, .int .i64 8, .int .i64 0, .int .i64 4, .int .i64 4]) (by simp [results, Tryz.results93, go_sem]) rfl ⟨rfl, ?_⟩
  exact (Below.refl _ _).alloc (Nat.le_refl _) _
theorem R_fun (w : World) : Calls Tryz.prog 92 #[] w fun e w' => e = .returned (.agg #[.int .i64 0, .int .i64 1, .int .i64 3, .int .i64 3, .int .i64 3]) ∧ Below w.heap.size w w' := by
  go_enter Tryz.func92, Tryz.ntmps92
  go_wp2
  refine bodyPost_ret (v := .agg #[.int .i64 0, .int .i64 1, .int .i64 3, .int .i64 3, .int .i64 3]) (by simp [results, Tryz.results92, go_sem]) rfl ⟨rfl, ?_⟩
  exact (Below.refl _ _).alloc (Nat.le_refl _) _
def FigPost (w : World) (rows : Array Value) (e : Ending) (w' : World) : Prop := ∃ g, e = .returned (.agg #[.slice (some ⟨g, 0, none⟩) 2 2]) ∧ w.heap.size ≤ g ∧ Blk w' g 9 rows ∧ Below w.heap.size w w'
theorem F_fun (w : World) : Calls Tryz.prog 89 #[] w (FigPost w #[.string ⟨#[35, 35]⟩, .string ⟨#[35, 35]⟩]) := by
  go_enter Tryz.func89, Tryz.ntmps89
  go_wp2
  refine bodyPost_ret (v := .agg #[.slice (some ⟨w.heap.size + 1, 0, none⟩) 2 2]) (by simp [results, Tryz.results89, go_sem]) rfl ⟨_, rfl, by omega, blk2 w _ 9 _, pro2 w _ _⟩
theorem H_fun (w : World) : Calls Tryz.prog 90 #[] w (FigPost w #[.string ⟨#[35, 35]⟩, .string ⟨#[35, 46]⟩]) := by
  go_enter Tryz.func90, Tryz.ntmps90
  go_wp2
  exact bodyPost_ret (v := .agg #[.slice (some ⟨w.heap.size + 1, 0, none⟩) 2 2]) (by simp [results, Tryz.results90, go_sem]) rfl ⟨_, rfl, by omega, blk2 w _ 9 _, pro2 w _ _⟩
theorem T_fun (w : World) : Calls Tryz.prog 91 #[] w fun e w' => e = .returned (.agg #[.int .i64 8, .int .i64 8, .int .i64 8, .int .i64 1, .int .i64 4, .int .i64 4]) ∧ Below w.heap.size w w' := by
  go_enter Tryz.func91, Tryz.ntmps91
  go_wp2_with (go_at_call 93; refine (S_fun _).mono ?_; rintro e w1 ⟨rfl, hb1⟩; have hbk := (Blk.new w 23 #[.int .i64 0, .int .i64 0, .int .i64 0, .int .i64 0, .int .i64 0, .int .i64 0]).below hb1 (by simp only [World.size_alloc]; omega); have hck := fun i => hbk.cell i; have hfk := fun i => hbk.frozen i; have hlk := hbk.lt)
  have hB1 : Below w.heap.size w w1 := ((Below.refl _ w).alloc (Nat.le_refl _) _).trans (hb1.mono (by simp only [World.size_alloc]; omega))
  refine bodyPost_ret (v := .agg #[.int .i64 8, .int .i64 8, .int .i64 8, .int .i64 1, .int .i64 4, .int .i64 4]) (by simp [results, Tryz.results91, go_sem, hlk, hck]) rfl ⟨rfl, ?_⟩
  have hle : w.heap.size ≤ w.heap.size := Nat.le_refl _
  exact ((((((hB1.setCell (p := ⟨w.heap.size, 0, none⟩) hle _).setCell (p := ⟨w.heap.size, 1, none⟩) hle _).setCell (p := ⟨w.heap.size, 2, none⟩) hle _).setCell (p := ⟨w.heap.size, 3, none⟩) hle _).setCell (p := ⟨w.heap.size, 4, none⟩) hle _).setCell (p := ⟨w.heap.size, 5, none⟩) hle _).alloc (by simpa using Nat.le_of_lt hlk) _
end
section
open Go.RowKit
def tellB (ds : List Nat) (set : Nat) : Bool := ds.all fun d => !(((d &&& set : Nat) : Int) == 0)
theorem tell_any (A : Option Addr) (n cap : Nat) (ds : List Nat) (set : Nat) (w : World) (hn : n ≤ 100000) (hd : ∀ d ∈ ds, d < 18446744073709551616) (hset : set < 18446744073709551616) (hr : Rd w w.heap.size 1 A n (ds.map fun d : Nat => Value.int .u64 d)) :
    Calls Tryz.prog 134 #[.slice A n cap, .int .u64 set] w fun e w' => e = .returned (.bool (tellB ds set)) ∧ w = w' := by
  have hlen := hr.len
  go_enter Tryz.func134, Tryz.ntmps134
  go_wp2
  go_loop [9] (fun i => ∃ k : Nat, k ≤ n ∧ i = .int .i64 k ∧ tellB (ds.drop k) set = tellB ds set) (fun i => n - (intOf i).toNat)
  case atStart => exact ⟨0, Nat.zero_le _, rfl, rfl⟩
  case round =>
    obtain ⟨k, hk, rfl, hi⟩ := hrel
    have HI := Lib.hid hi; clear hi
    have HLEN := Lib.hid hlen; clear hlen
    by_cases hlt : k < n
    · obtain ⟨b, off, hzk, rfl, hb, hc⟩ := hr.atm hlt
      have hdr : tellB (ds.drop k) set = (!(((ds[k] &&& set : Nat) : Int) == 0) && tellB (ds.drop (k + 1)) set) := all_drop _ ds k hzk
      have hd0 := hd _ (List.getElem_mem hzk)
      generalize ds[k] = d at *
      have HD := Lib.hid hdr; clear hdr
      have hbt := bits_and_u64_nat d set hd0 hset
      generalize d &&& set = x at *
      cases hq : ((x : Int) == 0)
      · have hq2 : (bits .and .u64 (d : Int) (set : Int) == 0) = false := by rw [hbt]; exact hq
        clear hbt
        go_wp2
        go_round
        case rel => exact ⟨k + 1, by omega, by go_num, by rw [← HI.out, HD.out, hq]; rfl⟩
        case measure => simp [intOf]; omega
      · have hq2 : (bits .and .u64 (d : Int) (set : Int) == 0) = true := by rw [hbt]; exact hq
        clear hbt
        go_wp2
        go_ret
        exact ⟨ret_bool (by rw [← HI.out, HD.out, hq]; rfl), rfl⟩
    · have hdn : ds.drop k = [] := List.drop_eq_nil_of_le (by have := HLEN.out; omega)
      have HDN := Lib.hid hdn; clear hdn
      go_wp2
      go_ret
      exact ⟨ret_bool (by rw [← HI.out, HDN.out]; rfl), rfl⟩
end
section
open Go.RowKit
def ltAt (s : ByteArray) (c : Nat) : Int := (ltr s).getD c 0
theorem ltAt_eq (s : ByteArray) (c : Nat) (h : c < s.size) : ltAt s c = (s[c].toNat : Int) := by
  rw [ltAt, List.getD, List.getElem?_eq_getElem (by rw [ltr_len]; exact h), ltr_at s c h]; rfl
/-- Which of some cells tell two shadows. -/
def diffN (s t : ByteArray) (cs : List Nat) : Nat → Nat
  | 0 => 0
  | k + 1 => if clB (ltAt s (cs.getD k 0)) (ltAt t (cs.getD k 0)) then diffN s t cs k ||| 2 ^ k else diffN s t cs k
theorem diffN_lt (s t : ByteArray) (cs : List Nat) : ∀ k, diffN s t cs k < 2 ^ k
  | 0 => by simp [diffN]
  | k + 1 => by
    have h := diffN_lt s t cs k
    have h2 : 2 ^ k < 2 ^ (k + 1) := Nat.pow_lt_pow_right (by omega) (by omega)
    rw [diffN]; split
    · exact Nat.or_lt_two_pow (by omega) h2
    · omega
set_option maxRecDepth 100000 in
theorem difference_any (a b : Sh) (A : Option Addr) (n cap : Nat) (cs : List Nat) (w : World) (hn : n ≤ 8) (hca : ∀ c ∈ cs, c < a.s.size) (hcb : ∀ c ∈ cs, c < b.s.size) (hsz : a.s.size ≤ 100000) (hr : Rd w w.heap.size 1 A n (cs.map natV)) :
    Calls Tryz.prog 167 #[.agg (shC a).toArray, .agg (shC b).toArray, .slice A n cap] w fun e w' => e = .returned (.int .u64 (diffN a.s b.s cs n)) ∧ Below w.heap.size w w' := by
  have hlen := hr.len
  obtain ⟨f1, n1, x1, y1, s⟩ := a
  obtain ⟨f2, n2, x2, y2, t⟩ := b
  simp only [shC]
  dsimp only at hca hcb hsz ⊢
  go_enter Tryz.func167, Tryz.ntmps167
  go_wp2
  have hb1 := (Blk.new w 156 #[.int .i64 f1, .int .i64 n1, .int .i64 x1, .int .i64 y1, .string s]).alloc (.cells #[.int .i64 f2, .int .i64 n2, .int .i64 x2, .int .i64 y2, .string t] 156)
  have hb2 := blk2 w (.cells #[.int .i64 f1, .int .i64 n1, .int .i64 x1, .int .i64 y1, .string s] 156) 156 #[.int .i64 f2, .int .i64 n2, .int .i64 x2, .int .i64 y2, .string t]
  have hB := pro2 w (.cells #[.int .i64 f1, .int .i64 n1, .int .i64 x1, .int .i64 y1, .string s] 156) (.cells #[.int .i64 f2, .int .i64 n2, .int .i64 x2, .int .i64 y2, .string t] 156)
  go_loopg [7, 12] n (fun g d i wr => ∃ k : Nat, g = n - k ∧ k ≤ n ∧ i = .int .i64 k ∧ d = .int .u64 (diffN s t cs k) ∧ Blk wr w.heap.size 156 #[.int .i64 f1, .int .i64 n1, .int .i64 x1, .int .i64 y1, .string s] ∧ Blk wr (w.heap.size + 1) 156 #[.int .i64 f2, .int .i64 n2, .int .i64 x2, .int .i64 y2, .string t] ∧ Below w.heap.size w wr)
  case atStart => exact ⟨0, rfl, Nat.zero_le _, rfl, rfl, hb1, hb2, hB⟩
  case round =>
    clear hb1 hb2 hB
    obtain ⟨k, hg, hk, rfl, rfl, hb1, hb2, hB⟩ := hrel
    have HG := Lib.hid hg; clear hg
    have HLEN := Lib.hid hlen; clear hlen
    have hl1 := hb1.lt
    have hl2 := hb2.lt
    by_cases hlt : k < n
    · obtain ⟨b, off, hzk, rfl, hb, hc⟩ := (hr.below hB).atm hlt
      have hc1 := hca _ (List.getElem_mem hzk)
      have hc2 := hcb _ (List.getElem_mem hzk)
      have hgd : cs.getD k 0 = cs[k] := by rw [List.getD, List.getElem?_eq_getElem hzk]; rfl
      have hstep : diffN s t cs (k + 1) = if clB (ltAt s (cs.getD k 0)) (ltAt t (cs.getD k 0)) then diffN s t cs k ||| 2 ^ k else diffN s t cs k := rfl
      rw [hgd] at hstep
      have hlt1 := diffN_lt s t cs k
      clear hgd
      generalize cs[k] = c at *
      rw [ltAt_eq s _ hc1, ltAt_eq t _ hc2] at hstep
      simp only [natV] at hc
      have hci : (c : Int) < s.size := by omega
      have hp8 : (2 : Nat) ^ k ≤ 128 := by have : k ≤ 7 := by omega
                                           exact Nat.le_trans (Nat.pow_le_pow_right (by omega) this) (by decide)
      have HST := Lib.hid hstep; clear hstep
      generalize diffN s t cs k = acc at *
      have hcq1 := fun p : Blw wr.heap.size wr => fun i => (blw_blk hb1 p i)
      have hcq2 := fun p : Blw wr.heap.size wr => fun i => (blw_blk hb2 p i)
      cases hq : clB ((s[c]'hc1).toNat : Int) ((t[c]'hc2).toNat : Int)
      · go_wp2_with (fail)
        refine wp_region_blw (by kernel_rfl) (by kernel_rfl) ?_
        repeat (go_big_quiet_step ((go_at_call 163; exact Calls.blw_of_same _ (hq ▸ clash_any _ _ _))))
        refine wpQuiet_nil ?_
        rintro W3 ⟨⟨_, hb3⟩, rfl⟩
        clear hcq1 hcq2
        go_wp2_with (fail)
        go_roundg (n - (k + 1))
        case measure => rw [HG.out]; omega
        case rel => exact ⟨k + 1, rfl, by omega, by go_num, by rw [HST.out, hq]; rfl, hb1.below hb3 hl1, hb2.below hb3 hl2, hB.trans (hb3.mono hB.size)⟩
      · go_wp2_with (fail)
        refine wp_region_blw (by kernel_rfl) (by kernel_rfl) ?_
        repeat (go_big_quiet_step ((go_at_call 163; exact Calls.blw_of_same _ (hq ▸ clash_any _ _ _))))
        refine wpQuiet_nil ?_
        rintro W3 ⟨⟨_, hb3⟩, rfl⟩
        clear hcq1 hcq2
        go_wp2_with (fail)
        have hw : IntKind.u64.wrap ((2 : Int) ^ k) = ((2 ^ k : Nat) : Int) := by
          rw [show (2 : Int) ^ k = ((2 ^ k : Nat) : Int) by rw [Int.natCast_pow]; rfl]
          exact IntWalk.u64_in _ (by omega)
        have hor := bits_or_u64_nat acc (2 ^ k) (by omega) (by omega)
        go_roundg (n - (k + 1))
        case measure => rw [HG.out]; omega
        case rel => exact ⟨k + 1, rfl, by omega, by go_num, by rw [HST.out, if_pos hq, hw, hor], hb1.below hb3 hl1, hb2.below hb3 hl2, hB.trans (hb3.mono hB.size)⟩
    · obtain rfl : k = n := by omega
      go_wp2
      go_ret
      exact ⟨rfl, hB⟩
end
section
open Go.RowKit
def blankRow : ByteArray := ⟨#[63, 63, 63, 63, 63, 63, 63, 63]⟩
set_option maxRecDepth 100000 in
theorem N_fun (w : World) : Calls Tryz.prog 95 #[] w fun e w' => ∃ v, e = .returned v ∧ w'.ownsRow w.heap.size 9 1 v 8 (List.replicate 8 (Value.string blankRow)) ∧ Below w.heap.size w w' := by
  obtain ⟨i0, hi, hz0, hz1', hz2'⟩ := info_parts info9
  go_enter Tryz.func95, Tryz.ntmps95
  go_wp2
  go_loopg [1, 2] 8 (fun g u i wr => ∃ (k : Nat) (v0 : Value), g = 8 - k ∧ k ≤ 8 ∧ i = .int .i64 k ∧ u = v0 ∧ wr.ownsRow w.heap.size 9 1 v0 k (List.replicate k (Value.string blankRow)) ∧ Below w.heap.size w wr)
  case atStart => exact ⟨0, _, rfl, Nat.zero_le _, rfl, rfl, World.ownsRow_nil _ _ _ _, Below.refl _ _⟩
  case round =>
    obtain ⟨k, v, hg, hk, rfl, rfl, hown, hB⟩ := hrel
    obtain ⟨va, vc, rfl⟩ := own_slice hown
    have HG := Lib.hid hg; clear hg
    by_cases hlt : k < 8
    · go_wp2_with (first
        | (at_builtin; refine wpList_append_any _ rfl _ _ 24 rfl w.heap.size 9 i0 (.string ByteArray.empty) 1 16 Tryz.underlying24 hi hz0 hz1' hz2' rfl (by decide) (.slice va k vc) k (List.replicate k (Value.string blankRow)) rfl (hown.alloc _) (wr.heap.size + 1) (some ⟨wr.heap.size, 0, none⟩) 1 1 [.string blankRow] rfl (Rd.blkN (Blk.new wr 9 #[.string blankRow]) rfl (Nat.lt_succ_self _)).reads (by simp [Value.oneCell']) (by unfold maxLen; omega) (by omega) (by have := hB.size; simp only [World.size_alloc]; omega) (fun v' w' hown' hgrow hob => ?_))
        | go_in)
      go_roundg (8 - (k + 1))
      case measure => rw [HG.out]; omega
      case rel => exact ⟨k + 1, _, rfl, by omega, by go_num, rfl, by rw [List.replicate_succ']; exact hown', (hB.alloc hB.size _).grown hgrow (by have := hB.size; simp only [World.size_alloc]; omega) (fun g hg => (hown.lt g hg).1)⟩
    · obtain rfl : k = 8 := by omega
      go_wp2
      go_ret
      exact ⟨_, rfl, hown, hB⟩
end
section
open Go.RowKit
def sameP (p : Int × Int) : Bool := p.1 == p.2
/-- Two lists are the same. -/
def sameL (xs ys : List Int) : Bool := decide (xs.length = ys.length) && (xs.zip ys).all sameP
set_option maxRecDepth 100000 in
theorem Same_any (A A2 : Option Addr) (n n2 cap cap2 : Nat) (xs ys : List Int) (w : World) (hn : n ≤ maxLen) (hn2 : n2 ≤ maxLen) (hr : Rd w w.heap.size 1 A n (xs.map (Value.int .i64))) (hr2 : Rd w w.heap.size 1 A2 n2 (ys.map (Value.int .i64))) :
    Calls Tryz.prog 71 #[.slice A n cap, .slice A2 n2 cap2] w fun e w' => e = .returned (.bool (sameL xs ys)) ∧ Below w.heap.size w w' := by
  have hlen := hr.len
  have hlen2 := hr2.len
  unfold maxLen at hn hn2
  have HL := Lib.hid hlen; have HL2 := Lib.hid hlen2; clear hlen hlen2
  by_cases hnn : n = n2
  · subst hnn
    have hne : ((n : Int) != n) = false := by simp
    go_enter Tryz.func71, Tryz.ntmps71
    go_wp2
    go_loopg [5] n (fun g i wr => ∃ k : Nat, g = n - k ∧ k ≤ n ∧ i = .int .i64 k ∧ ((xs.zip ys).drop k).all sameP = (xs.zip ys).all sameP ∧ Below w.heap.size w wr)
    case atStart => exact ⟨0, rfl, Nat.zero_le _, rfl, rfl, Below.refl _ _⟩
    case round =>
      obtain ⟨k, hg, hk, rfl, hi, hB⟩ := hrel
      have HG := Lib.hid hg; have HI := Lib.hid hi; clear hg hi
      by_cases hlt : k < n
      · obtain ⟨b, off, hz, rfl, hb, hc⟩ := (hr.below hB).atm hlt
        obtain ⟨b2, off2, hz2, rfl, hb2, hc2⟩ := (hr2.below hB).atm hlt
        have hzz : k < (xs.zip ys).length := by simp; omega
        have hd := all_drop sameP (xs.zip ys) k hzz
        rw [List.getElem_zip] at hd
        generalize xs[k] = x at *
        generalize ys[k] = y at *
        have HD := Lib.hid hd; clear hd
        have hq1 := fun p : Blw wr.heap.size wr => blw_cell (a := ⟨b, off + k, none⟩) (Nat.lt_of_lt_of_le hb hB.size) hc p
        have hq2 := fun p : Blw wr.heap.size wr => blw_cell (a := ⟨b2, off2 + k, none⟩) (Nat.lt_of_lt_of_le hb2 hB.size) hc2 p
        cases hxy : (x != y)
        · have hs : sameP (x, y) = true := by simp [sameP] at hxy ⊢; exact hxy
          have HS := Lib.hid hs; clear hs
          go_wp2_with (fail)
          refine wp_region_blw (by kernel_rfl) (by kernel_rfl) ?_
          repeat (go_big_quiet_step (fail))
          refine wpQuiet_nil ?_
          rintro W3 ⟨⟨_, hb3⟩, rfl⟩
          clear hq1 hq2
          go_wp2_with (fail)
          go_roundg (n - (k + 1))
          case measure => rw [HG.out]; omega
          case rel => exact ⟨k + 1, rfl, by omega, by go_num, by rw [← HI.out, HD.out, HS.out]; rfl, hB.trans (hb3.mono hB.size)⟩
        · have hs : sameP (x, y) = false := by simp [sameP] at hxy ⊢; exact hxy
          have HS := Lib.hid hs; clear hs
          go_wp2_with (fail)
          refine wp_region_blw (by kernel_rfl) (by kernel_rfl) ?_
          repeat (go_big_quiet_step (fail))
          refine wpQuiet_nil ?_
          rintro W3 ⟨⟨_, hb3⟩, rfl⟩
          clear hq1 hq2
          go_wp2_with (fail)
          go_ret
          exact ⟨ret_bool (by rw [sameL, ← HI.out, HD.out, HS.out]; simp), hB.trans (hb3.mono hB.size)⟩
      · have hdn : (xs.zip ys).drop k = [] := List.drop_eq_nil_of_le (by simp; have := HL.out; omega)
        rw [hdn] at HI
        clear hdn
        go_wp2
        go_ret
        exact ⟨ret_bool (by rw [sameL, ← HI.out, HL.out, HL2.out]; simp), hB⟩
  · have hne : ((n : Int) != n2) = true := by simp; omega
    go_enter Tryz.func71, Tryz.ntmps71
    go_wp2
    go_ret
    exact ⟨ret_bool (by rw [sameL, HL.out, HL2.out, decide_eq_false hnn]; rfl), Below.refl _ _⟩
set_option maxRecDepth 100000 in
theorem SameWords_any (A A2 : Option Addr) (n n2 cap cap2 : Nat) (xs ys : List Int) (w : World) (hn : n ≤ maxLen) (hn2 : n2 ≤ maxLen) (hr : Rd w w.heap.size 1 A n (xs.map (Value.int .i64))) (hr2 : Rd w w.heap.size 1 A2 n2 (ys.map (Value.int .i64))) :
    Calls Tryz.prog 59 #[.slice A n cap, .slice A2 n2 cap2] w fun e w' => e = .returned (.bool (sameL xs ys)) ∧ Below w.heap.size w w' := by
  have hlen := hr.len
  have hlen2 := hr2.len
  unfold maxLen at hn hn2
  have HL := Lib.hid hlen; have HL2 := Lib.hid hlen2; clear hlen hlen2
  by_cases hnn : n = n2
  · subst hnn
    have hne : ((n : Int) != n) = false := by simp
    go_enter Tryz.func59, Tryz.ntmps59
    go_wp2
    go_loopg [5] n (fun g i wr => ∃ k : Nat, g = n - k ∧ k ≤ n ∧ i = .int .i64 k ∧ ((xs.zip ys).drop k).all sameP = (xs.zip ys).all sameP ∧ Below w.heap.size w wr)
    case atStart => exact ⟨0, rfl, Nat.zero_le _, rfl, rfl, Below.refl _ _⟩
    case round =>
      obtain ⟨k, hg, hk, rfl, hi, hB⟩ := hrel
      have HG := Lib.hid hg; have HI := Lib.hid hi; clear hg hi
      by_cases hlt : k < n
      · obtain ⟨b, off, hz, rfl, hb, hc⟩ := (hr.below hB).atm hlt
        obtain ⟨b2, off2, hz2, rfl, hb2, hc2⟩ := (hr2.below hB).atm hlt
        have hzz : k < (xs.zip ys).length := by simp; omega
        have hd := all_drop sameP (xs.zip ys) k hzz
        rw [List.getElem_zip] at hd
        generalize xs[k] = x at *
        generalize ys[k] = y at *
        have HD := Lib.hid hd; clear hd
        have hq1 := fun p : Blw wr.heap.size wr => blw_cell (a := ⟨b, off + k, none⟩) (Nat.lt_of_lt_of_le hb hB.size) hc p
        have hq2 := fun p : Blw wr.heap.size wr => blw_cell (a := ⟨b2, off2 + k, none⟩) (Nat.lt_of_lt_of_le hb2 hB.size) hc2 p
        cases hxy : (x != y)
        · have hs : sameP (x, y) = true := by simp [sameP] at hxy ⊢; exact hxy
          have HS := Lib.hid hs; clear hs
          go_wp2_with (fail)
          refine wp_region_blw (by kernel_rfl) (by kernel_rfl) ?_
          repeat (go_big_quiet_step (fail))
          refine wpQuiet_nil ?_
          rintro W3 ⟨⟨_, hb3⟩, rfl⟩
          clear hq1 hq2
          go_wp2_with (fail)
          go_roundg (n - (k + 1))
          case measure => rw [HG.out]; omega
          case rel => exact ⟨k + 1, rfl, by omega, by go_num, by rw [← HI.out, HD.out, HS.out]; rfl, hB.trans (hb3.mono hB.size)⟩
        · have hs : sameP (x, y) = false := by simp [sameP] at hxy ⊢; exact hxy
          have HS := Lib.hid hs; clear hs
          go_wp2_with (fail)
          refine wp_region_blw (by kernel_rfl) (by kernel_rfl) ?_
          repeat (go_big_quiet_step (fail))
          refine wpQuiet_nil ?_
          rintro W3 ⟨⟨_, hb3⟩, rfl⟩
          clear hq1 hq2
          go_wp2_with (fail)
          go_ret
          exact ⟨ret_bool (by rw [sameL, ← HI.out, HD.out, HS.out]; simp), hB.trans (hb3.mono hB.size)⟩
      · have hdn : (xs.zip ys).drop k = [] := List.drop_eq_nil_of_le (by simp; have := HL.out; omega)
        rw [hdn] at HI
        clear hdn
        go_wp2
        go_ret
        exact ⟨ret_bool (by rw [sameL, ← HI.out, HL.out, HL2.out]; simp), hB⟩
  · have hne : ((n : Int) != n2) = true := by simp; omega
    go_enter Tryz.func59, Tryz.ntmps59
    go_wp2
    go_ret
    exact ⟨ret_bool (by rw [sameL, HL.out, HL2.out, decide_eq_false hnn]; rfl), Below.refl _ _⟩
end
section
open Go.RowKit Go.Maps
theorem flatS_size : ∀ (rs : List ByteArray) (W : Nat), (∀ r ∈ rs, r.size = W) → (flatS rs).size = rs.length * W
  | [], W, _ => by simp [flatS, ByteArray.size]
  | r :: rs, W, h => by
    have ih := flatS_size rs W (fun r hr => h r (by simp [hr]))
    have h1 := h r (by simp)
    simp only [flatS, ByteArray.size, List.flatMap_cons, List.size_toArray, List.length_append, List.length_cons, Array.length_toList] at ih h1 ⊢
    rw [ih, h1, Nat.add_mul, Nat.one_mul, Nat.add_comm]
theorem sight_size {W H : Int} {rs : List ByteArray} (h : sightB W H rs = true) : (flatS rs).size = H.toNat * W.toNat ∧ rs.length = H.toNat := by
  simp only [sightB, Bool.and_eq_true, decide_eq_true_eq, List.all_eq_true] at h
  obtain ⟨h1, h2⟩ := h
  have h3 : ∀ r ∈ rs, r.size = W.toNat := by
    intro r hr
    have h4 := h2 r hr
    simp only [sightRow, Bool.and_eq_true, decide_eq_true_eq] at h4
    omega
  rw [flatS_size rs W.toNat h3]
  exact ⟨by rw [show rs.length = H.toNat by omega], by omega⟩
theorem shL_size {W H F L X Y nl nh xl xh y : Int} {fs : List Fig} {h : Sh} (hh : h ∈ shL W H F L X Y nl nh xl xh y fs) : h.s.size = W.toNat * H.toNat := by
  obtain ⟨t, _, rfl⟩ := List.mem_map.1 hh
  exact shS_size _ _ _ _ _ _ _ _ _ _
theorem shL_f {W H F L X Y nl nh xl xh y : Int} {fs : List Fig} {h : Sh} (hh : h ∈ shL W H F L X Y nl nh xl xh y fs) : 0 ≤ h.f ∧ h.f < fs.length := by
  obtain ⟨t, ht, rfl⟩ := List.mem_map.1 hh
  exact (mem_fR.1 ht).1
theorem ask_dims {W H F L X Y nl nh xl xh y : Int} {fs : List Fig} (h : askB W H F L X Y nl nh xl xh y fs = true) : (1 ≤ W ∧ W ≤ 16) ∧ (1 ≤ H ∧ H ≤ 16) ∧ (1 ≤ fs.length ∧ fs.length ≤ 6) ∧ W.toNat * H.toNat ≤ 256 := by
  simp only [askB, Bool.and_eq_true] at h
  have a := stageB_nums h.1
  have c := (compB_nums h.2.1).1
  exact ⟨a.1, a.2.1, c, Nat.mul_le_mul (show W.toNat ≤ 16 by omega) (show H.toNat ≤ 16 by omega)⟩
/-- A slice that reads as a list of values. -/
def IsL (w : World) (v : Value) (xs : List Value) : Prop := ∃ A n cap, v = .slice A n cap ∧ n ≤ cap ∧ cap ≤ maxLen ∧ Rd w w.heap.size 1 A n xs
theorem IsL.nil (w : World) : IsL w (.slice none 0 0) [] := ⟨none, 0, 0, rfl, Nat.le_refl _, by unfold maxLen; omega, Rd.nil _ _ _ _⟩
theorem IsL.below {w w' : World} {v : Value} {xs : List Value} (h : IsL w v xs) (hb : Below w.heap.size w w') : IsL w' v xs := by
  obtain ⟨A, n, cap, rfl, h1, h2, h3⟩ := h
  exact ⟨A, n, cap, rfl, h1, h2, (h3.below hb).more hb.size⟩
/-- The shades that agree with a sight. -/
def agL (W H F L X Y nl nh xl xh y : Int) (fs : List Fig) (rs : List ByteArray) : List Sh := (shL W H F L X Y nl nh xl xh y fs).filter fun h => agreeB h.s (flatS rs)
def goodQ (W H F L X Y nl nh xl xh y : Int) (fs : List Fig) (rs : List ByteArray) : Bool := askB W H F L X Y nl nh xl xh y fs && sightB W H rs
def whoF (W H F L X Y nl nh xl xh y : Int) (fs : List Fig) (rs : List ByteArray) : List Int := (agL W H F L X Y nl nh xl xh y fs rs).map Sh.f
def whoE (W H F L X Y nl nh xl xh y : Int) (fs : List Fig) (rs : List ByteArray) : Int := if goodQ W H F L X Y nl nh xl xh y fs rs then (if (uniq (whoF W H F L X Y nl nh xl xh y fs rs)).length = 0 then 7 else 0) else 2
def whoL (W H F L X Y nl nh xl xh y : Int) (fs : List Fig) (rs : List ByteArray) : List Int := if goodQ W H F L X Y nl nh xl xh y fs rs then (if (uniq (whoF W H F L X Y nl nh xl xh y fs rs)).length = 0 then [] else wordsL (whoF W H F L X Y nl nh xl xh y fs rs) fs.length) else []
set_option maxRecDepth 100000 in
set_option maxHeartbeats 1600000 in
theorem Who_any (W H F L X Y nl nh xl xh y : Int) (A : Option Addr) (n cap : Nat) (fs : List Fig) (SA : Option Addr) (sn scap : Nat) (rs : List ByteArray) (w : World) (hn : n ≤ cap) (hcm : cap ≤ maxLen) (hf : ∀ f ∈ fs, f.ok w w.heap.size) (hr : Rd w w.heap.size 1 A n (fs.map Fig.val)) (hsn : sn ≤ scap) (hscm : scap ≤ maxLen) (hss : ∀ r ∈ rs, r.size ≤ maxLen) (hsr : Rd w w.heap.size 1 SA sn (rs.map Value.string)) :
    Calls Tryz.prog 53 #[.agg #[.int .i64 W, .int .i64 H, .int .i64 F, .int .i64 L, .int .i64 X, .int .i64 Y], .slice A n cap, .agg #[.int .i64 nl, .int .i64 nh, .int .i64 xl, .int .i64 xh, .int .i64 y], .slice SA sn scap] w fun e w' => ∃ v, e = .returned (.tuple #[v, .int .i64 (whoE W H F L X Y nl nh xl xh y fs rs)]) ∧ IsL w' v ((whoL W H F L X Y nl nh xl xh y fs rs).map (Value.int .i64)) ∧ Below w.heap.size w w' := by
  have hA : Blk ((w.alloc (.cells #[.int .i64 W, .int .i64 H, .int .i64 F, .int .i64 L, .int .i64 X, .int .i64 Y] 23)).alloc (.cells #[.int .i64 nl, .int .i64 nh, .int .i64 xl, .int .i64 xh, .int .i64 y] 71)) w.heap.size 23 #[.int .i64 W, .int .i64 H, .int .i64 F, .int .i64 L, .int .i64 X, .int .i64 Y] := (Blk.new w 23 #[.int .i64 W, .int .i64 H, .int .i64 F, .int .i64 L, .int .i64 X, .int .i64 Y]).alloc _
  have hBk : Blk ((w.alloc (.cells #[.int .i64 W, .int .i64 H, .int .i64 F, .int .i64 L, .int .i64 X, .int .i64 Y] 23)).alloc (.cells #[.int .i64 nl, .int .i64 nh, .int .i64 xl, .int .i64 xh, .int .i64 y] 71)) (w.heap.size + 1) 71 #[.int .i64 nl, .int .i64 nh, .int .i64 xl, .int .i64 xh, .int .i64 y] := blk2 w _ 71 #[.int .i64 nl, .int .i64 nh, .int .i64 xl, .int .i64 xh, .int .i64 y]
  have hB2 : Below w.heap.size w ((w.alloc (.cells #[.int .i64 W, .int .i64 H, .int .i64 F, .int .i64 L, .int .i64 X, .int .i64 Y] 23)).alloc (.cells #[.int .i64 nl, .int .i64 nh, .int .i64 xl, .int .i64 xh, .int .i64 y] 71)) := ((Below.refl _ w).alloc (Nat.le_refl _) _).alloc (by simp only [World.size_alloc]; omega) _
  have hqA := fun i => hA.cell i; have hqB := fun i => hBk.cell i; have hlA := hA.lt; have hlB := hBk.lt
  cases hask : (stageB W H F L X Y && (compB fs && reachB F nl nh xl xh y))
  · have he : whoE W H F L X Y nl nh xl xh y fs rs = 2 := by simp [whoE, goodQ, askB, hask]
    have hl : whoL W H F L X Y nl nh xl xh y fs rs = [] := by simp [whoL, goodQ, askB, hask]
    rw [he, hl]
    go_enter Tryz.func53, Tryz.ntmps53
    go_wp2_with (first | (go_at_call 112; refine (goodReach_any W H F L X Y nl nh xl xh y A n cap fs _ (Nat.le_trans hn hcm) (fun f hf' => ((hf f hf').below hB2).more hB2.size) ((hr.below hB2).more hB2.size)).mono ?_; rintro e w1 ⟨rfl, hb⟩; rw [hask]; replace hA := hA.below hb hA.lt; replace hBk := hBk.below hb hBk.lt; replace hB2 := hB2.trans (hb.mono hB2.size); replace hqA := fun i => hA.cell i; replace hqB := fun i => hBk.cell i; replace hlA := hA.lt; replace hlB := hBk.lt; clear hb))
    go_ret2
    exact ⟨_, rfl, IsL.nil _, hB2⟩
  · have hask2 : askB W H F L X Y nl nh xl xh y fs = true := hask
    cases hsight : sightB W H rs
    · have he : whoE W H F L X Y nl nh xl xh y fs rs = 2 := by simp [whoE, goodQ, hsight]
      have hl : whoL W H F L X Y nl nh xl xh y fs rs = [] := by simp [whoL, goodQ, hsight]
      rw [he, hl]
      go_enter Tryz.func53, Tryz.ntmps53
      go_wp2_with (first | (go_at_call 112; refine (goodReach_any W H F L X Y nl nh xl xh y A n cap fs _ (Nat.le_trans hn hcm) (fun f hf' => ((hf f hf').below hB2).more hB2.size) ((hr.below hB2).more hB2.size)).mono ?_; rintro e w1 ⟨rfl, hb⟩; rw [hask]; replace hA := hA.below hb hA.lt; replace hBk := hBk.below hb hBk.lt; replace hB2 := hB2.trans (hb.mono hB2.size); replace hqA := fun i => hA.cell i; replace hqB := fun i => hBk.cell i; replace hlA := hA.lt; replace hlB := hBk.lt; clear hb) | (go_at_call 113; refine (goodSight_any W H F L X Y SA sn scap rs _ (Nat.le_trans hsn hscm) hss ((hsr.below hB2).more hB2.size)).mono ?_; rintro e w1 ⟨rfl, hb⟩; rw [hsight]; replace hA := hA.below hb hA.lt; replace hBk := hBk.below hb hBk.lt; replace hB2 := hB2.trans (hb.mono hB2.size); replace hqA := fun i => hA.cell i; replace hqB := fun i => hBk.cell i; replace hlA := hA.lt; replace hlB := hBk.lt; clear hb))
      go_ret2
      exact ⟨_, rfl, IsL.nil _, hB2⟩
    · have hg : goodQ W H F L X Y nl nh xl xh y fs rs = true := by simp [goodQ, hask2, hsight]
      have hdm := ask_dims hask2
      have hsm : (shL W H F L X Y nl nh xl xh y fs).length ≤ 216 := by rw [shL, List.length_map]; exact allR_small hask2
      obtain ⟨hs1, hs2⟩ := sight_size hsight
      have hmul := Nat.mul_comm H.toNat W.toNat
      have hsz : ∀ h ∈ shL W H F L X Y nl nh xl xh y fs, h.s.size ≤ (flatS rs).size := fun h hh => by rw [shL_size hh]; omega
      have hagl : (agL W H F L X Y nl nh xl xh y fs rs).length ≤ 216 := Nat.le_trans (List.length_filter_le _ _) hsm
      have hwf : ∀ h ∈ agL W H F L X Y nl nh xl xh y fs rs, (Lit.int .i64 h.f).wf = true := fun h hh => by have := shL_f (List.mem_filter.1 hh).1; exact WalkArith.wf_i64 (by omega)
      have hlr := hr.len
      have hlsr := hsr.len
      by_cases hq : (uniq (whoF W H F L X Y nl nh xl xh y fs rs)).length = 0
      · have he : whoE W H F L X Y nl nh xl xh y fs rs = 7 := by simp [whoE, hg, hq]
        have hl : whoL W H F L X Y nl nh xl xh y fs rs = [] := by simp [whoL, hg, hq]
        rw [he, hl]
        change (uniq (((shL W H F L X Y nl nh xl xh y fs).filter fun h => agreeB h.s (flatS rs)).map Sh.f)).length = 0 at hq
        unfold agL at hagl hwf
        go_enter Tryz.func53, Tryz.ntmps53
        go_wp2_with (first | (go_at_call 112; refine (goodReach_any W H F L X Y nl nh xl xh y A n cap fs _ (Nat.le_trans hn hcm) (fun f hf' => ((hf f hf').below hB2).more hB2.size) ((hr.below hB2).more hB2.size)).mono ?_; rintro e w1 ⟨rfl, hb⟩; rw [hask]; replace hA := hA.below hb hA.lt; replace hBk := hBk.below hb hBk.lt; replace hB2 := hB2.trans (hb.mono hB2.size); replace hqA := fun i => hA.cell i; replace hqB := fun i => hBk.cell i; replace hlA := hA.lt; replace hlB := hBk.lt; clear hb) | (go_at_call 113; refine (goodSight_any W H F L X Y SA sn scap rs _ (Nat.le_trans hsn hscm) hss ((hsr.below hB2).more hB2.size)).mono ?_; rintro e w1 ⟨rfl, hb⟩; rw [hsight]; replace hA := hA.below hb hA.lt; replace hBk := hBk.below hb hBk.lt; replace hB2 := hB2.trans (hb.mono hB2.size); replace hqA := fun i => hA.cell i; replace hqB := fun i => hBk.cell i; replace hlA := hA.lt; replace hlB := hBk.lt; clear hb) | (go_at_call 115; refine (shades_any W H F L X Y nl nh xl xh y A n cap fs _ hn hcm (fun f hf' => ((hf f hf').below hB2).more hB2.size) ((hr.below hB2).more hB2.size) hask2).mono ?_; rintro e w1 ⟨v1, rfl, own1, hb⟩; obtain ⟨A1, c1, rfl⟩ := own_slice own1; have hr1 := Rd.of_own own1; clear own1; replace hA := hA.below hb hA.lt; replace hBk := hBk.below hb hBk.lt; replace hB2 := hB2.trans (hb.mono hB2.size); replace hqA := fun i => hA.cell i; replace hqB := fun i => hBk.cell i; replace hlA := hA.lt; replace hlB := hBk.lt; clear hb) | (go_at_call 116; refine (flat_any SA sn scap rs _ ((hsr.below hB2).more hB2.size) (by omega) hsn (by omega)).mono ?_; rintro e w1 ⟨rfl, hb⟩; replace hr1 := (hr1.below hb).more hb.size; replace hA := hA.below hb hA.lt; replace hBk := hBk.below hb hBk.lt; replace hB2 := hB2.trans (hb.mono hB2.size); replace hqA := fun i => hA.cell i; replace hqB := fun i => hBk.cell i; replace hlA := hA.lt; replace hlB := hBk.lt; clear hb) | (go_at_call 114; refine (seen_any A1 _ c1 _ (flatS rs) _ (by omega) hsz (by unfold maxLen; omega) hr1).mono ?_; rintro e w1 ⟨v2, rfl, own2, hb⟩; obtain ⟨A2, c2, rfl⟩ := own_slice own2; have hr2 := Rd.of_own own2; clear own2; clear hr1; replace hA := hA.below hb hA.lt; replace hBk := hBk.below hb hBk.lt; replace hB2 := hB2.trans (hb.mono hB2.size); replace hqA := fun i => hA.cell i; replace hqB := fun i => hBk.cell i; replace hlA := hA.lt; replace hlB := hBk.lt; clear hb) | (go_at_call 117; refine (figures_any A2 _ c2 _ _ (by omega) hwf hr2).mono ?_; rintro e w1 ⟨rfl, own3, hb⟩; clear hr2; replace hA := hA.below hb hA.lt; replace hBk := hBk.below hb hBk.lt; replace hB2 := hB2.trans (hb.mono hB2.size); replace hqA := fun i => hA.cell i; replace hqB := fun i => hBk.cell i; replace hlA := hA.lt; replace hlB := hBk.lt; clear hb) | (at_len; refine wpList_len_own _ rfl _ 157 rfl 3 4 Tryz.underlying157 _ _ _ _ rfl own3 ?_; rw [iset_size]))
        go_ret2
        exact ⟨_, rfl, IsL.nil _, hB2⟩
      · have he : whoE W H F L X Y nl nh xl xh y fs rs = 0 := by simp [whoE, hg, hq]
        have hl : whoL W H F L X Y nl nh xl xh y fs rs = wordsL (whoF W H F L X Y nl nh xl xh y fs rs) n := by simp [whoL, hg, hq, hlr]
        rw [he, hl]
        change ¬ (uniq (((shL W H F L X Y nl nh xl xh y fs).filter fun h => agreeB h.s (flatS rs)).map Sh.f)).length = 0 at hq
        unfold agL at hagl hwf
        unfold whoF agL
        go_enter Tryz.func53, Tryz.ntmps53
        go_wp2_with (first | (go_at_call 112; refine (goodReach_any W H F L X Y nl nh xl xh y A n cap fs _ (Nat.le_trans hn hcm) (fun f hf' => ((hf f hf').below hB2).more hB2.size) ((hr.below hB2).more hB2.size)).mono ?_; rintro e w1 ⟨rfl, hb⟩; rw [hask]; replace hA := hA.below hb hA.lt; replace hBk := hBk.below hb hBk.lt; replace hB2 := hB2.trans (hb.mono hB2.size); replace hqA := fun i => hA.cell i; replace hqB := fun i => hBk.cell i; replace hlA := hA.lt; replace hlB := hBk.lt; clear hb) | (go_at_call 113; refine (goodSight_any W H F L X Y SA sn scap rs _ (Nat.le_trans hsn hscm) hss ((hsr.below hB2).more hB2.size)).mono ?_; rintro e w1 ⟨rfl, hb⟩; rw [hsight]; replace hA := hA.below hb hA.lt; replace hBk := hBk.below hb hBk.lt; replace hB2 := hB2.trans (hb.mono hB2.size); replace hqA := fun i => hA.cell i; replace hqB := fun i => hBk.cell i; replace hlA := hA.lt; replace hlB := hBk.lt; clear hb) | (go_at_call 115; refine (shades_any W H F L X Y nl nh xl xh y A n cap fs _ hn hcm (fun f hf' => ((hf f hf').below hB2).more hB2.size) ((hr.below hB2).more hB2.size) hask2).mono ?_; rintro e w1 ⟨v1, rfl, own1, hb⟩; obtain ⟨A1, c1, rfl⟩ := own_slice own1; have hr1 := Rd.of_own own1; clear own1; replace hA := hA.below hb hA.lt; replace hBk := hBk.below hb hBk.lt; replace hB2 := hB2.trans (hb.mono hB2.size); replace hqA := fun i => hA.cell i; replace hqB := fun i => hBk.cell i; replace hlA := hA.lt; replace hlB := hBk.lt; clear hb) | (go_at_call 116; refine (flat_any SA sn scap rs _ ((hsr.below hB2).more hB2.size) (by omega) hsn (by omega)).mono ?_; rintro e w1 ⟨rfl, hb⟩; replace hr1 := (hr1.below hb).more hb.size; replace hA := hA.below hb hA.lt; replace hBk := hBk.below hb hBk.lt; replace hB2 := hB2.trans (hb.mono hB2.size); replace hqA := fun i => hA.cell i; replace hqB := fun i => hBk.cell i; replace hlA := hA.lt; replace hlB := hBk.lt; clear hb) | (go_at_call 114; refine (seen_any A1 _ c1 _ (flatS rs) _ (by omega) hsz (by unfold maxLen; omega) hr1).mono ?_; rintro e w1 ⟨v2, rfl, own2, hb⟩; obtain ⟨A2, c2, rfl⟩ := own_slice own2; have hr2 := Rd.of_own own2; clear own2; clear hr1; replace hA := hA.below hb hA.lt; replace hBk := hBk.below hb hBk.lt; replace hB2 := hB2.trans (hb.mono hB2.size); replace hqA := fun i => hA.cell i; replace hqB := fun i => hBk.cell i; replace hlA := hA.lt; replace hlB := hBk.lt; clear hb) | (go_at_call 117; refine (figures_any A2 _ c2 _ _ (by omega) hwf hr2).mono ?_; rintro e w1 ⟨rfl, own3, hb⟩; clear hr2; replace hA := hA.below hb hA.lt; replace hBk := hBk.below hb hBk.lt; replace hB2 := hB2.trans (hb.mono hB2.size); replace hqA := fun i => hA.cell i; replace hqB := fun i => hBk.cell i; replace hlA := hA.lt; replace hlB := hBk.lt; clear hb) | (at_len; refine wpList_len_own _ rfl _ 157 rfl 3 4 Tryz.underlying157 _ _ _ _ rfl own3 ?_; rw [iset_size]) | (go_at_call 118; refine (words_any _ _ n _ _ (by omega) own3).mono ?_; rintro e w1 ⟨rfl, hbw, hb⟩; have hw1 := Rd.blk (n := n) hbw (by simp [wordsL]) hbw.lt; clear own3; replace hA := hA.below hb hA.lt; replace hBk := hBk.below hb hBk.lt; replace hB2 := hB2.trans (hb.mono hB2.size); replace hqA := fun i => hA.cell i; replace hqB := fun i => hBk.cell i; replace hlA := hA.lt; replace hlB := hBk.lt; clear hb))
        go_ret2
        exact ⟨_, rfl, ⟨_, _, _, rfl, Nat.le_refl _, by unfold maxLen at *; omega, by simpa using hw1⟩, hB2⟩
end
section
open Go.RowKit Go.Maps
theorem size_le_alloc (z : World) (o : Obj) : z.heap.size ≤ (z.alloc o).heap.size := by simp
theorem own_le {w : World} {base sz n c : Nat} {e : TypeId} {A : Option Addr} {xs : List Value} (h : w.ownsRow base e sz (.slice A n c) n xs) (h0 : 0 < n) : n ≤ c := by
  rcases h.2 with ⟨_, h1⟩ | ⟨g, cap, cur, hv, _, _, hc, _⟩
  · omega
  · injection hv with _ _ h3
    omega
def unseenI (rs : List ByteArray) : List Int := (unseenL (flatS rs)).map fun n : Nat => (n : Int)
def nextE (W H F L X Y nl nh xl xh y : Int) (fs : List Fig) (rs : List ByteArray) : Int := if goodQ W H F L X Y nl nh xl xh y fs rs then (if (agL W H F L X Y nl nh xl xh y fs rs).length = 0 then 7 else if (unseenL (flatS rs)).length = 0 then 5 else 0) else 2
/-- The cell to be looked at next, and how many figures may be seen then at most. -/
def nextP (W H F L X Y nl nh xl xh y : Int) (fs : List Fig) (rs : List ByteArray) : Int × Int :=
  if goodQ W H F L X Y nl nh xl xh y fs rs then (if (agL W H F L X Y nl nh xl xh y fs rs).length = 0 then (0, 0) else match unseenI rs with
    | [] => (0, 0)
    | c0 :: cs => bestP (fun c => (mostN (agL W H F L X Y nl nh xl xh y fs rs) c.toNat : Int)) c0 cs) else (0, 0)
theorem unseenL_lt {s : ByteArray} {c : Nat} (h : c ∈ unseenL s) : c < s.size := List.mem_range.1 (List.mem_filter.1 h).1
theorem unseenL_len (s : ByteArray) : (unseenL s).length ≤ s.size := Nat.le_trans (List.length_filter_le _ _) (by simp)
set_option maxRecDepth 100000 in
set_option maxHeartbeats 1600000 in
theorem Next_any (W H F L X Y nl nh xl xh y : Int) (A : Option Addr) (n cap : Nat) (fs : List Fig) (SA : Option Addr) (sn scap : Nat) (rs : List ByteArray) (w : World) (hn : n ≤ cap) (hcm : cap ≤ maxLen) (hf : ∀ f ∈ fs, f.ok w w.heap.size) (hr : Rd w w.heap.size 1 A n (fs.map Fig.val)) (hsn : sn ≤ scap) (hscm : scap ≤ maxLen) (hss : ∀ r ∈ rs, r.size ≤ maxLen) (hsr : Rd w w.heap.size 1 SA sn (rs.map Value.string)) :
    Calls Tryz.prog 63 #[.agg #[.int .i64 W, .int .i64 H, .int .i64 F, .int .i64 L, .int .i64 X, .int .i64 Y], .slice A n cap, .agg #[.int .i64 nl, .int .i64 nh, .int .i64 xl, .int .i64 xh, .int .i64 y], .slice SA sn scap] w fun e w' => e = .returned (.tuple #[.int .i64 (nextP W H F L X Y nl nh xl xh y fs rs).1, .int .i64 (nextP W H F L X Y nl nh xl xh y fs rs).2, .int .i64 (nextE W H F L X Y nl nh xl xh y fs rs)]) ∧ Below w.heap.size w w' := by
  have hA : Blk ((w.alloc (.cells #[.int .i64 W, .int .i64 H, .int .i64 F, .int .i64 L, .int .i64 X, .int .i64 Y] 23)).alloc (.cells #[.int .i64 nl, .int .i64 nh, .int .i64 xl, .int .i64 xh, .int .i64 y] 71)) w.heap.size 23 #[.int .i64 W, .int .i64 H, .int .i64 F, .int .i64 L, .int .i64 X, .int .i64 Y] := (Blk.new w 23 #[.int .i64 W, .int .i64 H, .int .i64 F, .int .i64 L, .int .i64 X, .int .i64 Y]).alloc _
  have hBk : Blk ((w.alloc (.cells #[.int .i64 W, .int .i64 H, .int .i64 F, .int .i64 L, .int .i64 X, .int .i64 Y] 23)).alloc (.cells #[.int .i64 nl, .int .i64 nh, .int .i64 xl, .int .i64 xh, .int .i64 y] 71)) (w.heap.size + 1) 71 #[.int .i64 nl, .int .i64 nh, .int .i64 xl, .int .i64 xh, .int .i64 y] := blk2 w _ 71 #[.int .i64 nl, .int .i64 nh, .int .i64 xl, .int .i64 xh, .int .i64 y]
  have hB2 : Below w.heap.size w ((w.alloc (.cells #[.int .i64 W, .int .i64 H, .int .i64 F, .int .i64 L, .int .i64 X, .int .i64 Y] 23)).alloc (.cells #[.int .i64 nl, .int .i64 nh, .int .i64 xl, .int .i64 xh, .int .i64 y] 71)) := ((Below.refl _ w).alloc (Nat.le_refl _) _).alloc (by simp only [World.size_alloc]; omega) _
  have hqA := fun i => hA.cell i; have hqB := fun i => hBk.cell i; have hlA := hA.lt; have hlB := hBk.lt
  cases hask : (stageB W H F L X Y && (compB fs && reachB F nl nh xl xh y))
  · have he : nextE W H F L X Y nl nh xl xh y fs rs = 2 := by simp [nextE, goodQ, askB, hask]
    have hl : nextP W H F L X Y nl nh xl xh y fs rs = (0, 0) := by simp [nextP, goodQ, askB, hask]
    rw [he, hl]
    go_enter Tryz.func63, Tryz.ntmps63
    go_wp2_with (first | (go_at_call 112; refine (goodReach_any W H F L X Y nl nh xl xh y A n cap fs _ (Nat.le_trans hn hcm) (fun f hf' => ((hf f hf').below hB2).more hB2.size) ((hr.below hB2).more hB2.size)).mono ?_; rintro e w1 ⟨rfl, hb⟩; rw [hask]; replace hA := hA.below hb hA.lt; replace hBk := hBk.below hb hBk.lt; replace hB2 := hB2.trans (hb.mono hB2.size); replace hqA := fun i => hA.cell i; replace hqB := fun i => hBk.cell i; replace hlA := hA.lt; replace hlB := hBk.lt; clear hb))
    go_ret3
    exact ⟨rfl, hB2⟩
  · have hask2 : askB W H F L X Y nl nh xl xh y fs = true := hask
    cases hsight : sightB W H rs
    · have he : nextE W H F L X Y nl nh xl xh y fs rs = 2 := by simp [nextE, goodQ, hsight]
      have hl : nextP W H F L X Y nl nh xl xh y fs rs = (0, 0) := by simp [nextP, goodQ, hsight]
      rw [he, hl]
      go_enter Tryz.func63, Tryz.ntmps63
      go_wp2_with (first | (go_at_call 112; refine (goodReach_any W H F L X Y nl nh xl xh y A n cap fs _ (Nat.le_trans hn hcm) (fun f hf' => ((hf f hf').below hB2).more hB2.size) ((hr.below hB2).more hB2.size)).mono ?_; rintro e w1 ⟨rfl, hb⟩; rw [hask]; replace hA := hA.below hb hA.lt; replace hBk := hBk.below hb hBk.lt; replace hB2 := hB2.trans (hb.mono hB2.size); replace hqA := fun i => hA.cell i; replace hqB := fun i => hBk.cell i; replace hlA := hA.lt; replace hlB := hBk.lt; clear hb) | (go_at_call 113; refine (goodSight_any W H F L X Y SA sn scap rs _ (Nat.le_trans hsn hscm) hss ((hsr.below hB2).more hB2.size)).mono ?_; rintro e w1 ⟨rfl, hb⟩; rw [hsight]; replace hA := hA.below hb hA.lt; replace hBk := hBk.below hb hBk.lt; replace hB2 := hB2.trans (hb.mono hB2.size); replace hqA := fun i => hA.cell i; replace hqB := fun i => hBk.cell i; replace hlA := hA.lt; replace hlB := hBk.lt; clear hb))
      go_ret3
      exact ⟨rfl, hB2⟩
    · have hg : goodQ W H F L X Y nl nh xl xh y fs rs = true := by simp [goodQ, hask2, hsight]
      have hdm := ask_dims hask2
      have hsm : (shL W H F L X Y nl nh xl xh y fs).length ≤ 216 := by rw [shL, List.length_map]; exact allR_small hask2
      obtain ⟨hs1, hs2⟩ := sight_size hsight
      have hmul := Nat.mul_comm H.toNat W.toNat
      have hsz : ∀ h ∈ shL W H F L X Y nl nh xl xh y fs, h.s.size ≤ (flatS rs).size := fun h hh => by rw [shL_size hh]; omega
      have hagl : (agL W H F L X Y nl nh xl xh y fs rs).length ≤ 216 := Nat.le_trans (List.length_filter_le _ _) hsm
      have hwf : ∀ h ∈ agL W H F L X Y nl nh xl xh y fs rs, (Lit.int .i64 h.f).wf = true := fun h hh => by have := shL_f (List.mem_filter.1 hh).1; exact WalkArith.wf_i64 (by omega)
      have hlr := hr.len
      have hlsr := hsr.len
      have hul := unseenL_len (flatS rs)
      by_cases hq : (agL W H F L X Y nl nh xl xh y fs rs).length = 0
      · have he : nextE W H F L X Y nl nh xl xh y fs rs = 7 := by simp [nextE, hg, hq]
        have hl : nextP W H F L X Y nl nh xl xh y fs rs = (0, 0) := by simp [nextP, hg, hq]
        rw [he, hl]
        change ((shL W H F L X Y nl nh xl xh y fs).filter fun h => agreeB h.s (flatS rs)).length = 0 at hq
        unfold agL at hagl hwf
        go_enter Tryz.func63, Tryz.ntmps63
        go_wp2_with (first | (go_at_call 112; refine (goodReach_any W H F L X Y nl nh xl xh y A n cap fs _ (Nat.le_trans hn hcm) (fun f hf' => ((hf f hf').below hB2).more hB2.size) ((hr.below hB2).more hB2.size)).mono ?_; rintro e w1 ⟨rfl, hb⟩; rw [hask]; replace hA := hA.below hb hA.lt; replace hBk := hBk.below hb hBk.lt; replace hB2 := hB2.trans (hb.mono hB2.size); replace hqA := fun i => hA.cell i; replace hqB := fun i => hBk.cell i; replace hlA := hA.lt; replace hlB := hBk.lt; clear hb) | (go_at_call 113; refine (goodSight_any W H F L X Y SA sn scap rs _ (Nat.le_trans hsn hscm) hss ((hsr.below hB2).more hB2.size)).mono ?_; rintro e w1 ⟨rfl, hb⟩; rw [hsight]; replace hA := hA.below hb hA.lt; replace hBk := hBk.below hb hBk.lt; replace hB2 := hB2.trans (hb.mono hB2.size); replace hqA := fun i => hA.cell i; replace hqB := fun i => hBk.cell i; replace hlA := hA.lt; replace hlB := hBk.lt; clear hb) | (go_at_call 115; refine (shades_any W H F L X Y nl nh xl xh y A n cap fs _ hn hcm (fun f hf' => ((hf f hf').below hB2).more hB2.size) ((hr.below hB2).more hB2.size) hask2).mono ?_; rintro e w1 ⟨v1, rfl, own1, hb⟩; obtain ⟨A1, c1, rfl⟩ := own_slice own1; have hr1 := Rd.of_own own1; clear own1; replace hA := hA.below hb hA.lt; replace hBk := hBk.below hb hBk.lt; replace hB2 := hB2.trans (hb.mono hB2.size); replace hqA := fun i => hA.cell i; replace hqB := fun i => hBk.cell i; replace hlA := hA.lt; replace hlB := hBk.lt; clear hb) | (go_at_call 116; have hr1' := hr1; clear hr1'; refine (flat_any SA sn scap rs _ ((hsr.below hB2).more hB2.size) (by omega) hsn (by omega)).mono ?_; rintro e w1 ⟨rfl, hb⟩; replace hr1 := (hr1.below hb).more hb.size; replace hA := hA.below hb hA.lt; replace hBk := hBk.below hb hBk.lt; replace hB2 := hB2.trans (hb.mono hB2.size); replace hqA := fun i => hA.cell i; replace hqB := fun i => hBk.cell i; replace hlA := hA.lt; replace hlB := hBk.lt; clear hb) | (go_at_call 114; refine (seen_any A1 _ c1 _ (flatS rs) _ (by omega) hsz (by unfold maxLen; omega) hr1).mono ?_; rintro e w1 ⟨v2, rfl, own2, hb⟩; obtain ⟨A2, c2, rfl⟩ := own_slice own2; have hr2 := Rd.of_own own2; clear own2; clear hr1; replace hA := hA.below hb hA.lt; replace hBk := hBk.below hb hBk.lt; replace hB2 := hB2.trans (hb.mono hB2.size); replace hqA := fun i => hA.cell i; replace hqB := fun i => hBk.cell i; replace hlA := hA.lt; replace hlB := hBk.lt; clear hb))
        go_ret3
        exact ⟨rfl, hB2.alloc hB2.size _⟩
      · rcases hu : unseenL (flatS rs) with _ | ⟨c0, cs⟩
        · have he : nextE W H F L X Y nl nh xl xh y fs rs = 5 := by simp [nextE, hg, hq, hu]
          have hl : nextP W H F L X Y nl nh xl xh y fs rs = (0, 0) := by simp [nextP, hg, hq, unseenI, hu]
          rw [he, hl]
          change ¬ ((shL W H F L X Y nl nh xl xh y fs).filter fun h => agreeB h.s (flatS rs)).length = 0 at hq
          unfold agL at hagl hwf
          go_enter Tryz.func63, Tryz.ntmps63
          go_wp2_with (first | (go_at_call 112; refine (goodReach_any W H F L X Y nl nh xl xh y A n cap fs _ (Nat.le_trans hn hcm) (fun f hf' => ((hf f hf').below hB2).more hB2.size) ((hr.below hB2).more hB2.size)).mono ?_; rintro e w1 ⟨rfl, hb⟩; rw [hask]; replace hA := hA.below hb hA.lt; replace hBk := hBk.below hb hBk.lt; replace hB2 := hB2.trans (hb.mono hB2.size); replace hqA := fun i => hA.cell i; replace hqB := fun i => hBk.cell i; replace hlA := hA.lt; replace hlB := hBk.lt; clear hb) | (go_at_call 113; refine (goodSight_any W H F L X Y SA sn scap rs _ (Nat.le_trans hsn hscm) hss ((hsr.below hB2).more hB2.size)).mono ?_; rintro e w1 ⟨rfl, hb⟩; rw [hsight]; replace hA := hA.below hb hA.lt; replace hBk := hBk.below hb hBk.lt; replace hB2 := hB2.trans (hb.mono hB2.size); replace hqA := fun i => hA.cell i; replace hqB := fun i => hBk.cell i; replace hlA := hA.lt; replace hlB := hBk.lt; clear hb) | (go_at_call 115; refine (shades_any W H F L X Y nl nh xl xh y A n cap fs _ hn hcm (fun f hf' => ((hf f hf').below hB2).more hB2.size) ((hr.below hB2).more hB2.size) hask2).mono ?_; rintro e w1 ⟨v1, rfl, own1, hb⟩; obtain ⟨A1, c1, rfl⟩ := own_slice own1; have hr1 := Rd.of_own own1; clear own1; replace hA := hA.below hb hA.lt; replace hBk := hBk.below hb hBk.lt; replace hB2 := hB2.trans (hb.mono hB2.size); replace hqA := fun i => hA.cell i; replace hqB := fun i => hBk.cell i; replace hlA := hA.lt; replace hlB := hBk.lt; clear hb) | (go_at_call 116; have hr2' := hr2; clear hr2'; go_loud (refine (flat_any SA sn scap rs _ ((hsr.below (hB2.alloc hB2.size _)).more (hB2.alloc hB2.size _).size) (by omega) hsn (by omega)).mono ?_; rintro e w1 ⟨rfl, hb⟩; have hbx := (Blk.new _ _ _).below hb (by simp); replace hr2 := ((((hr2.alloc (Nat.le_refl _) _).more (size_le_alloc _ _)).below hb).more hb.size); replace hB2 := (hB2.alloc hB2.size _).trans (hb.mono (Nat.le_trans hB2.size (size_le_alloc _ _))); clear hb hA hBk hqA hqB hlA hlB)) | (go_at_call 116; have hr1' := hr1; clear hr1'; refine (flat_any SA sn scap rs _ ((hsr.below hB2).more hB2.size) (by omega) hsn (by omega)).mono ?_; rintro e w1 ⟨rfl, hb⟩; replace hr1 := (hr1.below hb).more hb.size; replace hA := hA.below hb hA.lt; replace hBk := hBk.below hb hBk.lt; replace hB2 := hB2.trans (hb.mono hB2.size); replace hqA := fun i => hA.cell i; replace hqB := fun i => hBk.cell i; replace hlA := hA.lt; replace hlB := hBk.lt; clear hb) | (go_at_call 114; refine (seen_any A1 _ c1 _ (flatS rs) _ (by omega) hsz (by unfold maxLen; omega) hr1).mono ?_; rintro e w1 ⟨v2, rfl, own2, hb⟩; obtain ⟨A2, c2, rfl⟩ := own_slice own2; have hr2 := Rd.of_own own2; clear own2; clear hr1; replace hA := hA.below hb hA.lt; replace hBk := hBk.below hb hBk.lt; replace hB2 := hB2.trans (hb.mono hB2.size); replace hqA := fun i => hA.cell i; replace hqB := fun i => hBk.cell i; replace hlA := hA.lt; replace hlB := hBk.lt; clear hb) | (go_at_call 124; refine (unseenCells_any (flatS rs) _ (by omega)).mono ?_; rintro e w1 ⟨v3, rfl, own3, hb⟩; obtain ⟨A3, c3, rfl⟩ := own_slice own3; have hr3 := Rd.of_own own3; rw [hu] at hr3; clear own3; replace hr2 := (hr2.below hb).more hb.size; replace hbx := hbx.below hb hbx.lt; replace hB2 := hB2.trans (hb.mono hB2.size); clear hb))
          go_ret3
          exact ⟨rfl, hB2⟩
        · have hui : unseenI rs = (c0 : Int) :: cs.map (fun k : Nat => (k : Int)) := by rw [unseenI, hu]; rfl
          have he : nextE W H F L X Y nl nh xl xh y fs rs = 0 := by simp [nextE, hg, hq, hu]
          have hl : nextP W H F L X Y nl nh xl xh y fs rs = bestP (fun c => (mostN ((shL W H F L X Y nl nh xl xh y fs).filter fun h => agreeB h.s (flatS rs)) c.toNat : Int)) c0 (cs.map (fun k : Nat => (k : Int))) := by rw [nextP, hg, hui]; simp only [if_true, hq, if_false]; rfl
          rw [he, hl]
          have hu0 : ¬ (unseenL (flatS rs)).length = 0 := by rw [hu]; simp
          have hmem : ∀ c ∈ (c0 : Int) :: cs.map (fun k : Nat => (k : Int)), ∃ k ∈ unseenL (flatS rs), c = ((k : Nat) : Int) := by
            intro c hc
            rw [← hui, unseenI] at hc
            obtain ⟨k, hk, rfl⟩ := List.mem_map.1 hc
            exact ⟨k, hk, rfl⟩
          have hmaps : (unseenL (flatS rs)).map natV = ((c0 : Int) :: cs.map (fun k : Nat => (k : Int))).map (Value.int .i64) := by rw [hu]; simp [natV, Function.comp]
          have hcell : ∀ h ∈ ((shL W H F L X Y nl nh xl xh y fs).filter fun h => agreeB h.s (flatS rs)), ∀ k ∈ unseenL (flatS rs), k < h.s.size ∧ h.s.size ≤ 100000 := fun h hh k hk => by
            have h1 := shL_size (List.mem_filter.1 hh).1
            have h2 := unseenL_lt hk
            omega
          have HUI := Lib.hid hui; clear hui
          change ¬ ((shL W H F L X Y nl nh xl xh y fs).filter fun h => agreeB h.s (flatS rs)).length = 0 at hq
          unfold agL at hagl hwf
          clear hu
          generalize cs.map (fun k : Nat => (k : Int)) = ct at *
          go_enter Tryz.func63, Tryz.ntmps63
          go_wp2_with (first | (go_at_call 112; refine (goodReach_any W H F L X Y nl nh xl xh y A n cap fs _ (Nat.le_trans hn hcm) (fun f hf' => ((hf f hf').below hB2).more hB2.size) ((hr.below hB2).more hB2.size)).mono ?_; rintro e w1 ⟨rfl, hb⟩; rw [hask]; replace hA := hA.below hb hA.lt; replace hBk := hBk.below hb hBk.lt; replace hB2 := hB2.trans (hb.mono hB2.size); replace hqA := fun i => hA.cell i; replace hqB := fun i => hBk.cell i; replace hlA := hA.lt; replace hlB := hBk.lt; clear hb) | (go_at_call 113; refine (goodSight_any W H F L X Y SA sn scap rs _ (Nat.le_trans hsn hscm) hss ((hsr.below hB2).more hB2.size)).mono ?_; rintro e w1 ⟨rfl, hb⟩; rw [hsight]; replace hA := hA.below hb hA.lt; replace hBk := hBk.below hb hBk.lt; replace hB2 := hB2.trans (hb.mono hB2.size); replace hqA := fun i => hA.cell i; replace hqB := fun i => hBk.cell i; replace hlA := hA.lt; replace hlB := hBk.lt; clear hb) | (go_at_call 115; refine (shades_any W H F L X Y nl nh xl xh y A n cap fs _ hn hcm (fun f hf' => ((hf f hf').below hB2).more hB2.size) ((hr.below hB2).more hB2.size) hask2).mono ?_; rintro e w1 ⟨v1, rfl, own1, hb⟩; obtain ⟨A1, c1, rfl⟩ := own_slice own1; have hr1 := Rd.of_own own1; clear own1; replace hA := hA.below hb hA.lt; replace hBk := hBk.below hb hBk.lt; replace hB2 := hB2.trans (hb.mono hB2.size); replace hqA := fun i => hA.cell i; replace hqB := fun i => hBk.cell i; replace hlA := hA.lt; replace hlB := hBk.lt; clear hb) | (go_at_call 116; have hr2' := hr2; clear hr2'; go_loud (refine (flat_any SA sn scap rs _ ((hsr.below (hB2.alloc hB2.size _)).more (hB2.alloc hB2.size _).size) (by omega) hsn (by omega)).mono ?_; rintro e w1 ⟨rfl, hb⟩; have hbx := (Blk.new _ _ _).below hb (by simp); replace hr2 := ((((hr2.alloc (Nat.le_refl _) _).more (size_le_alloc _ _)).below hb).more hb.size); replace hB2 := (hB2.alloc hB2.size _).trans (hb.mono (Nat.le_trans hB2.size (size_le_alloc _ _))); clear hb hA hBk hqA hqB hlA hlB)) | (go_at_call 116; have hr1' := hr1; clear hr1'; refine (flat_any SA sn scap rs _ ((hsr.below hB2).more hB2.size) (by omega) hsn (by omega)).mono ?_; rintro e w1 ⟨rfl, hb⟩; replace hr1 := (hr1.below hb).more hb.size; replace hA := hA.below hb hA.lt; replace hBk := hBk.below hb hBk.lt; replace hB2 := hB2.trans (hb.mono hB2.size); replace hqA := fun i => hA.cell i; replace hqB := fun i => hBk.cell i; replace hlA := hA.lt; replace hlB := hBk.lt; clear hb) | (go_at_call 114; refine (seen_any A1 _ c1 _ (flatS rs) _ (by omega) hsz (by unfold maxLen; omega) hr1).mono ?_; rintro e w1 ⟨v2, rfl, own2, hb⟩; obtain ⟨A2, c2, rfl⟩ := own_slice own2; have hr2 := Rd.of_own own2; clear own2; clear hr1; replace hA := hA.below hb hA.lt; replace hBk := hBk.below hb hBk.lt; replace hB2 := hB2.trans (hb.mono hB2.size); replace hqA := fun i => hA.cell i; replace hqB := fun i => hBk.cell i; replace hlA := hA.lt; replace hlB := hBk.lt; clear hb) | (go_at_call 124; refine (unseenCells_any (flatS rs) _ (by omega)).mono ?_; rintro e w1 ⟨v3, rfl, own3, hb⟩; obtain ⟨A3, c3, rfl⟩ := own_slice own3; have hr3 := Rd.of_own own3; have hle3 := own_le own3 (by omega); rw [hmaps] at hr3; clear own3; replace hr2 := (hr2.below hb).more hb.size; replace hbx := hbx.below hb hbx.lt; replace hB2 := hB2.trans (hb.mono hB2.size); clear hb) | (go_at_call 125; have hcost : ∀ c ∈ (c0 : Int) :: ct, ∀ wr, Below w1.heap.size w1 wr → Calls Tryz.prog 126 #[.int .i64 c, .pointer (some ⟨_, 0, none⟩)] wr fun e w' => e = .returned (.int .i64 (mostN ((shL W H F L X Y nl nh xl xh y fs).filter fun h => agreeB h.s (flatS rs)) c.toNat : Int)) ∧ Below wr.heap.size wr w' := (fun c hc wr hbr => by obtain ⟨k, hk, rfl⟩ := hmem c hc; have h := next1_any _ A2 _ c2 k _ wr (by have h := (hbx.below hbr hbx.lt).cell 0; simpa using h) (by omega) hwf (fun h hh => hcell h hh k hk) ((hr2.below hbr).more hbr.size); simpa using h); refine (best_any _ A3 _ c3 c0 ct (fun c => (mostN ((shL W H F L X Y nl nh xl xh y fs).filter fun h => agreeB h.s (flatS rs)) c.toNat : Int)) _ hle3 (by omega) hr3 hcost).mono ?_; rintro e w2 ⟨rfl, hb⟩; replace hB2 := hB2.trans (hb.mono hB2.size); clear hb))
          go_ret3
          exact ⟨rfl, hB2⟩
end
section
open Go.RowKit
set_option maxRecDepth 100000 in
theorem catchIdle (b0 b1 b2 : Nat) (w : World) :
    CallsD Tryz.prog 164 #[.pointer (some ⟨b0, 0, none⟩), .pointer (some ⟨b1, 0, none⟩), .pointer (some ⟨b2, 0, none⟩)] .returning w fun e u' w' => e = .returned (.tuple #[]) ∧ u' = .returning ∧ w' = w := by
  refine callsD_of_wpS Tryz.func164 rfl fun c₀ cs hu => ?_
  simp only [Tryz.ntmps164, List.size_toArray, List.length_cons, List.length_nil, Nat.reduceAdd, Nat.reduceSub, Array.replicate_succ, Array.replicate_zero, List.push_toArray, List.append_toArray, List.nil_append, List.cons_append]
  apply wpS_seq
  apply wpS_region
  simp [wpOpsS, go_sem, recoverD, hu, Tryz.ntmps164, Exit.thenS]
  refine wpS_of_wp ?_
  go_wp2
  cases c₀
  simp_all [bodyPostS, results, Tryz.results164]
set_option maxRecDepth 100000 in
set_option maxHeartbeats 1600000 in
theorem catchPanic (b0 b1 b2 B : Nat) (a b x0 x1 x2 : Int) (w : World) (h0 : Blk w b0 3 #[.int .i64 x0]) (h1 : Blk w b1 3 #[.int .i64 x1]) (h2 : Blk w b2 31 #[.int .i64 x2]) (hB0 : B ≤ b0) (hB1 : B ≤ b1) (hB2 : B ≤ b2) (hne : b0 ≠ b1) :
    CallsD Tryz.prog 164 #[.pointer (some ⟨b0, 0, none⟩), .pointer (some ⟨b1, 0, none⟩), .pointer (some ⟨b2, 0, none⟩)] (.panicking [{ v := .iface 209 (.agg #[.int .i64 a, .int .i64 b]), recovered := false }]) w fun e u' w' =>
      e = .returned (.tuple #[]) ∧ u' = .panicking [{ v := .iface 209 (.agg #[.int .i64 a, .int .i64 b]), recovered := true }] ∧ Blk w' b0 3 #[.int .i64 a] ∧ Blk w' b1 3 #[.int .i64 b] ∧ Blk w' b2 31 #[.int .i64 0] ∧ Below B w w' := by
  have hta : ∀ (a b : Int) (w : World), (Instr.typeAssert (.iface 209 (.agg #[.int .i64 a, .int .i64 b])) 20 209 true).run Tryz.prog w = .ok (.tuple #[.agg #[.int .i64 a, .int .i64 b], .bool true]) w := fun _ _ _ => by kernel_rfl
  refine callsD_of_wpS Tryz.func164 rfl fun c₀ cs hu => ?_
  simp only [Tryz.ntmps164, List.size_toArray, List.length_cons, List.length_nil, Nat.reduceAdd, Nat.reduceSub, Array.replicate_succ, Array.replicate_zero, List.push_toArray, List.append_toArray, List.nil_append, List.cons_append]
  apply wpS_seq
  apply wpS_region
  simp [wpOpsS, go_sem, recoverD, hu, Tryz.ntmps164, Exit.thenS]
  refine wpS_of_wp ?_
  go_wp2
  have hl0 := h0.lt; have hl1 := h1.lt; have hl2 := h2.lt
  have hn01 : b0 ≠ w.heap.size := by omega
  have hn11 : b1 ≠ w.heap.size := by omega
  have hn21 : b2 ≠ w.heap.size := by omega
  have hn02 : b0 ≠ b2 := Blk.ne_ h0 h2 (by decide)
  have hn12 : b1 ≠ b2 := Blk.ne_ h1 h2 (by decide)
  obtain ⟨W, hW⟩ : ∃ W, W = w.alloc (.cells #[.int .i64 a, .int .i64 b] 209) := ⟨_, rfl⟩
  have g0 : Blk W b0 3 #[.int .i64 x0] := by rw [hW]; exact h0.alloc _
  have g1 : Blk W b1 3 #[.int .i64 x1] := by rw [hW]; exact h1.alloc _
  have g2 : Blk W b2 31 #[.int .i64 x2] := by rw [hW]; exact h2.alloc _
  have gn : Blk W w.heap.size 209 #[.int .i64 a, .int .i64 b] := by rw [hW]; exact Blk.new _ _ _
  have hBW : Below B w W := by rw [hW]; exact (Below.refl B w).alloc (by omega) _
  rw [← hW]
  clear hW h0 h1 h2
  refine wp_region_G (fun w' => Blk w' w.heap.size 209 #[.int .i64 a, .int .i64 b]) 6 (by kernel_rfl) ?_
  have hTT := gn
  refine wpG_take (i := 0) (v := ?v0) rfl (by kernel_rfl) (by kernel_rfl) (by kernel_rfl) (by kernel_rfl) (fun _ _ _ h => h) (Or.inl ⟨by rfl, ?hy0⟩) hTT ?rest0
  case hy0 => intro wq hSw; have hq1 := fun i => hSw.cell i; go_simp <;> with_reducible rfl
  simp only [List.getElem_toArray, List.getElem_cons_zero, List.getElem_cons_succ, Act.put, List.setIfInBounds_toArray, List.set_cons_zero, List.set_cons_succ]
  refine wpG_take (i := 1) (v := ?v1) rfl (by kernel_rfl) (by kernel_rfl) (by kernel_rfl) (by kernel_rfl) (fun _ _ _ h => h) (Or.inl ⟨by rfl, ?hy1⟩) hTT ?rest1
  case hy1 => intro wq hSw; have hq1 := fun i => hSw.cell i; go_simp <;> with_reducible rfl
  simp only [List.getElem_toArray, List.getElem_cons_zero, List.getElem_cons_succ, Act.put, List.setIfInBounds_toArray, List.set_cons_zero, List.set_cons_succ]
  refine wpG_take (i := 2) (v := ?v2) rfl (by kernel_rfl) (by kernel_rfl) (by kernel_rfl) (by kernel_rfl) (fun _ _ _ h => h) (Or.inl ⟨by rfl, ?hy2⟩) hTT ?rest2
  case hy2 => intro wq hSw; have hq1 := fun i => hSw.cell i; go_simp <;> with_reducible rfl
  simp only [List.getElem_toArray, List.getElem_cons_zero, List.getElem_cons_succ, Act.put, List.setIfInBounds_toArray, List.set_cons_zero, List.set_cons_succ]
  refine wpG_take (i := 3) (v := ?v3) rfl (by kernel_rfl) (by kernel_rfl) (by kernel_rfl) (by kernel_rfl) (fun _ _ _ h => h) (Or.inl ⟨by rfl, ?hy3⟩) hTT ?rest3
  case hy3 => intro wq hSw; have hq1 := fun i => hSw.cell i; go_simp <;> with_reducible rfl
  simp only [List.getElem_toArray, List.getElem_cons_zero, List.getElem_cons_succ, Act.put, List.setIfInBounds_toArray, List.set_cons_zero, List.set_cons_succ]
  have hc0 : W.drew.cell? ⟨b0, 0, none⟩ = some (.int .i64 x0) := by have h := g0.cell 0; simpa using h
  have hf0 : W.drew.frozen? ⟨b0, 0, none⟩ = false := g0.frozen 0
  refine wpG_one (i := 4) rfl (by kernel_rfl) (fun K hK => ?_)
  go_simp
  have g1' := (Blk.far g1 (p := ⟨b0, 0, none⟩) (show b1 ≠ b0 from fun e => hne e.symm) (.int .i64 a)).drew; have g2' := (Blk.far g2 (p := ⟨b0, 0, none⟩) (show b2 ≠ b0 from fun e => hn02 e.symm) (.int .i64 a)).drew; have g0' := (Blk.set_ g0 0 (.int .i64 a)).drew; have gn' := (Blk.far gn (p := ⟨b0, 0, none⟩) (show w.heap.size ≠ b0 from fun e => hn01 e.symm) (.int .i64 a)).drew; have hB' := (hBW.setCell (p := ⟨b0, 0, none⟩) hB0 (.int .i64 a)).drew; clear hc0 hf0 hTT; have hTT := gn'; generalize (W.setCell ⟨b0, 0, none⟩ (.int .i64 a)).drew = W1 at *; have hc1 : W1.cell? ⟨b1, 0, none⟩ = some (.int .i64 x1) := (by have h := g1'.cell 0; simpa using h); have hf1 := g1'.frozen 0
  refine hK _ _ (.inr hTT) ?_
  clear hK K
  try simp only [List.getElem_toArray, List.getElem_cons_zero, List.getElem_cons_succ, Act.put, List.setIfInBounds_toArray, List.set_cons_zero, List.set_cons_succ]
  refine wpG_one (i := 5) rfl (by kernel_rfl) (fun K hK => ?_)
  go_simp
  have g0'' := g0'.far (p := ⟨b1, 0, none⟩) (show b0 ≠ b1 from hne) (.int .i64 b); have g2'' := g2'.far (p := ⟨b1, 0, none⟩) (show b2 ≠ b1 from fun e => hn12 e.symm) (.int .i64 b); have g1'' := g1'.set_ 0 (.int .i64 b); have gn'' := gn'.far (p := ⟨b1, 0, none⟩) (show w.heap.size ≠ b1 from fun e => hn11 e.symm) (.int .i64 b); have hB'' := hB'.setCell (p := ⟨b1, 0, none⟩) hB1 (.int .i64 b); clear hc1 hf1 hTT; have hTT := gn''; generalize W1.setCell ⟨b1, 0, none⟩ (.int .i64 b) = W2 at *; have hc2 : W2.cell? ⟨b2, 0, none⟩ = some (.int .i64 x2) := (by have h := g2''.cell 0; simpa using h); have hf2 := g2''.frozen 0
  refine hK _ _ (.inr hTT) ?_
  clear hK K
  try simp only [List.getElem_toArray, List.getElem_cons_zero, List.getElem_cons_succ, Act.put, List.setIfInBounds_toArray, List.set_cons_zero, List.set_cons_succ]
  refine wpG_one (i := 6) rfl (by kernel_rfl) (fun K hK => ?_)
  go_simp
  refine hK _ _ (.inl rfl) ?_
  clear hK K
  try simp only [List.getElem_toArray, List.getElem_cons_zero, List.getElem_cons_succ, Act.put, List.setIfInBounds_toArray, List.set_cons_zero, List.set_cons_succ]
  refine wpG_done (by kernel_rfl) ?_ _
  have k0 := g0''.far (p := ⟨b2, 0, none⟩) (show b0 ≠ b2 from hn02) (.int .i64 0)
  have k1 := g1''.far (p := ⟨b2, 0, none⟩) (show b1 ≠ b2 from hn12) (.int .i64 0)
  have k2 := g2''.set_ 0 (.int .i64 0)
  have kB := hB''.setCell (p := ⟨b2, 0, none⟩) hB2 (.int .i64 0)
  refine ⟨rfl, _, rfl, _, by simp [results, Tryz.results164], rfl, rfl, by simpa using k0, by simpa using k1, by simpa using k2, kB⟩
/-- Whether shades of two figures agree. -/
def misAt (l : List Sh) (one other : Nat) : Option (Int × Int) := agFirst (l.filter fun h => h.f == (one : Int)) (l.filter fun h => h.f == (other : Int))
def misRow (l : List Sh) (one m : Nat) : Option (Int × Int) := ((List.range m).filter fun o => decide (one < o)).findSome? (misAt l one)
/-- The first two figures that can be mistaken. -/
def misF (l : List Sh) (m : Nat) : Option (Int × Int) := (List.range m).findSome? fun one => misRow l one m
def misV (r : Option (Int × Int)) : Array Value := match r with | some (a, b) => #[.int .i64 a, .int .i64 b, .int .i64 0] | none => #[.int .i64 0, .int .i64 0, .int .i64 5]
theorem misRow_succ (l : List Sh) (one j : Nat) (h : one < j) (h0 : misRow l one j = none) : misRow l one (j + 1) = misAt l one j := by
  unfold misRow at *
  rw [List.range_succ, List.filter_append, List.findSome?_append, h0]
  simp [h]
theorem misRow_stop (l : List Sh) (one : Nat) : ∀ (j m : Nat), j ≤ m → (r : Int × Int) → misRow l one j = some r → misRow l one m = some r := by
  intro j m hjm r h
  induction m with
  | zero => obtain rfl : j = 0 := by omega
            exact h
  | succ m ih =>
    rcases Nat.lt_or_ge m j with h1 | h1
    · obtain rfl : j = m + 1 := by omega
      exact h
    · have h2 := ih h1
      unfold misRow at h2 ⊢
      rw [List.range_succ, List.filter_append, List.findSome?_append, h2]; rfl
theorem misRow_start (l : List Sh) (one : Nat) : misRow l one (one + 1) = none := by
  unfold misRow
  have : (List.range (one + 1)).filter (fun o => decide (one < o)) = [] := by
    rw [List.filter_eq_nil_iff]; intro o ho; have := List.mem_range.1 ho; simp; omega
  rw [this]; rfl
theorem misUp_succ (l : List Sh) (m k : Nat) (h0 : (List.range k).findSome? (fun one => misRow l one m) = none) : (List.range (k + 1)).findSome? (fun one => misRow l one m) = misRow l k m := by
  rw [List.range_succ, List.findSome?_append, h0]; simp
theorem misUp_stop (l : List Sh) (m k : Nat) (hk : k < m) (h0 : (List.range k).findSome? (fun one => misRow l one m) = none) (r : Int × Int) (h : misRow l k m = some r) : misF l m = some r := by
  unfold misF
  have e : List.range m = List.range (k + 1) ++ (List.range m).drop (k + 1) := by
    have := (List.take_append_drop (k + 1) (List.range m)).symm
    rwa [List.take_range, Nat.min_eq_left (by omega)] at this
  rw [e, List.findSome?_append, misUp_succ l m k h0, h]; rfl
set_option maxRecDepth 100000 in
set_option maxHeartbeats 1600000 in
theorem mistaken_any (A : Option Addr) (n cap : Nat) (l : List Sh) (m sz : Nat) (w : World) (hn : n ≤ 100000) (hm : m ≤ 1000) (hs : ∀ h ∈ l, h.s.size = sz) (hsz : sz ≤ 100000) (hr : Rd w w.heap.size 5 A n (l.flatMap shC)) :
    Calls Tryz.prog 129 #[.slice A n cap, .int .i64 m] w fun e w' => e = .returned (.tuple (misV (misF l m))) ∧ Below w.heap.size w w' := by
  have hmf : ∀ (fn : Fn) (first cap : Array Value) (w : World), (Instr.makeFunc fn first cap).run Tryz.prog w = .ok (.func fn first cap) w := fun _ _ _ _ => rfl
  have hlen := hr.len5
  have hfl : ∀ p : Sh → Bool, (l.filter p).length ≤ 100000 := fun p => Nat.le_trans (List.length_filter_le _ _) (by omega)
  have hfs : ∀ (p : Sh → Bool), ∀ h ∈ l.filter p, h.s.size = sz := fun p h hh => hs h (List.mem_filter.1 hh).1
  clear hlen
  go_enter_defers Tryz.func129, Tryz.ntmps129
  go_wp2
  have q0 : Blk (((w.alloc (.cells #[.int .i64 0] 3)).alloc (.cells #[.int .i64 0] 3)).alloc (.cells #[.int .i64 0] 31)) w.heap.size 3 #[.int .i64 0] := ((Blk.new w 3 #[.int .i64 0]).alloc _).alloc _
  have q1 : Blk (((w.alloc (.cells #[.int .i64 0] 3)).alloc (.cells #[.int .i64 0] 3)).alloc (.cells #[.int .i64 0] 31)) (w.heap.size + 1) 3 #[.int .i64 0] := (blk2 w _ 3 #[.int .i64 0]).alloc _
  have q2 : Blk (((w.alloc (.cells #[.int .i64 0] 3)).alloc (.cells #[.int .i64 0] 3)).alloc (.cells #[.int .i64 0] 31)) (w.heap.size + 1 + 1) 31 #[.int .i64 0] := by have h := Blk.new ((w.alloc (.cells #[.int .i64 0] 3)).alloc (.cells #[.int .i64 0] 3)) 31 #[.int .i64 0]; simpa only [World.size_alloc] using h
  have hB : Below w.heap.size w (((w.alloc (.cells #[.int .i64 0] 3)).alloc (.cells #[.int .i64 0] 3)).alloc (.cells #[.int .i64 0] 31)) := (((Below.refl _ w).alloc (Nat.le_refl _) _).alloc (by simp only [World.size_alloc]; omega) _).alloc (by simp only [World.size_alloc]; omega) _
  go_loopg [11] m (fun g i wr => ∃ k : Nat, g = m - k ∧ k ≤ m ∧ i = .int .i64 k ∧ (List.range k).findSome? (fun one => misRow l one m) = none ∧ Blk wr w.heap.size 3 #[.int .i64 0] ∧ Blk wr (w.heap.size + 1) 3 #[.int .i64 0] ∧ Blk wr (w.heap.size + 1 + 1) 31 #[.int .i64 0] ∧ Below w.heap.size w wr)
  case atStart => exact ⟨0, rfl, Nat.zero_le _, rfl, rfl, q0, q1, q2, hB⟩
  case round =>
    clear q0 q1 q2 hB
    obtain ⟨k, hg, hk, rfl, hno, q0, q1, q2, hB⟩ := hrel
    have HG := Lib.hid hg; clear hg
    by_cases hlt : k < m
    · go_wp2
      go_loopg [8] (m - (k + 1)) (fun g i wr => ∃ j : Nat, g = m - j ∧ k < j ∧ j ≤ m ∧ i = .int .i64 j ∧ misRow l k j = none ∧ Blk wr w.heap.size 3 #[.int .i64 0] ∧ Blk wr (w.heap.size + 1) 3 #[.int .i64 0] ∧ Blk wr (w.heap.size + 1 + 1) 31 #[.int .i64 0] ∧ Below w.heap.size w wr)
      case atStart => exact ⟨k + 1, rfl, by omega, by omega, by go_num, misRow_start l k, q0, q1, q2, hB⟩
      case round =>
        clear q0 q1 q2 hB
        obtain ⟨j, hg, hkj, hj, rfl, hno2, q0, q1, q2, hB⟩ := hrel
        have HG2 := Lib.hid hg; clear hg
        by_cases hlt2 : j < m
        · have hsu := misRow_succ l k j hkj hno2
          cases hres : misAt l k j with
          | none =>
            have HR := Lib.hid hres
            rw [hres] at hsu
            have HSU := Lib.hid hsu; clear hsu hres hno2
            have HNO := Lib.hid hno; clear hno
            go_wp2_with (first | (go_at_call 166; have hr1' := hr1; clear hr1'; refine (shadesOf_any A n cap l _ _ hn ((hr.below hB).more hB.size)).mono ?_; rintro e w1 ⟨v2, rfl, own2, hb⟩; obtain ⟨A2, c2, rfl⟩ := own_slice own2; have hr2 := Rd.of_own own2; clear own2; replace hr1 := (hr1.below hb).more hb.size; replace q0 := q0.below hb q0.lt; replace q1 := q1.below hb q1.lt; replace q2 := q2.below hb q2.lt; replace hB := hB.trans (hb.mono hB.size); clear hb) | (go_at_call 166; refine (shadesOf_any A n cap l _ _ hn ((hr.below hB).more hB.size)).mono ?_; rintro e w1 ⟨v1, rfl, own1, hb⟩; obtain ⟨A1, c1, rfl⟩ := own_slice own1; have hr1 := Rd.of_own own1; clear own1; replace q0 := q0.below hb q0.lt; replace q1 := q1.below hb q1.lt; replace q2 := q2.below hb q2.lt; replace hB := hB.trans (hb.mono hB.size); clear hb) | (go_at_call 165; refine (tellApart_any A1 _ c1 A2 _ c2 _ _ _ (hfl _) (hfl _) sz (hfs _) (hfs _) hsz hr1 hr2).mono ?_; rintro e w1 ⟨he, hb⟩; rw [show agFirst _ _ = _ from HR.out] at he; obtain rfl := he; replace q0 := q0.below hb q0.lt; replace q1 := q1.below hb q1.lt; replace q2 := q2.below hb q2.lt; replace hB := hB.trans (hb.mono hB.size); clear hb))
            go_roundg (m - (j + 1))
            case measure => rw [HG2.out]; omega
            case rel => exact ⟨j + 1, rfl, by omega, by omega, by go_num, HSU.out, q0, q1, q2, hB⟩
          | some r =>
            obtain ⟨a, b⟩ := r
            have HR := Lib.hid hres
            rw [hres] at hsu
            have hF := misUp_stop l m k hlt hno _ (misRow_stop l k (j + 1) m (by omega) _ hsu)
            have HF := Lib.hid hF; clear hsu hres hno2 hno hF
            go_wp2_with (first | (go_at_call 166; have hr1' := hr1; clear hr1'; refine (shadesOf_any A n cap l _ _ hn ((hr.below hB).more hB.size)).mono ?_; rintro e w1 ⟨v2, rfl, own2, hb⟩; obtain ⟨A2, c2, rfl⟩ := own_slice own2; have hr2 := Rd.of_own own2; clear own2; replace hr1 := (hr1.below hb).more hb.size; replace q0 := q0.below hb q0.lt; replace q1 := q1.below hb q1.lt; replace q2 := q2.below hb q2.lt; replace hB := hB.trans (hb.mono hB.size); clear hb) | (go_at_call 166; refine (shadesOf_any A n cap l _ _ hn ((hr.below hB).more hB.size)).mono ?_; rintro e w1 ⟨v1, rfl, own1, hb⟩; obtain ⟨A1, c1, rfl⟩ := own_slice own1; have hr1 := Rd.of_own own1; clear own1; replace q0 := q0.below hb q0.lt; replace q1 := q1.below hb q1.lt; replace q2 := q2.below hb q2.lt; replace hB := hB.trans (hb.mono hB.size); clear hb) | (go_at_call 165; refine (tellApart_any A1 _ c1 A2 _ c2 _ _ _ (hfl _) (hfl _) sz (hfs _) (hfs _) hsz hr1 hr2).mono ?_; rintro e w1 ⟨he, hb⟩; rw [show agFirst _ _ = _ from HR.out] at he; obtain rfl := he; replace q0 := q0.below hb q0.lt; replace q1 := q1.below hb q1.lt; replace q2 := q2.below hb q2.lt; replace hB := hB.trans (hb.mono hB.size); clear hb))
            refine leaves_cons (f := 164) (args := #[.pointer (some ⟨w.heap.size, 0, none⟩), .pointer (some ⟨w.heap.size + 1, 0, none⟩), .pointer (some ⟨w.heap.size + 1 + 1, 0, none⟩)]) (by simp) (by simp [go_sem]) ?_
            refine (catchPanic _ _ _ w.heap.size a b 0 0 0 _ q0 q1 q2 (Nat.le_refl _) (by omega) (by omega) (by omega)).mono ?_
            rintro e u' w2 ⟨rfl, rfl, k0, k1, k2, hb⟩
            have c0 := k0.cell 0; have c1 := k1.cell 0; have c2 := k2.cell 0
            simp only [List.getElem?_toArray, List.getElem?_cons_zero] at c0 c1 c2
            have hBB := hB.trans hb
            simp [Leaves, settle, results, Tryz.results129, go_sem, c0, c1, c2, HF.out, misV, hBB]
        · obtain rfl : j = m := by omega
          have hup := misUp_succ l j k hno
          rw [hno2] at hup
          have HUP := Lib.hid hup; clear hup hno hno2
          go_wp2
          go_roundg (j - (k + 1))
          case measure => rw [HG.out]; omega
          case rel => exact ⟨k + 1, rfl, by omega, by go_num, HUP.out, q0, q1, q2, hB⟩
    · obtain rfl : k = m := by omega
      have hF : misF l k = none := hno
      have HF := Lib.hid hF
      clear hno hF
      have p0 := fun i => q0.cell i; have p1 := fun i => q1.cell i; have p2 := fun i => q2.cell i
      have f0 := fun i => q0.frozen i; have f1 := fun i => q1.frozen i; have f2 := fun i => q2.frozen i
      go_wp2
      have z0 := ((q0.set_ 0 (.int .i64 0)).far (p := ⟨w.heap.size + 1, 0, none⟩) (by simp) (.int .i64 0)).far (p := ⟨w.heap.size + 1 + 1, 0, none⟩) (by simp <;> omega) (.int .i64 5)
      have z1 := ((q1.far (p := ⟨w.heap.size, 0, none⟩) (by simp) (.int .i64 0)).set_ 0 (.int .i64 0)).far (p := ⟨w.heap.size + 1 + 1, 0, none⟩) (by simp) (.int .i64 5)
      have z2 := ((q2.far (p := ⟨w.heap.size, 0, none⟩) (by simp <;> omega) (.int .i64 0)).far (p := ⟨w.heap.size + 1, 0, none⟩) (by simp) (.int .i64 0)).set_ 0 (.int .i64 5)
      have zB := ((hB.setCell (p := ⟨w.heap.size, 0, none⟩) (Nat.le_refl _) (.int .i64 0)).setCell (p := ⟨w.heap.size + 1, 0, none⟩) (by simp) (.int .i64 0)).setCell (p := ⟨w.heap.size + 1 + 1, 0, none⟩) (by simp <;> omega) (.int .i64 5)
      refine leaves_cons (f := 164) (args := #[.pointer (some ⟨w.heap.size, 0, none⟩), .pointer (some ⟨w.heap.size + 1, 0, none⟩), .pointer (some ⟨w.heap.size + 1 + 1, 0, none⟩)]) (by simp) (by simp [go_sem]) ?_
      refine (catchIdle _ _ _ _).mono ?_
      rintro e u' w2 ⟨rfl, rfl, rfl⟩
      have c0 := z0.cell 0; have c1 := z1.cell 0; have c2 := z2.cell 0
      simp only [List.setIfInBounds_toArray, List.set_cons_zero, List.getElem?_toArray, List.getElem?_cons_zero] at c0 c1 c2
      simp [Leaves, settle, results, Tryz.results129, go_sem, c0, c1, c2, HF.out, misV, zB]
end
end Go.Proofs.YtifddfchpknkbaaGreatDoor
