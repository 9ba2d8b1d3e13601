import Derived.Test.YtifddfchpknkbaaGreatDoorProg
import Derived.Test.YtifddfchpknkbaaGreatDoorBk10
set_option linter.unusedVariables false
set_option linter.unusedSimpArgs false
namespace Go.Proofs.YtifddfchpknkbaaGreatDoor
section
open Go.RowKit
/-- The sum of a line's bytes, each by its place and by the line's. -/
def sumB (i : Int) : List UInt8 → Int → Int → Int
  | [], _, acc => acc
  | c :: cs, p, acc => sumB i cs (p + 1) (wrap64 (acc + wrap64 (wrap64 (wrap64 (c.toNat : Int) * (p + 1)) * (i + 1))))
def sumA : List ByteArray → Int → Int → Int
  | [], _, acc => acc
  | r :: rs, i, acc => sumA rs (i + 1) (sumB i r.data.toList 0 acc)
theorem sumB_drop (i : Int) (l : List UInt8) (k : Nat) (acc : Int) (h : k < l.length) : sumB i (l.drop k) k acc = sumB i (l.drop (k + 1)) ((k : Int) + 1) (wrap64 (acc + wrap64 (wrap64 (wrap64 (l[k].toNat : Int) * ((k : Int) + 1)) * (i + 1)))) := by
  rw [List.drop_eq_getElem_cons h, sumB]
theorem sumA_drop (l : List ByteArray) (k : Nat) (acc : Int) (h : k < l.length) : sumA (l.drop k) k acc = sumA (l.drop (k + 1)) ((k : Int) + 1) (sumB k l[k].data.toList 0 acc) := by
  rw [List.drop_eq_getElem_cons h, sumA]
set_option maxRecDepth 100000 in
set_option maxHeartbeats 1600000 in
theorem sum_any (A : Option Addr) (n cap : Nat) (rs : List ByteArray) (w : World) (hn : n ≤ 100000) (hs : ∀ r ∈ rs, r.size ≤ 100000) (hr : Rd w w.heap.size 1 A n (rs.map Value.string)) :
    Calls Tryz.prog 197 #[.slice A n cap] w fun e w' => e = .returned (.int .i64 (sumA rs 0 0)) ∧ w = w' := by
  have hlen := hr.len
  have HLEN := Lib.hid hlen; clear hlen
  go_enter Tryz.func197, Tryz.ntmps197
  go_wp2
  go_loop [3, 9] (fun s i => ∃ (k : Nat) (acc : Int), k ≤ n ∧ i = .int .i64 k ∧ s = .int .i64 acc ∧ sumA (rs.drop k) k acc = sumA rs 0 0) (fun _ i => n - (intOf i).toNat)
  case atStart => exact ⟨0, 0, Nat.zero_le _, rfl, rfl, rfl⟩
  case round =>
    obtain ⟨k, acc, hk, rfl, rfl, hacc⟩ := hrel
    by_cases hlt : k < n
    · obtain ⟨cb, coff, hz, rfl, hcb, hcc⟩ := hr.atm hlt
      rw [sumA_drop _ _ _ hz] at hacc
      have hsz := hs _ (List.getElem_mem hz)
      generalize rs[k] = r at *
      have HACC := Lib.hid hacc; clear hacc
      go_wp2
      go_loop [3, 16] (fun s i => ∃ (q : Nat) (ac : Int), q ≤ r.size ∧ i = .int .i64 q ∧ s = .int .i64 ac ∧ sumB k (r.data.toList.drop q) q ac = sumB k r.data.toList 0 acc) (fun _ i => r.size - (intOf i).toNat)
      case atStart => exact ⟨0, acc, Nat.zero_le _, rfl, rfl, rfl⟩
      case round =>
        obtain ⟨q, ac, hq, rfl, rfl, hqc⟩ := hrel
        by_cases hqt : q < r.size
        · have hql : q < r.data.toList.length := by rw [Array.length_toList]; exact hqt
          rw [sumB_drop _ _ _ _ hql] at hqc
          have hby : r.data.toList[q] = r[q] := Array.getElem_toList ..
          rw [hby] at hqc
          have HQC := Lib.hid hqc; clear hqc
          go_wp2
          go_round
          case rel => exact ⟨q + 1, _, by omega, by go_num, rfl, HQC.out⟩
          case measure => simp [intOf]; omega
        · have hd : r.data.toList.drop q = [] := List.drop_of_length_le (by rw [Array.length_toList]; exact Nat.le_of_not_lt hqt)
          rw [hd, sumB] at hqc
          have HQC := Lib.hid hqc; clear hqc
          go_wp2
          go_round
          case rel => exact ⟨k + 1, ac, by omega, by go_num, rfl, by rw [HQC.out]; exact HACC.out⟩
          case measure => simp [intOf]; omega
    · have hkn : k = n := by omega
      have hd : rs.drop k = [] := List.drop_of_length_le (by have := HLEN.out; omega)
      rw [hd, sumA] at hacc
      subst hacc
      go_wp2
      go_ret
      exact ⟨rfl, rfl⟩
end
section
open Go.RowKit
set_option maxRecDepth 100000 in
set_option maxHeartbeats 1600000 in
theorem decimal_small (n : Int) (w : World) (h0 : 0 ≤ n) (h1 : n < 10) :
    Calls Tryz.prog 178 #[.int .i64 n] w fun e w' => e = .returned (.string (strOfNums [48 + n])) ∧ Below w.heap.size w w' := by
  have a1 : ¬ n < 0 := by omega
  have kc := run_convert_bytes_arg (P := Tryz.prog) (w.alloc (.cells #[.int .u8 (48 + n)] 5)) 89 5 Tryz.underlying89 Tryz.underlying5 w.heap.size 0 1 1 [48 + n] rfl (fun i hi => by
    obtain rfl : i = 0 := by omega
    simp) 9 Tryz.underlying9
  go_enter Tryz.func178, Tryz.ntmps178
  go_wp2
  go_ret
  exact ⟨rfl, (Below.refl _ w).alloc (Nat.le_refl _) _⟩
/-- A line: a word and numbers behind it. -/
def rowS (D : Int → ByteArray) : List Int → ByteArray → ByteArray
  | [], s => s
  | n :: ns, s => rowS D ns (s ++ ⟨#[32]⟩ ++ D n)
theorem rowS_drop (D : Int → ByteArray) (l : List Int) (k : Nat) (s : ByteArray) (h : k < l.length) : rowS D (l.drop k) s = rowS D (l.drop (k + 1)) (s ++ ⟨#[32]⟩ ++ D l[k]) := by
  rw [List.drop_eq_getElem_cons h, rowS]
set_option maxRecDepth 100000 in
set_option maxHeartbeats 1600000 in
theorem row_any (D : Int → ByteArray) (s0 : ByteArray) (A : Option Addr) (n cap : Nat) (l : List Int) (w : World) (hn : n ≤ 100000) (hr : Rd w w.heap.size 1 A n (l.map (Value.int .i64))) (hs0 : s0.size ≤ 100000) (hDs : ∀ x ∈ l, (D x).size ≤ 100000)
    (hD : ∀ x ∈ l, ∀ w' : World, Calls Tryz.prog 178 #[.int .i64 x] w' fun e w'' => e = .returned (.string (D x)) ∧ Below w'.heap.size w' w'') :
    Calls Tryz.prog 142 #[.string s0, .slice A n cap] w fun e w' => e = .returned (.string (rowS D l s0)) ∧ Below w.heap.size w w' := by
  have hlen := hr.len
  have HLEN := Lib.hid hlen; clear hlen
  go_enter Tryz.func142, Tryz.ntmps142
  go_wp2
  go_loopg [0, 5] n (fun g s i wr => ∃ (k : Nat) (s' : ByteArray), g = n - k ∧ k ≤ n ∧ i = .int .i64 k ∧ s = .string s' ∧ rowS D (l.drop k) s' = rowS D l s0 ∧ s'.size ≤ 100000 + k * 200000 ∧ Below w.heap.size w wr)
  case atStart => exact ⟨0, s0, rfl, Nat.zero_le _, rfl, rfl, rfl, by omega, Below.refl _ _⟩
  case round =>
    obtain ⟨k, s', hg, hk, rfl, rfl, hs, hsz, hB⟩ := hrel
    have HG := Lib.hid hg; clear hg
    by_cases hlt : k < n
    · obtain ⟨cb, coff, hz, rfl, hcb, hcc⟩ := (hr.below hB).atm hlt
      rw [rowS_drop _ _ _ _ hz] at hs
      have hDx := hD _ (List.getElem_mem hz) wr
      have hDz := hDs _ (List.getElem_mem hz)
      generalize l[k] = x at *
      have q1 : ¬ 9223372036854775807 < s'.size + ByteArray.size ⟨#[32]⟩ := by rw [show ByteArray.size ⟨#[32]⟩ = 1 from rfl]; omega
      have q2 : ¬ 9223372036854775807 < (s' ++ ⟨#[32]⟩).size + (D x).size := by rw [ByteArray.size_append, show ByteArray.size ⟨#[32]⟩ = 1 from rfl]; omega
      have HS := Lib.hid hs; clear hs
      go_wp2_with (go_at_call 178; refine hDx.mono ?_; rintro e w1 ⟨rfl, hb⟩; replace hB := hB.trans (hb.mono hB.size))
      go_roundg (n - (k + 1))
      case measure => rw [HG.out]; omega
      case rel => exact ⟨k + 1, _, rfl, by omega, by go_num, rfl, HS.out, by rw [ByteArray.size_append, ByteArray.size_append, show ByteArray.size ⟨#[32]⟩ = 1 from rfl]; omega, hB⟩
    · have hd : l.drop k = [] := List.drop_of_length_le (by have := HLEN.out; omega)
      rw [hd, rowS] at hs
      subst hs
      go_wp2
      go_ret
      exact ⟨rfl, hB⟩
end
section
open Go.RowKit
theorem strNum_size (n : Int) : (strOfNums [n]).size = 1 := rfl
/-- Lines, each ended. -/
def linesS : List ByteArray → ByteArray → ByteArray
  | [], s => s
  | r :: rs, s => linesS rs (s ++ r ++ ⟨#[10]⟩)
theorem linesS_drop (l : List ByteArray) (k : Nat) (s : ByteArray) (h : k < l.length) : linesS (l.drop k) s = linesS (l.drop (k + 1)) (s ++ l[k] ++ ⟨#[10]⟩) := by
  rw [List.drop_eq_getElem_cons h, linesS]
set_option maxRecDepth 100000 in
set_option maxHeartbeats 1600000 in
theorem sealed_any (A : Option Addr) (n cap : Nat) (rs : List ByteArray) (by_ : Int) (w : World) (hby : 1 ≤ by_ ∧ by_ ≤ 999) (hn : n ≤ 100000) (hs : ∀ r ∈ rs, r.size ≤ 100000) (hr : Rd w w.heap.size 1 A n (rs.map Value.string)) (h0 : 0 ≤ sumA rs 0 0) :
    Calls Tryz.prog 143 #[.slice A n cap, .int .i64 by_] w fun e w' => e = .returned (.string (linesS rs ⟨#[]⟩ ++ ⟨#[101, 110, 100, 32]⟩ ++ strOfNums [48 + (sumA rs 0 0 % by_) / 100] ++ strOfNums [48 + (sumA rs 0 0 % by_) / 10 % 10] ++ strOfNums [48 + (sumA rs 0 0 % by_) % 10] ++ ⟨#[10]⟩)) ∧ Below w.heap.size w w' := by
  have hlen := hr.len
  have HLEN := Lib.hid hlen; clear hlen
  go_enter Tryz.func143, Tryz.ntmps143
  go_wp2
  go_loop [5, 6, 7] (fun t s i => ∃ (k : Nat) (acc : Int) (t' : ByteArray), k ≤ n ∧ i = .int .i64 k ∧ s = .int .i64 acc ∧ t = .string t' ∧ sumA (rs.drop k) k acc = sumA rs 0 0 ∧ linesS (rs.drop k) t' = linesS rs ⟨#[]⟩ ∧ t'.size ≤ k * 200000) (fun _ _ i => n - (intOf i).toNat)
  case atStart => exact ⟨0, 0, _, Nat.zero_le _, rfl, rfl, rfl, rfl, rfl, by rw [show ByteArray.size ⟨#[]⟩ = 0 from rfl]; omega⟩
  case round =>
    obtain ⟨k, acc, t', hk, rfl, rfl, rfl, hacc, hlin, htz⟩ := hrel
    by_cases hlt : k < n
    · obtain ⟨cb, coff, hz, rfl, hcb, hcc⟩ := hr.atm hlt
      rw [sumA_drop _ _ _ hz] at hacc
      rw [linesS_drop _ _ _ hz] at hlin
      have hsz := hs _ (List.getElem_mem hz)
      generalize rs[k] = r at *
      have q1 : ¬ 9223372036854775807 < t'.size + r.size := by omega
      have q2 : ¬ 9223372036854775807 < (t' ++ r).size + ByteArray.size ⟨#[10]⟩ := by rw [ByteArray.size_append, show ByteArray.size ⟨#[10]⟩ = 1 from rfl]; omega
      have HACC := Lib.hid hacc; have HLIN := Lib.hid hlin; clear hacc hlin
      go_wp2
      go_loop [6, 8] (fun s i => ∃ (q : Nat) (ac : Int), q ≤ r.size ∧ i = .int .i64 q ∧ s = .int .i64 ac ∧ sumB k (r.data.toList.drop q) q ac = sumB k r.data.toList 0 acc) (fun _ i => r.size - (intOf i).toNat)
      case atStart => exact ⟨0, acc, Nat.zero_le _, rfl, rfl, rfl⟩
      case round =>
        obtain ⟨q, ac, hq, rfl, rfl, hqc⟩ := hrel
        by_cases hqt : q < r.size
        · have hql : q < r.data.toList.length := by rw [Array.length_toList]; exact hqt
          rw [sumB_drop _ _ _ _ hql] at hqc
          have hby : r.data.toList[q] = r[q] := Array.getElem_toList ..
          rw [hby] at hqc
          have HQC := Lib.hid hqc; clear hqc
          go_wp2
          go_round
          case rel => exact ⟨q + 1, _, by omega, by go_num, rfl, HQC.out⟩
          case measure => simp [intOf]; omega
        · have hd : r.data.toList.drop q = [] := List.drop_of_length_le (by rw [Array.length_toList]; exact Nat.le_of_not_lt hqt)
          rw [hd, sumB] at hqc
          have HQC := Lib.hid hqc; clear hqc
          go_wp2
          go_round
          case rel => exact ⟨k + 1, ac, _, by omega, by go_num, rfl, rfl, by rw [HQC.out]; exact HACC.out, HLIN.out, by rw [ByteArray.size_append, ByteArray.size_append, show ByteArray.size ⟨#[10]⟩ = 1 from rfl]; omega⟩
          case measure => simp [intOf]; omega
    · have hkn : k = n := by omega
      have hd : rs.drop k = [] := List.drop_of_length_le (by have := HLEN.out; omega)
      rw [hd, sumA] at hacc
      rw [hd, linesS] at hlin
      rw [← hacc] at h0
      have hm0 := Int.emod_nonneg acc (show by_ ≠ 0 by omega)
      have hm1 := Int.emod_lt_of_pos acc (show 0 < by_ by omega)
      have HA := Lib.hid hacc; have HLI := Lib.hid hlin; clear hacc hlin
      have q1 : ¬ 9223372036854775807 < t'.size + ByteArray.size ⟨#[101, 110, 100, 32]⟩ := by rw [show ByteArray.size ⟨#[101, 110, 100, 32]⟩ = 4 from rfl]; omega
      have q2 : ∀ v, ¬ 9223372036854775807 < t'.size + 4 + (strOfNums [v]).size := fun v => by rw [strNum_size]; omega
      have q3 : ∀ u v, ¬ 9223372036854775807 < t'.size + 4 + (strOfNums [u]).size + (strOfNums [v]).size := fun u v => by simp only [strNum_size]; omega
      have q4 : ∀ u v x, ¬ 9223372036854775807 < t'.size + 4 + (strOfNums [u]).size + (strOfNums [v]).size + (strOfNums [x]).size := fun u v x => by simp only [strNum_size]; omega
      have q5 : ∀ u v x, ¬ 9223372036854775807 < t'.size + 4 + (strOfNums [u]).size + (strOfNums [v]).size + (strOfNums [x]).size + 1 := fun u v x => by simp only [strNum_size]; omega
      have hBB : Below w.heap.size w w := Below.refl _ _
      go_wp2_with (fail)
      generalize hmm : acc % by_ = m at *
      have HM := Lib.hid hmm; clear hmm
      go_wp2_with (go_at_call 178; refine (decimal_small _ _ (by omega) (by omega)).mono ?_; rintro e w1 ⟨rfl, hb⟩; replace hBB := hBB.trans (hb.mono hBB.size); clear hb)
      go_ret
      exact ⟨by rw [← HA.out, ← HLI.out, HM.out]; rfl, hBB⟩
end
section
open Go.RowKit
/-- A figure's line. -/
def figS : List ByteArray → ByteArray → ByteArray
  | [], s => s
  | r :: rs, s => figS rs (s ++ ⟨#[32]⟩ ++ r)
theorem figS_drop (l : List ByteArray) (k : Nat) (s : ByteArray) (h : k < l.length) : figS (l.drop k) s = figS (l.drop (k + 1)) (s ++ ⟨#[32]⟩ ++ l[k]) := by
  rw [List.drop_eq_getElem_cons h, figS]
def figW (f : Fig) : ByteArray := figS f.rows ⟨#[102, 105, 103, 117, 114, 101]⟩
def bookR (D : Int → ByteArray) (W H F L X Y : Int) (fs : List Fig) : List ByteArray := rowS D [W, H, F, L, X, Y] ⟨#[115, 116, 97, 103, 101]⟩ :: fs.map figW
theorem figS_size : ∀ (l : List ByteArray) (s : ByteArray), (∀ r ∈ l, r.size ≤ 100) → (figS l s).size ≤ s.size + 101 * l.length
  | [], s, _ => by simp [figS]
  | r :: rs, s, h => by
    have h1 := h r (by simp)
    have ih := figS_size rs (s ++ ⟨#[32]⟩ ++ r) (fun r hr => h r (by simp [hr]))
    rw [ByteArray.size_append, ByteArray.size_append, show ByteArray.size ⟨#[32]⟩ = 1 from rfl] at ih
    rw [figS, List.length_cons]
    omega
theorem rowS_size (D : Int → ByteArray) : ∀ (l : List Int) (s : ByteArray), (∀ r ∈ l, (D r).size ≤ 100) → (rowS D l s).size ≤ s.size + 101 * l.length
  | [], s, _ => by simp [rowS]
  | r :: rs, s, h => by
    have h1 := h r (by simp)
    have ih := rowS_size D rs (s ++ ⟨#[32]⟩ ++ D r) (fun r hr => h r (by simp [hr]))
    rw [ByteArray.size_append, ByteArray.size_append, show ByteArray.size ⟨#[32]⟩ = 1 from rfl] at ih
    rw [rowS, List.length_cons]
    omega
set_option maxRecDepth 100000 in
set_option maxHeartbeats 1600000 in
theorem refPrint_any (D : Int → ByteArray) (W H F L X Y : Int) (A : Option Addr) (n cap : Nat) (fs : List Fig) (w : World) (hn : n ≤ 1000) (hf : ∀ f ∈ fs, f.ok w w.heap.size) (hfs : ∀ f ∈ fs, f.rows.length ≤ 100 ∧ ∀ r ∈ f.rows, r.size ≤ 100) (hr : Rd w w.heap.size 1 A n (fs.map Fig.val)) (hDs : ∀ x ∈ [W, H, F, L, X, Y], (D x).size ≤ 100)
    (hD : ∀ x ∈ [W, H, F, L, X, Y], ∀ w' : World, Calls Tryz.prog 178 #[.int .i64 x] w' fun e w'' => e = .returned (.string (D x)) ∧ Below w'.heap.size w' w'') (h0 : 0 ≤ sumA (bookR D W H F L X Y fs) 0 0) :
    Calls Tryz.prog 86 #[.agg #[.int .i64 W, .int .i64 H, .int .i64 F, .int .i64 L, .int .i64 X, .int .i64 Y, .slice A n cap]] w fun e w' => e = .returned (.string (linesS (bookR D W H F L X Y fs) ⟨#[]⟩ ++ ⟨#[101, 110, 100, 32]⟩ ++ strOfNums [48 + (sumA (bookR D W H F L X Y fs) 0 0 % 173) / 100] ++ strOfNums [48 + (sumA (bookR D W H F L X Y fs) 0 0 % 173) / 10 % 10] ++ strOfNums [48 + (sumA (bookR D W H F L X Y fs) 0 0 % 173) % 10] ++ ⟨#[10]⟩)) ∧ Below w.heap.size w w' := by
  have hlen := hr.len
  have HLEN := Lib.hid hlen; clear hlen
  go_enter Tryz.func86, Tryz.ntmps86
  obtain ⟨i0, hi, hz0, hz1', hz2'⟩ := info_parts info9
  have hA3 : Blk (((w.alloc (.cells #[.int .i64 W, .int .i64 H, .int .i64 F, .int .i64 L, .int .i64 X, .int .i64 Y, .slice A n cap] 121)).alloc (.cells #[.int .i64 W, .int .i64 H, .int .i64 F, .int .i64 L, .int .i64 X, .int .i64 Y] 23)).alloc (.cells #[.int .i64 W, .int .i64 H, .int .i64 F, .int .i64 L, .int .i64 X, .int .i64 Y] 3)) w.heap.size 121 #[.int .i64 W, .int .i64 H, .int .i64 F, .int .i64 L, .int .i64 X, .int .i64 Y, .slice A n cap] := ((Blk.new w 121 #[.int .i64 W, .int .i64 H, .int .i64 F, .int .i64 L, .int .i64 X, .int .i64 Y, .slice A n cap]).alloc _).alloc _
  have hB3 : Below w.heap.size w (((w.alloc (.cells #[.int .i64 W, .int .i64 H, .int .i64 F, .int .i64 L, .int .i64 X, .int .i64 Y, .slice A n cap] 121)).alloc (.cells #[.int .i64 W, .int .i64 H, .int .i64 F, .int .i64 L, .int .i64 X, .int .i64 Y] 23)).alloc (.cells #[.int .i64 W, .int .i64 H, .int .i64 F, .int .i64 L, .int .i64 X, .int .i64 Y] 3)) := (((Below.refl _ w).alloc (Nat.le_refl _) _).alloc (by simp only [World.size_alloc]; omega) _).alloc (by simp only [World.size_alloc]; omega) _
  have hrow : Rd (((w.alloc (.cells #[.int .i64 W, .int .i64 H, .int .i64 F, .int .i64 L, .int .i64 X, .int .i64 Y, .slice A n cap] 121)).alloc (.cells #[.int .i64 W, .int .i64 H, .int .i64 F, .int .i64 L, .int .i64 X, .int .i64 Y] 23)).alloc (.cells #[.int .i64 W, .int .i64 H, .int .i64 F, .int .i64 L, .int .i64 X, .int .i64 Y] 3)) (((w.alloc (.cells #[.int .i64 W, .int .i64 H, .int .i64 F, .int .i64 L, .int .i64 X, .int .i64 Y, .slice A n cap] 121)).alloc (.cells #[.int .i64 W, .int .i64 H, .int .i64 F, .int .i64 L, .int .i64 X, .int .i64 Y] 23)).alloc (.cells #[.int .i64 W, .int .i64 H, .int .i64 F, .int .i64 L, .int .i64 X, .int .i64 Y] 3)).heap.size 1 (some ⟨w.heap.size + 1 + 1, 0, none⟩) 6 ([W, H, F, L, X, Y].map (Value.int .i64)) := by
    have h := Blk.new ((w.alloc (.cells #[.int .i64 W, .int .i64 H, .int .i64 F, .int .i64 L, .int .i64 X, .int .i64 Y, .slice A n cap] 121)).alloc (.cells #[.int .i64 W, .int .i64 H, .int .i64 F, .int .i64 L, .int .i64 X, .int .i64 Y] 23)) 3 #[.int .i64 W, .int .i64 H, .int .i64 F, .int .i64 L, .int .i64 X, .int .i64 Y]
    rw [show ((w.alloc (.cells #[.int .i64 W, .int .i64 H, .int .i64 F, .int .i64 L, .int .i64 X, .int .i64 Y, .slice A n cap] 121)).alloc (.cells #[.int .i64 W, .int .i64 H, .int .i64 F, .int .i64 L, .int .i64 X, .int .i64 Y] 23)).heap.size = w.heap.size + 1 + 1 by simp only [World.size_alloc]] at h
    exact Rd.blkN (cs := #[.int .i64 W, .int .i64 H, .int .i64 F, .int .i64 L, .int .i64 X, .int .i64 Y]) h rfl (by simp only [World.size_alloc]; omega)
  have hrz := rowS_size D [W, H, F, L, X, Y] ⟨#[115, 116, 97, 103, 101]⟩ hDs
  rw [show ByteArray.size ⟨#[115, 116, 97, 103, 101]⟩ = 5 from rfl] at hrz
  simp only [List.length_cons, List.length_nil] at hrz
  obtain ⟨row0, hrow0⟩ : ∃ r, r = rowS D [W, H, F, L, X, Y] ⟨#[115, 116, 97, 103, 101]⟩ := ⟨_, rfl⟩
  rw [← hrow0] at hrz
  have HR0 := Lib.hid hrow0; clear hrow0
  have hfm := hfs
  have HH0 := Lib.hid h0; clear h0
  go_wp2_with (go_at_call 142; refine (row_any D _ _ 6 6 [W, H, F, L, X, Y] _ (by omega) hrow (by rw [show ByteArray.size ⟨#[115, 116, 97, 103, 101]⟩ = 5 from rfl]; omega) (fun x hx => by have := hDs x hx; omega) hD).mono ?_; rintro e w4 ⟨rfl, hb⟩; rw [← HR0.out]; have hA4 := hA3.below hb hA3.lt; have hB4 := hB3.trans (hb.mono hB3.size); clear hA3 hB3 hrow hb)
  go_loopg [4, 5] n (fun g v i wr => ∃ (k : Nat) (v0 : Value), g = n - k ∧ k ≤ n ∧ i = .int .i64 k ∧ v = v0 ∧ wr.ownsRow w.heap.size 9 1 v0 (k + 1) ((row0 :: (fs.take k).map figW).map Value.string) ∧ Blk wr w.heap.size 121 #[.int .i64 W, .int .i64 H, .int .i64 F, .int .i64 L, .int .i64 X, .int .i64 Y, .slice A n cap] ∧ Below w.heap.size w wr)
  case atStart => exact ⟨0, _, rfl, Nat.zero_le _, rfl, rfl, World.ownsRow_lit w4 #[.string row0] 1 hB4.size (by unfold maxLen; omega) rfl, hA4.alloc _, hB4.alloc hB4.size _⟩
  case round =>
    clear hA4 hB4
    obtain ⟨k, v, hg, hk, rfl, rfl, hown, hA, hB⟩ := hrel
    obtain ⟨va, vc, rfl⟩ := own_slice hown
    have HG := Lib.hid hg; clear hg
    have hqA := fun i => hA.cell i
    have hlA := hA.lt
    by_cases hlt : k < n
    · obtain ⟨cb, coff, hz, rfl, hcb, hcc⟩ := (hr.below hB).atm hlt
      have hfk := ((hf _ (List.getElem_mem hz)).below hB)
      have hfz := hfs _ (List.getElem_mem hz)
      have htk : (fs.take (k + 1)).map figW = (fs.take k).map figW ++ [figW fs[k]] := by rw [List.take_succ_eq_append_getElem hz, List.map_append]; rfl
      generalize fs[k] = f at *
      obtain ⟨FA, fn, fcap, frs⟩ := f
      obtain ⟨hf1, hf2, hf3, hfr⟩ := hfk
      simp only [Fig.val] at *
      have hfl := hfr.len
      have HT := Lib.hid htk; have HFL := Lib.hid hfl; clear htk
      obtain ⟨ys, hys⟩ : ∃ ys, ys = (row0 :: (fs.take k).map figW).map Value.string := ⟨_, rfl⟩
      rw [← hys] at hown
      have HYS := Lib.hid hys; clear hys
      go_wp2
      go_loop [6, 7] (fun t j => ∃ (q : Nat) (s' : ByteArray), q ≤ fn ∧ j = .int .i64 q ∧ t = .string s' ∧ s'.size ≤ 6 + 101 * q ∧ figS (frs.drop q) s' = figW ⟨FA, fn, fcap, frs⟩) (fun _ j => fn - (intOf j).toNat)
      case atStart => exact ⟨0, _, Nat.zero_le _, rfl, rfl, by rw [show ByteArray.size ⟨#[102, 105, 103, 117, 114, 101]⟩ = 6 from rfl]; omega, rfl⟩
      case round =>
        obtain ⟨q, s', hq, rfl, rfl, hsz, hfg⟩ := hrel
        by_cases hqt : q < fn
        · obtain ⟨fb, foff, hzq, rfl, hfb, hfc⟩ := hfr.atm hqt
          rw [figS_drop _ _ _ hzq] at hfg
          have hrz2 := hfz.2 _ (List.getElem_mem hzq)
          generalize frs[q] = r at *
          have q1 : ¬ 9223372036854775807 < s'.size + ByteArray.size ⟨#[32]⟩ := by rw [show ByteArray.size ⟨#[32]⟩ = 1 from rfl]; omega
          have q2 : ¬ 9223372036854775807 < (s' ++ ⟨#[32]⟩).size + r.size := by rw [ByteArray.size_append, show ByteArray.size ⟨#[32]⟩ = 1 from rfl]; omega
          have HFG := Lib.hid hfg; clear hfg
          go_wp2
          go_round
          case rel => exact ⟨q + 1, _, by omega, by go_num, rfl, by rw [ByteArray.size_append, ByteArray.size_append, show ByteArray.size ⟨#[32]⟩ = 1 from rfl]; omega, HFG.out⟩
          case measure => simp [intOf]; omega
        · have hd : frs.drop q = [] := List.drop_of_length_le (by have := HFL.out; omega)
          rw [hd, figS] at hfg
          have HFG := Lib.hid hfg; clear hfg
          go_wp2_with (first
            | (at_builtin; refine wpList_append_any _ rfl _ _ 24 rfl w.heap.size 9 i0 (.string ByteArray.empty) 1 16 Tryz.underlying24 hi hz0 hz1' hz2' rfl (by decide) (.slice va (k + 1) vc) (k + 1) ys rfl (hown.alloc _) (wr.heap.size + 1) (some ⟨wr.heap.size, 0, none⟩) 1 1 [.string s'] rfl (Rd.blkN (Blk.new _ _ _) rfl (Nat.lt_succ_self _)).reads (by simp [Value.oneCell']) (by unfold maxLen; omega) (by omega) (by have := hB.size; simp only [World.size_alloc]; omega) (fun v' w' hown' hgrow hob => ?_))
            | go_in)
          go_roundg (n - (k + 1))
          case measure => rw [HG.out]; omega
          case rel => exact ⟨k + 1, _, rfl, by omega, by go_num, rfl, by rw [HT.out, ← List.cons_append, List.map_append, ← HYS.out, ← HFG.out]; exact hown', (hA.alloc _).kept_own (hown.alloc _) (by decide) hgrow, (hB.alloc hB.size _).grown hgrow (by have := hB.size; simp only [World.size_alloc]; omega) (fun g hg => (hown.lt g hg).1)⟩
    · have hkn : k = n := by omega
      subst hkn
      have htk : row0 :: (fs.take k).map figW = bookR D W H F L X Y fs := by
        rw [HR0.out, List.take_of_length_le (by rw [HLEN.out]; omega)]; rfl
      rw [htk] at hown
      have hbz : ∀ r ∈ bookR D W H F L X Y fs, r.size ≤ 100000 := by
        intro r hr2
        rcases List.mem_cons.1 hr2 with rfl | hr2
        · rw [← HR0.out]; omega
        · obtain ⟨f, hff, rfl⟩ := List.mem_map.1 hr2
          have h1 := hfs f hff
          have h2 := figS_size f.rows ⟨#[102, 105, 103, 117, 114, 101]⟩ h1.2
          rw [show ByteArray.size ⟨#[102, 105, 103, 117, 114, 101]⟩ = 6 from rfl] at h2
          have h3 : (figW f).size ≤ 6 + 101 * f.rows.length := h2
          omega
      go_wp2_with (go_at_call 143; refine (sealed_any va (k + 1) vc (bookR D W H F L X Y fs) 173 _ (by omega) (by omega) hbz (Rd.of_own hown) HH0.out).mono ?_; rintro e w1 ⟨rfl, hb⟩)
      go_ret
      exact ⟨rfl, hB.trans (hb.mono hB.size)⟩
end
section
open Go.RowKit
/-- A row with one cell more that is seen. -/
def seenRow (row : ByteArray) (c : Int) (i : Nat) : ByteArray := row.extract 0 i ++ strOfNums [c] ++ row.extract (i + 1) row.size
set_option maxRecDepth 100000 in
set_option maxHeartbeats 400000 in
theorem refSeen_36 (A : Option Addr) (scap : Nat) (rs : List ByteArray) (row : ByteArray) (w : World) (hz : rs[4]? = some row) (hrz : row.size = 8) (hr : Rd w w.heap.size 1 A 8 (rs.map Value.string)) :
    Calls Tryz.prog 82 #[.agg #[.int .i64 8, .int .i64 8, .int .i64 8, .int .i64 0, .int .i64 4, .int .i64 4], .slice A 8 scap, .int .i64 36, .int .u8 35] w fun e w' => ∃ v, e = .returned v ∧ w'.ownsRow w.heap.size 9 1 v 8 ((rs.set 4 (seenRow row 35 4)).map Value.string) ∧ Below w.heap.size w w' := by
  have hlen := hr.len
  have HLEN := Lib.hid hlen; clear hlen
  obtain ⟨i0, hi0, hz0, hz1', hz2'⟩ := info_parts info9
  have hA : Blk (w.alloc (.cells #[.int .i64 8, .int .i64 8, .int .i64 8, .int .i64 0, .int .i64 4, .int .i64 4] 23)) w.heap.size 23 #[.int .i64 8, .int .i64 8, .int .i64 8, .int .i64 0, .int .i64 4, .int .i64 4] := Blk.new _ _ _
  have hB : Below w.heap.size w (w.alloc (.cells #[.int .i64 8, .int .i64 8, .int .i64 8, .int .i64 0, .int .i64 4, .int .i64 4] 23)) := (Below.refl _ w).alloc (Nat.le_refl _) _
  have hr1 := (hr.below hB).more hB.size
  have hqA := fun i => hA.cell i
  have hlA := hA.lt
  go_enter Tryz.func82, Tryz.ntmps82
  go_upto_region 3 with (first
    | (at_builtin; refine wpList_append_any _ rfl _ _ 24 rfl w.heap.size 9 i0 (.string ByteArray.empty) 1 16 Tryz.underlying24 hi0 hz0 hz1' hz2' rfl (by decide) (.slice none 0 0) 0 [] rfl (World.ownsRow_nil _ _ _ _) _ A 8 scap _ rfl hr1.reads (by simp [Value.oneCell']) (by unfold maxLen; omega) (by omega) (by exact hB.size) (fun v' w1 hown' hgrow hob => ?_); rw [Nat.zero_add, List.nil_append] at hown'; obtain ⟨g, cap', rfl, hg1, hg2⟩ := hown'.form (show 0 < 8 by omega); replace hA := hA.kept_own (World.ownsRow_nil _ w.heap.size 9 1) (by decide) hgrow; replace hB := hB.grown hgrow hB.size (fun z hz => by cases hz); have hqA := fun i => hA.cell i; have hlA := hA.lt; have hcg : w1.cell? ⟨g, 4, none⟩ = some (.string row) := (by rw [hown'.cellAt 4 (by omega), List.getElem?_map, hz]; rfl)))
  refine wp_region_G (fun w' => Blk w' w.heap.size 23 #[.int .i64 8, .int .i64 8, .int .i64 8, .int .i64 0, .int .i64 4, .int .i64 4]) 24 (by kernel_rfl) ?_
  replace hA := hA.drew; replace hB := hB.drew; replace hown' := hown'.drew; replace hg2 := (show g < w1.drew.heap.size from hg2)
  have hw5 : IntKind.i64.wrap 5 = 5 := by decide
  have hw4 : IntKind.i64.wrap 4 = 4 := by decide
  have hsz1 : (strOfNums [35]).size = 1 := rfl
  have hTT := hA
  refine wpG_take (i := 0) (v := ?v0) rfl (by kernel_rfl) (by kernel_rfl) (by kernel_rfl) (by kernel_rfl) (fun _ _ _ h => h) (Or.inl ⟨by rfl, ?hy0⟩) hTT ?rest0
  case hy0 => intro wq hSw; have hq1 := fun i => hSw.cell i; go_simp <;> with_reducible rfl
  simp only [List.getElem_toArray, List.getElem_cons_zero, List.getElem_cons_succ, Act.put, List.setIfInBounds_toArray, List.set_cons_zero, List.set_cons_succ]
  refine wpG_take (i := 1) (v := ?v1) rfl (by kernel_rfl) (by kernel_rfl) (by kernel_rfl) (by kernel_rfl) (fun _ _ _ h => h) (Or.inl ⟨by rfl, ?hy1⟩) hTT ?rest1
  case hy1 => intro wq hSw; have hq1 := fun i => hSw.cell i; go_simp <;> with_reducible rfl
  simp only [List.getElem_toArray, List.getElem_cons_zero, List.getElem_cons_succ, Act.put, List.setIfInBounds_toArray, List.set_cons_zero, List.set_cons_succ]
  refine wpG_take (i := 2) (v := ?v2) rfl (by kernel_rfl) (by kernel_rfl) (by kernel_rfl) (by kernel_rfl) (fun _ _ _ h => h) (Or.inl ⟨by rfl, ?hy2⟩) hTT ?rest2
  case hy2 => intro wq hSw; have hq1 := fun i => hSw.cell i; go_simp <;> with_reducible rfl
  simp only [List.getElem_toArray, List.getElem_cons_zero, List.getElem_cons_succ, Act.put, List.setIfInBounds_toArray, List.set_cons_zero, List.set_cons_succ]
  refine wpG_take (i := 3) (v := ?v3) rfl (by kernel_rfl) (by kernel_rfl) (by kernel_rfl) (by kernel_rfl) (fun _ _ _ h => h) (Or.inl ⟨by rfl, ?hy3⟩) hTT ?rest3
  case hy3 => intro wq hSw; have hq1 := fun i => hSw.cell i; go_simp <;> with_reducible rfl
  simp only [List.getElem_toArray, List.getElem_cons_zero, List.getElem_cons_succ, Act.put, List.setIfInBounds_toArray, List.set_cons_zero, List.set_cons_succ]
  refine wpG_take (i := 4) (v := ?v4) rfl (by kernel_rfl) (by kernel_rfl) (by kernel_rfl) (by kernel_rfl) (fun _ _ _ h => h) (Or.inl ⟨by rfl, ?hy4⟩) hTT ?rest4
  case hy4 => intro wq hSw; have hq1 := fun i => hSw.cell i; go_simp <;> with_reducible rfl
  simp only [List.getElem_toArray, List.getElem_cons_zero, List.getElem_cons_succ, Act.put, List.setIfInBounds_toArray, List.set_cons_zero, List.set_cons_succ]
  refine wpG_take (i := 5) (v := ?v5) rfl (by kernel_rfl) (by kernel_rfl) (by kernel_rfl) (by kernel_rfl) (fun _ _ _ h => h) (Or.inl ⟨by rfl, ?hy5⟩) hTT ?rest5
  case hy5 => intro wq hSw; have hq1 := fun i => hSw.cell i; go_simp <;> with_reducible rfl
  simp only [List.getElem_toArray, List.getElem_cons_zero, List.getElem_cons_succ, Act.put, List.setIfInBounds_toArray, List.set_cons_zero, List.set_cons_succ]
  refine wpG_take (i := 6) (v := ?v6) rfl (by kernel_rfl) (by kernel_rfl) (by kernel_rfl) (by kernel_rfl) (fun _ _ _ h => h) (Or.inl ⟨by rfl, ?hy6⟩) hTT ?rest6
  case hy6 => intro wq hSw; have hq1 := fun i => hSw.cell i; go_simp <;> with_reducible rfl
  simp only [List.getElem_toArray, List.getElem_cons_zero, List.getElem_cons_succ, Act.put, List.setIfInBounds_toArray, List.set_cons_zero, List.set_cons_succ]
  refine wpG_take (i := 7) (v := ?v7) rfl (by kernel_rfl) (by kernel_rfl) (by kernel_rfl) (by kernel_rfl) (fun _ _ _ h => h) (Or.inl ⟨by rfl, ?hy7⟩) hTT ?rest7
  case hy7 => intro wq hSw; have hq1 := fun i => hSw.cell i; go_simp <;> with_reducible rfl
  simp only [List.getElem_toArray, List.getElem_cons_zero, List.getElem_cons_succ, Act.put, List.setIfInBounds_toArray, List.set_cons_zero, List.set_cons_succ]
  refine wpG_take (i := 8) (v := ?v8) rfl (by kernel_rfl) (by kernel_rfl) (by kernel_rfl) (by kernel_rfl) (fun _ _ _ h => h) (Or.inl ⟨by rfl, ?hy8⟩) hTT ?rest8
  case hy8 => intro wq hSw; have hq1 := fun i => hSw.cell i; go_simp <;> with_reducible rfl
  simp only [List.getElem_toArray, List.getElem_cons_zero, List.getElem_cons_succ, Act.put, List.setIfInBounds_toArray, List.set_cons_zero, List.set_cons_succ]
  refine wpG_take (i := 9) (v := ?v9) rfl (by kernel_rfl) (by kernel_rfl) (by kernel_rfl) (by kernel_rfl) (fun _ _ _ h => h) (Or.inl ⟨by rfl, ?hy9⟩) hTT ?rest9
  case hy9 => intro wq hSw; have hq1 := fun i => hSw.cell i; go_simp <;> with_reducible rfl
  simp only [List.getElem_toArray, List.getElem_cons_zero, List.getElem_cons_succ, Act.put, List.setIfInBounds_toArray, List.set_cons_zero, List.set_cons_succ]
  refine wpG_take (i := 10) (v := ?v10) rfl (by kernel_rfl) (by kernel_rfl) (by kernel_rfl) (by kernel_rfl) (fun _ _ _ h => h) (Or.inl ⟨by rfl, ?hy10⟩) hTT ?rest10
  case hy10 => intro wq hSw; have hq1 := fun i => hSw.cell i; go_simp <;> with_reducible rfl
  simp only [List.getElem_toArray, List.getElem_cons_zero, List.getElem_cons_succ, Act.put, List.setIfInBounds_toArray, List.set_cons_zero, List.set_cons_succ]
  refine wpG_take (i := 11) (v := ?v11) rfl (by kernel_rfl) (by kernel_rfl) (by kernel_rfl) (by kernel_rfl) (fun _ _ _ h => h) (Or.inl ⟨by rfl, ?hy11⟩) hTT ?rest11
  case hy11 => intro wq hSw; have hq1 := fun i => hSw.cell i; go_simp <;> with_reducible rfl
  simp only [List.getElem_toArray, List.getElem_cons_zero, List.getElem_cons_succ, Act.put, List.setIfInBounds_toArray, List.set_cons_zero, List.set_cons_succ]
  refine wpG_take (i := 15) (v := ?v15) rfl (by kernel_rfl) (by kernel_rfl) (by kernel_rfl) (by kernel_rfl) (fun _ _ _ h => h) (Or.inl ⟨by rfl, ?hy15⟩) hTT ?rest15
  case hy15 => intro wq hSw; have hq1 := fun i => hSw.cell i; go_simp <;> with_reducible rfl
  simp only [List.getElem_toArray, List.getElem_cons_zero, List.getElem_cons_succ, Act.put, List.setIfInBounds_toArray, List.set_cons_zero, List.set_cons_succ]
  refine wpG_take (i := 16) (v := ?v16) rfl (by kernel_rfl) (by kernel_rfl) (by kernel_rfl) (by kernel_rfl) (fun _ _ _ h => h) (Or.inl ⟨by rfl, ?hy16⟩) hTT ?rest16
  case hy16 => intro wq hSw; have hq1 := fun i => hSw.cell i; go_simp <;> with_reducible rfl
  simp only [List.getElem_toArray, List.getElem_cons_zero, List.getElem_cons_succ, Act.put, List.setIfInBounds_toArray, List.set_cons_zero, List.set_cons_succ]
  refine wpG_take (i := 17) (v := ?v17) rfl (by kernel_rfl) (by kernel_rfl) (by kernel_rfl) (by kernel_rfl) (fun _ _ _ h => h) (Or.inl ⟨by rfl, ?hy17⟩) hTT ?rest17
  case hy17 => intro wq hSw; have hq1 := fun i => hSw.cell i; go_simp <;> with_reducible rfl
  simp only [List.getElem_toArray, List.getElem_cons_zero, List.getElem_cons_succ, Act.put, List.setIfInBounds_toArray, List.set_cons_zero, List.set_cons_succ]
  refine wpG_take (i := 18) (v := ?v18) rfl (by kernel_rfl) (by kernel_rfl) (by kernel_rfl) (by kernel_rfl) (fun _ _ _ h => h) (Or.inl ⟨by rfl, ?hy18⟩) hTT ?rest18
  case hy18 => intro wq hSw; have hq1 := fun i => hSw.cell i; go_simp <;> with_reducible rfl
  simp only [List.getElem_toArray, List.getElem_cons_zero, List.getElem_cons_succ, Act.put, List.setIfInBounds_toArray, List.set_cons_zero, List.set_cons_succ]
  refine wpG_take (i := 19) (v := ?v19) rfl (by kernel_rfl) (by kernel_rfl) (by kernel_rfl) (by kernel_rfl) (fun _ _ _ h => h) (Or.inl ⟨by rfl, ?hy19⟩) hTT ?rest19
  case hy19 => intro wq hSw; have hq1 := fun i => hSw.cell i; go_simp <;> with_reducible rfl
  simp only [List.getElem_toArray, List.getElem_cons_zero, List.getElem_cons_succ, Act.put, List.setIfInBounds_toArray, List.set_cons_zero, List.set_cons_succ]
  refine wpG_take (i := 20) (v := ?v20) rfl (by kernel_rfl) (by kernel_rfl) (by kernel_rfl) (by kernel_rfl) (fun _ _ _ h => h) (Or.inl ⟨by rfl, ?hy20⟩) hTT ?rest20
  case hy20 => intro wq hSw; have hq1 := fun i => hSw.cell i; go_simp <;> with_reducible rfl
  simp only [List.getElem_toArray, List.getElem_cons_zero, List.getElem_cons_succ, Act.put, List.setIfInBounds_toArray, List.set_cons_zero, List.set_cons_succ]
  refine wpG_take (i := 21) (v := ?v21) rfl (by kernel_rfl) (by kernel_rfl) (by kernel_rfl) (by kernel_rfl) (fun _ _ _ h => h) (Or.inl ⟨by rfl, ?hy21⟩) hTT ?rest21
  case hy21 => intro wq hSw; have hq1 := fun i => hSw.cell i; go_simp <;> with_reducible rfl
  simp only [List.getElem_toArray, List.getElem_cons_zero, List.getElem_cons_succ, Act.put, List.setIfInBounds_toArray, List.set_cons_zero, List.set_cons_succ]
  refine wpG_one (i := 12) rfl (by kernel_rfl) (fun K hK => ?_)
  go_simp
  replace hA := hA.alloc (.cells #[.int .u8 35] 5); replace hB := hB.alloc hB.size (.cells #[.int .u8 35] 5); replace hown' := hown'.alloc (.cells #[.int .u8 35] 5); clear hTT; have hTT := hA; have kc := run_convert_bytes_arg (P := Tryz.prog) (w1.alloc (.cells #[.int .u8 35] 5)).drew 89 5 Tryz.underlying89 Tryz.underlying5 w1.heap.size 0 1 1 [35] rfl (fun i hi => by obtain rfl : i = 0 := (by omega); simp) 9 Tryz.underlying9
  refine hK _ _ (.inr hTT) ?_
  clear hK K
  try simp only [List.getElem_toArray, List.getElem_cons_zero, List.getElem_cons_succ, Act.put, List.setIfInBounds_toArray, List.set_cons_zero, List.set_cons_succ]
  refine wpG_one (i := 13) rfl (by kernel_rfl) (fun K hK => ?_)
  go_simp
  refine hK _ _ (.inr hTT) ?_
  clear hK K
  try simp only [List.getElem_toArray, List.getElem_cons_zero, List.getElem_cons_succ, Act.put, List.setIfInBounds_toArray, List.set_cons_zero, List.set_cons_succ]
  refine wpG_take (i := 14) (v := ?v14) rfl (by kernel_rfl) (by kernel_rfl) (by kernel_rfl) (by kernel_rfl) (fun _ _ _ h => h) (Or.inl ⟨by rfl, ?hy14⟩) hTT ?rest14
  case hy14 => intro wq hSw; have hq1 := fun i => hSw.cell i; go_simp <;> with_reducible rfl
  simp only [List.getElem_toArray, List.getElem_cons_zero, List.getElem_cons_succ, Act.put, List.setIfInBounds_toArray, List.set_cons_zero, List.set_cons_succ]
  refine wpG_take (i := 22) (v := ?v22) rfl (by kernel_rfl) (by kernel_rfl) (by kernel_rfl) (by kernel_rfl) (fun _ _ _ h => h) (Or.inl ⟨by rfl, ?hy22⟩) hTT ?rest22
  case hy22 => intro wq hSw; have hq1 := fun i => hSw.cell i; go_simp <;> with_reducible rfl
  simp only [List.getElem_toArray, List.getElem_cons_zero, List.getElem_cons_succ, Act.put, List.setIfInBounds_toArray, List.set_cons_zero, List.set_cons_succ]
  refine wpG_take (i := 23) (v := ?v23) rfl (by kernel_rfl) (by kernel_rfl) (by kernel_rfl) (by kernel_rfl) (fun _ _ _ h => h) (Or.inl ⟨by rfl, ?hy23⟩) hTT ?rest23
  case hy23 => intro wq hSw; have hq1 := fun i => hSw.cell i; go_simp <;> with_reducible rfl
  simp only [List.getElem_toArray, List.getElem_cons_zero, List.getElem_cons_succ, Act.put, List.setIfInBounds_toArray, List.set_cons_zero, List.set_cons_succ]
  have hc4 : (w1.alloc (.cells #[.int .u8 35] 5)).drew.cell? ⟨g, 4, none⟩ = some (.string row) := by
    have h := hown'.cellAt 4 (by omega)
    rw [List.getElem?_map, hz] at h
    exact h
  have hf4 : (w1.alloc (.cells #[.int .u8 35] 5)).frozen? ⟨g, 4, none⟩ = false := hown'.frozenAt 4
  refine wpG_one (i := 24) rfl (by kernel_rfl) (fun K hK => ?_)
  go_simp
  refine hK _ _ (.inl rfl) ?_
  clear hK K
  try simp only [List.getElem_toArray, List.getElem_cons_zero, List.getElem_cons_succ, Act.put, List.setIfInBounds_toArray, List.set_cons_zero, List.set_cons_succ]
  refine wpG_done (by kernel_rfl) ?_ _
  have kown := (hown'.stored 4 (.string (row.extract 0 4 ++ strOfNums [35] ++ row.extract 5 8))).1
  rw [show (rs.map Value.string).set 4 (.string (row.extract 0 4 ++ strOfNums [35] ++ row.extract 5 8)) = (rs.set 4 (seenRow row 35 4)).map Value.string by rw [List.map_set]; unfold seenRow; rw [hrz]] at kown
  have kB := hB.setCell (p := ⟨g, 4, none⟩) (show w.heap.size ≤ g by omega) (.string (row.extract 0 4 ++ strOfNums [35] ++ row.extract 5 8))
  clear hTT hc4 hf4 hqA hcg
  go_wp2
  go_ret
  exact ⟨_, rfl, kown, kB⟩
end
section
open Go.RowKit Go.Lib
/-- The sight of the chapter's example with one cell that is seen. -/
def dRows : List ByteArray := (List.replicate 8 blankRow).set 4 (seenRow blankRow 35 4)
set_option maxRecDepth 100000 in
set_option maxHeartbeats 400000 in
theorem D_fun (w : World) : Calls Tryz.prog 94 #[] w fun e w' => ∃ v, e = .returned v ∧ IsL w' v (dRows.map Value.string) ∧ Below w.heap.size w w' := by
  go_enter Tryz.func94, Tryz.ntmps94
  go_wp2_with (first
    | (go_at_call 93; refine (S_fun _).mono ?_; rintro e w1 ⟨rfl, hb1⟩)
    | (go_at_call 95; refine (N_fun _).mono ?_; rintro e w2 ⟨v2, rfl, own2, hb2⟩; obtain ⟨A2, c2, rfl⟩ := own_slice own2)
    | (go_at_call 82; refine (refSeen_36 A2 c2 (List.replicate 8 blankRow) blankRow _ rfl rfl (by have h := Rd.of_own own2; simpa using h)).mono ?_; rintro e w3 ⟨v3, rfl, own3, hb3⟩))
  go_ret
  obtain ⟨A3, c3, rfl⟩ := own_slice own3
  exact ⟨_, rfl, ⟨A3, 8, c3, rfl, own_le0 own3, own_cap own3, Rd.of_own own3⟩, (hb1.trans (hb2.mono hb1.size)).trans (hb3.mono (Nat.le_trans hb1.size hb2.size))⟩
set_option maxRecDepth 100000 in
theorem insist_ok (w : World) : Calls Tryz.prog 175 #[.bool true] w fun e w' => e = .returned (.tuple #[]) ∧ w = w' := by
  go_enter Tryz.func175, Tryz.ntmps175
  go_wp2
  exact ⟨rfl, .tuple #[], by simp [results, Tryz.results175, go_sem], rfl, rfl⟩
set_option maxRecDepth 100000 in
theorem word_stage (w : World) : Calls Tryz.prog 196 #[.int .i64 0] w fun e w' => e = .returned (.string ⟨#[115, 116, 97, 103, 101]⟩) ∧ w = w' := by
  have hix : ∀ w, (Instr.index 278 (.agg #[.string ⟨#[115, 116, 97, 103, 101]⟩, .string ⟨#[102, 105, 103, 117, 114, 101]⟩, .string ⟨#[101, 110, 100]⟩]) (.int .i64 0)).run Tryz.prog w = .ok (.string ⟨#[115, 116, 97, 103, 101]⟩) w := fun _ => by kernel_rfl
  go_enter Tryz.func196, Tryz.ntmps196
  go_wp2
  go_ret
  exact ⟨rfl, rfl⟩
set_option maxRecDepth 100000 in
theorem word_figure (w : World) : Calls Tryz.prog 196 #[.int .i64 1] w fun e w' => e = .returned (.string ⟨#[102, 105, 103, 117, 114, 101]⟩) ∧ w = w' := by
  have hix : ∀ w, (Instr.index 278 (.agg #[.string ⟨#[115, 116, 97, 103, 101]⟩, .string ⟨#[102, 105, 103, 117, 114, 101]⟩, .string ⟨#[101, 110, 100]⟩]) (.int .i64 1)).run Tryz.prog w = .ok (.string ⟨#[102, 105, 103, 117, 114, 101]⟩) w := fun _ => by kernel_rfl
  go_enter Tryz.func196, Tryz.ntmps196
  go_wp2
  go_ret
  exact ⟨rfl, rfl⟩
set_option maxRecDepth 100000 in
theorem word_end (w : World) : Calls Tryz.prog 196 #[.int .i64 2] w fun e w' => e = .returned (.string ⟨#[101, 110, 100]⟩) ∧ w = w' := by
  have hix : ∀ w, (Instr.index 278 (.agg #[.string ⟨#[115, 116, 97, 103, 101]⟩, .string ⟨#[102, 105, 103, 117, 114, 101]⟩, .string ⟨#[101, 110, 100]⟩]) (.int .i64 2)).run Tryz.prog w = .ok (.string ⟨#[101, 110, 100]⟩) w := fun _ => by kernel_rfl
  go_enter Tryz.func196, Tryz.ntmps196
  go_wp2
  go_ret
  exact ⟨rfl, rfl⟩
set_option maxRecDepth 100000 in
theorem endWords_70 (w : World) : Calls Tryz.prog 280 #[.agg #[.int .i64 70]] w fun e w' => ∃ v, e = .returned v ∧ w'.ownsRow w.heap.size 9 1 v 1 [.string ⟨#[48, 55, 48]⟩] ∧ Below w.heap.size w w' := by
  have hd : (decDigits 70).toArray = #[55, 48] := by simp [decDigits]
  go_enter Tryz.func280, Tryz.ntmps280
  go_wp2_with (first
    | (go_at_call 222; refine (Tryz.strconv_Itoa_small 70 (by omega) _).mono ?_; rintro e w1 ⟨rfl, rfl⟩; rw [hd])
    | (go_at_call 151; refine (Tryz.strings_Repeat_one _ _).mono ?_; rintro e w1 ⟨rfl, rfl⟩))
  go_ret
  have h9 : (⟨#[48]⟩ : ByteArray) ++ ⟨#[55, 48]⟩ = ⟨#[48, 55, 48]⟩ := by decide
  rw [h9]
  have h := World.ownsRow_lit (base := w.heap.size) (e := 9) (size := 1) (w.alloc (.cells #[.int .i64 70] 252)) #[.string ⟨#[48, 55, 48]⟩] 1 (by simp only [World.size_alloc]; omega) (by unfold maxLen; omega) rfl
  rw [World.size_alloc] at h
  exact ⟨_, rfl, h, ((Below.refl w.heap.size w).alloc (Nat.le_refl _) (.cells #[.int .i64 70] 252)).alloc (by simp only [World.size_alloc]; omega) (.cells #[.string ⟨#[48, 55, 48]⟩] 9)⟩
set_option maxRecDepth 100000 in
theorem kindOf_end (n : Int) (w : World) : Calls Tryz.prog 195 #[.iface 252 (.agg #[.int .i64 n])] w fun e w' => e = .returned (.int .i64 2) ∧ w = w' := by
  have h1 : ∀ w, (Instr.typeAssert (.iface 252 (.agg #[.int .i64 n])) 248 218 true).run Tryz.prog w = .ok (.tuple #[.agg #[.int .i64 0, .int .i64 0, .int .i64 0, .int .i64 0, .int .i64 0, .int .i64 0], .bool false]) w := fun _ => by kernel_rfl
  obtain ⟨z, hz⟩ : ∃ z, z = ((Tryz.prog.info? 220).bind (·.zero)).getD (.int .i64 0) := ⟨_, rfl⟩
  have h2 : ∀ w, (Instr.typeAssert (.iface 252 (.agg #[.int .i64 n])) 248 220 true).run Tryz.prog w = .ok (.tuple #[z, .bool false]) w := fun _ => by rw [hz]; kernel_rfl
  have HZ := Lib.hid hz; clear hz
  go_enter Tryz.func195, Tryz.ntmps195
  go_wp2
  go_ret
  exact ⟨rfl, rfl⟩
set_option maxRecDepth 100000 in
theorem linesOf_ok (s : ByteArray) (m : Int) (w : World) (hs : s.size ≤ 1000) (hm : w.cell? ⟨0, 0, none⟩ = some (.int .i64 m)) (hend : Lib.hasSuffix s.data.toList [10] = true) (htz : ByteArray.size ⟨(Lib.trimSuffix s.data.toList [10]).toArray⟩ ≤ 1000) :
    Calls Tryz.prog 174 #[.string s] w fun e w' => e = .returned (.slice (some ⟨w.heap.size, 0, none⟩) (Lib.countB ⟨(Lib.trimSuffix s.data.toList [10]).toArray⟩ ⟨#[10]⟩ + 1) (Lib.countB ⟨(Lib.trimSuffix s.data.toList [10]).toArray⟩ ⟨#[10]⟩ + 1)) ∧ w' = w.alloc (.cells ((Lib.splitB ⟨#[10]⟩ 0 (Lib.countB ⟨(Lib.trimSuffix s.data.toList [10]).toArray⟩ ⟨#[10]⟩) ⟨(Lib.trimSuffix s.data.toList [10]).toArray⟩).map Value.string).toArray 9) := by
  go_enter Tryz.func174, Tryz.ntmps174
  go_wp2_with (first
    | (go_at_call 198; refine (Tryz.strings_CutSuffix s ⟨#[10]⟩ _ (by omega)).mono ?_; rintro e w1 ⟨rfl, rfl⟩; rw [hend])
    | (go_at_call 175; refine (insist_ok _).mono ?_; rintro e w1 ⟨rfl, rfl⟩)
    | (go_at_call 199; refine (Tryz.strings_Split ⟨(Lib.trimSuffix s.data.toList [10]).toArray⟩ ⟨#[10]⟩ m _ (by omega) hm (by decide)).mono ?_; rintro e w1 ⟨rfl, rfl⟩))
  go_ret
  exact ⟨rfl, rfl⟩
set_option maxRecDepth 100000 in
theorem writeEnd_70 (w : World) : Calls Tryz.prog 171 #[.iface 252 (.agg #[.int .i64 70])] w fun e w' => e = .returned (.string ⟨#[101, 110, 100, 32, 48, 55, 48]⟩) ∧ Below w.heap.size w w' := by
  have hm : ∀ w, (method 425 252 (.agg #[.int .i64 70]) "kelir/outline.words").run Tryz.prog w = .ok (280, .agg #[.int .i64 70]) w := fun _ => by kernel_rfl
  go_enter Tryz.func171, Tryz.ntmps171
  go_wp2_with (first
    | (go_at_call 195; refine (kindOf_end 70 _).mono ?_; rintro e w1 ⟨rfl, rfl⟩)
    | (go_at_call 196; refine (word_end _).mono ?_; rintro e w1 ⟨rfl, rfl⟩)
    | (go_at_call 280; refine (endWords_70 _).mono ?_; rintro e w1 ⟨v1, rfl, own1, hb1⟩; obtain ⟨g, c1, rfl, hg1, hg2⟩ := own1.form (Nat.succ_pos _))
    | (go_at_call 161; refine (Tryz.strings_Join g 0 c1 [⟨#[48, 55, 48]⟩] ⟨#[32]⟩ _ (fun j x hj => by rw [Nat.zero_add]; obtain rfl : j = 0 := (by by_cases h : j = 0; exact h; exfalso; rw [List.getElem?_eq_none (by simp only [List.length_cons, List.length_nil]; omega)] at hj; cases hj); cases hj; rw [own1.cellAt 0 (by omega)]; rfl) hg2 (by simp) (by exact own_le0 own1) (by decide)).mono ?_; rintro e w2 ⟨rfl, hb2⟩))
  go_ret
  refine ⟨?_, hb1.trans (hb2.mono hb1.size)⟩
  have h9 : (⟨#[101, 110, 100]⟩ ++ ⟨#[32]⟩ ++ ⟨(join [[48, 55, 48]] [32]).toArray⟩ : ByteArray) = ⟨#[101, 110, 100, 32, 48, 55, 48]⟩ := by decide
  simp only [Array.getD, Act.tmps] at *
  rw [← h9]; rfl
set_option maxRecDepth 100000 in
theorem endOf_70 (A : Option Addr) (n cap : Nat) (rs : List ByteArray) (w : World) (hn : n ≤ 100000) (hs : ∀ r ∈ rs, r.size ≤ 100000) (hr : Rd w w.heap.size 1 A n (rs.map Value.string)) (h70 : sumA rs 0 0 = 12699) :
    Calls Tryz.prog 172 #[.slice A n cap] w fun e w' => e = .returned (.string ⟨#[101, 110, 100, 32, 48, 55, 48]⟩) ∧ Below w.heap.size w w' := by
  go_enter Tryz.func172, Tryz.ntmps172
  go_wp2_with (first
    | (go_at_call 197; refine (sum_any A n cap rs _ hn hs hr).mono ?_; rintro e w1 ⟨rfl, rfl⟩; rw [h70])
    | (go_at_call 171; refine (writeEnd_70 _).mono ?_; rintro e w1 ⟨rfl, hb1⟩))
  go_ret
  exact ⟨rfl, hb1⟩
end
end Go.Proofs.YtifddfchpknkbaaGreatDoor
