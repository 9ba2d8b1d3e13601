import Derived.Test.YtifddfchpknkbaaGreatDoorV1
set_option linter.unusedVariables false
set_option linter.unusedSimpArgs false
namespace Go.Proofs.YtifddfchpknkbaaGreatDoor
open Go.RowKit Go.Lib

def dS (a : Nat) : ByteArray := ⟨(decDigits a).toArray⟩
def jnS (xs : List ByteArray) (sep : ByteArray) : ByteArray := ⟨(join (xs.map (·.data.toList)) sep.data.toList).toArray⟩
theorem joinTail_len (sep : List UInt8) (M : Nat) : ∀ r : List (List UInt8), (∀ x ∈ r, x.length ≤ M) → (joinTail sep r).length ≤ r.length * (M + sep.length)
  | [], _ => by simp [joinTail]
  | x :: r, h => by
    have ih := joinTail_len sep M r (fun y hy => h y (by simp [hy]))
    have hx := h x (by simp)
    have e : joinTail sep (x :: r) = sep ++ x ++ joinTail sep r := by simp [joinTail]
    rw [e, List.length_append, List.length_append, List.length_cons, Nat.add_mul]
    omega
theorem join_len (sep : List UInt8) (M : Nat) (r : List (List UInt8)) (h : ∀ x ∈ r, x.length ≤ M) : (join r sep).length ≤ r.length * (M + sep.length) := by
  cases r with
  | nil => simp [join_nil]
  | cons x r =>
    rw [join_cons, List.length_append, List.length_cons, Nat.add_mul]
    have h1 := joinTail_len sep M r (fun y hy => h y (by simp [hy]))
    have h2 := h x (by simp)
    omega
theorem size_list (b : ByteArray) : b.data.toList.length = b.size := by cases b; rfl
theorem jnS_size (xs : List ByteArray) (sep : ByteArray) (M : Nat) (h : ∀ x ∈ xs, x.size ≤ M) : (jnS xs sep).size ≤ xs.length * (M + sep.size) := by
  have h1 := join_len sep.data.toList M (xs.map (·.data.toList)) (fun y hy => by obtain ⟨x, hx, rfl⟩ := List.mem_map.1 hy; rw [size_list]; exact h x hx)
  rw [List.length_map, size_list] at h1
  show (List.toArray (join (xs.map (·.data.toList)) sep.data.toList)).size ≤ _
  rw [List.size_toArray]
  exact h1
theorem jn_any (A : Option Addr) (n cap : Nat) (xs : List ByteArray) (sep : ByteArray) (w : World) (hn : 1 ≤ n) (hn2 : n ≤ 1000) (hcap : n ≤ cap) (hs : ∀ x ∈ xs, x.size ≤ 100000) (hsep : sep.size ≤ 10) (hr : Rd w w.heap.size 1 A n (xs.map Value.string)) :
    Calls Tryz.prog 161 #[.slice A n cap, .string sep] w fun e w' => e = .returned (.string (jnS xs sep)) ∧ Below w.heap.size w w' := by
  have hlen := hr.1
  rw [List.length_map, Nat.mul_one] at hlen
  obtain ⟨b, off, rfl, hb, hc⟩ := hr.2 (by omega)
  subst hlen
  refine Tryz.strings_Join b off cap xs sep w (fun j x hj => hc j _ (by rw [List.getElem?_map, hj]; rfl)) hb (by omega) hcap ?_
  have h1 := join_len sep.data.toList 100000 (xs.map (·.data.toList)) (fun y hy => by obtain ⟨x, hx, rfl⟩ := List.mem_map.1 hy; rw [size_list]; exact hs x hx)
  rw [List.length_map, size_list] at h1
  have h2 : xs.length * (100000 + sep.size) ≤ 1000 * 100010 := Nat.mul_le_mul hn2 (by omega)
  omega
theorem info9' : (Tryz.prog.info? 9).map (fun i => (i.zero, i.size, i.bytes)) = some (some (.string ByteArray.empty), 1, 16) := by kernel_rfl
set_option maxRecDepth 100000 in
set_option maxHeartbeats 1600000 in
theorem stageWords_any (a0 a1 a2 a3 a4 a5 : Nat) (ha : ∀ a ∈ [a0, a1, a2, a3, a4, a5], a < 1000000) (m : Int) (w : World) (h : Env m w) :
    Calls Tryz.prog 277 #[.agg #[.int .i64 a0, .int .i64 a1, .int .i64 a2, .int .i64 a3, .int .i64 a4, .int .i64 a5]] w fun e w' => ∃ v, e = .returned v ∧ w'.ownsRow w.heap.size 9 1 v 6 (([a0, a1, a2, a3, a4, a5].map dS).map Value.string) ∧ Below w.heap.size w w' := by
  obtain ⟨i9, hi, hz0, hz1', hz2'⟩ := info_parts info9'
  have hB := (Below.refl w.heap.size w).alloc (Nat.le_refl _) (.cells #[.int .i64 a0, .int .i64 a1, .int .i64 a2, .int .i64 a3, .int .i64 a4, .int .i64 a5] 218)
  have hS := Blk.new w 218 #[.int .i64 a0, .int .i64 a1, .int .i64 a2, .int .i64 a3, .int .i64 a4, .int .i64 a5]
  have hix : ∀ (k : Nat) (hk : k < 6) w, (Instr.index 256 (.agg #[.int .i64 a0, .int .i64 a1, .int .i64 a2, .int .i64 a3, .int .i64 a4, .int .i64 a5]) (.int .i64 k)).run Tryz.prog w = .ok (.int .i64 ([a0, a1, a2, a3, a4, a5][k]'hk : Nat)) w := fun k hk w => by
    rcases (show k = 0 ∨ k = 1 ∨ k = 2 ∨ k = 3 ∨ k = 4 ∨ k = 5 by omega) with rfl | rfl | rfl | rfl | rfl | rfl
    all_goals kernel_rfl
  have HIX := Lib.hid hix; have HA := Lib.hid ha; clear hix ha
  obtain ⟨lz, has⟩ : ∃ lz, lz = [a0, a1, a2, a3, a4, a5] := ⟨_, rfl⟩
  have hal : lz.length = 6 := by rw [has]; rfl
  have HAL := Lib.hid hal; have HAS := Lib.hid has; clear hal
  rw [← has]
  clear has
  go_enter Tryz.func277, Tryz.ntmps277
  go_upto_region 1 with (fail)
  generalize w.alloc (.cells #[.int .i64 a0, .int .i64 a1, .int .i64 a2, .int .i64 a3, .int .i64 a4, .int .i64 a5] 218) = W0 at *
  have qS := fun i => Blk.cell hS i
  go_wp2_with (fail)
  clear qS hS
  go_loopg [3, 25] 6 (fun g v i wr => ∃ (k : Nat) (v0 : Value), g = 6 - k ∧ k ≤ 6 ∧ v = v0 ∧ i = .int .i64 k ∧ wr.ownsRow w.heap.size 9 1 v0 k (((lz.take k).map dS).map Value.string) ∧ Below w.heap.size w wr)
  case atStart => exact ⟨0, _, rfl, by omega, rfl, rfl, World.ownsRow_nil _ _ _ _, hB⟩
  case round =>
    clear hB
    obtain ⟨k, v0, hg, hk, rfl, rfl, hown, hB⟩ := hrel
    obtain ⟨va, vc, rfl⟩ := own_slice hown
    have HG := Lib.hid hg; clear hg
    rename World => W1
    by_cases hlt : k < 6
    · have hlti : (k : Int) < 6 := by omega
      have hzk : k < lz.length := by rw [HAL.out]; exact hlt
      have hx := HIX.out k hlt
      have hax := HA.out lz[k] (by have := HAS.out; subst this; exact List.getElem_mem hzk)
      have hts : (lz.take (k + 1)).map dS = (lz.take k).map dS ++ [dS lz[k]] := by rw [List.take_succ_eq_append_getElem hzk, List.map_append]; rfl
      have hxe : ∀ w, (Instr.index 256 (.agg #[.int .i64 a0, .int .i64 a1, .int .i64 a2, .int .i64 a3, .int .i64 a4, .int .i64 a5]) (.int .i64 k)).run Tryz.prog w = .ok (.int .i64 (lz[k] : Nat)) w := fun w => by
        rw [hx w]; have := HAS.out; subst this; rfl
      clear hx
      generalize lz[k] = a at *
      obtain ⟨ys, hys⟩ : ∃ ys, ys = ((lz.take k).map dS).map Value.string := ⟨_, rfl⟩
      rw [← hys] at hown
      have HTS := Lib.hid hts; have HYS := Lib.hid hys; clear hts hys
      have hE := h.below hB
      go_wp2_with (first
        | (go_at_call 222; refine (itoa_any a hax m _ hE).mono ?_; rintro e w1 ⟨rfl, hb⟩; replace hown := ownsRow_below' hown hb; replace hB := hB.trans (hb.mono hB.size); clear hb hE)
        | (at_builtin; refine wpList_append_any _ rfl _ _ 24 rfl w.heap.size 9 i9 (.string ByteArray.empty) 1 16 Tryz.underlying24 hi hz0 hz1' hz2' rfl (by decide) (.slice va k vc) k ys rfl (hown.alloc _) (w1.heap.size + 1) (some ⟨w1.heap.size, 0, none⟩) 1 1 [.string (dS a)] rfl (Rd.blkN (Blk.new w1 9 #[.string (dS a)]) rfl (Nat.lt_succ_self _)).reads (by simp [Value.oneCell']) (by unfold maxLen; omega) (by omega) (by have := hB.size; simp only [World.size_alloc]; omega) (fun v' w' hown' hgrow hob => ?_))
        | go_in)
      have hB2 := (hB.alloc hB.size (.cells #[.string (dS a)] 9)).grown hgrow (by have := hB.size; simp only [World.size_alloc]; omega) (fun g hg => ((hown.alloc (.cells #[.string (dS a)] 9)).lt g hg).1)
      go_roundg (6 - (k + 1))
      case measure => rw [HG.out]; omega
      case rel => exact ⟨k + 1, _, rfl, by omega, rfl, by go_num, by rw [HTS.out, List.map_append, ← HYS.out]; exact hown', hB2⟩
    · obtain rfl : k = 6 := by omega
      have htk : lz.take 6 = lz := List.take_of_length_le (by have := HAL.out; omega)
      rw [htk] at hown
      clear htk
      go_wp2_with (fail)
      go_ret
      exact ⟨_, rfl, hown, hB⟩
set_option maxRecDepth 100000 in
theorem figureWords_any (A : Option Addr) (n cap : Nat) (rows : List ByteArray) (w : World) (hn : 1 ≤ n) (hn2 : n ≤ 100000) (hr : Rd w w.heap.size 1 A n (rows.map Value.string)) :
    Calls Tryz.prog 278 #[.agg #[.slice A n cap]] w fun e w' => ∃ v, e = .returned v ∧ w'.ownsRow w.heap.size 9 1 v n (rows.map Value.string) ∧ Below w.heap.size w w' := by
  have hlen := hr.1
  rw [List.length_map, Nat.mul_one] at hlen
  have hB := (Below.refl w.heap.size w).alloc (Nat.le_refl _) (.cells #[.slice A n cap] 220)
  have hS := Blk.new w 220 #[.slice A n cap]
  obtain ⟨b, off, rfl, hb, hc⟩ := ((hr.below hB).more hB.size).2 (by omega)
  have HL := Lib.hid hlen; clear hlen
  have hcz : ∀ j, j < rows.length → (w.alloc (.cells #[.slice (some ⟨b, off, none⟩) n cap] 220)).cell? ⟨b, off + j, none⟩ = some (.string (rows.getD j ByteArray.empty)) := fun j hj => hc j _ (by simp [List.getD, hj])
  clear hc
  go_enter Tryz.func278, Tryz.ntmps278
  go_upto_region 1 with (fail)
  generalize w.alloc (.cells #[.slice (some ⟨b, off, none⟩) n cap] 220) = W0 at *
  have qS := fun i => Blk.cell hS i
  go_wp2_with (go_at_call 202; refine (Tryz.slices_Clone_string b off n cap rows _ (by rw [HL.out]; exact Nat.le_refl _) (by omega) hcz).mono ?_; rintro e w1 ⟨v, rfl, own, _, hb1⟩; rw [List.take_of_length_le (by rw [HL.out]; exact Nat.le_refl _)] at own; replace own := own_mono own hB.size; replace hB := hB.trans (hb1.mono hB.size))
  go_ret
  exact ⟨_, rfl, own, hB⟩
end Go.Proofs.YtifddfchpknkbaaGreatDoor
