import Derived.Test.YtifddfchpknkbaaGreatDoorProg
import Derived.Test.YtifddfchpknkbaaGreatDoorBk0
import Derived.Test.YtifddfchpknkbaaGreatDoorBk11
import Derived.Lib.LaidTab
import Derived.Lib.SplitLaws
set_option linter.unusedVariables false
set_option linter.unusedSimpArgs false
namespace Go.Proofs.YtifddfchpknkbaaGreatDoor
section
open Go.RowKit Go.Lib
/-- What a text asks of the world: the one variable left open is an int, and the table of powers is laid. -/
def Env (m : Int) (w : World) : Prop := w.cell? ⟨0, 0, none⟩ = some (.int .i64 m) ∧ TabIs Tryz.prog w "internal/strconv.uint64pow10" .u64 pow10Tab
theorem var_below {P : Program} {w w' : World} {name : String} {xs : Array Value} (h : w.var? P name = some xs) (hb : Below w.heap.size w w') : w'.var? P name = some xs := by
  unfold World.var? at h ⊢
  cases hg : P.globalNamed name with
  | none => rw [hg] at h; cases h
  | some g =>
    rw [hg] at h
    simp only [Option.bind_some] at h ⊢
    have hlt : g < w.heap.size := by
      rcases Nat.lt_or_ge g w.heap.size with h1 | h1
      · exact h1
      · rw [Array.getElem?_eq_none h1] at h; cases h
    rw [hb.block g hlt]
    exact h
theorem Env.below {m : Int} {w w' : World} (h : Env m w) (hb : Below w.heap.size w w') : Env m w' :=
  ⟨(hb.cell (p := ⟨0, 0, none⟩) (block_lt_of_cell h.1)).trans h.1, var_below h.2 hb⟩
theorem below_ahead (w : World) (k : Nat) (os : Array Obj) : Below w.heap.size w (Sort.grow (w.drewN k) os) :=
  ⟨rfl, rfl, rfl, by simp [Sort.grow, World.drewN], fun k hk => by simp only [Sort.grow, World.drewN]; exact Array.getElem?_append_left hk⟩
theorem itoa_any (n : Nat) (hn : n < 1000000) (m : Int) (w : World) (h : Env m w) : Calls Tryz.prog 222 #[.int .i64 n] w fun e w' => e = .returned (.string ⟨(decDigits n).toArray⟩) ∧ Below w.heap.size w w' := by
  refine (Tryz.strconv_Itoa n (by omega) (by omega) w h.2).mono ?_
  rintro e w' ⟨rfl, k, os, rfl⟩
  exact ⟨by rw [itoa_nonneg], below_ahead _ _ _⟩
/-- A check, in three digits. -/
def dgt (v : Nat) : UInt8 := UInt8.ofNat (48 + v)
def dgt3 (v : Nat) : ByteArray := ⟨#[dgt (v / 100), dgt (v / 10 % 10), dgt (v % 10)]⟩
theorem dec_three {i : Nat} (h1 : 100 ≤ i) (h2 : i < 1000) : decDigits i = [UInt8.ofNat (48 + i / 100), UInt8.ofNat (48 + i / 10 % 10), UInt8.ofNat (48 + i % 10)] := by
  rw [decDigits, dif_neg (by omega), decDigits_two (by omega) (by omega)]
  have e1 : i / 10 / 10 = i / 100 := by omega
  rw [e1]
  rfl
theorem ba_cons {a b : Array UInt8} : (⟨a⟩ : ByteArray) ++ ⟨b⟩ = ⟨a ++ b⟩ := by apply ByteArray.ext; simp
set_option maxRecDepth 100000 in
set_option maxHeartbeats 1600000 in
theorem endWords_any (n : Nat) (hn : n < 1000) (m : Int) (w : World) (h : Env m w) : Calls Tryz.prog 280 #[.agg #[.int .i64 n]] w fun e w' => ∃ v, e = .returned v ∧ w'.ownsRow w.heap.size 9 1 v 1 [.string (dgt3 n)] ∧ Below w.heap.size w w' := by
  have hB0 := (Below.refl w.heap.size w).alloc (Nat.le_refl _) (.cells #[.int .i64 n] 252)
  have hS := Blk.new w 252 #[.int .i64 n]
  have hI := fun wx hx => itoa_any n (by omega) m wx hx
  have hE := h.below hB0
  have fin : ∀ (w1 : World) (r : ByteArray), r = dgt3 n → Below w.heap.size w w1 → ∃ v, Ending.returned (Value.slice (some ⟨w1.heap.size, 0, none⟩) 1 1) = .returned v ∧ (w1.alloc (.cells #[.string r] 9)).ownsRow w.heap.size 9 1 v 1 [.string (dgt3 n)] ∧ Below w.heap.size w (w1.alloc (.cells #[.string r] 9)) := fun w1 r hr hb => by
    subst hr
    have h := World.ownsRow_lit (base := w.heap.size) (e := 9) (size := 1) w1 #[.string (dgt3 n)] 1 hb.size (by unfold maxLen; omega) rfl
    exact ⟨_, rfl, h, hb.alloc hb.size _⟩
  rcases (show n < 10 ∨ (¬ n < 10 ∧ n < 100) ∨ 100 ≤ n by omega) with h1 | ⟨h1, h2⟩ | h1
  · have hd : (decDigits n).toArray = #[dgt n] := by rw [decDigits_one h1]; rfl
    have hr : (⟨(repeatL [48] 2).toArray⟩ : ByteArray) ++ ⟨#[dgt n]⟩ = dgt3 n := by
      rw [ba_cons]; unfold dgt3
      rw [show n / 100 = 0 by omega, show n / 10 % 10 = 0 by omega, show n % 10 = n by omega]; rfl
    rw [hd] at hI
    have hsz : ByteArray.size ⟨#[dgt n]⟩ = 1 := rfl
    have HI := Lib.hid hI; have HF := Lib.hid fin; have HR := Lib.hid hr; clear hI fin hr hd
    go_enter Tryz.func280, Tryz.ntmps280
    go_upto_region 1 with (fail)
    generalize w.alloc (.cells #[.int .i64 n] 252) = W0 at *
    have qS := fun i => Blk.cell hS i
    go_wp2_with (first
      | (go_at_call 222; refine (HI.out _ hE).mono ?_; rintro e w1 ⟨rfl, hb⟩; replace hB0 := hB0.trans (hb.mono hB0.size))
      | (go_at_call 151; refine (Tryz.strings_Repeat ⟨#[48]⟩ 2 _ (by omega) (by decide)).mono ?_; rintro e w2 ⟨rfl, hb2⟩; replace hB0 := hB0.trans (hb2.mono hB0.size)))
    go_ret
    exact HF.out _ _ HR.out hB0
  · have hd : (decDigits n).toArray = #[dgt (n / 10), dgt (n % 10)] := by rw [decDigits_two h1 h2]; rfl
    have hr : (⟨#[48]⟩ : ByteArray) ++ ⟨#[dgt (n / 10), dgt (n % 10)]⟩ = dgt3 n := by
      rw [ba_cons]; unfold dgt3
      rw [show n / 100 = 0 by omega, show n / 10 % 10 = n / 10 by omega]; rfl
    rw [hd] at hI
    have hsz : ByteArray.size ⟨#[dgt (n / 10), dgt (n % 10)]⟩ = 2 := rfl
    have HI := Lib.hid hI; have HF := Lib.hid fin; have HR := Lib.hid hr; clear hI fin hr hd
    go_enter Tryz.func280, Tryz.ntmps280
    go_upto_region 1 with (fail)
    generalize w.alloc (.cells #[.int .i64 n] 252) = W0 at *
    have qS := fun i => Blk.cell hS i
    go_wp2_with (first
      | (go_at_call 222; refine (HI.out _ hE).mono ?_; rintro e w1 ⟨rfl, hb⟩; replace hB0 := hB0.trans (hb.mono hB0.size))
      | (go_at_call 151; refine (Tryz.strings_Repeat_one ⟨#[48]⟩ _).mono ?_; rintro e w2 ⟨rfl, rfl⟩))
    go_ret
    exact HF.out _ _ HR.out hB0
  · have hd : (decDigits n).toArray = #[dgt (n / 100), dgt (n / 10 % 10), dgt (n % 10)] := by rw [dec_three h1 hn]; rfl
    have hr : (⟨(repeatL [48] 0).toArray⟩ : ByteArray) ++ ⟨#[dgt (n / 100), dgt (n / 10 % 10), dgt (n % 10)]⟩ = dgt3 n := by
      rw [ba_cons]; rfl
    rw [hd] at hI
    have hsz : ByteArray.size ⟨#[dgt (n / 100), dgt (n / 10 % 10), dgt (n % 10)]⟩ = 3 := rfl
    have HI := Lib.hid hI; have HF := Lib.hid fin; have HR := Lib.hid hr; clear hI fin hr hd
    go_enter Tryz.func280, Tryz.ntmps280
    go_upto_region 1 with (fail)
    generalize w.alloc (.cells #[.int .i64 n] 252) = W0 at *
    have qS := fun i => Blk.cell hS i
    go_wp2_with (first
      | (go_at_call 222; refine (HI.out _ hE).mono ?_; rintro e w1 ⟨rfl, hb⟩; replace hB0 := hB0.trans (hb.mono hB0.size))
      | (go_at_call 151; refine (Tryz.strings_Repeat ⟨#[48]⟩ 0 _ (by omega) (by decide)).mono ?_; rintro e w2 ⟨rfl, hb2⟩; replace hB0 := hB0.trans (hb2.mono hB0.size)))
    go_ret
    exact HF.out _ _ HR.out hB0
end
section
open Go.RowKit Go.Lib
def dS (a : Nat) : ByteArray := ⟨(decDigits a).toArray⟩
def jnS (xs : List ByteArray) (sep : ByteArray) : ByteArray := ⟨(join (xs.map (·.data.toList)) sep.data.toList).toArray⟩
theorem joinTail_len (sep : List UInt8) (M : Nat) : ∀ r : List (List UInt8), (∀ x ∈ r, x.length ≤ M) → (joinTail sep r).length ≤ r.length * (M + sep.length)
  | [], _ => by simp [joinTail]
  | x :: r, h => by
    have ih := joinTail_len sep M r (fun y hy => h y (by simp [hy]))
    have hx := h x (by simp)
    have e : joinTail sep (x :: r) = sep ++ x ++ joinTail sep r := by simp [joinTail]
    rw [e, List.length_append, List.length_append, List.length_cons, Nat.add_mul]
    omega
theorem join_len (sep : List UInt8) (M : Nat) (r : List (List UInt8)) (h : ∀ x ∈ r, x.length ≤ M) : (join r sep).length ≤ r.length * (M + sep.length) := by
  cases r with
  | nil => simp [join_nil]
  | cons x r =>
    rw [join_cons, List.length_append, List.length_cons, Nat.add_mul]
    have h1 := joinTail_len sep M r (fun y hy => h y (by simp [hy]))
    have h2 := h x (by simp)
    omega
theorem size_list (b : ByteArray) : b.data.toList.length = b.size := by cases b; rfl
theorem jnS_size (xs : List ByteArray) (sep : ByteArray) (M : Nat) (h : ∀ x ∈ xs, x.size ≤ M) : (jnS xs sep).size ≤ xs.length * (M + sep.size) := by
  have h1 := join_len sep.data.toList M (xs.map (·.data.toList)) (fun y hy => by obtain ⟨x, hx, rfl⟩ := List.mem_map.1 hy; rw [size_list]; exact h x hx)
  rw [List.length_map, size_list] at h1
  show (List.toArray (join (xs.map (·.data.toList)) sep.data.toList)).size ≤ _
  rw [List.size_toArray]
  exact h1
theorem jn_any (A : Option Addr) (n cap : Nat) (xs : List ByteArray) (sep : ByteArray) (w : World) (hn : 1 ≤ n) (hn2 : n ≤ 1000) (hcap : n ≤ cap) (hs : ∀ x ∈ xs, x.size ≤ 100000) (hsep : sep.size ≤ 10) (hr : Rd w w.heap.size 1 A n (xs.map Value.string)) :
    Calls Tryz.prog 161 #[.slice A n cap, .string sep] w fun e w' => e = .returned (.string (jnS xs sep)) ∧ Below w.heap.size w w' := by
  have hlen := hr.1
  rw [List.length_map, Nat.mul_one] at hlen
  obtain ⟨b, off, rfl, hb, hc⟩ := hr.2 (by omega)
  subst hlen
  refine Tryz.strings_Join b off cap xs sep w (fun j x hj => hc j _ (by rw [List.getElem?_map, hj]; rfl)) hb (by omega) hcap ?_
  have h1 := join_len sep.data.toList 100000 (xs.map (·.data.toList)) (fun y hy => by obtain ⟨x, hx, rfl⟩ := List.mem_map.1 hy; rw [size_list]; exact hs x hx)
  rw [List.length_map, size_list] at h1
  have h2 : xs.length * (100000 + sep.size) ≤ 1000 * 100010 := Nat.mul_le_mul hn2 (by omega)
  omega
theorem info9' : (Tryz.prog.info? 9).map (fun i => (i.zero, i.size, i.bytes)) = some (some (.string ByteArray.empty), 1, 16) := by kernel_rfl
set_option maxRecDepth 100000 in
set_option maxHeartbeats 1600000 in
theorem stageWords_any (a0 a1 a2 a3 a4 a5 : Nat) (ha : ∀ a ∈ [a0, a1, a2, a3, a4, a5], a < 1000000) (m : Int) (w : World) (h : Env m w) :
    Calls Tryz.prog 277 #[.agg #[.int .i64 a0, .int .i64 a1, .int .i64 a2, .int .i64 a3, .int .i64 a4, .int .i64 a5]] w fun e w' => ∃ v, e = .returned v ∧ w'.ownsRow w.heap.size 9 1 v 6 (([a0, a1, a2, a3, a4, a5].map dS).map Value.string) ∧ Below w.heap.size w w' := by
  obtain ⟨i9, hi, hz0, hz1', hz2'⟩ := info_parts info9'
  have hB := (Below.refl w.heap.size w).alloc (Nat.le_refl _) (.cells #[.int .i64 a0, .int .i64 a1, .int .i64 a2, .int .i64 a3, .int .i64 a4, .int .i64 a5] 218)
  have hS := Blk.new w 218 #[.int .i64 a0, .int .i64 a1, .int .i64 a2, .int .i64 a3, .int .i64 a4, .int .i64 a5]
  have hix : ∀ (k : Nat) (hk : k < 6) w, (Instr.index 256 (.agg #[.int .i64 a0, .int .i64 a1, .int .i64 a2, .int .i64 a3, .int .i64 a4, .int .i64 a5]) (.int .i64 k)).run Tryz.prog w = .ok (.int .i64 ([a0, a1, a2, a3, a4, a5][k]'hk : Nat)) w := fun k hk w => by
    rcases (show k = 0 ∨ k = 1 ∨ k = 2 ∨ k = 3 ∨ k = 4 ∨ k = 5 by omega) with rfl | rfl | rfl | rfl | rfl | rfl
    all_goals kernel_rfl
  have HIX := Lib.hid hix; have HA := Lib.hid ha; clear hix ha
  obtain ⟨lz, has⟩ : ∃ lz, lz = [a0, a1, a2, a3, a4, a5] := ⟨_, rfl⟩
  have hal : lz.length = 6 := by rw [has]; rfl
  have HAL := Lib.hid hal; have HAS := Lib.hid has; clear hal
  rw [← has]
  clear has
  go_enter Tryz.func277, Tryz.ntmps277
  go_upto_region 1 with (fail)
  generalize w.alloc (.cells #[.int .i64 a0, .int .i64 a1, .int .i64 a2, .int .i64 a3, .int .i64 a4, .int .i64 a5] 218) = W0 at *
  have qS := fun i => Blk.cell hS i
  go_wp2_with (fail)
  clear qS hS
  go_loopg [3, 25] 6 (fun g v i wr => ∃ (k : Nat) (v0 : Value), g = 6 - k ∧ k ≤ 6 ∧ v = v0 ∧ i = .int .i64 k ∧ wr.ownsRow w.heap.size 9 1 v0 k (((lz.take k).map dS).map Value.string) ∧ Below w.heap.size w wr)
  case atStart => exact ⟨0, _, rfl, by omega, rfl, rfl, World.ownsRow_nil _ _ _ _, hB⟩
  case round =>
    clear hB
    obtain ⟨k, v0, hg, hk, rfl, rfl, hown, hB⟩ := hrel
    obtain ⟨va, vc, rfl⟩ := own_slice hown
    have HG := Lib.hid hg; clear hg
    rename World => W1
    by_cases hlt : k < 6
    · have hlti : (k : Int) < 6 := by omega
      have hzk : k < lz.length := by rw [HAL.out]; exact hlt
      have hx := HIX.out k hlt
      have hax := HA.out lz[k] (by have := HAS.out; subst this; exact List.getElem_mem hzk)
      have hts : (lz.take (k + 1)).map dS = (lz.take k).map dS ++ [dS lz[k]] := by rw [List.take_succ_eq_append_getElem hzk, List.map_append]; rfl
      have hxe : ∀ w, (Instr.index 256 (.agg #[.int .i64 a0, .int .i64 a1, .int .i64 a2, .int .i64 a3, .int .i64 a4, .int .i64 a5]) (.int .i64 k)).run Tryz.prog w = .ok (.int .i64 (lz[k] : Nat)) w := fun w => by
        rw [hx w]; have := HAS.out; subst this; rfl
      clear hx
      generalize lz[k] = a at *
      obtain ⟨ys, hys⟩ : ∃ ys, ys = ((lz.take k).map dS).map Value.string := ⟨_, rfl⟩
      rw [← hys] at hown
      have HTS := Lib.hid hts; have HYS := Lib.hid hys; clear hts hys
      have hE := h.below hB
      go_wp2_with (first
        | (go_at_call 222; refine (itoa_any a hax m _ hE).mono ?_; rintro e w1 ⟨rfl, hb⟩; replace hown := ownsRow_below' hown hb; replace hB := hB.trans (hb.mono hB.size); clear hb hE)
        | (at_builtin; refine wpList_append_any _ rfl _ _ 24 rfl w.heap.size 9 i9 (.string ByteArray.empty) 1 16 Tryz.underlying24 hi hz0 hz1' hz2' rfl (by decide) (.slice va k vc) k ys rfl (hown.alloc _) (w1.heap.size + 1) (some ⟨w1.heap.size, 0, none⟩) 1 1 [.string (dS a)] rfl (Rd.blkN (Blk.new w1 9 #[.string (dS a)]) rfl (Nat.lt_succ_self _)).reads (by simp [Value.oneCell']) (by unfold maxLen; omega) (by omega) (by have := hB.size; simp only [World.size_alloc]; omega) (fun v' w' hown' hgrow hob => ?_))
        | go_in)
      have hB2 := (hB.alloc hB.size (.cells #[.string (dS a)] 9)).grown hgrow (by have := hB.size; simp only [World.size_alloc]; omega) (fun g hg => ((hown.alloc (.cells #[.string (dS a)] 9)).lt g hg).1)
      go_roundg (6 - (k + 1))
      case measure => rw [HG.out]; omega
      case rel => exact ⟨k + 1, _, rfl, by omega, rfl, by go_num, by rw [HTS.out, List.map_append, ← HYS.out]; exact hown', hB2⟩
    · obtain rfl : k = 6 := by omega
      have htk : lz.take 6 = lz := List.take_of_length_le (by have := HAL.out; omega)
      rw [htk] at hown
      clear htk
      go_wp2_with (fail)
      go_ret
      exact ⟨_, rfl, hown, hB⟩
set_option maxRecDepth 100000 in
theorem figureWords_any (A : Option Addr) (n cap : Nat) (rows : List ByteArray) (w : World) (hn : 1 ≤ n) (hn2 : n ≤ 100000) (hr : Rd w w.heap.size 1 A n (rows.map Value.string)) :
    Calls Tryz.prog 278 #[.agg #[.slice A n cap]] w fun e w' => ∃ v, e = .returned v ∧ w'.ownsRow w.heap.size 9 1 v n (rows.map Value.string) ∧ Below w.heap.size w w' := by
  have hlen := hr.1
  rw [List.length_map, Nat.mul_one] at hlen
  have hB := (Below.refl w.heap.size w).alloc (Nat.le_refl _) (.cells #[.slice A n cap] 220)
  have hS := Blk.new w 220 #[.slice A n cap]
  obtain ⟨b, off, rfl, hb, hc⟩ := ((hr.below hB).more hB.size).2 (by omega)
  have HL := Lib.hid hlen; clear hlen
  have hcz : ∀ j, j < rows.length → (w.alloc (.cells #[.slice (some ⟨b, off, none⟩) n cap] 220)).cell? ⟨b, off + j, none⟩ = some (.string (rows.getD j ByteArray.empty)) := fun j hj => hc j _ (by simp [List.getD, hj])
  clear hc
  go_enter Tryz.func278, Tryz.ntmps278
  go_upto_region 1 with (fail)
  generalize w.alloc (.cells #[.slice (some ⟨b, off, none⟩) n cap] 220) = W0 at *
  have qS := fun i => Blk.cell hS i
  go_wp2_with (go_at_call 202; refine (Tryz.slices_Clone_string b off n cap rows _ (by rw [HL.out]; exact Nat.le_refl _) (by omega) hcz).mono ?_; rintro e w1 ⟨v, rfl, own, _, hb1⟩; rw [List.take_of_length_le (by rw [HL.out]; exact Nat.le_refl _)] at own; replace own := own_mono own hB.size; replace hB := hB.trans (hb1.mono hB.size))
  go_ret
  exact ⟨_, rfl, own, hB⟩
end
section
open Go.RowKit Go.Lib
def putHead (b : UInt8) : List (List UInt8) → List (List UInt8)
  | [] => [[b]]
  | x :: xs => (b :: x) :: xs
def cutL (c : UInt8) : List UInt8 → List (List UInt8)
  | [] => [[]]
  | b :: l => if b = c then [] :: cutL c l else putHead b (cutL c l)
theorem cutL_ne (c : UInt8) : ∀ l, cutL c l ≠ []
  | [] => by simp [cutL]
  | b :: l => by
    rw [cutL]
    split
    · simp
    · cases h : cutL c l <;> simp [putHead]
theorem splitK_cut (c : UInt8) : ∀ l : List UInt8, splitK [c] 0 (count l [c]) l = cutL c l
  | [] => by rw [count_miss (by simp [index])]; rfl
  | b :: l => by
    have ih := splitK_cut c l
    by_cases h : b = c
    · subst h
      have hix : index (b :: l) [b] = ((0 : Nat) : Int) := by rw [index]; simp [List.isPrefixOf]
      rw [count_cons_eq, Nat.add_comm, splitK, hix, cutL, if_pos rfl, ← ih]
      rfl
    · rw [count_cons_ne b c l h, cutL, if_neg h, ← ih]
      have hp : ([c] : List UInt8).isPrefixOf (b :: l) = false := by simp [List.isPrefixOf, Ne.symm h]
      have hix : index (b :: l) [c] = if index l [c] == -1 then -1 else index l [c] + 1 := by rw [index, hp]; simp
      cases hk : count l [c] with
      | zero => rfl
      | succ k =>
        have hne : index l [c] ≠ -1 := fun e => by rw [count_miss e] at hk; cases hk
        have hge := index_ge l [c]
        obtain ⟨j, hj⟩ : ∃ j : Nat, index l [c] = j := ⟨(index l [c]).toNat, by omega⟩
        have hix' : index (b :: l) [c] = (j : Int) + 1 := by rw [hix, if_neg (by simpa using hne), hj]
        have n1 : ¬ (((j : Int) + 1 == -1) = true) := fun e => by have := beq_iff_eq.1 e; omega
        have n2 : ¬ (((j : Int) == -1) = true) := fun e => by have := beq_iff_eq.1 e; omega
        rw [splitK, splitK, hix', hj, if_neg n1, if_neg n2]
        have e1 : ((j : Int) + 1).toNat + 0 = j + 1 := by omega
        have e2 : ((j : Int)).toNat + 0 = j := by omega
        have e3 : ((j : Int) + 1).toNat + ([c] : List UInt8).length = j + 1 + 1 := by simp
        have e4 : ((j : Int)).toNat + ([c] : List UInt8).length = j + 1 := by simp
        rw [e1, e2, e3, e4]
        rfl
theorem splitB_cut (c : UInt8) (s : ByteArray) : (splitB ⟨#[c]⟩ 0 (countB s ⟨#[c]⟩) s).map (·.data.toList) = cutL c s.data.toList := by
  rw [splitB_data]
  exact splitK_cut c s.data.toList
theorem cutL_end (c : UInt8) : ∀ x : List UInt8, c ∉ x → cutL c x = [x]
  | [], _ => rfl
  | b :: x, h => by
    have h1 : b ≠ c := fun e => h (by simp [e])
    rw [cutL, if_neg h1, cutL_end c x (fun hx => h (by simp [hx]))]
    rfl
theorem cutL_app (c : UInt8) (t : List UInt8) : ∀ x : List UInt8, c ∉ x → cutL c (x ++ c :: t) = x :: cutL c t
  | [], _ => by rw [List.nil_append, cutL, if_pos rfl]
  | b :: x, h => by
    have h1 : b ≠ c := fun e => h (by simp [e])
    rw [List.cons_append, cutL, if_neg h1, cutL_app c t x (fun hx => h (by simp [hx]))]
    rfl
theorem cutL_join (c : UInt8) : ∀ (x : List UInt8) (r : List (List UInt8)), c ∉ x → (∀ y ∈ r, c ∉ y) → cutL c (join (x :: r) [c]) = x :: r
  | x, [], hx, _ => by rw [join_one]; exact cutL_end c x hx
  | x, y :: r, hx, hr => by
    have ih := cutL_join c y r (hr y (by simp)) (fun z hz => hr z (by simp [hz]))
    have e : join (x :: y :: r) [c] = x ++ c :: join (y :: r) [c] := by
      rw [join_cons, join_cons]
      simp [joinTail]
    rw [e, cutL_app c _ x hx, ih]
theorem ba_list {a b : ByteArray} (h : a.data.toList = b.data.toList) : a = b := by
  apply ByteArray.ext
  exact Array.ext' h
theorem map_data_inj : ∀ {a b : List ByteArray}, a.map (·.data.toList) = b.map (·.data.toList) → a = b
  | [], [], _ => rfl
  | [], _ :: _, h => by simp at h
  | _ :: _, [], h => by simp at h
  | x :: a, y :: b, h => by
    simp only [List.map_cons, List.cons.injEq] at h
    rw [ba_list h.1, map_data_inj h.2]
/-- What was joined by a byte that no part holds, is cut into its parts. -/
theorem splitB_join (c : UInt8) (x : ByteArray) (r : List ByteArray) (hx : c ∉ x.data.toList) (hr : ∀ y ∈ r, c ∉ y.data.toList) : splitB ⟨#[c]⟩ 0 (countB (jnS (x :: r) ⟨#[c]⟩) ⟨#[c]⟩) (jnS (x :: r) ⟨#[c]⟩) = x :: r := by
  apply map_data_inj
  rw [splitB_cut]
  show cutL c (join ((x :: r).map (·.data.toList)) [c]).toArray.toList = _
  rw [List.map_cons]
  exact cutL_join c _ _ hx (fun y hy => by obtain ⟨z, hz, rfl⟩ := List.mem_map.1 hy; exact hr z hz)
theorem countB_split (c : UInt8) (s : ByteArray) : (splitB ⟨#[c]⟩ 0 (countB s ⟨#[c]⟩) s).length = countB s ⟨#[c]⟩ + 1 := splitB_all ⟨#[c]⟩ (Nat.le_refl 1) 0 _ s rfl
theorem countB_join (c : UInt8) (x : ByteArray) (r : List ByteArray) (hx : c ∉ x.data.toList) (hr : ∀ y ∈ r, c ∉ y.data.toList) : countB (jnS (x :: r) ⟨#[c]⟩) ⟨#[c]⟩ = r.length := by
  have h := countB_split c (jnS (x :: r) ⟨#[c]⟩)
  rw [splitB_join c x r hx hr, List.length_cons] at h
  omega
/-- Lines behind one another, each ended. -/
theorem jnS_snoc (xs : List ByteArray) (y sep : ByteArray) (h : xs ≠ []) : jnS xs sep ++ sep ++ y = jnS (xs ++ [y]) sep := by
  apply ba_list
  cases xs with
  | nil => exact absurd rfl h
  | cons x r =>
    show (jnS (x :: r) sep ++ sep ++ y).data.toList = (join (((x :: r) ++ [y]).map (·.data.toList)) sep.data.toList).toArray.toList
    have e : (jnS (x :: r) sep).data.toList = join ((x :: r).map (·.data.toList)) sep.data.toList := rfl
    rw [ByteArray.data_append, ByteArray.data_append, Array.toList_append, Array.toList_append, e]
    simp only [List.map_cons, List.cons_append, List.map_append, List.map_nil, join_cons, joinTail, List.map_append, List.flatten_append, List.flatten_cons, List.flatten_nil, List.append_nil]
    simp
end
section
open Go.RowKit Go.Lib
def wStage : ByteArray := ⟨#[115, 116, 97, 103, 101]⟩
def wFigure : ByteArray := ⟨#[102, 105, 103, 117, 114, 101]⟩
def wEnd : ByteArray := ⟨#[101, 110, 100]⟩
set_option maxRecDepth 100000 in
theorem kindOf_stage (a0 a1 a2 a3 a4 a5 : Int) (w : World) : Calls Tryz.prog 195 #[.iface 218 (.agg #[.int .i64 a0, .int .i64 a1, .int .i64 a2, .int .i64 a3, .int .i64 a4, .int .i64 a5])] w fun e w' => e = .returned (.int .i64 0) ∧ w = w' := by
  have h1 : ∀ w, (Instr.typeAssert (.iface 218 (.agg #[.int .i64 a0, .int .i64 a1, .int .i64 a2, .int .i64 a3, .int .i64 a4, .int .i64 a5])) 248 218 true).run Tryz.prog w = .ok (.tuple #[.agg #[.int .i64 a0, .int .i64 a1, .int .i64 a2, .int .i64 a3, .int .i64 a4, .int .i64 a5], .bool true]) w := fun _ => by kernel_rfl
  go_enter Tryz.func195, Tryz.ntmps195
  go_wp2
  go_ret
  exact ⟨rfl, rfl⟩
set_option maxRecDepth 100000 in
theorem kindOf_figure (v : Value) (w : World) : Calls Tryz.prog 195 #[.iface 220 (.agg #[v])] w fun e w' => e = .returned (.int .i64 1) ∧ w = w' := by
  have h1 : ∀ w, (Instr.typeAssert (.iface 220 (.agg #[v])) 248 218 true).run Tryz.prog w = .ok (.tuple #[.agg #[.int .i64 0, .int .i64 0, .int .i64 0, .int .i64 0, .int .i64 0, .int .i64 0], .bool false]) w := fun _ => by kernel_rfl
  have h2 : ∀ w, (Instr.typeAssert (.iface 220 (.agg #[v])) 248 220 true).run Tryz.prog w = .ok (.tuple #[.agg #[v], .bool true]) w := fun _ => by kernel_rfl
  go_enter Tryz.func195, Tryz.ntmps195
  go_wp2
  go_ret
  exact ⟨rfl, rfl⟩
/-- A line: its word, a blank, and the words behind it. -/
def lineS (wd : ByteArray) (ws : List ByteArray) : ByteArray := wd ++ ⟨#[32]⟩ ++ jnS ws ⟨#[32]⟩
theorem size_app (a b : ByteArray) : (a ++ b).size = a.size + b.size := ByteArray.size_append
theorem dS_size (a : Nat) (ha : a < 1000) : (dS a).size ≤ 3 := by
  have h : (decDigits a).length ≤ 3 := by
    rcases (show a < 10 ∨ (¬ a < 10 ∧ a < 100) ∨ 100 ≤ a by omega) with h1 | ⟨h1, h2⟩ | h1
    · rw [decDigits_one h1]; exact (by decide : 1 ≤ 3)
    · rw [decDigits_two h1 h2]; exact Nat.le_succ _
    · rw [dec_three h1 ha]; exact Nat.le_refl _
  show (List.toArray (decDigits a)).size ≤ 3
  rw [List.size_toArray]; exact h
set_option maxRecDepth 100000 in
set_option maxHeartbeats 800000 in
theorem writeStage_any (a0 a1 a2 a3 a4 a5 : Nat) (ha : ∀ a ∈ [a0, a1, a2, a3, a4, a5], a < 1000) (m : Int) (w : World) (h : Env m w) :
    Calls Tryz.prog 171 #[.iface 218 (.agg #[.int .i64 a0, .int .i64 a1, .int .i64 a2, .int .i64 a3, .int .i64 a4, .int .i64 a5])] w fun e w' => e = .returned (.string (lineS wStage ([a0, a1, a2, a3, a4, a5].map dS))) ∧ Below w.heap.size w w' := by
  have hm : ∀ w, (method 425 218 (.agg #[.int .i64 a0, .int .i64 a1, .int .i64 a2, .int .i64 a3, .int .i64 a4, .int .i64 a5]) "kelir/outline.words").run Tryz.prog w = .ok (277, .agg #[.int .i64 a0, .int .i64 a1, .int .i64 a2, .int .i64 a3, .int .i64 a4, .int .i64 a5]) w := fun _ => by kernel_rfl
  have hW := fun wx hx => stageWords_any a0 a1 a2 a3 a4 a5 (fun a h => by have := ha a h; omega) m wx hx
  have hds : ∀ x ∈ [a0, a1, a2, a3, a4, a5].map dS, x.size ≤ 3 := fun x hx => by
    obtain ⟨a, ha', rfl⟩ := List.mem_map.1 hx
    exact dS_size a (ha a ha')
  obtain ⟨ds, hd⟩ : ∃ ds, ds = [a0, a1, a2, a3, a4, a5].map dS := ⟨_, rfl⟩
  have hdl : ds.length = 6 := by rw [hd]; rfl
  rw [← hd] at hds ⊢
  rw [← hd] at hW
  have hjs := jnS_size ds ⟨#[32]⟩ 3 hds
  have hjz : (jnS ds ⟨#[32]⟩).size ≤ 100 := by rw [hdl] at hjs; exact Nat.le_trans hjs (by decide)
  have HDS := Lib.hid hds; have HW := Lib.hid hW
  have HJ := Lib.hid (rfl : jnS ds ⟨#[32]⟩ = jnS ds ⟨#[32]⟩)
  clear hds hW hd hdl hjs ha HJ
  have hfin : lineS wStage ds = wStage ++ ⟨#[32]⟩ ++ jnS ds ⟨#[32]⟩ := rfl
  have HF := Lib.hid hfin; clear hfin
  have hjoin := fun (A : Option Addr) (c : Nat) (wx : World) hc hr => jn_any A 6 c ds ⟨#[32]⟩ wx (by omega) (by omega) hc (fun x hx => by have := HDS.out x hx; omega) (by decide) hr
  generalize jnS ds ⟨#[32]⟩ = J at *
  have hno : ¬ 9223372036854775807 < 6 + J.size := by omega
  have HJN := Lib.hid hjoin; clear hjoin
  go_enter Tryz.func171, Tryz.ntmps171
  go_wp2_with (first
    | (go_at_call 195; refine (kindOf_stage _ _ _ _ _ _ _).mono ?_; rintro e w1 ⟨rfl, rfl⟩)
    | (go_at_call 196; refine (word_stage _).mono ?_; rintro e w1 ⟨rfl, rfl⟩)
    | (go_at_call 277; refine (HW.out _ h).mono ?_; rintro e w1 ⟨v1, rfl, own1, hb1⟩; obtain ⟨A1, c1, rfl⟩ := own_slice own1; have hc1 := own_le0 own1; have hr1 := Rd.of_own own1; clear own1)
    | (go_at_call 161; refine (HJN.out A1 c1 _ hc1 hr1).mono ?_; rintro e w2 ⟨rfl, hb2⟩))
  go_ret
  exact ⟨by rw [HF.out]; rfl, hb1.trans (hb2.mono hb1.size)⟩
set_option maxRecDepth 100000 in
set_option maxHeartbeats 800000 in
theorem writeFigure_any (A : Option Addr) (n cap : Nat) (rows : List ByteArray) (w : World) (hn : 1 ≤ n) (hn2 : n ≤ 1000) (hs : ∀ r ∈ rows, r.size ≤ 1000) (hr : Rd w w.heap.size 1 A n (rows.map Value.string)) :
    Calls Tryz.prog 171 #[.iface 220 (.agg #[.slice A n cap])] w fun e w' => e = .returned (.string (lineS wFigure rows)) ∧ Below w.heap.size w w' := by
  have hm : ∀ w, (method 425 220 (.agg #[.slice A n cap]) "kelir/outline.words").run Tryz.prog w = .ok (278, .agg #[.slice A n cap]) w := fun _ => by kernel_rfl
  have hlen := hr.1
  rw [List.length_map, Nat.mul_one] at hlen
  have hjs := jnS_size rows ⟨#[32]⟩ 1000 hs
  have hjz : (jnS rows ⟨#[32]⟩).size ≤ 1001000 := by
    rw [hlen] at hjs
    exact Nat.le_trans hjs (Nat.mul_le_mul hn2 (show 1000 + ByteArray.size ⟨#[32]⟩ ≤ 1001 by decide))
  have hfin : lineS wFigure rows = wFigure ++ ⟨#[32]⟩ ++ jnS rows ⟨#[32]⟩ := rfl
  have HF := Lib.hid hfin; have HL := Lib.hid hlen; clear hfin hjs hlen
  have hjoin := fun (A : Option Addr) (c : Nat) (wx : World) hc hr => jn_any A n c rows ⟨#[32]⟩ wx hn hn2 hc (fun x hx => by have := hs x hx; omega) (by decide) hr
  generalize jnS rows ⟨#[32]⟩ = J at *
  have hno : ¬ 9223372036854775807 < 7 + J.size := by omega
  have HJN := Lib.hid hjoin; clear hjoin
  go_enter Tryz.func171, Tryz.ntmps171
  go_wp2_with (first
    | (go_at_call 195; refine (kindOf_figure _ _).mono ?_; rintro e w1 ⟨rfl, rfl⟩)
    | (go_at_call 196; refine (word_figure _).mono ?_; rintro e w1 ⟨rfl, rfl⟩)
    | (go_at_call 278; refine (figureWords_any A n cap rows _ hn (by omega) hr).mono ?_; rintro e w1 ⟨v1, rfl, own1, hb1⟩; obtain ⟨A1, c1, rfl⟩ := own_slice own1; have hc1 := own_le0 own1; have hr1 := Rd.of_own own1; clear own1)
    | (go_at_call 161; refine (HJN.out A1 c1 _ hc1 hr1).mono ?_; rintro e w2 ⟨rfl, hb2⟩))
  go_ret
  exact ⟨by rw [HF.out]; rfl, hb1.trans (hb2.mono hb1.size)⟩
set_option maxRecDepth 100000 in
set_option maxHeartbeats 800000 in
theorem writeEnd_any (n : Nat) (hn : n < 1000) (m : Int) (w : World) (h : Env m w) : Calls Tryz.prog 171 #[.iface 252 (.agg #[.int .i64 n])] w fun e w' => e = .returned (.string (lineS wEnd [dgt3 n])) ∧ Below w.heap.size w w' := by
  have hm : ∀ w, (method 425 252 (.agg #[.int .i64 n]) "kelir/outline.words").run Tryz.prog w = .ok (280, .agg #[.int .i64 n]) w := fun _ => by kernel_rfl
  have hd3 : (dgt3 n).size = 3 := rfl
  have hjs := jnS_size [dgt3 n] ⟨#[32]⟩ 3 (fun x hx => by obtain rfl : x = dgt3 n := (by simpa using hx); rw [hd3]; exact Nat.le_refl _)
  have hjz : (jnS [dgt3 n] ⟨#[32]⟩).size ≤ 100 := Nat.le_trans hjs (show 1 * (3 + 1) ≤ 100 by decide)
  have hfin : lineS wEnd [dgt3 n] = wEnd ++ ⟨#[32]⟩ ++ jnS [dgt3 n] ⟨#[32]⟩ := rfl
  have HF := Lib.hid hfin; clear hfin hjs
  have hjoin := fun (A : Option Addr) (c : Nat) (wx : World) hc hr => jn_any A 1 c [dgt3 n] ⟨#[32]⟩ wx (by omega) (by omega) hc (fun x hx => by obtain rfl : x = dgt3 n := (by simpa using hx); rw [hd3]; omega) (by decide) hr
  generalize jnS [dgt3 n] ⟨#[32]⟩ = J at *
  have hno : ¬ 9223372036854775807 < 4 + J.size := by omega
  have HJN := Lib.hid hjoin; clear hjoin hd3
  go_enter Tryz.func171, Tryz.ntmps171
  go_wp2_with (first
    | (go_at_call 195; refine (kindOf_end _ _).mono ?_; rintro e w1 ⟨rfl, rfl⟩)
    | (go_at_call 196; refine (word_end _).mono ?_; rintro e w1 ⟨rfl, rfl⟩)
    | (go_at_call 280; refine (endWords_any n hn m _ h).mono ?_; rintro e w1 ⟨v1, rfl, own1, hb1⟩; obtain ⟨A1, c1, rfl⟩ := own_slice own1; have hc1 := own_le0 own1; have hr1 := Rd.of_own own1; clear own1)
    | (go_at_call 161; refine (HJN.out A1 c1 _ hc1 hr1).mono ?_; rintro e w2 ⟨rfl, hb2⟩))
  go_ret
  exact ⟨by rw [HF.out]; rfl, hb1.trans (hb2.mono hb1.size)⟩
set_option maxRecDepth 100000 in
theorem endOf_any (A : Option Addr) (n cap : Nat) (rs : List ByteArray) (s : Nat) (m : Int) (w : World) (hn : n ≤ 100000) (hs : ∀ r ∈ rs, r.size ≤ 100000) (hr : Rd w w.heap.size 1 A n (rs.map Value.string)) (hsum : sumA rs 0 0 = s) (h : Env m w) :
    Calls Tryz.prog 172 #[.slice A n cap] w fun e w' => e = .returned (.string (lineS wEnd [dgt3 (s % 173)])) ∧ Below w.heap.size w w' := by
  have hmod : (s : Int).tmod 173 = ((s % 173 : Nat) : Int) := rfl
  have hlt : s % 173 < 1000 := by have := Nat.mod_lt s (show 0 < 173 by omega); omega
  have hS := fun wx hx => sum_any A n cap rs wx hn hs hx
  rw [hsum] at hS
  have HS := Lib.hid hS; clear hS hsum
  generalize s % 173 = q at *
  go_enter Tryz.func172, Tryz.ntmps172
  go_wp2_with (first
    | (go_at_call 197; refine (HS.out _ hr).mono ?_; rintro e w1 ⟨rfl, rfl⟩)
    | (go_at_call 171; refine (writeEnd_any q hlt m _ h).mono ?_; rintro e w1 ⟨rfl, hb1⟩))
  go_ret
  exact ⟨rfl, hb1⟩
end
section
open Go.RowKit Go.Lib
set_option maxRecDepth 100000 in
set_option maxHeartbeats 800000 in
theorem wordsOf_ok (k : Int) (kw : ByteArray) (l : ByteArray) (n : Nat) (ws : List ByteArray) (m : Int) (w : World) (hkw : ∀ w : World, Calls Tryz.prog 196 #[.int .i64 k] w fun e w' => e = .returned (.string kw) ∧ w = w') (hl : l.size ≤ 1000) (hm : w.cell? ⟨0, 0, none⟩ = some (.int .i64 m))
    (hn : countB l ⟨#[32]⟩ = n) (hn1 : 1 ≤ n) (hn2 : n ≤ 1000) (hws : splitB ⟨#[32]⟩ 0 n l = ws) (hwl : ws.length = n + 1) (h0 : ws[0]? = some kw) (hct : containsS ws ⟨#[]⟩ = false) :
    Calls Tryz.prog 177 #[.int .i64 k, .string l] w fun e w' => ∃ v, e = .returned v ∧ w'.ownsRow w.heap.size 9 1 v n ((ws.drop 1).map Value.string) ∧ Below w.heap.size w w' := by
  have HN := Lib.hid hn; have HWS := Lib.hid hws; have HWL := Lib.hid hwl; have HH0 := Lib.hid h0
  clear hn hws hwl h0
  go_enter Tryz.func177, Tryz.ntmps177
  go_upto_region 2 with (first
    | (go_at_call 199; refine (Tryz.strings_Split l ⟨#[32]⟩ m _ (by omega) hm (by decide)).mono ?_; rintro e w1 ⟨rfl, rfl⟩; rw [HN.out, HWS.out]))
  have hbk : Blk (w.alloc (.cells (ws.map Value.string).toArray 9)) w.heap.size 9 (ws.map Value.string).toArray := Blk.new _ _ _
  have hBw : Below w.heap.size w (w.alloc (.cells (ws.map Value.string).toArray 9)) := (Below.refl _ w).alloc (Nat.le_refl _) _
  have hlw := hbk.lt
  obtain ⟨b, hb⟩ : ∃ b, b = w.heap.size := ⟨_, rfl⟩
  rw [← hb] at hbk hlw ⊢
  have HB := Lib.hid hb; clear hb
  generalize w.alloc (.cells (ws.map Value.string).toArray 9) = w1 at *
  have hcz : ∀ (p : Blw w1.heap.size w1) (j : Nat), j < ws.length → p.toW.cell? ⟨b, j, none⟩ = some (.string (ws.getD j ByteArray.empty)) := fun p j hj => by
    rw [blw_blk hbk p j]; simp [List.getD, hj]
  have hc0 : ∀ (p : Blw w1.heap.size w1), p.toW.cell? ⟨b, 0, none⟩ = some (.string kw) := fun p => by
    rw [hcz p 0 (by have := HWL.out; omega), List.getD, HH0.out]; rfl
  have hn1i : (1 : Int) < (n : Int) + 1 := by omega
  refine wp_region_blw (by kernel_rfl) (by kernel_rfl) ?_
  repeat (go_big_quiet_step (first
    | (go_at_call 196; exact Calls.blw_of_same _ (hkw _))
    | (go_at_call 201; exact Calls.blw_of_same _ ((Tryz.slices_Contains_string b 0 (n + 1) (n + 1) ws ⟨#[]⟩ _ (by have := HWL.out; omega) (by omega) (fun j hj => by rw [Nat.zero_add]; exact hcz _ j hj)).mono fun _ _ h => ⟨h.1.trans (by rw [List.take_of_length_le (by have := HWL.out; omega), hct]), h.2.symm⟩))
    | (go_at_call 175; exact Calls.blw_of_same _ (insist_ok _))))
  refine wpQuiet_nil ?_
  rintro W3 ⟨⟨_, hb3⟩, rfl⟩
  have hbk3 := hbk.below hb3 hlw
  have hlw3 := hbk3.lt
  have hB3 := hBw.trans (hb3.mono hBw.size)
  clear hcz hc0 hbk hlw hBw hb3
  have hsl := run_slice_lo (P := Tryz.prog) 24 9 1 Tryz.underlying24 (fun _ => by kernel_rfl) (some ⟨b, 0, none⟩) (n + 1) (n + 1) .i64 1 (by omega) (by omega)
  rw [show cutA (some ⟨b, 0, none⟩) (n + 1) 1 1 = some ⟨b, 1, none⟩ by unfold cutA; rw [if_neg (by omega)]; rfl, show n + 1 - 1 = n by omega] at hsl
  go_wp2_with (first
    | (go_at_call 202; (refine (Tryz.slices_Clone_string b 1 n n (ws.drop 1) _ (by rw [List.length_drop, HWL.out]; omega) (by omega) (fun j hj => by rw [hbk3.cell (1 + j)]; rw [List.length_drop] at hj; simp [List.getD, hj, Nat.add_comm])).mono ?_; rintro e w4 ⟨v4, rfl, own4, _, hb4⟩; rw [List.take_of_length_le (by rw [List.length_drop, HWL.out]; omega)] at own4; replace own4 := own_mono own4 hB3.size)))
  go_ret
  exact ⟨_, rfl, own4, hB3.trans (hb4.mono hB3.size)⟩
end
section
open Go.RowKit Go.Lib
set_option maxRecDepth 100000 in
set_option maxHeartbeats 800000 in
theorem parseDigit (s : ByteArray) (d : Nat) (w : World) (hd : d < 10) (hs : s = ⟨(decDigits d).toArray⟩) (hsz : s.size = 1) (hb : (s[0]'(by omega)).toNat = 48 + d) :
    Calls Tryz.prog 200 #[.string s] w fun e w' => e = .returned (.int .i64 d) ∧ Below w.heap.size w w' := by
  have HS := Lib.hid hs; clear hs
  have hin : inB (1 : Int) 1 2 = true := by decide
  go_enter Tryz.func200, Tryz.ntmps200
  go_wp2_with (first
    | (go_at_call 130; refine (within_any _ _ _ _).mono ?_; rintro e w1 ⟨rfl, rfl⟩; rw [hin])
    | (go_at_call 175; refine (insist_ok _).mono ?_; rintro e w1 ⟨rfl, rfl⟩))
  go_loopw [3] (fun v w' => ∃ pos, w' = w.iter s pos ∧ ((pos = 0 ∧ v = .int .i64 0) ∨ (pos = 1 ∧ v = .int .i64 d))) (fun _ w' => 1 - w'.iterPos w.heap.size)
  case atStart => exact ⟨0, rfl, .inl ⟨rfl, rfl⟩⟩
  case round =>
    obtain ⟨pos, rfl, ⟨rfl, rfl⟩ | ⟨rfl, rfl⟩⟩ := hrel
    · have hnx : ∀ ty, (Instr.next (.pointer (some ⟨w.heap.size, 0, none⟩)) true ty).run Tryz.prog (w.iter s 0) = _ := fun ty => run_next_ascii w s 0 ty (by omega) (by omega)
      rw [hb] at hnx
      clear hb
      have h1 : (48 : Int) ≤ 48 + (d : Int) := by omega
      have h2 : (48 : Int) + (d : Int) ≤ 57 := by omega
      go_wp2_with (first
        | (go_at_call 175; refine (insist_ok _).mono ?_; rintro e w1 ⟨rfl, rfl⟩))
      go_roundw
      case rel => exact ⟨1, rfl, .inr ⟨rfl, by go_num⟩⟩
      case measure => simp
    · have hnx : ∀ ty, (Instr.next (.pointer (some ⟨w.heap.size, 0, none⟩)) true ty).run Tryz.prog (w.iter s 1) = _ := fun ty => run_next_end w s 1 ty (by omega)
      go_wp2_with (first
        | (go_at_call 222; refine (Tryz.strconv_Itoa_small d (by omega) _).mono ?_; rintro e w1 ⟨rfl, rfl⟩; rw [← HS.out])
        | (go_at_call 175; refine (insist_ok _).mono ?_; rintro e w1 ⟨rfl, rfl⟩))
      go_ret
      exact ⟨rfl, below_iter _ _ _⟩
end
section
open Go.RowKit Go.Lib
def stA (a0 a1 a2 a3 a4 a5 : Int) : Nat → Array Value
  | 0 => #[.int .i64 0, .int .i64 0, .int .i64 0, .int .i64 0, .int .i64 0, .int .i64 0]
  | 1 => #[.int .i64 a0, .int .i64 0, .int .i64 0, .int .i64 0, .int .i64 0, .int .i64 0]
  | 2 => #[.int .i64 a0, .int .i64 a1, .int .i64 0, .int .i64 0, .int .i64 0, .int .i64 0]
  | 3 => #[.int .i64 a0, .int .i64 a1, .int .i64 a2, .int .i64 0, .int .i64 0, .int .i64 0]
  | 4 => #[.int .i64 a0, .int .i64 a1, .int .i64 a2, .int .i64 a3, .int .i64 0, .int .i64 0]
  | 5 => #[.int .i64 a0, .int .i64 a1, .int .i64 a2, .int .i64 a3, .int .i64 a4, .int .i64 0]
  | _ => #[.int .i64 a0, .int .i64 a1, .int .i64 a2, .int .i64 a3, .int .i64 a4, .int .i64 a5]
set_option maxRecDepth 100000 in
set_option maxHeartbeats 1600000 in
theorem parseStage_ok (a0 a1 a2 a3 a4 a5 : Int) (A : Option Addr) (cap : Nat) (s0 s1 s2 s3 s4 s5 : ByteArray) (w : World) (hr : Rd w w.heap.size 1 A 6 ([s0, s1, s2, s3, s4, s5].map Value.string))
    (h0 : ∀ w : World, Calls Tryz.prog 200 #[.string s0] w fun e w' => e = .returned (.int .i64 a0) ∧ Below w.heap.size w w')
    (h1 : ∀ w : World, Calls Tryz.prog 200 #[.string s1] w fun e w' => e = .returned (.int .i64 a1) ∧ Below w.heap.size w w')
    (h2 : ∀ w : World, Calls Tryz.prog 200 #[.string s2] w fun e w' => e = .returned (.int .i64 a2) ∧ Below w.heap.size w w')
    (h3 : ∀ w : World, Calls Tryz.prog 200 #[.string s3] w fun e w' => e = .returned (.int .i64 a3) ∧ Below w.heap.size w w')
    (h4 : ∀ w : World, Calls Tryz.prog 200 #[.string s4] w fun e w' => e = .returned (.int .i64 a4) ∧ Below w.heap.size w w')
    (h5 : ∀ w : World, Calls Tryz.prog 200 #[.string s5] w fun e w' => e = .returned (.int .i64 a5) ∧ Below w.heap.size w w') :
    Calls Tryz.prog 176 #[.slice A 6 cap] w fun e' w' => e' = .returned (.agg #[.int .i64 a0, .int .i64 a1, .int .i64 a2, .int .i64 a3, .int .i64 a4, .int .i64 a5]) ∧ Below w.heap.size w w' := by
  go_enter Tryz.func176, Tryz.ntmps176
  go_wp2_with (first
    | (go_at_call 175; refine (insist_ok _).mono ?_; rintro e w1 ⟨rfl, rfl⟩))
  go_loopg [12] 6 (fun g i wr => ∃ k : Nat, g = 6 - k ∧ k ≤ 6 ∧ i = .int .i64 k ∧ Blk wr (w.heap.size + 1) 256 (stA a0 a1 a2 a3 a4 a5 k) ∧ Blk wr w.heap.size 23 #[.int .i64 0, .int .i64 0, .int .i64 0, .int .i64 0, .int .i64 0, .int .i64 0] ∧ Below w.heap.size w wr)
  case atStart => exact ⟨0, rfl, Nat.zero_le _, rfl, blk2 w _ 256 #[.int .i64 0, .int .i64 0, .int .i64 0, .int .i64 0, .int .i64 0, .int .i64 0], (Blk.new w 23 #[.int .i64 0, .int .i64 0, .int .i64 0, .int .i64 0, .int .i64 0, .int .i64 0]).alloc _, ((Below.refl _ w).alloc (Nat.le_refl _) _).alloc (by simp only [World.size_alloc]; omega) _⟩
  case round =>
    obtain ⟨k, hg, hk, rfl, gA, gZ, hB⟩ := hrel
    rcases (show k = 0 ∨ k = 1 ∨ k = 2 ∨ k = 3 ∨ k = 4 ∨ k = 5 ∨ k = 6 by omega) with rfl | rfl | rfl | rfl | rfl | rfl | rfl
    · obtain ⟨cb, coff, hz, rfl, hcb, hcc⟩ := (hr.below hB).atm (show 0 < 6 by omega)
      replace hcc : wr.cell? ⟨cb, coff, none⟩ = some (.string s0) := hcc
      clear hz
      go_wp2_with (go_at_call 200; refine (h0 _).mono ?_; rintro e w1 ⟨rfl, hb⟩; replace gA := gA.below hb gA.lt; replace gZ := gZ.below hb gZ.lt; replace hB := hB.trans (hb.mono hB.size); have hqA := fun i => gA.cell i; have hfA := fun i => gA.frozen i; have hlA := gA.lt; clear hb)
      go_roundg (6 - (0 + 1))
      case measure => rw [hg]; omega
      case rel => exact ⟨0 + 1, rfl, by omega, by go_num, by simpa [stA] using gA.set_ 0 (.int .i64 a0), gZ.far (p := ⟨w.heap.size + 1, 0, none⟩) (show w.heap.size ≠ w.heap.size + 1 by omega) _, hB.setCell (p := ⟨w.heap.size + 1, 0, none⟩) (show w.heap.size ≤ w.heap.size + 1 by omega) _⟩
    · obtain ⟨cb, coff, hz, rfl, hcb, hcc⟩ := (hr.below hB).atm (show 1 < 6 by omega)
      replace hcc : wr.cell? ⟨cb, coff + 1, none⟩ = some (.string s1) := hcc
      clear hz
      go_wp2_with (go_at_call 200; refine (h1 _).mono ?_; rintro e w1 ⟨rfl, hb⟩; replace gA := gA.below hb gA.lt; replace gZ := gZ.below hb gZ.lt; replace hB := hB.trans (hb.mono hB.size); have hqA := fun i => gA.cell i; have hfA := fun i => gA.frozen i; have hlA := gA.lt; clear hb)
      go_roundg (6 - (1 + 1))
      case measure => rw [hg]; omega
      case rel => exact ⟨1 + 1, rfl, by omega, by go_num, by simpa [stA] using gA.set_ 1 (.int .i64 a1), gZ.far (p := ⟨w.heap.size + 1, 1, none⟩) (show w.heap.size ≠ w.heap.size + 1 by omega) _, hB.setCell (p := ⟨w.heap.size + 1, 1, none⟩) (show w.heap.size ≤ w.heap.size + 1 by omega) _⟩
    · obtain ⟨cb, coff, hz, rfl, hcb, hcc⟩ := (hr.below hB).atm (show 2 < 6 by omega)
      replace hcc : wr.cell? ⟨cb, coff + 2, none⟩ = some (.string s2) := hcc
      clear hz
      go_wp2_with (go_at_call 200; refine (h2 _).mono ?_; rintro e w1 ⟨rfl, hb⟩; replace gA := gA.below hb gA.lt; replace gZ := gZ.below hb gZ.lt; replace hB := hB.trans (hb.mono hB.size); have hqA := fun i => gA.cell i; have hfA := fun i => gA.frozen i; have hlA := gA.lt; clear hb)
      go_roundg (6 - (2 + 1))
      case measure => rw [hg]; omega
      case rel => exact ⟨2 + 1, rfl, by omega, by go_num, by simpa [stA] using gA.set_ 2 (.int .i64 a2), gZ.far (p := ⟨w.heap.size + 1, 2, none⟩) (show w.heap.size ≠ w.heap.size + 1 by omega) _, hB.setCell (p := ⟨w.heap.size + 1, 2, none⟩) (show w.heap.size ≤ w.heap.size + 1 by omega) _⟩
    · obtain ⟨cb, coff, hz, rfl, hcb, hcc⟩ := (hr.below hB).atm (show 3 < 6 by omega)
      replace hcc : wr.cell? ⟨cb, coff + 3, none⟩ = some (.string s3) := hcc
      clear hz
      go_wp2_with (go_at_call 200; refine (h3 _).mono ?_; rintro e w1 ⟨rfl, hb⟩; replace gA := gA.below hb gA.lt; replace gZ := gZ.below hb gZ.lt; replace hB := hB.trans (hb.mono hB.size); have hqA := fun i => gA.cell i; have hfA := fun i => gA.frozen i; have hlA := gA.lt; clear hb)
      go_roundg (6 - (3 + 1))
      case measure => rw [hg]; omega
      case rel => exact ⟨3 + 1, rfl, by omega, by go_num, by simpa [stA] using gA.set_ 3 (.int .i64 a3), gZ.far (p := ⟨w.heap.size + 1, 3, none⟩) (show w.heap.size ≠ w.heap.size + 1 by omega) _, hB.setCell (p := ⟨w.heap.size + 1, 3, none⟩) (show w.heap.size ≤ w.heap.size + 1 by omega) _⟩
    · obtain ⟨cb, coff, hz, rfl, hcb, hcc⟩ := (hr.below hB).atm (show 4 < 6 by omega)
      replace hcc : wr.cell? ⟨cb, coff + 4, none⟩ = some (.string s4) := hcc
      clear hz
      go_wp2_with (go_at_call 200; refine (h4 _).mono ?_; rintro e w1 ⟨rfl, hb⟩; replace gA := gA.below hb gA.lt; replace gZ := gZ.below hb gZ.lt; replace hB := hB.trans (hb.mono hB.size); have hqA := fun i => gA.cell i; have hfA := fun i => gA.frozen i; have hlA := gA.lt; clear hb)
      go_roundg (6 - (4 + 1))
      case measure => rw [hg]; omega
      case rel => exact ⟨4 + 1, rfl, by omega, by go_num, by simpa [stA] using gA.set_ 4 (.int .i64 a4), gZ.far (p := ⟨w.heap.size + 1, 4, none⟩) (show w.heap.size ≠ w.heap.size + 1 by omega) _, hB.setCell (p := ⟨w.heap.size + 1, 4, none⟩) (show w.heap.size ≤ w.heap.size + 1 by omega) _⟩
    · obtain ⟨cb, coff, hz, rfl, hcb, hcc⟩ := (hr.below hB).atm (show 5 < 6 by omega)
      replace hcc : wr.cell? ⟨cb, coff + 5, none⟩ = some (.string s5) := hcc
      clear hz
      go_wp2_with (go_at_call 200; refine (h5 _).mono ?_; rintro e w1 ⟨rfl, hb⟩; replace gA := gA.below hb gA.lt; replace gZ := gZ.below hb gZ.lt; replace hB := hB.trans (hb.mono hB.size); have hqA := fun i => gA.cell i; have hfA := fun i => gA.frozen i; have hlA := gA.lt; clear hb)
      go_roundg (6 - (5 + 1))
      case measure => rw [hg]; omega
      case rel => exact ⟨5 + 1, rfl, by omega, by go_num, by simpa [stA] using gA.set_ 5 (.int .i64 a5), gZ.far (p := ⟨w.heap.size + 1, 5, none⟩) (show w.heap.size ≠ w.heap.size + 1 by omega) _, hB.setCell (p := ⟨w.heap.size + 1, 5, none⟩) (show w.heap.size ≤ w.heap.size + 1 by omega) _⟩
    · have hqA := fun i => gA.cell i
      have hlA := gA.lt
      have hqZ := fun i => gZ.cell i
      have hfZ := fun i => gZ.frozen i
      have hlZ := gZ.lt
      simp only [stA] at hqA
      go_wp2
      have g1 := gZ.set_ 0 (.int .i64 a0)
      have g2 := g1.set_ 1 (.int .i64 a1)
      have g3 := g2.set_ 2 (.int .i64 a2)
      have g4 := g3.set_ 3 (.int .i64 a3)
      have g5 := g4.set_ 4 (.int .i64 a4)
      have g6 := g5.set_ 5 (.int .i64 a5)
      have b1 := hB.setCell (p := ⟨w.heap.size, 0, none⟩) (Nat.le_refl w.heap.size) (.int .i64 a0)
      have b2 := b1.setCell (p := ⟨w.heap.size, 1, none⟩) (Nat.le_refl w.heap.size) (.int .i64 a1)
      have b3 := b2.setCell (p := ⟨w.heap.size, 2, none⟩) (Nat.le_refl w.heap.size) (.int .i64 a2)
      have b4 := b3.setCell (p := ⟨w.heap.size, 3, none⟩) (Nat.le_refl w.heap.size) (.int .i64 a3)
      have b5 := b4.setCell (p := ⟨w.heap.size, 4, none⟩) (Nat.le_refl w.heap.size) (.int .i64 a4)
      have b6 := b5.setCell (p := ⟨w.heap.size, 5, none⟩) (Nat.le_refl w.heap.size) (.int .i64 a5)
      clear g1 g2 g3 g4 g5 b1 b2 b3 b4 b5 hqA hlA hqZ hfZ hlZ gZ gA hB hg
      generalize (((((wr.setCell ⟨w.heap.size, 0, none⟩ (.int .i64 a0)).setCell ⟨w.heap.size, 1, none⟩ (.int .i64 a1)).setCell ⟨w.heap.size, 2, none⟩ (.int .i64 a2)).setCell ⟨w.heap.size, 3, none⟩ (.int .i64 a3)).setCell ⟨w.heap.size, 4, none⟩ (.int .i64 a4)).setCell ⟨w.heap.size, 5, none⟩ (.int .i64 a5) = w6 at *
      have hq6 := fun i => g6.cell i
      refine bodyPost_ret (v := .agg #[.int .i64 a0, .int .i64 a1, .int .i64 a2, .int .i64 a3, .int .i64 a4, .int .i64 a5]) ?_ rfl ⟨rfl, b6⟩
      simp [results, Tryz.results176, go_sem, hq6]
end
section
open Go.RowKit Go.Lib
def kText : ByteArray := ⟨#[115, 116, 97, 103, 101, 32, 49, 32, 49, 32, 50, 32, 48, 32, 48, 32, 48, 10, 102, 105, 103, 117, 114, 101, 32, 35, 10, 101, 110, 100, 32, 48, 55, 48, 10]⟩
def kText1 : ByteArray := ⟨#[115, 116, 97, 103, 101, 32, 49, 32, 49, 32, 50, 32, 48, 32, 48, 32, 48, 10, 102, 105, 103, 117, 114, 101, 32, 35, 10, 101, 110, 100, 32, 48, 55, 48]⟩
def kL0 : ByteArray := ⟨#[115, 116, 97, 103, 101, 32, 49, 32, 49, 32, 50, 32, 48, 32, 48, 32, 48]⟩
def kL1 : ByteArray := ⟨#[102, 105, 103, 117, 114, 101, 32, 35]⟩
def kL2 : ByteArray := ⟨#[101, 110, 100, 32, 48, 55, 48]⟩
theorem kSuf : hasSuffix kText.data.toList [10] = true := by decide
theorem kTrim : (⟨(trimSuffix kText.data.toList [10]).toArray⟩ : ByteArray) = kText1 := by decide
theorem kCnt : countB kText1 ⟨#[10]⟩ = 2 := by kernel_rfl
theorem kSpl : splitB ⟨#[10]⟩ 0 2 kText1 = [kL0, kL1, kL2] := by kernel_rfl
theorem kCnt0 : countB kL0 ⟨#[32]⟩ = 6 := by kernel_rfl
theorem kSpl0 : splitB ⟨#[32]⟩ 0 6 kL0 = [⟨#[115, 116, 97, 103, 101]⟩, ⟨#[49]⟩, ⟨#[49]⟩, ⟨#[50]⟩, ⟨#[48]⟩, ⟨#[48]⟩, ⟨#[48]⟩] := by kernel_rfl
theorem kCnt1 : countB kL1 ⟨#[32]⟩ = 1 := by kernel_rfl
theorem kSpl1 : splitB ⟨#[32]⟩ 0 1 kL1 = [⟨#[102, 105, 103, 117, 114, 101]⟩, ⟨#[35]⟩] := by kernel_rfl
theorem kNo0 : containsS [⟨#[115, 116, 97, 103, 101]⟩, ⟨#[49]⟩, ⟨#[49]⟩, ⟨#[50]⟩, ⟨#[48]⟩, ⟨#[48]⟩, ⟨#[48]⟩] ⟨#[]⟩ = false := by decide
theorem kNo1 : containsS [⟨#[102, 105, 103, 117, 114, 101]⟩, ⟨#[35]⟩] ⟨#[]⟩ = false := by decide
theorem kSum : sumA [kL0, kL1] 0 0 = 12699 := by kernel_rfl
theorem kD0 : (⟨#[48]⟩ : ByteArray) = ⟨(decDigits 0).toArray⟩ := by simp [decDigits]
theorem kD1 : (⟨#[49]⟩ : ByteArray) = ⟨(decDigits 1).toArray⟩ := by simp [decDigits]
theorem kD2 : (⟨#[50]⟩ : ByteArray) = ⟨(decDigits 2).toArray⟩ := by simp [decDigits]
theorem parse0 (w : World) : Calls Tryz.prog 200 #[.string ⟨#[48]⟩] w fun e w' => e = .returned (.int .i64 0) ∧ Below w.heap.size w w' := parseDigit ⟨#[48]⟩ 0 w (by omega) kD0 rfl rfl
theorem parse1 (w : World) : Calls Tryz.prog 200 #[.string ⟨#[49]⟩] w fun e w' => e = .returned (.int .i64 1) ∧ Below w.heap.size w w' := parseDigit ⟨#[49]⟩ 1 w (by omega) kD1 rfl rfl
theorem parse2 (w : World) : Calls Tryz.prog 200 #[.string ⟨#[50]⟩] w fun e w' => e = .returned (.int .i64 2) ∧ Below w.heap.size w w' := parseDigit ⟨#[50]⟩ 2 w (by omega) kD2 rfl rfl
set_option maxRecDepth 100000 in
theorem parseIdle (b0 b1 : Nat) (w : World) :
    CallsD Tryz.prog 173 #[.pointer (some ⟨b0, 0, none⟩), .pointer (some ⟨b1, 0, none⟩)] .returning w fun e u' w' => e = .returned (.tuple #[]) ∧ u' = .returning ∧ w' = w := by
  refine callsD_of_wpS Tryz.func173 rfl fun c₀ cs hu => ?_
  simp only [Tryz.ntmps173, List.size_toArray, List.length_cons, List.length_nil, Nat.reduceAdd, Nat.reduceSub, Array.replicate_succ, Array.replicate_zero, List.push_toArray, List.append_toArray, List.nil_append, List.cons_append]
  apply wpS_seq
  apply wpS_region
  simp [wpOpsS, go_sem, recoverD, hu, Tryz.ntmps173, Exit.thenS]
  refine wpS_of_wp ?_
  go_wp2
  cases c₀
  simp_all [bodyPostS, results, Tryz.results173]
theorem linesK (m : Int) (w : World) (hm : w.cell? ⟨0, 0, none⟩ = some (.int .i64 m)) : Calls Tryz.prog 174 #[.string kText] w fun e w' => e = .returned (.slice (some ⟨w.heap.size, 0, none⟩) 3 3) ∧ w' = w.alloc (.cells #[.string kL0, .string kL1, .string kL2] 9) := by
  have h := linesOf_ok kText m w (by decide) hm kSuf (by rw [kTrim]; decide)
  rw [kTrim, kCnt, kSpl] at h
  exact h
theorem wordsK0 (m : Int) (w : World) (hm : w.cell? ⟨0, 0, none⟩ = some (.int .i64 m)) : Calls Tryz.prog 177 #[.int .i64 0, .string kL0] w fun e w' => ∃ v, e = .returned v ∧ w'.ownsRow w.heap.size 9 1 v 6 ([⟨#[49]⟩, ⟨#[49]⟩, ⟨#[50]⟩, ⟨#[48]⟩, ⟨#[48]⟩, ⟨#[48]⟩].map Value.string) ∧ Below w.heap.size w w' :=
  wordsOf_ok 0 _ kL0 6 _ m w word_stage (by decide) hm kCnt0 (by omega) (by omega) kSpl0 rfl rfl kNo0
theorem wordsK1 (m : Int) (w : World) (hm : w.cell? ⟨0, 0, none⟩ = some (.int .i64 m)) : Calls Tryz.prog 177 #[.int .i64 1, .string kL1] w fun e w' => ∃ v, e = .returned v ∧ w'.ownsRow w.heap.size 9 1 v 1 ([⟨#[35]⟩].map Value.string) ∧ Below w.heap.size w w' :=
  wordsOf_ok 1 _ kL1 1 _ m w word_figure (by decide) hm kCnt1 (by omega) (by omega) kSpl1 rfl rfl kNo1
theorem stageK (A : Option Addr) (cap : Nat) (w : World) (hr : Rd w w.heap.size 1 A 6 ([⟨#[49]⟩, ⟨#[49]⟩, ⟨#[50]⟩, ⟨#[48]⟩, ⟨#[48]⟩, ⟨#[48]⟩].map Value.string)) : Calls Tryz.prog 176 #[.slice A 6 cap] w fun e w' => e = .returned (.agg #[.int .i64 1, .int .i64 1, .int .i64 2, .int .i64 0, .int .i64 0, .int .i64 0]) ∧ Below w.heap.size w w' :=
  parseStage_ok 1 1 2 0 0 0 A cap _ _ _ _ _ _ w hr parse1 parse1 parse2 parse0 parse0 parse0
theorem Rd_two {w : World} {g B : Nat} {t : TypeId} {a b c : Value} (h : Blk w g t #[a, b, c]) (hg : g < B) : Rd w B 1 (some ⟨g, 0, none⟩) 2 [a, b] := by
  refine ⟨rfl, fun _ => ⟨g, 0, rfl, hg, fun j u hu => ?_⟩⟩
  rw [Nat.zero_add, h.cell j]
  match j, hu with
  | 0, hu => exact hu
  | 1, hu => exact hu
  | _ + 2, hu => simp at hu
theorem endK (g t : Nat) (w : World) (h : Blk w g t #[.string kL0, .string kL1, .string kL2]) : Calls Tryz.prog 172 #[.slice (some ⟨g, 0, none⟩) 2 3] w fun e w' => e = .returned (.string kL2) ∧ Below w.heap.size w w' :=
  endOf_70 (some ⟨g, 0, none⟩) 2 3 [kL0, kL1] w (by omega) (by decide) (Rd_two h h.lt) kSum
theorem wp_nopanic {P : Program} {c : Code} {Q : Exit → Act → World → Prop} {a : Act} {w : World} (h : c.wp P (fun ex a w => match ex with | .panic _ => False | ex => Q ex a w) a w) : c.wp P Q a w := by
  refine Code.wp_mono (fun e a w hq => ?_) h
  cases e <;> first | exact hq | exact hq.elim
theorem Rd_one {w : World} {g B : Nat} {v : Value} (hg : g < B) (hc : w.cell? ⟨g, 0, none⟩ = some v) : Rd w B 1 (some ⟨g, 0, none⟩) 1 [v] := by
  refine ⟨rfl, fun _ => ⟨g, 0, rfl, hg, fun j u hu => ?_⟩⟩
  match j, hu with
  | 0, hu => rw [hc]; exact hu
  | _ + 1, hu => simp at hu
theorem cell_far (w : World) (p : Addr) (v : Value) (g : Nat) (h : g ≠ p.block) : (w.setCell p v).cell? ⟨g, 0, none⟩ = w.cell? ⟨g, 0, none⟩ :=
  World.cell?_setCell_other _ _ _ _ (fun e => h (by rw [e]))
/-- The book of known(), as it lies in memory: one figure of one row. -/
def BookAt (B : Nat) (w' : World) (g8 c g4 c1 : Nat) : Prop := B ≤ g8 ∧ g8 < w'.heap.size ∧ w'.cell? ⟨g8, 0, none⟩ = some (.slice (some ⟨g4, 0, none⟩) 1 c1) ∧ 1 ≤ c ∧ c ≤ maxLen ∧ B ≤ g4 ∧ g4 < w'.heap.size ∧ w'.cell? ⟨g4, 0, none⟩ = some (.string ⟨#[35]⟩) ∧ 1 ≤ c1 ∧ c1 ≤ maxLen
theorem info26 : (Tryz.prog.info? 26).map (fun i => (i.zero, i.size, i.bytes)) = some (some (.agg #[.slice none 0 0]), 1, 24) := by kernel_rfl
set_option maxRecDepth 100000 in
set_option maxHeartbeats 1600000 in
theorem parseText (m : Int) (w : World) (hm : w.cell? ⟨0, 0, none⟩ = some (.int .i64 m)) :
    Calls Tryz.prog 141 #[.string kText] w fun e w' => ∃ g8 c g4 c1 : Nat, e = .returned (.tuple #[.agg #[.int .i64 1, .int .i64 1, .int .i64 2, .int .i64 0, .int .i64 0, .int .i64 0, .slice (some ⟨g8, 0, none⟩) 1 c], .int .i64 0]) ∧ BookAt w.heap.size w' g8 c g4 c1 ∧ Below w.heap.size w w' := by
  have hmf : ∀ (fn : Fn) (first cap : Array Value) (w : World), (Instr.makeFunc fn first cap).run Tryz.prog w = .ok (.func fn first cap) w := fun _ _ _ _ => rfl
  have h00 : 0 < w.heap.size := block_lt_of_cell hm
  obtain ⟨i0, hi, hz0, hz1', hz2'⟩ := info_parts info26
  have hmB : ∀ w', Below w.heap.size w w' → w'.cell? ⟨0, 0, none⟩ = some (.int .i64 m) := fun w' hb => (hb.cell (p := ⟨0, 0, none⟩) h00).trans hm
  have hB2 : Below w.heap.size w ((w.alloc (.cells #[.int .i64 0, .int .i64 0, .int .i64 0, .int .i64 0, .int .i64 0, .int .i64 0, .slice none 0 0] 121)).alloc (.cells #[.int .i64 0] 31)) := ((Below.refl _ w).alloc (Nat.le_refl _) _).alloc (by simp only [World.size_alloc]; omega) _
  have hB3 : Below w.heap.size w (((w.alloc (.cells #[.int .i64 0, .int .i64 0, .int .i64 0, .int .i64 0, .int .i64 0, .int .i64 0, .slice none 0 0] 121)).alloc (.cells #[.int .i64 0] 31)).alloc (.cells #[.string kL0, .string kL1, .string kL2] 9)) := hB2.alloc hB2.size _
  have gT : Blk (((w.alloc (.cells #[.int .i64 0, .int .i64 0, .int .i64 0, .int .i64 0, .int .i64 0, .int .i64 0, .slice none 0 0] 121)).alloc (.cells #[.int .i64 0] 31)).alloc (.cells #[.string kL0, .string kL1, .string kL2] 9)) w.heap.size 121 #[.int .i64 0, .int .i64 0, .int .i64 0, .int .i64 0, .int .i64 0, .int .i64 0, .slice none 0 0] := ((Blk.new w 121 #[.int .i64 0, .int .i64 0, .int .i64 0, .int .i64 0, .int .i64 0, .int .i64 0, .slice none 0 0]).alloc _).alloc _
  have gE : Blk (((w.alloc (.cells #[.int .i64 0, .int .i64 0, .int .i64 0, .int .i64 0, .int .i64 0, .int .i64 0, .slice none 0 0] 121)).alloc (.cells #[.int .i64 0] 31)).alloc (.cells #[.string kL0, .string kL1, .string kL2] 9)) (w.heap.size + 1) 31 #[.int .i64 0] := (blk2 w _ 31 #[.int .i64 0]).alloc _
  have gL : Blk (((w.alloc (.cells #[.int .i64 0, .int .i64 0, .int .i64 0, .int .i64 0, .int .i64 0, .int .i64 0, .slice none 0 0] 121)).alloc (.cells #[.int .i64 0] 31)).alloc (.cells #[.string kL0, .string kL1, .string kL2] 9)) (w.heap.size + 1 + 1) 9 #[.string kL0, .string kL1, .string kL2] := by have h := Blk.new ((w.alloc (.cells #[.int .i64 0, .int .i64 0, .int .i64 0, .int .i64 0, .int .i64 0, .int .i64 0, .slice none 0 0] 121)).alloc (.cells #[.int .i64 0] 31)) 9 #[.string kL0, .string kL1, .string kL2]; simpa only [World.size_alloc] using h
  have hqL := fun i => gL.cell i; have hlL := gL.lt
  have hmW := hmB _ hB2
  go_enter_defers Tryz.func141, Tryz.ntmps141
  go_upto_region 6 with (first
    | (go_at_call 174; refine (linesK m _ hmW).mono ?_; rintro e w4 ⟨rfl, rfl⟩; clear hmW)
    | (go_at_call 175; refine (insist_ok _).mono ?_; rintro e w4 ⟨rfl, rfl⟩)
    | (go_at_call 177; refine (wordsK0 m _ (hmB _ hB3)).mono ?_; rintro e w4 ⟨v4, rfl, own4, hb4⟩; obtain ⟨A4, c4, rfl⟩ := own_slice own4; have hr4 := Rd.of_own own4; clear own4; replace gT := gT.below hb4 gT.lt; replace gE := gE.below hb4 gE.lt; replace gL := gL.below hb4 gL.lt; replace hB3 := hB3.trans (hb4.mono hB3.size); clear hb4 hqL hlL)
    | (go_at_call 176; refine (stageK A4 c4 _ hr4).mono ?_; rintro e w5 ⟨rfl, hb5⟩; clear hr4; replace gT := gT.below hb5 gT.lt; replace gE := gE.below hb5 gE.lt; replace gL := gL.below hb5 gL.lt; replace hB3 := hB3.trans (hb5.mono hB3.size); clear hb5; have hqT := fun i => gT.cell i; have hfT := fun i => gT.frozen i; have hlT := gT.lt))
  clear hqT hfT hlT
  replace gT := gT.set_ 0 (.int .i64 1)
  replace gE := gE.far (p := ⟨w.heap.size, 0, none⟩) (show w.heap.size + 1 ≠ w.heap.size by omega) (.int .i64 1)
  replace gL := gL.far (p := ⟨w.heap.size, 0, none⟩) (show w.heap.size + 1 + 1 ≠ w.heap.size by omega) (.int .i64 1)
  replace hB3 := hB3.setCell (p := ⟨w.heap.size, 0, none⟩) (Nat.le_refl w.heap.size) (.int .i64 1)
  replace gT := gT.set_ 1 (.int .i64 1)
  replace gE := gE.far (p := ⟨w.heap.size, 1, none⟩) (show w.heap.size + 1 ≠ w.heap.size by omega) (.int .i64 1)
  replace gL := gL.far (p := ⟨w.heap.size, 1, none⟩) (show w.heap.size + 1 + 1 ≠ w.heap.size by omega) (.int .i64 1)
  replace hB3 := hB3.setCell (p := ⟨w.heap.size, 1, none⟩) (Nat.le_refl w.heap.size) (.int .i64 1)
  replace gT := gT.set_ 2 (.int .i64 2)
  replace gE := gE.far (p := ⟨w.heap.size, 2, none⟩) (show w.heap.size + 1 ≠ w.heap.size by omega) (.int .i64 2)
  replace gL := gL.far (p := ⟨w.heap.size, 2, none⟩) (show w.heap.size + 1 + 1 ≠ w.heap.size by omega) (.int .i64 2)
  replace hB3 := hB3.setCell (p := ⟨w.heap.size, 2, none⟩) (Nat.le_refl w.heap.size) (.int .i64 2)
  replace gT := gT.set_ 3 (.int .i64 0)
  replace gE := gE.far (p := ⟨w.heap.size, 3, none⟩) (show w.heap.size + 1 ≠ w.heap.size by omega) (.int .i64 0)
  replace gL := gL.far (p := ⟨w.heap.size, 3, none⟩) (show w.heap.size + 1 + 1 ≠ w.heap.size by omega) (.int .i64 0)
  replace hB3 := hB3.setCell (p := ⟨w.heap.size, 3, none⟩) (Nat.le_refl w.heap.size) (.int .i64 0)
  replace gT := gT.set_ 4 (.int .i64 0)
  replace gE := gE.far (p := ⟨w.heap.size, 4, none⟩) (show w.heap.size + 1 ≠ w.heap.size by omega) (.int .i64 0)
  replace gL := gL.far (p := ⟨w.heap.size, 4, none⟩) (show w.heap.size + 1 + 1 ≠ w.heap.size by omega) (.int .i64 0)
  replace hB3 := hB3.setCell (p := ⟨w.heap.size, 4, none⟩) (Nat.le_refl w.heap.size) (.int .i64 0)
  replace gT := gT.set_ 5 (.int .i64 0)
  replace gE := gE.far (p := ⟨w.heap.size, 5, none⟩) (show w.heap.size + 1 ≠ w.heap.size by omega) (.int .i64 0)
  replace gL := gL.far (p := ⟨w.heap.size, 5, none⟩) (show w.heap.size + 1 + 1 ≠ w.heap.size by omega) (.int .i64 0)
  replace hB3 := hB3.setCell (p := ⟨w.heap.size, 5, none⟩) (Nat.le_refl w.heap.size) (.int .i64 0)
  replace gT : Blk ((((((w5.setCell ⟨w.heap.size, 0, none⟩ (.int .i64 1)).setCell ⟨w.heap.size, 1, none⟩ (.int .i64 1)).setCell ⟨w.heap.size, 2, none⟩ (.int .i64 2)).setCell ⟨w.heap.size, 3, none⟩ (.int .i64 0)).setCell ⟨w.heap.size, 4, none⟩ (.int .i64 0)).setCell ⟨w.heap.size, 5, none⟩ (.int .i64 0)) w.heap.size 121 #[.int .i64 1, .int .i64 1, .int .i64 2, .int .i64 0, .int .i64 0, .int .i64 0, .slice none 0 0] := gT
  generalize ((((((w5.setCell ⟨w.heap.size, 0, none⟩ (.int .i64 1)).setCell ⟨w.heap.size, 1, none⟩ (.int .i64 1)).setCell ⟨w.heap.size, 2, none⟩ (.int .i64 2)).setCell ⟨w.heap.size, 3, none⟩ (.int .i64 0)).setCell ⟨w.heap.size, 4, none⟩ (.int .i64 0)).setCell ⟨w.heap.size, 5, none⟩ (.int .i64 0)) = w6 at *
  go_wp2_with (fail)
  go_loopg [27] 1 (fun g i wr => ∃ k : Nat, g = 1 - k ∧ i = .int .i64 k ∧ Blk wr (w.heap.size + 1) 31 #[.int .i64 0] ∧ Blk wr (w.heap.size + 1 + 1) 9 #[.string kL0, .string kL1, .string kL2] ∧ Below w.heap.size w wr ∧ ((k = 0 ∧ Blk wr w.heap.size 121 #[.int .i64 1, .int .i64 1, .int .i64 2, .int .i64 0, .int .i64 0, .int .i64 0, .slice none 0 0]) ∨ (k = 1 ∧ ∃ g8 c g4 c1 : Nat, Blk wr w.heap.size 121 #[.int .i64 1, .int .i64 1, .int .i64 2, .int .i64 0, .int .i64 0, .int .i64 0, .slice (some ⟨g8, 0, none⟩) 1 c] ∧ w.heap.size + 1 < g8 ∧ g8 < wr.heap.size ∧ wr.cell? ⟨g8, 0, none⟩ = some (.slice (some ⟨g4, 0, none⟩) 1 c1) ∧ 1 ≤ c ∧ c ≤ maxLen ∧ w.heap.size + 1 < g4 ∧ g4 < wr.heap.size ∧ wr.cell? ⟨g4, 0, none⟩ = some (.string ⟨#[35]⟩) ∧ 1 ≤ c1 ∧ c1 ≤ maxLen)))
  case atStart => exact ⟨0, rfl, rfl, gE, gL, hB3, .inl ⟨rfl, gT⟩⟩
  case round =>
    clear gT gE gL hB3
    obtain ⟨k, hg, rfl, gE, gL, hB, ⟨rfl, gT⟩ | ⟨rfl, g8, c, g4, c1, gT, hw8, hl8, hcl8, hc1, hc2, hw4, hl4, hcl4, hc3, hc4⟩⟩ := hrel
    · have hqL := fun i => gL.cell i; have hlL := gL.lt
      go_wp2_with (fail)
      refine wp_nopanic ?_
      refine wp_region_G (fun w' => Blk w' w.heap.size 121 #[.int .i64 1, .int .i64 1, .int .i64 2, .int .i64 0, .int .i64 0, .int .i64 0, .slice none 0 0]) 8 (by kernel_rfl) ?_
      replace gT := gT.drew; replace gE := gE.drew; replace gL := gL.drew; replace hB := hB.drew
      have hTT := gT
      refine wpG_take (i := 0) (v := ?v0) rfl (by kernel_rfl) (by kernel_rfl) (by kernel_rfl) (by kernel_rfl) (fun _ _ _ h => h) (Or.inl ⟨by rfl, ?hy0⟩) hTT ?rest0
      case hy0 => intro wq hSw; have hq1 := fun i => hSw.cell i; go_simp <;> with_reducible rfl
      simp only [List.getElem_toArray, List.getElem_cons_zero, List.getElem_cons_succ, Act.put, List.setIfInBounds_toArray, List.set_cons_zero, List.set_cons_succ]
      refine wpG_take (i := 1) (v := ?v1) rfl (by kernel_rfl) (by kernel_rfl) (by kernel_rfl) (by kernel_rfl) (fun _ _ _ h => h) (Or.inl ⟨by rfl, ?hy1⟩) hTT ?rest1
      case hy1 => intro wq hSw; have hq1 := fun i => hSw.cell i; go_simp <;> with_reducible rfl
      simp only [List.getElem_toArray, List.getElem_cons_zero, List.getElem_cons_succ, Act.put, List.setIfInBounds_toArray, List.set_cons_zero, List.set_cons_succ]
      refine wpG_take (i := 2) (v := ?v2) rfl (by kernel_rfl) (by kernel_rfl) (by kernel_rfl) (by kernel_rfl) (fun _ _ _ h => h) (Or.inl ⟨by rfl, ?hy2⟩) hTT ?rest2
      case hy2 => intro wq hSw; have hq1 := fun i => hSw.cell i; go_simp <;> with_reducible rfl
      simp only [List.getElem_toArray, List.getElem_cons_zero, List.getElem_cons_succ, Act.put, List.setIfInBounds_toArray, List.set_cons_zero, List.set_cons_succ]
      refine wpG_one (i := 3) rfl (by kernel_rfl) (fun K hK => ?_)
      go_simp
      refine (wordsK1 m _ (hmB _ hB)).mono ?_; rintro e w7 ⟨v4, rfl, own4, hb4⟩; obtain ⟨g4, c4', rfl, hg4, hl4'⟩ := own4.form (Nat.succ_pos _)
      have hl4 := own_le0 own4; have hl4a : g4 < (w7.alloc (.cells #[.slice (some ⟨g4, 0, none⟩) 1 c4'] 26)).heap.size := (by rw [World.size_alloc]; omega); have hm4 := own_cap own4; have hcl4 : w7.cell? ⟨g4, 0, none⟩ = some (.string ⟨#[35]⟩) := own4.cellAt 0 (by omega); have hw4 : w.heap.size + 1 < g4 := Nat.lt_of_lt_of_le gE.lt hg4; clear own4; replace gT := gT.below hb4 gT.lt; replace gE := gE.below hb4 gE.lt; replace gL := gL.below hb4 gL.lt; replace hB := hB.trans (hb4.mono hB.size); clear hb4 hTT; have hTT := gT; dsimp only
      refine hK _ _ (.inr hTT) ?_
      clear hK K
      try simp only [List.getElem_toArray, List.getElem_cons_zero, List.getElem_cons_succ, Act.put, List.setIfInBounds_toArray, List.set_cons_zero, List.set_cons_succ]
      refine wpG_take (i := 4) (v := ?v4) rfl (by kernel_rfl) (by kernel_rfl) (by kernel_rfl) (by kernel_rfl) (fun _ _ _ h => h) (Or.inl ⟨by rfl, ?hy4⟩) hTT ?rest4
      case hy4 => intro wq hSw; have hq1 := fun i => hSw.cell i; go_simp <;> with_reducible rfl
      simp only [List.getElem_toArray, List.getElem_cons_zero, List.getElem_cons_succ, Act.put, List.setIfInBounds_toArray, List.set_cons_zero, List.set_cons_succ]
      refine wpG_one (i := 5) rfl (by kernel_rfl) (fun K hK => ?_)
      go_simp
      replace gT := gT.alloc (.cells #[.slice (some ⟨g4, 0, none⟩) 1 c4'] 26); replace gE := gE.alloc (.cells #[.slice (some ⟨g4, 0, none⟩) 1 c4'] 26); replace gL := gL.alloc (.cells #[.slice (some ⟨g4, 0, none⟩) 1 c4'] 26); replace hcl4 := (World.cell?_alloc_lt w7 (.cells #[.slice (some ⟨g4, 0, none⟩) 1 c4'] 26) ⟨g4, 0, none⟩ hl4').trans hcl4; replace hB := hB.alloc hB.size (.cells #[.slice (some ⟨g4, 0, none⟩) 1 c4'] 26); clear hTT; have hTT := gT
      refine hK _ _ (.inr hTT) ?_
      clear hK K
      try simp only [List.getElem_toArray, List.getElem_cons_zero, List.getElem_cons_succ, Act.put, List.setIfInBounds_toArray, List.set_cons_zero, List.set_cons_succ]
      refine wpG_one (i := 6) rfl (by kernel_rfl) (fun K hK => ?_)
      rw [if_pos (by rfl)]; refine wp_append_any _ _ _ 51 rfl (w.heap.size + 1 + 1) 26 i0 (.agg #[.slice none 0 0]) 1 24 Tryz.underlying51 hi hz0 hz1' hz2' rfl (by decide) _ 0 [] rfl (World.ownsRow_nil _ _ _ _) (w7.heap.size + 1) (some ⟨w7.heap.size, 0, none⟩) 1 1 [.slice (some ⟨g4, 0, none⟩) 1 c4'] rfl (Rd.blkN (Blk.new _ _ _) rfl (Nat.lt_succ_self _)).reads (by simp [Value.oneCell']) (by unfold maxLen; omega) (by omega) (by exact gE.lt) (fun v8 w8 hown8 hgrow hob => ?_)
      have hbW := (Below.refl _ _).grown hgrow (Nat.le_refl _) (fun z hz => by cases hz); replace gT := gT.below hbW gT.lt; replace gE := gE.below hbW gE.lt; replace gL := gL.below hbW gL.lt; replace hcl4 := (hbW.cell (p := ⟨g4, 0, none⟩) hl4a).trans hcl4; have hl48 := Nat.lt_of_lt_of_le hl4a hbW.size; replace hB := hB.trans (hbW.mono hB.size); obtain ⟨g8, c8, rfl, hg8, hl8⟩ := hown8.form (Nat.succ_pos _); have hl88 := own_le0 hown8; have hm8 := own_cap hown8; have hcl8 : w8.cell? ⟨g8, 0, none⟩ = some (.slice (some ⟨g4, 0, none⟩) 1 c4') := hown8.cellAt 0 (by omega); clear hbW hTT; have hTT := gT; have hqT := fun i => gT.cell i; have hfT := fun i => gT.frozen i; have hlT := gT.lt
      refine hK _ _ (.inr hTT) ?_
      clear hK K
      try simp only [List.getElem_toArray, List.getElem_cons_zero, List.getElem_cons_succ, Act.put, List.setIfInBounds_toArray, List.set_cons_zero, List.set_cons_succ]
      refine wpG_take (i := 7) (v := ?v7) rfl (by kernel_rfl) (by kernel_rfl) (by kernel_rfl) (by kernel_rfl) (fun _ _ _ h => h) (Or.inl ⟨by rfl, ?hy7⟩) hTT ?rest7
      case hy7 => intro wq hSw; have hq1 := fun i => hSw.cell i; go_simp <;> with_reducible rfl
      simp only [List.getElem_toArray, List.getElem_cons_zero, List.getElem_cons_succ, Act.put, List.setIfInBounds_toArray, List.set_cons_zero, List.set_cons_succ]
      refine wpG_one (i := 8) rfl (by kernel_rfl) (fun K hK => ?_)
      go_simp
      refine hK _ _ (.inl rfl) ?_
      clear hK K
      try simp only [List.getElem_toArray, List.getElem_cons_zero, List.getElem_cons_succ, Act.put, List.setIfInBounds_toArray, List.set_cons_zero, List.set_cons_succ]
      refine wpG_done (by kernel_rfl) ?_ _
      dsimp only
      have hne8 : g8 ≠ w.heap.size := by omega
      have hne4 : g4 ≠ w.heap.size := by omega
      clear hTT hqT hfT hlT hqL hlL
      replace gT := gT.set_ 6 (.slice (some ⟨g8, 0, none⟩) 1 c8)
      replace gE := gE.far (p := ⟨w.heap.size, 6, none⟩) (show w.heap.size + 1 ≠ w.heap.size by omega) (.slice (some ⟨g8, 0, none⟩) 1 c8)
      replace gL := gL.far (p := ⟨w.heap.size, 6, none⟩) (show w.heap.size + 1 + 1 ≠ w.heap.size by omega) (.slice (some ⟨g8, 0, none⟩) 1 c8)
      replace hB := hB.setCell (p := ⟨w.heap.size, 6, none⟩) (Nat.le_refl w.heap.size) (.slice (some ⟨g8, 0, none⟩) 1 c8)
      replace hcl8 := (cell_far w8 ⟨w.heap.size, 6, none⟩ (.slice (some ⟨g8, 0, none⟩) 1 c8) g8 hne8).trans hcl8
      replace hcl4 := (cell_far w8 ⟨w.heap.size, 6, none⟩ (.slice (some ⟨g8, 0, none⟩) 1 c8) g4 hne4).trans hcl4
      have hs9 : (w8.setCell ⟨w.heap.size, 6, none⟩ (.slice (some ⟨g8, 0, none⟩) 1 c8)).heap.size = w8.heap.size := by simp
      generalize w8.setCell ⟨w.heap.size, 6, none⟩ (.slice (some ⟨g8, 0, none⟩) 1 c8) = w9 at *
      go_wp2_with (fail)
      go_roundg (1 - (0 + 1))
      case measure => rw [hg]; omega
      case rel => exact ⟨0 + 1, rfl, by go_num, gE, gL, hB, .inr ⟨rfl, g8, c8, g4, c4', by simpa using gT, by omega, by omega, hcl8, hl88, hm8, by omega, by omega, hcl4, hl4, hm4⟩⟩
    · have hqL := fun i => gL.cell i; have hlL := gL.lt
      go_wp2_with (fail)
      have hbb := fun p i => blw_blk gL p i
      refine wp_region_blw (by kernel_rfl) (by kernel_rfl) ?_
      repeat (go_big_quiet_step (first | (go_at_call 172; exact Calls.blw_of _ (endK _ _ _ (gL.below (Blw.h _) gL.lt))) | (go_at_call 175; exact Calls.blw_of_same _ (insist_ok _))))
      refine wpQuiet_nil ?_
      rintro W3 ⟨⟨_, hb3⟩, rfl⟩
      replace gT := gT.below hb3 gT.lt; replace gE := gE.below hb3 gE.lt; replace hB := hB.trans (hb3.mono hB.size)
      have hqT := fun i => gT.cell i; have hfT := fun i => gT.frozen i; have hlT := gT.lt; have hqE := fun i => gE.cell i; have hfE := fun i => gE.frozen i; have hlE := gE.lt
      replace hcl8 := (hb3.cell (p := ⟨g8, 0, none⟩) hl8).trans hcl8; replace hcl4 := (hb3.cell (p := ⟨g4, 0, none⟩) hl4).trans hcl4; replace hl8 := Nat.lt_of_lt_of_le hl8 hb3.size; replace hl4 := Nat.lt_of_lt_of_le hl4 hb3.size
      clear hbb hqL hlL
      go_wp2_with (fail)
      clear hqT hfT hlT hqE hfE hlE
      replace gT := gT.set_ 0 (.int .i64 1); replace gE := gE.far (p := ⟨w.heap.size, 0, none⟩) (show w.heap.size + 1 ≠ w.heap.size by omega) (.int .i64 1); replace hB := hB.setCell (p := ⟨w.heap.size, 0, none⟩) (Nat.le_refl w.heap.size) (.int .i64 1); replace hcl8 := (cell_far _ ⟨w.heap.size, 0, none⟩ (.int .i64 1) g8 (show g8 ≠ w.heap.size by omega)).trans hcl8; replace hcl4 := (cell_far _ ⟨w.heap.size, 0, none⟩ (.int .i64 1) g4 (show g4 ≠ w.heap.size by omega)).trans hcl4
      replace gT := gT.set_ 1 (.int .i64 1); replace gE := gE.far (p := ⟨w.heap.size, 1, none⟩) (show w.heap.size + 1 ≠ w.heap.size by omega) (.int .i64 1); replace hB := hB.setCell (p := ⟨w.heap.size, 1, none⟩) (Nat.le_refl w.heap.size) (.int .i64 1); replace hcl8 := (cell_far _ ⟨w.heap.size, 1, none⟩ (.int .i64 1) g8 (show g8 ≠ w.heap.size by omega)).trans hcl8; replace hcl4 := (cell_far _ ⟨w.heap.size, 1, none⟩ (.int .i64 1) g4 (show g4 ≠ w.heap.size by omega)).trans hcl4
      replace gT := gT.set_ 2 (.int .i64 2); replace gE := gE.far (p := ⟨w.heap.size, 2, none⟩) (show w.heap.size + 1 ≠ w.heap.size by omega) (.int .i64 2); replace hB := hB.setCell (p := ⟨w.heap.size, 2, none⟩) (Nat.le_refl w.heap.size) (.int .i64 2); replace hcl8 := (cell_far _ ⟨w.heap.size, 2, none⟩ (.int .i64 2) g8 (show g8 ≠ w.heap.size by omega)).trans hcl8; replace hcl4 := (cell_far _ ⟨w.heap.size, 2, none⟩ (.int .i64 2) g4 (show g4 ≠ w.heap.size by omega)).trans hcl4
      replace gT := gT.set_ 3 (.int .i64 0); replace gE := gE.far (p := ⟨w.heap.size, 3, none⟩) (show w.heap.size + 1 ≠ w.heap.size by omega) (.int .i64 0); replace hB := hB.setCell (p := ⟨w.heap.size, 3, none⟩) (Nat.le_refl w.heap.size) (.int .i64 0); replace hcl8 := (cell_far _ ⟨w.heap.size, 3, none⟩ (.int .i64 0) g8 (show g8 ≠ w.heap.size by omega)).trans hcl8; replace hcl4 := (cell_far _ ⟨w.heap.size, 3, none⟩ (.int .i64 0) g4 (show g4 ≠ w.heap.size by omega)).trans hcl4
      replace gT := gT.set_ 4 (.int .i64 0); replace gE := gE.far (p := ⟨w.heap.size, 4, none⟩) (show w.heap.size + 1 ≠ w.heap.size by omega) (.int .i64 0); replace hB := hB.setCell (p := ⟨w.heap.size, 4, none⟩) (Nat.le_refl w.heap.size) (.int .i64 0); replace hcl8 := (cell_far _ ⟨w.heap.size, 4, none⟩ (.int .i64 0) g8 (show g8 ≠ w.heap.size by omega)).trans hcl8; replace hcl4 := (cell_far _ ⟨w.heap.size, 4, none⟩ (.int .i64 0) g4 (show g4 ≠ w.heap.size by omega)).trans hcl4
      replace gT := gT.set_ 5 (.int .i64 0); replace gE := gE.far (p := ⟨w.heap.size, 5, none⟩) (show w.heap.size + 1 ≠ w.heap.size by omega) (.int .i64 0); replace hB := hB.setCell (p := ⟨w.heap.size, 5, none⟩) (Nat.le_refl w.heap.size) (.int .i64 0); replace hcl8 := (cell_far _ ⟨w.heap.size, 5, none⟩ (.int .i64 0) g8 (show g8 ≠ w.heap.size by omega)).trans hcl8; replace hcl4 := (cell_far _ ⟨w.heap.size, 5, none⟩ (.int .i64 0) g4 (show g4 ≠ w.heap.size by omega)).trans hcl4
      replace gT := gT.set_ 6 (.slice (some ⟨g8, 0, none⟩) 1 c); replace gE := gE.far (p := ⟨w.heap.size, 6, none⟩) (show w.heap.size + 1 ≠ w.heap.size by omega) (.slice (some ⟨g8, 0, none⟩) 1 c); replace hB := hB.setCell (p := ⟨w.heap.size, 6, none⟩) (Nat.le_refl w.heap.size) (.slice (some ⟨g8, 0, none⟩) 1 c); replace hcl8 := (cell_far _ ⟨w.heap.size, 6, none⟩ (.slice (some ⟨g8, 0, none⟩) 1 c) g8 (show g8 ≠ w.heap.size by omega)).trans hcl8; replace hcl4 := (cell_far _ ⟨w.heap.size, 6, none⟩ (.slice (some ⟨g8, 0, none⟩) 1 c) g4 (show g4 ≠ w.heap.size by omega)).trans hcl4
      replace gE := gE.set_ 0 (.int .i64 0); replace gT := gT.far (p := ⟨w.heap.size + 1, 0, none⟩) (show w.heap.size ≠ w.heap.size + 1 by omega) (.int .i64 0); replace hB := hB.setCell (p := ⟨w.heap.size + 1, 0, none⟩) (show w.heap.size ≤ w.heap.size + 1 by omega) (.int .i64 0); replace hcl8 := (cell_far _ ⟨w.heap.size + 1, 0, none⟩ (.int .i64 0) g8 (show g8 ≠ w.heap.size + 1 by omega)).trans hcl8; replace hcl4 := (cell_far _ ⟨w.heap.size + 1, 0, none⟩ (.int .i64 0) g4 (show g4 ≠ w.heap.size + 1 by omega)).trans hcl4
      have hs : ((((((((W3.setCell ⟨w.heap.size, 0, none⟩ (.int .i64 1)).setCell ⟨w.heap.size, 1, none⟩ (.int .i64 1)).setCell ⟨w.heap.size, 2, none⟩ (.int .i64 2)).setCell ⟨w.heap.size, 3, none⟩ (.int .i64 0)).setCell ⟨w.heap.size, 4, none⟩ (.int .i64 0)).setCell ⟨w.heap.size, 5, none⟩ (.int .i64 0)).setCell ⟨w.heap.size, 6, none⟩ (.slice (some ⟨g8, 0, none⟩) 1 c)).setCell ⟨w.heap.size + 1, 0, none⟩ (.int .i64 0)).heap.size = W3.heap.size := by simp
      generalize ((((((((W3.setCell ⟨w.heap.size, 0, none⟩ (.int .i64 1)).setCell ⟨w.heap.size, 1, none⟩ (.int .i64 1)).setCell ⟨w.heap.size, 2, none⟩ (.int .i64 2)).setCell ⟨w.heap.size, 3, none⟩ (.int .i64 0)).setCell ⟨w.heap.size, 4, none⟩ (.int .i64 0)).setCell ⟨w.heap.size, 5, none⟩ (.int .i64 0)).setCell ⟨w.heap.size, 6, none⟩ (.slice (some ⟨g8, 0, none⟩) 1 c)).setCell ⟨w.heap.size + 1, 0, none⟩ (.int .i64 0)) = w9 at *
      refine leaves_cons (f := 173) (args := #[.pointer (some ⟨w.heap.size, 0, none⟩), .pointer (some ⟨w.heap.size + 1, 0, none⟩)]) (by simp) (by simp [go_sem]) ?_
      refine (parseIdle _ _ _).mono ?_
      rintro e u' w2 ⟨rfl, rfl, rfl⟩
      have hcT := fun i => gT.cell i; have hcE := fun i => gE.cell i
      refine ⟨.tuple #[.agg #[.int .i64 1, .int .i64 1, .int .i64 2, .int .i64 0, .int .i64 0, .int .i64 0, .slice (some ⟨g8, 0, none⟩) 1 c], .int .i64 0], ?_, _, _, _, _, rfl, ⟨by omega, by omega, hcl8, hc1, hc2, by omega, by omega, hcl4, hc3, hc4⟩, hB⟩
      simp [results, Tryz.results141, go_sem, hcT, hcE]
end
end Go.Proofs.YtifddfchpknkbaaGreatDoor
