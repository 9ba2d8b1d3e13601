import Derived.Test.YtifddfchpknkbaaGreatDoorVs
import Derived.Test.YtifddfchpknkbaaGreatDoorTx
import Derived.Test.YtifddfchpknkbaaGreatDoorPf
import Derived.Test.YtifddfchpknkbaaGreatDoorKn
import Derived.Lib.SplitLaws
set_option linter.unusedVariables false
set_option linter.unusedSimpArgs false
namespace Go.Proofs.YtifddfchpknkbaaGreatDoor
open Go.RowKit Go.Lib

/-- What a text asks of the world: the one variable left open is an int, and the table of powers is laid. -/
def Env (m : Int) (w : World) : Prop := w.cell? ⟨0, 0, none⟩ = some (.int .i64 m) ∧ TabIs Tryz.prog w "internal/strconv.uint64pow10" .u64 pow10Tab
theorem var_below {P : Program} {w w' : World} {name : String} {xs : Array Value} (h : w.var? P name = some xs) (hb : Below w.heap.size w w') : w'.var? P name = some xs := by
  unfold World.var? at h ⊢
  cases hg : P.globalNamed name with
  | none => rw [hg] at h; cases h
  | some g =>
    rw [hg] at h
    simp only [Option.bind_some] at h ⊢
    have hlt : g < w.heap.size := by
      rcases Nat.lt_or_ge g w.heap.size with h1 | h1
      · exact h1
      · rw [Array.getElem?_eq_none h1] at h; cases h
    rw [hb.block g hlt]
    exact h
theorem Env.below {m : Int} {w w' : World} (h : Env m w) (hb : Below w.heap.size w w') : Env m w' :=
  ⟨(hb.cell (p := ⟨0, 0, none⟩) (block_lt_of_cell h.1)).trans h.1, var_below h.2 hb⟩
theorem Env.belowB {m : Int} {w w' : World} {B : Nat} (h : Env m w) (hb : Below B w w') (hB : B = w.heap.size) : Env m w' := by subst hB; exact h.below hb
theorem below_ahead (w : World) (k : Nat) (os : Array Obj) : Below w.heap.size w (Sort.grow (w.drewN k) os) :=
  ⟨rfl, rfl, rfl, by simp [Sort.grow, World.drewN], fun k hk => by simp only [Sort.grow, World.drewN]; exact Array.getElem?_append_left hk⟩
theorem itoa_any (n : Nat) (hn : n < 1000000) (m : Int) (w : World) (h : Env m w) : Calls Tryz.prog 222 #[.int .i64 n] w fun e w' => e = .returned (.string ⟨(decDigits n).toArray⟩) ∧ Below w.heap.size w w' := by
  refine (Tryz.strconv_Itoa n (by omega) (by omega) w h.2).mono ?_
  rintro e w' ⟨rfl, k, os, rfl⟩
  exact ⟨by rw [itoa_nonneg], below_ahead _ _ _⟩
/-- A check, in three digits. -/
def dgt (v : Nat) : UInt8 := UInt8.ofNat (48 + v)
def dgt3 (v : Nat) : ByteArray := ⟨#[dgt (v / 100), dgt (v / 10 % 10), dgt (v % 10)]⟩
theorem dec_three {i : Nat} (h1 : 100 ≤ i) (h2 : i < 1000) : decDigits i = [UInt8.ofNat (48 + i / 100), UInt8.ofNat (48 + i / 10 % 10), UInt8.ofNat (48 + i % 10)] := by
  rw [decDigits, dif_neg (by omega), decDigits_two (by omega) (by omega)]
  have e1 : i / 10 / 10 = i / 100 := by omega
  rw [e1]
  rfl
theorem ba_cons {a b : Array UInt8} : (⟨a⟩ : ByteArray) ++ ⟨b⟩ = ⟨a ++ b⟩ := by apply ByteArray.ext; simp
set_option maxRecDepth 100000 in
set_option maxHeartbeats 1600000 in
theorem endWords_any (n : Nat) (hn : n < 1000) (m : Int) (w : World) (h : Env m w) : Calls Tryz.prog 280 #[.agg #[.int .i64 n]] w fun e w' => ∃ v, e = .returned v ∧ w'.ownsRow w.heap.size 9 1 v 1 [.string (dgt3 n)] ∧ Below w.heap.size w w' := by
  have hB0 := (Below.refl w.heap.size w).alloc (Nat.le_refl _) (.cells #[.int .i64 n] 252)
  have hS := Blk.new w 252 #[.int .i64 n]
  have hI := fun wx hx => itoa_any n (by omega) m wx hx
  have hE := h.below hB0
  have fin : ∀ (w1 : World) (r : ByteArray), r = dgt3 n → Below w.heap.size w w1 → ∃ v, Ending.returned (Value.slice (some ⟨w1.heap.size, 0, none⟩) 1 1) = .returned v ∧ (w1.alloc (.cells #[.string r] 9)).ownsRow w.heap.size 9 1 v 1 [.string (dgt3 n)] ∧ Below w.heap.size w (w1.alloc (.cells #[.string r] 9)) := fun w1 r hr hb => by
    subst hr
    have h := World.ownsRow_lit (base := w.heap.size) (e := 9) (size := 1) w1 #[.string (dgt3 n)] 1 hb.size (by unfold maxLen; omega) rfl
    exact ⟨_, rfl, h, hb.alloc hb.size _⟩
  rcases (show n < 10 ∨ (¬ n < 10 ∧ n < 100) ∨ 100 ≤ n by omega) with h1 | ⟨h1, h2⟩ | h1
  · have hd : (decDigits n).toArray = #[dgt n] := by rw [decDigits_one h1]; rfl
    have hr : (⟨(repeatL [48] 2).toArray⟩ : ByteArray) ++ ⟨#[dgt n]⟩ = dgt3 n := by
      rw [ba_cons]; unfold dgt3
      rw [show n / 100 = 0 by omega, show n / 10 % 10 = 0 by omega, show n % 10 = n by omega]; rfl
    rw [hd] at hI
    have hsz : ByteArray.size ⟨#[dgt n]⟩ = 1 := rfl
    have HI := Lib.hid hI; have HF := Lib.hid fin; have HR := Lib.hid hr; clear hI fin hr hd
    go_enter Tryz.func280, Tryz.ntmps280
    go_upto_region 1 with (fail)
    generalize w.alloc (.cells #[.int .i64 n] 252) = W0 at *
    have qS := fun i => Blk.cell hS i
    go_wp2_with (first
      | (go_at_call 222; refine (HI.out _ hE).mono ?_; rintro e w1 ⟨rfl, hb⟩; replace hB0 := hB0.trans (hb.mono hB0.size))
      | (go_at_call 151; refine (Tryz.strings_Repeat ⟨#[48]⟩ 2 _ (by omega) (by decide)).mono ?_; rintro e w2 ⟨rfl, hb2⟩; replace hB0 := hB0.trans (hb2.mono hB0.size)))
    go_ret
    exact HF.out _ _ HR.out hB0
  · have hd : (decDigits n).toArray = #[dgt (n / 10), dgt (n % 10)] := by rw [decDigits_two h1 h2]; rfl
    have hr : (⟨#[48]⟩ : ByteArray) ++ ⟨#[dgt (n / 10), dgt (n % 10)]⟩ = dgt3 n := by
      rw [ba_cons]; unfold dgt3
      rw [show n / 100 = 0 by omega, show n / 10 % 10 = n / 10 by omega]; rfl
    rw [hd] at hI
    have hsz : ByteArray.size ⟨#[dgt (n / 10), dgt (n % 10)]⟩ = 2 := rfl
    have HI := Lib.hid hI; have HF := Lib.hid fin; have HR := Lib.hid hr; clear hI fin hr hd
    go_enter Tryz.func280, Tryz.ntmps280
    go_upto_region 1 with (fail)
    generalize w.alloc (.cells #[.int .i64 n] 252) = W0 at *
    have qS := fun i => Blk.cell hS i
    go_wp2_with (first
      | (go_at_call 222; refine (HI.out _ hE).mono ?_; rintro e w1 ⟨rfl, hb⟩; replace hB0 := hB0.trans (hb.mono hB0.size))
      | (go_at_call 151; refine (Tryz.strings_Repeat_one ⟨#[48]⟩ _).mono ?_; rintro e w2 ⟨rfl, rfl⟩))
    go_ret
    exact HF.out _ _ HR.out hB0
  · have hd : (decDigits n).toArray = #[dgt (n / 100), dgt (n / 10 % 10), dgt (n % 10)] := by rw [dec_three h1 hn]; rfl
    have hr : (⟨(repeatL [48] 0).toArray⟩ : ByteArray) ++ ⟨#[dgt (n / 100), dgt (n / 10 % 10), dgt (n % 10)]⟩ = dgt3 n := by
      rw [ba_cons]; rfl
    rw [hd] at hI
    have hsz : ByteArray.size ⟨#[dgt (n / 100), dgt (n / 10 % 10), dgt (n % 10)]⟩ = 3 := rfl
    have HI := Lib.hid hI; have HF := Lib.hid fin; have HR := Lib.hid hr; clear hI fin hr hd
    go_enter Tryz.func280, Tryz.ntmps280
    go_upto_region 1 with (fail)
    generalize w.alloc (.cells #[.int .i64 n] 252) = W0 at *
    have qS := fun i => Blk.cell hS i
    go_wp2_with (first
      | (go_at_call 222; refine (HI.out _ hE).mono ?_; rintro e w1 ⟨rfl, hb⟩; replace hB0 := hB0.trans (hb.mono hB0.size))
      | (go_at_call 151; refine (Tryz.strings_Repeat ⟨#[48]⟩ 0 _ (by omega) (by decide)).mono ?_; rintro e w2 ⟨rfl, hb2⟩; replace hB0 := hB0.trans (hb2.mono hB0.size)))
    go_ret
    exact HF.out _ _ HR.out hB0
end Go.Proofs.YtifddfchpknkbaaGreatDoor

namespace Go.Proofs.YtifddfchpknkbaaGreatDoor
open Go.RowKit Go.Lib

def dS (a : Nat) : ByteArray := ⟨(decDigits a).toArray⟩
def jnS (xs : List ByteArray) (sep : ByteArray) : ByteArray := ⟨(join (xs.map (·.data.toList)) sep.data.toList).toArray⟩
theorem joinTail_len (sep : List UInt8) (M : Nat) : ∀ r : List (List UInt8), (∀ x ∈ r, x.length ≤ M) → (joinTail sep r).length ≤ r.length * (M + sep.length)
  | [], _ => by simp [joinTail]
  | x :: r, h => by
    have ih := joinTail_len sep M r (fun y hy => h y (by simp [hy]))
    have hx := h x (by simp)
    have e : joinTail sep (x :: r) = sep ++ x ++ joinTail sep r := by simp [joinTail]
    rw [e, List.length_append, List.length_append, List.length_cons, Nat.add_mul]
    omega
theorem join_len (sep : List UInt8) (M : Nat) (r : List (List UInt8)) (h : ∀ x ∈ r, x.length ≤ M) : (join r sep).length ≤ r.length * (M + sep.length) := by
  cases r with
  | nil => simp [join_nil]
  | cons x r =>
    rw [join_cons, List.length_append, List.length_cons, Nat.add_mul]
    have h1 := joinTail_len sep M r (fun y hy => h y (by simp [hy]))
    have h2 := h x (by simp)
    omega
theorem size_list (b : ByteArray) : b.data.toList.length = b.size := by cases b; rfl
theorem jnS_size (xs : List ByteArray) (sep : ByteArray) (M : Nat) (h : ∀ x ∈ xs, x.size ≤ M) : (jnS xs sep).size ≤ xs.length * (M + sep.size) := by
  have h1 := join_len sep.data.toList M (xs.map (·.data.toList)) (fun y hy => by obtain ⟨x, hx, rfl⟩ := List.mem_map.1 hy; rw [size_list]; exact h x hx)
  rw [List.length_map, size_list] at h1
  show (List.toArray (join (xs.map (·.data.toList)) sep.data.toList)).size ≤ _
  rw [List.size_toArray]
  exact h1
theorem jn_any (A : Option Addr) (n cap : Nat) (xs : List ByteArray) (sep : ByteArray) (w : World) (hn : 1 ≤ n) (hn2 : n ≤ 1000) (hcap : n ≤ cap) (hs : ∀ x ∈ xs, x.size ≤ 100000) (hsep : sep.size ≤ 10) (hr : Rd w w.heap.size 1 A n (xs.map Value.string)) :
    Calls Tryz.prog 161 #[.slice A n cap, .string sep] w fun e w' => e = .returned (.string (jnS xs sep)) ∧ Below w.heap.size w w' := by
  have hlen := hr.1
  rw [List.length_map, Nat.mul_one] at hlen
  obtain ⟨b, off, rfl, hb, hc⟩ := hr.2 (by omega)
  subst hlen
  refine Tryz.strings_Join b off cap xs sep w (fun j x hj => hc j _ (by rw [List.getElem?_map, hj]; rfl)) hb (by omega) hcap ?_
  have h1 := join_len sep.data.toList 100000 (xs.map (·.data.toList)) (fun y hy => by obtain ⟨x, hx, rfl⟩ := List.mem_map.1 hy; rw [size_list]; exact hs x hx)
  rw [List.length_map, size_list] at h1
  have h2 : xs.length * (100000 + sep.size) ≤ 1000 * 100010 := Nat.mul_le_mul hn2 (by omega)
  omega
theorem info9' : (Tryz.prog.info? 9).map (fun i => (i.zero, i.size, i.bytes)) = some (some (.string ByteArray.empty), 1, 16) := by kernel_rfl
set_option maxRecDepth 100000 in
set_option maxHeartbeats 1600000 in
theorem stageWords_any (a0 a1 a2 a3 a4 a5 : Nat) (ha : ∀ a ∈ [a0, a1, a2, a3, a4, a5], a < 1000000) (m : Int) (w : World) (h : Env m w) :
    Calls Tryz.prog 277 #[.agg #[.int .i64 a0, .int .i64 a1, .int .i64 a2, .int .i64 a3, .int .i64 a4, .int .i64 a5]] w fun e w' => ∃ v, e = .returned v ∧ w'.ownsRow w.heap.size 9 1 v 6 (([a0, a1, a2, a3, a4, a5].map dS).map Value.string) ∧ Below w.heap.size w w' := by
  obtain ⟨i9, hi, hz0, hz1', hz2'⟩ := info_parts info9'
  have hB := (Below.refl w.heap.size w).alloc (Nat.le_refl _) (.cells #[.int .i64 a0, .int .i64 a1, .int .i64 a2, .int .i64 a3, .int .i64 a4, .int .i64 a5] 218)
  have hS := Blk.new w 218 #[.int .i64 a0, .int .i64 a1, .int .i64 a2, .int .i64 a3, .int .i64 a4, .int .i64 a5]
  have hix : ∀ (k : Nat) (hk : k < 6) w, (Instr.index 256 (.agg #[.int .i64 a0, .int .i64 a1, .int .i64 a2, .int .i64 a3, .int .i64 a4, .int .i64 a5]) (.int .i64 k)).run Tryz.prog w = .ok (.int .i64 ([a0, a1, a2, a3, a4, a5][k]'hk : Nat)) w := fun k hk w => by
    rcases (show k = 0 ∨ k = 1 ∨ k = 2 ∨ k = 3 ∨ k = 4 ∨ k = 5 by omega) with rfl | rfl | rfl | rfl | rfl | rfl
    all_goals kernel_rfl
  have HIX := Lib.hid hix; have HA := Lib.hid ha; clear hix ha
  obtain ⟨lz, has⟩ : ∃ lz, lz = [a0, a1, a2, a3, a4, a5] := ⟨_, rfl⟩
  have hal : lz.length = 6 := by rw [has]; rfl
  have HAL := Lib.hid hal; have HAS := Lib.hid has; clear hal
  rw [← has]
  clear has
  go_enter Tryz.func277, Tryz.ntmps277
  go_upto_region 1 with (fail)
  generalize w.alloc (.cells #[.int .i64 a0, .int .i64 a1, .int .i64 a2, .int .i64 a3, .int .i64 a4, .int .i64 a5] 218) = W0 at *
  have qS := fun i => Blk.cell hS i
  go_wp2_with (fail)
  clear qS hS
  go_loopg [3, 25] 6 (fun g v i wr => ∃ (k : Nat) (v0 : Value), g = 6 - k ∧ k ≤ 6 ∧ v = v0 ∧ i = .int .i64 k ∧ wr.ownsRow w.heap.size 9 1 v0 k (((lz.take k).map dS).map Value.string) ∧ Below w.heap.size w wr)
  case atStart => exact ⟨0, _, rfl, by omega, rfl, rfl, World.ownsRow_nil _ _ _ _, hB⟩
  case round =>
    clear hB
    obtain ⟨k, v0, hg, hk, rfl, rfl, hown, hB⟩ := hrel
    obtain ⟨va, vc, rfl⟩ := own_slice hown
    have HG := Lib.hid hg; clear hg
    rename World => W1
    by_cases hlt : k < 6
    · have hlti : (k : Int) < 6 := by omega
      have hzk : k < lz.length := by rw [HAL.out]; exact hlt
      have hx := HIX.out k hlt
      have hax := HA.out lz[k] (by have := HAS.out; subst this; exact List.getElem_mem hzk)
      have hts : (lz.take (k + 1)).map dS = (lz.take k).map dS ++ [dS lz[k]] := by rw [List.take_succ_eq_append_getElem hzk, List.map_append]; rfl
      have hxe : ∀ w, (Instr.index 256 (.agg #[.int .i64 a0, .int .i64 a1, .int .i64 a2, .int .i64 a3, .int .i64 a4, .int .i64 a5]) (.int .i64 k)).run Tryz.prog w = .ok (.int .i64 (lz[k] : Nat)) w := fun w => by
        rw [hx w]; have := HAS.out; subst this; rfl
      clear hx
      generalize lz[k] = a at *
      obtain ⟨ys, hys⟩ : ∃ ys, ys = ((lz.take k).map dS).map Value.string := ⟨_, rfl⟩
      rw [← hys] at hown
      have HTS := Lib.hid hts; have HYS := Lib.hid hys; clear hts hys
      have hE := h.below hB
      go_wp2_with (first
        | (go_at_call 222; refine (itoa_any a hax m _ hE).mono ?_; rintro e w1 ⟨rfl, hb⟩; replace hown := ownsRow_below' hown hb; replace hB := hB.trans (hb.mono hB.size); clear hb hE)
        | (at_builtin; refine wpList_append_any _ rfl _ _ 24 rfl w.heap.size 9 i9 (.string ByteArray.empty) 1 16 Tryz.underlying24 hi hz0 hz1' hz2' rfl (by decide) (.slice va k vc) k ys rfl (hown.alloc _) (w1.heap.size + 1) (some ⟨w1.heap.size, 0, none⟩) 1 1 [.string (dS a)] rfl (Rd.blkN (Blk.new w1 9 #[.string (dS a)]) rfl (Nat.lt_succ_self _)).reads (by simp [Value.oneCell']) (by unfold maxLen; omega) (by omega) (by have := hB.size; simp only [World.size_alloc]; omega) (fun v' w' hown' hgrow hob => ?_))
        | go_in)
      have hB2 := (hB.alloc hB.size (.cells #[.string (dS a)] 9)).grown hgrow (by have := hB.size; simp only [World.size_alloc]; omega) (fun g hg => ((hown.alloc (.cells #[.string (dS a)] 9)).lt g hg).1)
      go_roundg (6 - (k + 1))
      case measure => rw [HG.out]; omega
      case rel => exact ⟨k + 1, _, rfl, by omega, rfl, by go_num, by rw [HTS.out, List.map_append, ← HYS.out]; exact hown', hB2⟩
    · obtain rfl : k = 6 := by omega
      have htk : lz.take 6 = lz := List.take_of_length_le (by have := HAL.out; omega)
      rw [htk] at hown
      clear htk
      go_wp2_with (fail)
      go_ret
      exact ⟨_, rfl, hown, hB⟩
set_option maxRecDepth 100000 in
theorem figureWords_any (A : Option Addr) (n cap : Nat) (rows : List ByteArray) (w : World) (hn : 1 ≤ n) (hn2 : n ≤ 100000) (hr : Rd w w.heap.size 1 A n (rows.map Value.string)) :
    Calls Tryz.prog 278 #[.agg #[.slice A n cap]] w fun e w' => ∃ v, e = .returned v ∧ w'.ownsRow w.heap.size 9 1 v n (rows.map Value.string) ∧ Below w.heap.size w w' := by
  have hlen := hr.1
  rw [List.length_map, Nat.mul_one] at hlen
  have hB := (Below.refl w.heap.size w).alloc (Nat.le_refl _) (.cells #[.slice A n cap] 220)
  have hS := Blk.new w 220 #[.slice A n cap]
  obtain ⟨b, off, rfl, hb, hc⟩ := ((hr.below hB).more hB.size).2 (by omega)
  have HL := Lib.hid hlen; clear hlen
  have hcz : ∀ j, j < rows.length → (w.alloc (.cells #[.slice (some ⟨b, off, none⟩) n cap] 220)).cell? ⟨b, off + j, none⟩ = some (.string (rows.getD j ByteArray.empty)) := fun j hj => hc j _ (by simp [List.getD, hj])
  clear hc
  go_enter Tryz.func278, Tryz.ntmps278
  go_upto_region 1 with (fail)
  generalize w.alloc (.cells #[.slice (some ⟨b, off, none⟩) n cap] 220) = W0 at *
  have qS := fun i => Blk.cell hS i
  go_wp2_with (go_at_call 202; refine (Tryz.slices_Clone_string b off n cap rows _ (by rw [HL.out]; exact Nat.le_refl _) (by omega) hcz).mono ?_; rintro e w1 ⟨v, rfl, own, _, hb1⟩; rw [List.take_of_length_le (by rw [HL.out]; exact Nat.le_refl _)] at own; replace own := own_mono own hB.size; replace hB := hB.trans (hb1.mono hB.size))
  go_ret
  exact ⟨_, rfl, own, hB⟩
end Go.Proofs.YtifddfchpknkbaaGreatDoor

namespace Go.Proofs.YtifddfchpknkbaaGreatDoor
open Go.RowKit Go.Lib

def wStage : ByteArray := ⟨#[115, 116, 97, 103, 101]⟩
def wFigure : ByteArray := ⟨#[102, 105, 103, 117, 114, 101]⟩
def wEnd : ByteArray := ⟨#[101, 110, 100]⟩
set_option maxRecDepth 100000 in
theorem kindOf_stage (a0 a1 a2 a3 a4 a5 : Int) (w : World) : Calls Tryz.prog 195 #[.iface 218 (.agg #[.int .i64 a0, .int .i64 a1, .int .i64 a2, .int .i64 a3, .int .i64 a4, .int .i64 a5])] w fun e w' => e = .returned (.int .i64 0) ∧ w = w' := by
  have h1 : ∀ w, (Instr.typeAssert (.iface 218 (.agg #[.int .i64 a0, .int .i64 a1, .int .i64 a2, .int .i64 a3, .int .i64 a4, .int .i64 a5])) 248 218 true).run Tryz.prog w = .ok (.tuple #[.agg #[.int .i64 a0, .int .i64 a1, .int .i64 a2, .int .i64 a3, .int .i64 a4, .int .i64 a5], .bool true]) w := fun _ => by kernel_rfl
  go_enter Tryz.func195, Tryz.ntmps195
  go_wp2
  go_ret
  exact ⟨rfl, rfl⟩
set_option maxRecDepth 100000 in
theorem kindOf_figure (v : Value) (w : World) : Calls Tryz.prog 195 #[.iface 220 (.agg #[v])] w fun e w' => e = .returned (.int .i64 1) ∧ w = w' := by
  have h1 : ∀ w, (Instr.typeAssert (.iface 220 (.agg #[v])) 248 218 true).run Tryz.prog w = .ok (.tuple #[.agg #[.int .i64 0, .int .i64 0, .int .i64 0, .int .i64 0, .int .i64 0, .int .i64 0], .bool false]) w := fun _ => by kernel_rfl
  have h2 : ∀ w, (Instr.typeAssert (.iface 220 (.agg #[v])) 248 220 true).run Tryz.prog w = .ok (.tuple #[.agg #[v], .bool true]) w := fun _ => by kernel_rfl
  go_enter Tryz.func195, Tryz.ntmps195
  go_wp2
  go_ret
  exact ⟨rfl, rfl⟩
/-- A line: its word, a blank, and the words behind it. -/
def lineS (wd : ByteArray) (ws : List ByteArray) : ByteArray := wd ++ ⟨#[32]⟩ ++ jnS ws ⟨#[32]⟩
theorem size_app (a b : ByteArray) : (a ++ b).size = a.size + b.size := ByteArray.size_append
theorem dS_size (a : Nat) (ha : a < 1000) : (dS a).size ≤ 3 := by
  have h : (decDigits a).length ≤ 3 := by
    rcases (show a < 10 ∨ (¬ a < 10 ∧ a < 100) ∨ 100 ≤ a by omega) with h1 | ⟨h1, h2⟩ | h1
    · rw [decDigits_one h1]; exact (by decide : 1 ≤ 3)
    · rw [decDigits_two h1 h2]; exact Nat.le_succ _
    · rw [dec_three h1 ha]; exact Nat.le_refl _
  show (List.toArray (decDigits a)).size ≤ 3
  rw [List.size_toArray]; exact h
set_option maxRecDepth 100000 in
set_option maxHeartbeats 800000 in
theorem writeStage_any (a0 a1 a2 a3 a4 a5 : Nat) (ha : ∀ a ∈ [a0, a1, a2, a3, a4, a5], a < 1000) (m : Int) (w : World) (h : Env m w) :
    Calls Tryz.prog 171 #[.iface 218 (.agg #[.int .i64 a0, .int .i64 a1, .int .i64 a2, .int .i64 a3, .int .i64 a4, .int .i64 a5])] w fun e w' => e = .returned (.string (lineS wStage ([a0, a1, a2, a3, a4, a5].map dS))) ∧ Below w.heap.size w w' := by
  have hm : ∀ w, (method 425 218 (.agg #[.int .i64 a0, .int .i64 a1, .int .i64 a2, .int .i64 a3, .int .i64 a4, .int .i64 a5]) "kelir/outline.words").run Tryz.prog w = .ok (277, .agg #[.int .i64 a0, .int .i64 a1, .int .i64 a2, .int .i64 a3, .int .i64 a4, .int .i64 a5]) w := fun _ => by kernel_rfl
  have hW := fun wx hx => stageWords_any a0 a1 a2 a3 a4 a5 (fun a h => by have := ha a h; omega) m wx hx
  have hds : ∀ x ∈ [a0, a1, a2, a3, a4, a5].map dS, x.size ≤ 3 := fun x hx => by
    obtain ⟨a, ha', rfl⟩ := List.mem_map.1 hx
    exact dS_size a (ha a ha')
  obtain ⟨ds, hd⟩ : ∃ ds, ds = [a0, a1, a2, a3, a4, a5].map dS := ⟨_, rfl⟩
  have hdl : ds.length = 6 := by rw [hd]; rfl
  rw [← hd] at hds ⊢
  rw [← hd] at hW
  have hjs := jnS_size ds ⟨#[32]⟩ 3 hds
  have hjz : (jnS ds ⟨#[32]⟩).size ≤ 100 := by rw [hdl] at hjs; exact Nat.le_trans hjs (by decide)
  have HDS := Lib.hid hds; have HW := Lib.hid hW
  have HJ := Lib.hid (rfl : jnS ds ⟨#[32]⟩ = jnS ds ⟨#[32]⟩)
  clear hds hW hd hdl hjs ha HJ
  have hfin : lineS wStage ds = wStage ++ ⟨#[32]⟩ ++ jnS ds ⟨#[32]⟩ := rfl
  have HF := Lib.hid hfin; clear hfin
  have hjoin := fun (A : Option Addr) (c : Nat) (wx : World) hc hr => jn_any A 6 c ds ⟨#[32]⟩ wx (by omega) (by omega) hc (fun x hx => by have := HDS.out x hx; omega) (by decide) hr
  generalize jnS ds ⟨#[32]⟩ = J at *
  have hno : ¬ 9223372036854775807 < 6 + J.size := by omega
  have HJN := Lib.hid hjoin; clear hjoin
  go_enter Tryz.func171, Tryz.ntmps171
  go_wp2_with (first
    | (go_at_call 195; refine (kindOf_stage _ _ _ _ _ _ _).mono ?_; rintro e w1 ⟨rfl, rfl⟩)
    | (go_at_call 196; refine (word_stage _).mono ?_; rintro e w1 ⟨rfl, rfl⟩)
    | (go_at_call 277; refine (HW.out _ h).mono ?_; rintro e w1 ⟨v1, rfl, own1, hb1⟩; obtain ⟨A1, c1, rfl⟩ := own_slice own1; have hc1 := own_le0 own1; have hr1 := Rd.of_own own1; clear own1)
    | (go_at_call 161; refine (HJN.out A1 c1 _ hc1 hr1).mono ?_; rintro e w2 ⟨rfl, hb2⟩))
  go_ret
  exact ⟨by rw [HF.out]; rfl, hb1.trans (hb2.mono hb1.size)⟩
set_option maxRecDepth 100000 in
set_option maxHeartbeats 800000 in
theorem writeFigure_any (A : Option Addr) (n cap : Nat) (rows : List ByteArray) (w : World) (hn : 1 ≤ n) (hn2 : n ≤ 1000) (hs : ∀ r ∈ rows, r.size ≤ 1000) (hr : Rd w w.heap.size 1 A n (rows.map Value.string)) :
    Calls Tryz.prog 171 #[.iface 220 (.agg #[.slice A n cap])] w fun e w' => e = .returned (.string (lineS wFigure rows)) ∧ Below w.heap.size w w' := by
  have hm : ∀ w, (method 425 220 (.agg #[.slice A n cap]) "kelir/outline.words").run Tryz.prog w = .ok (278, .agg #[.slice A n cap]) w := fun _ => by kernel_rfl
  have hlen := hr.1
  rw [List.length_map, Nat.mul_one] at hlen
  have hjs := jnS_size rows ⟨#[32]⟩ 1000 hs
  have hjz : (jnS rows ⟨#[32]⟩).size ≤ 1001000 := by
    rw [hlen] at hjs
    exact Nat.le_trans hjs (Nat.mul_le_mul hn2 (show 1000 + ByteArray.size ⟨#[32]⟩ ≤ 1001 by decide))
  have hfin : lineS wFigure rows = wFigure ++ ⟨#[32]⟩ ++ jnS rows ⟨#[32]⟩ := rfl
  have HF := Lib.hid hfin; have HL := Lib.hid hlen; clear hfin hjs hlen
  have hjoin := fun (A : Option Addr) (c : Nat) (wx : World) hc hr => jn_any A n c rows ⟨#[32]⟩ wx hn hn2 hc (fun x hx => by have := hs x hx; omega) (by decide) hr
  generalize jnS rows ⟨#[32]⟩ = J at *
  have hno : ¬ 9223372036854775807 < 7 + J.size := by omega
  have HJN := Lib.hid hjoin; clear hjoin
  go_enter Tryz.func171, Tryz.ntmps171
  go_wp2_with (first
    | (go_at_call 195; refine (kindOf_figure _ _).mono ?_; rintro e w1 ⟨rfl, rfl⟩)
    | (go_at_call 196; refine (word_figure _).mono ?_; rintro e w1 ⟨rfl, rfl⟩)
    | (go_at_call 278; refine (figureWords_any A n cap rows _ hn (by omega) hr).mono ?_; rintro e w1 ⟨v1, rfl, own1, hb1⟩; obtain ⟨A1, c1, rfl⟩ := own_slice own1; have hc1 := own_le0 own1; have hr1 := Rd.of_own own1; clear own1)
    | (go_at_call 161; refine (HJN.out A1 c1 _ hc1 hr1).mono ?_; rintro e w2 ⟨rfl, hb2⟩))
  go_ret
  exact ⟨by rw [HF.out]; rfl, hb1.trans (hb2.mono hb1.size)⟩
set_option maxRecDepth 100000 in
set_option maxHeartbeats 800000 in
theorem writeEnd_any (n : Nat) (hn : n < 1000) (m : Int) (w : World) (h : Env m w) : Calls Tryz.prog 171 #[.iface 252 (.agg #[.int .i64 n])] w fun e w' => e = .returned (.string (lineS wEnd [dgt3 n])) ∧ Below w.heap.size w w' := by
  have hm : ∀ w, (method 425 252 (.agg #[.int .i64 n]) "kelir/outline.words").run Tryz.prog w = .ok (280, .agg #[.int .i64 n]) w := fun _ => by kernel_rfl
  have hd3 : (dgt3 n).size = 3 := rfl
  have hjs := jnS_size [dgt3 n] ⟨#[32]⟩ 3 (fun x hx => by obtain rfl : x = dgt3 n := (by simpa using hx); rw [hd3]; exact Nat.le_refl _)
  have hjz : (jnS [dgt3 n] ⟨#[32]⟩).size ≤ 100 := Nat.le_trans hjs (show 1 * (3 + 1) ≤ 100 by decide)
  have hfin : lineS wEnd [dgt3 n] = wEnd ++ ⟨#[32]⟩ ++ jnS [dgt3 n] ⟨#[32]⟩ := rfl
  have HF := Lib.hid hfin; clear hfin hjs
  have hjoin := fun (A : Option Addr) (c : Nat) (wx : World) hc hr => jn_any A 1 c [dgt3 n] ⟨#[32]⟩ wx (by omega) (by omega) hc (fun x hx => by obtain rfl : x = dgt3 n := (by simpa using hx); rw [hd3]; omega) (by decide) hr
  generalize jnS [dgt3 n] ⟨#[32]⟩ = J at *
  have hno : ¬ 9223372036854775807 < 4 + J.size := by omega
  have HJN := Lib.hid hjoin; clear hjoin hd3
  go_enter Tryz.func171, Tryz.ntmps171
  go_wp2_with (first
    | (go_at_call 195; refine (kindOf_end _ _).mono ?_; rintro e w1 ⟨rfl, rfl⟩)
    | (go_at_call 196; refine (word_end _).mono ?_; rintro e w1 ⟨rfl, rfl⟩)
    | (go_at_call 280; refine (endWords_any n hn m _ h).mono ?_; rintro e w1 ⟨v1, rfl, own1, hb1⟩; obtain ⟨A1, c1, rfl⟩ := own_slice own1; have hc1 := own_le0 own1; have hr1 := Rd.of_own own1; clear own1)
    | (go_at_call 161; refine (HJN.out A1 c1 _ hc1 hr1).mono ?_; rintro e w2 ⟨rfl, hb2⟩))
  go_ret
  exact ⟨by rw [HF.out]; rfl, hb1.trans (hb2.mono hb1.size)⟩
set_option maxRecDepth 100000 in
theorem endOf_any (A : Option Addr) (n cap : Nat) (rs : List ByteArray) (s : Nat) (m : Int) (w : World) (hn : n ≤ 100000) (hs : ∀ r ∈ rs, r.size ≤ 100000) (hr : Rd w w.heap.size 1 A n (rs.map Value.string)) (hsum : sumA rs 0 0 = s) (h : Env m w) :
    Calls Tryz.prog 172 #[.slice A n cap] w fun e w' => e = .returned (.string (lineS wEnd [dgt3 (s % 173)])) ∧ Below w.heap.size w w' := by
  have hmod : (s : Int).tmod 173 = ((s % 173 : Nat) : Int) := rfl
  have hlt : s % 173 < 1000 := by have := Nat.mod_lt s (show 0 < 173 by omega); omega
  have hS := fun wx hx => sum_any A n cap rs wx hn hs hx
  rw [hsum] at hS
  have HS := Lib.hid hS; clear hS hsum
  generalize s % 173 = q at *
  go_enter Tryz.func172, Tryz.ntmps172
  go_wp2_with (first
    | (go_at_call 197; refine (HS.out _ hr).mono ?_; rintro e w1 ⟨rfl, rfl⟩)
    | (go_at_call 171; refine (writeEnd_any q hlt m _ h).mono ?_; rintro e w1 ⟨rfl, hb1⟩))
  go_ret
  exact ⟨rfl, hb1⟩
end Go.Proofs.YtifddfchpknkbaaGreatDoor

namespace Go.Proofs.YtifddfchpknkbaaGreatDoor
open Go.RowKit Go.Lib

def figL (f : Fig) : ByteArray := lineS wFigure f.rows
/-- The lines of a book ahead of its last one. -/
def linesL (ns : List Nat) (fs : List Fig) : List ByteArray := lineS wStage (ns.map dS) :: fs.map figL
def textS (L : List ByteArray) (s : Nat) : ByteArray := jnS L ⟨#[10]⟩ ++ ⟨#[10]⟩ ++ lineS wEnd [dgt3 (s % 173)] ++ ⟨#[10]⟩
theorem lineS_size (wd : ByteArray) (ws : List ByteArray) (M : Nat) (h : ∀ x ∈ ws, x.size ≤ M) : (lineS wd ws).size ≤ wd.size + 1 + ws.length * (M + 1) := by
  have h1 := jnS_size ws ⟨#[32]⟩ M h
  unfold lineS
  rw [size_app, size_app]
  have e : ByteArray.size ⟨#[32]⟩ = 1 := rfl
  rw [e] at h1 ⊢
  omega
set_option maxRecDepth 100000 in
set_option maxHeartbeats 3200000 in
theorem write_any (a0 a1 a2 a3 a4 a5 : Nat) (ha : ∀ a ∈ [a0, a1, a2, a3, a4, a5], a < 1000) (A : Option Addr) (n cap : Nat) (fs : List Fig) (s : Nat) (m : Int) (w : World) (hE : Env m w) (hn : n ≤ 100) (hf : ∀ f ∈ fs, f.ok w w.heap.size) (hfs : ∀ f ∈ fs, 1 ≤ f.rows.length ∧ f.rows.length ≤ 50 ∧ ∀ r ∈ f.rows, r.size ≤ 1000) (hr : Rd w w.heap.size 1 A n (fs.map Fig.val)) (hsum : sumA (linesL [a0, a1, a2, a3, a4, a5] fs) 0 0 = s) :
    Calls Tryz.prog 140 #[.agg #[.int .i64 a0, .int .i64 a1, .int .i64 a2, .int .i64 a3, .int .i64 a4, .int .i64 a5, .slice A n cap]] w fun e w' => e = .returned (.string (textS (linesL [a0, a1, a2, a3, a4, a5] fs) s)) ∧ Below w.heap.size w w' := by
  obtain ⟨i9, hi, hz0, hz1', hz2'⟩ := info_parts info9'
  have hlen := hr.len
  have hB := (Below.refl w.heap.size w).alloc (Nat.le_refl _) (.cells #[.int .i64 a0, .int .i64 a1, .int .i64 a2, .int .i64 a3, .int .i64 a4, .int .i64 a5, .slice A n cap] 121)
  have hS := Blk.new w 121 #[.int .i64 a0, .int .i64 a1, .int .i64 a2, .int .i64 a3, .int .i64 a4, .int .i64 a5, .slice A n cap]
  have hWS := fun wx hx => writeStage_any a0 a1 a2 a3 a4 a5 ha m wx hx
  obtain ⟨l0, hl0⟩ : ∃ l0, l0 = lineS wStage ([a0, a1, a2, a3, a4, a5].map dS) := ⟨_, rfl⟩
  have hl0s : l0.size ≤ 100000 := by
    rw [hl0]
    have h1 := lineS_size wStage ([a0, a1, a2, a3, a4, a5].map dS) 3 (fun x hx => by obtain ⟨a, ha', rfl⟩ := List.mem_map.1 hx; exact dS_size a (ha a ha'))
    exact Nat.le_trans h1 (show 5 + 1 + 6 * (3 + 1) ≤ 100000 by decide)
  have hfl : ∀ f ∈ fs, (figL f).size ≤ 100000 := fun f hf' => by
    obtain ⟨h1, h2, h3⟩ := hfs f hf'
    have h4 := lineS_size wFigure f.rows 1000 h3
    have h5 : wFigure.size = 6 := rfl
    have h6 : f.rows.length * (1000 + 1) ≤ 50 * 1001 := Nat.mul_le_mul h2 (Nat.le_refl _)
    unfold figL
    omega
  have hLL : linesL [a0, a1, a2, a3, a4, a5] fs = l0 :: fs.map figL := by rw [hl0]; rfl
  rw [hLL] at hsum ⊢
  rw [← hl0] at hWS
  have hall : ∀ x ∈ l0 :: fs.map figL, x.size ≤ 100000 := fun x hx => by
    rcases List.mem_cons.1 hx with rfl | hx
    · exact hl0s
    · obtain ⟨f, hf', rfl⟩ := List.mem_map.1 hx
      exact hfl f hf'
  have HWS := Lib.hid hWS; have HLEN := Lib.hid hlen; have HALL := Lib.hid hall; have HSUM := Lib.hid hsum
  clear hWS hlen hall hsum hLL hl0 hl0s hfl ha
  go_enter Tryz.func140, Tryz.ntmps140
  go_upto_region 1 with (fail)
  generalize w.alloc (.cells #[.int .i64 a0, .int .i64 a1, .int .i64 a2, .int .i64 a3, .int .i64 a4, .int .i64 a5, .slice A n cap] 121) = W0 at *
  have hE0 := hE.below hB
  have qS := fun i => Blk.cell hS i
  go_upto_region 2 with (go_at_call 171; refine (HWS.out _ hE0).mono ?_; rintro e w1 ⟨rfl, hb⟩; replace hS := hS.below hb hS.lt; replace hB := hB.trans (hb.mono hB.size); clear qS hb hE0)
  have hown := World.ownsRow_lit (base := w.heap.size) (e := 9) (size := 1) w1 #[.string l0] 1 hB.size (by unfold maxLen; omega) rfl
  replace hB := hB.alloc hB.size (.cells #[.string l0] 9)
  replace hS := hS.alloc (.cells #[.string l0] 9)
  obtain ⟨v1, hv1⟩ : ∃ v1 : Value, v1 = .slice (some ⟨w1.heap.size, 0, none⟩) 1 1 := ⟨_, rfl⟩
  rw [← hv1] at hown ⊢
  clear hv1
  generalize w1.alloc (.cells #[.string l0] 9) = W1 at *
  have qS := fun i => Blk.cell hS i
  go_wp2_with (fail)
  clear qS
  go_loopg [3, 15] n (fun g v i wr => ∃ (k : Nat) (v0 : Value), g = n - k ∧ k ≤ n ∧ v = v0 ∧ i = .int .i64 k ∧ wr.ownsRow w.heap.size 9 1 v0 (k + 1) ((l0 :: (fs.take k).map figL).map Value.string) ∧ Below w.heap.size w wr)
  case atStart => exact ⟨0, _, rfl, Nat.zero_le _, rfl, rfl, hown, hB⟩
  case round =>
    clear hown hB hS
    obtain ⟨k, v0, hg, hk, rfl, rfl, hown, hB⟩ := hrel
    obtain ⟨va, vc, rfl⟩ := own_slice hown
    have HG := Lib.hid hg; clear hg
    rename World => W2
    by_cases hlt : k < n
    · have hlti : (k : Int) < n := by omega
      have hzk : k < fs.length := by have := HLEN.out; omega
      obtain ⟨bF, oF, rfl, hbF, hcf⟩ := hr.2 (by omega)
      have cf : w.cell? ⟨bF, oF + k, none⟩ = some (Fig.val fs[k]) := hcf k (Fig.val fs[k]) (by simp [hzk])
      clear hcf
      have cf2 : W2.cell? ⟨bF, oF + k, none⟩ = some (Fig.val fs[k]) := (hB.cell (p := ⟨bF, oF + k, none⟩) hbF).trans cf
      have hfo := hf _ (List.getElem_mem hzk)
      have hft := hfs _ (List.getElem_mem hzk)
      have hts : (fs.take (k + 1)).map figL = (fs.take k).map figL ++ [figL fs[k]] := by rw [List.take_succ_eq_append_getElem hzk, List.map_append]; rfl
      have hfL : figL fs[k] = lineS wFigure fs[k].rows := rfl
      generalize fs[k] = fg at *
      obtain ⟨fA, fn, fcap, rows⟩ := fg
      obtain ⟨hf1, hf2, hf3, hfr⟩ := hfo
      dsimp only at hf1 hf2 hf3 hfr hft hfL
      simp only [Fig.val] at cf2
      obtain ⟨ht1, ht2, ht3⟩ := hft
      have hfn := hfr.len
      have hwf := fun wx hx => writeFigure_any fA fn fcap rows wx (by omega) (by omega) ht3 hx
      rw [← hfL] at hwf
      generalize figL ⟨fA, fn, fcap, rows⟩ = fl at *
      obtain ⟨ys, hys⟩ : ∃ ys, ys = (l0 :: (fs.take k).map figL).map Value.string := ⟨_, rfl⟩
      rw [← hys] at hown
      have HTS := Lib.hid hts; have HYS := Lib.hid hys; have HWF := Lib.hid hwf; clear hts hys hwf cf ht1 ht2 ht3 hf3 hfL hfn
      go_wp2_with (first
        | (go_at_call 171; (have hbA := hB.alloc hB.size (.cells #[.slice fA fn fcap] 26)); refine (HWF.out _ ((hfr.below hbA).more hbA.size)).mono ?_; rintro e w3 ⟨rfl, hb⟩; replace hown := ownsRow_below' (hown.alloc (.cells #[.slice fA fn fcap] 26)) hb; replace hB := hbA.trans (hb.mono hbA.size); clear hb hbA)
        | (at_builtin; refine wpList_append_any _ rfl _ _ 24 rfl w.heap.size 9 i9 (.string ByteArray.empty) 1 16 Tryz.underlying24 hi hz0 hz1' hz2' rfl (by decide) (.slice va (k + 1) vc) (k + 1) ys rfl (hown.alloc _) (w3.heap.size + 1) (some ⟨w3.heap.size, 0, none⟩) 1 1 [.string fl] rfl (Rd.blkN (Blk.new w3 9 #[.string fl]) rfl (Nat.lt_succ_self _)).reads (by simp [Value.oneCell']) (by unfold maxLen; omega) (by omega) (by have := hB.size; simp only [World.size_alloc]; omega) (fun v' w' hown' hgrow hob => ?_))
        | go_in)
      have hB2 := (hB.alloc hB.size (.cells #[.string fl] 9)).grown hgrow (by have := hB.size; simp only [World.size_alloc]; omega) (fun g hg => ((hown.alloc (.cells #[.string fl] 9)).lt g hg).1)
      go_roundg (n - (k + 1))
      case measure => rw [HG.out]; omega
      case rel => exact ⟨k + 1, _, rfl, by omega, rfl, by go_num, by rw [HTS.out, ← List.cons_append, List.map_append, ← HYS.out]; exact hown', hB2⟩
    · obtain rfl : k = n := by omega
      have htk : fs.take k = fs := List.take_of_length_le (by have := HLEN.out; omega)
      rw [htk] at hown
      clear htk
      obtain ⟨L, hL⟩ : ∃ L, L = l0 :: fs.map figL := ⟨_, rfl⟩
      have hall := HALL.out; have hsum := HSUM.out
      rw [← hL] at hown hall hsum
      have hrL := Rd.of_own hown
      have hcL := own_le0 hown
      have hj : (jnS L ⟨#[10]⟩).size ≤ 20000000 := by
        have h1 := jnS_size L ⟨#[10]⟩ 100000 hall
        have h2 : L.length = k + 1 := by rw [hL, List.length_cons, List.length_map, HLEN.out]
        have h3 : L.length * (100000 + ByteArray.size ⟨#[10]⟩) ≤ 101 * 100001 := Nat.mul_le_mul (by omega) (Nat.le_refl _)
        omega
      have he : (lineS wEnd [dgt3 (s % 173)]).size ≤ 100 := Nat.le_trans (lineS_size wEnd [dgt3 (s % 173)] 3 (fun x hx => by obtain rfl : x = dgt3 (s % 173) := (by simpa using hx); exact Nat.le_refl 3)) (show 3 + 1 + 1 * (3 + 1) ≤ 100 by decide)
      have HT := Lib.hid (show textS (l0 :: fs.map figL) s = jnS L ⟨#[10]⟩ ++ ⟨#[10]⟩ ++ lineS wEnd [dgt3 (s % 173)] ++ ⟨#[10]⟩ by rw [hL]; rfl)
      have hjoin := fun wx hx => jn_any va (k + 1) vc L ⟨#[10]⟩ wx (by omega) (by omega) hcL hall (by decide) hx
      have hend := fun wx hx hy => endOf_any va (k + 1) vc L s m wx (by omega) hall hx hsum hy
      have HE := Lib.hid hend; have HJ := Lib.hid hjoin; clear hend hjoin hall hsum hL
      have hEn := hE.below hB
      generalize lineS wEnd [dgt3 (s % 173)] = EE at *
      generalize jnS L ⟨#[10]⟩ = JJ at *
      have hno1 : ¬ 9223372036854775807 < JJ.size + 1 := by omega
      have hno2 : ¬ 9223372036854775807 < JJ.size + 1 + EE.size := by omega
      have hno3 : ¬ 9223372036854775807 < JJ.size + 1 + EE.size + 1 := by omega
      have hdn := Lib.hid (rfl : (0 : Nat) = 0)
      go_wp2_with (first
        | (go_at_call 161; refine (HJ.out _ hrL).mono ?_; rintro e w3 ⟨rfl, hb⟩; replace hrL := rdB hrL hb; replace hEn := hEn.below (hb.mono (Nat.le_refl _)); replace hB := hB.trans (hb.mono hB.size); clear hb)
        | (go_at_call 172; refine (HE.out _ hrL hEn).mono ?_; rintro e w4 ⟨rfl, hb⟩; replace hB := hB.trans (hb.mono hB.size); clear hb))
      go_ret
      exact ⟨by rw [HT.out]; rfl, hB⟩
end Go.Proofs.YtifddfchpknkbaaGreatDoor

namespace Go.Proofs.YtifddfchpknkbaaGreatDoor
open Go.RowKit Go.Lib

/-! Texts cut at a byte, in plain words. -/
def putHead (b : UInt8) : List (List UInt8) → List (List UInt8)
  | [] => [[b]]
  | x :: xs => (b :: x) :: xs
def cutL (c : UInt8) : List UInt8 → List (List UInt8)
  | [] => [[]]
  | b :: l => if b = c then [] :: cutL c l else putHead b (cutL c l)
theorem cutL_ne (c : UInt8) : ∀ l, cutL c l ≠ []
  | [] => by simp [cutL]
  | b :: l => by
    rw [cutL]
    split
    · simp
    · cases h : cutL c l <;> simp [putHead]
theorem splitK_cut (c : UInt8) : ∀ l : List UInt8, splitK [c] 0 (count l [c]) l = cutL c l
  | [] => by rw [count_miss (by simp [index])]; rfl
  | b :: l => by
    have ih := splitK_cut c l
    by_cases h : b = c
    · subst h
      have hix : index (b :: l) [b] = ((0 : Nat) : Int) := by rw [index]; simp [List.isPrefixOf]
      rw [count_cons_eq, Nat.add_comm, splitK, hix, cutL, if_pos rfl, ← ih]
      rfl
    · rw [count_cons_ne b c l h, cutL, if_neg h, ← ih]
      have hp : ([c] : List UInt8).isPrefixOf (b :: l) = false := by simp [List.isPrefixOf, Ne.symm h]
      have hix : index (b :: l) [c] = if index l [c] == -1 then -1 else index l [c] + 1 := by rw [index, hp]; simp
      cases hk : count l [c] with
      | zero => rfl
      | succ k =>
        have hne : index l [c] ≠ -1 := fun e => by rw [count_miss e] at hk; cases hk
        have hge := index_ge l [c]
        obtain ⟨j, hj⟩ : ∃ j : Nat, index l [c] = j := ⟨(index l [c]).toNat, by omega⟩
        have hix' : index (b :: l) [c] = (j : Int) + 1 := by rw [hix, if_neg (by simpa using hne), hj]
        have n1 : ¬ (((j : Int) + 1 == -1) = true) := fun e => by have := beq_iff_eq.1 e; omega
        have n2 : ¬ (((j : Int) == -1) = true) := fun e => by have := beq_iff_eq.1 e; omega
        rw [splitK, splitK, hix', hj, if_neg n1, if_neg n2]
        have e1 : ((j : Int) + 1).toNat + 0 = j + 1 := by omega
        have e2 : ((j : Int)).toNat + 0 = j := by omega
        have e3 : ((j : Int) + 1).toNat + ([c] : List UInt8).length = j + 1 + 1 := by simp
        have e4 : ((j : Int)).toNat + ([c] : List UInt8).length = j + 1 := by simp
        rw [e1, e2, e3, e4]
        rfl
theorem splitB_cut (c : UInt8) (s : ByteArray) : (splitB ⟨#[c]⟩ 0 (countB s ⟨#[c]⟩) s).map (·.data.toList) = cutL c s.data.toList := by
  rw [splitB_data]
  exact splitK_cut c s.data.toList
theorem cutL_end (c : UInt8) : ∀ x : List UInt8, c ∉ x → cutL c x = [x]
  | [], _ => rfl
  | b :: x, h => by
    have h1 : b ≠ c := fun e => h (by simp [e])
    rw [cutL, if_neg h1, cutL_end c x (fun hx => h (by simp [hx]))]
    rfl
theorem cutL_app (c : UInt8) (t : List UInt8) : ∀ x : List UInt8, c ∉ x → cutL c (x ++ c :: t) = x :: cutL c t
  | [], _ => by rw [List.nil_append, cutL, if_pos rfl]
  | b :: x, h => by
    have h1 : b ≠ c := fun e => h (by simp [e])
    rw [List.cons_append, cutL, if_neg h1, cutL_app c t x (fun hx => h (by simp [hx]))]
    rfl
theorem cutL_join (c : UInt8) : ∀ (x : List UInt8) (r : List (List UInt8)), c ∉ x → (∀ y ∈ r, c ∉ y) → cutL c (join (x :: r) [c]) = x :: r
  | x, [], hx, _ => by rw [join_one]; exact cutL_end c x hx
  | x, y :: r, hx, hr => by
    have ih := cutL_join c y r (hr y (by simp)) (fun z hz => hr z (by simp [hz]))
    have e : join (x :: y :: r) [c] = x ++ c :: join (y :: r) [c] := by
      rw [join_cons, join_cons]
      simp [joinTail]
    rw [e, cutL_app c _ x hx, ih]
theorem ba_list {a b : ByteArray} (h : a.data.toList = b.data.toList) : a = b := by
  apply ByteArray.ext
  exact Array.ext' h
theorem map_data_inj : ∀ {a b : List ByteArray}, a.map (·.data.toList) = b.map (·.data.toList) → a = b
  | [], [], _ => rfl
  | [], _ :: _, h => by simp at h
  | _ :: _, [], h => by simp at h
  | x :: a, y :: b, h => by
    simp only [List.map_cons, List.cons.injEq] at h
    rw [ba_list h.1, map_data_inj h.2]
/-- What was joined by a byte that no part holds, is cut into its parts. -/
theorem splitB_join (c : UInt8) (x : ByteArray) (r : List ByteArray) (hx : c ∉ x.data.toList) (hr : ∀ y ∈ r, c ∉ y.data.toList) : splitB ⟨#[c]⟩ 0 (countB (jnS (x :: r) ⟨#[c]⟩) ⟨#[c]⟩) (jnS (x :: r) ⟨#[c]⟩) = x :: r := by
  apply map_data_inj
  rw [splitB_cut]
  show cutL c (join ((x :: r).map (·.data.toList)) [c]).toArray.toList = _
  rw [List.map_cons]
  exact cutL_join c _ _ hx (fun y hy => by obtain ⟨z, hz, rfl⟩ := List.mem_map.1 hy; exact hr z hz)
theorem countB_split (c : UInt8) (s : ByteArray) : (splitB ⟨#[c]⟩ 0 (countB s ⟨#[c]⟩) s).length = countB s ⟨#[c]⟩ + 1 := splitB_all ⟨#[c]⟩ (Nat.le_refl 1) 0 _ s rfl
theorem countB_join (c : UInt8) (x : ByteArray) (r : List ByteArray) (hx : c ∉ x.data.toList) (hr : ∀ y ∈ r, c ∉ y.data.toList) : countB (jnS (x :: r) ⟨#[c]⟩) ⟨#[c]⟩ = r.length := by
  have h := countB_split c (jnS (x :: r) ⟨#[c]⟩)
  rw [splitB_join c x r hx hr, List.length_cons] at h
  omega
/-- Lines behind one another, each ended. -/
theorem jnS_snoc (xs : List ByteArray) (y sep : ByteArray) (h : xs ≠ []) : jnS xs sep ++ sep ++ y = jnS (xs ++ [y]) sep := by
  apply ba_list
  cases xs with
  | nil => exact absurd rfl h
  | cons x r =>
    show (jnS (x :: r) sep ++ sep ++ y).data.toList = (join (((x :: r) ++ [y]).map (·.data.toList)) sep.data.toList).toArray.toList
    have e : (jnS (x :: r) sep).data.toList = join ((x :: r).map (·.data.toList)) sep.data.toList := rfl
    rw [ByteArray.data_append, ByteArray.data_append, Array.toList_append, Array.toList_append, e]
    simp only [List.map_cons, List.cons_append, List.map_append, List.map_nil, join_cons, joinTail, List.map_append, List.flatten_append, List.flatten_cons, List.flatten_nil, List.append_nil]
    simp
end Go.Proofs.YtifddfchpknkbaaGreatDoor

namespace Go.Proofs.YtifddfchpknkbaaGreatDoor
open Go.RowKit Go.Lib

set_option maxRecDepth 100000 in
set_option maxHeartbeats 800000 in
theorem parseTwo (s : ByteArray) (d1 d2 : Nat) (w : World) (h1 : d1 < 10) (h2 : d2 < 10) (hs : s = ⟨(decDigits (10 * d1 + d2)).toArray⟩) (hsz : s.size = 2) (hb0 : (s[0]'(by omega)).toNat = 48 + d1) (hb1 : (s[1]'(by omega)).toNat = 48 + d2) :
    Calls Tryz.prog 200 #[.string s] w fun e w' => e = .returned (.int .i64 (10 * d1 + d2 : Nat)) ∧ Below w.heap.size w w' := by
  have HS := Lib.hid hs; clear hs
  have hin : inB (2 : Int) 1 2 = true := by decide
  go_enter Tryz.func200, Tryz.ntmps200
  go_wp2_with (first
    | (go_at_call 130; refine (within_any _ _ _ _).mono ?_; rintro e w1 ⟨rfl, rfl⟩; rw [hin])
    | (go_at_call 175; refine (insist_ok _).mono ?_; rintro e w1 ⟨rfl, rfl⟩))
  go_loopw [3] (fun v w' => ∃ pos, w' = w.iter s pos ∧ ((pos = 0 ∧ v = .int .i64 0) ∨ (pos = 1 ∧ v = .int .i64 d1) ∨ (pos = 2 ∧ v = .int .i64 (10 * d1 + d2 : Nat)))) (fun _ w' => 2 - w'.iterPos w.heap.size)
  case atStart => exact ⟨0, rfl, .inl ⟨rfl, rfl⟩⟩
  case round =>
    obtain ⟨pos, rfl, ⟨rfl, rfl⟩ | ⟨rfl, rfl⟩ | ⟨rfl, rfl⟩⟩ := hrel
    · have hnx : ∀ ty, (Instr.next (.pointer (some ⟨w.heap.size, 0, none⟩)) true ty).run Tryz.prog (w.iter s 0) = _ := fun ty => run_next_ascii w s 0 ty (by omega) (by omega)
      rw [hb0] at hnx
      clear hb0 hb1
      have h3 : (48 : Int) ≤ 48 + (d1 : Int) := by omega
      have h4 : (48 : Int) + (d1 : Int) ≤ 57 := by omega
      go_wp2_with (first
        | (go_at_call 175; refine (insist_ok _).mono ?_; rintro e w1 ⟨rfl, rfl⟩))
      go_roundw
      case rel => exact ⟨1, rfl, .inr (.inl ⟨rfl, by go_num⟩)⟩
      case measure => simp
    · have hnx : ∀ ty, (Instr.next (.pointer (some ⟨w.heap.size, 0, none⟩)) true ty).run Tryz.prog (w.iter s 1) = _ := fun ty => run_next_ascii w s 1 ty (by omega) (by omega)
      rw [hb1] at hnx
      clear hb0 hb1
      have h3 : (48 : Int) ≤ 48 + (d2 : Int) := by omega
      have h4 : (48 : Int) + (d2 : Int) ≤ 57 := by omega
      have h5 := i64_ok (10 * (d1 : Int)) (by omega)
      have h6 := i64_ok (10 * (d1 : Int) + (d2 : Int)) (by omega)
      go_wp2_with (first
        | (go_at_call 175; refine (insist_ok _).mono ?_; rintro e w1 ⟨rfl, rfl⟩))
      go_roundw
      case rel => exact ⟨2, rfl, .inr (.inr ⟨rfl, by go_num⟩)⟩
      case measure => simp
    · have hnx : ∀ ty, (Instr.next (.pointer (some ⟨w.heap.size, 0, none⟩)) true ty).run Tryz.prog (w.iter s 2) = _ := fun ty => run_next_end w s 2 ty (by omega)
      have hI := fun wx => Tryz.strconv_Itoa_small (10 * d1 + d2) (by omega) wx
      rw [← HS.out] at hI
      clear hb0 hb1
      go_wp2_with (first
        | (go_at_call 222; refine (hI _).mono ?_; rintro e w1 ⟨rfl, rfl⟩)
        | (go_at_call 175; refine (insist_ok _).mono ?_; rintro e w1 ⟨rfl, rfl⟩))
      go_ret
      exact ⟨rfl, below_iter _ _ _⟩
theorem parseNum_any (a : Nat) (ha : a < 100) (w : World) : Calls Tryz.prog 200 #[.string (dS a)] w fun e w' => e = .returned (.int .i64 a) ∧ Below w.heap.size w w' := by
  by_cases h : a < 10
  · have e : dS a = ⟨#[UInt8.ofNat (48 + a)]⟩ := by unfold dS; rw [decDigits_one h]
    refine parseDigit (dS a) a w h rfl (by rw [e]; rfl) ?_
    simp only [e]
    show (UInt8.ofNat (48 + a)).toNat = 48 + a
    rw [UInt8.toNat_ofNat']
    omega
  · have e : dS a = ⟨#[UInt8.ofNat (48 + a / 10), UInt8.ofNat (48 + a % 10)]⟩ := by unfold dS; rw [decDigits_two h ha]
    have ea : 10 * (a / 10) + a % 10 = a := by omega
    have key := parseTwo (dS a) (a / 10) (a % 10) w (by omega) (by omega) (by rw [ea]; rfl) (by rw [e]; rfl) (by
      simp only [e]
      show (UInt8.ofNat (48 + a / 10)).toNat = 48 + a / 10
      rw [UInt8.toNat_ofNat']
      omega) (by
      simp only [e]
      show (UInt8.ofNat (48 + a % 10)).toNat = 48 + a % 10
      rw [UInt8.toNat_ofNat']
      omega)
    rw [ea] at key
    exact key
end Go.Proofs.YtifddfchpknkbaaGreatDoor
