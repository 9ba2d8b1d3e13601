import Derived.Test.YtifddfchpknkbaaGreatDoorVs
import Derived.Test.YtifddfchpknkbaaGreatDoorTx
set_option linter.unusedVariables false
set_option linter.unusedSimpArgs false
namespace Go.Proofs.YtifddfchpknkbaaGreatDoor
open Go.RowKit Go.Lib

/-- What a text asks of the world: the one variable left open is an int, and the table of powers is laid. -/
def Env (m : Int) (w : World) : Prop := w.cell? ⟨0, 0, none⟩ = some (.int .i64 m) ∧ TabIs Tryz.prog w "internal/strconv.uint64pow10" .u64 pow10Tab
theorem var_below {P : Program} {w w' : World} {name : String} {xs : Array Value} (h : w.var? P name = some xs) (hb : Below w.heap.size w w') : w'.var? P name = some xs := by
  unfold World.var? at h ⊢
  cases hg : P.globalNamed name with
  | none => rw [hg] at h; cases h
  | some g =>
    rw [hg] at h
    simp only [Option.bind_some] at h ⊢
    have hlt : g < w.heap.size := by
      rcases Nat.lt_or_ge g w.heap.size with h1 | h1
      · exact h1
      · rw [Array.getElem?_eq_none h1] at h; cases h
    rw [hb.block g hlt]
    exact h
theorem Env.below {m : Int} {w w' : World} (h : Env m w) (hb : Below w.heap.size w w') : Env m w' :=
  ⟨(hb.cell (p := ⟨0, 0, none⟩) (block_lt_of_cell h.1)).trans h.1, var_below h.2 hb⟩
theorem Env.belowB {m : Int} {w w' : World} {B : Nat} (h : Env m w) (hb : Below B w w') (hB : B = w.heap.size) : Env m w' := by subst hB; exact h.below hb
theorem below_ahead (w : World) (k : Nat) (os : Array Obj) : Below w.heap.size w (Sort.grow (w.drewN k) os) :=
  ⟨rfl, rfl, rfl, by simp [Sort.grow, World.drewN], fun k hk => by simp only [Sort.grow, World.drewN]; exact Array.getElem?_append_left hk⟩
theorem itoa_any (n : Nat) (hn : n < 1000000) (m : Int) (w : World) (h : Env m w) : Calls Tryz.prog 222 #[.int .i64 n] w fun e w' => e = .returned (.string ⟨(decDigits n).toArray⟩) ∧ Below w.heap.size w w' := by
  refine (Tryz.strconv_Itoa n (by omega) (by omega) w h.2).mono ?_
  rintro e w' ⟨rfl, k, os, rfl⟩
  exact ⟨by rw [itoa_nonneg], below_ahead _ _ _⟩
/-- A check, in three digits. -/
def dgt (v : Nat) : UInt8 := UInt8.ofNat (48 + v)
def dgt3 (v : Nat) : ByteArray := ⟨#[dgt (v / 100), dgt (v / 10 % 10), dgt (v % 10)]⟩
theorem dec_three {i : Nat} (h1 : 100 ≤ i) (h2 : i < 1000) : decDigits i = [UInt8.ofNat (48 + i / 100), UInt8.ofNat (48 + i / 10 % 10), UInt8.ofNat (48 + i % 10)] := by
  rw [decDigits, dif_neg (by omega), decDigits_two (by omega) (by omega)]
  have e1 : i / 10 / 10 = i / 100 := by omega
  rw [e1]
  rfl
theorem ba_cons {a b : Array UInt8} : (⟨a⟩ : ByteArray) ++ ⟨b⟩ = ⟨a ++ b⟩ := by apply ByteArray.ext; simp
set_option maxRecDepth 100000 in
set_option maxHeartbeats 1600000 in
theorem endWords_any (n : Nat) (hn : n < 1000) (m : Int) (w : World) (h : Env m w) : Calls Tryz.prog 280 #[.agg #[.int .i64 n]] w fun e w' => ∃ v, e = .returned v ∧ w'.ownsRow w.heap.size 9 1 v 1 [.string (dgt3 n)] ∧ Below w.heap.size w w' := by
  have hB0 := (Below.refl w.heap.size w).alloc (Nat.le_refl _) (.cells #[.int .i64 n] 252)
  have hS := Blk.new w 252 #[.int .i64 n]
  have hI := fun wx hx => itoa_any n (by omega) m wx hx
  have hE := h.below hB0
  have fin : ∀ (w1 : World) (r : ByteArray), r = dgt3 n → Below w.heap.size w w1 → ∃ v, Ending.returned (Value.slice (some ⟨w1.heap.size, 0, none⟩) 1 1) = .returned v ∧ (w1.alloc (.cells #[.string r] 9)).ownsRow w.heap.size 9 1 v 1 [.string (dgt3 n)] ∧ Below w.heap.size w (w1.alloc (.cells #[.string r] 9)) := fun w1 r hr hb => by
    subst hr
    have h := World.ownsRow_lit (base := w.heap.size) (e := 9) (size := 1) w1 #[.string (dgt3 n)] 1 hb.size (by unfold maxLen; omega) rfl
    exact ⟨_, rfl, h, hb.alloc hb.size _⟩
  rcases (show n < 10 ∨ (¬ n < 10 ∧ n < 100) ∨ 100 ≤ n by omega) with h1 | ⟨h1, h2⟩ | h1
  · have hd : (decDigits n).toArray = #[dgt n] := by rw [decDigits_one h1]; rfl
    have hr : (⟨(repeatL [48] 2).toArray⟩ : ByteArray) ++ ⟨#[dgt n]⟩ = dgt3 n := by
      rw [ba_cons]; unfold dgt3
      rw [show n / 100 = 0 by omega, show n / 10 % 10 = 0 by omega, show n % 10 = n by omega]; rfl
    rw [hd] at hI
    have hsz : ByteArray.size ⟨#[dgt n]⟩ = 1 := rfl
    have HI := Lib.hid hI; have HF := Lib.hid fin; have HR := Lib.hid hr; clear hI fin hr hd
    go_enter Tryz.func280, Tryz.ntmps280
    go_upto_region 1 with (fail)
    generalize w.alloc (.cells #[.int .i64 n] 252) = W0 at *
    have qS := fun i => Blk.cell hS i
    go_wp2_with (first
      | (go_at_call 222; refine (HI.out _ hE).mono ?_; rintro e w1 ⟨rfl, hb⟩; replace hB0 := hB0.trans (hb.mono hB0.size))
      | (go_at_call 151; refine (Tryz.strings_Repeat ⟨#[48]⟩ 2 _ (by omega) (by decide)).mono ?_; rintro e w2 ⟨rfl, hb2⟩; replace hB0 := hB0.trans (hb2.mono hB0.size)))
    go_ret
    exact HF.out _ _ HR.out hB0
  · have hd : (decDigits n).toArray = #[dgt (n / 10), dgt (n % 10)] := by rw [decDigits_two h1 h2]; rfl
    have hr : (⟨#[48]⟩ : ByteArray) ++ ⟨#[dgt (n / 10), dgt (n % 10)]⟩ = dgt3 n := by
      rw [ba_cons]; unfold dgt3
      rw [show n / 100 = 0 by omega, show n / 10 % 10 = n / 10 by omega]; rfl
    rw [hd] at hI
    have hsz : ByteArray.size ⟨#[dgt (n / 10), dgt (n % 10)]⟩ = 2 := rfl
    have HI := Lib.hid hI; have HF := Lib.hid fin; have HR := Lib.hid hr; clear hI fin hr hd
    go_enter Tryz.func280, Tryz.ntmps280
    go_upto_region 1 with (fail)
    generalize w.alloc (.cells #[.int .i64 n] 252) = W0 at *
    have qS := fun i => Blk.cell hS i
    go_wp2_with (first
      | (go_at_call 222; refine (HI.out _ hE).mono ?_; rintro e w1 ⟨rfl, hb⟩; replace hB0 := hB0.trans (hb.mono hB0.size))
      | (go_at_call 151; refine (Tryz.strings_Repeat_one ⟨#[48]⟩ _).mono ?_; rintro e w2 ⟨rfl, rfl⟩))
    go_ret
    exact HF.out _ _ HR.out hB0
  · have hd : (decDigits n).toArray = #[dgt (n / 100), dgt (n / 10 % 10), dgt (n % 10)] := by rw [dec_three h1 hn]; rfl
    have hr : (⟨(repeatL [48] 0).toArray⟩ : ByteArray) ++ ⟨#[dgt (n / 100), dgt (n / 10 % 10), dgt (n % 10)]⟩ = dgt3 n := by
      rw [ba_cons]; rfl
    rw [hd] at hI
    have hsz : ByteArray.size ⟨#[dgt (n / 100), dgt (n / 10 % 10), dgt (n % 10)]⟩ = 3 := rfl
    have HI := Lib.hid hI; have HF := Lib.hid fin; have HR := Lib.hid hr; clear hI fin hr hd
    go_enter Tryz.func280, Tryz.ntmps280
    go_upto_region 1 with (fail)
    generalize w.alloc (.cells #[.int .i64 n] 252) = W0 at *
    have qS := fun i => Blk.cell hS i
    go_wp2_with (first
      | (go_at_call 222; refine (HI.out _ hE).mono ?_; rintro e w1 ⟨rfl, hb⟩; replace hB0 := hB0.trans (hb.mono hB0.size))
      | (go_at_call 151; refine (Tryz.strings_Repeat ⟨#[48]⟩ 0 _ (by omega) (by decide)).mono ?_; rintro e w2 ⟨rfl, hb2⟩; replace hB0 := hB0.trans (hb2.mono hB0.size)))
    go_ret
    exact HF.out _ _ HR.out hB0
end Go.Proofs.YtifddfchpknkbaaGreatDoor
