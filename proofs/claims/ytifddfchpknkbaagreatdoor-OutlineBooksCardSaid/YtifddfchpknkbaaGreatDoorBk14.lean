import Derived.Test.YtifddfchpknkbaaGreatDoorProg
import Derived.Test.YtifddfchpknkbaaGreatDoorBk0
import Derived.Test.YtifddfchpknkbaaGreatDoorBk11
import Derived.Test.YtifddfchpknkbaaGreatDoorBk12
import Derived.Test.YtifddfchpknkbaaGreatDoorBk13
import Derived.Laws.RangeAny
import Derived.OrdersHeld
set_option linter.unusedVariables false
set_option linter.unusedSimpArgs false
namespace Go.Proofs.YtifddfchpknkbaaGreatDoor
section
open Go.RowKit Go.Lib
/-- What a text that is none ends with. -/
def BAD : Ending := .panicked [{ v := .iface 222 (.agg #[]), recovered := false }]
set_option maxRecDepth 100000 in
theorem insist_bad (w : World) : Calls Tryz.prog 175 #[.bool false] w fun e w' => e = BAD ∧ w = w' := by
  go_enter Tryz.func175, Tryz.ntmps175
  go_wp2
  exact ⟨rfl, rfl, rfl⟩
theorem decode_nodigit (s : ByteArray) (pos : Nat) (h : pos < s.size) (hd : ¬ (48 ≤ (s[pos]'h).toNat ∧ (s[pos]'h).toNat ≤ 57)) : ¬ (48 ≤ (Utf8.decode s pos).1 ∧ (Utf8.decode s pos).1 ≤ 57) := by
  have e : (s.get! (pos + 0)).toNat = (s[pos]'h).toNat := by
    rw [Nat.add_zero]
    congr 1
    simp [ByteArray.get!, getElem!_pos, h]
    rfl
  unfold Utf8.decode
  simp only [e]
  generalize (s[pos]'h).toNat = b at *
  repeat' split
  all_goals (simp only [Utf8.runeError, Bool.and_eq_true, decide_eq_true_eq] at *; omega)
section
variable (s : ByteArray) (w : World)
set_option maxRecDepth 100000 in
theorem parseNum_size (h : inB (s.size : Int) 1 2 = false) : Calls Tryz.prog 200 #[.string s] w fun e w' => e = BAD ∧ Below w.heap.size w w' := by
  go_enter Tryz.func200, Tryz.ntmps200
  go_wp2_with (first
    | (go_at_call 130; refine (within_any _ _ _ _).mono ?_; rintro e w1 ⟨rfl, rfl⟩; rw [h])
    | (go_at_call 175; refine (insist_bad _).mono ?_; rintro e w1 ⟨rfl, rfl⟩))
  exact ⟨rfl, Eq.symm (by assumption), Below.refl _ _⟩
set_option maxRecDepth 100000 in
set_option maxHeartbeats 800000 in
theorem parseNum_at0 (hin : inB (s.size : Int) 1 2 = true) (h0 : 0 < s.size) (hd : ¬ (48 ≤ (s[0]'h0).toNat ∧ (s[0]'h0).toNat ≤ 57)) : Calls Tryz.prog 200 #[.string s] w fun e w' => e = BAD ∧ Below w.heap.size w w' := by
  have hr := decode_nodigit s 0 h0 hd
  have hnx : ∀ ty, (Instr.next (.pointer (some ⟨w.heap.size, 0, none⟩)) true ty).run Tryz.prog (w.iter s 0) = _ := fun ty => run_next_any w s 0 ty h0
  generalize (Utf8.decode s 0).1 = r at *
  generalize 0 + (Utf8.decode s 0).2 = k1 at *
  go_enter Tryz.func200, Tryz.ntmps200
  go_wp2_with (first
    | (go_at_call 130; refine (within_any _ _ _ _).mono ?_; rintro e w1 ⟨rfl, rfl⟩; rw [hin])
    | (go_at_call 175; refine (insist_ok _).mono ?_; rintro e w1 ⟨rfl, rfl⟩))
  go_loopw [3] (fun v w' => w' = w.iter s 0 ∧ v = .int .i64 0) (fun _ w' => 2 - w'.iterPos w.heap.size)
  case atStart => exact ⟨rfl, rfl⟩
  case round =>
    obtain ⟨rfl, rfl⟩ := hrel
    rcases (show ¬ (48 : Int) ≤ r ∨ ((48 : Int) ≤ r ∧ ¬ (r : Int) ≤ 57) by omega) with h1 | ⟨h1, h2⟩
    · go_wp2_with (first
        | (go_at_call 175; refine (insist_bad _).mono ?_; rintro e w1 ⟨rfl, rfl⟩))
      exact ⟨rfl, Eq.symm (by assumption), below_iter _ _ _⟩
    · go_wp2_with (first
        | (go_at_call 175; refine (insist_bad _).mono ?_; rintro e w1 ⟨rfl, rfl⟩))
      exact ⟨rfl, Eq.symm (by assumption), below_iter _ _ _⟩
set_option maxRecDepth 100000 in
set_option maxHeartbeats 1600000 in
theorem parseNum_at1 (d1 : Nat) (hsz : s.size = 2) (h1 : d1 < 10) (hb0 : (s[0]'(by omega)).toNat = 48 + d1) (hd : ¬ (48 ≤ (s[1]'(by omega)).toNat ∧ (s[1]'(by omega)).toNat ≤ 57)) : Calls Tryz.prog 200 #[.string s] w fun e w' => e = BAD ∧ Below w.heap.size w w' := by
  have hin : inB (2 : Int) 1 2 = true := by decide
  have hr := decode_nodigit s 1 (by omega) hd
  have hnx1 : ∀ ty, (Instr.next (.pointer (some ⟨w.heap.size, 0, none⟩)) true ty).run Tryz.prog (w.iter s 1) = _ := fun ty => run_next_any w s 1 ty (by omega)
  have hnx : ∀ ty, (Instr.next (.pointer (some ⟨w.heap.size, 0, none⟩)) true ty).run Tryz.prog (w.iter s 0) = _ := fun ty => run_next_ascii w s 0 ty (by omega) (by omega)
  rw [hb0] at hnx
  generalize (Utf8.decode s 1).1 = r at *
  generalize 1 + (Utf8.decode s 1).2 = k1 at *
  clear hb0 hd
  have HN := Lib.hid hnx1; clear hnx1
  go_enter Tryz.func200, Tryz.ntmps200
  go_wp2_with (first
    | (go_at_call 130; refine (within_any _ _ _ _).mono ?_; rintro e w1 ⟨rfl, rfl⟩; rw [hin])
    | (go_at_call 175; refine (insist_ok _).mono ?_; rintro e w1 ⟨rfl, rfl⟩))
  go_loopw [3] (fun v w' => ∃ pos, w' = w.iter s pos ∧ ((pos = 0 ∧ v = .int .i64 0) ∨ (pos = 1 ∧ v = .int .i64 d1))) (fun _ w' => 2 - w'.iterPos w.heap.size)
  case atStart => exact ⟨0, rfl, .inl ⟨rfl, rfl⟩⟩
  case round =>
    obtain ⟨pos, rfl, ⟨rfl, rfl⟩ | ⟨rfl, rfl⟩⟩ := hrel
    · have h3 : (48 : Int) ≤ 48 + (d1 : Int) := by omega
      have h4 : (48 : Int) + (d1 : Int) ≤ 57 := by omega
      go_wp2_with (first
        | (go_at_call 175; refine (insist_ok _).mono ?_; rintro e w1 ⟨rfl, rfl⟩))
      go_roundw
      case rel => exact ⟨1, rfl, .inr ⟨rfl, by go_num⟩⟩
      case measure => simp
    · clear hnx
      have hnx1 := HN.out
      clear HN
      rcases (show ¬ (48 : Int) ≤ r ∨ ((48 : Int) ≤ r ∧ ¬ (r : Int) ≤ 57) by omega) with h1 | ⟨h1, h2⟩
      · go_wp2_with (first
          | (go_at_call 175; refine (insist_bad _).mono ?_; rintro e w1 ⟨rfl, rfl⟩))
        exact ⟨rfl, Eq.symm (by assumption), below_iter _ _ _⟩
      · go_wp2_with (first
          | (go_at_call 175; refine (insist_bad _).mono ?_; rintro e w1 ⟨rfl, rfl⟩))
        exact ⟨rfl, Eq.symm (by assumption), below_iter _ _ _⟩
set_option maxRecDepth 100000 in
set_option maxHeartbeats 1600000 in
theorem parseNum_zero (d1 d2 : Nat) (hsz : s.size = 2) (h1 : d1 < 10) (h2 : d2 < 10) (hb0 : (s[0]'(by omega)).toNat = 48 + d1) (hb1 : (s[1]'(by omega)).toNat = 48 + d2) (hne : s ≠ ⟨(decDigits (10 * d1 + d2)).toArray⟩) : Calls Tryz.prog 200 #[.string s] w fun e w' => e = BAD ∧ Below w.heap.size w w' := by
  have HS := Lib.hid hne; clear hne
  have hin : inB (2 : Int) 1 2 = true := by decide
  go_enter Tryz.func200, Tryz.ntmps200
  go_wp2_with (first
    | (go_at_call 130; refine (within_any _ _ _ _).mono ?_; rintro e w1 ⟨rfl, rfl⟩; rw [hin])
    | (go_at_call 175; refine (insist_ok _).mono ?_; rintro e w1 ⟨rfl, rfl⟩))
  go_loopw [3] (fun v w' => ∃ pos, w' = w.iter s pos ∧ ((pos = 0 ∧ v = .int .i64 0) ∨ (pos = 1 ∧ v = .int .i64 d1) ∨ (pos = 2 ∧ v = .int .i64 (10 * d1 + d2 : Nat)))) (fun _ w' => 2 - w'.iterPos w.heap.size)
  case atStart => exact ⟨0, rfl, .inl ⟨rfl, rfl⟩⟩
  case round =>
    obtain ⟨pos, rfl, ⟨rfl, rfl⟩ | ⟨rfl, rfl⟩ | ⟨rfl, rfl⟩⟩ := hrel
    · have hnx : ∀ ty, (Instr.next (.pointer (some ⟨w.heap.size, 0, none⟩)) true ty).run Tryz.prog (w.iter s 0) = _ := fun ty => run_next_ascii w s 0 ty (by omega) (by omega)
      rw [hb0] at hnx
      clear hb0 hb1
      have h3 : (48 : Int) ≤ 48 + (d1 : Int) := by omega
      have h4 : (48 : Int) + (d1 : Int) ≤ 57 := by omega
      go_wp2_with (first
        | (go_at_call 175; refine (insist_ok _).mono ?_; rintro e w1 ⟨rfl, rfl⟩))
      go_roundw
      case rel => exact ⟨1, rfl, .inr (.inl ⟨rfl, by go_num⟩)⟩
      case measure => simp
    · have hnx : ∀ ty, (Instr.next (.pointer (some ⟨w.heap.size, 0, none⟩)) true ty).run Tryz.prog (w.iter s 1) = _ := fun ty => run_next_ascii w s 1 ty (by omega) (by omega)
      rw [hb1] at hnx
      clear hb0 hb1
      have h3 : (48 : Int) ≤ 48 + (d2 : Int) := by omega
      have h4 : (48 : Int) + (d2 : Int) ≤ 57 := by omega
      have h5 := i64_ok (10 * (d1 : Int)) (by omega)
      have h6 := i64_ok (10 * (d1 : Int) + (d2 : Int)) (by omega)
      go_wp2_with (first
        | (go_at_call 175; refine (insist_ok _).mono ?_; rintro e w1 ⟨rfl, rfl⟩))
      go_roundw
      case rel => exact ⟨2, rfl, .inr (.inr ⟨rfl, by go_num⟩)⟩
      case measure => simp
    · have hnx : ∀ ty, (Instr.next (.pointer (some ⟨w.heap.size, 0, none⟩)) true ty).run Tryz.prog (w.iter s 2) = _ := fun ty => run_next_end w s 2 ty (by omega)
      have hI := fun wx => Tryz.strconv_Itoa_small (10 * d1 + d2) (by omega) wx
      obtain ⟨t, ht⟩ : ∃ t : ByteArray, t = ⟨(decDigits (10 * d1 + d2)).toArray⟩ := ⟨_, rfl⟩
      rw [← ht] at hI
      have hne := HS.out
      rw [← ht] at hne
      replace hne : (s.toList == t.toList) = false := by
        rw [beq_eq_false_iff_ne, ByteArray.toList_eq, ByteArray.toList_eq]
        intro e
        exact hne (ByteArray.ext (Array.toList_inj.1 e))
      clear hb0 hb1 ht HS
      go_wp2_with (first
        | (go_at_call 222; refine (hI _).mono ?_; rintro e w1 ⟨rfl, rfl⟩)
        | (go_at_call 175; (try rw [hne]); refine (insist_bad _).mono ?_; rintro e w1 ⟨rfl, rfl⟩))
      exact ⟨rfl, Eq.symm (by assumption), below_iter _ _ _⟩
end
/-- A word that is no number is not read as one. -/
theorem parseNum_bad (s : ByteArray) (w : World) (h : ∀ a, a < 100 → s ≠ dS a) : Calls Tryz.prog 200 #[.string s] w fun e w' => e = BAD ∧ Below w.heap.size w w' := by
  by_cases hs : s.size = 1 ∨ s.size = 2
  · have hin : inB (s.size : Int) 1 2 = true := by rcases hs with h | h <;> rw [h] <;> decide
    by_cases h0 : 48 ≤ (s[0]'(by omega)).toNat ∧ (s[0]'(by omega)).toNat ≤ 57
    · obtain ⟨d1, hd1⟩ : ∃ d, (s[0]'(by omega)).toNat = 48 + d := ⟨(s[0]'(by omega)).toNat - 48, by omega⟩
      rcases hs with hs | hs
      · exfalso
        refine h d1 (by omega) ?_
        unfold dS
        rw [decDigits_one (by omega)]
        apply ByteArray.ext
        apply Array.ext
        · simpa using hs
        · intro i hi1 hi2
          have hi : i = 0 := by simp at hi2; omega
          subst hi
          apply UInt8.toNat_inj.1
          show (s[0]'(by omega)).toNat = _
          rw [hd1]
          simp
          omega
      · by_cases hb : 48 ≤ (s[1]'(by omega)).toNat ∧ (s[1]'(by omega)).toNat ≤ 57
        · obtain ⟨d2, hd2⟩ : ∃ d, (s[1]'(by omega)).toNat = 48 + d := ⟨(s[1]'(by omega)).toNat - 48, by omega⟩
          exact parseNum_zero s w d1 d2 hs (by omega) (by omega) hd1 hd2 (fun e => h (10 * d1 + d2) (by omega) e)
        · exact parseNum_at1 s w d1 hs (by omega) hd1 hb
    · exact parseNum_at0 s w hin (by omega) h0
  · refine parseNum_size s w ?_
    unfold inB
    simp only [Bool.and_eq_false_iff, decide_eq_false_iff_not]
    omega
end
section
open Go.RowKit Go.Lib
theorem dS_list (a : Nat) (h : a < 100) : (a < 10 ∧ (dS a).data.toList = [UInt8.ofNat (48 + a)]) ∨ (10 ≤ a ∧ (dS a).data.toList = [UInt8.ofNat (48 + a / 10), UInt8.ofNat (48 + a % 10)]) := by
  by_cases h1 : a < 10
  · exact .inl ⟨h1, by unfold dS; rw [decDigits_one h1]⟩
  · exact .inr ⟨by omega, by unfold dS; rw [decDigits_two h1 h]⟩
theorem dS_digit (a : Nat) (h : a < 100) (q : Nat) (b : UInt8) (hb : (dS a).data.toList[q]? = some b) : 48 ≤ b.toNat ∧ b.toNat ≤ 57 := by
  rcases dS_list a h with ⟨h1, e⟩ | ⟨h1, e⟩ <;> rw [e] at hb
  · match q, hb with
    | 0, hb => cases hb; rw [UInt8.toNat_ofNat']; omega
    | q + 1, hb => simp at hb
  · match q, hb with
    | 0, hb => cases hb; rw [UInt8.toNat_ofNat']; omega
    | 1, hb => cases hb; rw [UInt8.toNat_ofNat']; omega
    | q + 2, hb => simp at hb
/-- What the bytes that were read tell of the number. -/
def NumIs (l : List UInt8) (k a : Nat) : Prop := (∀ q b, q < k → l[q]? = some b → 48 ≤ b.toNat ∧ b.toNat ≤ 57) ∧ (k = 1 → ∀ b, l[0]? = some b → b.toNat = 48 + a) ∧ (k = 2 → ∀ b c, l[0]? = some b → l[1]? = some c → a + 528 = 10 * b.toNat + c.toNat) ∧ (k = 0 → a = 0)
theorem NumIs.succ {l : List UInt8} {k a d : Nat} {b : UInt8} (h : NumIs l k a) (hk : k ≤ 1) (hb : l[k]? = some b) (hd : b.toNat = 48 + d) (hd9 : d ≤ 9) : NumIs l (k + 1) (10 * a + d) := by
  obtain ⟨h1, h2, h3, h4⟩ := h
  refine ⟨fun q c hq hc => ?_, fun hk1 c hc => ?_, fun hk2 c e hc he => ?_, fun h0 => absurd h0 (by omega)⟩
  · by_cases hqk : q < k
    · exact h1 q c hqk hc
    · obtain rfl : q = k := by omega
      rw [hb] at hc; cases hc
      omega
  · obtain rfl : k = 0 := by omega
    rw [hb] at hc; cases hc
    have := h4 rfl
    omega
  · obtain rfl : k = 1 := by omega
    rw [hb] at he; cases he
    have := h2 rfl c hc
    omega
theorem NumIs.eq {s : ByteArray} {a c : Nat} (h : NumIs s.data.toList s.size a) (hc : c < 100) (e : s = dS c) : a = c := by
  obtain ⟨h1, h2, h3, h4⟩ := h
  have hl : s.data.toList.length = s.size := size_list s
  rcases dS_list c hc with ⟨h5, e5⟩ | ⟨h5, e5⟩ <;> rw [← e] at e5 <;> rw [e5] at hl h2 h3
  · have := h2 hl.symm _ rfl
    rw [UInt8.toNat_ofNat'] at this
    omega
  · have := h3 hl.symm _ _ rfl rfl
    rw [UInt8.toNat_ofNat', UInt8.toNat_ofNat'] at this
    omega
/-- What the specification answers for a word. -/
def NumAns (s : ByteArray) (e : Ending) : Prop := (∃ a : Nat, a < 100 ∧ s = dS a ∧ e = .returned (.tuple #[.int .i64 a, .bool true])) ∨ ((∀ a, a < 100 → s ≠ dS a) ∧ ∃ z : Int, e = .returned (.tuple #[.int .i64 z, .bool false]))
section
variable (s : ByteArray) (w : World)
theorem dS_len (a : Nat) (h : a < 100) : (dS a).size = 1 ∨ (dS a).size = 2 := by
  rw [← size_list]
  rcases dS_list a h with ⟨h1, e⟩ | ⟨h1, e⟩ <;> rw [e] <;> simp
set_option maxRecDepth 100000 in
theorem refNum_zero (h : s.size = 0) : Calls Tryz.prog 179 #[.string s, .int .i64 2] w fun e w' => NumAns s e ∧ Below w.heap.size w w' := by
  go_enter Tryz.func179, Tryz.ntmps179
  go_wp2_with (fail)
  refine bodyPost_ret (v := .tuple #[.int .i64 0, .bool false]) (by simp [results, Tryz.results179, go_sem]) rfl ⟨.inr ⟨fun a ha e => ?_, _, rfl⟩, Below.refl _ _⟩
  have := dS_len a ha
  rw [← e] at this
  omega
set_option maxRecDepth 100000 in
theorem refNum_long (h0 : ¬ s.size = 0) (h : 2 < s.size) : Calls Tryz.prog 179 #[.string s, .int .i64 2] w fun e w' => NumAns s e ∧ Below w.heap.size w w' := by
  have h1 : (2 : Int) < s.size := by omega
  have h2 : ((s.size : Int) == 0) = false := by rw [beq_eq_false_iff_ne]; omega
  have h3 : ¬ (s.size : Int) = 0 := by omega
  go_enter Tryz.func179, Tryz.ntmps179
  go_wp2_with (fail)
  refine bodyPost_ret (v := .tuple #[.int .i64 0, .bool false]) (by simp [results, Tryz.results179, go_sem]) rfl ⟨.inr ⟨fun a ha e => ?_, _, rfl⟩, Below.refl _ _⟩
  have := dS_len a ha
  rw [← e] at this
  omega
set_option maxRecDepth 100000 in
set_option maxHeartbeats 1600000 in
theorem refNum_word (h0 : ¬ s.size = 0) (h : ¬ 2 < s.size) : Calls Tryz.prog 179 #[.string s, .int .i64 2] w fun e w' => NumAns s e ∧ Below w.heap.size w w' := by
  have h1 : ¬ (2 : Int) < s.size := by omega
  have h2 : ((s.size : Int) == 0) = false := by rw [beq_eq_false_iff_ne]; omega
  have h3 : ¬ (s.size : Int) = 0 := by omega
  go_enter Tryz.func179, Tryz.ntmps179
  go_wp2_with (fail)
  go_loopg [6, 7] s.size (fun g v i wr => ∃ k a : Nat, g = s.size - k ∧ k ≤ s.size ∧ i = .int .i64 k ∧ v = .int .i64 a ∧ (k ≤ 1 → a < 10) ∧ a < 100 ∧ NumIs s.data.toList k a ∧ wr = w)
  case atStart => exact ⟨0, 0, rfl, Nat.zero_le _, rfl, rfl, fun _ => by omega, by omega, ⟨fun q _ h => absurd h (Nat.not_lt_zero _), fun h => absurd h (by omega), fun h => absurd h (by omega), fun _ => rfl⟩, rfl⟩
  case round =>
    obtain ⟨k, a, hg, hk, rfl, rfl, ha1, ha2, hdg, rfl⟩ := hrel
    have HG := Lib.hid hg; have HDG := Lib.hid hdg; clear hg hdg
    by_cases hlt : k < s.size
    · have hlti : (k : Int) < s.size := by omega
      have hsk : s.data.toList[k]? = some (s[k]'hlt) := by
        rw [List.getElem?_eq_getElem (by rw [size_list]; exact hlt)]
        congr 1
      have HSK := Lib.hid hsk; clear hsk
      have hno : ¬ (48 ≤ (s[k]'hlt).toNat ∧ (s[k]'hlt).toNat ≤ 57) → ∀ a, a < 100 → s ≠ dS a := fun hn a ha e => by
        have hd := HSK.out
        obtain ⟨b, hbb⟩ : ∃ b, b = s[k]'hlt := ⟨_, rfl⟩
        rw [← hbb] at hd hn
        rw [e] at hd
        exact hn (dS_digit a ha k b hd)
      have HNO := Lib.hid hno; clear hno
      by_cases hb1 : (s[k]'hlt).toNat < 48
      · have hb1' : ((s[k]'hlt).toNat : Int) < 48 := by omega
        have hn := HNO.out (by omega)
        clear hb1
        have HN := Lib.hid hn; clear hn HNO
        go_wp2_with (fail)
        exact bodyPost_ret (v := .tuple #[.int .i64 0, .bool false]) (by simp [results, Tryz.results179, go_sem]) rfl ⟨.inr ⟨HN.out, _, rfl⟩, Below.refl _ _⟩
      · by_cases hb2 : 57 < (s[k]'hlt).toNat
        · have hb1' : ¬ ((s[k]'hlt).toNat : Int) < 48 := by omega
          have hb2' : (57 : Int) < (s[k]'hlt).toNat := by omega
          have hn := HNO.out (by omega)
          clear hb1 hb2
          have HN := Lib.hid hn; clear hn HNO
          go_wp2_with (fail)
          exact bodyPost_ret (v := .tuple #[.int .i64 0, .bool false]) (by simp [results, Tryz.results179, go_sem]) rfl ⟨.inr ⟨HN.out, _, rfl⟩, Below.refl _ _⟩
        · obtain ⟨d, hb⟩ : ∃ d, (s[k]'hlt).toNat = 48 + d := ⟨(s[k]'hlt).toNat - 48, by omega⟩
          have hd9 : d ≤ 9 := by omega
          have hc1 : ¬ (48 : Int) + (d : Int) < 48 := by omega
          have hc2 : ¬ (57 : Int) < (48 : Int) + (d : Int) := by omega
          have hw8 : IntKind.u8.wrap (d : Int) = d := by simp only [IntKind.wrap, IntKind.signed, IntKind.bits]; simp; omega
          have hw64 := i64_ok (d : Int) (by omega)
          have hs0 : (48 : Int) + (d : Int) - 48 = d := by omega
          have ha10 : a < 10 := ha1 (by omega)
          have hw5 := i64_ok (10 * (a : Int)) (by omega)
          have hw6 := i64_ok (10 * (a : Int) + (d : Int)) (by omega)
          have hsucc := HDG.out.succ (by omega) HSK.out hb hd9
          have HSU := Lib.hid hsucc; clear hsucc HNO HSK
          clear hb1 hb2
          go_wp2_with (fail)
          go_roundg (s.size - (k + 1))
          case measure => rw [HG.out]; omega
          case rel => exact ⟨k + 1, 10 * a + d, rfl, by omega, by go_num, by go_num, fun hk1 => by have := HDG.out.2.2.2 (by omega); omega, by omega, HSU.out, rfl⟩
    · obtain rfl : k = s.size := by omega
      obtain ⟨t, ht⟩ : ∃ t, t = dS a := ⟨_, rfl⟩
      have hdec := fun wx => decimal_any a wx ha2
      rw [← ht] at hdec
      by_cases hs : t = s
      · have hbq : (t.toList == s.toList) = true := by rw [hs]; simp
        have HS := Lib.hid hs; have HT := Lib.hid ht; clear hs ht
        go_wp2_with (go_at_call 178; refine (hdec _).mono ?_; rintro e w1 ⟨rfl, hb⟩)
        exact bodyPost_ret (v := .tuple #[.int .i64 a, .bool true]) (by simp [results, Tryz.results179, go_sem, hbq]) rfl ⟨.inl ⟨a, ha2, by rw [← HS.out, HT.out], rfl⟩, hb⟩
      · have hbq : (t.toList == s.toList) = false := by
          rw [beq_eq_false_iff_ne, ByteArray.toList_eq, ByteArray.toList_eq]
          exact fun e => hs (ByteArray.ext (Array.toList_inj.1 e))
        have hn : ∀ c, c < 100 → s ≠ dS c := fun c hc e => by
          have := HDG.out.eq hc e
          rw [← this, ← ht] at e
          exact hs e.symm
        have HN := Lib.hid hn; clear hs ht hn
        go_wp2_with (go_at_call 178; refine (hdec _).mono ?_; rintro e w1 ⟨rfl, hb⟩)
        exact bodyPost_ret (v := .tuple #[.int .i64 a, .bool false]) (by simp [results, Tryz.results179, go_sem, hbq]) rfl ⟨.inr ⟨HN.out, _, rfl⟩, hb⟩
theorem refNum_any : Calls Tryz.prog 179 #[.string s, .int .i64 2] w fun e w' => NumAns s e ∧ Below w.heap.size w w' := by
  by_cases h0 : s.size = 0
  · exact refNum_zero s w h0
  by_cases h : 2 < s.size
  · exact refNum_long s w h0 h
  · exact refNum_word s w h0 h
end
end
section
open Go.RowKit Go.Lib
theorem info3y : (Tryz.prog.info? 3).map (fun i => (i.zero, i.size, i.bytes)) = some (some (.int .i64 0), 1, 8) := by kernel_rfl
def nmV (a : Nat) : Value := .int .i64 a
def NumsAns (B : Nat) (ws : List ByteArray) (e : Ending) (w' : World) : Prop :=
  (∃ (ns : List Nat) (v : Value), (∀ a ∈ ns, a < 100) ∧ ws = ns.map dS ∧ e = .returned (.tuple #[v, .bool true]) ∧ w'.ownsRow B 3 1 v ns.length (ns.map nmV)) ∨ ((¬ ∃ ns : List Nat, (∀ a ∈ ns, a < 100) ∧ ws = ns.map dS) ∧ e = .returned (.tuple #[.slice none 0 0, .bool false]))
set_option maxRecDepth 100000 in
set_option maxHeartbeats 1600000 in
theorem refNumbers_any (A : Option Addr) (n cap : Nat) (ws : List ByteArray) (w : World) (hn : n ≤ 1000) (hr : Rd w w.heap.size 1 A n (ws.map Value.string)) : Calls Tryz.prog 145 #[.slice A n cap, .int .i64 2] w fun e w' => NumsAns w.heap.size ws e w' ∧ Below w.heap.size w w' := by
  obtain ⟨i3, hi, hz0, hz1', hz2'⟩ := info_parts info3y
  have hlen : ws.length = n := by simpa using hr.len
  have HL := Lib.hid hlen; clear hlen
  go_enter Tryz.func145, Tryz.ntmps145
  go_wp2_with (fail)
  go_loopg [6, 7] n (fun g v i wr => ∃ (k : Nat) (ns : List Nat) (v0 : Value), g = n - k ∧ k ≤ n ∧ v = v0 ∧ i = .int .i64 k ∧ ns.length = k ∧ (∀ a ∈ ns, a < 100) ∧ ws.take k = ns.map dS ∧ wr.ownsRow w.heap.size 3 1 v0 k (ns.map nmV) ∧ Below w.heap.size w wr)
  case atStart => exact ⟨0, [], _, rfl, Nat.zero_le _, rfl, rfl, rfl, fun _ h => (by cases h), rfl, World.ownsRow_nil _ _ _ _, Below.refl _ _⟩
  case round =>
    obtain ⟨k, ns, v0, hg, hk, rfl, rfl, hnl, hall, htk, hown, hB⟩ := hrel
    obtain ⟨va, vc, rfl⟩ := own_slice hown
    have HG := Lib.hid hg; have HT := Lib.hid htk; have HA := Lib.hid hall; have HNL := Lib.hid hnl; clear hg htk hall hnl
    by_cases hlt : k < n
    · have hlti : (k : Int) < n := by omega
      obtain ⟨cb, coff, hz, rfl, hcb, hcc⟩ := (hr.below hB).atm hlt
      have hkl : k < ws.length := by have := HL.out; omega
      replace hcc : wr.cell? ⟨cb, coff + k, none⟩ = some (.string ws[k]) := by
        rw [hcc]
      have hts : ws.take (k + 1) = ws.take k ++ [ws[k]] := List.take_succ_eq_append_getElem hkl
      have hmem : ws[k] ∈ ws := List.getElem_mem hkl
      generalize ws[k] = s at *
      have HTS := Lib.hid hts; have HM := Lib.hid hmem; clear hts hmem hz
      by_cases hnum : ∃ a, a < 100 ∧ s = dS a
      · obtain ⟨a, ha, hsa⟩ := hnum
        have hans : ∀ wx : World, Calls Tryz.prog 179 #[.string s, .int .i64 2] wx fun e w' => e = .returned (.tuple #[.int .i64 a, .bool true]) ∧ Below wx.heap.size wx w' := fun wx => (refNum_any s wx).mono fun e w' ⟨h1, h2⟩ => by
          refine ⟨?_, h2⟩
          rcases h1 with ⟨b, hb, hsb, he⟩ | ⟨hn, _⟩
          · have : b = a := by
              rw [hsa] at hsb
              have e1 := congrArg (fun x : ByteArray => x.data.toList) hsb
              rcases dS_list a ha with ⟨h5, e5⟩ | ⟨h5, e5⟩ <;> rcases dS_list b hb with ⟨h6, e6⟩ | ⟨h6, e6⟩ <;> simp only [e5, e6, List.cons.injEq, and_true, List.nil_eq, reduceCtorEq, List.cons_ne_nil, and_false] at e1
              · have := congrArg UInt8.toNat e1
                rw [UInt8.toNat_ofNat', UInt8.toNat_ofNat'] at this
                omega
              · have x := congrArg UInt8.toNat e1.1
                have y := congrArg UInt8.toNat e1.2
                rw [UInt8.toNat_ofNat', UInt8.toNat_ofNat'] at x y
                omega
            rw [he, this]
          · exact absurd hsa (hn a ha)
        have HSA := Lib.hid hsa; clear hsa
        obtain ⟨ys, hys⟩ : ∃ ys, ys = ns.map nmV := ⟨_, rfl⟩
        rw [← hys] at hown
        have HYS := Lib.hid hys; clear hys
        go_wp2_with (first
          | (go_at_call 179; refine (hans _).mono ?_; rintro e w3 ⟨rfl, hb⟩; replace hown := ownsRow_below' hown hb; replace hB := hB.trans (hb.mono hB.size); clear hb)
          | (at_builtin; refine wpList_append_any _ rfl _ _ 87 rfl w.heap.size 3 i3 (.int .i64 0) 1 8 Tryz.underlying87 hi hz0 hz1' hz2' rfl (by decide) (.slice va k vc) k ys rfl (hown.alloc _) (w3.heap.size + 1) (some ⟨w3.heap.size, 0, none⟩) 1 1 [.int .i64 a] rfl (Rd.blkN (Blk.new w3 3 #[.int .i64 a]) rfl (Nat.lt_succ_self _)).reads (by simp [Value.oneCell']) (by unfold maxLen; omega) (by omega) (by have := hB.size; simp only [World.size_alloc]; omega) (fun v' w' hown' hgrow hob => ?_)))
        have hB2 := (hB.alloc hB.size (.cells #[.int .i64 a] 3)).grown hgrow (by have := hB.size; simp only [World.size_alloc]; omega) (fun g hg => ((hown.alloc (.cells #[.int .i64 a] 3)).lt g hg).1)
        go_roundg (n - (k + 1))
        case measure => rw [HG.out]; omega
        case rel =>
          refine ⟨k + 1, ns ++ [a], v', rfl, by omega, rfl, by go_num, by rw [List.length_append, HNL.out]; rfl, fun b hb => ?_, ?_, ?_, hB2⟩
          · rcases List.mem_append.1 hb with h | h
            · exact HA.out b h
            · obtain rfl : b = a := by simpa using h
              exact ha
          · rw [HTS.out, HT.out, List.map_append, HSA.out]; rfl
          · rw [List.map_append, ← HYS.out]; exact hown'
      · have hans : ∀ wx : World, Calls Tryz.prog 179 #[.string s, .int .i64 2] wx fun e w' => ∃ z : Int, e = .returned (.tuple #[.int .i64 z, .bool false]) ∧ Below wx.heap.size wx w' := fun wx => (refNum_any s wx).mono fun e w' ⟨h1, h2⟩ => by
          rcases h1 with ⟨b, hb, hsb, he⟩ | ⟨hn, z, he⟩
          · exact absurd ⟨b, hb, hsb⟩ hnum
          · exact ⟨z, he, h2⟩
        have hno : ¬ ∃ ns : List Nat, (∀ a ∈ ns, a < 100) ∧ ws = ns.map dS := fun ⟨ms, h1, h2⟩ => by
          have hm := HM.out
          rw [h2] at hm
          obtain ⟨a, ha, e⟩ := List.mem_map.1 hm
          exact hnum ⟨a, h1 a ha, e.symm⟩
        have HNO := Lib.hid hno; clear hno hnum
        go_wp2_with (go_at_call 179; refine (hans _).mono ?_; rintro e w3 ⟨z, rfl, hb⟩; replace hB := hB.trans (hb.mono hB.size); clear hb)
        exact bodyPost_ret (v := .tuple #[.slice none 0 0, .bool false]) (by simp [results, Tryz.results145, go_sem]) rfl ⟨.inr ⟨HNO.out, rfl⟩, hB⟩
    · obtain rfl : k = n := by omega
      have hw : ws = ns.map dS := by rw [← HT.out, List.take_of_length_le (by have := HL.out; omega)]
      have HW := Lib.hid hw; clear hw
      go_wp2_with (fail)
      refine bodyPost_ret (v := .tuple #[.slice va k vc, .bool true]) (by simp [results, Tryz.results145, go_sem]) rfl ⟨.inl ⟨ns, _, HA.out, HW.out, rfl, ?_⟩, hB⟩
      rw [HNL.out]; exact hown
end
section
open Go.RowKit
set_option maxRecDepth 100000 in
set_option maxHeartbeats 1600000 in
theorem refPrint_big (D : Int → ByteArray) (W H F L X Y : Int) (A : Option Addr) (n cap : Nat) (fs : List Fig) (w : World) (hn : n ≤ 1000) (hf : ∀ f ∈ fs, f.ok w w.heap.size) (hfs : ∀ f ∈ fs, f.rows.length ≤ 1000 ∧ (∀ r ∈ f.rows, r.size ≤ 1000) ∧ (figW f).size ≤ 100000) (hr : Rd w w.heap.size 1 A n (fs.map Fig.val)) (hDs : ∀ x ∈ [W, H, F, L, X, Y], (D x).size ≤ 100)
    (hD : ∀ x ∈ [W, H, F, L, X, Y], ∀ w' : World, Calls Tryz.prog 178 #[.int .i64 x] w' fun e w'' => e = .returned (.string (D x)) ∧ Below w'.heap.size w' w'') (h0 : 0 ≤ sumA (bookR D W H F L X Y fs) 0 0) :
    Calls Tryz.prog 86 #[.agg #[.int .i64 W, .int .i64 H, .int .i64 F, .int .i64 L, .int .i64 X, .int .i64 Y, .slice A n cap]] w fun e w' => e = .returned (.string (linesS (bookR D W H F L X Y fs) ⟨#[]⟩ ++ ⟨#[101, 110, 100, 32]⟩ ++ strOfNums [48 + (sumA (bookR D W H F L X Y fs) 0 0 % 173) / 100] ++ strOfNums [48 + (sumA (bookR D W H F L X Y fs) 0 0 % 173) / 10 % 10] ++ strOfNums [48 + (sumA (bookR D W H F L X Y fs) 0 0 % 173) % 10] ++ ⟨#[10]⟩)) ∧ Below w.heap.size w w' := by
  have hlen := hr.len
  have HLEN := Lib.hid hlen; clear hlen
  go_enter Tryz.func86, Tryz.ntmps86
  obtain ⟨i0, hi, hz0, hz1', hz2'⟩ := info_parts info9
  have hA3 : Blk (((w.alloc (.cells #[.int .i64 W, .int .i64 H, .int .i64 F, .int .i64 L, .int .i64 X, .int .i64 Y, .slice A n cap] 121)).alloc (.cells #[.int .i64 W, .int .i64 H, .int .i64 F, .int .i64 L, .int .i64 X, .int .i64 Y] 23)).alloc (.cells #[.int .i64 W, .int .i64 H, .int .i64 F, .int .i64 L, .int .i64 X, .int .i64 Y] 3)) w.heap.size 121 #[.int .i64 W, .int .i64 H, .int .i64 F, .int .i64 L, .int .i64 X, .int .i64 Y, .slice A n cap] := ((Blk.new w 121 #[.int .i64 W, .int .i64 H, .int .i64 F, .int .i64 L, .int .i64 X, .int .i64 Y, .slice A n cap]).alloc _).alloc _
  have hB3 : Below w.heap.size w (((w.alloc (.cells #[.int .i64 W, .int .i64 H, .int .i64 F, .int .i64 L, .int .i64 X, .int .i64 Y, .slice A n cap] 121)).alloc (.cells #[.int .i64 W, .int .i64 H, .int .i64 F, .int .i64 L, .int .i64 X, .int .i64 Y] 23)).alloc (.cells #[.int .i64 W, .int .i64 H, .int .i64 F, .int .i64 L, .int .i64 X, .int .i64 Y] 3)) := (((Below.refl _ w).alloc (Nat.le_refl _) _).alloc (by simp only [World.size_alloc]; omega) _).alloc (by simp only [World.size_alloc]; omega) _
  have hrow : Rd (((w.alloc (.cells #[.int .i64 W, .int .i64 H, .int .i64 F, .int .i64 L, .int .i64 X, .int .i64 Y, .slice A n cap] 121)).alloc (.cells #[.int .i64 W, .int .i64 H, .int .i64 F, .int .i64 L, .int .i64 X, .int .i64 Y] 23)).alloc (.cells #[.int .i64 W, .int .i64 H, .int .i64 F, .int .i64 L, .int .i64 X, .int .i64 Y] 3)) (((w.alloc (.cells #[.int .i64 W, .int .i64 H, .int .i64 F, .int .i64 L, .int .i64 X, .int .i64 Y, .slice A n cap] 121)).alloc (.cells #[.int .i64 W, .int .i64 H, .int .i64 F, .int .i64 L, .int .i64 X, .int .i64 Y] 23)).alloc (.cells #[.int .i64 W, .int .i64 H, .int .i64 F, .int .i64 L, .int .i64 X, .int .i64 Y] 3)).heap.size 1 (some ⟨w.heap.size + 1 + 1, 0, none⟩) 6 ([W, H, F, L, X, Y].map (Value.int .i64)) := by
    have h := Blk.new ((w.alloc (.cells #[.int .i64 W, .int .i64 H, .int .i64 F, .int .i64 L, .int .i64 X, .int .i64 Y, .slice A n cap] 121)).alloc (.cells #[.int .i64 W, .int .i64 H, .int .i64 F, .int .i64 L, .int .i64 X, .int .i64 Y] 23)) 3 #[.int .i64 W, .int .i64 H, .int .i64 F, .int .i64 L, .int .i64 X, .int .i64 Y]
    rw [show ((w.alloc (.cells #[.int .i64 W, .int .i64 H, .int .i64 F, .int .i64 L, .int .i64 X, .int .i64 Y, .slice A n cap] 121)).alloc (.cells #[.int .i64 W, .int .i64 H, .int .i64 F, .int .i64 L, .int .i64 X, .int .i64 Y] 23)).heap.size = w.heap.size + 1 + 1 by simp only [World.size_alloc]] at h
    exact Rd.blkN (cs := #[.int .i64 W, .int .i64 H, .int .i64 F, .int .i64 L, .int .i64 X, .int .i64 Y]) h rfl (by simp only [World.size_alloc]; omega)
  have hrz := rowS_size D [W, H, F, L, X, Y] ⟨#[115, 116, 97, 103, 101]⟩ hDs
  rw [show ByteArray.size ⟨#[115, 116, 97, 103, 101]⟩ = 5 from rfl] at hrz
  simp only [List.length_cons, List.length_nil] at hrz
  obtain ⟨row0, hrow0⟩ : ∃ r, r = rowS D [W, H, F, L, X, Y] ⟨#[115, 116, 97, 103, 101]⟩ := ⟨_, rfl⟩
  rw [← hrow0] at hrz
  have HR0 := Lib.hid hrow0; clear hrow0
  have hfm := hfs
  have HH0 := Lib.hid h0; clear h0
  go_wp2_with (go_at_call 142; refine (row_any D _ _ 6 6 [W, H, F, L, X, Y] _ (by omega) hrow (by rw [show ByteArray.size ⟨#[115, 116, 97, 103, 101]⟩ = 5 from rfl]; omega) (fun x hx => by have := hDs x hx; omega) hD).mono ?_; rintro e w4 ⟨rfl, hb⟩; rw [← HR0.out]; have hA4 := hA3.below hb hA3.lt; have hB4 := hB3.trans (hb.mono hB3.size); clear hA3 hB3 hrow hb)
  go_loopg [4, 5] n (fun g v i wr => ∃ (k : Nat) (v0 : Value), g = n - k ∧ k ≤ n ∧ i = .int .i64 k ∧ v = v0 ∧ wr.ownsRow w.heap.size 9 1 v0 (k + 1) ((row0 :: (fs.take k).map figW).map Value.string) ∧ Blk wr w.heap.size 121 #[.int .i64 W, .int .i64 H, .int .i64 F, .int .i64 L, .int .i64 X, .int .i64 Y, .slice A n cap] ∧ Below w.heap.size w wr)
  case atStart => exact ⟨0, _, rfl, Nat.zero_le _, rfl, rfl, World.ownsRow_lit w4 #[.string row0] 1 hB4.size (by unfold maxLen; omega) rfl, hA4.alloc _, hB4.alloc hB4.size _⟩
  case round =>
    clear hA4 hB4
    obtain ⟨k, v, hg, hk, rfl, rfl, hown, hA, hB⟩ := hrel
    obtain ⟨va, vc, rfl⟩ := own_slice hown
    have HG := Lib.hid hg; clear hg
    have hqA := fun i => hA.cell i
    have hlA := hA.lt
    by_cases hlt : k < n
    · obtain ⟨cb, coff, hz, rfl, hcb, hcc⟩ := (hr.below hB).atm hlt
      have hfk := ((hf _ (List.getElem_mem hz)).below hB)
      have hfz := hfs _ (List.getElem_mem hz)
      have htk : (fs.take (k + 1)).map figW = (fs.take k).map figW ++ [figW fs[k]] := by rw [List.take_succ_eq_append_getElem hz, List.map_append]; rfl
      generalize fs[k] = f at *
      obtain ⟨FA, fn, fcap, frs⟩ := f
      obtain ⟨hf1, hf2, hf3, hfr⟩ := hfk
      simp only [Fig.val] at *
      have hfl := hfr.len
      have HT := Lib.hid htk; have HFL := Lib.hid hfl; clear htk
      obtain ⟨ys, hys⟩ : ∃ ys, ys = (row0 :: (fs.take k).map figW).map Value.string := ⟨_, rfl⟩
      rw [← hys] at hown
      have HYS := Lib.hid hys; clear hys
      go_wp2
      go_loop [6, 7] (fun t j => ∃ (q : Nat) (s' : ByteArray), q ≤ fn ∧ j = .int .i64 q ∧ t = .string s' ∧ s'.size ≤ 6 + 1001 * q ∧ figS (frs.drop q) s' = figW ⟨FA, fn, fcap, frs⟩) (fun _ j => fn - (intOf j).toNat)
      case atStart => exact ⟨0, _, Nat.zero_le _, rfl, rfl, by rw [show ByteArray.size ⟨#[102, 105, 103, 117, 114, 101]⟩ = 6 from rfl]; omega, rfl⟩
      case round =>
        obtain ⟨q, s', hq, rfl, rfl, hsz, hfg⟩ := hrel
        by_cases hqt : q < fn
        · obtain ⟨fb, foff, hzq, rfl, hfb, hfc⟩ := hfr.atm hqt
          rw [figS_drop _ _ _ hzq] at hfg
          have hrz2 := hfz.2.1 _ (List.getElem_mem hzq)
          generalize frs[q] = r at *
          have q1 : ¬ 9223372036854775807 < s'.size + ByteArray.size ⟨#[32]⟩ := by rw [show ByteArray.size ⟨#[32]⟩ = 1 from rfl]; omega
          have q2 : ¬ 9223372036854775807 < (s' ++ ⟨#[32]⟩).size + r.size := by rw [ByteArray.size_append, show ByteArray.size ⟨#[32]⟩ = 1 from rfl]; omega
          have HFG := Lib.hid hfg; clear hfg
          go_wp2
          go_round
          case rel => exact ⟨q + 1, _, by omega, by go_num, rfl, by rw [ByteArray.size_append, ByteArray.size_append, show ByteArray.size ⟨#[32]⟩ = 1 from rfl]; omega, HFG.out⟩
          case measure => simp [intOf]; omega
        · have hd : frs.drop q = [] := List.drop_of_length_le (by have := HFL.out; omega)
          rw [hd, figS] at hfg
          have HFG := Lib.hid hfg; clear hfg
          go_wp2_with (first
            | (at_builtin; refine wpList_append_any _ rfl _ _ 24 rfl w.heap.size 9 i0 (.string ByteArray.empty) 1 16 Tryz.underlying24 hi hz0 hz1' hz2' rfl (by decide) (.slice va (k + 1) vc) (k + 1) ys rfl (hown.alloc _) (wr.heap.size + 1) (some ⟨wr.heap.size, 0, none⟩) 1 1 [.string s'] rfl (Rd.blkN (Blk.new _ _ _) rfl (Nat.lt_succ_self _)).reads (by simp [Value.oneCell']) (by unfold maxLen; omega) (by omega) (by have := hB.size; simp only [World.size_alloc]; omega) (fun v' w' hown' hgrow hob => ?_))
            | go_in)
          go_roundg (n - (k + 1))
          case measure => rw [HG.out]; omega
          case rel => exact ⟨k + 1, _, rfl, by omega, by go_num, rfl, by rw [HT.out, ← List.cons_append, List.map_append, ← HYS.out, ← HFG.out]; exact hown', (hA.alloc _).kept_own (hown.alloc _) (by decide) hgrow, (hB.alloc hB.size _).grown hgrow (by have := hB.size; simp only [World.size_alloc]; omega) (fun g hg => (hown.lt g hg).1)⟩
    · have hkn : k = n := by omega
      subst hkn
      have htk : row0 :: (fs.take k).map figW = bookR D W H F L X Y fs := by
        rw [HR0.out, List.take_of_length_le (by rw [HLEN.out]; omega)]; rfl
      rw [htk] at hown
      have hbz : ∀ r ∈ bookR D W H F L X Y fs, r.size ≤ 100000 := by
        intro r hr2
        rcases List.mem_cons.1 hr2 with rfl | hr2
        · rw [← HR0.out]; omega
        · obtain ⟨f, hff, rfl⟩ := List.mem_map.1 hr2
          exact (hfs f hff).2.2
      go_wp2_with (go_at_call 143; refine (sealed_any va (k + 1) vc (bookR D W H F L X Y fs) 173 _ (by omega) (by omega) hbz (Rd.of_own hown) HH0.out).mono ?_; rintro e w1 ⟨rfl, hb⟩)
      go_ret
      exact ⟨rfl, hB.trans (hb.mono hB.size)⟩
end
section
open Go.RowKit
section
variable {P : Program} {ops : Array Oper} {md : Region.Mode} {Q : Exit → Act → World → Prop} {T : World → Prop} {L : Nat}
theorem wpG_first2 {i : Nat} {oi : Oper} {v : Value} (hi : ops[i]? = some oi) (hoL : ops[L]? = none) (hsel : ∀ (j : Nat) (o : Oper) cs b, ops[j]? = some o → o.op ≠ .select cs b)
    (hQ : ∀ c a w, Q (.panic c) (a.put oi.dst v) w → Q (.panic c) a w) :
    ∀ (fuel : Nat) (listed : Array Bool) (a : Act) (w : World),
      (∀ j oj, ops[j]? = some oj → j ≠ i → listed.getD j true = false → (∀ e ∈ oj.after, Region.binds md e = true → e.on ≠ i) → oi.apart ops oj = true) →
      i ∈ Region.ready md ops listed → YieldsIf P ops T oi v a → T w →
      wpG P md ops Q T L fuel (listed.setIfInBounds i true) (a.put oi.dst v) w → wpG P md ops Q T L (fuel + 1) listed a w := by
  intro fuel
  induction fuel with
  | zero =>
    intro listed a w _ hr hy hS H
    refine ⟨fun h => (by rw [h] at hr; cases hr), fun j hj => ?_⟩
    by_cases hji : j = i
    · subst hji; exact hy.wpOp hi hS ⟨.inr hS, H⟩
    · have := ready_mono hj hji
      rw [H.1] at this
      cases this
  | succ fuel ih =>
    intro listed a w hfree hr hy hS H
    refine ⟨fun h => (by rw [h] at hr; cases hr), fun j hj => ?_⟩
    by_cases hji : j = i
    · subst hji; exact hy.wpOp hi hS ⟨.inr hS, H⟩
    · have h1 := H.2 j (ready_mono hj hji)
      obtain ⟨hjun, oj, hoj, hall⟩ := mem_ready.1 hj
      have hnot : ∀ e ∈ oj.after, Region.binds md e = true → e.on ≠ i := fun e he hb heq => by
        have h1 := hall e he hb
        have h0 := (mem_ready.1 hr).1
        rw [heq] at h1
        rcases Nat.lt_or_ge i listed.size with h' | h'
        · simp [h'] at h0 h1; rw [h0] at h1; cases h1
        · simp [Array.getElem?_eq_none h'] at h1
      have hjL : j ≠ L := fun e => by
        subst e
        rw [hoj] at hoL; cases hoL
      have h2 := wpOp_putIf hoj (hfree j oj hoj hji hjun hnot) (fun cs b => hsel i oi cs b hi) (fun cs b => hsel j oj cs b hoj) hQ hy h1
      have hfree' : ∀ k ok, ops[k]? = some ok → k ≠ i → (listed.setIfInBounds j true).getD k true = false →
          (∀ e ∈ ok.after, Region.binds md e = true → e.on ≠ i) → oi.apart ops ok = true := fun k ok hk hki hun hno => by
        refine hfree k ok hk hki ?_ hno
        by_cases hjk : j = k
        · subst hjk; exact hjun
        · rw [getD_set_ne true hjk] at hun; exact hun
      refine wpOp_mono (fun a' w' h3 => ?_) h2
      have hT : T w' := h3.2.1.resolve_left hjL
      refine ⟨.inr hT, ih (listed.setIfInBounds j true) a' w' hfree' (ready_mono hr (Ne.symm hji)) h3.1 hT ?_⟩
      rw [Array.setIfInBounds_comm _ _ hji]
      exact h3.2.2
/-- Number i may come first: it only looks at what T tells. -/
theorem wpG_take2 {i : Nat} {oi : Oper} {v : Value} {fuel : Nat} {listed : Array Bool} {a : Act} {w : World} (hi : ops[i]? = some oi)
    (hs : Region.noSelect ops = true) (hf : Region.free md ops listed i = true) (hr : (Region.ready md ops listed).contains i = true) (hoL : ops[L]? = none)
    (hQ : ∀ c a w, Q (.panic c) (a.put oi.dst v) w → Q (.panic c) a w) (hy : YieldsIf P ops T oi v a) (hS : T w)
    (h : wpG P md ops Q T L fuel (listed.setIfInBounds i true) (a.put oi.dst v) w) : wpG P md ops Q T L (fuel + 1) listed a w := by
  exact wpG_first2 hi hoL (Region.noSelect_spec hs) hQ fuel listed a w (Region.free_spec hi hf) (by simpa using hr) hy hS h
end
end
section
open Go.RowKit Go.Lib
set_option maxRecDepth 100000 in
theorem linesOf_bad (s : ByteArray) (w : World) (hs : s.size ≤ 1000) (hend : Lib.hasSuffix s.data.toList [10] = false) :
    Calls Tryz.prog 174 #[.string s] w fun e w' => e = BAD ∧ Below w.heap.size w w' := by
  go_enter Tryz.func174, Tryz.ntmps174
  go_wp2_with (first
    | (go_at_call 198; refine (Tryz.strings_CutSuffix s ⟨#[10]⟩ _ (by omega)).mono ?_; rintro e w1 ⟨rfl, rfl⟩; rw [hend])
    | (go_at_call 175; refine (insist_bad _).mono ?_; rintro e w1 ⟨rfl, rfl⟩))
  exact ⟨rfl, Eq.symm (by assumption), Below.refl _ _⟩
set_option maxRecDepth 100000 in
set_option maxHeartbeats 1600000 in
theorem wordsOf_badA (k : Int) (kw : ByteArray) (l : ByteArray) (n : Nat) (ws : List ByteArray) (w0 : ByteArray) (m : Int) (w : World) (hkw : ∀ w : World, Calls Tryz.prog 196 #[.int .i64 k] w fun e w' => e = .returned (.string kw) ∧ w = w') (hl : l.size ≤ 1000) (hm : w.cell? ⟨0, 0, none⟩ = some (.int .i64 m))
    (hn : countB l ⟨#[32]⟩ = n) (hn2 : n ≤ 1000) (hws : splitB ⟨#[32]⟩ 0 n l = ws) (hwl : ws.length = n + 1) (h0 : ws[0]? = some w0) (hz : n = 0) :
    Calls Tryz.prog 177 #[.int .i64 k, .string l] w fun e w' => e = BAD ∧ Below w.heap.size w w' := by
  have HN := Lib.hid hn; have HWS := Lib.hid hws; have HWL := Lib.hid hwl; have HH0 := Lib.hid h0
  clear hn hws hwl h0
  go_enter Tryz.func177, Tryz.ntmps177
  go_upto_region 2 with (first
    | (go_at_call 199; refine (Tryz.strings_Split l ⟨#[32]⟩ m _ (by omega) hm (by decide)).mono ?_; rintro e w1 ⟨rfl, rfl⟩; rw [HN.out, HWS.out]))
  have hbk : Blk (w.alloc (.cells (ws.map Value.string).toArray 9)) w.heap.size 9 (ws.map Value.string).toArray := Blk.new _ _ _
  have hBw : Below w.heap.size w (w.alloc (.cells (ws.map Value.string).toArray 9)) := (Below.refl _ w).alloc (Nat.le_refl _) _
  obtain ⟨b, hb⟩ : ∃ b, b = w.heap.size := ⟨_, rfl⟩
  rw [← hb] at hbk ⊢
  have HB := Lib.hid hb; clear hb
  generalize w.alloc (.cells (ws.map Value.string).toArray 9) = w1 at *
  have hcz : ∀ wq : World, Blk wq b 9 (ws.map Value.string).toArray → wq.cell? ⟨b, 0, none⟩ = some (.string w0) := fun wq hq => by
    rw [hq.cell 0]; simp [HH0.out]
  have hcy : ∀ wq : World, Blk wq b 9 (ws.map Value.string).toArray → ∀ j, j < ws.length → wq.cell? ⟨b, j, none⟩ = some (.string (ws.getD j ByteArray.empty)) := fun wq hq j hj => by
    rw [hq.cell j]; simp [List.getD, hj]
  have hnz : ¬ (1 : Int) < (n : Int) + 1 := by omega
  refine wp_region_G (fun w' => Blk w' b 9 (ws.map Value.string).toArray) 17 (by kernel_rfl) ?_
  replace hbk := hbk.drew
  replace hBw := hBw.drew
  generalize w1.drew = WD at *
  have hTT := hbk
  refine wpG_take2 (i := 0) (v := ?vA0) rfl (by kernel_rfl) (by kernel_rfl) (by kernel_rfl) rfl (fun _ _ _ h => h) (Or.inl ⟨by rfl, ?hyA0⟩) hTT ?restA0
  case hyA0 => intro wq hSw; have hq1 := hcz _ hSw; go_simp <;> with_reducible rfl
  simp only [List.getElem_toArray, List.getElem_cons_zero, List.getElem_cons_succ, Act.put, List.setIfInBounds_toArray, List.set_cons_zero, List.set_cons_succ]
  refine wpG_take2 (i := 1) (v := ?vA1) rfl (by kernel_rfl) (by kernel_rfl) (by kernel_rfl) rfl (fun _ _ _ h => h) (Or.inl ⟨by rfl, ?hyA1⟩) hTT ?restA1
  case hyA1 => intro wq hSw; have hq1 := hcz _ hSw; go_simp <;> with_reducible rfl
  simp only [List.getElem_toArray, List.getElem_cons_zero, List.getElem_cons_succ, Act.put, List.setIfInBounds_toArray, List.set_cons_zero, List.set_cons_succ]
  refine wpG_take2 (i := 2) (v := ?vA2) rfl (by kernel_rfl) (by kernel_rfl) (by kernel_rfl) rfl (fun _ _ _ h => h) (Or.inl ⟨by rfl, ?hyA2⟩) hTT ?restA2
  case hyA2 => intro wq hSw; have hq1 := hcz _ hSw; go_simp <;> with_reducible rfl
  simp only [List.getElem_toArray, List.getElem_cons_zero, List.getElem_cons_succ, Act.put, List.setIfInBounds_toArray, List.set_cons_zero, List.set_cons_succ]
  refine wpG_take2 (i := 3) (v := ?vA3) rfl (by kernel_rfl) (by kernel_rfl) (by kernel_rfl) rfl (fun _ _ _ h => h) (Or.inl ⟨by rfl, ?hyA3⟩) hTT ?restA3
  case hyA3 => intro wq hSw; have hq1 := hcz _ hSw; go_simp <;> with_reducible rfl
  simp only [List.getElem_toArray, List.getElem_cons_zero, List.getElem_cons_succ, Act.put, List.setIfInBounds_toArray, List.set_cons_zero, List.set_cons_succ]
  refine wpG_take2 (i := 4) (v := undef) rfl (by kernel_rfl) (by kernel_rfl) (by kernel_rfl) rfl (fun _ _ _ h => h) (Or.inr ⟨by rfl, rfl⟩) hTT ?restA4
  simp only [List.getElem_toArray, List.getElem_cons_zero, List.getElem_cons_succ, Act.put, List.setIfInBounds_toArray, List.set_cons_zero, List.set_cons_succ]
  refine wpG_take2 (i := 5) (v := undef) rfl (by kernel_rfl) (by kernel_rfl) (by kernel_rfl) rfl (fun _ _ _ h => h) (Or.inr ⟨by rfl, rfl⟩) hTT ?restA5
  simp only [List.getElem_toArray, List.getElem_cons_zero, List.getElem_cons_succ, Act.put, List.setIfInBounds_toArray, List.set_cons_zero, List.set_cons_succ]
  refine wpG_take2 (i := 6) (v := undef) rfl (by kernel_rfl) (by kernel_rfl) (by kernel_rfl) rfl (fun _ _ _ h => h) (Or.inr ⟨by rfl, rfl⟩) hTT ?restA6
  simp only [List.getElem_toArray, List.getElem_cons_zero, List.getElem_cons_succ, Act.put, List.setIfInBounds_toArray, List.set_cons_zero, List.set_cons_succ]
  refine wpG_take2 (i := 7) (v := undef) rfl (by kernel_rfl) (by kernel_rfl) (by kernel_rfl) rfl (fun _ _ _ h => h) (Or.inr ⟨by rfl, rfl⟩) hTT ?restA7
  simp only [List.getElem_toArray, List.getElem_cons_zero, List.getElem_cons_succ, Act.put, List.setIfInBounds_toArray, List.set_cons_zero, List.set_cons_succ]
  refine wpG_take2 (i := 8) (v := undef) rfl (by kernel_rfl) (by kernel_rfl) (by kernel_rfl) rfl (fun _ _ _ h => h) (Or.inr ⟨by rfl, rfl⟩) hTT ?restA8
  simp only [List.getElem_toArray, List.getElem_cons_zero, List.getElem_cons_succ, Act.put, List.setIfInBounds_toArray, List.set_cons_zero, List.set_cons_succ]
  refine wpG_take2 (i := 9) (v := undef) rfl (by kernel_rfl) (by kernel_rfl) (by kernel_rfl) rfl (fun _ _ _ h => h) (Or.inr ⟨by rfl, rfl⟩) hTT ?restA9
  simp only [List.getElem_toArray, List.getElem_cons_zero, List.getElem_cons_succ, Act.put, List.setIfInBounds_toArray, List.set_cons_zero, List.set_cons_succ]
  refine wpG_take2 (i := 10) (v := ?vA10) rfl (by kernel_rfl) (by kernel_rfl) (by kernel_rfl) rfl (fun _ _ _ h => h) (Or.inl ⟨by rfl, ?hyA10⟩) hTT ?restA10
  case hyA10 => intro wq hSw; have hq1 := hcz _ hSw; go_simp <;> with_reducible rfl
  simp only [List.getElem_toArray, List.getElem_cons_zero, List.getElem_cons_succ, Act.put, List.setIfInBounds_toArray, List.set_cons_zero, List.set_cons_succ]
  refine wpG_take2 (i := 11) (v := ?vA11) rfl (by kernel_rfl) (by kernel_rfl) (by kernel_rfl) rfl (fun _ _ _ h => h) (Or.inl ⟨by rfl, ?hyA11⟩) hTT ?restA11
  case hyA11 => intro wq hSw; have hq1 := hcz _ hSw; go_simp <;> with_reducible rfl
  simp only [List.getElem_toArray, List.getElem_cons_zero, List.getElem_cons_succ, Act.put, List.setIfInBounds_toArray, List.set_cons_zero, List.set_cons_succ]
  refine wpG_take2 (i := 12) (v := undef) rfl (by kernel_rfl) (by kernel_rfl) (by kernel_rfl) rfl (fun _ _ _ h => h) (Or.inr ⟨by rfl, rfl⟩) hTT ?restA12
  simp only [List.getElem_toArray, List.getElem_cons_zero, List.getElem_cons_succ, Act.put, List.setIfInBounds_toArray, List.set_cons_zero, List.set_cons_succ]
  refine wpG_take2 (i := 13) (v := undef) rfl (by kernel_rfl) (by kernel_rfl) (by kernel_rfl) rfl (fun _ _ _ h => h) (Or.inr ⟨by rfl, rfl⟩) hTT ?restA13
  simp only [List.getElem_toArray, List.getElem_cons_zero, List.getElem_cons_succ, Act.put, List.setIfInBounds_toArray, List.set_cons_zero, List.set_cons_succ]
  refine wpG_take2 (i := 14) (v := undef) rfl (by kernel_rfl) (by kernel_rfl) (by kernel_rfl) rfl (fun _ _ _ h => h) (Or.inr ⟨by rfl, rfl⟩) hTT ?restA14
  simp only [List.getElem_toArray, List.getElem_cons_zero, List.getElem_cons_succ, Act.put, List.setIfInBounds_toArray, List.set_cons_zero, List.set_cons_succ]
  refine wpG_take2 (i := 15) (v := ?vA15) rfl (by kernel_rfl) (by kernel_rfl) (by kernel_rfl) rfl (fun _ _ _ h => h) (Or.inl ⟨by rfl, ?hyA15⟩) hTT ?restA15
  case hyA15 => intro wq hSw; have hq1 := hcz _ hSw; go_simp <;> with_reducible rfl
  simp only [List.getElem_toArray, List.getElem_cons_zero, List.getElem_cons_succ, Act.put, List.setIfInBounds_toArray, List.set_cons_zero, List.set_cons_succ]
  refine wpG_one (i := 16) rfl (by kernel_rfl) (fun K hK => ?_)
  go_simp
  refine (insist_bad _).mono ?_
  rintro e w9 ⟨rfl, rfl⟩
  exact ⟨rfl, rfl, hBw⟩
set_option maxRecDepth 100000 in
set_option maxHeartbeats 1600000 in
theorem wordsOf_badB (k : Int) (kw : ByteArray) (l : ByteArray) (n : Nat) (ws : List ByteArray) (w0 : ByteArray) (m : Int) (w : World) (hkw : ∀ w : World, Calls Tryz.prog 196 #[.int .i64 k] w fun e w' => e = .returned (.string kw) ∧ w = w') (hl : l.size ≤ 1000) (hm : w.cell? ⟨0, 0, none⟩ = some (.int .i64 m))
    (hn : countB l ⟨#[32]⟩ = n) (hn2 : n ≤ 1000) (hws : splitB ⟨#[32]⟩ 0 n l = ws) (hwl : ws.length = n + 1) (h0 : ws[0]? = some w0) (hz : 1 ≤ n) (hne : w0 ≠ kw) :
    Calls Tryz.prog 177 #[.int .i64 k, .string l] w fun e w' => e = BAD ∧ Below w.heap.size w w' := by
  have HN := Lib.hid hn; have HWS := Lib.hid hws; have HWL := Lib.hid hwl; have HH0 := Lib.hid h0
  clear hn hws hwl h0
  go_enter Tryz.func177, Tryz.ntmps177
  go_upto_region 2 with (first
    | (go_at_call 199; refine (Tryz.strings_Split l ⟨#[32]⟩ m _ (by omega) hm (by decide)).mono ?_; rintro e w1 ⟨rfl, rfl⟩; rw [HN.out, HWS.out]))
  have hbk : Blk (w.alloc (.cells (ws.map Value.string).toArray 9)) w.heap.size 9 (ws.map Value.string).toArray := Blk.new _ _ _
  have hBw : Below w.heap.size w (w.alloc (.cells (ws.map Value.string).toArray 9)) := (Below.refl _ w).alloc (Nat.le_refl _) _
  obtain ⟨b, hb⟩ : ∃ b, b = w.heap.size := ⟨_, rfl⟩
  rw [← hb] at hbk ⊢
  have HB := Lib.hid hb; clear hb
  generalize w.alloc (.cells (ws.map Value.string).toArray 9) = w1 at *
  have hcz : ∀ wq : World, Blk wq b 9 (ws.map Value.string).toArray → wq.cell? ⟨b, 0, none⟩ = some (.string w0) := fun wq hq => by
    rw [hq.cell 0]; simp [HH0.out]
  have hcy : ∀ wq : World, Blk wq b 9 (ws.map Value.string).toArray → ∀ j, j < ws.length → wq.cell? ⟨b, j, none⟩ = some (.string (ws.getD j ByteArray.empty)) := fun wq hq j hj => by
    rw [hq.cell j]; simp [List.getD, hj]
  have hnz : (1 : Int) < (n : Int) + 1 := by omega
  have hneb : (w0.toList == kw.toList) = false := by
    rw [beq_eq_false_iff_ne, ByteArray.toList_eq, ByteArray.toList_eq]
    intro e
    exact hne (ByteArray.ext (Array.toList_inj.1 e))
  clear hne
  refine wp_region_G (fun w' => Blk w' b 9 (ws.map Value.string).toArray) 17 (by kernel_rfl) ?_
  replace hbk := hbk.drew
  replace hBw := hBw.drew
  generalize w1.drew = WD at *
  have hTT := hbk
  refine wpG_take2 (i := 0) (v := ?vB0) rfl (by kernel_rfl) (by kernel_rfl) (by kernel_rfl) rfl (fun _ _ _ h => h) (Or.inl ⟨by rfl, ?hyB0⟩) hTT ?restB0
  case hyB0 => intro wq hSw; have hq1 := hcz _ hSw; go_simp <;> with_reducible rfl
  simp only [List.getElem_toArray, List.getElem_cons_zero, List.getElem_cons_succ, Act.put, List.setIfInBounds_toArray, List.set_cons_zero, List.set_cons_succ]
  refine wpG_take2 (i := 1) (v := ?vB1) rfl (by kernel_rfl) (by kernel_rfl) (by kernel_rfl) rfl (fun _ _ _ h => h) (Or.inl ⟨by rfl, ?hyB1⟩) hTT ?restB1
  case hyB1 => intro wq hSw; have hq1 := hcz _ hSw; go_simp <;> with_reducible rfl
  simp only [List.getElem_toArray, List.getElem_cons_zero, List.getElem_cons_succ, Act.put, List.setIfInBounds_toArray, List.set_cons_zero, List.set_cons_succ]
  refine wpG_take2 (i := 2) (v := ?vB2) rfl (by kernel_rfl) (by kernel_rfl) (by kernel_rfl) rfl (fun _ _ _ h => h) (Or.inl ⟨by rfl, ?hyB2⟩) hTT ?restB2
  case hyB2 => intro wq hSw; have hq1 := hcz _ hSw; go_simp <;> with_reducible rfl
  simp only [List.getElem_toArray, List.getElem_cons_zero, List.getElem_cons_succ, Act.put, List.setIfInBounds_toArray, List.set_cons_zero, List.set_cons_succ]
  refine wpG_take2 (i := 3) (v := ?vB3) rfl (by kernel_rfl) (by kernel_rfl) (by kernel_rfl) rfl (fun _ _ _ h => h) (Or.inl ⟨by rfl, ?hyB3⟩) hTT ?restB3
  case hyB3 => intro wq hSw; have hq1 := hcz _ hSw; go_simp <;> with_reducible rfl
  simp only [List.getElem_toArray, List.getElem_cons_zero, List.getElem_cons_succ, Act.put, List.setIfInBounds_toArray, List.set_cons_zero, List.set_cons_succ]
  refine wpG_take2 (i := 4) (v := ?vB4) rfl (by kernel_rfl) (by kernel_rfl) (by kernel_rfl) rfl (fun _ _ _ h => h) (Or.inl ⟨by rfl, ?hyB4⟩) hTT ?restB4
  case hyB4 => intro wq hSw; have hq1 := hcz _ hSw; go_simp <;> with_reducible rfl
  simp only [List.getElem_toArray, List.getElem_cons_zero, List.getElem_cons_succ, Act.put, List.setIfInBounds_toArray, List.set_cons_zero, List.set_cons_succ]
  refine wpG_take2 (i := 5) (v := ?vB5) rfl (by kernel_rfl) (by kernel_rfl) (by kernel_rfl) rfl (fun _ _ _ h => h) (Or.inl ⟨by rfl, ?hyB5⟩) hTT ?restB5
  case hyB5 => intro wq hSw; have hq1 := hcz _ hSw; go_simp <;> with_reducible rfl
  simp only [List.getElem_toArray, List.getElem_cons_zero, List.getElem_cons_succ, Act.put, List.setIfInBounds_toArray, List.set_cons_zero, List.set_cons_succ]
  refine wpG_take2 (i := 6) (v := ?vB6) rfl (by kernel_rfl) (by kernel_rfl) (by kernel_rfl) rfl (fun _ _ _ h => h) (Or.inl ⟨by rfl, ?hyB6⟩) hTT ?restB6
  case hyB6 => intro wq hSw; have hq1 := hcz _ hSw; go_simp <;> with_reducible rfl
  simp only [List.getElem_toArray, List.getElem_cons_zero, List.getElem_cons_succ, Act.put, List.setIfInBounds_toArray, List.set_cons_zero, List.set_cons_succ]
  refine wpG_take2 (i := 7) (v := ?vB7) rfl (by kernel_rfl) (by kernel_rfl) (by kernel_rfl) rfl (fun _ _ _ h => h) (Or.inl ⟨by rfl, ?hyB7⟩) hTT ?restB7
  case hyB7 => intro wq hSw; have hq1 := hcz _ hSw; go_simp <;> with_reducible rfl
  simp only [List.getElem_toArray, List.getElem_cons_zero, List.getElem_cons_succ, Act.put, List.setIfInBounds_toArray, List.set_cons_zero, List.set_cons_succ]
  refine wpG_one (i := 8) rfl (by kernel_rfl) (fun K hK => ?_)
  go_simp
  refine (hkw _).mono ?_; rintro e w7 ⟨rfl, rfl⟩; dsimp only
  refine hK _ _ (.inr hTT) ?_
  clear hK K
  try simp only [List.getElem_toArray, List.getElem_cons_zero, List.getElem_cons_succ, Act.put, List.setIfInBounds_toArray, List.set_cons_zero, List.set_cons_succ]
  refine wpG_take2 (i := 9) (v := ?vB9) rfl (by kernel_rfl) (by kernel_rfl) (by kernel_rfl) rfl (fun _ _ _ h => h) (Or.inl ⟨by rfl, ?hyB9⟩) hTT ?restB9
  case hyB9 => intro wq hSw; have hq1 := hcz _ hSw; go_simp <;> with_reducible rfl
  simp only [List.getElem_toArray, List.getElem_cons_zero, List.getElem_cons_succ, Act.put, List.setIfInBounds_toArray, List.set_cons_zero, List.set_cons_succ]
  refine wpG_take2 (i := 10) (v := ?vB10) rfl (by kernel_rfl) (by kernel_rfl) (by kernel_rfl) rfl (fun _ _ _ h => h) (Or.inl ⟨by rfl, ?hyB10⟩) hTT ?restB10
  case hyB10 => intro wq hSw; have hq1 := hcz _ hSw; go_simp <;> with_reducible rfl
  simp only [List.getElem_toArray, List.getElem_cons_zero, List.getElem_cons_succ, Act.put, List.setIfInBounds_toArray, List.set_cons_zero, List.set_cons_succ]
  refine wpG_take2 (i := 11) (v := ?vB11) rfl (by kernel_rfl) (by kernel_rfl) (by kernel_rfl) rfl (fun _ _ _ h => h) (Or.inl ⟨by rfl, ?hyB11⟩) hTT ?restB11
  case hyB11 => intro wq hSw; have hq1 := hcz _ hSw; go_simp <;> with_reducible rfl
  simp only [List.getElem_toArray, List.getElem_cons_zero, List.getElem_cons_succ, Act.put, List.setIfInBounds_toArray, List.set_cons_zero, List.set_cons_succ]
  refine wpG_take2 (i := 12) (v := undef) rfl (by kernel_rfl) (by kernel_rfl) (by kernel_rfl) rfl (fun _ _ _ h => h) (Or.inr ⟨by rfl, rfl⟩) hTT ?restB12
  simp only [List.getElem_toArray, List.getElem_cons_zero, List.getElem_cons_succ, Act.put, List.setIfInBounds_toArray, List.set_cons_zero, List.set_cons_succ]
  refine wpG_take2 (i := 13) (v := undef) rfl (by kernel_rfl) (by kernel_rfl) (by kernel_rfl) rfl (fun _ _ _ h => h) (Or.inr ⟨by rfl, rfl⟩) hTT ?restB13
  simp only [List.getElem_toArray, List.getElem_cons_zero, List.getElem_cons_succ, Act.put, List.setIfInBounds_toArray, List.set_cons_zero, List.set_cons_succ]
  refine wpG_take2 (i := 14) (v := undef) rfl (by kernel_rfl) (by kernel_rfl) (by kernel_rfl) rfl (fun _ _ _ h => h) (Or.inr ⟨by rfl, rfl⟩) hTT ?restB14
  simp only [List.getElem_toArray, List.getElem_cons_zero, List.getElem_cons_succ, Act.put, List.setIfInBounds_toArray, List.set_cons_zero, List.set_cons_succ]
  refine wpG_take2 (i := 15) (v := ?vB15) rfl (by kernel_rfl) (by kernel_rfl) (by kernel_rfl) rfl (fun _ _ _ h => h) (Or.inl ⟨by rfl, ?hyB15⟩) hTT ?restB15
  case hyB15 => intro wq hSw; have hq1 := hcz _ hSw; go_simp <;> with_reducible rfl
  simp only [List.getElem_toArray, List.getElem_cons_zero, List.getElem_cons_succ, Act.put, List.setIfInBounds_toArray, List.set_cons_zero, List.set_cons_succ]
  refine wpG_one (i := 16) rfl (by kernel_rfl) (fun K hK => ?_)
  go_simp
  refine (insist_bad _).mono ?_
  rintro e w9 ⟨rfl, rfl⟩
  exact ⟨rfl, rfl, hBw⟩
set_option maxRecDepth 100000 in
set_option maxHeartbeats 1600000 in
theorem wordsOf_badC (k : Int) (kw : ByteArray) (l : ByteArray) (n : Nat) (ws : List ByteArray) (m : Int) (w : World) (hkw : ∀ w : World, Calls Tryz.prog 196 #[.int .i64 k] w fun e w' => e = .returned (.string kw) ∧ w = w') (hl : l.size ≤ 1000) (hm : w.cell? ⟨0, 0, none⟩ = some (.int .i64 m))
    (hn : countB l ⟨#[32]⟩ = n) (hn2 : n ≤ 1000) (hws : splitB ⟨#[32]⟩ 0 n l = ws) (hwl : ws.length = n + 1) (h0 : ws[0]? = some kw) (hz : 1 ≤ n) (hct : containsS ws ⟨#[]⟩ = true) :
    Calls Tryz.prog 177 #[.int .i64 k, .string l] w fun e w' => e = BAD ∧ Below w.heap.size w w' := by
  have HN := Lib.hid hn; have HWS := Lib.hid hws; have HWL := Lib.hid hwl; have HH0 := Lib.hid h0
  clear hn hws hwl h0
  go_enter Tryz.func177, Tryz.ntmps177
  go_upto_region 2 with (first
    | (go_at_call 199; refine (Tryz.strings_Split l ⟨#[32]⟩ m _ (by omega) hm (by decide)).mono ?_; rintro e w1 ⟨rfl, rfl⟩; rw [HN.out, HWS.out]))
  have hbk : Blk (w.alloc (.cells (ws.map Value.string).toArray 9)) w.heap.size 9 (ws.map Value.string).toArray := Blk.new _ _ _
  have hBw : Below w.heap.size w (w.alloc (.cells (ws.map Value.string).toArray 9)) := (Below.refl _ w).alloc (Nat.le_refl _) _
  obtain ⟨b, hb⟩ : ∃ b, b = w.heap.size := ⟨_, rfl⟩
  rw [← hb] at hbk ⊢
  have HB := Lib.hid hb; clear hb
  generalize w.alloc (.cells (ws.map Value.string).toArray 9) = w1 at *
  have hcz : ∀ wq : World, Blk wq b 9 (ws.map Value.string).toArray → wq.cell? ⟨b, 0, none⟩ = some (.string kw) := fun wq hq => by
    rw [hq.cell 0]; simp [HH0.out]
  have hcy : ∀ wq : World, Blk wq b 9 (ws.map Value.string).toArray → ∀ j, j < ws.length → wq.cell? ⟨b, j, none⟩ = some (.string (ws.getD j ByteArray.empty)) := fun wq hq j hj => by
    rw [hq.cell j]; simp [List.getD, hj]
  have hnz : (1 : Int) < (n : Int) + 1 := by omega
  refine wp_region_G (fun w' => Blk w' b 9 (ws.map Value.string).toArray) 17 (by kernel_rfl) ?_
  replace hbk := hbk.drew
  replace hBw := hBw.drew
  generalize w1.drew = WD at *
  have hTT := hbk
  refine wpG_take2 (i := 0) (v := ?vC0) rfl (by kernel_rfl) (by kernel_rfl) (by kernel_rfl) rfl (fun _ _ _ h => h) (Or.inl ⟨by rfl, ?hyC0⟩) hTT ?restC0
  case hyC0 => intro wq hSw; have hq1 := hcz _ hSw; go_simp <;> with_reducible rfl
  simp only [List.getElem_toArray, List.getElem_cons_zero, List.getElem_cons_succ, Act.put, List.setIfInBounds_toArray, List.set_cons_zero, List.set_cons_succ]
  refine wpG_take2 (i := 1) (v := ?vC1) rfl (by kernel_rfl) (by kernel_rfl) (by kernel_rfl) rfl (fun _ _ _ h => h) (Or.inl ⟨by rfl, ?hyC1⟩) hTT ?restC1
  case hyC1 => intro wq hSw; have hq1 := hcz _ hSw; go_simp <;> with_reducible rfl
  simp only [List.getElem_toArray, List.getElem_cons_zero, List.getElem_cons_succ, Act.put, List.setIfInBounds_toArray, List.set_cons_zero, List.set_cons_succ]
  refine wpG_take2 (i := 2) (v := ?vC2) rfl (by kernel_rfl) (by kernel_rfl) (by kernel_rfl) rfl (fun _ _ _ h => h) (Or.inl ⟨by rfl, ?hyC2⟩) hTT ?restC2
  case hyC2 => intro wq hSw; have hq1 := hcz _ hSw; go_simp <;> with_reducible rfl
  simp only [List.getElem_toArray, List.getElem_cons_zero, List.getElem_cons_succ, Act.put, List.setIfInBounds_toArray, List.set_cons_zero, List.set_cons_succ]
  refine wpG_take2 (i := 3) (v := ?vC3) rfl (by kernel_rfl) (by kernel_rfl) (by kernel_rfl) rfl (fun _ _ _ h => h) (Or.inl ⟨by rfl, ?hyC3⟩) hTT ?restC3
  case hyC3 => intro wq hSw; have hq1 := hcz _ hSw; go_simp <;> with_reducible rfl
  simp only [List.getElem_toArray, List.getElem_cons_zero, List.getElem_cons_succ, Act.put, List.setIfInBounds_toArray, List.set_cons_zero, List.set_cons_succ]
  refine wpG_take2 (i := 4) (v := ?vC4) rfl (by kernel_rfl) (by kernel_rfl) (by kernel_rfl) rfl (fun _ _ _ h => h) (Or.inl ⟨by rfl, ?hyC4⟩) hTT ?restC4
  case hyC4 => intro wq hSw; have hq1 := hcz _ hSw; go_simp <;> with_reducible rfl
  simp only [List.getElem_toArray, List.getElem_cons_zero, List.getElem_cons_succ, Act.put, List.setIfInBounds_toArray, List.set_cons_zero, List.set_cons_succ]
  refine wpG_take2 (i := 5) (v := ?vC5) rfl (by kernel_rfl) (by kernel_rfl) (by kernel_rfl) rfl (fun _ _ _ h => h) (Or.inl ⟨by rfl, ?hyC5⟩) hTT ?restC5
  case hyC5 => intro wq hSw; have hq1 := hcz _ hSw; go_simp <;> with_reducible rfl
  simp only [List.getElem_toArray, List.getElem_cons_zero, List.getElem_cons_succ, Act.put, List.setIfInBounds_toArray, List.set_cons_zero, List.set_cons_succ]
  refine wpG_take2 (i := 6) (v := ?vC6) rfl (by kernel_rfl) (by kernel_rfl) (by kernel_rfl) rfl (fun _ _ _ h => h) (Or.inl ⟨by rfl, ?hyC6⟩) hTT ?restC6
  case hyC6 => intro wq hSw; have hq1 := hcz _ hSw; go_simp <;> with_reducible rfl
  simp only [List.getElem_toArray, List.getElem_cons_zero, List.getElem_cons_succ, Act.put, List.setIfInBounds_toArray, List.set_cons_zero, List.set_cons_succ]
  refine wpG_take2 (i := 7) (v := ?vC7) rfl (by kernel_rfl) (by kernel_rfl) (by kernel_rfl) rfl (fun _ _ _ h => h) (Or.inl ⟨by rfl, ?hyC7⟩) hTT ?restC7
  case hyC7 => intro wq hSw; have hq1 := hcz _ hSw; go_simp <;> with_reducible rfl
  simp only [List.getElem_toArray, List.getElem_cons_zero, List.getElem_cons_succ, Act.put, List.setIfInBounds_toArray, List.set_cons_zero, List.set_cons_succ]
  refine wpG_one (i := 8) rfl (by kernel_rfl) (fun K hK => ?_)
  go_simp
  refine (hkw _).mono ?_; rintro e w7 ⟨rfl, rfl⟩; dsimp only
  refine hK _ _ (.inr hTT) ?_
  clear hK K
  try simp only [List.getElem_toArray, List.getElem_cons_zero, List.getElem_cons_succ, Act.put, List.setIfInBounds_toArray, List.set_cons_zero, List.set_cons_succ]
  refine wpG_take2 (i := 9) (v := ?vC9) rfl (by kernel_rfl) (by kernel_rfl) (by kernel_rfl) rfl (fun _ _ _ h => h) (Or.inl ⟨by rfl, ?hyC9⟩) hTT ?restC9
  case hyC9 => intro wq hSw; have hq1 := hcz _ hSw; go_simp <;> with_reducible rfl
  simp only [List.getElem_toArray, List.getElem_cons_zero, List.getElem_cons_succ, Act.put, List.setIfInBounds_toArray, List.set_cons_zero, List.set_cons_succ]
  refine wpG_take2 (i := 10) (v := ?vC10) rfl (by kernel_rfl) (by kernel_rfl) (by kernel_rfl) rfl (fun _ _ _ h => h) (Or.inl ⟨by rfl, ?hyC10⟩) hTT ?restC10
  case hyC10 => intro wq hSw; have hq1 := hcz _ hSw; go_simp <;> with_reducible rfl
  simp only [List.getElem_toArray, List.getElem_cons_zero, List.getElem_cons_succ, Act.put, List.setIfInBounds_toArray, List.set_cons_zero, List.set_cons_succ]
  refine wpG_take2 (i := 11) (v := ?vC11) rfl (by kernel_rfl) (by kernel_rfl) (by kernel_rfl) rfl (fun _ _ _ h => h) (Or.inl ⟨by rfl, ?hyC11⟩) hTT ?restC11
  case hyC11 => intro wq hSw; have hq1 := hcz _ hSw; go_simp <;> with_reducible rfl
  simp only [List.getElem_toArray, List.getElem_cons_zero, List.getElem_cons_succ, Act.put, List.setIfInBounds_toArray, List.set_cons_zero, List.set_cons_succ]
  refine wpG_take2 (i := 12) (v := ?vC12) rfl (by kernel_rfl) (by kernel_rfl) (by kernel_rfl) rfl (fun _ _ _ h => h) (Or.inl ⟨by rfl, ?hyC12⟩) hTT ?restC12
  case hyC12 => intro wq hSw; have hq1 := hcz _ hSw; go_simp <;> with_reducible rfl
  simp only [List.getElem_toArray, List.getElem_cons_zero, List.getElem_cons_succ, Act.put, List.setIfInBounds_toArray, List.set_cons_zero, List.set_cons_succ]
  refine wpG_one (i := 13) rfl (by kernel_rfl) (fun K hK => ?_)
  go_simp
  refine ((Tryz.slices_Contains_string b 0 (n + 1) (n + 1) ws ⟨#[]⟩ _ (by have := HWL.out; omega) (by omega) (fun j hj => by rw [Nat.zero_add]; exact hcy _ hTT j hj))).mono ?_; rintro e w8 ⟨rfl, rfl⟩; rw [List.take_of_length_le (by have := HWL.out; omega), hct]; dsimp only
  refine hK _ _ (.inr hTT) ?_
  clear hK K
  try simp only [List.getElem_toArray, List.getElem_cons_zero, List.getElem_cons_succ, Act.put, List.setIfInBounds_toArray, List.set_cons_zero, List.set_cons_succ]
  refine wpG_take2 (i := 14) (v := ?vC14) rfl (by kernel_rfl) (by kernel_rfl) (by kernel_rfl) rfl (fun _ _ _ h => h) (Or.inl ⟨by rfl, ?hyC14⟩) hTT ?restC14
  case hyC14 => intro wq hSw; have hq1 := hcz _ hSw; go_simp <;> with_reducible rfl
  simp only [List.getElem_toArray, List.getElem_cons_zero, List.getElem_cons_succ, Act.put, List.setIfInBounds_toArray, List.set_cons_zero, List.set_cons_succ]
  refine wpG_take2 (i := 15) (v := ?vC15) rfl (by kernel_rfl) (by kernel_rfl) (by kernel_rfl) rfl (fun _ _ _ h => h) (Or.inl ⟨by rfl, ?hyC15⟩) hTT ?restC15
  case hyC15 => intro wq hSw; have hq1 := hcz _ hSw; go_simp <;> with_reducible rfl
  simp only [List.getElem_toArray, List.getElem_cons_zero, List.getElem_cons_succ, Act.put, List.setIfInBounds_toArray, List.set_cons_zero, List.set_cons_succ]
  refine wpG_one (i := 16) rfl (by kernel_rfl) (fun K hK => ?_)
  go_simp
  refine (insist_bad _).mono ?_
  rintro e w9 ⟨rfl, rfl⟩
  exact ⟨rfl, rfl, hBw⟩
end
section
open Go.RowKit Go.Lib
set_option maxRecDepth 100000 in
theorem parseStage_len (A : Option Addr) (n cap : Nat) (w : World) (hn : n ≠ 6) : Calls Tryz.prog 176 #[.slice A n cap] w fun e w' => e = BAD ∧ Below w.heap.size w w' := by
  have hne : ((n : Int) == 6) = false := by
    rw [beq_eq_false_iff_ne]; omega
  have hne2 : ¬ (n : Int) = 6 := by omega
  have hB := (Below.refl w.heap.size w).alloc (Nat.le_refl _) (.cells #[.int .i64 0, .int .i64 0, .int .i64 0, .int .i64 0, .int .i64 0, .int .i64 0] 23)
  go_enter Tryz.func176, Tryz.ntmps176
  go_wp2_with (first
    | (go_at_call 175; (try rw [hne]); refine (insist_bad _).mono ?_; rintro e w1 ⟨rfl, rfl⟩))
  exact ⟨rfl, Eq.symm (by assumption), hB⟩
set_option maxRecDepth 100000 in
set_option maxHeartbeats 3200000 in
theorem parseStage_num (A : Option Addr) (cap : Nat) (ws : List ByteArray) (w : World) (hr : Rd w w.heap.size 1 A 6 (ws.map Value.string)) (hbad : ∃ s ∈ ws, ∀ a, a < 100 → s ≠ dS a) : Calls Tryz.prog 176 #[.slice A 6 cap] w fun e w' => e = BAD ∧ Below w.heap.size w w' := by
  have hwl : ws.length = 6 := by simpa using hr.len
  have HBD := Lib.hid hbad; clear hbad
  go_enter Tryz.func176, Tryz.ntmps176
  go_wp2_with (first
    | (go_at_call 175; refine (insist_ok _).mono ?_; rintro e w1 ⟨rfl, rfl⟩))
  go_loopg [12] 6 (fun g i wr => ∃ (k : Nat) (arr : Array Value), g = 6 - k ∧ k ≤ 6 ∧ i = .int .i64 k ∧ arr.size = 6 ∧ (∀ j (hj : j < ws.length), j < k → ∃ a, a < 100 ∧ ws[j] = dS a) ∧ Blk wr (w.heap.size + 1) 256 arr ∧ Below w.heap.size w wr)
  case atStart => exact ⟨0, _, rfl, Nat.zero_le _, rfl, rfl, fun j _ h => absurd h (Nat.not_lt_zero _), blk2 w _ 256 #[.int .i64 0, .int .i64 0, .int .i64 0, .int .i64 0, .int .i64 0, .int .i64 0], ((Below.refl _ w).alloc (Nat.le_refl _) _).alloc (by simp only [World.size_alloc]; omega) _⟩
  case round =>
    obtain ⟨k, arr, hg, hk, rfl, hsz, hall, gA, hB⟩ := hrel
    have HG := Lib.hid hg; have HA := Lib.hid hall; clear hg hall
    by_cases hlt : k < 6
    · obtain ⟨cb, coff, hz, rfl, hcb, hcc⟩ := (hr.below hB).atm (show k < 6 by omega)
      have hkl : k < ws.length := by omega
      replace hcc : wr.cell? ⟨cb, coff + k, none⟩ = some (.string ws[k]) := by
        rw [hcc]
      obtain ⟨s, hs⟩ : ∃ s, s = ws[k] := ⟨_, rfl⟩
      rw [← hs] at hcc
      have HSS := Lib.hid hs; clear hs hz
      have hlti : (k : Int) < 6 := by omega
      have hk0 : ¬ (k : Int) < 0 := by omega
      by_cases hnum : ∃ a, a < 100 ∧ s = dS a
      · obtain ⟨a, ha, hsa⟩ := hnum
        have hpn := fun wx => parseNum_any a ha wx
        rw [← hsa] at hpn
        have HSA := Lib.hid hsa; clear hsa
        go_wp2_with (go_at_call 200; refine (hpn _).mono ?_; rintro e w1 ⟨rfl, hb⟩; replace gA := gA.below hb gA.lt; replace hB := hB.trans (hb.mono hB.size); have hqA := fun i => gA.cell i; have hfA := fun i => gA.frozen i; have hlA := gA.lt; clear hb)
        go_roundg (6 - (k + 1))
        case measure => rw [HG.out]; omega
        case rel => exact ⟨k + 1, _, rfl, by omega, by go_num, by simpa using hsz, fun j hj h => by
          by_cases hjk : j < k
          · exact HA.out j hj hjk
          · obtain rfl : j = k := by omega
            exact ⟨a, ha, HSS.out.symm.trans HSA.out⟩, gA.set_ k (.int .i64 a), hB.setCell (p := ⟨w.heap.size + 1, k, none⟩) (show w.heap.size ≤ w.heap.size + 1 by omega) _⟩
      · have hpb := fun wx => parseNum_bad s wx (fun a ha e => hnum ⟨a, ha, e⟩)
        clear hnum
        go_wp2_with (go_at_call 200; refine (hpb _).mono ?_; rintro e w1 ⟨rfl, hb⟩)
        exact ⟨rfl, Eq.symm (by assumption), hB.trans (by rename_i hb; exact Below.mono hb hB.size)⟩
    · exfalso
      obtain ⟨s, hs, hn⟩ := HBD.out
      obtain ⟨j, hj, rfl⟩ := List.getElem_of_mem hs
      obtain ⟨a, ha, e⟩ := HA.out j hj (by omega)
      exact hn a ha e
theorem parseStage_bad (A : Option Addr) (n cap : Nat) (ws : List ByteArray) (w : World) (hr : Rd w w.heap.size 1 A n (ws.map Value.string)) (hbad : n ≠ 6 ∨ ∃ s ∈ ws, ∀ a, a < 100 → s ≠ dS a) : Calls Tryz.prog 176 #[.slice A n cap] w fun e w' => e = BAD ∧ Below w.heap.size w w' := by
  by_cases h : n = 6
  · subst h
    exact parseStage_num A cap ws w hr (hbad.resolve_left (fun h => h rfl))
  · exact parseStage_len A n cap w h
end
end Go.Proofs.YtifddfchpknkbaaGreatDoor
