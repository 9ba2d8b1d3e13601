import Derived.Test.YtifddfchpknkbaaGreatDoorV1
import Derived.Laws.RangeAny
import Derived.Test.YtifddfchpknkbaaGreatDoorTx
import Derived.Test.YtifddfchpknkbaaGreatDoorR2
set_option linter.unusedVariables false
set_option linter.unusedSimpArgs false
namespace Go.Proofs.YtifddfchpknkbaaGreatDoor
open Go.RowKit Go.Lib

/-- What a text that is none ends with. -/
def BAD : Ending := .panicked [{ v := .iface 222 (.agg #[]), recovered := false }]
set_option maxRecDepth 100000 in
theorem insist_bad (w : World) : Calls Tryz.prog 175 #[.bool false] w fun e w' => e = BAD ∧ w = w' := by
  go_enter Tryz.func175, Tryz.ntmps175
  go_wp2
  exact ⟨rfl, rfl, rfl⟩
theorem decode_nodigit (s : ByteArray) (pos : Nat) (h : pos < s.size) (hd : ¬ (48 ≤ (s[pos]'h).toNat ∧ (s[pos]'h).toNat ≤ 57)) : ¬ (48 ≤ (Utf8.decode s pos).1 ∧ (Utf8.decode s pos).1 ≤ 57) := by
  have e : (s.get! (pos + 0)).toNat = (s[pos]'h).toNat := by
    rw [Nat.add_zero]
    congr 1
    simp [ByteArray.get!, getElem!_pos, h]
    rfl
  unfold Utf8.decode
  simp only [e]
  generalize (s[pos]'h).toNat = b at *
  repeat' split
  all_goals (simp only [Utf8.runeError, Bool.and_eq_true, decide_eq_true_eq] at *; omega)

section
variable (s : ByteArray) (w : World)
set_option maxRecDepth 100000 in
theorem parseNum_size (h : inB (s.size : Int) 1 2 = false) : Calls Tryz.prog 200 #[.string s] w fun e w' => e = BAD ∧ Below w.heap.size w w' := by
  go_enter Tryz.func200, Tryz.ntmps200
  go_wp2_with (first
    | (go_at_call 130; refine (within_any _ _ _ _).mono ?_; rintro e w1 ⟨rfl, rfl⟩; rw [h])
    | (go_at_call 175; refine (insist_bad _).mono ?_; rintro e w1 ⟨rfl, rfl⟩))
  exact ⟨rfl, Eq.symm (by assumption), Below.refl _ _⟩
set_option maxRecDepth 100000 in
set_option maxHeartbeats 800000 in
theorem parseNum_at0 (hin : inB (s.size : Int) 1 2 = true) (h0 : 0 < s.size) (hd : ¬ (48 ≤ (s[0]'h0).toNat ∧ (s[0]'h0).toNat ≤ 57)) : Calls Tryz.prog 200 #[.string s] w fun e w' => e = BAD ∧ Below w.heap.size w w' := by
  have hr := decode_nodigit s 0 h0 hd
  have hnx : ∀ ty, (Instr.next (.pointer (some ⟨w.heap.size, 0, none⟩)) true ty).run Tryz.prog (w.iter s 0) = _ := fun ty => run_next_any w s 0 ty h0
  generalize (Utf8.decode s 0).1 = r at *
  generalize 0 + (Utf8.decode s 0).2 = k1 at *
  go_enter Tryz.func200, Tryz.ntmps200
  go_wp2_with (first
    | (go_at_call 130; refine (within_any _ _ _ _).mono ?_; rintro e w1 ⟨rfl, rfl⟩; rw [hin])
    | (go_at_call 175; refine (insist_ok _).mono ?_; rintro e w1 ⟨rfl, rfl⟩))
  go_loopw [3] (fun v w' => w' = w.iter s 0 ∧ v = .int .i64 0) (fun _ w' => 2 - w'.iterPos w.heap.size)
  case atStart => exact ⟨rfl, rfl⟩
  case round =>
    obtain ⟨rfl, rfl⟩ := hrel
    rcases (show ¬ (48 : Int) ≤ r ∨ ((48 : Int) ≤ r ∧ ¬ (r : Int) ≤ 57) by omega) with h1 | ⟨h1, h2⟩
    · go_wp2_with (first
        | (go_at_call 175; refine (insist_bad _).mono ?_; rintro e w1 ⟨rfl, rfl⟩))
      exact ⟨rfl, Eq.symm (by assumption), below_iter _ _ _⟩
    · go_wp2_with (first
        | (go_at_call 175; refine (insist_bad _).mono ?_; rintro e w1 ⟨rfl, rfl⟩))
      exact ⟨rfl, Eq.symm (by assumption), below_iter _ _ _⟩
set_option maxRecDepth 100000 in
set_option maxHeartbeats 1600000 in
theorem parseNum_at1 (d1 : Nat) (hsz : s.size = 2) (h1 : d1 < 10) (hb0 : (s[0]'(by omega)).toNat = 48 + d1) (hd : ¬ (48 ≤ (s[1]'(by omega)).toNat ∧ (s[1]'(by omega)).toNat ≤ 57)) : Calls Tryz.prog 200 #[.string s] w fun e w' => e = BAD ∧ Below w.heap.size w w' := by
  have hin : inB (2 : Int) 1 2 = true := by decide
  have hr := decode_nodigit s 1 (by omega) hd
  have hnx1 : ∀ ty, (Instr.next (.pointer (some ⟨w.heap.size, 0, none⟩)) true ty).run Tryz.prog (w.iter s 1) = _ := fun ty => run_next_any w s 1 ty (by omega)
  have hnx : ∀ ty, (Instr.next (.pointer (some ⟨w.heap.size, 0, none⟩)) true ty).run Tryz.prog (w.iter s 0) = _ := fun ty => run_next_ascii w s 0 ty (by omega) (by omega)
  rw [hb0] at hnx
  generalize (Utf8.decode s 1).1 = r at *
  generalize 1 + (Utf8.decode s 1).2 = k1 at *
  clear hb0 hd
  have HN := Lib.hid hnx1; clear hnx1
  go_enter Tryz.func200, Tryz.ntmps200
  go_wp2_with (first
    | (go_at_call 130; refine (within_any _ _ _ _).mono ?_; rintro e w1 ⟨rfl, rfl⟩; rw [hin])
    | (go_at_call 175; refine (insist_ok _).mono ?_; rintro e w1 ⟨rfl, rfl⟩))
  go_loopw [3] (fun v w' => ∃ pos, w' = w.iter s pos ∧ ((pos = 0 ∧ v = .int .i64 0) ∨ (pos = 1 ∧ v = .int .i64 d1))) (fun _ w' => 2 - w'.iterPos w.heap.size)
  case atStart => exact ⟨0, rfl, .inl ⟨rfl, rfl⟩⟩
  case round =>
    obtain ⟨pos, rfl, ⟨rfl, rfl⟩ | ⟨rfl, rfl⟩⟩ := hrel
    · have h3 : (48 : Int) ≤ 48 + (d1 : Int) := by omega
      have h4 : (48 : Int) + (d1 : Int) ≤ 57 := by omega
      go_wp2_with (first
        | (go_at_call 175; refine (insist_ok _).mono ?_; rintro e w1 ⟨rfl, rfl⟩))
      go_roundw
      case rel => exact ⟨1, rfl, .inr ⟨rfl, by go_num⟩⟩
      case measure => simp
    · clear hnx
      have hnx1 := HN.out
      clear HN
      rcases (show ¬ (48 : Int) ≤ r ∨ ((48 : Int) ≤ r ∧ ¬ (r : Int) ≤ 57) by omega) with h1 | ⟨h1, h2⟩
      · go_wp2_with (first
          | (go_at_call 175; refine (insist_bad _).mono ?_; rintro e w1 ⟨rfl, rfl⟩))
        exact ⟨rfl, Eq.symm (by assumption), below_iter _ _ _⟩
      · go_wp2_with (first
          | (go_at_call 175; refine (insist_bad _).mono ?_; rintro e w1 ⟨rfl, rfl⟩))
        exact ⟨rfl, Eq.symm (by assumption), below_iter _ _ _⟩
set_option maxRecDepth 100000 in
set_option maxHeartbeats 1600000 in
theorem parseNum_zero (d1 d2 : Nat) (hsz : s.size = 2) (h1 : d1 < 10) (h2 : d2 < 10) (hb0 : (s[0]'(by omega)).toNat = 48 + d1) (hb1 : (s[1]'(by omega)).toNat = 48 + d2) (hne : s ≠ ⟨(decDigits (10 * d1 + d2)).toArray⟩) : Calls Tryz.prog 200 #[.string s] w fun e w' => e = BAD ∧ Below w.heap.size w w' := by
  have HS := Lib.hid hne; clear hne
  have hin : inB (2 : Int) 1 2 = true := by decide
  go_enter Tryz.func200, Tryz.ntmps200
  go_wp2_with (first
    | (go_at_call 130; refine (within_any _ _ _ _).mono ?_; rintro e w1 ⟨rfl, rfl⟩; rw [hin])
    | (go_at_call 175; refine (insist_ok _).mono ?_; rintro e w1 ⟨rfl, rfl⟩))
  go_loopw [3] (fun v w' => ∃ pos, w' = w.iter s pos ∧ ((pos = 0 ∧ v = .int .i64 0) ∨ (pos = 1 ∧ v = .int .i64 d1) ∨ (pos = 2 ∧ v = .int .i64 (10 * d1 + d2 : Nat)))) (fun _ w' => 2 - w'.iterPos w.heap.size)
  case atStart => exact ⟨0, rfl, .inl ⟨rfl, rfl⟩⟩
  case round =>
    obtain ⟨pos, rfl, ⟨rfl, rfl⟩ | ⟨rfl, rfl⟩ | ⟨rfl, rfl⟩⟩ := hrel
    · have hnx : ∀ ty, (Instr.next (.pointer (some ⟨w.heap.size, 0, none⟩)) true ty).run Tryz.prog (w.iter s 0) = _ := fun ty => run_next_ascii w s 0 ty (by omega) (by omega)
      rw [hb0] at hnx
      clear hb0 hb1
      have h3 : (48 : Int) ≤ 48 + (d1 : Int) := by omega
      have h4 : (48 : Int) + (d1 : Int) ≤ 57 := by omega
      go_wp2_with (first
        | (go_at_call 175; refine (insist_ok _).mono ?_; rintro e w1 ⟨rfl, rfl⟩))
      go_roundw
      case rel => exact ⟨1, rfl, .inr (.inl ⟨rfl, by go_num⟩)⟩
      case measure => simp
    · have hnx : ∀ ty, (Instr.next (.pointer (some ⟨w.heap.size, 0, none⟩)) true ty).run Tryz.prog (w.iter s 1) = _ := fun ty => run_next_ascii w s 1 ty (by omega) (by omega)
      rw [hb1] at hnx
      clear hb0 hb1
      have h3 : (48 : Int) ≤ 48 + (d2 : Int) := by omega
      have h4 : (48 : Int) + (d2 : Int) ≤ 57 := by omega
      have h5 := i64_ok (10 * (d1 : Int)) (by omega)
      have h6 := i64_ok (10 * (d1 : Int) + (d2 : Int)) (by omega)
      go_wp2_with (first
        | (go_at_call 175; refine (insist_ok _).mono ?_; rintro e w1 ⟨rfl, rfl⟩))
      go_roundw
      case rel => exact ⟨2, rfl, .inr (.inr ⟨rfl, by go_num⟩)⟩
      case measure => simp
    · have hnx : ∀ ty, (Instr.next (.pointer (some ⟨w.heap.size, 0, none⟩)) true ty).run Tryz.prog (w.iter s 2) = _ := fun ty => run_next_end w s 2 ty (by omega)
      have hI := fun wx => Tryz.strconv_Itoa_small (10 * d1 + d2) (by omega) wx
      obtain ⟨t, ht⟩ : ∃ t : ByteArray, t = ⟨(decDigits (10 * d1 + d2)).toArray⟩ := ⟨_, rfl⟩
      rw [← ht] at hI
      have hne := HS.out
      rw [← ht] at hne
      replace hne : (s.toList == t.toList) = false := by
        rw [beq_eq_false_iff_ne, ByteArray.toList_eq, ByteArray.toList_eq]
        intro e
        exact hne (ByteArray.ext (Array.toList_inj.1 e))
      clear hb0 hb1 ht HS
      go_wp2_with (first
        | (go_at_call 222; refine (hI _).mono ?_; rintro e w1 ⟨rfl, rfl⟩)
        | (go_at_call 175; (try rw [hne]); refine (insist_bad _).mono ?_; rintro e w1 ⟨rfl, rfl⟩))
      exact ⟨rfl, Eq.symm (by assumption), below_iter _ _ _⟩
end
/-- A word that is no number is not read as one. -/
theorem parseNum_bad (s : ByteArray) (w : World) (h : ∀ a, a < 100 → s ≠ dS a) : Calls Tryz.prog 200 #[.string s] w fun e w' => e = BAD ∧ Below w.heap.size w w' := by
  by_cases hs : s.size = 1 ∨ s.size = 2
  · have hin : inB (s.size : Int) 1 2 = true := by rcases hs with h | h <;> rw [h] <;> decide
    by_cases h0 : 48 ≤ (s[0]'(by omega)).toNat ∧ (s[0]'(by omega)).toNat ≤ 57
    · obtain ⟨d1, hd1⟩ : ∃ d, (s[0]'(by omega)).toNat = 48 + d := ⟨(s[0]'(by omega)).toNat - 48, by omega⟩
      rcases hs with hs | hs
      · exfalso
        refine h d1 (by omega) ?_
        unfold dS
        rw [decDigits_one (by omega)]
        apply ByteArray.ext
        apply Array.ext
        · simpa using hs
        · intro i hi1 hi2
          have hi : i = 0 := by simp at hi2; omega
          subst hi
          apply UInt8.toNat_inj.1
          show (s[0]'(by omega)).toNat = _
          rw [hd1]
          simp
          omega
      · by_cases hb : 48 ≤ (s[1]'(by omega)).toNat ∧ (s[1]'(by omega)).toNat ≤ 57
        · obtain ⟨d2, hd2⟩ : ∃ d, (s[1]'(by omega)).toNat = 48 + d := ⟨(s[1]'(by omega)).toNat - 48, by omega⟩
          exact parseNum_zero s w d1 d2 hs (by omega) (by omega) hd1 hd2 (fun e => h (10 * d1 + d2) (by omega) e)
        · exact parseNum_at1 s w d1 hs (by omega) hd1 hb
    · exact parseNum_at0 s w hin (by omega) h0
  · refine parseNum_size s w ?_
    unfold inB
    simp only [Bool.and_eq_false_iff, decide_eq_false_iff_not]
    omega
end Go.Proofs.YtifddfchpknkbaaGreatDoor

namespace Go.Proofs.YtifddfchpknkbaaGreatDoor
open Go.RowKit Go.Lib

set_option maxRecDepth 100000 in
theorem linesOf_bad (s : ByteArray) (w : World) (hs : s.size ≤ 1000) (hend : Lib.hasSuffix s.data.toList [10] = false) :
    Calls Tryz.prog 174 #[.string s] w fun e w' => e = BAD ∧ Below w.heap.size w w' := by
  go_enter Tryz.func174, Tryz.ntmps174
  go_wp2_with (first
    | (go_at_call 198; refine (Tryz.strings_CutSuffix s ⟨#[10]⟩ _ (by omega)).mono ?_; rintro e w1 ⟨rfl, rfl⟩; rw [hend])
    | (go_at_call 175; refine (insist_bad _).mono ?_; rintro e w1 ⟨rfl, rfl⟩))
  exact ⟨rfl, Eq.symm (by assumption), Below.refl _ _⟩
set_option maxRecDepth 100000 in
set_option maxHeartbeats 1600000 in
theorem wordsOf_badA (k : Int) (kw : ByteArray) (l : ByteArray) (n : Nat) (ws : List ByteArray) (w0 : ByteArray) (m : Int) (w : World) (hkw : ∀ w : World, Calls Tryz.prog 196 #[.int .i64 k] w fun e w' => e = .returned (.string kw) ∧ w = w') (hl : l.size ≤ 1000) (hm : w.cell? ⟨0, 0, none⟩ = some (.int .i64 m))
    (hn : countB l ⟨#[32]⟩ = n) (hn2 : n ≤ 1000) (hws : splitB ⟨#[32]⟩ 0 n l = ws) (hwl : ws.length = n + 1) (h0 : ws[0]? = some w0) (hz : n = 0) :
    Calls Tryz.prog 177 #[.int .i64 k, .string l] w fun e w' => e = BAD ∧ Below w.heap.size w w' := by
  have HN := Lib.hid hn; have HWS := Lib.hid hws; have HWL := Lib.hid hwl; have HH0 := Lib.hid h0
  clear hn hws hwl h0
  go_enter Tryz.func177, Tryz.ntmps177
  go_upto_region 2 with (first
    | (go_at_call 199; refine (Tryz.strings_Split l ⟨#[32]⟩ m _ (by omega) hm (by decide)).mono ?_; rintro e w1 ⟨rfl, rfl⟩; rw [HN.out, HWS.out]))
  have hbk : Blk (w.alloc (.cells (ws.map Value.string).toArray 9)) w.heap.size 9 (ws.map Value.string).toArray := Blk.new _ _ _
  have hBw : Below w.heap.size w (w.alloc (.cells (ws.map Value.string).toArray 9)) := (Below.refl _ w).alloc (Nat.le_refl _) _
  obtain ⟨b, hb⟩ : ∃ b, b = w.heap.size := ⟨_, rfl⟩
  rw [← hb] at hbk ⊢
  have HB := Lib.hid hb; clear hb
  generalize w.alloc (.cells (ws.map Value.string).toArray 9) = w1 at *
  have hcz : ∀ wq : World, Blk wq b 9 (ws.map Value.string).toArray → wq.cell? ⟨b, 0, none⟩ = some (.string w0) := fun wq hq => by
    rw [hq.cell 0]; simp [HH0.out]
  have hcy : ∀ wq : World, Blk wq b 9 (ws.map Value.string).toArray → ∀ j, j < ws.length → wq.cell? ⟨b, j, none⟩ = some (.string (ws.getD j ByteArray.empty)) := fun wq hq j hj => by
    rw [hq.cell j]; simp [List.getD, hj]
  have hnz : ¬ (1 : Int) < (n : Int) + 1 := by omega
  refine wp_region_G (fun w' => Blk w' b 9 (ws.map Value.string).toArray) 17 (by kernel_rfl) ?_
  replace hbk := hbk.drew
  replace hBw := hBw.drew
  generalize w1.drew = WD at *
  have hTT := hbk
  refine wpG_take2 (i := 0) (v := ?vA0) rfl (by kernel_rfl) (by kernel_rfl) (by kernel_rfl) rfl (fun _ _ _ h => h) (Or.inl ⟨by rfl, ?hyA0⟩) hTT ?restA0
  case hyA0 => intro wq hSw; have hq1 := hcz _ hSw; go_simp <;> with_reducible rfl
  simp only [List.getElem_toArray, List.getElem_cons_zero, List.getElem_cons_succ, Act.put, List.setIfInBounds_toArray, List.set_cons_zero, List.set_cons_succ]
  refine wpG_take2 (i := 1) (v := ?vA1) rfl (by kernel_rfl) (by kernel_rfl) (by kernel_rfl) rfl (fun _ _ _ h => h) (Or.inl ⟨by rfl, ?hyA1⟩) hTT ?restA1
  case hyA1 => intro wq hSw; have hq1 := hcz _ hSw; go_simp <;> with_reducible rfl
  simp only [List.getElem_toArray, List.getElem_cons_zero, List.getElem_cons_succ, Act.put, List.setIfInBounds_toArray, List.set_cons_zero, List.set_cons_succ]
  refine wpG_take2 (i := 2) (v := ?vA2) rfl (by kernel_rfl) (by kernel_rfl) (by kernel_rfl) rfl (fun _ _ _ h => h) (Or.inl ⟨by rfl, ?hyA2⟩) hTT ?restA2
  case hyA2 => intro wq hSw; have hq1 := hcz _ hSw; go_simp <;> with_reducible rfl
  simp only [List.getElem_toArray, List.getElem_cons_zero, List.getElem_cons_succ, Act.put, List.setIfInBounds_toArray, List.set_cons_zero, List.set_cons_succ]
  refine wpG_take2 (i := 3) (v := ?vA3) rfl (by kernel_rfl) (by kernel_rfl) (by kernel_rfl) rfl (fun _ _ _ h => h) (Or.inl ⟨by rfl, ?hyA3⟩) hTT ?restA3
  case hyA3 => intro wq hSw; have hq1 := hcz _ hSw; go_simp <;> with_reducible rfl
  simp only [List.getElem_toArray, List.getElem_cons_zero, List.getElem_cons_succ, Act.put, List.setIfInBounds_toArray, List.set_cons_zero, List.set_cons_succ]
  refine wpG_take2 (i := 4) (v := undef) rfl (by kernel_rfl) (by kernel_rfl) (by kernel_rfl) rfl (fun _ _ _ h => h) (Or.inr ⟨by rfl, rfl⟩) hTT ?restA4
  simp only [List.getElem_toArray, List.getElem_cons_zero, List.getElem_cons_succ, Act.put, List.setIfInBounds_toArray, List.set_cons_zero, List.set_cons_succ]
  refine wpG_take2 (i := 5) (v := undef) rfl (by kernel_rfl) (by kernel_rfl) (by kernel_rfl) rfl (fun _ _ _ h => h) (Or.inr ⟨by rfl, rfl⟩) hTT ?restA5
  simp only [List.getElem_toArray, List.getElem_cons_zero, List.getElem_cons_succ, Act.put, List.setIfInBounds_toArray, List.set_cons_zero, List.set_cons_succ]
  refine wpG_take2 (i := 6) (v := undef) rfl (by kernel_rfl) (by kernel_rfl) (by kernel_rfl) rfl (fun _ _ _ h => h) (Or.inr ⟨by rfl, rfl⟩) hTT ?restA6
  simp only [List.getElem_toArray, List.getElem_cons_zero, List.getElem_cons_succ, Act.put, List.setIfInBounds_toArray, List.set_cons_zero, List.set_cons_succ]
  refine wpG_take2 (i := 7) (v := undef) rfl (by kernel_rfl) (by kernel_rfl) (by kernel_rfl) rfl (fun _ _ _ h => h) (Or.inr ⟨by rfl, rfl⟩) hTT ?restA7
  simp only [List.getElem_toArray, List.getElem_cons_zero, List.getElem_cons_succ, Act.put, List.setIfInBounds_toArray, List.set_cons_zero, List.set_cons_succ]
  refine wpG_take2 (i := 8) (v := undef) rfl (by kernel_rfl) (by kernel_rfl) (by kernel_rfl) rfl (fun _ _ _ h => h) (Or.inr ⟨by rfl, rfl⟩) hTT ?restA8
  simp only [List.getElem_toArray, List.getElem_cons_zero, List.getElem_cons_succ, Act.put, List.setIfInBounds_toArray, List.set_cons_zero, List.set_cons_succ]
  refine wpG_take2 (i := 9) (v := undef) rfl (by kernel_rfl) (by kernel_rfl) (by kernel_rfl) rfl (fun _ _ _ h => h) (Or.inr ⟨by rfl, rfl⟩) hTT ?restA9
  simp only [List.getElem_toArray, List.getElem_cons_zero, List.getElem_cons_succ, Act.put, List.setIfInBounds_toArray, List.set_cons_zero, List.set_cons_succ]
  refine wpG_take2 (i := 10) (v := ?vA10) rfl (by kernel_rfl) (by kernel_rfl) (by kernel_rfl) rfl (fun _ _ _ h => h) (Or.inl ⟨by rfl, ?hyA10⟩) hTT ?restA10
  case hyA10 => intro wq hSw; have hq1 := hcz _ hSw; go_simp <;> with_reducible rfl
  simp only [List.getElem_toArray, List.getElem_cons_zero, List.getElem_cons_succ, Act.put, List.setIfInBounds_toArray, List.set_cons_zero, List.set_cons_succ]
  refine wpG_take2 (i := 11) (v := ?vA11) rfl (by kernel_rfl) (by kernel_rfl) (by kernel_rfl) rfl (fun _ _ _ h => h) (Or.inl ⟨by rfl, ?hyA11⟩) hTT ?restA11
  case hyA11 => intro wq hSw; have hq1 := hcz _ hSw; go_simp <;> with_reducible rfl
  simp only [List.getElem_toArray, List.getElem_cons_zero, List.getElem_cons_succ, Act.put, List.setIfInBounds_toArray, List.set_cons_zero, List.set_cons_succ]
  refine wpG_take2 (i := 12) (v := undef) rfl (by kernel_rfl) (by kernel_rfl) (by kernel_rfl) rfl (fun _ _ _ h => h) (Or.inr ⟨by rfl, rfl⟩) hTT ?restA12
  simp only [List.getElem_toArray, List.getElem_cons_zero, List.getElem_cons_succ, Act.put, List.setIfInBounds_toArray, List.set_cons_zero, List.set_cons_succ]
  refine wpG_take2 (i := 13) (v := undef) rfl (by kernel_rfl) (by kernel_rfl) (by kernel_rfl) rfl (fun _ _ _ h => h) (Or.inr ⟨by rfl, rfl⟩) hTT ?restA13
  simp only [List.getElem_toArray, List.getElem_cons_zero, List.getElem_cons_succ, Act.put, List.setIfInBounds_toArray, List.set_cons_zero, List.set_cons_succ]
  refine wpG_take2 (i := 14) (v := undef) rfl (by kernel_rfl) (by kernel_rfl) (by kernel_rfl) rfl (fun _ _ _ h => h) (Or.inr ⟨by rfl, rfl⟩) hTT ?restA14
  simp only [List.getElem_toArray, List.getElem_cons_zero, List.getElem_cons_succ, Act.put, List.setIfInBounds_toArray, List.set_cons_zero, List.set_cons_succ]
  refine wpG_take2 (i := 15) (v := ?vA15) rfl (by kernel_rfl) (by kernel_rfl) (by kernel_rfl) rfl (fun _ _ _ h => h) (Or.inl ⟨by rfl, ?hyA15⟩) hTT ?restA15
  case hyA15 => intro wq hSw; have hq1 := hcz _ hSw; go_simp <;> with_reducible rfl
  simp only [List.getElem_toArray, List.getElem_cons_zero, List.getElem_cons_succ, Act.put, List.setIfInBounds_toArray, List.set_cons_zero, List.set_cons_succ]
  refine wpG_one (i := 16) rfl (by kernel_rfl) (fun K hK => ?_)
  go_simp
  refine (insist_bad _).mono ?_
  rintro e w9 ⟨rfl, rfl⟩
  exact ⟨rfl, rfl, hBw⟩
set_option maxRecDepth 100000 in
set_option maxHeartbeats 1600000 in
theorem wordsOf_badB (k : Int) (kw : ByteArray) (l : ByteArray) (n : Nat) (ws : List ByteArray) (w0 : ByteArray) (m : Int) (w : World) (hkw : ∀ w : World, Calls Tryz.prog 196 #[.int .i64 k] w fun e w' => e = .returned (.string kw) ∧ w = w') (hl : l.size ≤ 1000) (hm : w.cell? ⟨0, 0, none⟩ = some (.int .i64 m))
    (hn : countB l ⟨#[32]⟩ = n) (hn2 : n ≤ 1000) (hws : splitB ⟨#[32]⟩ 0 n l = ws) (hwl : ws.length = n + 1) (h0 : ws[0]? = some w0) (hz : 1 ≤ n) (hne : w0 ≠ kw) :
    Calls Tryz.prog 177 #[.int .i64 k, .string l] w fun e w' => e = BAD ∧ Below w.heap.size w w' := by
  have HN := Lib.hid hn; have HWS := Lib.hid hws; have HWL := Lib.hid hwl; have HH0 := Lib.hid h0
  clear hn hws hwl h0
  go_enter Tryz.func177, Tryz.ntmps177
  go_upto_region 2 with (first
    | (go_at_call 199; refine (Tryz.strings_Split l ⟨#[32]⟩ m _ (by omega) hm (by decide)).mono ?_; rintro e w1 ⟨rfl, rfl⟩; rw [HN.out, HWS.out]))
  have hbk : Blk (w.alloc (.cells (ws.map Value.string).toArray 9)) w.heap.size 9 (ws.map Value.string).toArray := Blk.new _ _ _
  have hBw : Below w.heap.size w (w.alloc (.cells (ws.map Value.string).toArray 9)) := (Below.refl _ w).alloc (Nat.le_refl _) _
  obtain ⟨b, hb⟩ : ∃ b, b = w.heap.size := ⟨_, rfl⟩
  rw [← hb] at hbk ⊢
  have HB := Lib.hid hb; clear hb
  generalize w.alloc (.cells (ws.map Value.string).toArray 9) = w1 at *
  have hcz : ∀ wq : World, Blk wq b 9 (ws.map Value.string).toArray → wq.cell? ⟨b, 0, none⟩ = some (.string w0) := fun wq hq => by
    rw [hq.cell 0]; simp [HH0.out]
  have hcy : ∀ wq : World, Blk wq b 9 (ws.map Value.string).toArray → ∀ j, j < ws.length → wq.cell? ⟨b, j, none⟩ = some (.string (ws.getD j ByteArray.empty)) := fun wq hq j hj => by
    rw [hq.cell j]; simp [List.getD, hj]
  have hnz : (1 : Int) < (n : Int) + 1 := by omega
  have hneb : (w0.toList == kw.toList) = false := by
    rw [beq_eq_false_iff_ne, ByteArray.toList_eq, ByteArray.toList_eq]
    intro e
    exact hne (ByteArray.ext (Array.toList_inj.1 e))
  clear hne
  refine wp_region_G (fun w' => Blk w' b 9 (ws.map Value.string).toArray) 17 (by kernel_rfl) ?_
  replace hbk := hbk.drew
  replace hBw := hBw.drew
  generalize w1.drew = WD at *
  have hTT := hbk
  refine wpG_take2 (i := 0) (v := ?vB0) rfl (by kernel_rfl) (by kernel_rfl) (by kernel_rfl) rfl (fun _ _ _ h => h) (Or.inl ⟨by rfl, ?hyB0⟩) hTT ?restB0
  case hyB0 => intro wq hSw; have hq1 := hcz _ hSw; go_simp <;> with_reducible rfl
  simp only [List.getElem_toArray, List.getElem_cons_zero, List.getElem_cons_succ, Act.put, List.setIfInBounds_toArray, List.set_cons_zero, List.set_cons_succ]
  refine wpG_take2 (i := 1) (v := ?vB1) rfl (by kernel_rfl) (by kernel_rfl) (by kernel_rfl) rfl (fun _ _ _ h => h) (Or.inl ⟨by rfl, ?hyB1⟩) hTT ?restB1
  case hyB1 => intro wq hSw; have hq1 := hcz _ hSw; go_simp <;> with_reducible rfl
  simp only [List.getElem_toArray, List.getElem_cons_zero, List.getElem_cons_succ, Act.put, List.setIfInBounds_toArray, List.set_cons_zero, List.set_cons_succ]
  refine wpG_take2 (i := 2) (v := ?vB2) rfl (by kernel_rfl) (by kernel_rfl) (by kernel_rfl) rfl (fun _ _ _ h => h) (Or.inl ⟨by rfl, ?hyB2⟩) hTT ?restB2
  case hyB2 => intro wq hSw; have hq1 := hcz _ hSw; go_simp <;> with_reducible rfl
  simp only [List.getElem_toArray, List.getElem_cons_zero, List.getElem_cons_succ, Act.put, List.setIfInBounds_toArray, List.set_cons_zero, List.set_cons_succ]
  refine wpG_take2 (i := 3) (v := ?vB3) rfl (by kernel_rfl) (by kernel_rfl) (by kernel_rfl) rfl (fun _ _ _ h => h) (Or.inl ⟨by rfl, ?hyB3⟩) hTT ?restB3
  case hyB3 => intro wq hSw; have hq1 := hcz _ hSw; go_simp <;> with_reducible rfl
  simp only [List.getElem_toArray, List.getElem_cons_zero, List.getElem_cons_succ, Act.put, List.setIfInBounds_toArray, List.set_cons_zero, List.set_cons_succ]
  refine wpG_take2 (i := 4) (v := ?vB4) rfl (by kernel_rfl) (by kernel_rfl) (by kernel_rfl) rfl (fun _ _ _ h => h) (Or.inl ⟨by rfl, ?hyB4⟩) hTT ?restB4
  case hyB4 => intro wq hSw; have hq1 := hcz _ hSw; go_simp <;> with_reducible rfl
  simp only [List.getElem_toArray, List.getElem_cons_zero, List.getElem_cons_succ, Act.put, List.setIfInBounds_toArray, List.set_cons_zero, List.set_cons_succ]
  refine wpG_take2 (i := 5) (v := ?vB5) rfl (by kernel_rfl) (by kernel_rfl) (by kernel_rfl) rfl (fun _ _ _ h => h) (Or.inl ⟨by rfl, ?hyB5⟩) hTT ?restB5
  case hyB5 => intro wq hSw; have hq1 := hcz _ hSw; go_simp <;> with_reducible rfl
  simp only [List.getElem_toArray, List.getElem_cons_zero, List.getElem_cons_succ, Act.put, List.setIfInBounds_toArray, List.set_cons_zero, List.set_cons_succ]
  refine wpG_take2 (i := 6) (v := ?vB6) rfl (by kernel_rfl) (by kernel_rfl) (by kernel_rfl) rfl (fun _ _ _ h => h) (Or.inl ⟨by rfl, ?hyB6⟩) hTT ?restB6
  case hyB6 => intro wq hSw; have hq1 := hcz _ hSw; go_simp <;> with_reducible rfl
  simp only [List.getElem_toArray, List.getElem_cons_zero, List.getElem_cons_succ, Act.put, List.setIfInBounds_toArray, List.set_cons_zero, List.set_cons_succ]
  refine wpG_take2 (i := 7) (v := ?vB7) rfl (by kernel_rfl) (by kernel_rfl) (by kernel_rfl) rfl (fun _ _ _ h => h) (Or.inl ⟨by rfl, ?hyB7⟩) hTT ?restB7
  case hyB7 => intro wq hSw; have hq1 := hcz _ hSw; go_simp <;> with_reducible rfl
  simp only [List.getElem_toArray, List.getElem_cons_zero, List.getElem_cons_succ, Act.put, List.setIfInBounds_toArray, List.set_cons_zero, List.set_cons_succ]
  refine wpG_one (i := 8) rfl (by kernel_rfl) (fun K hK => ?_)
  go_simp
  refine (hkw _).mono ?_; rintro e w7 ⟨rfl, rfl⟩; dsimp only
  refine hK _ _ (.inr hTT) ?_
  clear hK K
  try simp only [List.getElem_toArray, List.getElem_cons_zero, List.getElem_cons_succ, Act.put, List.setIfInBounds_toArray, List.set_cons_zero, List.set_cons_succ]
  refine wpG_take2 (i := 9) (v := ?vB9) rfl (by kernel_rfl) (by kernel_rfl) (by kernel_rfl) rfl (fun _ _ _ h => h) (Or.inl ⟨by rfl, ?hyB9⟩) hTT ?restB9
  case hyB9 => intro wq hSw; have hq1 := hcz _ hSw; go_simp <;> with_reducible rfl
  simp only [List.getElem_toArray, List.getElem_cons_zero, List.getElem_cons_succ, Act.put, List.setIfInBounds_toArray, List.set_cons_zero, List.set_cons_succ]
  refine wpG_take2 (i := 10) (v := ?vB10) rfl (by kernel_rfl) (by kernel_rfl) (by kernel_rfl) rfl (fun _ _ _ h => h) (Or.inl ⟨by rfl, ?hyB10⟩) hTT ?restB10
  case hyB10 => intro wq hSw; have hq1 := hcz _ hSw; go_simp <;> with_reducible rfl
  simp only [List.getElem_toArray, List.getElem_cons_zero, List.getElem_cons_succ, Act.put, List.setIfInBounds_toArray, List.set_cons_zero, List.set_cons_succ]
  refine wpG_take2 (i := 11) (v := ?vB11) rfl (by kernel_rfl) (by kernel_rfl) (by kernel_rfl) rfl (fun _ _ _ h => h) (Or.inl ⟨by rfl, ?hyB11⟩) hTT ?restB11
  case hyB11 => intro wq hSw; have hq1 := hcz _ hSw; go_simp <;> with_reducible rfl
  simp only [List.getElem_toArray, List.getElem_cons_zero, List.getElem_cons_succ, Act.put, List.setIfInBounds_toArray, List.set_cons_zero, List.set_cons_succ]
  refine wpG_take2 (i := 12) (v := undef) rfl (by kernel_rfl) (by kernel_rfl) (by kernel_rfl) rfl (fun _ _ _ h => h) (Or.inr ⟨by rfl, rfl⟩) hTT ?restB12
  simp only [List.getElem_toArray, List.getElem_cons_zero, List.getElem_cons_succ, Act.put, List.setIfInBounds_toArray, List.set_cons_zero, List.set_cons_succ]
  refine wpG_take2 (i := 13) (v := undef) rfl (by kernel_rfl) (by kernel_rfl) (by kernel_rfl) rfl (fun _ _ _ h => h) (Or.inr ⟨by rfl, rfl⟩) hTT ?restB13
  simp only [List.getElem_toArray, List.getElem_cons_zero, List.getElem_cons_succ, Act.put, List.setIfInBounds_toArray, List.set_cons_zero, List.set_cons_succ]
  refine wpG_take2 (i := 14) (v := undef) rfl (by kernel_rfl) (by kernel_rfl) (by kernel_rfl) rfl (fun _ _ _ h => h) (Or.inr ⟨by rfl, rfl⟩) hTT ?restB14
  simp only [List.getElem_toArray, List.getElem_cons_zero, List.getElem_cons_succ, Act.put, List.setIfInBounds_toArray, List.set_cons_zero, List.set_cons_succ]
  refine wpG_take2 (i := 15) (v := ?vB15) rfl (by kernel_rfl) (by kernel_rfl) (by kernel_rfl) rfl (fun _ _ _ h => h) (Or.inl ⟨by rfl, ?hyB15⟩) hTT ?restB15
  case hyB15 => intro wq hSw; have hq1 := hcz _ hSw; go_simp <;> with_reducible rfl
  simp only [List.getElem_toArray, List.getElem_cons_zero, List.getElem_cons_succ, Act.put, List.setIfInBounds_toArray, List.set_cons_zero, List.set_cons_succ]
  refine wpG_one (i := 16) rfl (by kernel_rfl) (fun K hK => ?_)
  go_simp
  refine (insist_bad _).mono ?_
  rintro e w9 ⟨rfl, rfl⟩
  exact ⟨rfl, rfl, hBw⟩
set_option maxRecDepth 100000 in
set_option maxHeartbeats 1600000 in
theorem wordsOf_badC (k : Int) (kw : ByteArray) (l : ByteArray) (n : Nat) (ws : List ByteArray) (m : Int) (w : World) (hkw : ∀ w : World, Calls Tryz.prog 196 #[.int .i64 k] w fun e w' => e = .returned (.string kw) ∧ w = w') (hl : l.size ≤ 1000) (hm : w.cell? ⟨0, 0, none⟩ = some (.int .i64 m))
    (hn : countB l ⟨#[32]⟩ = n) (hn2 : n ≤ 1000) (hws : splitB ⟨#[32]⟩ 0 n l = ws) (hwl : ws.length = n + 1) (h0 : ws[0]? = some kw) (hz : 1 ≤ n) (hct : containsS ws ⟨#[]⟩ = true) :
    Calls Tryz.prog 177 #[.int .i64 k, .string l] w fun e w' => e = BAD ∧ Below w.heap.size w w' := by
  have HN := Lib.hid hn; have HWS := Lib.hid hws; have HWL := Lib.hid hwl; have HH0 := Lib.hid h0
  clear hn hws hwl h0
  go_enter Tryz.func177, Tryz.ntmps177
  go_upto_region 2 with (first
    | (go_at_call 199; refine (Tryz.strings_Split l ⟨#[32]⟩ m _ (by omega) hm (by decide)).mono ?_; rintro e w1 ⟨rfl, rfl⟩; rw [HN.out, HWS.out]))
  have hbk : Blk (w.alloc (.cells (ws.map Value.string).toArray 9)) w.heap.size 9 (ws.map Value.string).toArray := Blk.new _ _ _
  have hBw : Below w.heap.size w (w.alloc (.cells (ws.map Value.string).toArray 9)) := (Below.refl _ w).alloc (Nat.le_refl _) _
  obtain ⟨b, hb⟩ : ∃ b, b = w.heap.size := ⟨_, rfl⟩
  rw [← hb] at hbk ⊢
  have HB := Lib.hid hb; clear hb
  generalize w.alloc (.cells (ws.map Value.string).toArray 9) = w1 at *
  have hcz : ∀ wq : World, Blk wq b 9 (ws.map Value.string).toArray → wq.cell? ⟨b, 0, none⟩ = some (.string kw) := fun wq hq => by
    rw [hq.cell 0]; simp [HH0.out]
  have hcy : ∀ wq : World, Blk wq b 9 (ws.map Value.string).toArray → ∀ j, j < ws.length → wq.cell? ⟨b, j, none⟩ = some (.string (ws.getD j ByteArray.empty)) := fun wq hq j hj => by
    rw [hq.cell j]; simp [List.getD, hj]
  have hnz : (1 : Int) < (n : Int) + 1 := by omega
  refine wp_region_G (fun w' => Blk w' b 9 (ws.map Value.string).toArray) 17 (by kernel_rfl) ?_
  replace hbk := hbk.drew
  replace hBw := hBw.drew
  generalize w1.drew = WD at *
  have hTT := hbk
  refine wpG_take2 (i := 0) (v := ?vC0) rfl (by kernel_rfl) (by kernel_rfl) (by kernel_rfl) rfl (fun _ _ _ h => h) (Or.inl ⟨by rfl, ?hyC0⟩) hTT ?restC0
  case hyC0 => intro wq hSw; have hq1 := hcz _ hSw; go_simp <;> with_reducible rfl
  simp only [List.getElem_toArray, List.getElem_cons_zero, List.getElem_cons_succ, Act.put, List.setIfInBounds_toArray, List.set_cons_zero, List.set_cons_succ]
  refine wpG_take2 (i := 1) (v := ?vC1) rfl (by kernel_rfl) (by kernel_rfl) (by kernel_rfl) rfl (fun _ _ _ h => h) (Or.inl ⟨by rfl, ?hyC1⟩) hTT ?restC1
  case hyC1 => intro wq hSw; have hq1 := hcz _ hSw; go_simp <;> with_reducible rfl
  simp only [List.getElem_toArray, List.getElem_cons_zero, List.getElem_cons_succ, Act.put, List.setIfInBounds_toArray, List.set_cons_zero, List.set_cons_succ]
  refine wpG_take2 (i := 2) (v := ?vC2) rfl (by kernel_rfl) (by kernel_rfl) (by kernel_rfl) rfl (fun _ _ _ h => h) (Or.inl ⟨by rfl, ?hyC2⟩) hTT ?restC2
  case hyC2 => intro wq hSw; have hq1 := hcz _ hSw; go_simp <;> with_reducible rfl
  simp only [List.getElem_toArray, List.getElem_cons_zero, List.getElem_cons_succ, Act.put, List.setIfInBounds_toArray, List.set_cons_zero, List.set_cons_succ]
  refine wpG_take2 (i := 3) (v := ?vC3) rfl (by kernel_rfl) (by kernel_rfl) (by kernel_rfl) rfl (fun _ _ _ h => h) (Or.inl ⟨by rfl, ?hyC3⟩) hTT ?restC3
  case hyC3 => intro wq hSw; have hq1 := hcz _ hSw; go_simp <;> with_reducible rfl
  simp only [List.getElem_toArray, List.getElem_cons_zero, List.getElem_cons_succ, Act.put, List.setIfInBounds_toArray, List.set_cons_zero, List.set_cons_succ]
  refine wpG_take2 (i := 4) (v := ?vC4) rfl (by kernel_rfl) (by kernel_rfl) (by kernel_rfl) rfl (fun _ _ _ h => h) (Or.inl ⟨by rfl, ?hyC4⟩) hTT ?restC4
  case hyC4 => intro wq hSw; have hq1 := hcz _ hSw; go_simp <;> with_reducible rfl
  simp only [List.getElem_toArray, List.getElem_cons_zero, List.getElem_cons_succ, Act.put, List.setIfInBounds_toArray, List.set_cons_zero, List.set_cons_succ]
  refine wpG_take2 (i := 5) (v := ?vC5) rfl (by kernel_rfl) (by kernel_rfl) (by kernel_rfl) rfl (fun _ _ _ h => h) (Or.inl ⟨by rfl, ?hyC5⟩) hTT ?restC5
  case hyC5 => intro wq hSw; have hq1 := hcz _ hSw; go_simp <;> with_reducible rfl
  simp only [List.getElem_toArray, List.getElem_cons_zero, List.getElem_cons_succ, Act.put, List.setIfInBounds_toArray, List.set_cons_zero, List.set_cons_succ]
  refine wpG_take2 (i := 6) (v := ?vC6) rfl (by kernel_rfl) (by kernel_rfl) (by kernel_rfl) rfl (fun _ _ _ h => h) (Or.inl ⟨by rfl, ?hyC6⟩) hTT ?restC6
  case hyC6 => intro wq hSw; have hq1 := hcz _ hSw; go_simp <;> with_reducible rfl
  simp only [List.getElem_toArray, List.getElem_cons_zero, List.getElem_cons_succ, Act.put, List.setIfInBounds_toArray, List.set_cons_zero, List.set_cons_succ]
  refine wpG_take2 (i := 7) (v := ?vC7) rfl (by kernel_rfl) (by kernel_rfl) (by kernel_rfl) rfl (fun _ _ _ h => h) (Or.inl ⟨by rfl, ?hyC7⟩) hTT ?restC7
  case hyC7 => intro wq hSw; have hq1 := hcz _ hSw; go_simp <;> with_reducible rfl
  simp only [List.getElem_toArray, List.getElem_cons_zero, List.getElem_cons_succ, Act.put, List.setIfInBounds_toArray, List.set_cons_zero, List.set_cons_succ]
  refine wpG_one (i := 8) rfl (by kernel_rfl) (fun K hK => ?_)
  go_simp
  refine (hkw _).mono ?_; rintro e w7 ⟨rfl, rfl⟩; dsimp only
  refine hK _ _ (.inr hTT) ?_
  clear hK K
  try simp only [List.getElem_toArray, List.getElem_cons_zero, List.getElem_cons_succ, Act.put, List.setIfInBounds_toArray, List.set_cons_zero, List.set_cons_succ]
  refine wpG_take2 (i := 9) (v := ?vC9) rfl (by kernel_rfl) (by kernel_rfl) (by kernel_rfl) rfl (fun _ _ _ h => h) (Or.inl ⟨by rfl, ?hyC9⟩) hTT ?restC9
  case hyC9 => intro wq hSw; have hq1 := hcz _ hSw; go_simp <;> with_reducible rfl
  simp only [List.getElem_toArray, List.getElem_cons_zero, List.getElem_cons_succ, Act.put, List.setIfInBounds_toArray, List.set_cons_zero, List.set_cons_succ]
  refine wpG_take2 (i := 10) (v := ?vC10) rfl (by kernel_rfl) (by kernel_rfl) (by kernel_rfl) rfl (fun _ _ _ h => h) (Or.inl ⟨by rfl, ?hyC10⟩) hTT ?restC10
  case hyC10 => intro wq hSw; have hq1 := hcz _ hSw; go_simp <;> with_reducible rfl
  simp only [List.getElem_toArray, List.getElem_cons_zero, List.getElem_cons_succ, Act.put, List.setIfInBounds_toArray, List.set_cons_zero, List.set_cons_succ]
  refine wpG_take2 (i := 11) (v := ?vC11) rfl (by kernel_rfl) (by kernel_rfl) (by kernel_rfl) rfl (fun _ _ _ h => h) (Or.inl ⟨by rfl, ?hyC11⟩) hTT ?restC11
  case hyC11 => intro wq hSw; have hq1 := hcz _ hSw; go_simp <;> with_reducible rfl
  simp only [List.getElem_toArray, List.getElem_cons_zero, List.getElem_cons_succ, Act.put, List.setIfInBounds_toArray, List.set_cons_zero, List.set_cons_succ]
  refine wpG_take2 (i := 12) (v := ?vC12) rfl (by kernel_rfl) (by kernel_rfl) (by kernel_rfl) rfl (fun _ _ _ h => h) (Or.inl ⟨by rfl, ?hyC12⟩) hTT ?restC12
  case hyC12 => intro wq hSw; have hq1 := hcz _ hSw; go_simp <;> with_reducible rfl
  simp only [List.getElem_toArray, List.getElem_cons_zero, List.getElem_cons_succ, Act.put, List.setIfInBounds_toArray, List.set_cons_zero, List.set_cons_succ]
  refine wpG_one (i := 13) rfl (by kernel_rfl) (fun K hK => ?_)
  go_simp
  refine ((Tryz.slices_Contains_string b 0 (n + 1) (n + 1) ws ⟨#[]⟩ _ (by have := HWL.out; omega) (by omega) (fun j hj => by rw [Nat.zero_add]; exact hcy _ hTT j hj))).mono ?_; rintro e w8 ⟨rfl, rfl⟩; rw [List.take_of_length_le (by have := HWL.out; omega), hct]; dsimp only
  refine hK _ _ (.inr hTT) ?_
  clear hK K
  try simp only [List.getElem_toArray, List.getElem_cons_zero, List.getElem_cons_succ, Act.put, List.setIfInBounds_toArray, List.set_cons_zero, List.set_cons_succ]
  refine wpG_take2 (i := 14) (v := ?vC14) rfl (by kernel_rfl) (by kernel_rfl) (by kernel_rfl) rfl (fun _ _ _ h => h) (Or.inl ⟨by rfl, ?hyC14⟩) hTT ?restC14
  case hyC14 => intro wq hSw; have hq1 := hcz _ hSw; go_simp <;> with_reducible rfl
  simp only [List.getElem_toArray, List.getElem_cons_zero, List.getElem_cons_succ, Act.put, List.setIfInBounds_toArray, List.set_cons_zero, List.set_cons_succ]
  refine wpG_take2 (i := 15) (v := ?vC15) rfl (by kernel_rfl) (by kernel_rfl) (by kernel_rfl) rfl (fun _ _ _ h => h) (Or.inl ⟨by rfl, ?hyC15⟩) hTT ?restC15
  case hyC15 => intro wq hSw; have hq1 := hcz _ hSw; go_simp <;> with_reducible rfl
  simp only [List.getElem_toArray, List.getElem_cons_zero, List.getElem_cons_succ, Act.put, List.setIfInBounds_toArray, List.set_cons_zero, List.set_cons_succ]
  refine wpG_one (i := 16) rfl (by kernel_rfl) (fun K hK => ?_)
  go_simp
  refine (insist_bad _).mono ?_
  rintro e w9 ⟨rfl, rfl⟩
  exact ⟨rfl, rfl, hBw⟩
end Go.Proofs.YtifddfchpknkbaaGreatDoor

namespace Go.Proofs.YtifddfchpknkbaaGreatDoor
open Go.RowKit Go.Lib

set_option maxRecDepth 100000 in
theorem parseStage_len (A : Option Addr) (n cap : Nat) (w : World) (hn : n ≠ 6) : Calls Tryz.prog 176 #[.slice A n cap] w fun e w' => e = BAD ∧ Below w.heap.size w w' := by
  have hne : ((n : Int) == 6) = false := by
    rw [beq_eq_false_iff_ne]; omega
  have hne2 : ¬ (n : Int) = 6 := by omega
  have hB := (Below.refl w.heap.size w).alloc (Nat.le_refl _) (.cells #[.int .i64 0, .int .i64 0, .int .i64 0, .int .i64 0, .int .i64 0, .int .i64 0] 23)
  go_enter Tryz.func176, Tryz.ntmps176
  go_wp2_with (first
    | (go_at_call 175; (try rw [hne]); refine (insist_bad _).mono ?_; rintro e w1 ⟨rfl, rfl⟩))
  exact ⟨rfl, Eq.symm (by assumption), hB⟩
set_option maxRecDepth 100000 in
set_option maxHeartbeats 3200000 in
theorem parseStage_num (A : Option Addr) (cap : Nat) (ws : List ByteArray) (w : World) (hr : Rd w w.heap.size 1 A 6 (ws.map Value.string)) (hbad : ∃ s ∈ ws, ∀ a, a < 100 → s ≠ dS a) : Calls Tryz.prog 176 #[.slice A 6 cap] w fun e w' => e = BAD ∧ Below w.heap.size w w' := by
  have hwl : ws.length = 6 := by simpa using hr.len
  have HBD := Lib.hid hbad; clear hbad
  go_enter Tryz.func176, Tryz.ntmps176
  go_wp2_with (first
    | (go_at_call 175; refine (insist_ok _).mono ?_; rintro e w1 ⟨rfl, rfl⟩))
  go_loopg [12] 6 (fun g i wr => ∃ (k : Nat) (arr : Array Value), g = 6 - k ∧ k ≤ 6 ∧ i = .int .i64 k ∧ arr.size = 6 ∧ (∀ j (hj : j < ws.length), j < k → ∃ a, a < 100 ∧ ws[j] = dS a) ∧ Blk wr (w.heap.size + 1) 256 arr ∧ Below w.heap.size w wr)
  case atStart => exact ⟨0, _, rfl, Nat.zero_le _, rfl, rfl, fun j _ h => absurd h (Nat.not_lt_zero _), blk2 w _ 256 #[.int .i64 0, .int .i64 0, .int .i64 0, .int .i64 0, .int .i64 0, .int .i64 0], ((Below.refl _ w).alloc (Nat.le_refl _) _).alloc (by simp only [World.size_alloc]; omega) _⟩
  case round =>
    obtain ⟨k, arr, hg, hk, rfl, hsz, hall, gA, hB⟩ := hrel
    have HG := Lib.hid hg; have HA := Lib.hid hall; clear hg hall
    by_cases hlt : k < 6
    · obtain ⟨cb, coff, hz, rfl, hcb, hcc⟩ := (hr.below hB).atm (show k < 6 by omega)
      have hkl : k < ws.length := by omega
      replace hcc : wr.cell? ⟨cb, coff + k, none⟩ = some (.string ws[k]) := by
        rw [hcc]
      obtain ⟨s, hs⟩ : ∃ s, s = ws[k] := ⟨_, rfl⟩
      rw [← hs] at hcc
      have HSS := Lib.hid hs; clear hs hz
      have hlti : (k : Int) < 6 := by omega
      have hk0 : ¬ (k : Int) < 0 := by omega
      by_cases hnum : ∃ a, a < 100 ∧ s = dS a
      · obtain ⟨a, ha, hsa⟩ := hnum
        have hpn := fun wx => parseNum_any a ha wx
        rw [← hsa] at hpn
        have HSA := Lib.hid hsa; clear hsa
        go_wp2_with (go_at_call 200; refine (hpn _).mono ?_; rintro e w1 ⟨rfl, hb⟩; replace gA := gA.below hb gA.lt; replace hB := hB.trans (hb.mono hB.size); have hqA := fun i => gA.cell i; have hfA := fun i => gA.frozen i; have hlA := gA.lt; clear hb)
        go_roundg (6 - (k + 1))
        case measure => rw [HG.out]; omega
        case rel => exact ⟨k + 1, _, rfl, by omega, by go_num, by simpa using hsz, fun j hj h => by
          by_cases hjk : j < k
          · exact HA.out j hj hjk
          · obtain rfl : j = k := by omega
            exact ⟨a, ha, HSS.out.symm.trans HSA.out⟩, gA.set_ k (.int .i64 a), hB.setCell (p := ⟨w.heap.size + 1, k, none⟩) (show w.heap.size ≤ w.heap.size + 1 by omega) _⟩
      · have hpb := fun wx => parseNum_bad s wx (fun a ha e => hnum ⟨a, ha, e⟩)
        clear hnum
        go_wp2_with (go_at_call 200; refine (hpb _).mono ?_; rintro e w1 ⟨rfl, hb⟩)
        exact ⟨rfl, Eq.symm (by assumption), hB.trans (by rename_i hb; exact Below.mono hb hB.size)⟩
    · exfalso
      obtain ⟨s, hs, hn⟩ := HBD.out
      obtain ⟨j, hj, rfl⟩ := List.getElem_of_mem hs
      obtain ⟨a, ha, e⟩ := HA.out j hj (by omega)
      exact hn a ha e
theorem parseStage_bad (A : Option Addr) (n cap : Nat) (ws : List ByteArray) (w : World) (hr : Rd w w.heap.size 1 A n (ws.map Value.string)) (hbad : n ≠ 6 ∨ ∃ s ∈ ws, ∀ a, a < 100 → s ≠ dS a) : Calls Tryz.prog 176 #[.slice A n cap] w fun e w' => e = BAD ∧ Below w.heap.size w w' := by
  by_cases h : n = 6
  · subst h
    exact parseStage_num A cap ws w hr (hbad.resolve_left (fun h => h rfl))
  · exact parseStage_len A n cap w h
end Go.Proofs.YtifddfchpknkbaaGreatDoor

namespace Go.Proofs.YtifddfchpknkbaaGreatDoor
open Go.RowKit Go.Lib

set_option maxRecDepth 100000 in
set_option maxHeartbeats 1600000 in
theorem parseCatch (b0 b1 : Nat) (z0 z1 z2 z3 z4 z5 z6 y : Value) (older : List PanicEntry) (w : World) (g0 : Blk w b0 121 #[z0, z1, z2, z3, z4, z5, z6]) (g1 : Blk w b1 31 #[y]) (hne : b0 ≠ b1) :
    CallsD Tryz.prog 173 #[.pointer (some ⟨b0, 0, none⟩), .pointer (some ⟨b1, 0, none⟩)] (.panicking ({ v := .iface 222 (.agg #[]), recovered := false } :: older)) w fun e u' w' => e = .returned (.tuple #[]) ∧ u' = .panicking ({ v := .iface 222 (.agg #[]), recovered := true } :: older) ∧
      Blk w' b0 121 #[.int .i64 0, .int .i64 0, .int .i64 0, .int .i64 0, .int .i64 0, .int .i64 0, .slice none 0 0] ∧ Blk w' b1 31 #[.int .i64 4] ∧ ∀ (B : Nat) (v : World), Below B v w → B ≤ b0 → B ≤ b1 → Below B v w' := by
  have hta : ∀ w : World, (Instr.typeAssert (.iface 222 (.agg #[])) 20 222 true).run Tryz.prog w = .ok (.tuple #[.agg #[], .bool true]) w := fun _ => by kernel_rfl
  refine callsD_of_wpS Tryz.func173 rfl fun c₀ cs hu => ?_
  simp only [Tryz.ntmps173, List.size_toArray, List.length_cons, List.length_nil, Nat.reduceAdd, Nat.reduceSub, Array.replicate_succ, Array.replicate_zero, List.push_toArray, List.append_toArray, List.nil_append, List.cons_append]
  apply wpS_seq
  apply wpS_region
  simp [wpOpsS, go_sem, recoverD, hu, Tryz.ntmps173, Exit.thenS]
  refine wpS_of_wp ?_
  have q0 := fun i => g0.cell i; have f0 := fun i => g0.frozen i; have l0 := g0.lt
  have q1 := fun i => g1.cell i; have f1 := fun i => g1.frozen i; have l1 := g1.lt
  go_wp2
  clear q0 f0 l0 q1 f1 l1
  have G0 := (((((((((g0.set_ 0 (.int .i64 0)).set_ 1 (.int .i64 0)).set_ 2 (.int .i64 0)).set_ 3 (.int .i64 0)).set_ 4 (.int .i64 0)).set_ 5 (.int .i64 0)).set_ 6 (.slice none 0 0)).far (p := ⟨b1, 0, none⟩) hne (.int .i64 4)).alloc (.cells #[] 222))
  have G1 := (((((((((g1.far (p := ⟨b0, 0, none⟩) (Ne.symm hne) (.int .i64 0)).far (p := ⟨b0, 1, none⟩) (Ne.symm hne) (.int .i64 0)).far (p := ⟨b0, 2, none⟩) (Ne.symm hne) (.int .i64 0)).far (p := ⟨b0, 3, none⟩) (Ne.symm hne) (.int .i64 0)).far (p := ⟨b0, 4, none⟩) (Ne.symm hne) (.int .i64 0)).far (p := ⟨b0, 5, none⟩) (Ne.symm hne) (.int .i64 0)).far (p := ⟨b0, 6, none⟩) (Ne.symm hne) (.slice none 0 0)).set_ 0 (.int .i64 4)).alloc (.cells #[] 222))
  have HB : ∀ (B : Nat) (v : World), Below B v w → B ≤ b0 → B ≤ b1 → Below B v (((((((((w.setCell ⟨b0, 0, none⟩ (.int .i64 0)).setCell ⟨b0, 1, none⟩ (.int .i64 0)).setCell ⟨b0, 2, none⟩ (.int .i64 0)).setCell ⟨b0, 3, none⟩ (.int .i64 0)).setCell ⟨b0, 4, none⟩ (.int .i64 0)).setCell ⟨b0, 5, none⟩ (.int .i64 0)).setCell ⟨b0, 6, none⟩ (.slice none 0 0)).setCell ⟨b1, 0, none⟩ (.int .i64 4)).alloc (.cells #[] 222)) := fun B v h h0 h1 => (have h2 := ((((((((h.setCell (p := ⟨b0, 0, none⟩) h0 (.int .i64 0)).setCell (p := ⟨b0, 1, none⟩) h0 (.int .i64 0)).setCell (p := ⟨b0, 2, none⟩) h0 (.int .i64 0)).setCell (p := ⟨b0, 3, none⟩) h0 (.int .i64 0)).setCell (p := ⟨b0, 4, none⟩) h0 (.int .i64 0)).setCell (p := ⟨b0, 5, none⟩) h0 (.int .i64 0)).setCell (p := ⟨b0, 6, none⟩) h0 (.slice none 0 0)).setCell (p := ⟨b1, 0, none⟩) h1 (.int .i64 4)); h2.alloc (Nat.le_trans h0 (Nat.le_of_lt (((((((((g0.set_ 0 (.int .i64 0)).set_ 1 (.int .i64 0)).set_ 2 (.int .i64 0)).set_ 3 (.int .i64 0)).set_ 4 (.int .i64 0)).set_ 5 (.int .i64 0)).set_ 6 (.slice none 0 0)).far (p := ⟨b1, 0, none⟩) hne (.int .i64 4))).lt)) _)
  replace G0 : Blk (((((((((w.setCell ⟨b0, 0, none⟩ (.int .i64 0)).setCell ⟨b0, 1, none⟩ (.int .i64 0)).setCell ⟨b0, 2, none⟩ (.int .i64 0)).setCell ⟨b0, 3, none⟩ (.int .i64 0)).setCell ⟨b0, 4, none⟩ (.int .i64 0)).setCell ⟨b0, 5, none⟩ (.int .i64 0)).setCell ⟨b0, 6, none⟩ (.slice none 0 0)).setCell ⟨b1, 0, none⟩ (.int .i64 4)).alloc (.cells #[] 222)) b0 121 #[.int .i64 0, .int .i64 0, .int .i64 0, .int .i64 0, .int .i64 0, .int .i64 0, .slice none 0 0] := by simpa using G0
  replace G1 : Blk (((((((((w.setCell ⟨b0, 0, none⟩ (.int .i64 0)).setCell ⟨b0, 1, none⟩ (.int .i64 0)).setCell ⟨b0, 2, none⟩ (.int .i64 0)).setCell ⟨b0, 3, none⟩ (.int .i64 0)).setCell ⟨b0, 4, none⟩ (.int .i64 0)).setCell ⟨b0, 5, none⟩ (.int .i64 0)).setCell ⟨b0, 6, none⟩ (.slice none 0 0)).setCell ⟨b1, 0, none⟩ (.int .i64 4)).alloc (.cells #[] 222)) b1 31 #[.int .i64 4] := by simpa using G1
  generalize (((((((((w.setCell ⟨b0, 0, none⟩ (.int .i64 0)).setCell ⟨b0, 1, none⟩ (.int .i64 0)).setCell ⟨b0, 2, none⟩ (.int .i64 0)).setCell ⟨b0, 3, none⟩ (.int .i64 0)).setCell ⟨b0, 4, none⟩ (.int .i64 0)).setCell ⟨b0, 5, none⟩ (.int .i64 0)).setCell ⟨b0, 6, none⟩ (.slice none 0 0)).setCell ⟨b1, 0, none⟩ (.int .i64 4)).alloc (.cells #[] 222)) = W9 at *
  cases c₀
  simp_all [bodyPostS, results, Tryz.results173]
end Go.Proofs.YtifddfchpknkbaaGreatDoor
