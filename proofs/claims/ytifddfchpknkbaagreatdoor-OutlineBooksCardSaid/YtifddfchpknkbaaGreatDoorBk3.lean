import Derived.Test.YtifddfchpknkbaaGreatDoorProg
import Derived.Test.YtifddfchpknkbaaGreatDoorBk2
set_option linter.unusedVariables false
set_option linter.unusedSimpArgs false
namespace Go.Proofs.YtifddfchpknkbaaGreatDoor
section
open Go.RowKit
/-- How two shadows meet. -/
def bothD (p : Int × Int) : Bool := p.1 == 35 && p.2 == 35
def bothG (p : Int × Int) : Bool := !(p.1 == 46) && !(p.2 == 46)
def meetV (s t : ByteArray) : Int := if ((ltr s).zip (ltr t)).any bothD then 3 else if ((ltr s).zip (ltr t)).any bothG then 2 else 1
theorem any_stop {α : Type} (p : α → Bool) (l : List α) (k : Nat) (h : k < l.length) (hf : p l[k] = true) : l.any p = true := by
  rw [List.any_eq_true]; exact ⟨l[k], List.getElem_mem h, hf⟩
theorem meet_any (s t : ByteArray) (w : World) (hs : s.size ≤ maxLen) (hst : s.size ≤ t.size) :
    Calls Tryz.prog 109 #[.string s, .string t] w fun e w' => e = .returned (.int .i64 (meetV s t)) ∧ w = w' := by
  unfold maxLen at hs
  go_enter Tryz.func109, Tryz.ntmps109
  go_wp2
  go_loop [5, 9] (fun v i => ∃ k : Nat, k ≤ s.size ∧ i = .int .i64 k ∧ (((ltr s).zip (ltr t)).take k).any bothD = false ∧ v = .int .i64 (if (((ltr s).zip (ltr t)).take k).any bothG then 2 else 1)) (fun _ i => s.size - (intOf i).toNat)
  case atStart => exact ⟨0, Nat.zero_le _, rfl, rfl, rfl⟩
  case round =>
    obtain ⟨k, hk, rfl, hd, rfl⟩ := hrel
    by_cases hlt : k < s.size
    · have hlt2 : k < t.size := by omega
      obtain ⟨hz, hze⟩ := zip_at s t k hlt hlt2
      have h1 := any_take bothD _ k hz
      have h2 := any_take bothG _ k hz
      have h3 := any_stop bothD _ k hz
      rw [hze] at h1 h2 h3
      rw [hd] at h1
      have H1 := Lib.hid h1; have H2 := Lib.hid h2; have H3 := Lib.hid h3; clear h1 h2 h3 hd hze
      generalize (((ltr s).zip (ltr t)).take k).any bothG = acc at *
      obtain ⟨a, ha⟩ : ∃ a : Nat, a = (s[k]'hlt).toNat := ⟨_, rfl⟩
      obtain ⟨b, hb⟩ : ∃ b : Nat, b = (t[k]'hlt2).toNat := ⟨_, rfl⟩
      rw [← ha, ← hb] at H1 H2 H3
      generalize hga : (s[k]'hlt).toNat = a' at *
      generalize hgb : (t[k]'hlt2).toNat = b' at *
      subst ha hb
      by_cases q : (a : Int) = 35 ∧ (b : Int) = 35
      · obtain ⟨q1, q2⟩ := q
        have hb3 := H3.out (by simp [bothD]; omega)
        have HB3 := Lib.hid hb3; clear hb3
        cases acc
        all_goals
          go_wp2
          go_ret
          exact ⟨ret_int (by simp [meetV, HB3.out]), rfl⟩
      by_cases q1 : (a : Int) = 35 <;> by_cases q2 : (b : Int) = 35 <;> by_cases q3 : (a : Int) = 46 <;> by_cases q4 : (b : Int) = 46
      all_goals first
        | (exfalso; omega)
        | skip
      all_goals (try have e3 : ((a : Int) != 46) = true := by (simp; omega))
      all_goals (try have e4 : ((b : Int) != 46) = true := by (simp; omega))
      all_goals (try have e5 : ((a : Int) != 46) = false := by (simp; omega))
      all_goals (try have e6 : ((b : Int) != 46) = false := by (simp; omega))
      all_goals
        have hv1 : bothD ((a : Int), (b : Int)) = false := by simp [bothD] <;> first | omega | (intro _; omega)
        first
          | (have hv2 : bothG ((a : Int), (b : Int)) = true := by simp [bothG] <;> first | omega | (intro _; omega)
             have HV1 := Lib.hid hv1; have HV2 := Lib.hid hv2; clear hv1 hv2
             go_wp2
             go_round
             case rel => exact ⟨k + 1, by omega, by go_num, by rw [H1.out, HV1.out]; rfl, by rw [H2.out, HV2.out]; simp⟩
             case measure => simp [intOf]; omega)
          | (have hv2 : bothG ((a : Int), (b : Int)) = false := by simp [bothG] <;> first | omega | (intro _; omega)
             have HV1 := Lib.hid hv1; have HV2 := Lib.hid hv2; clear hv1 hv2
             go_wp2
             go_round
             case rel => exact ⟨k + 1, by omega, by go_num, by rw [H1.out, HV1.out]; rfl, by rw [H2.out, HV2.out]; simp⟩
             case measure => simp [intOf]; omega)
    · have hta : ((ltr s).zip (ltr t)).take k = (ltr s).zip (ltr t) := List.take_of_length_le (by simp [ltr_len]; omega)
      rw [hta] at hd ⊢
      have HD := Lib.hid hd; clear hd hta
      cases hgg : ((ltr s).zip (ltr t)).any bothG
      all_goals
        have HG := Lib.hid hgg; clear hgg
        go_wp2
        go_ret
        exact ⟨ret_int (by rw [meetV, HD.out, HG.out]; rfl), rfl⟩
/-- Cells are as defined: some of the cloth, in order, at most 8. -/
def cellsF : Int → Int → List Int → Bool
  | _, _, [] => true
  | last, m, c :: cs => inB c (last + 1) (m - 1) && cellsF c m cs
def cellsB (W H : Int) (cs : List Int) : Bool := decide (cs.length ≤ 8) && cellsF (-1) (W * H) cs
theorem cellsF_drop (last m : Int) (l : List Int) (k : Nat) (h : k < l.length) : cellsF last m (l.drop k) = (inB l[k] (last + 1) (m - 1) && cellsF l[k] m (l.drop (k + 1))) := by
  rw [List.drop_eq_getElem_cons h, cellsF]
theorem goodCells_any (W H F L X Y : Int) (A : Option Addr) (n cap : Nat) (cs : List Int) (w : World) (hn : n ≤ maxLen) (hr : Rd w w.heap.size 1 A n (cs.map (Value.int .i64))) (w1 : -100 ≤ W) (w2 : W ≤ 100) (w3 : -100 ≤ H) (w4 : H ≤ 100) :
    Calls Tryz.prog 133 #[.agg #[.int .i64 W, .int .i64 H, .int .i64 F, .int .i64 L, .int .i64 X, .int .i64 Y], .slice A n cap] w fun e w' => e = .returned (.bool (cellsB W H cs)) ∧ Below w.heap.size w w' := by
  have hlen := hr.len
  unfold maxLen at hn
  obtain ⟨q1, q2⟩ := mulB (x := W) (y := H) (a := 100) (b := 100) (by omega) (by omega) (by omega) (by omega)
  have hcb : cellsB W H cs = (decide (n ≤ 8) && cellsF (-1) (W * H) cs) := by rw [cellsB, hlen]
  have HC := Lib.hid hcb; clear hcb
  by_cases h8 : (8 : Int) < n
  · go_enter Tryz.func133, Tryz.ntmps133
    go_wp2
    go_ret
    exact ⟨ret_bool (by rw [HC.out, decide_eq_false (by omega)]; rfl), (Below.refl _ _).alloc (Nat.le_refl _) _⟩
  · have h8n : n ≤ 8 := by omega
    go_enter Tryz.func133, Tryz.ntmps133
    go_wp2
    have hbs := Blk.new w 23 #[.int .i64 W, .int .i64 H, .int .i64 F, .int .i64 L, .int .i64 X, .int .i64 Y]
    have hcs := fun i => hbs.cell i
    have hrw := hr.alloc (Nat.le_refl _) (.cells #[.int .i64 W, .int .i64 H, .int .i64 F, .int .i64 L, .int .i64 X, .int .i64 Y] 23)
    have hBw := (Below.refl w.heap.size w).alloc (Nat.le_refl _) (.cells #[.int .i64 W, .int .i64 H, .int .i64 F, .int .i64 L, .int .i64 X, .int .i64 Y] 23)
    have hsz := hbs.lt
    generalize w.alloc (.cells #[.int .i64 W, .int .i64 H, .int .i64 F, .int .i64 L, .int .i64 X, .int .i64 Y] 23) = w1 at *
    go_loop [5, 13] (fun l i => ∃ (k : Nat) (last : Int), k ≤ n ∧ i = .int .i64 k ∧ l = .int .i64 last ∧ -1 ≤ last ∧ last ≤ 10000 ∧ cellsF last (W * H) (cs.drop k) = cellsF (-1) (W * H) cs) (fun _ i => n - (intOf i).toNat)
    case atStart => exact ⟨0, -1, Nat.zero_le _, rfl, rfl, by omega, by omega, rfl⟩
    case round =>
      obtain ⟨k, last, hk, rfl, rfl, hl1, hl2, hi⟩ := hrel
      have HI := Lib.hid hi; clear hi
      have hw3 := i64_ok (last + 1) (by omega)
      have hw4 := i64_ok (W * H - 1) (by omega)
      have hw5 := i64_ok (W * H) (by omega)
      by_cases hlt : k < n
      · obtain ⟨b, off, hzk, rfl, hb, hc⟩ := hrw.atm hlt
        have hd := cellsF_drop last (W * H) cs k hzk
        generalize cs[k] = c at *
        have HD := Lib.hid hd; clear hd
        cases hin : inB c (last + 1) (W * H - 1)
        · go_wp2_with (go_at_call 130; refine (within_any _ _ _ _).mono ?_; rintro e w' ⟨rfl, rfl⟩)
          go_ret
          exact ⟨ret_bool (by rw [HC.out, ← HI.out, HD.out, hin]; simp), hBw⟩
        · go_wp2_with (go_at_call 130; refine (within_any _ _ _ _).mono ?_; rintro e w' ⟨rfl, rfl⟩)
          go_round
          case rel => exact ⟨k + 1, c, by omega, by go_num, rfl, by simp [inB] at hin; omega, by simp [inB] at hin; omega, by rw [← HI.out, HD.out, hin]; rfl⟩
          case measure => simp [intOf]; omega
      · have hdn : cs.drop k = [] := List.drop_eq_nil_of_le (by omega)
        have HDN := Lib.hid hdn; clear hdn
        go_wp2
        go_ret
        exact ⟨ret_bool (by rw [HC.out, ← HI.out, HDN.out, decide_eq_true h8n]; rfl), hBw⟩
end
end Go.Proofs.YtifddfchpknkbaaGreatDoor
