import Derived.Test.YtifddfchpknkbaaGreatDoorVb
set_option linter.unusedVariables false
set_option linter.unusedSimpArgs false
namespace Go.Proofs.YtifddfchpknkbaaGreatDoor
open Go.RowKit Go.Lib

/-! The text of a book that is as defined. -/
theorem inB_two {c lo hi : Int} : inB c lo hi = true ↔ lo ≤ c ∧ c ≤ hi := by simp [inB]
theorem not_mem_tail {c : UInt8} {sep : List UInt8} (h1 : c ∉ sep) : ∀ r : List (List UInt8), (∀ x ∈ r, c ∉ x) → c ∉ joinTail sep r
  | [], _ => by simp [joinTail]
  | x :: r, h => by
    have e : joinTail sep (x :: r) = sep ++ x ++ joinTail sep r := by simp [joinTail]
    rw [e, List.mem_append, List.mem_append]
    rintro ((h2 | h2) | h2)
    · exact h1 h2
    · exact h x (by simp) h2
    · exact not_mem_tail h1 r (fun y hy => h y (by simp [hy])) h2
theorem not_mem_join {c : UInt8} {sep : List UInt8} (h1 : c ∉ sep) (r : List (List UInt8)) (h : ∀ x ∈ r, c ∉ x) : c ∉ join r sep := by
  cases r with
  | nil => simp [join_nil]
  | cons x r =>
    rw [join_cons, List.mem_append]
    rintro (h2 | h2)
    · exact h x (by simp) h2
    · exact not_mem_tail h1 r (fun y hy => h y (by simp [hy])) h2
/-- A word: not empty, without a blank and without a line feed. -/
def Word (b : ByteArray) : Prop := (32 : UInt8) ∉ b.data.toList ∧ (10 : UInt8) ∉ b.data.toList ∧ b ≠ ⟨#[]⟩
theorem jnS_list (xs : List ByteArray) (sep : ByteArray) : (jnS xs sep).data.toList = join (xs.map (·.data.toList)) sep.data.toList := rfl
theorem lineS_jn (wd : ByteArray) (ws : List ByteArray) (h : ws ≠ []) : lineS wd ws = jnS (wd :: ws) ⟨#[32]⟩ := by
  apply ba_list
  cases ws with
  | nil => exact absurd rfl h
  | cons x r =>
    show (wd ++ ⟨#[32]⟩ ++ jnS (x :: r) ⟨#[32]⟩).data.toList = _
    rw [jnS_list, ByteArray.data_append, ByteArray.data_append, Array.toList_append, Array.toList_append, jnS_list, List.map_cons, List.map_cons, join_cons, join_cons]
    simp [joinTail]
theorem line_ok (wd : ByteArray) (ws : List ByteArray) (hwd : Word wd) (hws : ∀ x ∈ ws, Word x) (h1 : 1 ≤ ws.length) (h6 : ws.length ≤ 6) (hs : wd.size ≤ 6) (hs6 : ∀ x ∈ ws, x.size ≤ 6) : LineOk wd ws ∧ (10 : UInt8) ∉ (lineS wd ws).data.toList ∧ (lineS wd ws).size ≤ 49 := by
  have hne : ws ≠ [] := fun e => by rw [e] at h1; simp at h1
  have hsz : (lineS wd ws).size ≤ 49 := by
    have h2 := lineS_size wd ws 6 hs6
    have h3 : ws.length * (6 + 1) ≤ 6 * 7 := Nat.mul_le_mul h6 (Nat.le_refl _)
    omega
  have e := lineS_jn wd ws hne
  refine ⟨⟨by omega, h1, by omega, ?_, ?_, ?_⟩, ?_, hsz⟩
  · rw [e]; exact countB_join 32 wd ws hwd.1 (fun y hy => (hws y hy).1)
  · have hc := countB_join 32 wd ws hwd.1 (fun y hy => (hws y hy).1)
    have hp := splitB_join 32 wd ws hwd.1 (fun y hy => (hws y hy).1)
    rw [hc] at hp
    rw [e]; exact hp
  · cases hq : containsS (wd :: ws) ⟨#[]⟩ with
    | false => rfl
    | true =>
      rw [containsS_iff] at hq
      rcases List.mem_cons.1 hq with h2 | h2
      · exact absurd h2.symm hwd.2.2
      · exact absurd rfl (hws _ h2).2.2
  · rw [e, jnS_list]
    refine not_mem_join (by decide) _ (fun x hx => ?_)
    obtain ⟨y, hy, rfl⟩ := List.mem_map.1 hx
    rcases List.mem_cons.1 hy with rfl | hy
    · exact hwd.2.1
    · exact (hws y hy).2.1
theorem word_stageW : Word wStage := ⟨by decide, by decide, by decide⟩
theorem word_figureW : Word wFigure := ⟨by decide, by decide, by decide⟩
theorem word_endW : Word wEnd := ⟨by decide, by decide, by decide⟩
theorem dgt_ne (d : Nat) (hd : d < 10) : dgt d ≠ 32 ∧ dgt d ≠ 10 := by
  rcases (show d = 0 ∨ d = 1 ∨ d = 2 ∨ d = 3 ∨ d = 4 ∨ d = 5 ∨ d = 6 ∨ d = 7 ∨ d = 8 ∨ d = 9 by omega) with rfl | rfl | rfl | rfl | rfl | rfl | rfl | rfl | rfl | rfl <;> decide
theorem word_dS (a : Nat) (ha : a < 100) : Word (dS a) ∧ (dS a).size ≤ 6 := by
  by_cases h : a < 10
  · have e : dS a = ⟨#[dgt a]⟩ := by unfold dS; rw [decDigits_one h]; rfl
    obtain ⟨n1, n2⟩ := dgt_ne a h
    rw [e]
    exact ⟨⟨by simpa using n1.symm, by simpa using n2.symm, fun h => by have := congrArg ByteArray.size h; cases this⟩, show 1 ≤ 6 by omega⟩
  · have e : dS a = ⟨#[dgt (a / 10), dgt (a % 10)]⟩ := by unfold dS; rw [decDigits_two h ha]; rfl
    obtain ⟨n1, n2⟩ := dgt_ne (a / 10) (by omega)
    obtain ⟨n3, n4⟩ := dgt_ne (a % 10) (by omega)
    rw [e]
    exact ⟨⟨by simpa using ⟨n1.symm, n3.symm⟩, by simpa using ⟨n2.symm, n4.symm⟩, fun h => by have := congrArg ByteArray.size h; cases this⟩, show 2 ≤ 6 by omega⟩
theorem word_dgt3 (v : Nat) (hv : v < 1000) : Word (dgt3 v) ∧ (dgt3 v).size ≤ 6 := by
  obtain ⟨n1, n2⟩ := dgt_ne (v / 100) (by omega)
  obtain ⟨n3, n4⟩ := dgt_ne (v / 10 % 10) (by omega)
  obtain ⟨n5, n6⟩ := dgt_ne (v % 10) (by omega)
  exact ⟨⟨by simpa [dgt3] using ⟨n1.symm, n3.symm, n5.symm⟩, by simpa [dgt3] using ⟨n2.symm, n4.symm, n6.symm⟩, fun h => by have := congrArg ByteArray.size h; cases this⟩, show 3 ≤ 6 by omega⟩
theorem figB_words {rows : List ByteArray} (h : figB rows = true) : (1 ≤ rows.length ∧ rows.length ≤ 6) ∧ ∀ r ∈ rows, Word r ∧ r.size ≤ 6 := by
  simp only [figB, Bool.and_eq_true, inB_two, List.all_eq_true] at h
  obtain ⟨⟨h1, h2⟩, ⟨h3, h4⟩, h5, _⟩ := h
  refine ⟨by omega, fun r hr => ?_⟩
  have h6 := h5 r hr
  simp only [rowB, Bool.and_eq_true, decide_eq_true_eq, onlyB, List.all_eq_true] at h6
  obtain ⟨h7, h8⟩ := h6
  have hno : ∀ c : UInt8, c.toNat ≠ 35 → c.toNat ≠ 46 → c ∉ r.data.toList := fun c n1 n2 hc => by
    have := h8 (c.toNat : Int) (List.mem_map.2 ⟨c, hc, rfl⟩)
    simp only [List.mem_cons, List.not_mem_nil, or_false] at this
    omega
  refine ⟨⟨hno 32 (by decide) (by decide), hno 10 (by decide) (by decide), fun e => ?_⟩, by omega⟩
  rw [e] at h7
  have : ByteArray.size ⟨#[]⟩ = 0 := rfl
  omega
theorem lines_ok (a0 a1 a2 a3 a4 a5 : Nat) (fs : List Fig) (hst : stageB a0 a1 a2 a3 a4 a5 = true) (hcb : compB fs = true) :
    (∀ a ∈ [a0, a1, a2, a3, a4, a5], a < 100) ∧ (1 ≤ fs.length ∧ fs.length ≤ 6) ∧ (LineOk wStage ([a0, a1, a2, a3, a4, a5].map dS)) ∧ (∀ f ∈ fs, LineOk wFigure f.rows ∧ (1 ≤ f.rows.length ∧ f.rows.length ≤ 6) ∧ ∀ r ∈ f.rows, r.size ≤ 6) ∧ ∀ l ∈ linesL [a0, a1, a2, a3, a4, a5] fs, (10 : UInt8) ∉ l.data.toList ∧ l.size ≤ 49 := by
  have hn : ∀ a ∈ [a0, a1, a2, a3, a4, a5], a < 100 := by
    simp only [stageB, Bool.and_eq_true, inB_two] at hst
    intro a ha
    simp only [List.mem_cons, List.not_mem_nil, or_false] at ha
    omega
  simp only [compB, Bool.and_eq_true, inB_two, List.all_eq_true] at hcb
  obtain ⟨⟨hc1, hc2⟩, hc3⟩ := hcb
  obtain ⟨l1, l2, l3⟩ := line_ok wStage ([a0, a1, a2, a3, a4, a5].map dS) word_stageW (fun x hx => by obtain ⟨a, ha, rfl⟩ := List.mem_map.1 hx; exact (word_dS a (hn a ha)).1) (show 1 ≤ 6 by omega) (Nat.le_refl 6) (show 5 ≤ 6 by omega) (fun x hx => by obtain ⟨a, ha, rfl⟩ := List.mem_map.1 hx; exact (word_dS a (hn a ha)).2)
  have hfl : ∀ f ∈ fs, (LineOk wFigure f.rows ∧ (10 : UInt8) ∉ (lineS wFigure f.rows).data.toList ∧ (lineS wFigure f.rows).size ≤ 49) ∧ (1 ≤ f.rows.length ∧ f.rows.length ≤ 6) ∧ ∀ r ∈ f.rows, r.size ≤ 6 := fun f hf => by
    obtain ⟨⟨h1, h2⟩, h3⟩ := figB_words (hc3 f hf)
    exact ⟨line_ok wFigure f.rows word_figureW (fun x hx => (h3 x hx).1) h1 h2 (Nat.le_refl 6) (fun x hx => (h3 x hx).2), ⟨h1, h2⟩, fun r hr => (h3 r hr).2⟩
  refine ⟨hn, by omega, l1, fun f hf => ⟨(hfl f hf).1.1, (hfl f hf).2⟩, fun l hl => ?_⟩
  rcases List.mem_cons.1 hl with rfl | hl
  · exact ⟨l2, l3⟩
  · obtain ⟨f, hf, rfl⟩ := List.mem_map.1 hl
    exact (hfl f hf).1.2
end Go.Proofs.YtifddfchpknkbaaGreatDoor
