import Derived.Test.YtifddfchpknkbaaGreatDoorProg
import Derived.Test.YtifddfchpknkbaaGreatDoorBk14
import Derived.Test.YtifddfchpknkbaaGreatDoorBk15
import Derived.Test.YtifddfchpknkbaaGreatDoorBk16
import Derived.Test.YtifddfchpknkbaaGreatDoorBk17
set_option linter.unusedVariables false
set_option linter.unusedSimpArgs false
namespace Go.Proofs.YtifddfchpknkbaaGreatDoor
section
open Go.RowKit Go.Lib
theorem wStage_ok : wStage ≠ ⟨#[]⟩ ∧ (32 : UInt8) ∉ wStage.data.toList ∧ (10 : UInt8) ∉ wStage.data.toList := by decide
theorem wFigure_ok : wFigure ≠ ⟨#[]⟩ ∧ (32 : UInt8) ∉ wFigure.data.toList ∧ (10 : UInt8) ∉ wFigure.data.toList := by decide
/-- The shape of a text of something. -/
theorem text_shape (s : ByteArray) (a : List Nat) (rl : List (List ByteArray)) (S : Nat) (hs : s.size ≤ 600) (hT : TextOf s a rl S) :
    hasSuffix s.data.toList [10] = true ∧ (⟨(trimSuffix s.data.toList [10]).toArray⟩ : ByteArray).size ≤ 600 ∧ countB ⟨(trimSuffix s.data.toList [10]).toArray⟩ ⟨#[10]⟩ = rl.length + 1 ∧ splitB ⟨#[10]⟩ 0 (rl.length + 1) ⟨(trimSuffix s.data.toList [10]).toArray⟩ = linesR a rl ++ [lineS wEnd [dgt3 (S % 173)]] ∧
    cutB 10 s = linesR a rl ++ [lineS wEnd [dgt3 (S % 173)]] ++ [⟨#[]⟩] ∧ (rl.length + 2) * 8 ≤ s.size ∧ ∀ l ∈ linesR a rl, l.size ≤ s.size ∧ (10 : UInt8) ∉ l.data.toList := by
  obtain ⟨h1, h2, h3, h4, h5⟩ := hT
  have hne : linesR a rl ≠ [] := by unfold linesR; simp
  have hmod := Nat.mod_lt S (show 0 < 173 by omega)
  obtain ⟨g1, g2⟩ := end_word (S % 173) (by omega)
  have hend : (lineS wEnd [dgt3 (S % 173)]).size = 7 := by
    unfold lineS
    rw [size_app, size_app]
    have e : jnS [dgt3 (S % 173)] ⟨#[32]⟩ = dgt3 (S % 173) := by
      apply ba_list
      show (join ([dgt3 (S % 173)].map (·.data.toList)) [32]).toArray.toList = _
      rw [List.map_cons, List.map_nil, join_one]
    rw [e]
    rfl
  have et := textS_jn (linesR a rl) S hne
  rw [← h5] at et
  obtain ⟨M, hM⟩ : ∃ M, M = linesR a rl ++ [lineS wEnd [dgt3 (S % 173)]] := ⟨_, rfl⟩
  rw [← hM] at et ⊢
  have hLlen : (linesR a rl).length = rl.length + 1 := by unfold linesR; simp
  have hMlen : M.length = (rl.length + 1) + 1 := by rw [hM, List.length_append, hLlen]; rfl
  have hL10 : ∀ l ∈ linesR a rl, (10 : UInt8) ∉ l.data.toList ∧ 7 ≤ l.size := by
    intro l hl
    unfold linesR at hl
    rcases List.mem_cons.1 hl with rfl | hl
    · refine ⟨lineS_no wStage_ok.2.2 (fun x hx => ?_), ?_⟩
      · obtain ⟨b, hb, rfl⟩ := List.mem_map.1 hx
        exact (dS_word b (h2 b hb)).2.2
      · have e : lineS wStage (a.map dS) = jnS (wStage :: a.map dS) ⟨#[32]⟩ := lineS_jn1 _ _ (fun e => by have := congrArg List.length e; simp [h1] at this)
        have h := join_long 32 0 ((wStage :: a.map dS).map (·.data.toList)) (fun x _ => Nat.zero_le _)
        have e2 : (jnS (wStage :: a.map dS) ⟨#[32]⟩).size = (join ((wStage :: a.map dS).map (·.data.toList)) [32]).length := by rw [← size_list]; rfl
        rw [e, e2]
        simp only [List.length_map, List.length_cons, h1] at h
        have := lineS_min wStage (a.map dS)
        rw [e, e2] at this
        have e3 : wStage.size = 5 := rfl
        cases a with
        | nil => simp at h1
        | cons b r =>
          rw [List.map_cons, List.map_cons, List.map_cons, join_cons]
          simp only [joinTail, List.map_cons, List.flatten_cons, List.length_append]
          have e4 : wStage.data.toList.length = 5 := rfl
          have hb := dS_len b (h2 b (by simp))
          rw [← size_list] at hb
          simp only [List.length_cons, List.length_nil]
          omega
    · obtain ⟨rows, hr, rfl⟩ := List.mem_map.1 hl
      refine ⟨lineS_no wFigure_ok.2.2 (fun x hx => ((h3 rows hr).2 x hx).2.2), ?_⟩
      have := lineS_min wFigure rows
      have e3 : wFigure.size = 6 := rfl
      omega
  have hM10 : ∀ l ∈ M, (10 : UInt8) ∉ l.data.toList ∧ 7 ≤ l.size := by
    intro l hl
    rw [hM] at hl
    rcases List.mem_append.1 hl with hl | hl
    · exact hL10 l hl
    · rw [List.mem_singleton.1 hl]; exact ⟨g1, by omega⟩
  obtain ⟨t1, t2, t3, t4⟩ := cut_text M (rl.length + 1) hMlen (fun l hl => (hM10 l hl).1)
  rw [← et] at t1 t2
  have hsz := congrArg ByteArray.size et
  rw [size_app, show ByteArray.size ⟨#[10]⟩ = 1 from rfl] at hsz
  have hcut : cutB 10 (jnS M ⟨#[10]⟩) = M := by
    have h : cutB 10 (jnS M ⟨#[10]⟩) = splitB ⟨#[10]⟩ 0 (countB (jnS M ⟨#[10]⟩) ⟨#[10]⟩) (jnS M ⟨#[10]⟩) := rfl
    rw [h, t3, t4]
  have hlong := join_long 10 7 (M.map (·.data.toList)) (fun x hx => by obtain ⟨l, hl, rfl⟩ := List.mem_map.1 hx; rw [size_list]; exact (hM10 l hl).2)
  have e2 : (jnS M ⟨#[10]⟩).size = (join (M.map (·.data.toList)) [10]).length := by rw [← size_list]; rfl
  rw [← e2, List.length_map, hMlen] at hlong
  obtain ⟨_, hc2⟩ := cutB_size 10 (jnS M ⟨#[10]⟩)
  rw [hcut] at hc2
  refine ⟨t1, by rw [t2]; omega, by rw [t2]; exact t3, by rw [t2]; exact t4, ?_, by omega, fun l hl => ⟨?_, (hL10 l hl).1⟩⟩
  · rw [et, cutB_end, hcut]
  · have := hc2 l (by rw [hM]; exact List.mem_append_left _ hl)
    omega
/-- What is the text of something is parsed. -/
theorem parse_text (a0 a1 a2 a3 a4 a5 : Nat) (s : ByteArray) (rl : List (List ByteArray)) (S : Nat) (m : Int) (w : World) (hE : Env m w) (hs : s.size ≤ 400) (hT : TextOf s [a0, a1, a2, a3, a4, a5] rl S) :
    Calls Tryz.prog 141 #[.string s] w fun e w' => ∃ v vs, e = .returned (.tuple #[.agg #[.int .i64 a0, .int .i64 a1, .int .i64 a2, .int .i64 a3, .int .i64 a4, .int .i64 a5, v], .int .i64 0]) ∧ w'.ownsRow w.heap.size 26 1 v rl.length vs ∧ Cloths w' w.heap.size vs rl ∧ Below w.heap.size w w' := by
  obtain ⟨t1, t2, t3, t4, t5, t6, t7⟩ := text_shape s _ rl S (by omega) hT
  obtain ⟨h1, h2, h3, h4, h5⟩ := hT
  refine parse_ok a0 a1 a2 a3 a4 a5 h2 s rl _ S rl.length m w hE (by omega) t1 (by omega) t3 t4 rfl rfl (by omega) ?_ (fun rows hr => ?_) (fun l hl => by have := (t7 l hl).1; omega) h4
  · refine lineOk_words wStage _ (by simp) ⟨wStage_ok.1, wStage_ok.2.1⟩ (fun x hx => ?_) (by have := (t7 _ (List.mem_cons_self ..)).1; omega)
    obtain ⟨b, hb, rfl⟩ := List.mem_map.1 hx
    exact ⟨(dS_word b (h2 b hb)).1, (dS_word b (h2 b hb)).2.1⟩
  · refine lineOk_words wFigure rows (h3 rows hr).1 ⟨wFigure_ok.1, wFigure_ok.2.1⟩ (fun x hx => ⟨((h3 rows hr).2 x hx).1, ((h3 rows hr).2 x hx).2.1⟩) ?_
    have := (t7 (lineS wFigure rows) (List.mem_cons_of_mem _ (List.mem_map.2 ⟨rows, hr, rfl⟩))).1
    omega
end
section
open Go.RowKit Go.Lib
/-- What the specification wants of the first line, and of a figure's line. -/
def HeadIs (s : ByteArray) (a : List Nat) : Prop := a.length = 6 ∧ (∀ x ∈ a, x < 100) ∧ ∃ l0, (cutB 10 s)[0]? = some l0 ∧ (cutB 32 l0).drop 1 = a.map dS
def LineIs (s : ByteArray) (j : Nat) (rows : List ByteArray) : Prop := ∃ l, (cutB 10 s)[1 + j]? = some l ∧ (cutB 32 l).drop 1 = rows ∧ rows ≠ [] ∧ ∀ x ∈ rows, x ≠ ⟨#[]⟩
def RefLines (s : ByteArray) (a : List Nat) (rl : List (List ByteArray)) : Prop := HeadIs s a ∧ (∀ j rows, rl[j]? = some rows → LineIs s j rows) ∧ (cutB 10 s).length = rl.length + 3
theorem mem_join {c b : UInt8} {x : List UInt8} : ∀ {M : List (List UInt8)}, x ∈ M → b ∈ x → b ∈ join M [c]
  | [], h, _ => by cases h
  | y :: r, h, hb => by
    rw [join_cons]
    rcases List.mem_cons.1 h with h | h
    · exact List.mem_append_left _ (h ▸ hb)
    · refine List.mem_append_right _ ?_
      simp only [joinTail]
      exact List.mem_flatten.2 ⟨[c] ++ x, List.mem_map.2 ⟨x, h, rfl⟩, List.mem_append_right _ hb⟩
theorem cutB_sub {c : UInt8} {l x : ByteArray} (h : x ∈ cutB c l) {b : UInt8} (hb : b ∈ x.data.toList) : b ∈ l.data.toList := by
  rw [← join_cut c l.data.toList, ← cutB_data]
  exact mem_join (List.mem_map.2 ⟨x, h, rfl⟩) hb
/-- What the specification reads is what it is the text of. -/
theorem textOf_ref {s : ByteArray} {a : List Nat} {rl : List (List ByteArray)} {S : Nat} (h : RefLines s a rl) (hS : sumA (linesR a rl) 0 0 = S) (hs : s = textS (linesR a rl) S) : TextOf s a rl S := by
  obtain ⟨⟨h1, h2, _⟩, h3, _⟩ := h
  refine ⟨h1, h2, fun rows hr => ?_, hS, hs⟩
  obtain ⟨j, hj⟩ := List.mem_iff_getElem?.1 hr
  obtain ⟨l, e1, e2, e3, e4⟩ := h3 j rows hj
  refine ⟨e3, fun x hx => ⟨e4 x hx, ?_, fun h10 => ?_⟩⟩
  · rw [← e2] at hx
    exact cutB_mem 32 l x (List.mem_of_mem_drop hx)
  · rw [← e2] at hx
    exact cutB_mem 10 s l (List.mem_of_getElem? e1) (cutB_sub (List.mem_of_mem_drop hx) h10)
theorem ref_textOf {s : ByteArray} {a : List Nat} {rl : List (List ByteArray)} {S : Nat} (hs : s.size ≤ 400) (h : TextOf s a rl S) : RefLines s a rl := by
  obtain ⟨t1, t2, t3, t4, t5, t6, t7⟩ := text_shape s a rl S (by omega) h
  obtain ⟨h1, h2, h3, h4, h5⟩ := h
  have cut : ∀ (wd : ByteArray) (ws : List ByteArray), LineOk wd ws → cutB 32 (lineS wd ws) = wd :: ws := fun wd ws hl => by
    have e := hl.2.2.2.2.1
    rw [← hl.2.2.2.1] at e
    exact e
  refine ⟨⟨h1, h2, lineS wStage (a.map dS), ?_, ?_⟩, fun j rows hj => ⟨lineS wFigure rows, ?_, ?_, (h3 rows (List.mem_of_getElem? hj)).1, fun x hx => ((h3 rows (List.mem_of_getElem? hj)).2 x hx).1⟩, ?_⟩
  · rw [t5]; rfl
  · rw [cut]
    · rfl
    · refine lineOk_words wStage _ (fun e => by have := congrArg List.length e; simp [h1] at this) ⟨wStage_ok.1, wStage_ok.2.1⟩ (fun x hx => ?_) (by have := (t7 _ (List.mem_cons_self ..)).1; omega)
      obtain ⟨b, hb, rfl⟩ := List.mem_map.1 hx
      exact ⟨(dS_word b (h2 b hb)).1, (dS_word b (h2 b hb)).2.1⟩
  · have hjl := (List.getElem?_eq_some_iff.1 hj).1
    rw [t5, Nat.add_comm]
    unfold linesR
    rw [List.cons_append, List.cons_append, List.getElem?_cons_succ, List.append_assoc, List.getElem?_append_left (by rw [List.length_map]; exact hjl), List.getElem?_map, hj]
    rfl
  · rw [cut]
    · rfl
    · have hr := List.mem_of_getElem? hj
      refine lineOk_words wFigure rows (h3 rows hr).1 ⟨wFigure_ok.1, wFigure_ok.2.1⟩ (fun x hx => ⟨((h3 rows hr).2 x hx).1, ((h3 rows hr).2 x hx).2.1⟩) ?_
      have := (t7 (lineS wFigure rows) (List.mem_cons_of_mem _ (List.mem_map.2 ⟨rows, hr, rfl⟩))).1
      omega
  · rw [t5]
    unfold linesR
    simp
end
section
open Go.RowKit Go.Lib
/-- A row without its first place. -/
def tail1 : Value → Value
  | .slice (some a) n c => .slice (some ⟨a.block, a.off + 1, a.spot⟩) (n - 1) (c - 1)
  | v => v
theorem Rd_tail {w : World} {B g n : Nat} {xs : List Value} (h : Rd w B 1 (some ⟨g, 0, none⟩) n xs) (hn : 1 ≤ n) : Rd w B 1 (some ⟨g, 1, none⟩) (n - 1) (xs.drop 1) := by
  have hl := h.1
  obtain ⟨g', off, e, hg, hc⟩ := h.2 (by omega)
  injection e with e
  injection e with e1 e2
  subst e1; subst e2
  refine ⟨by rw [List.length_drop]; omega, fun _ => ⟨g, 1, rfl, hg, fun j u hu => ?_⟩⟩
  rw [List.getElem?_drop] at hu
  have := hc (1 + j) u hu
  rwa [Nat.zero_add] at this
/-- Figures whose rows are words behind a first one, each in a row that is owned. -/
theorem figs_tail {w : World} {base : Nat} : ∀ {us : List Value} {cls : List (List ByteArray)}, Cloths w base us cls → (∀ c ∈ cls, 1 ≤ c.length) → (∀ c ∈ cls, ∀ r ∈ c, r.size ≤ maxLen) → ∃ gs : List Fig, gs.map Fig.val = us.map tail1 ∧ gs.map Fig.rows = cls.map (·.drop 1) ∧ ∀ f ∈ gs, f.ok w w.heap.size
  | [], [], _, _, _ => ⟨[], rfl, rfl, fun f h => by cases h⟩
  | [], _ :: _, h, _, _ => by have := h.1; simp at this
  | _ :: _, [], h, _, _ => by have := h.1; simp at this
  | v :: vs, c :: rl, h, h1, hs => by
    have h0 : w.ownsRow base 9 1 v c.length (c.map Value.string) := h.2 0 (by simp) (by simp)
    have ht : Cloths w base vs rl := ⟨by have := h.1; simpa using this, fun i h1 h2 => h.2 (i + 1) (by simpa using h1) (by simpa using h2)⟩
    obtain ⟨gs, e1, e2, e3⟩ := figs_tail ht (fun x hx => h1 x (by simp [hx])) (fun rows hr => hs rows (by simp [hr]))
    have hc := h1 c (by simp)
    obtain ⟨g, cap, rfl, hg1, hg2⟩ := h0.form (by omega)
    have hle := own_le0 h0
    have hcm := own_cap h0
    refine ⟨⟨some ⟨g, 1, none⟩, c.length - 1, cap - 1, c.drop 1⟩ :: gs, by rw [List.map_cons, e1]; rfl, by rw [List.map_cons, e2]; rfl, fun f hf => ?_⟩
    rcases List.mem_cons.1 hf with rfl | hf
    · refine ⟨by dsimp only; omega, by dsimp only; omega, fun r hr => hs c (by simp) r (List.mem_of_mem_drop hr), ?_⟩
      have := Rd_tail (Rd.of_own h0) hc
      rw [List.map_drop]
      exact this
    · exact e3 f hf
end
section
open Go.RowKit Go.Lib
/-- The string is the text of nothing. -/
def NoT (s : ByteArray) : Prop := ∀ a rl, RefLines s a rl → ∀ S : Nat, sumA (linesR a rl) 0 0 = S → s ≠ textS (linesR a rl) S
/-- What is known of the lines, behind some of them. -/
def RdSt (L : List ByteArray) (k : Nat) (a : List Nat) (cls : List (List ByteArray)) : Prop :=
  cls.length = k - 1 ∧ (∀ j c, cls[j]? = some c → ∃ l, L[1 + j]? = some l ∧ cutB 32 l = c ∧ 2 ≤ c.length ∧ ∀ x ∈ c.drop 1, x ≠ ⟨#[]⟩) ∧ a.length = 6 ∧ (∀ x ∈ a, x < 100) ∧ (1 ≤ k → ∃ l0, L[0]? = some l0 ∧ (cutB 32 l0).drop 1 = a.map dS)
def ReadAns (s : ByteArray) (w' : World) (e : Ending) : Prop :=
  (∃ (a0 a1 a2 a3 a4 a5 S : Nat) (rl : List (List ByteArray)) (A : Option Addr) (c : Nat) (gs : List Fig), RefLines s [a0, a1, a2, a3, a4, a5] rl ∧ sumA (linesR [a0, a1, a2, a3, a4, a5] rl) 0 0 = S ∧ s = textS (linesR [a0, a1, a2, a3, a4, a5] rl) S ∧ e = .returned (.tuple #[.agg #[.int .i64 a0, .int .i64 a1, .int .i64 a2, .int .i64 a3, .int .i64 a4, .int .i64 a5, .slice A rl.length c], .bool true]) ∧ gs.map Fig.rows = rl ∧ (∀ f ∈ gs, f.ok w' w'.heap.size) ∧ Rd w' w'.heap.size 1 A rl.length (gs.map Fig.val)) ∨ (NoT s ∧ e = .returned (.tuple #[.agg #[.int .i64 0, .int .i64 0, .int .i64 0, .int .i64 0, .int .i64 0, .int .i64 0, .slice none 0 0], .bool false]))
theorem dS_inj {a b : Nat} (ha : a < 100) (hb : b < 100) (h : dS a = dS b) : a = b := by
  have e1 := congrArg (fun x : ByteArray => x.data.toList) h
  rcases dS_list a ha with ⟨h5, e5⟩ | ⟨h5, e5⟩ <;> rcases dS_list b hb with ⟨h6, e6⟩ | ⟨h6, e6⟩ <;> simp only [e5, e6, List.cons.injEq, and_true, List.nil_eq, reduceCtorEq, List.cons_ne_nil, and_false] at e1
  · have := congrArg UInt8.toNat e1
    rw [UInt8.toNat_ofNat', UInt8.toNat_ofNat'] at this
    omega
  · have x := congrArg UInt8.toNat e1.1
    have y := congrArg UInt8.toNat e1.2
    rw [UInt8.toNat_ofNat', UInt8.toNat_ofNat'] at x y
    omega
theorem dS_map_inj : ∀ {a b : List Nat}, (∀ x ∈ a, x < 100) → (∀ x ∈ b, x < 100) → a.map dS = b.map dS → a = b
  | [], [], _, _, _ => rfl
  | [], _ :: _, _, _, h => by simp at h
  | _ :: _, [], _, _, h => by simp at h
  | x :: xs, y :: ys, ha, hb, h => by
    rw [List.map_cons, List.map_cons, List.cons.injEq] at h
    rw [dS_inj (ha x (by simp)) (hb y (by simp)) h.1, dS_map_inj (fun z hz => ha z (by simp [hz])) (fun z hz => hb z (by simp [hz])) h.2]
theorem no_few {s : ByteArray} (h : (cutB 10 s).length < 3) : NoT s := fun a rl ⟨_, _, h3⟩ => by omega
theorem no_head {s l0 : ByteArray} (h0 : (cutB 10 s)[0]? = some l0) (h : ¬ ∃ ns : List Nat, (∀ x ∈ ns, x < 100) ∧ ns.length = 6 ∧ (cutB 32 l0).drop 1 = ns.map dS) : NoT s := fun a rl ⟨⟨h1, h2, l, h3, h4⟩, _, _⟩ => by
  rw [h0] at h3
  cases h3
  exact absurd ⟨a, h2, h1, h4⟩ h
theorem no_line {s l : ByteArray} {k : Nat} (hk : 1 ≤ k) (hq : k + 2 < (cutB 10 s).length) (h0 : (cutB 10 s)[k]? = some l) (h : (cutB 32 l).length < 2 ∨ ∃ x ∈ (cutB 32 l).drop 1, x = ⟨#[]⟩) : NoT s := fun a rl ⟨_, h2, h3⟩ => by
  obtain ⟨l', e1, e2, e3, e4⟩ := h2 (k - 1) (rl[k - 1]'(by omega)) (List.getElem?_eq_getElem _)
  rw [show 1 + (k - 1) = k by omega, h0] at e1
  cases e1
  rw [← e2] at e3 e4
  rcases h with h | ⟨x, hx, e⟩
  · exact absurd (List.length_eq_zero_iff.1 (by rw [List.length_drop]; omega)) e3
  · exact absurd e (e4 x hx)
theorem st_lines {s : ByteArray} {k : Nat} {a : List Nat} {cls : List (List ByteArray)} (h : RdSt (cutB 10 s) k a cls) (hk : 1 ≤ k) (hq : (cutB 10 s).length = k + 2) : RefLines s a (cls.map (·.drop 1)) := by
  obtain ⟨h1, h2, h3, h4, h5⟩ := h
  refine ⟨⟨h3, h4, h5 hk⟩, fun j rows hj => ?_, by rw [List.length_map]; omega⟩
  rw [List.getElem?_map] at hj
  obtain ⟨c, hc, rfl⟩ := Option.map_eq_some_iff.1 hj
  obtain ⟨l, e1, e2, e3, e4⟩ := h2 j c hc
  exact ⟨l, e1, by rw [e2], fun e => by have := congrArg List.length e; rw [List.length_drop] at this; simp at this; omega, e4⟩
theorem st_unique {s : ByteArray} {k : Nat} {a : List Nat} {cls : List (List ByteArray)} (h : RdSt (cutB 10 s) k a cls) (hk : 1 ≤ k) (hq : (cutB 10 s).length = k + 2) {b : List Nat} {rl : List (List ByteArray)} (hr : RefLines s b rl) : b = a ∧ rl = cls.map (·.drop 1) := by
  obtain ⟨h1, h2, h3, h4, h5⟩ := h
  obtain ⟨⟨r1, r2, l0, r3, r4⟩, r5, r6⟩ := hr
  obtain ⟨l1, e1, e2⟩ := h5 hk
  rw [r3] at e1
  cases e1
  refine ⟨dS_map_inj r2 h4 (by rw [← r4, e2]), ?_⟩
  apply List.ext_getElem?
  intro j
  by_cases hj : j < rl.length
  · have hc : j < cls.length := by omega
    obtain ⟨l, f1, f2, _⟩ := r5 j rl[j] (List.getElem?_eq_getElem hj)
    obtain ⟨l', g1, g2, _⟩ := h2 j cls[j] (List.getElem?_eq_getElem hc)
    rw [f1] at g1
    cases g1
    rw [List.getElem?_eq_getElem hj, List.getElem?_map, List.getElem?_eq_getElem hc, Option.map_some, ← f2, g2]
  · rw [List.getElem?_eq_none (by omega), List.getElem?_eq_none (by rw [List.length_map]; omega)]
theorem st_start (L : List ByteArray) : RdSt L 0 [0, 0, 0, 0, 0, 0] [] := ⟨rfl, fun j c h => by simp at h, rfl, fun x hx => by simp at hx; omega, fun h => absurd h (by omega)⟩
theorem st_head {L : List ByteArray} {l0 : ByteArray} {a b : List Nat} {cls : List (List ByteArray)} (h : RdSt L 0 a cls) (h0 : L[0]? = some l0) (hb : ∀ x ∈ b, x < 100) (h6 : b.length = 6) (hw : (cutB 32 l0).drop 1 = b.map dS) : RdSt L 1 b cls := by
  obtain ⟨h1, h2, _, _, _⟩ := h
  exact ⟨h1, h2, h6, hb, fun _ => ⟨l0, h0, hw⟩⟩
theorem st_line {L : List ByteArray} {l : ByteArray} {k : Nat} {a : List Nat} {cls : List (List ByteArray)} (h : RdSt L k a cls) (hk : 1 ≤ k) (h0 : L[k]? = some l) (h2 : 2 ≤ (cutB 32 l).length) (hx : ∀ x ∈ (cutB 32 l).drop 1, x ≠ ⟨#[]⟩) : RdSt L (k + 1) a (cls ++ [cutB 32 l]) := by
  obtain ⟨g1, g2, g3, g4, g5⟩ := h
  refine ⟨by rw [List.length_append, g1]; simp; omega, fun j c hc => ?_, g3, g4, fun _ => g5 hk⟩
  by_cases hj : j < cls.length
  · rw [List.getElem?_append_left hj] at hc
    exact g2 j c hc
  · rw [List.getElem?_append_right (by omega)] at hc
    have e : j - cls.length = 0 := by
      by_cases e : j - cls.length = 0
      · exact e
      · rw [List.getElem?_eq_none (by simp; omega)] at hc; cases hc
    rw [e] at hc
    simp only [List.getElem?_cons_zero, Option.some.injEq] at hc
    subst hc
    exact ⟨l, by rw [show 1 + j = k by omega]; exact h0, rfl, h2, hx⟩
theorem figL_rows {gs : List Fig} {rl : List (List ByteArray)} (h : gs.map Fig.rows = rl) (a : List Nat) : linesL a gs = linesR a rl := by
  subst h
  unfold linesL linesR
  rw [List.map_map]
  rfl
theorem line_small {l : ByteArray} {c : List ByteArray} (hc : cutB 32 l = c) (h2 : 2 ≤ c.length) : (lineS wFigure (c.drop 1)).size ≤ l.size + 7 := by
  have e := jn_cutB 32 l
  rw [hc] at e
  obtain ⟨x, xs, rfl⟩ : ∃ x xs, c = x :: xs := by cases c with | nil => simp at h2 | cons x xs => exact ⟨x, xs, rfl⟩
  have hne : xs ≠ [] := fun e => by subst e; simp at h2
  have h1 := lineS_jn1 x xs hne
  rw [List.drop_succ_cons, List.drop_zero]
  rw [← e, ← h1]
  unfold lineS
  rw [size_app, size_app, size_app, size_app]
  show 6 + 1 + _ ≤ x.size + 1 + _ + 7
  omega
theorem refPrint_lines (a0 a1 a2 a3 a4 a5 : Nat) (hn : ∀ a ∈ [a0, a1, a2, a3, a4, a5], a < 100) (rl : List (List ByteArray)) (hrl : rl.length ≤ 700) (hr : ∀ rows ∈ rl, 1 ≤ rows.length ∧ rows.length ≤ 1000 ∧ (∀ r ∈ rows, r.size ≤ 1000) ∧ (lineS wFigure rows).size ≤ 800) :
    ∃ S : Nat, sumA (linesR [a0, a1, a2, a3, a4, a5] rl) 0 0 = S ∧ ∀ (A : Option Addr) (n cap : Nat) (gs : List Fig) (wx : World), gs.map Fig.rows = rl → (∀ f ∈ gs, f.ok wx wx.heap.size) → Rd wx wx.heap.size 1 A n (gs.map Fig.val) → Calls Tryz.prog 86 #[.agg #[.int .i64 a0, .int .i64 a1, .int .i64 a2, .int .i64 a3, .int .i64 a4, .int .i64 a5, .slice A n cap]] wx fun e w' => e = .returned (.string (textS (linesR [a0, a1, a2, a3, a4, a5] rl) S)) ∧ Below wx.heap.size wx w' := by
  have hst : (lineS wStage ([a0, a1, a2, a3, a4, a5].map dS)).size ≤ 800 := by
    have := lineS_size wStage ([a0, a1, a2, a3, a4, a5].map dS) 3 (fun x hx => by
      obtain ⟨k, hk, rfl⟩ := List.mem_map.1 hx
      exact dS_size k (by have := hn k hk; omega))
    have e : wStage.size = 5 := rfl
    rw [e] at this
    simp only [List.length_map, List.length_cons, List.length_nil] at this
    omega
  have hlines : ∀ l ∈ linesR [a0, a1, a2, a3, a4, a5] rl, l.size ≤ 800 := fun l hl => by
    unfold linesR at hl
    rcases List.mem_cons.1 hl with rfl | hl
    · exact hst
    · obtain ⟨rows, h, rfl⟩ := List.mem_map.1 hl
      exact (hr rows h).2.2.2
  have hll : (linesR [a0, a1, a2, a3, a4, a5] rl).length = rl.length + 1 := by unfold linesR; simp
  have h0 := sumA_ok (linesR [a0, a1, a2, a3, a4, a5] rl) 0 0 (Int.le_refl _) (by omega) (fun r h => Nat.le_trans (hlines r h) (by omega)) (Int.le_refl _) (by omega)
  obtain ⟨S, hS⟩ : ∃ S : Nat, sumA (linesR [a0, a1, a2, a3, a4, a5] rl) 0 0 = S := ⟨(sumA (linesR [a0, a1, a2, a3, a4, a5] rl) 0 0).toNat, (Int.toNat_of_nonneg h0).symm⟩
  refine ⟨S, hS, fun A n cap gs wx hgs hok hrd => ?_⟩
  have hmem : ∀ f ∈ gs, f.rows ∈ rl := fun f hf => by rw [← hgs]; exact List.mem_map.2 ⟨f, hf, rfl⟩
  have hlen := hrd.len
  have hgl : gs.length = rl.length := by rw [← hgs, List.length_map]
  have hbr := bookR_lines a0 a1 a2 a3 a4 a5 gs (fun f hf => (hr f.rows (hmem f hf)).1)
  rw [figL_rows hgs] at hbr
  have hdz : ∀ x ∈ [(a0 : Int), a1, a2, a3, a4, a5], ∃ k : Nat, x = k ∧ k < 100 := fun x hx => by
    simp only [List.mem_cons, List.not_mem_nil, or_false] at hx
    rcases hx with rfl | rfl | rfl | rfl | rfl | rfl
    all_goals exact ⟨_, rfl, hn _ (by simp)⟩
  have hdz2 : ∀ k : Nat, DZ (k : Int) = dS k := fun k => by unfold DZ; rw [Int.toNat_natCast]
  have hfw : ∀ f ∈ gs, (figW f).size ≤ 100000 := fun f hf => by
    obtain ⟨h1, _, _, h4⟩ := hr f.rows (hmem f hf)
    have hne : f.rows ≠ [] := fun e => by rw [e] at h1; simp at h1
    unfold figW
    rw [figS_jn, ← lineS_jn _ _ hne]
    show (lineS wFigure f.rows).size ≤ 100000
    omega
  have key := refPrint_big DZ a0 a1 a2 a3 a4 a5 A n cap gs wx (by omega) hok (fun f hf => ⟨(hr f.rows (hmem f hf)).2.1, (hr f.rows (hmem f hf)).2.2.1, hfw f hf⟩) hrd
    (fun x hx => by obtain ⟨k, rfl, hk⟩ := hdz x hx; rw [hdz2]; exact Nat.le_trans (dS_size k (by omega)) (by omega))
    (fun x hx w' => by obtain ⟨k, rfl, hk⟩ := hdz x hx; rw [hdz2]; exact decimal_any k w' hk)
    (by rw [hbr, hS]; omega)
  rw [hbr, hS, refText _ S (by unfold linesR; simp)] at key
  exact key
end
end Go.Proofs.YtifddfchpknkbaaGreatDoor
