import Derived.Test.YtifddfchpknkbaaGreatDoorTn
set_option linter.unusedVariables false
set_option linter.unusedSimpArgs false
namespace Go.Proofs.YtifddfchpknkbaaGreatDoor
open Go.RowKit

/-- In rows and columns before this one. -/
def Bef (J I i j : Nat) : Prop := i < J ∨ (i = J ∧ j < I)
/-- What the search so far knows of the cells that get shadows: none is hide, all are. -/
structure SoFar (F L X Y N PX PY : Int) (rows : List ByteArray) (k m : Nat) (D : Bool) (J I : Nat) (dk lt : Bool) : Prop where
  lt : lt = true ↔ ∀ i j z, AtB rows i j z → Bef J I i j → OvS Y F N PY (lowV F N L m) (highV F N L m) i → OvS X F N PX (lowV F N L k) (highV F N L k) j → z ≠ 35
  dk : dk = true ↔ D = true ∧ ∀ i j z, AtB rows i j z → Bef J I i j → OvS Y F N PY (lowV F N L m) (highV F N L m) i → OvS X F N PX (lowV F N L k) (highV F N L k) j → z = 35
theorem SoFar.start {F L X Y N PX PY : Int} {rows : List ByteArray} {k m : Nat} {D : Bool} : SoFar F L X Y N PX PY rows k m D 0 0 D true :=
  ⟨⟨fun _ i j z _ hb => by rcases hb with h | ⟨_, h⟩ <;> omega, fun _ => rfl⟩, ⟨fun h => ⟨h, fun i j z _ hb => by rcases hb with h | ⟨_, h⟩ <;> omega⟩, fun h => h.1⟩⟩
theorem SoFar.row {F L X Y N PX PY : Int} {rows : List ByteArray} {k m : Nat} {D dk lt : Bool} {J I : Nat} (h : SoFar F L X Y N PX PY rows k m D J I dk lt) (hw : ∀ j z, AtB rows J j z → j < I) : SoFar F L X Y N PX PY rows k m D (J + 1) 0 dk lt := by
  have hb : ∀ i j z, AtB rows i j z → (Bef (J + 1) 0 i j ↔ Bef J I i j) := by
    intro i j z ha
    unfold Bef
    constructor
    · rintro (h1 | ⟨_, h1⟩)
      · by_cases e : i = J
        · subst e; exact .inr ⟨rfl, hw j z ha⟩
        · exact .inl (by omega)
      · omega
    · rintro (h1 | ⟨h1, _⟩) <;> exact .inl (by omega)
  refine ⟨h.lt.trans ⟨fun g i j z ha hbf => g i j z ha ((hb i j z ha).1 hbf), fun g i j z ha hbf => g i j z ha ((hb i j z ha).2 hbf)⟩, h.dk.trans ⟨fun g => ⟨g.1, fun i j z ha hbf => g.2 i j z ha ((hb i j z ha).1 hbf)⟩, fun g => ⟨g.1, fun i j z ha hbf => g.2 i j z ha ((hb i j z ha).2 hbf)⟩⟩⟩
theorem SoFar.skip {F L X Y N PX PY : Int} {rows : List ByteArray} {k m : Nat} {D dk lt : Bool} {J I : Nat} (h : SoFar F L X Y N PX PY rows k m D J I dk lt) (hno : ¬ (OvS Y F N PY (lowV F N L m) (highV F N L m) J ∧ OvS X F N PX (lowV F N L k) (highV F N L k) I)) : SoFar F L X Y N PX PY rows k m D J (I + 1) dk lt := by
  have hb : ∀ i j, OvS Y F N PY (lowV F N L m) (highV F N L m) i → OvS X F N PX (lowV F N L k) (highV F N L k) j → (Bef J (I + 1) i j ↔ Bef J I i j) := by
    intro i j o1 o2
    unfold Bef
    constructor
    · rintro (h1 | ⟨h1, h2⟩)
      · exact .inl h1
      · by_cases e : j = I
        · subst h1 e; exact absurd ⟨o1, o2⟩ hno
        · exact .inr ⟨h1, by omega⟩
    · rintro (h1 | ⟨h1, h2⟩)
      · exact .inl h1
      · exact .inr ⟨h1, by omega⟩
  exact ⟨h.lt.trans ⟨fun g i j z ha hbf o1 o2 => g i j z ha ((hb i j o1 o2).1 hbf) o1 o2, fun g i j z ha hbf o1 o2 => g i j z ha ((hb i j o1 o2).2 hbf) o1 o2⟩, h.dk.trans ⟨fun g => ⟨g.1, fun i j z ha hbf o1 o2 => g.2 i j z ha ((hb i j o1 o2).1 hbf) o1 o2⟩, fun g => ⟨g.1, fun i j z ha hbf o1 o2 => g.2 i j z ha ((hb i j o1 o2).2 hbf) o1 o2⟩⟩⟩
theorem atB_uniq {rows : List ByteArray} {i j : Nat} {z z' : Int} (h : AtB rows i j z) (h' : AtB rows i j z') : z = z' := by
  obtain ⟨r, hr, hz⟩ := h
  obtain ⟨r', hr', hz'⟩ := h'
  rw [hr] at hr'; cases hr'
  rw [hz] at hz'; exact Option.some.inj hz'
theorem bef_succ {J I i j : Nat} : Bef J (I + 1) i j ↔ Bef J I i j ∨ (i = J ∧ j = I) := by
  unfold Bef; omega
theorem SoFar.hide {F L X Y N PX PY : Int} {rows : List ByteArray} {k m : Nat} {D dk lt : Bool} {J I : Nat} (h : SoFar F L X Y N PX PY rows k m D J I dk lt) (ha : AtB rows J I 35) (o1 : OvS Y F N PY (lowV F N L m) (highV F N L m) J) (o2 : OvS X F N PX (lowV F N L k) (highV F N L k) I) : SoFar F L X Y N PX PY rows k m D J (I + 1) dk false := by
  refine ⟨⟨fun e => (by cases e), fun g => absurd rfl (g J I 35 ha (bef_succ.2 (.inr ⟨rfl, rfl⟩)) o1 o2)⟩, h.dk.trans ⟨fun g => ⟨g.1, fun i j z ha' hbf p1 p2 => ?_⟩, fun g => ⟨g.1, fun i j z ha' hbf p1 p2 => g.2 i j z ha' (bef_succ.2 (.inl hbf)) p1 p2⟩⟩⟩
  rcases bef_succ.1 hbf with hb | ⟨rfl, rfl⟩
  · exact g.2 i j z ha' hb p1 p2
  · exact atB_uniq ha' ha
theorem SoFar.pierced {F L X Y N PX PY : Int} {rows : List ByteArray} {k m : Nat} {D dk lt : Bool} {J I : Nat} {z0 : Int} (h : SoFar F L X Y N PX PY rows k m D J I dk lt) (ha : AtB rows J I z0) (hz : z0 ≠ 35) (o1 : OvS Y F N PY (lowV F N L m) (highV F N L m) J) (o2 : OvS X F N PX (lowV F N L k) (highV F N L k) I) : SoFar F L X Y N PX PY rows k m D J (I + 1) false lt := by
  refine ⟨h.lt.trans ⟨fun g i j z ha' hbf p1 p2 => ?_, fun g i j z ha' hbf p1 p2 => g i j z ha' (bef_succ.2 (.inl hbf)) p1 p2⟩, ⟨fun e => (by cases e), fun g => absurd (g.2 J I z0 ha (bef_succ.2 (.inr ⟨rfl, rfl⟩)) o1 o2) hz⟩⟩
  rcases bef_succ.1 hbf with hb | ⟨rfl, rfl⟩
  · exact g i j z ha' hb p1 p2
  · rw [atB_uniq ha' ha]; exact hz
/-- At the end the search has found the tone. -/
theorem SoFar.tone {F L X Y N PX PY : Int} {rows : List ByteArray} {k m : Nat} {dk lt : Bool} (h : SoFar F L X Y N PX PY rows k m (insideS X F N PX (lowV F N L k) (highV F N L k) (wdOf rows) && insideS Y F N PY (lowV F N L m) (highV F N L m) rows.length) rows.length 0 dk lt)
    (hF : 0 ≤ F) (hNF : N < F) (hN : 0 ≤ N) (hL : 0 ≤ L) (hw : ∀ r ∈ rows, r.size = wdOf rows) : cellS F L X Y N PX PY rows (wdOf rows) rows.length k m = if dk then 35 else if lt then 46 else 43 := by
  have hall : ∀ i j z, AtB rows i j z → Bef rows.length 0 i j := by
    rintro i j z ⟨r, hr, _⟩
    exact .inl (List.getElem?_eq_some_iff.1 hr).1
  have hd := cellS_dark (F := F) (L := L) (X := X) (Y := Y) (N := N) (PX := PX) (PY := PY) (rows := rows) (wd := wdOf rows) (k := k) (m := m) hF hNF hN hL hw
  have hl := cellS_light (F := F) (L := L) (X := X) (Y := Y) (N := N) (PX := PX) (PY := PY) (rows := rows) (wd := wdOf rows) (k := k) (m := m) hF hw
  cases dk
  · have hnd : ¬ cellS F L X Y N PX PY rows (wdOf rows) rows.length k m = 35 := by
      intro e
      obtain ⟨p1, p2, p3⟩ := hd.1 e
      have := h.dk.2 ⟨by rw [p1, p2]; rfl, fun i j z ha _ o1 o2 => p3 i j z ha o1 o2⟩
      cases this
    cases lt
    · have hnl : ¬ cellS F L X Y N PX PY rows (wdOf rows) rows.length k m = 46 := by
        intro e
        have := h.lt.2 (fun i j z ha _ o1 o2 => hl.1 e i j z ha o1 o2)
        cases this
      have h3 : cellS F L X Y N PX PY rows (wdOf rows) rows.length k m = 46 ∨ cellS F L X Y N PX PY rows (wdOf rows) rows.length k m = 35 ∨ cellS F L X Y N PX PY rows (wdOf rows) rows.length k m = 43 := toneS_3 ..
      rcases h3 with e | e | e
      · exact absurd e hnl
      · exact absurd e hnd
      · exact e
    · exact hl.2 fun i j z ha o1 o2 => h.lt.1 rfl i j z ha (hall i j z ha) o1 o2
  · obtain ⟨p1, p2⟩ := h.dk.1 rfl
    simp only [Bool.and_eq_true] at p1
    exact hd.2 ⟨p1.1, p1.2, fun i j z ha o1 o2 => p2 i j z ha (hall i j z ha) o1 o2⟩
end Go.Proofs.YtifddfchpknkbaaGreatDoor
