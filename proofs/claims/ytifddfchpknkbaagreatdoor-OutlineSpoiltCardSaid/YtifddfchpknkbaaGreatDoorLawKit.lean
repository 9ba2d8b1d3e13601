import Derived.Test.YtifddfchpknkbaaGreatDoorProg
import Derived.Test.YtifddfchpknkbaaGreatDoorK
import Derived.Shelf.LaysM
import Derived.Shelf.Vars
import Derived.KernelRfl
set_option linter.unusedVariables false
set_option linter.unusedSimpArgs false
set_option maxRecDepth 100000
namespace Go.Proofs.YtifddfchpknkbaaGreatDoor
open Go.ChangeShapes Go.WideShapes Go.ChangeAt Go.RowKit Go.Deep

theorem law_and {a b : Bool} (ha : a = true) (hb : b = true) : (a && b) = true := by rw [ha, hb]; rfl
theorem law_own : ownKnob Tryz.prog.godebug = none := by kernel_rfl
theorem law_laidOut : laidOutB Tryz.prog = true := by kernel_rfl
theorem law_maxLen {W : World} (h : W.ShapedOpen Tryz.prog) : ∃ m, W.cell? ⟨0, 0, none⟩ = some (.int .i64 m) := cell_of_shapedOpen_int h (t := 3) (zero := #[.int .i64 0]) (of_decide_eq_true (by kernel_rfl)) (by kernel_rfl) (by kernel_rfl) (by kernel_rfl) (by kernel_rfl) Tryz.underlying3
section
variable {H : Type} {enc : TypeId × Value → H} {w : World} {base : Nat} {spare : Nat → Bool} {held : Bool} {r : Reach} {b0 : Nat} {v : Value} {d : DataW H} {p : List MemPlace}
theorem law_stage (hv : Value.okWide Tryz.prog w r b0 23 v) (h : DataW.Trod enc Tryz.prog w base spare held 23 v d p) : ∃ W H' F L X Y : Int, v = .agg #[.int .i64 W, .int .i64 H', .int .i64 F, .int .i64 L, .int .i64 X, .int .i64 Y] := by
  obtain ⟨ns, hl, rfl⟩ := ints_in Tryz.underlying23 (by kernel_rfl) (by kernel_rfl) (t3 := 3) (fun i f hf => by
    match i, hf with
    | 0, hf => cases hf; rfl
    | 1, hf => cases hf; rfl
    | 2, hf => cases hf; rfl
    | 3, hf => cases hf; rfl
    | 4, hf => cases hf; rfl
    | 5, hf => cases hf; rfl
    | i + 6, hf => simp at hf) Tryz.underlying3 hv h
  have hl6 : ns.length = 6 := hl
  match ns, hl6 with
  | [a, b, c, d, e, f], _ => exact ⟨a, b, c, d, e, f, rfl⟩
theorem law_place (hv : Value.okWide Tryz.prog w r b0 28 v) (h : DataW.Trod enc Tryz.prog w base spare held 28 v d p) : ∃ N X Y : Int, v = .agg #[.int .i64 N, .int .i64 X, .int .i64 Y] := by
  obtain ⟨ns, hl, rfl⟩ := ints_in Tryz.underlying28 (by kernel_rfl) (by kernel_rfl) (t3 := 3) (fun i f hf => by
    match i, hf with
    | 0, hf => cases hf; rfl
    | 1, hf => cases hf; rfl
    | 2, hf => cases hf; rfl
    | i + 3, hf => simp at hf) Tryz.underlying3 hv h
  have hl6 : ns.length = 3 := hl
  match ns, hl6 with
  | [a, b, c], _ => exact ⟨a, b, c, rfl⟩
theorem law_figure (hv : Value.okWide Tryz.prog w r b0 26 v) (h : DataW.Trod enc Tryz.prog w base spare held 26 v d p) : ∃ c : Value, v = .agg #[c] ∧ RowIn w c :=
  figure_in Tryz.underlying26 (by kernel_rfl) (by kernel_rfl) rfl Tryz.underlying24 Tryz.underlying9 (by kernel_rfl) hv h
theorem law_num (hv : Value.okWide Tryz.prog w r b0 3 v) (h : DataW.Trod enc Tryz.prog w base spare held 3 v d p) : ∃ k : Int, v = .int .i64 k ∧ -9223372036854775808 ≤ k ∧ k ≤ 9223372036854775807 := by
  obtain ⟨k, rfl, rfl, rfl, wk⟩ := open_int Tryz.underlying3 hv h
  have := wk
  simp [Lit.wf, IntKind.min, IntKind.max, IntKind.signed, IntKind.bits] at this
  exact ⟨k, rfl, by omega, by omega⟩
end
end Go.Proofs.YtifddfchpknkbaaGreatDoor
