import Derived.Test.YtifddfchpknkbaaGreatDoorLawKit
set_option linter.unusedVariables false
set_option linter.unusedSimpArgs false
namespace Go.Proofs.YtifddfchpknkbaaGreatDoor
open Go.ChangeShapes
section
variable {H : Type} {enc : TypeId × Value → H} {P : Program} {w : World} {base : Nat} {spare : Nat → Bool} {held : Bool}
theorem law_six {s0 s1 s2 s3 s4 s5 : TypeId} {args : Array Value} {ds : List (DataW H)} {ps : List MemPlace} (h : DataW.TrodAll enc P w base spare held [s0, s1, s2, s3, s4, s5] args.toList ds ps) :
    ∃ v0 v1 v2 v3 v4 v5 d0 d1 d2 d3 d4 d5 p0 p1 p2 p3 p4 p5, args = #[v0, v1, v2, v3, v4, v5] ∧ ds = [d0, d1, d2, d3, d4, d5] ∧ DataW.Trod enc P w base spare held s0 v0 d0 p0 ∧ DataW.Trod enc P w base spare held s1 v1 d1 p1 ∧ DataW.Trod enc P w base spare held s2 v2 d2 p2 ∧ DataW.Trod enc P w base spare held s3 v3 d3 p3 ∧ DataW.Trod enc P w base spare held s4 v4 d4 p4 ∧ DataW.Trod enc P w base spare held s5 v5 d5 p5 := by
  obtain ⟨v0, r0, d0, e0, p0, q0, hargs, rfl, rfl, t0, h0⟩ := trodAll_cons h
  obtain ⟨v1, r1, d1, e1, p1, q1, rfl, rfl, rfl, t1, h1⟩ := trodAll_cons h0
  obtain ⟨v2, r2, d2, e2, p2, q2, rfl, rfl, rfl, t2, h2⟩ := trodAll_cons h1
  obtain ⟨v3, r3, d3, e3, p3, q3, rfl, rfl, rfl, t3, h3⟩ := trodAll_cons h2
  obtain ⟨v4, r4, d4, e4, p4, q4, rfl, rfl, rfl, t4, h4⟩ := trodAll_cons h3
  obtain ⟨v5, r5, d5, e5, p5, q5, rfl, rfl, rfl, t5, h5⟩ := trodAll_cons h4
  obtain ⟨rfl, rfl, rfl⟩ := trodAll_nil h5
  exact ⟨v0, v1, v2, v3, v4, v5, d0, d1, d2, d3, d4, d5, p0, p1, p2, p3, p4, p5, by cases args; simp_all, rfl, t0, t1, t2, t3, t4, t5⟩
end
end Go.Proofs.YtifddfchpknkbaaGreatDoor
