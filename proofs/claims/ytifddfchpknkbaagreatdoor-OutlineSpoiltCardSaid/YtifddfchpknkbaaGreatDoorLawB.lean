import Derived.Test.YtifddfchpknkbaaGreatDoorLawKit
import Derived.Test.YtifddfchpknkbaaGreatDoorJp
set_option linter.unusedVariables false
set_option linter.unusedSimpArgs false
set_option maxRecDepth 100000
namespace Go.Proofs.YtifddfchpknkbaaGreatDoor
open Go.ChangeShapes Go.WideShapes Go.ChangeAt Go.RowKit Go.Deep
section
variable {H : Type} {enc : TypeId × Value → H} {P : Program} {w : World} {base : Nat} {spare : Nat → Bool} {held : Bool}
theorem law_two {s0 s1 : TypeId} {args : Array Value} {ds : List (DataW H)} {ps : List MemPlace} (h : DataW.TrodAll enc P w base spare held [s0, s1] args.toList ds ps) :
    ∃ v0 v1 d0 d1 p0 p1, args = #[v0, v1] ∧ ds = [d0, d1] ∧ DataW.Trod enc P w base spare held s0 v0 d0 p0 ∧ DataW.Trod enc P w base spare held s1 v1 d1 p1 := by
  obtain ⟨v0, r0, d0, e0, p0, q0, hargs, rfl, rfl, t0, h0⟩ := trodAll_cons h
  obtain ⟨v1, r1, d1, e1, p1, q1, rfl, rfl, rfl, t1, h1⟩ := trodAll_cons h0
  obtain ⟨rfl, rfl, rfl⟩ := trodAll_nil h1
  exact ⟨v0, v1, d0, d1, p0, p1, by cases args; simp_all, rfl, t0, t1⟩
theorem law_four {s0 s1 s2 s3 : TypeId} {args : Array Value} {ds : List (DataW H)} {ps : List MemPlace} (h : DataW.TrodAll enc P w base spare held [s0, s1, s2, s3] args.toList ds ps) :
    ∃ v0 v1 v2 v3 d0 d1 d2 d3 p0 p1 p2 p3, args = #[v0, v1, v2, v3] ∧ ds = [d0, d1, d2, d3] ∧ DataW.Trod enc P w base spare held s0 v0 d0 p0 ∧ DataW.Trod enc P w base spare held s1 v1 d1 p1 ∧ DataW.Trod enc P w base spare held s2 v2 d2 p2 ∧ DataW.Trod enc P w base spare held s3 v3 d3 p3 := by
  obtain ⟨v0, r0, d0, e0, p0, q0, hargs, rfl, rfl, t0, h0⟩ := trodAll_cons h
  obtain ⟨v1, r1, d1, e1, p1, q1, rfl, rfl, rfl, t1, h1⟩ := trodAll_cons h0
  obtain ⟨v2, r2, d2, e2, p2, q2, rfl, rfl, rfl, t2, h2⟩ := trodAll_cons h1
  obtain ⟨v3, r3, d3, e3, p3, q3, rfl, rfl, rfl, t3, h3⟩ := trodAll_cons h2
  obtain ⟨rfl, rfl, rfl⟩ := trodAll_nil h3
  exact ⟨v0, v1, v2, v3, d0, d1, d2, d3, p0, p1, p2, p3, by cases args; simp_all, rfl, t0, t1, t2, t3⟩
theorem law_five {s0 s1 s2 s3 s4 : TypeId} {args : Array Value} {ds : List (DataW H)} {ps : List MemPlace} (h : DataW.TrodAll enc P w base spare held [s0, s1, s2, s3, s4] args.toList ds ps) :
    ∃ v0 v1 v2 v3 v4 d0 d1 d2 d3 d4 p0 p1 p2 p3 p4, args = #[v0, v1, v2, v3, v4] ∧ ds = [d0, d1, d2, d3, d4] ∧ DataW.Trod enc P w base spare held s0 v0 d0 p0 ∧ DataW.Trod enc P w base spare held s1 v1 d1 p1 ∧ DataW.Trod enc P w base spare held s2 v2 d2 p2 ∧ DataW.Trod enc P w base spare held s3 v3 d3 p3 ∧ DataW.Trod enc P w base spare held s4 v4 d4 p4 := by
  obtain ⟨v0, r0, d0, e0, p0, q0, hargs, rfl, rfl, t0, h0⟩ := trodAll_cons h
  obtain ⟨v1, r1, d1, e1, p1, q1, rfl, rfl, rfl, t1, h1⟩ := trodAll_cons h0
  obtain ⟨v2, r2, d2, e2, p2, q2, rfl, rfl, rfl, t2, h2⟩ := trodAll_cons h1
  obtain ⟨v3, r3, d3, e3, p3, q3, rfl, rfl, rfl, t3, h3⟩ := trodAll_cons h2
  obtain ⟨v4, r4, d4, e4, p4, q4, rfl, rfl, rfl, t4, h4⟩ := trodAll_cons h3
  obtain ⟨rfl, rfl, rfl⟩ := trodAll_nil h4
  exact ⟨v0, v1, v2, v3, v4, d0, d1, d2, d3, d4, p0, p1, p2, p3, p4, by cases args; simp_all, rfl, t0, t1, t2, t3, t4⟩
theorem law_seven {s0 s1 s2 s3 s4 s5 s6 : TypeId} {args : Array Value} {ds : List (DataW H)} {ps : List MemPlace} (h : DataW.TrodAll enc P w base spare held [s0, s1, s2, s3, s4, s5, s6] args.toList ds ps) :
    ∃ v0 v1 v2 v3 v4 v5 v6 d0 d1 d2 d3 d4 d5 d6 p0 p1 p2 p3 p4 p5 p6, args = #[v0, v1, v2, v3, v4, v5, v6] ∧ ds = [d0, d1, d2, d3, d4, d5, d6] ∧ DataW.Trod enc P w base spare held s0 v0 d0 p0 ∧ DataW.Trod enc P w base spare held s1 v1 d1 p1 ∧ DataW.Trod enc P w base spare held s2 v2 d2 p2 ∧ DataW.Trod enc P w base spare held s3 v3 d3 p3 ∧ DataW.Trod enc P w base spare held s4 v4 d4 p4 ∧ DataW.Trod enc P w base spare held s5 v5 d5 p5 ∧ DataW.Trod enc P w base spare held s6 v6 d6 p6 := by
  obtain ⟨v0, r0, d0, e0, p0, q0, hargs, rfl, rfl, t0, h0⟩ := trodAll_cons h
  obtain ⟨v1, r1, d1, e1, p1, q1, rfl, rfl, rfl, t1, h1⟩ := trodAll_cons h0
  obtain ⟨v2, r2, d2, e2, p2, q2, rfl, rfl, rfl, t2, h2⟩ := trodAll_cons h1
  obtain ⟨v3, r3, d3, e3, p3, q3, rfl, rfl, rfl, t3, h3⟩ := trodAll_cons h2
  obtain ⟨v4, r4, d4, e4, p4, q4, rfl, rfl, rfl, t4, h4⟩ := trodAll_cons h3
  obtain ⟨v5, r5, d5, e5, p5, q5, rfl, rfl, rfl, t5, h5⟩ := trodAll_cons h4
  obtain ⟨v6, r6, d6, e6, p6, q6, rfl, rfl, rfl, t6, h6⟩ := trodAll_cons h5
  obtain ⟨rfl, rfl, rfl⟩ := trodAll_nil h6
  exact ⟨v0, v1, v2, v3, v4, v5, v6, d0, d1, d2, d3, d4, d5, d6, p0, p1, p2, p3, p4, p5, p6, by cases args; simp_all, rfl, t0, t1, t2, t3, t4, t5, t6⟩
theorem law_eight {s0 s1 s2 s3 s4 s5 s6 s7 : TypeId} {args : Array Value} {ds : List (DataW H)} {ps : List MemPlace} (h : DataW.TrodAll enc P w base spare held [s0, s1, s2, s3, s4, s5, s6, s7] args.toList ds ps) :
    ∃ v0 v1 v2 v3 v4 v5 v6 v7 d0 d1 d2 d3 d4 d5 d6 d7 p0 p1 p2 p3 p4 p5 p6 p7, args = #[v0, v1, v2, v3, v4, v5, v6, v7] ∧ ds = [d0, d1, d2, d3, d4, d5, d6, d7] ∧ DataW.Trod enc P w base spare held s0 v0 d0 p0 ∧ DataW.Trod enc P w base spare held s1 v1 d1 p1 ∧ DataW.Trod enc P w base spare held s2 v2 d2 p2 ∧ DataW.Trod enc P w base spare held s3 v3 d3 p3 ∧ DataW.Trod enc P w base spare held s4 v4 d4 p4 ∧ DataW.Trod enc P w base spare held s5 v5 d5 p5 ∧ DataW.Trod enc P w base spare held s6 v6 d6 p6 ∧ DataW.Trod enc P w base spare held s7 v7 d7 p7 := by
  obtain ⟨v0, r0, d0, e0, p0, q0, hargs, rfl, rfl, t0, h0⟩ := trodAll_cons h
  obtain ⟨v1, r1, d1, e1, p1, q1, rfl, rfl, rfl, t1, h1⟩ := trodAll_cons h0
  obtain ⟨v2, r2, d2, e2, p2, q2, rfl, rfl, rfl, t2, h2⟩ := trodAll_cons h1
  obtain ⟨v3, r3, d3, e3, p3, q3, rfl, rfl, rfl, t3, h3⟩ := trodAll_cons h2
  obtain ⟨v4, r4, d4, e4, p4, q4, rfl, rfl, rfl, t4, h4⟩ := trodAll_cons h3
  obtain ⟨v5, r5, d5, e5, p5, q5, rfl, rfl, rfl, t5, h5⟩ := trodAll_cons h4
  obtain ⟨v6, r6, d6, e6, p6, q6, rfl, rfl, rfl, t6, h6⟩ := trodAll_cons h5
  obtain ⟨v7, r7, d7, e7, p7, q7, rfl, rfl, rfl, t7, h7⟩ := trodAll_cons h6
  obtain ⟨rfl, rfl, rfl⟩ := trodAll_nil h7
  exact ⟨v0, v1, v2, v3, v4, v5, v6, v7, d0, d1, d2, d3, d4, d5, d6, d7, p0, p1, p2, p3, p4, p5, p6, p7, by cases args; simp_all, rfl, t0, t1, t2, t3, t4, t5, t6, t7⟩
end
section
variable {H : Type} {enc : TypeId × Value → H} {w : World} {base : Nat} {spare : Nat → Bool} {held : Bool} {r : Reach} {b0 : Nat} {v : Value} {d : DataW H} {p : List MemPlace}
theorem law_all3 : AllInt enc Tryz.prog w base spare held 3 1 := allInt_int Tryz.underlying3 (by kernel_rfl)
theorem law_all69 : AllInt enc Tryz.prog w base spare held 69 2 := allInt_struct [1, 1] Tryz.underlying69 (by kernel_rfl) rfl (fun i f k hf hk => by
  match i, hf, hk with
  | 0, hf, hk => cases hf; cases hk; exact ⟨rfl, law_all3⟩
  | 1, hf, hk => cases hf; cases hk; exact ⟨rfl, law_all3⟩
  | i + 2, hf, hk => simp at hf)
theorem law_all28 : AllInt enc Tryz.prog w base spare held 28 3 := allInt_struct [1, 1, 1] Tryz.underlying28 (by kernel_rfl) rfl (fun i f k hf hk => by
  match i, hf, hk with
  | 0, hf, hk => cases hf; cases hk; exact ⟨rfl, law_all3⟩
  | 1, hf, hk => cases hf; cases hk; exact ⟨rfl, law_all3⟩
  | 2, hf, hk => cases hf; cases hk; exact ⟨rfl, law_all3⟩
  | i + 3, hf, hk => simp at hf)
theorem law_all71 : AllInt enc Tryz.prog w base spare held 71 5 := allInt_struct [2, 2, 1] Tryz.underlying71 (by kernel_rfl) rfl (fun i f k hf hk => by
  match i, hf, hk with
  | 0, hf, hk => cases hf; cases hk; exact ⟨rfl, law_all69⟩
  | 1, hf, hk => cases hf; cases hk; exact ⟨rfl, law_all69⟩
  | 2, hf, hk => cases hf; cases hk; exact ⟨rfl, law_all3⟩
  | i + 3, hf, hk => simp at hf)
theorem law_all86 : AllInt enc Tryz.prog w base spare held 86 4 := allInt_struct [1, 3] Tryz.underlying86 (by kernel_rfl) rfl (fun i f k hf hk => by
  match i, hf, hk with
  | 0, hf, hk => cases hf; cases hk; exact ⟨rfl, law_all3⟩
  | 1, hf, hk => cases hf; cases hk; exact ⟨rfl, law_all28⟩
  | i + 2, hf, hk => simp at hf)
theorem law_reach (hv : Value.okWide Tryz.prog w r b0 71 v) (h : DataW.Trod enc Tryz.prog w base spare held 71 v d p) : ∃ nl nh xl xh y : Int, v = .agg #[.int .i64 nl, .int .i64 nh, .int .i64 xl, .int .i64 xh, .int .i64 y] := by
  obtain ⟨ns, hl, rfl⟩ := agg_in Tryz.underlying71 law_all71 hv h
  match ns, hl with
  | [a, b, c, d, e], _ => exact ⟨a, b, c, d, e, rfl⟩
theorem law_reading (hv : Value.okWide Tryz.prog w r b0 86 v) (h : DataW.Trod enc Tryz.prog w base spare held 86 v d p) : ∃ f n x y : Int, v = .agg #[.int .i64 f, .int .i64 n, .int .i64 x, .int .i64 y] := by
  obtain ⟨ns, hl, rfl⟩ := agg_in Tryz.underlying86 law_all86 hv h
  match ns, hl with
  | [a, b, c, d], _ => exact ⟨a, b, c, d, rfl⟩
theorem law_figs (hv : Value.okWide Tryz.prog w r b0 51 v) (h : DataW.Trod enc Tryz.prog w base spare held 51 v d p) : FigsIn w v := by
  obtain ⟨a, n, c, rfl⟩ := okWide_slice Tryz.underlying51 hv
  obtain ⟨fuel, hf⟩ := h
  exact figs_in Tryz.underlying51 Tryz.underlying26 (by kernel_rfl) (by kernel_rfl) rfl Tryz.underlying24 Tryz.underlying9 (by kernel_rfl) (by simpa [Value.cells] using hf)
theorem law_strs (hv : Value.okWide Tryz.prog w r b0 24 v) (h : DataW.Trod enc Tryz.prog w base spare held 24 v d p) : RowIn w v := by
  obtain ⟨a, n, c, rfl⟩ := okWide_slice Tryz.underlying24 hv
  obtain ⟨fuel, hf⟩ := h
  exact open_strs_in Tryz.underlying24 Tryz.underlying9 (by kernel_rfl) (by simpa [Value.cells] using hf)
theorem law_places (hv : Value.okWide Tryz.prog w r b0 52 v) (h : DataW.Trod enc Tryz.prog w base spare held 52 v d p) : ∃ (PA : Option Addr) (n cap : Nat) (ps : List Pl), v = .slice PA n cap ∧ n ≤ cap ∧ cap ≤ maxLen ∧ Rd w w.heap.size 3 PA n (ps.flatMap plC) := by
  obtain ⟨a, n, c, rfl⟩ := okWide_slice Tryz.underlying52 hv
  obtain ⟨fuel, hf⟩ := h
  obtain ⟨PA, n', cap, gs, e, h1, h2, h3⟩ := slice_ints_in (by decide) Tryz.underlying52 law_all28 (by simpa [Value.cells] using hf)
  refine ⟨PA, n', cap, gs.map fun g => ⟨g 0, g 1, g 2⟩, e, h1, h2, ?_⟩
  have he : (gs.map fun g => (⟨g 0, g 1, g 2⟩ : Pl)).flatMap plC = gs.flatMap (rowC 3) := by
    rw [List.flatMap_map]
    rfl
  rw [he]; exact h3
theorem law_rows : ∀ gs : List (Nat → Int), (gs.map fun g => g 0).map (Value.int .i64) = gs.flatMap (rowC 1)
  | [] => rfl
  | g :: gs => by rw [List.map_cons, List.map_cons, List.flatMap_cons, law_rows gs]; rfl
theorem law_ints (hv : Value.okWide Tryz.prog w r b0 87 v) (h : DataW.Trod enc Tryz.prog w base spare held 87 v d p) : ∃ (CA : Option Addr) (n cap : Nat) (cs : List Int), v = .slice CA n cap ∧ n ≤ cap ∧ cap ≤ maxLen ∧ Rd w w.heap.size 1 CA n (cs.map (Value.int .i64)) := by
  obtain ⟨a, n, c, rfl⟩ := okWide_slice Tryz.underlying87 hv
  obtain ⟨fuel, hf⟩ := h
  obtain ⟨CA, n', cap, gs, e, h1, h2, h3⟩ := slice_ints_in (by decide) Tryz.underlying87 law_all3 (by simpa [Value.cells] using hf)
  refine ⟨CA, n', cap, gs.map fun g => g 0, e, h1, h2, ?_⟩
  have he : (gs.map fun g => g 0).map (Value.int .i64) = gs.flatMap (rowC 1) := law_rows gs
  rw [he]; exact h3
end
end Go.Proofs.YtifddfchpknkbaaGreatDoor
