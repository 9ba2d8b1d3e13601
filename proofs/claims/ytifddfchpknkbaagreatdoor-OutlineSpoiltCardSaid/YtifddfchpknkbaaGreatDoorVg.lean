import Derived.Test.YtifddfchpknkbaaGreatDoorVf
set_option linter.unusedVariables false
set_option linter.unusedSimpArgs false
namespace Go.Proofs.YtifddfchpknkbaaGreatDoor
open Go.RowKit Go.Lib

theorem compB_rows {fs gs : List Fig} (h : gs.map Fig.rows = fs.map Fig.rows) : compB gs = compB fs := by
  have hl : gs.length = fs.length := by have := congrArg List.length h; simpa using this
  have ha : ∀ l : List Fig, (l.all fun f => figB f.rows) = (l.map Fig.rows).all figB := fun l => by rw [List.all_map]; rfl
  unfold compB
  rw [hl, ha, ha, h]
theorem sum_nat {L : List ByteArray} (h7 : L.length ≤ 7) (hL : ∀ l ∈ L, l.size ≤ 49) : ∃ s : Nat, sumA L 0 0 = s := by
  have h := sumA_ok L 0 0 (Int.le_refl _) (by omega) (fun r hr => Nat.le_trans (hL r hr) (by omega)) (Int.le_refl _) (by omega)
  exact ⟨(sumA L 0 0).toNat, (Int.toNat_of_nonneg h).symm⟩
/-- What is read of the text of a good book is the book. -/
theorem Read_text (a0 a1 a2 a3 a4 a5 : Nat) (fs : List Fig) (s : Nat) (m : Int) (hst : stageB a0 a1 a2 a3 a4 a5 = true) (hcb : compB fs = true) (hsum : sumA (linesL [a0, a1, a2, a3, a4, a5] fs) 0 0 = s) (w : World) (hE : Env m w) :
    Calls Tryz.prog 85 #[.string (textS (linesL [a0, a1, a2, a3, a4, a5] fs) s)] w fun e w' => ∃ (A : Option Addr) (c : Nat) (gs : List Fig), e = .returned (.tuple #[.agg #[.int .i64 a0, .int .i64 a1, .int .i64 a2, .int .i64 a3, .int .i64 a4, .int .i64 a5, .slice A fs.length c], .int .i64 0]) ∧ gs.map Fig.rows = fs.map Fig.rows ∧ (∀ f ∈ gs, f.ok w' w'.heap.size) ∧ Rd w' w'.heap.size 1 A fs.length (gs.map Fig.val) ∧ Below w.heap.size w w' := by
  obtain ⟨hn, ⟨hl1, hl6⟩, hls, hfl, hlines⟩ := lines_ok a0 a1 a2 a3 a4 a5 fs hst hcb
  have hLl : (linesL [a0, a1, a2, a3, a4, a5] fs).length = fs.length + 1 := by unfold linesL; rw [List.length_cons, List.length_map]
  obtain ⟨t1, t2, t3, t4, t5⟩ := text_ok (linesL [a0, a1, a2, a3, a4, a5] fs) s (by omega) (by omega) hlines
  rw [hLl] at t4 t5
  refine Read_ok a0 a1 a2 a3 a4 a5 _ (fs.map Fig.rows) fs.length m w hE t1 (fun rows hr r hr2 => ?_) (by unfold maxLen; omega) (fun wx hx => parse_ok a0 a1 a2 a3 a4 a5 hn _ (fs.map Fig.rows) (linesL [a0, a1, a2, a3, a4, a5] fs) s fs.length m wx hx (by omega) t2 t3 t4 t5 ?_ (by rw [List.length_map]) (by omega) hls (fun rows hr => ?_) (fun l hl => by have := (hlines l hl).2; omega) hsum) (fun gs hgs => by rw [hst, compB_rows hgs, hcb]; rfl)
  · obtain ⟨f, hf, rfl⟩ := List.mem_map.1 hr
    have := (hfl f hf).2.2 r hr2
    unfold maxLen; omega
  · unfold linesL
    rw [List.map_map]
    rfl
  · obtain ⟨f, hf, rfl⟩ := List.mem_map.1 hr
    exact (hfl f hf).1
theorem prints_law (W H F L X Y : Int) (A : Option Addr) (n cap : Nat) (fs : List Fig) (m : Int) (w : World) (hE : Env m w) (hcap : n ≤ cap) (hcm : cap ≤ maxLen) (hf : ∀ f ∈ fs, f.ok w w.heap.size) (hr : Rd w w.heap.size 1 A n (fs.map Fig.val)) :
    Calls Tryz.prog 20 #[.agg #[.int .i64 W, .int .i64 H, .int .i64 F, .int .i64 L, .int .i64 X, .int .i64 Y, .slice A n cap]] w fun e w' => e = .returned (.bool true) ∧ Below w.heap.size w w' := by
  cases hfw : fewB fs
  · exact prints_x1 W H F L X Y A n cap fs m w hE hcap hcm hf hr hfw
  cases hg : (stageB W H F L X Y && compB fs)
  · exact prints_x2 W H F L X Y A n cap fs m w hE hcap hcm hf hr hfw hg
  have hlen := hr.len
  have hg2 := hg
  rw [Bool.and_eq_true] at hg2
  obtain ⟨hst, hcb⟩ := hg2
  have hst2 := hst
  simp only [stageB, Bool.and_eq_true, inB_two] at hst2
  obtain ⟨a0, rfl⟩ : ∃ k : Nat, W = k := ⟨W.toNat, by omega⟩
  obtain ⟨a1, rfl⟩ : ∃ k : Nat, H = k := ⟨H.toNat, by omega⟩
  obtain ⟨a2, rfl⟩ : ∃ k : Nat, F = k := ⟨F.toNat, by omega⟩
  obtain ⟨a3, rfl⟩ : ∃ k : Nat, L = k := ⟨L.toNat, by omega⟩
  obtain ⟨a4, rfl⟩ : ∃ k : Nat, X = k := ⟨X.toNat, by omega⟩
  obtain ⟨a5, rfl⟩ : ∃ k : Nat, Y = k := ⟨Y.toNat, by omega⟩
  obtain ⟨hn, ⟨hl1, hl6⟩, hls, hfl, hlines⟩ := lines_ok a0 a1 a2 a3 a4 a5 fs hst hcb
  have hLl : (linesL [a0, a1, a2, a3, a4, a5] fs).length = fs.length + 1 := by unfold linesL; rw [List.length_cons, List.length_map]
  obtain ⟨s, hsum⟩ := sum_nat (L := linesL [a0, a1, a2, a3, a4, a5] fs) (by omega) (fun l hl => (hlines l hl).2)
  have hbr := bookR_lines a0 a1 a2 a3 a4 a5 fs (fun f hf' => (hfl f hf').2.1.1)
  have hLne : linesL [a0, a1, a2, a3, a4, a5] fs ≠ [] := by unfold linesL; simp
  have hdz : ∀ x ∈ [(a0 : Int), a1, a2, a3, a4, a5], ∃ k : Nat, x = k ∧ k < 100 := fun x hx => by
    simp only [List.mem_cons, List.not_mem_nil, or_false] at hx
    rcases hx with rfl | rfl | rfl | rfl | rfl | rfl
    all_goals exact ⟨_, rfl, hn _ (by simp)⟩
  have hdz2 : ∀ k : Nat, DZ (k : Int) = dS k := fun k => by unfold DZ; rw [Int.toNat_natCast]
  have hns : ∀ f : Fig, ∀ wx : World, f.ok wx wx.heap.size → f.n = f.rows.length := fun f wx hf' => by have := hf'.2.2.2.len; omega
  refine prints_main a0 a1 a2 a3 a4 a5 A n cap fs m w (textS (linesL [a0, a1, a2, a3, a4, a5] fs) s) (fs.map Fig.rows) hE (by omega) hf (fun f hf' => by have := hns f w (hf f hf'); have := (hfl f hf').2.1; omega) rfl hr hfw hg
    (Lib.hid fun wx h1 h2 h3 => Print_good a0 a1 a2 a3 a4 a5 (fun a ha => by have := hn a ha; omega) A n cap fs s m wx h1 (by omega) h2 (fun f hf' => ⟨(hfl f hf').2.1.1, by have := (hfl f hf').2.1; omega, fun r hr' => by have := (hfl f hf').2.2 r hr'; omega⟩) h3 hsum hg)
    (Lib.hid fun wx h2 h3 => ?_)
    (Lib.hid fun wx h1 => by have h := Read_text a0 a1 a2 a3 a4 a5 fs s m hst hcb hsum wx h1; rw [hlen] at h; exact h)
    (fun wx gs hgs hgo f hf' => by
      have h1 := hns f wx (hgo f hf')
      have h2 : f.rows ∈ fs.map Fig.rows := by rw [← hgs]; exact List.mem_map.2 ⟨f, hf', rfl⟩
      obtain ⟨f2, hf2, e⟩ := List.mem_map.1 h2
      have := (hfl f2 hf2).2.1
      rw [e] at this
      omega)
  have key := refPrint_any DZ a0 a1 a2 a3 a4 a5 A n cap fs wx (by omega) h2 (fun f hf' => ⟨by have := (hfl f hf').2.1; omega, fun r hr' => by have := (hfl f hf').2.2 r hr'; omega⟩) h3
    (fun x hx => by obtain ⟨k, rfl, hk⟩ := hdz x hx; rw [hdz2]; exact Nat.le_trans (word_dS k hk).2 (by omega))
    (fun x hx w' => by obtain ⟨k, rfl, hk⟩ := hdz x hx; rw [hdz2]; exact decimal_any k w' hk)
    (by rw [hbr, hsum]; omega)
  rw [hbr, hsum, refText _ s hLne] at key
  exact key
end Go.Proofs.YtifddfchpknkbaaGreatDoor
