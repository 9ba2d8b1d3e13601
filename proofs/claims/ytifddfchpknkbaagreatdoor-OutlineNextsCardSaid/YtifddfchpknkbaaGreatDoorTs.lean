import Derived.Test.YtifddfchpknkbaaGreatDoorTq
import Derived.Test.YtifddfchpknkbaaGreatDoorZ
set_option linter.unusedVariables false
set_option linter.unusedSimpArgs false
namespace Go.Proofs.YtifddfchpknkbaaGreatDoor
open Go.RowKit


theorem readB_nums {n : Nat} {nl nh xl xh y f pn px py : Int} (h : readB n nl nh xl xh y f pn px py = true) : (0 ≤ f ∧ f < n) ∧ (nl ≤ pn ∧ pn ≤ nh) ∧ (xl ≤ px ∧ px ≤ xh) ∧ py = y := by
  simp only [readB, Bool.and_eq_true, decide_eq_true_eq, beq_iff_eq] at h
  obtain ⟨a, b, c, d, e, f, g⟩ := h
  exact ⟨⟨a, b⟩, ⟨c, d⟩, ⟨e, f⟩, g⟩
theorem ask_take {W H F L X Y nl nh xl xh y : Int} {fs : List Fig} (h : askB W H F L X Y nl nh xl xh y fs = true) : askB W H F L X Y nl nh xl xh y (fs.take 1) = true ∧ (fs.take 1).length = 1 := by
  simp only [askB, Bool.and_eq_true] at h ⊢
  obtain ⟨h1, h2, h3⟩ := h
  obtain ⟨c1, c2⟩ := compB_nums h2
  have hl : (fs.take 1).length = 1 := by rw [List.length_take]; omega
  refine ⟨⟨h1, ?_, h3⟩, hl⟩
  simp only [compB, hl, Bool.and_eq_true, List.all_eq_true]
  exact ⟨by decide, fun f hf => c2 f (List.mem_of_mem_take hf)⟩
theorem askV_iff {b : Bool} : (askV (b && true) = 0 ∧ b = true) ∨ (askV (b && true) = 2 ∧ b = false) := by cases b <;> simp [askV]
theorem mist_cases {W H F L X Y nl nh xl xh y : Int} {fs : List Fig} (h : askB W H F L X Y nl nh xl xh y fs = true) :
    (mistR W H F L X Y nl nh xl xh y fs = #[.int .i64 0, .int .i64 0, .int .i64 5] ∧ ∀ a b : Nat, a < b → b < fs.length → ¬ Pair (shL W H F L X Y nl nh xl xh y fs) a b) ∨
    ∃ a b : Nat, a < b ∧ b < fs.length ∧ mistR W H F L X Y nl nh xl xh y fs = #[.int .i64 a, .int .i64 b, .int .i64 0] ∧ Pair (shL W H F L X Y nl nh xl xh y fs) a b ∧ ∀ a' b' : Nat, a' < b' → b' < fs.length → Pair (shL W H F L X Y nl nh xl xh y fs) a' b' → a < a' ∨ (a = a' ∧ b ≤ b') := by
  unfold mistR
  rw [if_pos h]
  rcases misF_spec (shL W H F L X Y nl nh xl xh y fs) fs.length with ⟨h1, h2⟩ | ⟨a, b, h1, h2, h3, h4, h5⟩
  · exact .inl ⟨by rw [h1]; rfl, h2⟩
  · exact .inr ⟨a, b, h1, h2, by rw [h3]; rfl, h4, h5⟩

theorem told_law (W H F L X Y nl nh xl xh y f1 n1 x1 y1 f2 n2 x2 y2 : Int) (A : Option Addr) (n cap : Nat) (fs : List Fig) (m : Int) (w : World) (hm : w.cell? ⟨0, 0, none⟩ = some (.int .i64 m)) (hcap : n ≤ cap) (hcm : cap ≤ maxLen) (hf : ∀ f ∈ fs, f.ok w w.heap.size) (hr : Rd w w.heap.size 1 A n (fs.map Fig.val)) :
    Calls Tryz.prog 15 #[.agg #[.int .i64 W, .int .i64 H, .int .i64 F, .int .i64 L, .int .i64 X, .int .i64 Y], .slice A n cap, .agg #[.int .i64 nl, .int .i64 nh, .int .i64 xl, .int .i64 xh, .int .i64 y], .agg #[.int .i64 f1, .int .i64 n1, .int .i64 x1, .int .i64 y1], .agg #[.int .i64 f2, .int .i64 n2, .int .i64 x2, .int .i64 y2]] w fun e w' => e = .returned (.bool true) ∧ Below w.heap.size w w' := by
  cases hfw : fewB fs
  · exact told_x1 W H F L X Y nl nh xl xh y f1 n1 x1 y1 f2 n2 x2 y2 A n cap fs m w hm hcap hcm hf hr hfw
  rcases askV_iff (b := askB W H F L X Y nl nh xl xh y fs) with ⟨hak, hask⟩ | ⟨hak, _⟩
  rotate_left
  · exact told_x2 W H F L X Y nl nh xl xh y f1 n1 x1 y1 f2 n2 x2 y2 A n cap fs m w hm hcap hcm hf hr hfw hak
  cases hr1 : readB n nl nh xl xh y f1 n1 x1 y1
  · exact told_x3 W H F L X Y nl nh xl xh y f1 n1 x1 y1 f2 n2 x2 y2 A n cap fs m w hm hcap hcm hf hr hfw hak hr1
  cases hr2 : readB n nl nh xl xh y f2 n2 x2 y2
  · exact told_x4 W H F L X Y nl nh xl xh y f1 n1 x1 y1 f2 n2 x2 y2 A n cap fs m w hm hcap hcm hf hr hfw hak hr1 hr2
  by_cases hlt : f1 < f2
  rotate_left
  · exact told_x5 W H F L X Y nl nh xl xh y f1 n1 x1 y1 f2 n2 x2 y2 A n cap fs m w hm hcap hcm hf hr hfw hak hr1 hr2 hlt
  obtain ⟨⟨p1, p2⟩, ⟨p3, p4⟩, ⟨p5, p6⟩, rfl⟩ := readB_nums hr1
  obtain ⟨⟨q1, q2⟩, ⟨q3, q4⟩, ⟨q5, q6⟩, rfl⟩ := readB_nums hr2
  obtain ⟨i1, rfl⟩ : ∃ k : Nat, f1 = k := ⟨f1.toNat, by omega⟩
  obtain ⟨i2, rfl⟩ : ∃ k : Nat, f2 = k := ⟨f2.toNat, by omega⟩
  have hlen := hr.len
  have g1 : i1 < fs.length := by omega
  have g2 : i2 < fs.length := by omega
  have hask3 := hask
  simp only [askB, Bool.and_eq_true] at hask3
  obtain ⟨⟨r1, r2⟩, ⟨r3, r4⟩, ⟨r5, r6⟩, _⟩ := reachB_nums hask3.2.2
  obtain ⟨⟨c1, c2⟩, _⟩ := compB_nums hask3.2.1
  have hst : stageB W H F L X Y = true := by
    have h := hask
    simp only [askB, Bool.and_eq_true] at h
    exact h.1
  have ⟨⟨s1, s2⟩, ⟨s3, s4⟩, ⟨s5, s6⟩, _⟩ := stageB_nums hst
  obtain ⟨k1, hk1, e1, v1, w1⟩ := view_of hask (t := ((i1 : Int), n1, x1)) (mem_fR.2 ⟨⟨by omega, by omega⟩, ⟨p3, p4⟩, p5, p6⟩)
  obtain ⟨k2, hk2, e2, v2, w2⟩ := view_of hask (t := ((i2 : Int), n2, x2)) (mem_fR.2 ⟨⟨by omega, by omega⟩, ⟨q3, q4⟩, q5, q6⟩)
  dsimp only at e1 e2 v1 v2 w1 w2
  obtain rfl : k1 = i1 := by omega
  obtain rfl : k2 = i2 := by omega
  have m1 := mem_shL (W := W) (H := H) (F := F) (L := L) (X := X) (Y := Y) (nl := nl) (nh := nh) (xl := xl) (xh := xh) (y := y2) (f := (k1 : Int)) (pn := n1) (px := x1) (fs := fs) (by omega) (by omega) p3 p4 p5 p6
  have m2 := mem_shL (W := W) (H := H) (F := F) (L := L) (X := X) (Y := Y) (nl := nl) (nh := nh) (xl := xl) (xh := xh) (y := y2) (f := (k2 : Int)) (pn := n2) (px := x2) (fs := fs) (by omega) (by omega) q3 q4 q5 q6
  unfold shOf at m1 m2
  dsimp only at m1 m2
  rw [v1] at m1
  rw [v2] at m2
  obtain ⟨⟨A1, mm1, cap1, rows1⟩, hg1⟩ : ∃ f, f = fs[k1] := ⟨_, rfl⟩
  obtain ⟨⟨A2, mm2, cap2, rows2⟩, hg2⟩ : ∃ f, f = fs[k2] := ⟨_, rfl⟩
  rw [← hg1] at m1 w1
  rw [← hg2] at m2 w2
  dsimp only at m1 m2 w1 w2
  have z1 := shS_size W H F L X Y n1 x1 y2 rows1
  have z2 := shS_size W H F L X Y n2 x2 y2 rows2
  have hag : agreeR (rowsOf (shS W H F L X Y n1 x1 y2 rows1) W.toNat H.toNat) (rowsOf (shS W H F L X Y n2 x2 y2 rows2) W.toNat H.toNat) = agreeB (shS W H F L X Y n1 x1 y2 rows1) (shS W H F L X Y n2 x2 y2 rows2) := agree_rows2 z1 z2
  have t1 : toldOk W H F L X Y nl nh xl xh y2 fs k1 = true := by simp only [toldOk, hask, inB, Bool.true_and, Bool.and_eq_true, decide_eq_true_eq]; omega
  have t2 : toldOk W H F L X Y nl nh xl xh y2 fs k2 = true := by simp only [toldOk, hask, inB, Bool.true_and, Bool.and_eq_true, decide_eq_true_eq]; omega
  obtain ⟨ha1, hl1⟩ := ask_take hask
  have t3 : toldOk W H F L X Y nl nh xl xh y2 (fs.take 1) 0 = true := by simp only [toldOk, ha1, hl1, inB, Bool.true_and, Bool.and_eq_true, decide_eq_true_eq]; omega
  have hno1 : ∀ a b : Nat, a < b → b < (fs.take 1).length → ¬ Pair (shL W H F L X Y nl nh xl xh y2 (fs.take 1)) a b := fun a b h1 h2 => by omega
  have hlr : ∀ (s : ByteArray), s.size = W.toNat * H.toNat → (rowsOf s W.toNat H.toNat).length ≤ 100000 ∧ ∀ r ∈ rowsOf s W.toNat H.toNat, r.size ≤ 100000 := fun s hs => ⟨by rw [rowsOf_len]; omega, fun r hr => by obtain ⟨i, hi, rfl⟩ := rowsOf_mem hr; rw [cut_size hs hi]; omega⟩
  have hM0 : mistR W H F L X Y nl nh xl xh y2 (fs.take 1) = #[.int .i64 0, .int .i64 0, .int .i64 5] := by
    rcases mist_cases ha1 with ⟨h, _⟩ | ⟨a, b, h1, h2, _⟩
    · exact h
    · omega
  have hL3 : (toldR W H F L X Y nl nh xl xh y2 (fs.take 1) 0) = spanL nl nh := by
    unfold toldR; rw [if_pos t3]
    exact told_none (m := (fs.take 1).length) (fun h hh => shL_f hh) hno1 0
  have hlen1 : ∀ g, (toldR W H F L X Y nl nh xl xh y2 fs g).length ≤ 100000 := fun g => by
    unfold toldR; split
    · exact Nat.le_trans (toldL_len _ _ _ _) (by omega)
    · simp
  have HX := mist_cases hask
  have key : ∃ a b0 me : Int, mistR W H F L X Y nl nh xl xh y2 fs = #[.int .i64 a, .int .i64 b0, .int .i64 me] ∧ ((me = 5 ∧ ((toldR W H F L X Y nl nh xl xh y2 fs k1).length : Int) = nh - nl + 1 ∧ ((toldR W H F L X Y nl nh xl xh y2 fs k2).length : Int) = nh - nl + 1 ∧ agreeB (shS W H F L X Y n1 x1 y2 rows1) (shS W H F L X Y n2 x2 y2 rows2) = false) ∨ (me = 0 ∧ 0 ≤ a ∧ a < b0 ∧ b0 < n ∧ (agreeB (shS W H F L X Y n1 x1 y2 rows1) (shS W H F L X Y n2 x2 y2 rows2) = false ∨ (agreeB (shS W H F L X Y n1 x1 y2 rows1) (shS W H F L X Y n2 x2 y2 rows2) = true ∧ (a < k1 ∨ (a = k1 ∧ b0 ≤ k2)) ∧ hasB (toldR W H F L X Y nl nh xl xh y2 fs k1) n1 = false ∧ hasB (toldR W H F L X Y nl nh xl xh y2 fs k2) n2 = false)))) := by
    unfold toldR
    rw [if_pos t1, if_pos t2]
    rcases HX with ⟨h, hno⟩ | ⟨a, b, h1, h2, h3, h4, h5⟩
    · refine ⟨0, 0, 5, h, .inl ⟨rfl, ?_, ?_, ?_⟩⟩
      · rw [told_none (m := fs.length) (fun h hh => shL_f hh) hno, spanL_len]; omega
      · rw [told_none (m := fs.length) (fun h hh => shL_f hh) hno, spanL_len]; omega
      · cases hq : agreeB (shS W H F L X Y n1 x1 y2 rows1) (shS W H F L X Y n2 x2 y2 rows2)
        · rfl
        · exact absurd ⟨_, m1, _, m2, rfl, rfl, hq⟩ (hno k1 k2 (by omega) (by omega))
    · refine ⟨a, b, 0, h3, .inr ⟨rfl, by omega, by omega, by omega, ?_⟩⟩
      cases hq : agreeB (shS W H F L X Y n1 x1 y2 rows1) (shS W H F L X Y n2 x2 y2 rows2)
      · exact .inl rfl
      · refine .inr ⟨rfl, ?_, ?_, ?_⟩
        · rcases h5 k1 k2 (by omega) (by omega) ⟨_, m1, _, m2, rfl, rfl, hq⟩ with h | h
          · exact .inl (by omega)
          · exact .inr (by omega)
        · exact told_not m1 m2 (by dsimp only; omega) hq
        · exact told_not m2 m1 (by dsimp only; omega) (by rw [agreeB_comm]; exact hq)
  obtain ⟨a, b0, me, hM, hF⟩ := key
  refine told_main W H F L X Y nl nh xl xh y2 n1 x1 y2 n2 x2 y2 k1 k2 A n cap fs m w hm hcap hcm hf hr A1 mm1 cap1 rows1 A2 mm2 cap2 rows2 a b0 me _ _ _ (rowsOf (shS W H F L X Y n1 x1 y2 rows1) W.toNat H.toNat) (rowsOf (shS W H F L X Y n2 x2 y2 rows2) W.toNat H.toNat) (hlen1 k1) (hlen1 k2) hfw hak hr1 hr2 (by omega) g1 g2 (Lib.hid hg1.symm) (Lib.hid hg2.symm) (by omega) (by omega) (by omega) (by omega)
    (Lib.hid hM) (Lib.hid (by unfold toldE; rw [if_pos t1])) (Lib.hid rfl) (Lib.hid (by unfold toldE; rw [if_pos t2])) (Lib.hid rfl)
    (Lib.hid (by unfold errV; rw [if_pos w1])) (Lib.hid (by unfold errV; rw [if_pos w2])) (Lib.hid (by unfold shadowRows; rw [if_pos w1])) (Lib.hid (by unfold shadowRows; rw [if_pos w2]))
    (Lib.hid hM0) (Lib.hid (by unfold toldE; rw [if_pos t3])) (Lib.hid rfl)
    (hlr _ z1).1 (Lib.hid (by rw [rowsOf_len, rowsOf_len]; omega)) (hlr _ z2).1 (hlr _ z1).2 (hlr _ z2).2 (Lib.hid (fun k h h2 => by rw [rowsOf_sz z1 h, rowsOf_sz z2 h2]; omega))
    (Lib.hid (whole_sh (by omega) (by omega))) (Lib.hid (whole_sh (by omega) (by omega))) (Lib.hid (by rw [hL3, spanL_len]; omega))
    (Lib.hid (by rw [hag]; exact hF))
end Go.Proofs.YtifddfchpknkbaaGreatDoor
