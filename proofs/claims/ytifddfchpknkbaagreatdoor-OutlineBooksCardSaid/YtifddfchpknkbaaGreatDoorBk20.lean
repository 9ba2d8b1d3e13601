import Derived.Test.YtifddfchpknkbaaGreatDoorProg
import Derived.Test.YtifddfchpknkbaaGreatDoorBk0
import Derived.Test.YtifddfchpknkbaaGreatDoorBk1
import Derived.Test.YtifddfchpknkbaaGreatDoorBk2
import Derived.Test.YtifddfchpknkbaaGreatDoorBk3
import Derived.Test.YtifddfchpknkbaaGreatDoorBk5
import Derived.Test.YtifddfchpknkbaaGreatDoorBk8
import Derived.Test.YtifddfchpknkbaaGreatDoorBk12
import Derived.Test.YtifddfchpknkbaaGreatDoorBk15
import Derived.Test.YtifddfchpknkbaaGreatDoorBk17
import Derived.Test.YtifddfchpknkbaaGreatDoorBk18
import Derived.Test.YtifddfchpknkbaaGreatDoorBk19
import Derived.ProofKit
import Derived.Carry
import Derived.HandedShaped
import Derived.Deep.Strs
import Derived.Deep.Fields
import Derived.OpenShut
import Derived.Deep.Slices
import Derived.Lib.LaidTab
import Derived.MakeChecks
set_option linter.unusedVariables false
set_option linter.unusedSimpArgs false
namespace Go.Proofs.YtifddfchpknkbaaGreatDoor
section
open Go.RowKit Go.Lib
theorem compB_rows {fs gs : List Fig} (h : gs.map Fig.rows = fs.map Fig.rows) : compB gs = compB fs := by
  have hl : gs.length = fs.length := by have := congrArg List.length h; simpa using this
  have ha : ∀ l : List Fig, (l.all fun f => figB f.rows) = (l.map Fig.rows).all figB := fun l => by rw [List.all_map]; rfl
  unfold compB
  rw [hl, ha, ha, h]
end
section
open Go.RowKit Go.Lib
/-- Figures of these rows, wherever they lie. -/
def figsOf (rl : List (List ByteArray)) : List Fig := rl.map fun rows => ⟨none, rows.length, rows.length, rows⟩
theorem figsOf_rows (rl : List (List ByteArray)) : (figsOf rl).map Fig.rows = rl := by
  unfold figsOf
  rw [List.map_map]
  exact List.map_id rl
section
variable (a0 a1 a2 a3 a4 a5 : Nat) (s : ByteArray) (rl : List (List ByteArray)) (S : Nat) (m : Int) (w : World) (hE : Env m w) (hs : s.size ≤ 400)
theorem rows_small (hs : s.size ≤ 400) (hT : TextOf s [a0, a1, a2, a3, a4, a5] rl S) : (∀ rows ∈ rl, ∀ r ∈ rows, r.size ≤ maxLen) ∧ rl.length ≤ maxLen := by
  obtain ⟨t1, t2, t3, t4, t5, t6, t7⟩ := text_shape s _ rl S (by omega) hT
  have hm : (1000 : Nat) ≤ maxLen := by decide
  refine ⟨fun rows hr r hrr => ?_, by omega⟩
  have h1 := (t7 (lineS wFigure rows) (List.mem_cons_of_mem _ (List.mem_map.2 ⟨rows, hr, rfl⟩))).1
  have h2 := cutB_size 32 (lineS wFigure rows)
  have h3 := lineOk_words wFigure rows (hT.2.2.1 rows hr).1 ⟨wFigure_ok.1, wFigure_ok.2.1⟩ (fun x hx => ⟨((hT.2.2.1 rows hr).2 x hx).1, ((hT.2.2.1 rows hr).2 x hx).2.1⟩) (by omega)
  have h4 : cutB 32 (lineS wFigure rows) = wFigure :: rows := by
    have h := h3.2.2.2.2.1
    rw [← h3.2.2.2.1] at h
    exact h
  rw [h4] at h2
  have := h2.2 r (by simp [hrr])
  omega
theorem Read_fit (hE : Env m w) (hs : s.size ≤ 400) (hT : TextOf s [a0, a1, a2, a3, a4, a5] rl S) (hg : (stageB a0 a1 a2 a3 a4 a5 && compB (figsOf rl)) = true) :
    Calls Tryz.prog 85 #[.string s] w fun e w' => ∃ (A : Option Addr) (c : Nat) (gs : List Fig), e = .returned (.tuple #[.agg #[.int .i64 a0, .int .i64 a1, .int .i64 a2, .int .i64 a3, .int .i64 a4, .int .i64 a5, .slice A rl.length c], .int .i64 0]) ∧ gs.map Fig.rows = rl ∧ (∀ f ∈ gs, f.ok w' w'.heap.size) ∧ Rd w' w'.heap.size 1 A rl.length (gs.map Fig.val) ∧ Below w.heap.size w w' := by
  obtain ⟨r1, r2⟩ := rows_small a0 a1 a2 a3 a4 a5 s rl S hs hT
  refine Read_ok a0 a1 a2 a3 a4 a5 s rl rl.length m w hE hs r1 r2 (fun wx hx => parse_text a0 a1 a2 a3 a4 a5 s rl S m wx hx hs hT) (fun gs hgs => ?_)
  rw [compB_rows (by rw [hgs, figsOf_rows] : gs.map Fig.rows = (figsOf rl).map Fig.rows)]
  exact hg
theorem Read_nofit (hE : Env m w) (hs : s.size ≤ 400) (hT : TextOf s [a0, a1, a2, a3, a4, a5] rl S) (hg : (stageB a0 a1 a2 a3 a4 a5 && compB (figsOf rl)) = false) :
    Calls Tryz.prog 85 #[.string s] w fun e w' => e = .returned (.tuple #[.agg #[.int .i64 0, .int .i64 0, .int .i64 0, .int .i64 0, .int .i64 0, .int .i64 0, .slice none 0 0], .int .i64 2]) ∧ Below w.heap.size w w' := by
  obtain ⟨r1, r2⟩ := rows_small a0 a1 a2 a3 a4 a5 s rl S hs hT
  refine Read_unfit a0 a1 a2 a3 a4 a5 s rl rl.length m w hE hs r1 r2 (fun wx hx => parse_text a0 a1 a2 a3 a4 a5 s rl S m wx hx hs hT) (fun gs hgs => ?_)
  rw [compB_rows (by rw [hgs, figsOf_rows] : gs.map Fig.rows = (figsOf rl).map Fig.rows)]
  exact hg
theorem Read_no (hE : Env m w) (hs : s.size ≤ 400) (hno : ¬ ∃ a rl S, TextOf s a rl S) : Calls Tryz.prog 85 #[.string s] w fun e w' => e = NONEB ∧ Below w.heap.size w w' :=
  Read_none s m w hE hs fun wx hx => parse_none s m wx hx hs hno
end
end
section
open Go.RowKit Go.Lib
set_option maxRecDepth 100000 in
set_option maxHeartbeats 1600000 in
theorem books_x1 (s : ByteArray) (m : Int) (w : World) (hE : Env m w) (hs : 500 < s.size) : Calls Tryz.prog 21 #[.string s] w fun e w' => e = .returned (.bool true) ∧ Below w.heap.size w w' := by
  have hB := Below.refl w.heap.size w
  have h1 : (500 : Int) < s.size := by omega
  go_enter Tryz.func21, Tryz.ntmps21
  go_wp2_with (go_at_call 24; refine (known_true m _ (known_at hE.1 hB)).mono ?_; rintro e w1 ⟨rfl, hb⟩; replace hB := hB.trans (hb.mono hB.size))
  go_ret
  exact ⟨rfl, hB⟩
set_option maxRecDepth 100000 in
set_option maxHeartbeats 3200000 in
/-- Longer than 400 bytes: whatever the specification's reading answers. -/
theorem books_x2 (s : ByteArray) (m : Int) (w : World) (hE : Env m w) (hs : ¬ 500 < s.size) (hs2 : 400 < s.size)
    (HRR : Hid (∀ wx : World, Calls Tryz.prog 88 #[.string s] wx fun e w' => ∃ (z0 z1 z2 z3 z4 z5 : Int) (ZA : Option Addr) (zn zc : Nat) (b : Bool), e = .returned (.tuple #[.agg #[.int .i64 z0, .int .i64 z1, .int .i64 z2, .int .i64 z3, .int .i64 z4, .int .i64 z5, .slice ZA zn zc], .bool b]) ∧ Below wx.heap.size wx w')) :
    Calls Tryz.prog 21 #[.string s] w fun e w' => e = .returned (.bool true) ∧ Below w.heap.size w w' := by
  have hB := Below.refl w.heap.size w
  have h1 : ¬ (500 : Int) < s.size := by omega
  have h2 : (400 : Int) < s.size := by omega
  have hrl := fun wx => Read_long s wx hs2
  have HRL := Lib.hid hrl; clear hrl
  go_enter Tryz.func21, Tryz.ntmps21
  go_upto_region 4 with (go_at_call 85; refine (HRL.out _).mono ?_; rintro e w1 ⟨rfl, hb⟩; replace hB := hB.trans (hb.mono hB.size); clear hb)
  rename World => W1
  have hX := Blk.new W1 121 #[.int .i64 0, .int .i64 0, .int .i64 0, .int .i64 0, .int .i64 0, .int .i64 0, .slice none 0 0]
  replace hB := hB.alloc hB.size (.cells #[.int .i64 0, .int .i64 0, .int .i64 0, .int .i64 0, .int .i64 0, .int .i64 0, .slice none 0 0] 121)
  obtain ⟨gX, hgX⟩ : ∃ g, g = W1.heap.size := ⟨_, rfl⟩
  rw [← hgX] at hX ⊢
  clear hgX
  generalize W1.alloc (.cells #[.int .i64 0, .int .i64 0, .int .i64 0, .int .i64 0, .int .i64 0, .int .i64 0, .slice none 0 0] 121) = W2 at *
  go_upto_region 5 with (go_at_call 88; refine (HRR.out _).mono ?_; rintro e w3 ⟨z0, z1, z2, z3, z4, z5, ZA, zn, zc, b, rfl, hb⟩; replace hX := hX.below hb hX.lt; replace hB := hB.trans (hb.mono hB.size); clear hb; replace hX := hX.alloc (.cells #[.int .i64 z0, .int .i64 z1, .int .i64 z2, .int .i64 z3, .int .i64 z4, .int .i64 z5, .slice ZA zn zc] 121); replace hB := hB.alloc hB.size (.cells #[.int .i64 z0, .int .i64 z1, .int .i64 z2, .int .i64 z3, .int .i64 z4, .int .i64 z5, .slice ZA zn zc] 121))
  have qX := fun i => Blk.cell hX i
  go_wp2_with (first
    | (go_at_call 87; refine (SameBooks_eq 0 0 0 0 0 0 none none 0 0 0 [] [] _ (Nat.zero_le _) (fun f h => by cases h) (fun f h => by cases h) rfl (Rd.nil ..) (Rd.nil ..)).mono ?_; rintro e w5 ⟨rfl, hb⟩; replace hB := hB.trans (hb.mono hB.size))
    | (go_at_call 24; refine (known_true m _ (known_at hE.1 hB)).mono ?_; rintro e w6 ⟨rfl, hb⟩; replace hB := hB.trans (hb.mono hB.size)))
  go_ret
  exact ⟨rfl, hB⟩
end
section
open Go.RowKit Go.Lib
set_option maxRecDepth 100000 in
set_option maxHeartbeats 3200000 in
/-- The text of nothing. -/
theorem books_x3 (s : ByteArray) (m : Int) (w : World) (hE : Env m w) (hs : s.size ≤ 400)
    (HRD : Hid (∀ wx : World, Env m wx → Calls Tryz.prog 85 #[.string s] wx fun e w' => e = .returned (.tuple #[.agg #[.int .i64 0, .int .i64 0, .int .i64 0, .int .i64 0, .int .i64 0, .int .i64 0, .slice none 0 0], .int .i64 4]) ∧ Below wx.heap.size wx w'))
    (HRR : Hid (∀ wx : World, Calls Tryz.prog 88 #[.string s] wx fun e w' => e = .returned (.tuple #[.agg #[.int .i64 0, .int .i64 0, .int .i64 0, .int .i64 0, .int .i64 0, .int .i64 0, .slice none 0 0], .bool false]) ∧ Below wx.heap.size wx w')) :
    Calls Tryz.prog 21 #[.string s] w fun e w' => e = .returned (.bool true) ∧ Below w.heap.size w w' := by
  have hB := Below.refl w.heap.size w
  have h1 : ¬ (500 : Int) < s.size := by omega
  have h2 : ¬ (400 : Int) < s.size := by omega
  go_enter Tryz.func21, Tryz.ntmps21
  go_upto_region 4 with (go_at_call 85; refine (HRD.out _ hE).mono ?_; rintro e w1 ⟨rfl, hb⟩; replace hB := hB.trans (hb.mono hB.size); clear hb)
  rename World => W1
  have hX := Blk.new W1 121 #[.int .i64 0, .int .i64 0, .int .i64 0, .int .i64 0, .int .i64 0, .int .i64 0, .slice none 0 0]
  replace hB := hB.alloc hB.size (.cells #[.int .i64 0, .int .i64 0, .int .i64 0, .int .i64 0, .int .i64 0, .int .i64 0, .slice none 0 0] 121)
  obtain ⟨gX, hgX⟩ : ∃ g, g = W1.heap.size := ⟨_, rfl⟩
  rw [← hgX] at hX ⊢
  clear hgX
  generalize W1.alloc (.cells #[.int .i64 0, .int .i64 0, .int .i64 0, .int .i64 0, .int .i64 0, .int .i64 0, .slice none 0 0] 121) = W2 at *
  go_upto_region 5 with (go_at_call 88; refine (HRR.out _).mono ?_; rintro e w3 ⟨rfl, hb⟩; replace hX := hX.below hb hX.lt; replace hB := hB.trans (hb.mono hB.size); clear hb; replace hX := hX.alloc (.cells #[.int .i64 0, .int .i64 0, .int .i64 0, .int .i64 0, .int .i64 0, .int .i64 0, .slice none 0 0] 121); replace hB := hB.alloc hB.size (.cells #[.int .i64 0, .int .i64 0, .int .i64 0, .int .i64 0, .int .i64 0, .int .i64 0, .slice none 0 0] 121))
  have qX := fun i => Blk.cell hX i
  go_wp2_with (first
    | (go_at_call 87; refine (SameBooks_eq 0 0 0 0 0 0 none none 0 0 0 [] [] _ (Nat.zero_le _) (fun f h => by cases h) (fun f h => by cases h) rfl (Rd.nil ..) (Rd.nil ..)).mono ?_; rintro e w5 ⟨rfl, hb⟩; replace hB := hB.trans (hb.mono hB.size))
    | (go_at_call 24; refine (known_true m _ (known_at hE.1 hB)).mono ?_; rintro e w6 ⟨rfl, hb⟩; replace hB := hB.trans (hb.mono hB.size)))
  go_ret
  exact ⟨rfl, hB⟩
set_option maxRecDepth 100000 in
set_option maxHeartbeats 3200000 in
/-- The text of a book that is not fit. -/
theorem books_x4 (a0 a1 a2 a3 a4 a5 n : Nat) (rl : List (List ByteArray)) (s : ByteArray) (m : Int) (w : World) (hE : Env m w) (hs : s.size ≤ 400) (hn : n ≤ maxLen)
    (HRD : Hid (∀ wx : World, Env m wx → Calls Tryz.prog 85 #[.string s] wx fun e w' => e = .returned (.tuple #[.agg #[.int .i64 0, .int .i64 0, .int .i64 0, .int .i64 0, .int .i64 0, .int .i64 0, .slice none 0 0], .int .i64 2]) ∧ Below wx.heap.size wx w'))
    (HRR : Hid (∀ wx : World, Calls Tryz.prog 88 #[.string s] wx fun e w' => ∃ (A : Option Addr) (c : Nat) (gs : List Fig), e = .returned (.tuple #[.agg #[.int .i64 a0, .int .i64 a1, .int .i64 a2, .int .i64 a3, .int .i64 a4, .int .i64 a5, .slice A n c], .bool true]) ∧ gs.map Fig.rows = rl ∧ (∀ f ∈ gs, f.ok w' w'.heap.size) ∧ Rd w' w'.heap.size 1 A n (gs.map Fig.val) ∧ Below wx.heap.size wx w')) (hfit : ∀ gs : List Fig, gs.map Fig.rows = rl → (stageB a0 a1 a2 a3 a4 a5 && compB gs) = false) :
    Calls Tryz.prog 21 #[.string s] w fun e w' => e = .returned (.bool true) ∧ Below w.heap.size w w' := by
  have hB := Below.refl w.heap.size w
  have h1 : ¬ (500 : Int) < s.size := by omega
  have h2 : ¬ (400 : Int) < s.size := by omega
  go_enter Tryz.func21, Tryz.ntmps21
  go_upto_region 4 with (go_at_call 85; refine (HRD.out _ hE).mono ?_; rintro e w1 ⟨rfl, hb⟩; replace hB := hB.trans (hb.mono hB.size); clear hb)
  rename World => W1
  have hX := Blk.new W1 121 #[.int .i64 0, .int .i64 0, .int .i64 0, .int .i64 0, .int .i64 0, .int .i64 0, .slice none 0 0]
  replace hB := hB.alloc hB.size (.cells #[.int .i64 0, .int .i64 0, .int .i64 0, .int .i64 0, .int .i64 0, .int .i64 0, .slice none 0 0] 121)
  obtain ⟨gX, hgX⟩ : ∃ g, g = W1.heap.size := ⟨_, rfl⟩
  rw [← hgX] at hX ⊢
  clear hgX
  generalize W1.alloc (.cells #[.int .i64 0, .int .i64 0, .int .i64 0, .int .i64 0, .int .i64 0, .int .i64 0, .slice none 0 0] 121) = W2 at *
  go_upto_region 5 with (go_at_call 88; refine (HRR.out _).mono ?_; rintro e w3 ⟨A2, c2, gs, rfl, hgs, hgo, hgr, hb⟩; replace hX := hX.below hb hX.lt; replace hB := hB.trans (hb.mono hB.size); clear hb)
  clear HRR
  rename World => W3
  have hY := Blk.new W3 121 #[.int .i64 a0, .int .i64 a1, .int .i64 a2, .int .i64 a3, .int .i64 a4, .int .i64 a5, .slice A2 n c2]
  have hby := (Below.refl W3.heap.size W3).alloc (Nat.le_refl _) (.cells #[.int .i64 a0, .int .i64 a1, .int .i64 a2, .int .i64 a3, .int .i64 a4, .int .i64 a5, .slice A2 n c2] 121)
  obtain ⟨gY, hgY⟩ : ∃ g, g = W3.heap.size := ⟨_, rfl⟩
  replace hgo : ∀ f ∈ gs, f.ok _ _ := fun f h => ((hgo f h).below hby).more hby.size
  replace hgr := rdB hgr hby
  replace hX := hX.below hby hX.lt
  replace hB := hB.trans (hby.mono hB.size)
  have hft := hfit gs hgs
  rw [← hgY] at hY ⊢
  clear hgY hby hfit hgs
  generalize W3.alloc (.cells #[.int .i64 a0, .int .i64 a1, .int .i64 a2, .int .i64 a3, .int .i64 a4, .int .i64 a5, .slice A2 n c2] 121) = W4 at *
  have qX := fun i => Blk.cell hX i
  have qY := fun i => Blk.cell hY i
  go_wp2_with (first
    | (go_at_call 84; refine (refBook_any a0 a1 a2 a3 a4 a5 A2 n c2 gs _ hn hgo hgr).mono ?_; rintro e w5 ⟨rfl, hb⟩; rw [hft]; replace hX := hX.below hb hX.lt; replace hB := hB.trans (hb.mono hB.size); clear qX qY hb; have qX := fun i => Blk.cell hX i)
    | (go_at_call 87; refine (SameBooks_eq 0 0 0 0 0 0 none none 0 0 0 [] [] _ (Nat.zero_le _) (fun f h => by cases h) (fun f h => by cases h) rfl (Rd.nil ..) (Rd.nil ..)).mono ?_; rintro e w5 ⟨rfl, hb⟩; replace hB := hB.trans (hb.mono hB.size))
    | (go_at_call 24; refine (known_true m _ (known_at hE.1 hB)).mono ?_; rintro e w6 ⟨rfl, hb⟩; replace hB := hB.trans (hb.mono hB.size)))
  go_ret
  exact ⟨rfl, hB⟩
set_option maxRecDepth 100000 in
set_option maxHeartbeats 6400000 in
/-- The text of a fit book. -/
theorem books_x5 (a0 a1 a2 a3 a4 a5 n : Nat) (rl : List (List ByteArray)) (s : ByteArray) (m : Int) (w : World) (hE : Env m w) (hs : s.size ≤ 400) (hn : n ≤ 1000)
    (HRD : Hid (∀ wx : World, Env m wx → Calls Tryz.prog 85 #[.string s] wx fun e w' => ∃ (A : Option Addr) (c : Nat) (gs : List Fig), e = .returned (.tuple #[.agg #[.int .i64 a0, .int .i64 a1, .int .i64 a2, .int .i64 a3, .int .i64 a4, .int .i64 a5, .slice A n c], .int .i64 0]) ∧ gs.map Fig.rows = rl ∧ (∀ f ∈ gs, f.ok w' w'.heap.size) ∧ Rd w' w'.heap.size 1 A n (gs.map Fig.val) ∧ Below wx.heap.size wx w'))
    (HRR : Hid (∀ wx : World, Calls Tryz.prog 88 #[.string s] wx fun e w' => ∃ (A : Option Addr) (c : Nat) (gs : List Fig), e = .returned (.tuple #[.agg #[.int .i64 a0, .int .i64 a1, .int .i64 a2, .int .i64 a3, .int .i64 a4, .int .i64 a5, .slice A n c], .bool true]) ∧ gs.map Fig.rows = rl ∧ (∀ f ∈ gs, f.ok w' w'.heap.size) ∧ Rd w' w'.heap.size 1 A n (gs.map Fig.val) ∧ Below wx.heap.size wx w')) (hfit : ∀ gs : List Fig, gs.map Fig.rows = rl → (stageB a0 a1 a2 a3 a4 a5 && compB gs) = true)
    (hgn : ∀ (w : World) (gs : List Fig), gs.map Fig.rows = rl → (∀ f ∈ gs, f.ok w w.heap.size) → ∀ f ∈ gs, f.n ≤ 100000)
    (HPR : Hid (∀ (wx : World) (A : Option Addr) (c : Nat) (gs : List Fig), Env m wx → gs.map Fig.rows = rl → (∀ f ∈ gs, f.ok wx wx.heap.size) → Rd wx wx.heap.size 1 A n (gs.map Fig.val) → Calls Tryz.prog 83 #[.agg #[.int .i64 a0, .int .i64 a1, .int .i64 a2, .int .i64 a3, .int .i64 a4, .int .i64 a5, .slice A n c]] wx fun e w' => e = .returned (.tuple #[.string s, .int .i64 0]) ∧ Below wx.heap.size wx w')) :
    Calls Tryz.prog 21 #[.string s] w fun e w' => e = .returned (.bool true) ∧ Below w.heap.size w w' := by
  have hnm : n ≤ maxLen := by unfold maxLen; omega
  have hB := Below.refl w.heap.size w
  have h1 : ¬ (500 : Int) < s.size := by omega
  have h2 : ¬ (400 : Int) < s.size := by omega
  go_enter Tryz.func21, Tryz.ntmps21
  go_upto_region 4 with (go_at_call 85; refine (HRD.out _ hE).mono ?_; rintro e w1 ⟨A1, c1, fs, rfl, hfs, hfo, hfr, hb⟩; replace hB := hB.trans (hb.mono hB.size); clear hb)
  rename World => W1
  have hX := Blk.new W1 121 #[.int .i64 a0, .int .i64 a1, .int .i64 a2, .int .i64 a3, .int .i64 a4, .int .i64 a5, .slice A1 n c1]
  clear HRD
  have hff := hgn W1 fs hfs hfo
  have hbx := (Below.refl W1.heap.size W1).alloc (Nat.le_refl _) (.cells #[.int .i64 a0, .int .i64 a1, .int .i64 a2, .int .i64 a3, .int .i64 a4, .int .i64 a5, .slice A1 n c1] 121)
  replace hfo : ∀ f ∈ fs, f.ok _ _ := fun f h => ((hfo f h).below hbx).more hbx.size
  replace hfr := rdB hfr hbx
  replace hB := hB.trans (hbx.mono hB.size)
  obtain ⟨gX, hgX⟩ : ∃ g, g = W1.heap.size := ⟨_, rfl⟩
  rw [← hgX] at hX ⊢
  clear hgX hbx
  generalize W1.alloc (.cells #[.int .i64 a0, .int .i64 a1, .int .i64 a2, .int .i64 a3, .int .i64 a4, .int .i64 a5, .slice A1 n c1] 121) = W2 at *
  go_upto_region 5 with (go_at_call 88; refine (HRR.out _).mono ?_; rintro e w3 ⟨A2, c2, gs, rfl, hgs, hgo, hgr, hb⟩; replace hX := hX.below hb hX.lt; (replace hfo : ∀ f ∈ fs, f.ok _ _ := fun f h => ((hfo f h).below hb).more hb.size); replace hfr := rdB hfr hb; replace hB := hB.trans (hb.mono hB.size); clear hb)
  clear HRR
  have hgf := hgn _ gs hgs hgo
  rename World => W3
  have hY := Blk.new W3 121 #[.int .i64 a0, .int .i64 a1, .int .i64 a2, .int .i64 a3, .int .i64 a4, .int .i64 a5, .slice A2 n c2]
  have hby := (Below.refl W3.heap.size W3).alloc (Nat.le_refl _) (.cells #[.int .i64 a0, .int .i64 a1, .int .i64 a2, .int .i64 a3, .int .i64 a4, .int .i64 a5, .slice A2 n c2] 121)
  obtain ⟨gY, hgY⟩ : ∃ g, g = W3.heap.size := ⟨_, rfl⟩
  replace hgo : ∀ f ∈ gs, f.ok _ _ := fun f h => ((hgo f h).below hby).more hby.size
  replace hgr := rdB hgr hby
  replace hX := hX.below hby hX.lt
  replace hB := hB.trans (hby.mono hB.size)
  replace hfo : ∀ f ∈ fs, f.ok _ _ := fun f h => ((hfo f h).below hby).more hby.size
  replace hfr := rdB hfr hby
  have hft := hfit gs hgs
  have hrwx : gs.map Fig.rows = fs.map Fig.rows := by rw [hgs, hfs]
  rw [← hgY] at hY ⊢
  clear hgY hby hfit hgn
  generalize W3.alloc (.cells #[.int .i64 a0, .int .i64 a1, .int .i64 a2, .int .i64 a3, .int .i64 a4, .int .i64 a5, .slice A2 n c2] 121) = W4 at *
  have qX := fun i => Blk.cell hX i
  have qY := fun i => Blk.cell hY i
  have HFS := Lib.hid hfs; have HRW := Lib.hid hrwx; clear hfs hrwx hgs
  go_wp2_with (first
    | (go_at_call 84; refine (refBook_any a0 a1 a2 a3 a4 a5 A2 n c2 gs _ hnm hgo hgr).mono ?_; rintro e w5 ⟨rfl, hb⟩; rw [hft]; replace hX := hX.below hb hX.lt; replace hY := hY.below hb hY.lt; (replace hfo : ∀ f ∈ fs, f.ok _ _ := fun f h => ((hfo f h).below hb).more hb.size); replace hfr := rdB hfr hb; (replace hgo : ∀ f ∈ gs, f.ok _ _ := fun f h => ((hgo f h).below hb).more hb.size); replace hgr := rdB hgr hb; replace hB := hB.trans (hb.mono hB.size); clear qX qY hb; have qX := fun i => Blk.cell hX i; have qY := fun i => Blk.cell hY i)
    | (go_at_call 83; refine (HPR.out _ A1 c1 fs (hE.below hB) HFS.out hfo hfr).mono ?_; rintro e w6 ⟨rfl, hb⟩; replace hX := hX.below hb hX.lt; replace hY := hY.below hb hY.lt; (replace hfo : ∀ f ∈ fs, f.ok _ _ := fun f h => ((hfo f h).below hb).more hb.size); replace hfr := rdB hfr hb; (replace hgo : ∀ f ∈ gs, f.ok _ _ := fun f h => ((hgo f h).below hb).more hb.size); replace hgr := rdB hgr hb; replace hB := hB.trans (hb.mono hB.size); clear qX qY hb; have qX := fun i => Blk.cell hX i; have qY := fun i => Blk.cell hY i)
    | (go_at_call 87; refine (SameBooks_eq a0 a1 a2 a3 a4 a5 A1 A2 n c1 c2 fs gs _ hn (fun f h => ⟨hfo f h, hff f h⟩) hgo HRW.out hfr hgr).mono ?_; rintro e w7 ⟨rfl, hb⟩; replace hB := hB.trans (hb.mono hB.size))
    | (go_at_call 24; refine (known_true m _ (known_at hE.1 hB)).mono ?_; rintro e w6 ⟨rfl, hb⟩; replace hB := hB.trans (hb.mono hB.size)))
  go_ret
  exact ⟨rfl, hB⟩
end
section
open Go.RowKit Go.Lib
theorem ref_unique {s : ByteArray} {a b : List Nat} {rl ql : List (List ByteArray)} (h : RefLines s a rl) (h' : RefLines s b ql) : b = a ∧ ql = rl := by
  obtain ⟨⟨r1, r2, l0, r3, r4⟩, r5, r6⟩ := h
  obtain ⟨⟨q1, q2, l1, q3, q4⟩, q5, q6⟩ := h'
  rw [r3] at q3
  cases q3
  refine ⟨dS_map_inj q2 r2 (by rw [← q4, r4]), ?_⟩
  have hl : ql.length = rl.length := by omega
  apply List.ext_getElem?
  intro j
  by_cases hj : j < rl.length
  · obtain ⟨l, f1, f2, _⟩ := r5 j rl[j] (List.getElem?_eq_getElem hj)
    obtain ⟨l', g1, g2, _⟩ := q5 j (ql[j]'(by omega)) (List.getElem?_eq_getElem _)
    rw [f1] at g1
    cases g1
    rw [List.getElem?_eq_getElem hj, List.getElem?_eq_getElem (by omega), ← f2, g2]
  · rw [List.getElem?_eq_none (by omega), List.getElem?_eq_none (by omega)]
/-- The specification's reading of a text of something. -/
theorem refRead_text {a0 a1 a2 a3 a4 a5 : Nat} {s : ByteArray} {rl : List (List ByteArray)} {S : Nat} (hs : s.size ≤ 400) (hT : TextOf s [a0, a1, a2, a3, a4, a5] rl S) (w : World) :
    Calls Tryz.prog 88 #[.string s] w fun e w' => ∃ (A : Option Addr) (c : Nat) (gs : List Fig), e = .returned (.tuple #[.agg #[.int .i64 a0, .int .i64 a1, .int .i64 a2, .int .i64 a3, .int .i64 a4, .int .i64 a5, .slice A rl.length c], .bool true]) ∧ gs.map Fig.rows = rl ∧ (∀ f ∈ gs, f.ok w' w'.heap.size) ∧ Rd w' w'.heap.size 1 A rl.length (gs.map Fig.val) ∧ Below w.heap.size w w' := by
  have hR := ref_textOf hs hT
  refine (refRead_any s w (by omega)).mono fun e w' ⟨h, hb⟩ => ?_
  rcases h with ⟨b0, b1, b2, b3, b4, b5, S', ql, A, c, gs, h1, h2, h3, h4, h5, h6, h7⟩ | ⟨hno, _⟩
  · obtain ⟨e1, rfl⟩ := ref_unique hR h1
    simp only [List.cons.injEq, and_true] at e1
    obtain ⟨rfl, rfl, rfl, rfl, rfl, rfl⟩ := e1
    exact ⟨A, c, gs, h4, h5, h6, h7, hb⟩
  · exact absurd hT.2.2.2.2 (hno _ _ hR S hT.2.2.2.1)
theorem refRead_none {s : ByteArray} (hs : s.size ≤ 400) (hno : ¬ ∃ a rl S, TextOf s a rl S) (w : World) :
    Calls Tryz.prog 88 #[.string s] w fun e w' => e = .returned (.tuple #[.agg #[.int .i64 0, .int .i64 0, .int .i64 0, .int .i64 0, .int .i64 0, .int .i64 0, .slice none 0 0], .bool false]) ∧ Below w.heap.size w w' := by
  refine (refRead_any s w (by omega)).mono fun e w' ⟨h, hb⟩ => ?_
  rcases h with ⟨b0, b1, b2, b3, b4, b5, S', ql, A, c, gs, h1, h2, h3, _⟩ | ⟨_, he⟩
  · exact absurd ⟨_, _, _, textOf_ref h1 h2 h3⟩ hno
  · exact ⟨he, hb⟩
theorem books_law (s : ByteArray) (m : Int) (w : World) (hE : Env m w) :
    Calls Tryz.prog 21 #[.string s] w fun e w' => e = .returned (.bool true) ∧ Below w.heap.size w w' := by
  by_cases h5 : 500 < s.size
  · exact books_x1 s m w hE h5
  by_cases h4 : 400 < s.size
  · refine books_x2 s m w hE h5 h4 (Lib.hid fun wx => (refRead_any s wx (by omega)).mono fun e w' ⟨h, hb⟩ => ?_)
    rcases h with ⟨b0, b1, b2, b3, b4, b5, S', ql, A, c, gs, _, _, _, he, _⟩ | ⟨_, he⟩
    · exact ⟨_, _, _, _, _, _, _, _, _, _, he, hb⟩
    · exact ⟨_, _, _, _, _, _, _, _, _, _, he, hb⟩
  have hs : s.size ≤ 400 := by omega
  by_cases hT : ∃ a rl S, TextOf s a rl S
  · obtain ⟨a, rl, S, hT⟩ := hT
    obtain ⟨a0, a1, a2, a3, a4, a5, rfl⟩ : ∃ a0 a1 a2 a3 a4 a5, a = [a0, a1, a2, a3, a4, a5] := by
      match a, hT.1 with
      | [a0, a1, a2, a3, a4, a5], _ => exact ⟨a0, a1, a2, a3, a4, a5, rfl⟩
    obtain ⟨r1, r2⟩ := rows_small a0 a1 a2 a3 a4 a5 s rl S hs hT
    have hcr : ∀ gs : List Fig, gs.map Fig.rows = rl → compB gs = compB (figsOf rl) := fun gs hgs => compB_rows (by rw [hgs, figsOf_rows])
    cases hg : (stageB a0 a1 a2 a3 a4 a5 && compB (figsOf rl))
    · exact books_x4 a0 a1 a2 a3 a4 a5 rl.length rl s m w hE hs r2 (Lib.hid fun wx hx => Read_nofit a0 a1 a2 a3 a4 a5 s rl S m wx hx hs hT hg) (Lib.hid fun wx => refRead_text hs hT wx) (fun gs hgs => by rw [hcr gs hgs]; exact hg)
    · have hg2 := hg
      rw [Bool.and_eq_true] at hg2
      obtain ⟨hn, ⟨hl1, hl6⟩, hls, hfl, hlines⟩ := lines_ok a0 a1 a2 a3 a4 a5 (figsOf rl) hg2.1 hg2.2
      have hfl2 : ∀ rows ∈ rl, (1 ≤ rows.length ∧ rows.length ≤ 50) ∧ ∀ r ∈ rows, r.size ≤ 1000 := fun rows hr => by
        have hm : (⟨none, rows.length, rows.length, rows⟩ : Fig) ∈ figsOf rl := List.mem_map.2 ⟨rows, hr, rfl⟩
        have h1 := hfl _ hm
        exact ⟨by have := h1.2.1; dsimp only at this; omega, fun r hr' => by have := h1.2.2 r hr'; omega⟩
      have hfn : (figsOf rl).length = rl.length := by unfold figsOf; rw [List.length_map]
      rw [hfn] at hl6
      have hns : ∀ f : Fig, ∀ wx : World, f.ok wx wx.heap.size → f.n = f.rows.length := fun f wx hf' => by have := hf'.2.2.2.len; omega
      have hmem : ∀ gs : List Fig, gs.map Fig.rows = rl → ∀ f ∈ gs, f.rows ∈ rl := fun gs hgs f hf => by rw [← hgs]; exact List.mem_map.2 ⟨f, hf, rfl⟩
      refine books_x5 a0 a1 a2 a3 a4 a5 rl.length rl s m w hE hs (by omega) (Lib.hid fun wx hx => Read_fit a0 a1 a2 a3 a4 a5 s rl S m wx hx hs hT hg) (Lib.hid fun wx => refRead_text hs hT wx) (fun gs hgs => by rw [hcr gs hgs]; exact hg) (fun wx gs hgs hok f hf => ?_) (Lib.hid fun wx A c gs hx hgs hok hrd => ?_)
      · rw [hns f wx (hok f hf)]
        have := (hfl2 f.rows (hmem gs hgs f hf)).1
        omega
      · have h := Print_good a0 a1 a2 a3 a4 a5 (fun a ha => by have := hn a ha; omega) A rl.length c gs S m wx hx (by omega) hok (fun f hf => ⟨(hfl2 f.rows (hmem gs hgs f hf)).1.1, by have := (hfl2 f.rows (hmem gs hgs f hf)).1; omega, fun r hr' => (hfl2 f.rows (hmem gs hgs f hf)).2 r hr'⟩) hrd (by rw [figL_rows hgs]; exact hT.2.2.2.1) (by rw [hcr gs hgs]; exact hg)
        rw [figL_rows hgs, ← hT.2.2.2.2] at h
        exact h
  · exact books_x3 s m w hE hs (Lib.hid fun wx hx => Read_no s m wx hx hs hT) (Lib.hid fun wx => refRead_none hs hT wx)
end
section
open Go.ChangeShapes Go.WideShapes Go.ChangeAt Go.RowKit Go.Deep
section
variable {H : Type} {enc : TypeId × Value → H} {P : Program} {w : World} {base : Nat} {spare : Nat → Bool} {held : Bool} {r : Reach} {b0 : Nat} {v : Value} {d : DataW H} {p : List MemPlace}
/-- All types can be read, and are rows of the table. -/
def RowsOk (P : Program) (ts : List TypeId) : Prop := ∀ t ∈ ts, P.readableRec t = true ∧ t < P.types.size
/-- What came in reads behind the call as before. -/
theorem below_all {W W' : World} (hl : laidOutB P = true) (hb : Below W.heap.size W W') : ∀ {ts : List TypeId} {vs : List Value} {ds : List (DataW H)} {ps : List MemPlace}, RowsOk P ts → DataW.TrodAll enc P W 0 (fun _ => true) true ts vs ds ps → (∀ x ∈ ps, x.block < W.heap.size) → DataW.TrodAll enc P W' 0 (fun b => decide (b < W.heap.size)) true ts vs ds ps
  | [], vs, ds, ps, _, h, _ => by
    obtain ⟨rfl, rfl, rfl⟩ := trodAll_nil h
    exact h
  | t :: ts, vs, ds, ps, ho, h, hlt => by
    obtain ⟨v, vs', d, ds', p, q, rfl, rfl, rfl, hd, hrest⟩ := trodAll_cons h
    have h1 := Below.trod hl (ho t (by simp)).1 (ho t (by simp)).2 hd hb (fun x hx => hlt x (List.mem_append.2 (.inl hx)))
    have h2 := below_all hl hb (ts := ts) (fun u hu => ho u (by simp [hu])) hrest (fun x hx => hlt x (List.mem_append.2 (.inr hx)))
    exact trodAll_cons_mk h1 h2
end
end
section
open Go.ChangeShapes Go.WideShapes Go.ChangeAt Go.RowKit Go.Deep Go.Lib
theorem laid_tail {P : Program} {W : World} {a : String × DataW Unit} {l : List (String × DataW Unit)} (h : laidMet P (a :: l) W) : laidMet P l W := by
  obtain ⟨n, d⟩ := a
  obtain ⟨ps, hl, hnd, hrows⟩ := h
  obtain ⟨g, t, cs, fuel, p, q, _, _, _, _, hr, rfl⟩ := hl
  exact ⟨q, hr, hnd.sublist (List.sublist_append_right _ _), fun b off hp => hrows b off (List.mem_append_right _ hp)⟩
/-- A law whose condition on the tables that are laid is used. -/
theorem law_lifted_laid {C : Checked} {f : FuncId} {fn : Func} {s : ChangeSpec} {laid : List (String × DataW Unit)} {tb : TypeId} {os : Os} (started : os.Started) {H : Type} {enc : TypeId × Value → H}
    (own : ownKnob C.prog.godebug = none) (noInit : C.prog.inits.idxOf? f = none) (hfn : C.prog.funcs[f]? = some fn) (hl : laidOutB C.prog = true) (hrows : RowsOk C.prog fn.params.toList)
    (hvars : s.vars = []) (hbool : C.prog.underlying tb = some .bool) (hres : fn.resultTypes = #[tb])
    (hspec : ∀ ds : List (DataW H), ds.length = fn.params.size → s.fn H ds = { results := [.lit (.bool true)], args := ds })
    (witness : ∃ (w : World) (tape : Tape) (i : Input), w.os = os ∧ (w.forCall tape i).Shaped C.prog ∧ i.vars = [] ∧ Input.okWide C.prog (w.forCall tape i) .any w.heap.size f i ∧
      ((s.pre enc C.prog fn [] false (w.forCall tape i).memory i.args ∧ laidMetH C.prog laid (w.forCall tape i).memory) ∧ sizedMet enc C.prog fn (OpenSpec.ofChange s) false (w.forCall tape i).memory i.args) ∧ ({} : Assume).holds C.prog (lone (Frame.enter C.prog f i.args .normal) [] (w.forCall tape i)))
    (contract : ∀ (W : World) (base : Nat) (args : Array Value) (ds : List (DataW H)) (p : List MemPlace), (∀ (j : Nat) t v, fn.params[j]? = some t → args[j]? = some v → Value.okWide C.prog W .any base t v) →
      DataW.TrodAll enc C.prog W 0 (fun _ => true) true fn.params.toList args.toList ds p → W.ShapedOpen C.prog → (∃ W0 : World, W0.heap = W.heap ∧ laidMetH C.prog laid W0) → Calls C.prog f args W fun e W' => e = .returned (.bool true) ∧ Below W.heap.size W W') :
    ReturnsInHanded {} C os f .any (fun w args => (s.pre enc C.prog fn [] false w args ∧ laidMetH C.prog laid w) ∧ sizedMet enc C.prog fn (OpenSpec.ofChange s) false w args) (s.post enc C.prog fn false true false false) := by
  refine returnsInHanded_of_calls own started noInit witness ?_
  intro w tape i _ hsh _ hok hpre _
  obtain ⟨_, _, _, fn', hfn', _, _, _, _, hval⟩ := hok
  obtain rfl : fn' = fn := Option.some.inj (hfn'.symm.trans hfn)
  obtain ⟨⟨⟨ds, gs, before, hw, _⟩, hlaid⟩, _⟩ := hpre
  have hw' := DataW.Whole.of_heap (w' := w.forCall tape i) (by rfl) hw
  have hW := hw'
  obtain ⟨p, q, hA, hV, hbef, _, _⟩ := hw'
  rw [hvars] at hV
  obtain ⟨rfl, rfl⟩ := trodVars_none hV
  refine (contract (w.forCall tape i) w.heap.size i.args ds p hval hA hsh ⟨(w.forCall tape i).memory, rfl, hlaid⟩).mono fun e W' ⟨he, hb⟩ => ?_
  subst he
  have hlt : ∀ x ∈ p, x.block < (w.forCall tape i).heap.size := fun x hx => hW.lt x (by rw [hbef]; simp [hx])
  have hlen : ds.length = fn'.params.size := by
    have : ∀ {ts : List TypeId} {vs : List Value} {xs : List (DataW H)} {ps : List MemPlace}, DataW.TrodAll enc C.prog (w.forCall tape i) 0 (fun _ => true) true ts vs xs ps → xs.length = ts.length := by
      intro ts
      induction ts with
      | nil => intro vs xs ps h; obtain ⟨rfl, rfl, rfl⟩ := trodAll_nil h; rfl
      | cons t ts ih => intro vs xs ps h; obtain ⟨v, vs', d, ds', p, q, rfl, rfl, rfl, hd, hrest⟩ := trodAll_cons h; simp [ih hrest]
    simpa using this hA
  have hsp := hspec ds hlen
  refine ChangeSpec.post_blind (v := .bool true) ⟨ds, [], before, [], p, [], hW, ?_, ?_, ?_, hb.frame _, fun h => by cases h⟩
  · rw [List.append_nil, hsp, hres]; exact trodAll_mk1 (shut_bool hbool _)
  · rw [List.append_nil, hsp]; exact below_all hl hb hrows hA hlt
  · rw [List.append_nil, hsp, hvars]; rfl
theorem tabIs_heap {P : Program} {W W0 : World} {name : String} {k : IntKind} {zs : List Int} (h : TabIs P W0 name k zs) (he : W0.heap = W.heap) : TabIs P W name k zs := by
  unfold TabIs World.var? at h ⊢
  rw [← he]; exact h
section
variable {H : Type} {enc : TypeId × Value → H} {P : Program} {w : World} {base : Nat} {spare : Nat → Bool} {held : Bool} {r : Reach} {b0 : Nat} {v : Value} {d : DataW H} {p : List MemPlace}
end
end
end Go.Proofs.YtifddfchpknkbaaGreatDoor
