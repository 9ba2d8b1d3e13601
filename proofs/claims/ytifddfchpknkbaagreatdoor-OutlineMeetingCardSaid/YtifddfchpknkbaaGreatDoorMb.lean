import Derived.Test.YtifddfchpknkbaaGreatDoorJp
import Derived.Test.YtifddfchpknkbaaGreatDoorHg
import Derived.Test.YtifddfchpknkbaaGreatDoorFm
import Derived.Test.YtifddfchpknkbaaGreatDoorAl
set_option linter.unusedVariables false
set_option linter.unusedSimpArgs false
namespace Go.Proofs.YtifddfchpknkbaaGreatDoor
open Go.RowKit

/-! Two shadows, counted. -/
theorem cntL_eq (l : List Int) (z : Int) : cntL l [z] = l.countP (fun b => b == z) := by
  unfold cntL
  rw [List.countP_eq_length_filter]
  congr 2
  funext b
  by_cases h : b = z
  · subst h; simp [idxOf]
  · have : (b == z) = false := by simpa using h
    simp [idxOf, this]
def triP (p : Int × Int) : Prop := tri p.1 ∧ tri p.2
theorem two_counts : ∀ (l : List (Int × Int)), (∀ p ∈ l, triP p) →
    ((l.map fun p => upC p.1 p.2).countP (fun b => b == 35) + l.countP bothD = (l.map Prod.fst).countP (fun b => b == 35) + (l.map Prod.snd).countP (fun b => b == 35))
    ∧ (l.any bothG = false → (l.map fun p => upC p.1 p.2).countP (fun b => b == 43) = (l.map Prod.fst).countP (fun b => b == 43) + (l.map Prod.snd).countP (fun b => b == 43))
    ∧ l.countP bothD ≤ (l.map Prod.fst).countP (fun b => b == 35) ∧ l.countP bothD ≤ (l.map Prod.snd).countP (fun b => b == 35)
  | [], _ => by simp
  | (a, b) :: l, h => by
    obtain ⟨h1, h2, h3, h4⟩ := two_counts l (fun p hp => h p (by simp [hp]))
    obtain ⟨ha, hb⟩ := h (a, b) (by simp)
    simp only [List.map_cons, List.countP_cons, List.any_cons]
    generalize (l.map fun p => upC p.1 p.2).countP (fun b => b == 35) = x1 at *
    generalize (l.map fun p => upC p.1 p.2).countP (fun b => b == 43) = x2 at *
    generalize (l.map Prod.fst).countP (fun b => b == 35) = x3 at *
    generalize (l.map Prod.fst).countP (fun b => b == 43) = x4 at *
    generalize (l.map Prod.snd).countP (fun b => b == 35) = x5 at *
    generalize (l.map Prod.snd).countP (fun b => b == 43) = x6 at *
    generalize l.countP bothD = x7 at *
    generalize l.any bothG = x8 at *
    clear h
    rcases ha with ha | ha | ha <;> rcases hb with hb | hb | hb <;> simp only at ha hb <;> subst ha <;> subst hb <;> simp [upC, bothD, bothG] <;> (first | omega | (refine ⟨by omega, fun hg => ?_, by omega, by omega⟩; have := h2 hg; omega) | (refine ⟨fun hg => ?_, by omega, by omega⟩; have := h2 hg; omega) | (refine ⟨by omega, fun hg => ?_⟩; have := h2 hg; omega) | (intro hg; have := h2 hg; omega) | (refine ⟨h1, h2, h3, h4⟩))
theorem any_bothD (l : List (Int × Int)) : l.any bothD = true ↔ 0 < l.countP bothD := by
  rw [List.countP_pos_iff, List.any_eq_true]
theorem meetV_comm (s t : ByteArray) : meetV s t = meetV t s := by
  have hz : (ltr t).zip (ltr s) = ((ltr s).zip (ltr t)).map Prod.swap := by
    generalize ltr s = a; generalize ltr t = b
    induction a generalizing b with
    | nil => simp
    | cons x a ih => cases b with
      | nil => rfl
      | cons y b => simp only [List.zip_cons_cons, List.map_cons, ih]; rfl
  unfold meetV
  rw [hz, List.any_map, List.any_map]
  have e1 : bothD ∘ Prod.swap = bothD := by funext p; simp [bothD, Bool.and_comm]
  have e2 : bothG ∘ Prod.swap = bothG := by funext p; simp [bothG, Bool.and_comm]
  rw [e1, e2]
theorem two_tri (l : List Int) : ∀ q, (∀ x ∈ l, tri x) → l.countP (fun b => b == 35) + l.countP (fun b => b == 43) ≤ q + l.length := by
  intro q h
  induction l with
  | nil => simp
  | cons a l ih =>
    have := ih (fun x hx => h x (by simp [hx]))
    simp only [List.countP_cons, List.length_cons]
    rcases h a (by simp) with h | h | h <;> subst h <;> simp <;> omega
/-- A figure and its own shadow. -/
theorem own_meet (l : List Int) (h : ∀ x ∈ l, tri x) : (0 < l.countP (fun b => b == 35) ∧ (l.zip l).any bothD = true) ∨ (l.countP (fun b => b == 35) = 0 ∧ 0 < l.countP (fun b => b == 43) ∧ (l.zip l).any bothD = false ∧ (l.zip l).any bothG = true) ∨ (l.countP (fun b => b == 35) = 0 ∧ l.countP (fun b => b == 43) = 0 ∧ (l.zip l).any bothD = false ∧ (l.zip l).any bothG = false) := by
  induction l with
  | nil => exact .inr (.inr ⟨rfl, rfl, rfl, rfl⟩)
  | cons a l ih =>
    have := ih (fun x hx => h x (by simp [hx]))
    simp only [List.countP_cons, List.zip_cons_cons, List.any_cons]
    generalize l.countP (fun b => b == 35) = x1 at *
    generalize l.countP (fun b => b == 43) = x2 at *
    generalize (l.zip l).any bothD = x3 at *
    generalize (l.zip l).any bothG = x4 at *
    clear ih
    rcases h a (by simp) with h | h | h <;> subst h <;> rcases this with ⟨p1, p2⟩ | ⟨p1, p2, p3, p4⟩ | ⟨p1, p2, p3, p4⟩ <;> (try subst p2) <;> (try subst p3) <;> (try subst p4) <;> simp [bothD, bothG] <;> (try omega)
theorem whole_str {W H : Nat} {s : ByteArray} (hsz : s.size = W * H) (h3 : ∀ z ∈ ltr s, tri z) : wholeB W H (rowsOf s W H) = true := by
  unfold wholeB sightB
  simp only [Bool.and_eq_true, decide_eq_true_eq, List.all_eq_true]
  refine ⟨⟨by rw [rowsOf_len], fun r hr => ?_⟩, ?_⟩
  · obtain ⟨i, hi, rfl⟩ := rowsOf_mem hr
    rw [sightRow_eq]
    simp only [Bool.and_eq_true, decide_eq_true_eq, List.all_eq_true]
    refine ⟨by rw [cut_size hsz hi], fun z hz => ?_⟩
    rcases h3 z (cut_mem hz) with h | h | h <;> rw [h] <;> decide
  · have : countR (rowsOf s W H) 63 = 0 := by
      unfold countR
      refine sum_nil_of _ fun x hx => ?_
      obtain ⟨r, hr, rfl⟩ := List.mem_map.1 hx
      obtain ⟨i, hi, rfl⟩ := rowsOf_mem hr
      refine Nat.eq_zero_of_not_pos fun hp => ?_
      have := of_cntL_pos hp
      rcases h3 _ (cut_mem this) with h | h | h <;> cases h
    rw [this]; rfl
theorem jS_tri (W H : Nat) (F L X Y : Int) (l : List (Fig × Pl)) : ∀ z ∈ ltr (jS W H F L X Y l), tri z := by
  intro z hz
  rw [jS, clothS_ltr W H _ (jcell_tri F L X Y l)] at hz
  obtain ⟨j, _, rfl⟩ := List.mem_map.1 hz
  exact jcell_tri ..
theorem upC_46 {a : Int} (h : tri a) : upC 46 a = a := by rcases h with h | h | h <;> subst h <;> rfl
theorem jcell_two (F L X Y : Int) (z1 z2 : Fig × Pl) (k q : Nat) : jcell F L X Y [z1, z2] k q = upC (cellFP F L X Y z1 k q) (cellFP F L X Y z2 k q) := by
  show upC (upC 46 (cellFP F L X Y z1 k q)) (cellFP F L X Y z2 k q) = _
  rw [upC_46 (cellFP_tri F L X Y z1 k q)]
/-- What OutlineMeeting asks of two shadows and of the joined one. -/
structure Meeting (P me own cf df cg dg u v : Int) : Prop where
  p1 : 0 ≤ cf
  p2 : 0 ≤ df
  p3 : 0 ≤ cg
  p4 : 0 ≤ dg
  p5 : 0 ≤ u
  f : cf + df ≤ P
  g : cg + dg ≤ P
  lo : u ≤ cf + cg
  hf : cf ≤ u
  hg : cg ≤ u
  m : (me = 3 ∧ u < cf + cg) ∨ (me = 2 ∧ u = cf + cg) ∨ (me = 1 ∧ u = cf + cg ∧ v = df + dg)
  o : (own = 3 ∧ 0 < cf) ∨ (own = 2 ∧ cf = 0 ∧ 0 < df) ∨ (own = 1 ∧ cf = 0 ∧ df = 0)
theorem meeting_facts (Wn Hn : Nat) (F L X Y : Int) (z1 z2 : Fig × Pl) :
    ∃ me own : Int, meetV (shS Wn Hn F L X Y z1.2.n z1.2.x z1.2.y z1.1.rows) (shS Wn Hn F L X Y z2.2.n z2.2.x z2.2.y z2.1.rows) = me ∧ meetV (shS Wn Hn F L X Y z1.2.n z1.2.x z1.2.y z1.1.rows) (shS Wn Hn F L X Y z1.2.n z1.2.x z1.2.y z1.1.rows) = own ∧
    Meeting ((Wn * Hn : Nat) : Int) me own (cntL (ltr (shS Wn Hn F L X Y z1.2.n z1.2.x z1.2.y z1.1.rows)) [35]) (cntL (ltr (shS Wn Hn F L X Y z1.2.n z1.2.x z1.2.y z1.1.rows)) [43]) (cntL (ltr (shS Wn Hn F L X Y z2.2.n z2.2.x z2.2.y z2.1.rows)) [35]) (cntL (ltr (shS Wn Hn F L X Y z2.2.n z2.2.x z2.2.y z2.1.rows)) [43]) (cntL (ltr (jS Wn Hn F L X Y [z1, z2])) [35]) (cntL (ltr (jS Wn Hn F L X Y [z1, z2])) [43]) := by
  rw [shS_cloth, shS_cloth]
  have h1 := cellFP_tri F L X Y z1
  have h2 := cellFP_tri F L X Y z2
  have hz := pairL_zip Wn Hn _ _ h1 h2
  have hz1 := pairL_zip Wn Hn _ _ h1 h1
  have e1 := clothS_ltr Wn Hn _ h1
  have e2 := clothS_ltr Wn Hn _ h2
  have e3 := clothS_ltr Wn Hn _ (jcell_tri F L X Y [z1, z2])
  rw [show clothS Wn Hn (jcell F L X Y [z1, z2]) = jS Wn Hn F L X Y [z1, z2] from rfl] at e3
  generalize hpl : pairL Wn (Wn * Hn) (cellFP F L X Y z1) (cellFP F L X Y z2) = l at *
  have f1 : ltr (clothS Wn Hn (cellFP F L X Y z1)) = l.map Prod.fst := by rw [e1, ← hpl]; unfold pairL; rw [List.map_map]; rfl
  have f2 : ltr (clothS Wn Hn (cellFP F L X Y z2)) = l.map Prod.snd := by rw [e2, ← hpl]; unfold pairL; rw [List.map_map]; rfl
  have f3 : ltr (jS Wn Hn F L X Y [z1, z2]) = l.map fun p => upC p.1 p.2 := by
    rw [e3, ← hpl]; unfold pairL; rw [List.map_map]
    refine List.map_congr_left fun j _ => ?_
    rw [jcell_two]; rfl
  have hl : l.length = Wn * Hn := by rw [← hpl]; simp [pairL]
  have ht : ∀ p ∈ l, triP p := by
    rw [← hpl]; intro p hp
    obtain ⟨j, _, rfl⟩ := List.mem_map.1 hp
    exact ⟨h1 _ _, h2 _ _⟩
  obtain ⟨t1, t2, t3, t4⟩ := two_counts l ht
  have hD := any_bothD l
  have k1 := two_tri (l.map Prod.fst) 0 (fun x hx => by obtain ⟨p, hp, rfl⟩ := List.mem_map.1 hx; exact (ht p hp).1)
  have k2 := two_tri (l.map Prod.snd) 0 (fun x hx => by obtain ⟨p, hp, rfl⟩ := List.mem_map.1 hx; exact (ht p hp).2)
  have ho := own_meet (l.map Prod.fst) (fun x hx => by obtain ⟨p, hp, rfl⟩ := List.mem_map.1 hx; exact (ht p hp).1)
  rw [List.length_map, hl] at k1 k2
  unfold meetV
  rw [hz, f1, f2, f3, cntL_eq, cntL_eq, cntL_eq, cntL_eq, cntL_eq, cntL_eq]
  generalize (l.map fun p => upC p.1 p.2).countP (fun b => b == 35) = x1 at *
  generalize (l.map fun p => upC p.1 p.2).countP (fun b => b == 43) = x2 at *
  generalize (l.map Prod.fst).countP (fun b => b == 35) = x3 at *
  generalize (l.map Prod.fst).countP (fun b => b == 43) = x4 at *
  generalize (l.map Prod.snd).countP (fun b => b == 35) = x5 at *
  generalize (l.map Prod.snd).countP (fun b => b == 43) = x6 at *
  generalize l.countP bothD = x7 at *
  generalize ((l.map Prod.fst).zip (l.map Prod.fst)).any bothD = y3 at *
  generalize ((l.map Prod.fst).zip (l.map Prod.fst)).any bothG = y4 at *
  refine ⟨if l.any bothD then 3 else if l.any bothG then 2 else 1, if y3 then 3 else if y4 then 2 else 1, by split <;> (try split) <;> rfl, by split <;> (try split) <;> rfl, ⟨by omega, by omega, by omega, by omega, by omega, by omega, by omega, by omega, by omega, by omega, ?_, ?_⟩⟩
  · cases hd : l.any bothD
    · have h7 : x7 = 0 := by
        rcases Nat.eq_zero_or_pos x7 with h | h
        · exact h
        · rw [hD.2 h] at hd; cases hd
      cases hg : l.any bothG
      · have := t2 hg
        exact .inr (.inr ⟨rfl, by omega, by omega⟩)
      · exact .inr (.inl ⟨rfl, by omega⟩)
    · have := hD.1 hd
      exact .inl ⟨rfl, by omega⟩
  · rcases ho with ⟨p1, p2⟩ | ⟨p1, p2, p3, p4⟩ | ⟨p1, p2, p3, p4⟩
    · rw [p2]; exact .inl ⟨rfl, by omega⟩
    · rw [p3, p4]; exact .inr (.inl ⟨rfl, by omega, by omega⟩)
    · rw [p3, p4]; exact .inr (.inr ⟨rfl, by omega, by omega⟩)
end Go.Proofs.YtifddfchpknkbaaGreatDoor

namespace Go.Proofs.YtifddfchpknkbaaGreatDoor
open Go.RowKit

set_option maxRecDepth 100000 in
set_option maxHeartbeats 25600000 in
theorem meeting_x1 (W H F L X Y N1 PX1 PY1 N2 PX2 PY2 : Int) (A1 : Option Addr) (n1 cap1 : Nat) (rows1 : List ByteArray) (A2 : Option Addr) (n2 cap2 : Nat) (rows2 : List ByteArray) (m : Int) (w : World) (hm : w.cell? ⟨0, 0, none⟩ = some (.int .i64 m)) (hc11 : n1 ≤ cap1) (hc12 : cap1 ≤ maxLen) (hs1 : ∀ r ∈ rows1, r.size ≤ maxLen) (hR1 : Rd w w.heap.size 1 A1 n1 (rows1.map Value.string)) (hc21 : n2 ≤ cap2) (hc22 : cap2 ≤ maxLen) (hs2 : ∀ r ∈ rows2, r.size ≤ maxLen) (hR2 : Rd w w.heap.size 1 A2 n2 (rows2.map Value.string)) (hsh1 : shortB rows1 = false) :
    Calls Tryz.prog 7 #[.agg #[.int .i64 W, .int .i64 H, .int .i64 F, .int .i64 L, .int .i64 X, .int .i64 Y], .agg #[.slice A1 n1 cap1], .agg #[.int .i64 N1, .int .i64 PX1, .int .i64 PY1], .agg #[.slice A2 n2 cap2], .agg #[.int .i64 N2, .int .i64 PX2, .int .i64 PY2]] w fun e w' => e = .returned (.bool true) ∧ Below w.heap.size w w' := by
  have hn1 : n1 ≤ maxLen := Nat.le_trans hc11 hc12
  have hn2 : n2 ≤ maxLen := Nat.le_trans hc21 hc22
  go_enter Tryz.func7, Tryz.ntmps7
  go_upto_region 1 with (fail)
  have hS := blk5_0 w (.cells #[.slice A1 n1 cap1] 26) (.cells #[.int .i64 N1, .int .i64 PX1, .int .i64 PY1] 28) (.cells #[.slice A2 n2 cap2] 26) (.cells #[.int .i64 N2, .int .i64 PX2, .int .i64 PY2] 28) 23 #[.int .i64 W, .int .i64 H, .int .i64 F, .int .i64 L, .int .i64 X, .int .i64 Y]
  have hF := blk5_1 w (.cells #[.int .i64 W, .int .i64 H, .int .i64 F, .int .i64 L, .int .i64 X, .int .i64 Y] 23) (.cells #[.int .i64 N1, .int .i64 PX1, .int .i64 PY1] 28) (.cells #[.slice A2 n2 cap2] 26) (.cells #[.int .i64 N2, .int .i64 PX2, .int .i64 PY2] 28) 26 #[.slice A1 n1 cap1]
  have hP := blk5_2 w (.cells #[.int .i64 W, .int .i64 H, .int .i64 F, .int .i64 L, .int .i64 X, .int .i64 Y] 23) (.cells #[.slice A1 n1 cap1] 26) (.cells #[.slice A2 n2 cap2] 26) (.cells #[.int .i64 N2, .int .i64 PX2, .int .i64 PY2] 28) 28 #[.int .i64 N1, .int .i64 PX1, .int .i64 PY1]
  have hG := blk5_3 w (.cells #[.int .i64 W, .int .i64 H, .int .i64 F, .int .i64 L, .int .i64 X, .int .i64 Y] 23) (.cells #[.slice A1 n1 cap1] 26) (.cells #[.int .i64 N1, .int .i64 PX1, .int .i64 PY1] 28) (.cells #[.int .i64 N2, .int .i64 PX2, .int .i64 PY2] 28) 26 #[.slice A2 n2 cap2]
  have hQ := blk5_4 w (.cells #[.int .i64 W, .int .i64 H, .int .i64 F, .int .i64 L, .int .i64 X, .int .i64 Y] 23) (.cells #[.slice A1 n1 cap1] 26) (.cells #[.int .i64 N1, .int .i64 PX1, .int .i64 PY1] 28) (.cells #[.slice A2 n2 cap2] 26) 28 #[.int .i64 N2, .int .i64 PX2, .int .i64 PY2]
  have hB := pro_5 w (.cells #[.int .i64 W, .int .i64 H, .int .i64 F, .int .i64 L, .int .i64 X, .int .i64 Y] 23) (.cells #[.slice A1 n1 cap1] 26) (.cells #[.int .i64 N1, .int .i64 PX1, .int .i64 PY1] 28) (.cells #[.slice A2 n2 cap2] 26) (.cells #[.int .i64 N2, .int .i64 PX2, .int .i64 PY2] 28)
  generalize ((((w.alloc (.cells #[.int .i64 W, .int .i64 H, .int .i64 F, .int .i64 L, .int .i64 X, .int .i64 Y] 23)).alloc (.cells #[.slice A1 n1 cap1] 26)).alloc (.cells #[.int .i64 N1, .int .i64 PX1, .int .i64 PY1] 28)).alloc (.cells #[.slice A2 n2 cap2] 26)).alloc (.cells #[.int .i64 N2, .int .i64 PX2, .int .i64 PY2] 28) = W0 at *
  have qhS := fun i => Blk.cell hS i
  have qhF := fun i => Blk.cell hF i
  have qhP := fun i => Blk.cell hP i
  have qhG := fun i => Blk.cell hG i
  have qhQ := fun i => Blk.cell hQ i
  clear hc11 hc12 hc21 hc22
  go_wp2_with (first | (go_at_call 23; refine (short_any A1 n1 cap1 rows1 _ hn1 hs1 (rdB hR1 hB)).mono ?_; rintro e w1 ⟨rfl, rfl⟩; rw [hsh1]; have hd0 : (0 : Nat) = 0 := rfl) | (go_at_call 24; refine (known_true m _ (known_at hm hB)).mono ?_; rintro e w1 ⟨rfl, hb⟩; (try replace hS := hS.below hb hS.lt); (try replace hF := hF.below hb hF.lt); (try replace hP := hP.below hb hP.lt); (try replace hG := hG.below hb hG.lt); (try replace hQ := hQ.below hb hQ.lt); replace hB := hB.trans (hb.mono hB.size); (try clear qhS); (try clear qhF); (try clear qhP); (try clear qhG); (try clear qhQ); clear hb; (try have qhS := fun i => Blk.cell hS i); (try have qhF := fun i => Blk.cell hF i); (try have qhP := fun i => Blk.cell hP i); (try have qhG := fun i => Blk.cell hG i); (try have qhQ := fun i => Blk.cell hQ i)))
  go_ret
  exact ⟨rfl, hB⟩
set_option maxRecDepth 100000 in
set_option maxHeartbeats 25600000 in
theorem meeting_x2 (W H F L X Y N1 PX1 PY1 N2 PX2 PY2 : Int) (A1 : Option Addr) (n1 cap1 : Nat) (rows1 : List ByteArray) (A2 : Option Addr) (n2 cap2 : Nat) (rows2 : List ByteArray) (m : Int) (w : World) (hm : w.cell? ⟨0, 0, none⟩ = some (.int .i64 m)) (hc11 : n1 ≤ cap1) (hc12 : cap1 ≤ maxLen) (hs1 : ∀ r ∈ rows1, r.size ≤ maxLen) (hR1 : Rd w w.heap.size 1 A1 n1 (rows1.map Value.string)) (hc21 : n2 ≤ cap2) (hc22 : cap2 ≤ maxLen) (hs2 : ∀ r ∈ rows2, r.size ≤ maxLen) (hR2 : Rd w w.heap.size 1 A2 n2 (rows2.map Value.string)) (hsh1 : shortB rows1 = true) (hsh2 : shortB rows2 = false) :
    Calls Tryz.prog 7 #[.agg #[.int .i64 W, .int .i64 H, .int .i64 F, .int .i64 L, .int .i64 X, .int .i64 Y], .agg #[.slice A1 n1 cap1], .agg #[.int .i64 N1, .int .i64 PX1, .int .i64 PY1], .agg #[.slice A2 n2 cap2], .agg #[.int .i64 N2, .int .i64 PX2, .int .i64 PY2]] w fun e w' => e = .returned (.bool true) ∧ Below w.heap.size w w' := by
  have hn1 : n1 ≤ maxLen := Nat.le_trans hc11 hc12
  have hn2 : n2 ≤ maxLen := Nat.le_trans hc21 hc22
  go_enter Tryz.func7, Tryz.ntmps7
  go_upto_region 1 with (fail)
  have hS := blk5_0 w (.cells #[.slice A1 n1 cap1] 26) (.cells #[.int .i64 N1, .int .i64 PX1, .int .i64 PY1] 28) (.cells #[.slice A2 n2 cap2] 26) (.cells #[.int .i64 N2, .int .i64 PX2, .int .i64 PY2] 28) 23 #[.int .i64 W, .int .i64 H, .int .i64 F, .int .i64 L, .int .i64 X, .int .i64 Y]
  have hF := blk5_1 w (.cells #[.int .i64 W, .int .i64 H, .int .i64 F, .int .i64 L, .int .i64 X, .int .i64 Y] 23) (.cells #[.int .i64 N1, .int .i64 PX1, .int .i64 PY1] 28) (.cells #[.slice A2 n2 cap2] 26) (.cells #[.int .i64 N2, .int .i64 PX2, .int .i64 PY2] 28) 26 #[.slice A1 n1 cap1]
  have hP := blk5_2 w (.cells #[.int .i64 W, .int .i64 H, .int .i64 F, .int .i64 L, .int .i64 X, .int .i64 Y] 23) (.cells #[.slice A1 n1 cap1] 26) (.cells #[.slice A2 n2 cap2] 26) (.cells #[.int .i64 N2, .int .i64 PX2, .int .i64 PY2] 28) 28 #[.int .i64 N1, .int .i64 PX1, .int .i64 PY1]
  have hG := blk5_3 w (.cells #[.int .i64 W, .int .i64 H, .int .i64 F, .int .i64 L, .int .i64 X, .int .i64 Y] 23) (.cells #[.slice A1 n1 cap1] 26) (.cells #[.int .i64 N1, .int .i64 PX1, .int .i64 PY1] 28) (.cells #[.int .i64 N2, .int .i64 PX2, .int .i64 PY2] 28) 26 #[.slice A2 n2 cap2]
  have hQ := blk5_4 w (.cells #[.int .i64 W, .int .i64 H, .int .i64 F, .int .i64 L, .int .i64 X, .int .i64 Y] 23) (.cells #[.slice A1 n1 cap1] 26) (.cells #[.int .i64 N1, .int .i64 PX1, .int .i64 PY1] 28) (.cells #[.slice A2 n2 cap2] 26) 28 #[.int .i64 N2, .int .i64 PX2, .int .i64 PY2]
  have hB := pro_5 w (.cells #[.int .i64 W, .int .i64 H, .int .i64 F, .int .i64 L, .int .i64 X, .int .i64 Y] 23) (.cells #[.slice A1 n1 cap1] 26) (.cells #[.int .i64 N1, .int .i64 PX1, .int .i64 PY1] 28) (.cells #[.slice A2 n2 cap2] 26) (.cells #[.int .i64 N2, .int .i64 PX2, .int .i64 PY2] 28)
  generalize ((((w.alloc (.cells #[.int .i64 W, .int .i64 H, .int .i64 F, .int .i64 L, .int .i64 X, .int .i64 Y] 23)).alloc (.cells #[.slice A1 n1 cap1] 26)).alloc (.cells #[.int .i64 N1, .int .i64 PX1, .int .i64 PY1] 28)).alloc (.cells #[.slice A2 n2 cap2] 26)).alloc (.cells #[.int .i64 N2, .int .i64 PX2, .int .i64 PY2] 28) = W0 at *
  have qhS := fun i => Blk.cell hS i
  have qhF := fun i => Blk.cell hF i
  have qhP := fun i => Blk.cell hP i
  have qhG := fun i => Blk.cell hG i
  have qhQ := fun i => Blk.cell hQ i
  clear hc11 hc12 hc21 hc22
  go_wp2_with (first | (go_at_call 23; have hx := hd0; clear hx; refine (short_any A2 n2 cap2 rows2 _ hn2 hs2 (rdB hR2 hB)).mono ?_; rintro e w1 ⟨rfl, rfl⟩; rw [hsh2]) | (go_at_call 23; refine (short_any A1 n1 cap1 rows1 _ hn1 hs1 (rdB hR1 hB)).mono ?_; rintro e w1 ⟨rfl, rfl⟩; rw [hsh1]; have hd0 : (0 : Nat) = 0 := rfl) | (go_at_call 24; refine (known_true m _ (known_at hm hB)).mono ?_; rintro e w1 ⟨rfl, hb⟩; (try replace hS := hS.below hb hS.lt); (try replace hF := hF.below hb hF.lt); (try replace hP := hP.below hb hP.lt); (try replace hG := hG.below hb hG.lt); (try replace hQ := hQ.below hb hQ.lt); replace hB := hB.trans (hb.mono hB.size); (try clear qhS); (try clear qhF); (try clear qhP); (try clear qhG); (try clear qhQ); clear hb; (try have qhS := fun i => Blk.cell hS i); (try have qhF := fun i => Blk.cell hF i); (try have qhP := fun i => Blk.cell hP i); (try have qhG := fun i => Blk.cell hG i); (try have qhQ := fun i => Blk.cell hQ i)))
  go_ret
  exact ⟨rfl, hB⟩
set_option maxRecDepth 100000 in
set_option maxHeartbeats 25600000 in
theorem meeting_x3 (W H F L X Y N1 PX1 PY1 N2 PX2 PY2 : Int) (A1 : Option Addr) (n1 cap1 : Nat) (rows1 : List ByteArray) (A2 : Option Addr) (n2 cap2 : Nat) (rows2 : List ByteArray) (m : Int) (w : World) (hm : w.cell? ⟨0, 0, none⟩ = some (.int .i64 m)) (hc11 : n1 ≤ cap1) (hc12 : cap1 ≤ maxLen) (hs1 : ∀ r ∈ rows1, r.size ≤ maxLen) (hR1 : Rd w w.heap.size 1 A1 n1 (rows1.map Value.string)) (hc21 : n2 ≤ cap2) (hc22 : cap2 ≤ maxLen) (hs2 : ∀ r ∈ rows2, r.size ≤ maxLen) (hR2 : Rd w w.heap.size 1 A2 n2 (rows2.map Value.string)) (hsh1 : shortB rows1 = true) (hsh2 : shortB rows2 = true) (hst : stageB W H F L X Y = false) :
    Calls Tryz.prog 7 #[.agg #[.int .i64 W, .int .i64 H, .int .i64 F, .int .i64 L, .int .i64 X, .int .i64 Y], .agg #[.slice A1 n1 cap1], .agg #[.int .i64 N1, .int .i64 PX1, .int .i64 PY1], .agg #[.slice A2 n2 cap2], .agg #[.int .i64 N2, .int .i64 PX2, .int .i64 PY2]] w fun e w' => e = .returned (.bool true) ∧ Below w.heap.size w w' := by
  have hn1 : n1 ≤ maxLen := Nat.le_trans hc11 hc12
  have hn2 : n2 ≤ maxLen := Nat.le_trans hc21 hc22
  go_enter Tryz.func7, Tryz.ntmps7
  go_upto_region 1 with (fail)
  have hS := blk5_0 w (.cells #[.slice A1 n1 cap1] 26) (.cells #[.int .i64 N1, .int .i64 PX1, .int .i64 PY1] 28) (.cells #[.slice A2 n2 cap2] 26) (.cells #[.int .i64 N2, .int .i64 PX2, .int .i64 PY2] 28) 23 #[.int .i64 W, .int .i64 H, .int .i64 F, .int .i64 L, .int .i64 X, .int .i64 Y]
  have hF := blk5_1 w (.cells #[.int .i64 W, .int .i64 H, .int .i64 F, .int .i64 L, .int .i64 X, .int .i64 Y] 23) (.cells #[.int .i64 N1, .int .i64 PX1, .int .i64 PY1] 28) (.cells #[.slice A2 n2 cap2] 26) (.cells #[.int .i64 N2, .int .i64 PX2, .int .i64 PY2] 28) 26 #[.slice A1 n1 cap1]
  have hP := blk5_2 w (.cells #[.int .i64 W, .int .i64 H, .int .i64 F, .int .i64 L, .int .i64 X, .int .i64 Y] 23) (.cells #[.slice A1 n1 cap1] 26) (.cells #[.slice A2 n2 cap2] 26) (.cells #[.int .i64 N2, .int .i64 PX2, .int .i64 PY2] 28) 28 #[.int .i64 N1, .int .i64 PX1, .int .i64 PY1]
  have hG := blk5_3 w (.cells #[.int .i64 W, .int .i64 H, .int .i64 F, .int .i64 L, .int .i64 X, .int .i64 Y] 23) (.cells #[.slice A1 n1 cap1] 26) (.cells #[.int .i64 N1, .int .i64 PX1, .int .i64 PY1] 28) (.cells #[.int .i64 N2, .int .i64 PX2, .int .i64 PY2] 28) 26 #[.slice A2 n2 cap2]
  have hQ := blk5_4 w (.cells #[.int .i64 W, .int .i64 H, .int .i64 F, .int .i64 L, .int .i64 X, .int .i64 Y] 23) (.cells #[.slice A1 n1 cap1] 26) (.cells #[.int .i64 N1, .int .i64 PX1, .int .i64 PY1] 28) (.cells #[.slice A2 n2 cap2] 26) 28 #[.int .i64 N2, .int .i64 PX2, .int .i64 PY2]
  have hB := pro_5 w (.cells #[.int .i64 W, .int .i64 H, .int .i64 F, .int .i64 L, .int .i64 X, .int .i64 Y] 23) (.cells #[.slice A1 n1 cap1] 26) (.cells #[.int .i64 N1, .int .i64 PX1, .int .i64 PY1] 28) (.cells #[.slice A2 n2 cap2] 26) (.cells #[.int .i64 N2, .int .i64 PX2, .int .i64 PY2] 28)
  generalize ((((w.alloc (.cells #[.int .i64 W, .int .i64 H, .int .i64 F, .int .i64 L, .int .i64 X, .int .i64 Y] 23)).alloc (.cells #[.slice A1 n1 cap1] 26)).alloc (.cells #[.int .i64 N1, .int .i64 PX1, .int .i64 PY1] 28)).alloc (.cells #[.slice A2 n2 cap2] 26)).alloc (.cells #[.int .i64 N2, .int .i64 PX2, .int .i64 PY2] 28) = W0 at *
  have qhS := fun i => Blk.cell hS i
  have qhF := fun i => Blk.cell hF i
  have qhP := fun i => Blk.cell hP i
  have qhG := fun i => Blk.cell hG i
  have qhQ := fun i => Blk.cell hQ i
  clear hc11 hc12 hc21 hc22
  go_wp2_with (first | (go_at_call 23; have hx := hd0; clear hx; refine (short_any A2 n2 cap2 rows2 _ hn2 hs2 (rdB hR2 hB)).mono ?_; rintro e w1 ⟨rfl, rfl⟩; rw [hsh2]) | (go_at_call 23; refine (short_any A1 n1 cap1 rows1 _ hn1 hs1 (rdB hR1 hB)).mono ?_; rintro e w1 ⟨rfl, rfl⟩; rw [hsh1]; have hd0 : (0 : Nat) = 0 := rfl) | (go_at_call 27; refine (Stage_any W H F L X Y _).mono ?_; rintro e w1 ⟨rfl, hb⟩; rw [hst]; (try replace hS := hS.below hb hS.lt); (try replace hF := hF.below hb hF.lt); (try replace hP := hP.below hb hP.lt); (try replace hG := hG.below hb hG.lt); (try replace hQ := hQ.below hb hQ.lt); replace hB := hB.trans (hb.mono hB.size); (try clear qhS); (try clear qhF); (try clear qhP); (try clear qhG); (try clear qhQ); clear hb; (try have qhS := fun i => Blk.cell hS i); (try have qhF := fun i => Blk.cell hF i); (try have qhP := fun i => Blk.cell hP i); (try have qhG := fun i => Blk.cell hG i); (try have qhQ := fun i => Blk.cell hQ i)) | (go_at_call 24; refine (known_true m _ (known_at hm hB)).mono ?_; rintro e w1 ⟨rfl, hb⟩; (try replace hS := hS.below hb hS.lt); (try replace hF := hF.below hb hF.lt); (try replace hP := hP.below hb hP.lt); (try replace hG := hG.below hb hG.lt); (try replace hQ := hQ.below hb hQ.lt); replace hB := hB.trans (hb.mono hB.size); (try clear qhS); (try clear qhF); (try clear qhP); (try clear qhG); (try clear qhQ); clear hb; (try have qhS := fun i => Blk.cell hS i); (try have qhF := fun i => Blk.cell hF i); (try have qhP := fun i => Blk.cell hP i); (try have qhG := fun i => Blk.cell hG i); (try have qhQ := fun i => Blk.cell hQ i)))
  go_ret
  exact ⟨rfl, hB⟩
set_option maxRecDepth 100000 in
set_option maxHeartbeats 25600000 in
theorem meeting_x4 (W H F L X Y N1 PX1 PY1 N2 PX2 PY2 : Int) (A1 : Option Addr) (n1 cap1 : Nat) (rows1 : List ByteArray) (A2 : Option Addr) (n2 cap2 : Nat) (rows2 : List ByteArray) (m : Int) (w : World) (hm : w.cell? ⟨0, 0, none⟩ = some (.int .i64 m)) (hc11 : n1 ≤ cap1) (hc12 : cap1 ≤ maxLen) (hs1 : ∀ r ∈ rows1, r.size ≤ maxLen) (hR1 : Rd w w.heap.size 1 A1 n1 (rows1.map Value.string)) (hc21 : n2 ≤ cap2) (hc22 : cap2 ≤ maxLen) (hs2 : ∀ r ∈ rows2, r.size ≤ maxLen) (hR2 : Rd w w.heap.size 1 A2 n2 (rows2.map Value.string)) (hsh1 : shortB rows1 = true) (hsh2 : shortB rows2 = true) (hst : stageB W H F L X Y = true) (hfg1 : figB rows1 = false) :
    Calls Tryz.prog 7 #[.agg #[.int .i64 W, .int .i64 H, .int .i64 F, .int .i64 L, .int .i64 X, .int .i64 Y], .agg #[.slice A1 n1 cap1], .agg #[.int .i64 N1, .int .i64 PX1, .int .i64 PY1], .agg #[.slice A2 n2 cap2], .agg #[.int .i64 N2, .int .i64 PX2, .int .i64 PY2]] w fun e w' => e = .returned (.bool true) ∧ Below w.heap.size w w' := by
  have hn1 : n1 ≤ maxLen := Nat.le_trans hc11 hc12
  have hn2 : n2 ≤ maxLen := Nat.le_trans hc21 hc22
  have ⟨⟨a1, a2⟩, ⟨a3, a4⟩, ⟨a5, a6⟩, _⟩ := stageB_nums hst
  go_enter Tryz.func7, Tryz.ntmps7
  go_upto_region 1 with (fail)
  have hS := blk5_0 w (.cells #[.slice A1 n1 cap1] 26) (.cells #[.int .i64 N1, .int .i64 PX1, .int .i64 PY1] 28) (.cells #[.slice A2 n2 cap2] 26) (.cells #[.int .i64 N2, .int .i64 PX2, .int .i64 PY2] 28) 23 #[.int .i64 W, .int .i64 H, .int .i64 F, .int .i64 L, .int .i64 X, .int .i64 Y]
  have hF := blk5_1 w (.cells #[.int .i64 W, .int .i64 H, .int .i64 F, .int .i64 L, .int .i64 X, .int .i64 Y] 23) (.cells #[.int .i64 N1, .int .i64 PX1, .int .i64 PY1] 28) (.cells #[.slice A2 n2 cap2] 26) (.cells #[.int .i64 N2, .int .i64 PX2, .int .i64 PY2] 28) 26 #[.slice A1 n1 cap1]
  have hP := blk5_2 w (.cells #[.int .i64 W, .int .i64 H, .int .i64 F, .int .i64 L, .int .i64 X, .int .i64 Y] 23) (.cells #[.slice A1 n1 cap1] 26) (.cells #[.slice A2 n2 cap2] 26) (.cells #[.int .i64 N2, .int .i64 PX2, .int .i64 PY2] 28) 28 #[.int .i64 N1, .int .i64 PX1, .int .i64 PY1]
  have hG := blk5_3 w (.cells #[.int .i64 W, .int .i64 H, .int .i64 F, .int .i64 L, .int .i64 X, .int .i64 Y] 23) (.cells #[.slice A1 n1 cap1] 26) (.cells #[.int .i64 N1, .int .i64 PX1, .int .i64 PY1] 28) (.cells #[.int .i64 N2, .int .i64 PX2, .int .i64 PY2] 28) 26 #[.slice A2 n2 cap2]
  have hQ := blk5_4 w (.cells #[.int .i64 W, .int .i64 H, .int .i64 F, .int .i64 L, .int .i64 X, .int .i64 Y] 23) (.cells #[.slice A1 n1 cap1] 26) (.cells #[.int .i64 N1, .int .i64 PX1, .int .i64 PY1] 28) (.cells #[.slice A2 n2 cap2] 26) 28 #[.int .i64 N2, .int .i64 PX2, .int .i64 PY2]
  have hB := pro_5 w (.cells #[.int .i64 W, .int .i64 H, .int .i64 F, .int .i64 L, .int .i64 X, .int .i64 Y] 23) (.cells #[.slice A1 n1 cap1] 26) (.cells #[.int .i64 N1, .int .i64 PX1, .int .i64 PY1] 28) (.cells #[.slice A2 n2 cap2] 26) (.cells #[.int .i64 N2, .int .i64 PX2, .int .i64 PY2] 28)
  generalize ((((w.alloc (.cells #[.int .i64 W, .int .i64 H, .int .i64 F, .int .i64 L, .int .i64 X, .int .i64 Y] 23)).alloc (.cells #[.slice A1 n1 cap1] 26)).alloc (.cells #[.int .i64 N1, .int .i64 PX1, .int .i64 PY1] 28)).alloc (.cells #[.slice A2 n2 cap2] 26)).alloc (.cells #[.int .i64 N2, .int .i64 PX2, .int .i64 PY2] 28) = W0 at *
  have qhS := fun i => Blk.cell hS i
  have qhF := fun i => Blk.cell hF i
  have qhP := fun i => Blk.cell hP i
  have qhG := fun i => Blk.cell hG i
  have qhQ := fun i => Blk.cell hQ i
  clear hc11 hc12 hc21 hc22
  go_wp2_with (first | (go_at_call 23; have hx := hd0; clear hx; refine (short_any A2 n2 cap2 rows2 _ hn2 hs2 (rdB hR2 hB)).mono ?_; rintro e w1 ⟨rfl, rfl⟩; rw [hsh2]) | (go_at_call 23; refine (short_any A1 n1 cap1 rows1 _ hn1 hs1 (rdB hR1 hB)).mono ?_; rintro e w1 ⟨rfl, rfl⟩; rw [hsh1]; have hd0 : (0 : Nat) = 0 := rfl) | (go_at_call 27; refine (Stage_any W H F L X Y _).mono ?_; rintro e w1 ⟨rfl, hb⟩; rw [hst]; (try replace hS := hS.below hb hS.lt); (try replace hF := hF.below hb hF.lt); (try replace hP := hP.below hb hP.lt); (try replace hG := hG.below hb hG.lt); (try replace hQ := hQ.below hb hQ.lt); replace hB := hB.trans (hb.mono hB.size); (try clear qhS); (try clear qhF); (try clear qhP); (try clear qhG); (try clear qhQ); clear hb; (try have qhS := fun i => Blk.cell hS i); (try have qhF := fun i => Blk.cell hF i); (try have qhP := fun i => Blk.cell hP i); (try have qhG := fun i => Blk.cell hG i); (try have qhQ := fun i => Blk.cell hQ i)) | (go_at_call 28; refine (refFigure_any A1 n1 cap1 rows1 _ hn1 hs1 (rdB hR1 hB)).mono ?_; rintro e w1 ⟨rfl, hb⟩; rw [hfg1]; (try replace hS := hS.below hb hS.lt); (try replace hF := hF.below hb hF.lt); (try replace hP := hP.below hb hP.lt); (try replace hG := hG.below hb hG.lt); (try replace hQ := hQ.below hb hQ.lt); replace hB := hB.trans (hb.mono hB.size); (try clear qhS); (try clear qhF); (try clear qhP); (try clear qhG); (try clear qhQ); clear hb; (try have qhS := fun i => Blk.cell hS i); (try have qhF := fun i => Blk.cell hF i); (try have qhP := fun i => Blk.cell hP i); (try have qhG := fun i => Blk.cell hG i); (try have qhQ := fun i => Blk.cell hQ i)) | (go_at_call 24; refine (known_true m _ (known_at hm hB)).mono ?_; rintro e w1 ⟨rfl, hb⟩; (try replace hS := hS.below hb hS.lt); (try replace hF := hF.below hb hF.lt); (try replace hP := hP.below hb hP.lt); (try replace hG := hG.below hb hG.lt); (try replace hQ := hQ.below hb hQ.lt); replace hB := hB.trans (hb.mono hB.size); (try clear qhS); (try clear qhF); (try clear qhP); (try clear qhG); (try clear qhQ); clear hb; (try have qhS := fun i => Blk.cell hS i); (try have qhF := fun i => Blk.cell hF i); (try have qhP := fun i => Blk.cell hP i); (try have qhG := fun i => Blk.cell hG i); (try have qhQ := fun i => Blk.cell hQ i)))
  go_ret
  exact ⟨rfl, hB⟩
set_option maxRecDepth 100000 in
set_option maxHeartbeats 25600000 in
theorem meeting_x5 (W H F L X Y N1 PX1 PY1 N2 PX2 PY2 : Int) (A1 : Option Addr) (n1 cap1 : Nat) (rows1 : List ByteArray) (A2 : Option Addr) (n2 cap2 : Nat) (rows2 : List ByteArray) (m : Int) (w : World) (hm : w.cell? ⟨0, 0, none⟩ = some (.int .i64 m)) (hc11 : n1 ≤ cap1) (hc12 : cap1 ≤ maxLen) (hs1 : ∀ r ∈ rows1, r.size ≤ maxLen) (hR1 : Rd w w.heap.size 1 A1 n1 (rows1.map Value.string)) (hc21 : n2 ≤ cap2) (hc22 : cap2 ≤ maxLen) (hs2 : ∀ r ∈ rows2, r.size ≤ maxLen) (hR2 : Rd w w.heap.size 1 A2 n2 (rows2.map Value.string)) (hsh1 : shortB rows1 = true) (hsh2 : shortB rows2 = true) (hst : stageB W H F L X Y = true) (hfg1 : figB rows1 = true) (hpl1 : placeB F N1 PX1 PY1 = false) :
    Calls Tryz.prog 7 #[.agg #[.int .i64 W, .int .i64 H, .int .i64 F, .int .i64 L, .int .i64 X, .int .i64 Y], .agg #[.slice A1 n1 cap1], .agg #[.int .i64 N1, .int .i64 PX1, .int .i64 PY1], .agg #[.slice A2 n2 cap2], .agg #[.int .i64 N2, .int .i64 PX2, .int .i64 PY2]] w fun e w' => e = .returned (.bool true) ∧ Below w.heap.size w w' := by
  have hn1 : n1 ≤ maxLen := Nat.le_trans hc11 hc12
  have hn2 : n2 ≤ maxLen := Nat.le_trans hc21 hc22
  have ⟨⟨a1, a2⟩, ⟨a3, a4⟩, ⟨a5, a6⟩, _⟩ := stageB_nums hst
  go_enter Tryz.func7, Tryz.ntmps7
  go_upto_region 1 with (fail)
  have hS := blk5_0 w (.cells #[.slice A1 n1 cap1] 26) (.cells #[.int .i64 N1, .int .i64 PX1, .int .i64 PY1] 28) (.cells #[.slice A2 n2 cap2] 26) (.cells #[.int .i64 N2, .int .i64 PX2, .int .i64 PY2] 28) 23 #[.int .i64 W, .int .i64 H, .int .i64 F, .int .i64 L, .int .i64 X, .int .i64 Y]
  have hF := blk5_1 w (.cells #[.int .i64 W, .int .i64 H, .int .i64 F, .int .i64 L, .int .i64 X, .int .i64 Y] 23) (.cells #[.int .i64 N1, .int .i64 PX1, .int .i64 PY1] 28) (.cells #[.slice A2 n2 cap2] 26) (.cells #[.int .i64 N2, .int .i64 PX2, .int .i64 PY2] 28) 26 #[.slice A1 n1 cap1]
  have hP := blk5_2 w (.cells #[.int .i64 W, .int .i64 H, .int .i64 F, .int .i64 L, .int .i64 X, .int .i64 Y] 23) (.cells #[.slice A1 n1 cap1] 26) (.cells #[.slice A2 n2 cap2] 26) (.cells #[.int .i64 N2, .int .i64 PX2, .int .i64 PY2] 28) 28 #[.int .i64 N1, .int .i64 PX1, .int .i64 PY1]
  have hG := blk5_3 w (.cells #[.int .i64 W, .int .i64 H, .int .i64 F, .int .i64 L, .int .i64 X, .int .i64 Y] 23) (.cells #[.slice A1 n1 cap1] 26) (.cells #[.int .i64 N1, .int .i64 PX1, .int .i64 PY1] 28) (.cells #[.int .i64 N2, .int .i64 PX2, .int .i64 PY2] 28) 26 #[.slice A2 n2 cap2]
  have hQ := blk5_4 w (.cells #[.int .i64 W, .int .i64 H, .int .i64 F, .int .i64 L, .int .i64 X, .int .i64 Y] 23) (.cells #[.slice A1 n1 cap1] 26) (.cells #[.int .i64 N1, .int .i64 PX1, .int .i64 PY1] 28) (.cells #[.slice A2 n2 cap2] 26) 28 #[.int .i64 N2, .int .i64 PX2, .int .i64 PY2]
  have hB := pro_5 w (.cells #[.int .i64 W, .int .i64 H, .int .i64 F, .int .i64 L, .int .i64 X, .int .i64 Y] 23) (.cells #[.slice A1 n1 cap1] 26) (.cells #[.int .i64 N1, .int .i64 PX1, .int .i64 PY1] 28) (.cells #[.slice A2 n2 cap2] 26) (.cells #[.int .i64 N2, .int .i64 PX2, .int .i64 PY2] 28)
  generalize ((((w.alloc (.cells #[.int .i64 W, .int .i64 H, .int .i64 F, .int .i64 L, .int .i64 X, .int .i64 Y] 23)).alloc (.cells #[.slice A1 n1 cap1] 26)).alloc (.cells #[.int .i64 N1, .int .i64 PX1, .int .i64 PY1] 28)).alloc (.cells #[.slice A2 n2 cap2] 26)).alloc (.cells #[.int .i64 N2, .int .i64 PX2, .int .i64 PY2] 28) = W0 at *
  have qhS := fun i => Blk.cell hS i
  have qhF := fun i => Blk.cell hF i
  have qhP := fun i => Blk.cell hP i
  have qhG := fun i => Blk.cell hG i
  have qhQ := fun i => Blk.cell hQ i
  clear hc11 hc12 hc21 hc22
  go_wp2_with (first | (go_at_call 23; have hx := hd0; clear hx; refine (short_any A2 n2 cap2 rows2 _ hn2 hs2 (rdB hR2 hB)).mono ?_; rintro e w1 ⟨rfl, rfl⟩; rw [hsh2]) | (go_at_call 23; refine (short_any A1 n1 cap1 rows1 _ hn1 hs1 (rdB hR1 hB)).mono ?_; rintro e w1 ⟨rfl, rfl⟩; rw [hsh1]; have hd0 : (0 : Nat) = 0 := rfl) | (go_at_call 27; refine (Stage_any W H F L X Y _).mono ?_; rintro e w1 ⟨rfl, hb⟩; rw [hst]; (try replace hS := hS.below hb hS.lt); (try replace hF := hF.below hb hF.lt); (try replace hP := hP.below hb hP.lt); (try replace hG := hG.below hb hG.lt); (try replace hQ := hQ.below hb hQ.lt); replace hB := hB.trans (hb.mono hB.size); (try clear qhS); (try clear qhF); (try clear qhP); (try clear qhG); (try clear qhQ); clear hb; (try have qhS := fun i => Blk.cell hS i); (try have qhF := fun i => Blk.cell hF i); (try have qhP := fun i => Blk.cell hP i); (try have qhG := fun i => Blk.cell hG i); (try have qhQ := fun i => Blk.cell hQ i)) | (go_at_call 28; refine (refFigure_any A1 n1 cap1 rows1 _ hn1 hs1 (rdB hR1 hB)).mono ?_; rintro e w1 ⟨rfl, hb⟩; rw [hfg1]; (try replace hS := hS.below hb hS.lt); (try replace hF := hF.below hb hF.lt); (try replace hP := hP.below hb hP.lt); (try replace hG := hG.below hb hG.lt); (try replace hQ := hQ.below hb hQ.lt); replace hB := hB.trans (hb.mono hB.size); (try clear qhS); (try clear qhF); (try clear qhP); (try clear qhG); (try clear qhQ); clear hb; (try have qhS := fun i => Blk.cell hS i); (try have qhF := fun i => Blk.cell hF i); (try have qhP := fun i => Blk.cell hP i); (try have qhG := fun i => Blk.cell hG i); (try have qhQ := fun i => Blk.cell hQ i)) | (go_at_call 31; refine (Place_any W H F L X Y N1 PX1 PY1 _ a5 a6).mono ?_; rintro e w1 ⟨rfl, hb⟩; rw [hpl1]; have hd2 : (0 : Nat) = 0 := rfl; (try replace hS := hS.below hb hS.lt); (try replace hF := hF.below hb hF.lt); (try replace hP := hP.below hb hP.lt); (try replace hG := hG.below hb hG.lt); (try replace hQ := hQ.below hb hQ.lt); replace hB := hB.trans (hb.mono hB.size); (try clear qhS); (try clear qhF); (try clear qhP); (try clear qhG); (try clear qhQ); clear hb; (try have qhS := fun i => Blk.cell hS i); (try have qhF := fun i => Blk.cell hF i); (try have qhP := fun i => Blk.cell hP i); (try have qhG := fun i => Blk.cell hG i); (try have qhQ := fun i => Blk.cell hQ i)) | (go_at_call 24; refine (known_true m _ (known_at hm hB)).mono ?_; rintro e w1 ⟨rfl, hb⟩; (try replace hS := hS.below hb hS.lt); (try replace hF := hF.below hb hF.lt); (try replace hP := hP.below hb hP.lt); (try replace hG := hG.below hb hG.lt); (try replace hQ := hQ.below hb hQ.lt); replace hB := hB.trans (hb.mono hB.size); (try clear qhS); (try clear qhF); (try clear qhP); (try clear qhG); (try clear qhQ); clear hb; (try have qhS := fun i => Blk.cell hS i); (try have qhF := fun i => Blk.cell hF i); (try have qhP := fun i => Blk.cell hP i); (try have qhG := fun i => Blk.cell hG i); (try have qhQ := fun i => Blk.cell hQ i)))
  go_ret
  exact ⟨rfl, hB⟩
set_option maxRecDepth 100000 in
set_option maxHeartbeats 25600000 in
theorem meeting_x6 (W H F L X Y N1 PX1 PY1 N2 PX2 PY2 : Int) (A1 : Option Addr) (n1 cap1 : Nat) (rows1 : List ByteArray) (A2 : Option Addr) (n2 cap2 : Nat) (rows2 : List ByteArray) (m : Int) (w : World) (hm : w.cell? ⟨0, 0, none⟩ = some (.int .i64 m)) (hc11 : n1 ≤ cap1) (hc12 : cap1 ≤ maxLen) (hs1 : ∀ r ∈ rows1, r.size ≤ maxLen) (hR1 : Rd w w.heap.size 1 A1 n1 (rows1.map Value.string)) (hc21 : n2 ≤ cap2) (hc22 : cap2 ≤ maxLen) (hs2 : ∀ r ∈ rows2, r.size ≤ maxLen) (hR2 : Rd w w.heap.size 1 A2 n2 (rows2.map Value.string)) (hsh1 : shortB rows1 = true) (hsh2 : shortB rows2 = true) (hst : stageB W H F L X Y = true) (hfg1 : figB rows1 = true) (hpl1 : placeB F N1 PX1 PY1 = true) (hfg2 : figB rows2 = false) :
    Calls Tryz.prog 7 #[.agg #[.int .i64 W, .int .i64 H, .int .i64 F, .int .i64 L, .int .i64 X, .int .i64 Y], .agg #[.slice A1 n1 cap1], .agg #[.int .i64 N1, .int .i64 PX1, .int .i64 PY1], .agg #[.slice A2 n2 cap2], .agg #[.int .i64 N2, .int .i64 PX2, .int .i64 PY2]] w fun e w' => e = .returned (.bool true) ∧ Below w.heap.size w w' := by
  have hn1 : n1 ≤ maxLen := Nat.le_trans hc11 hc12
  have hn2 : n2 ≤ maxLen := Nat.le_trans hc21 hc22
  have ⟨⟨a1, a2⟩, ⟨a3, a4⟩, ⟨a5, a6⟩, _⟩ := stageB_nums hst
  go_enter Tryz.func7, Tryz.ntmps7
  go_upto_region 1 with (fail)
  have hS := blk5_0 w (.cells #[.slice A1 n1 cap1] 26) (.cells #[.int .i64 N1, .int .i64 PX1, .int .i64 PY1] 28) (.cells #[.slice A2 n2 cap2] 26) (.cells #[.int .i64 N2, .int .i64 PX2, .int .i64 PY2] 28) 23 #[.int .i64 W, .int .i64 H, .int .i64 F, .int .i64 L, .int .i64 X, .int .i64 Y]
  have hF := blk5_1 w (.cells #[.int .i64 W, .int .i64 H, .int .i64 F, .int .i64 L, .int .i64 X, .int .i64 Y] 23) (.cells #[.int .i64 N1, .int .i64 PX1, .int .i64 PY1] 28) (.cells #[.slice A2 n2 cap2] 26) (.cells #[.int .i64 N2, .int .i64 PX2, .int .i64 PY2] 28) 26 #[.slice A1 n1 cap1]
  have hP := blk5_2 w (.cells #[.int .i64 W, .int .i64 H, .int .i64 F, .int .i64 L, .int .i64 X, .int .i64 Y] 23) (.cells #[.slice A1 n1 cap1] 26) (.cells #[.slice A2 n2 cap2] 26) (.cells #[.int .i64 N2, .int .i64 PX2, .int .i64 PY2] 28) 28 #[.int .i64 N1, .int .i64 PX1, .int .i64 PY1]
  have hG := blk5_3 w (.cells #[.int .i64 W, .int .i64 H, .int .i64 F, .int .i64 L, .int .i64 X, .int .i64 Y] 23) (.cells #[.slice A1 n1 cap1] 26) (.cells #[.int .i64 N1, .int .i64 PX1, .int .i64 PY1] 28) (.cells #[.int .i64 N2, .int .i64 PX2, .int .i64 PY2] 28) 26 #[.slice A2 n2 cap2]
  have hQ := blk5_4 w (.cells #[.int .i64 W, .int .i64 H, .int .i64 F, .int .i64 L, .int .i64 X, .int .i64 Y] 23) (.cells #[.slice A1 n1 cap1] 26) (.cells #[.int .i64 N1, .int .i64 PX1, .int .i64 PY1] 28) (.cells #[.slice A2 n2 cap2] 26) 28 #[.int .i64 N2, .int .i64 PX2, .int .i64 PY2]
  have hB := pro_5 w (.cells #[.int .i64 W, .int .i64 H, .int .i64 F, .int .i64 L, .int .i64 X, .int .i64 Y] 23) (.cells #[.slice A1 n1 cap1] 26) (.cells #[.int .i64 N1, .int .i64 PX1, .int .i64 PY1] 28) (.cells #[.slice A2 n2 cap2] 26) (.cells #[.int .i64 N2, .int .i64 PX2, .int .i64 PY2] 28)
  generalize ((((w.alloc (.cells #[.int .i64 W, .int .i64 H, .int .i64 F, .int .i64 L, .int .i64 X, .int .i64 Y] 23)).alloc (.cells #[.slice A1 n1 cap1] 26)).alloc (.cells #[.int .i64 N1, .int .i64 PX1, .int .i64 PY1] 28)).alloc (.cells #[.slice A2 n2 cap2] 26)).alloc (.cells #[.int .i64 N2, .int .i64 PX2, .int .i64 PY2] 28) = W0 at *
  have qhS := fun i => Blk.cell hS i
  have qhF := fun i => Blk.cell hF i
  have qhP := fun i => Blk.cell hP i
  have qhG := fun i => Blk.cell hG i
  have qhQ := fun i => Blk.cell hQ i
  clear hc11 hc12 hc21 hc22
  go_wp2_with (first | (go_at_call 23; have hx := hd0; clear hx; refine (short_any A2 n2 cap2 rows2 _ hn2 hs2 (rdB hR2 hB)).mono ?_; rintro e w1 ⟨rfl, rfl⟩; rw [hsh2]) | (go_at_call 23; refine (short_any A1 n1 cap1 rows1 _ hn1 hs1 (rdB hR1 hB)).mono ?_; rintro e w1 ⟨rfl, rfl⟩; rw [hsh1]; have hd0 : (0 : Nat) = 0 := rfl) | (go_at_call 27; refine (Stage_any W H F L X Y _).mono ?_; rintro e w1 ⟨rfl, hb⟩; rw [hst]; (try replace hS := hS.below hb hS.lt); (try replace hF := hF.below hb hF.lt); (try replace hP := hP.below hb hP.lt); (try replace hG := hG.below hb hG.lt); (try replace hQ := hQ.below hb hQ.lt); replace hB := hB.trans (hb.mono hB.size); (try clear qhS); (try clear qhF); (try clear qhP); (try clear qhG); (try clear qhQ); clear hb; (try have qhS := fun i => Blk.cell hS i); (try have qhF := fun i => Blk.cell hF i); (try have qhP := fun i => Blk.cell hP i); (try have qhG := fun i => Blk.cell hG i); (try have qhQ := fun i => Blk.cell hQ i)) | (go_at_call 28; have hx := hd2; clear hx; refine (refFigure_any A2 n2 cap2 rows2 _ hn2 hs2 (rdB hR2 hB)).mono ?_; rintro e w1 ⟨rfl, hb⟩; rw [hfg2]; have hd3 : (0 : Nat) = 0 := rfl; (try replace hS := hS.below hb hS.lt); (try replace hF := hF.below hb hF.lt); (try replace hP := hP.below hb hP.lt); (try replace hG := hG.below hb hG.lt); (try replace hQ := hQ.below hb hQ.lt); replace hB := hB.trans (hb.mono hB.size); (try clear qhS); (try clear qhF); (try clear qhP); (try clear qhG); (try clear qhQ); clear hb; (try have qhS := fun i => Blk.cell hS i); (try have qhF := fun i => Blk.cell hF i); (try have qhP := fun i => Blk.cell hP i); (try have qhG := fun i => Blk.cell hG i); (try have qhQ := fun i => Blk.cell hQ i)) | (go_at_call 28; refine (refFigure_any A1 n1 cap1 rows1 _ hn1 hs1 (rdB hR1 hB)).mono ?_; rintro e w1 ⟨rfl, hb⟩; rw [hfg1]; (try replace hS := hS.below hb hS.lt); (try replace hF := hF.below hb hF.lt); (try replace hP := hP.below hb hP.lt); (try replace hG := hG.below hb hG.lt); (try replace hQ := hQ.below hb hQ.lt); replace hB := hB.trans (hb.mono hB.size); (try clear qhS); (try clear qhF); (try clear qhP); (try clear qhG); (try clear qhQ); clear hb; (try have qhS := fun i => Blk.cell hS i); (try have qhF := fun i => Blk.cell hF i); (try have qhP := fun i => Blk.cell hP i); (try have qhG := fun i => Blk.cell hG i); (try have qhQ := fun i => Blk.cell hQ i)) | (go_at_call 31; refine (Place_any W H F L X Y N1 PX1 PY1 _ a5 a6).mono ?_; rintro e w1 ⟨rfl, hb⟩; rw [hpl1]; have hd2 : (0 : Nat) = 0 := rfl; (try replace hS := hS.below hb hS.lt); (try replace hF := hF.below hb hF.lt); (try replace hP := hP.below hb hP.lt); (try replace hG := hG.below hb hG.lt); (try replace hQ := hQ.below hb hQ.lt); replace hB := hB.trans (hb.mono hB.size); (try clear qhS); (try clear qhF); (try clear qhP); (try clear qhG); (try clear qhQ); clear hb; (try have qhS := fun i => Blk.cell hS i); (try have qhF := fun i => Blk.cell hF i); (try have qhP := fun i => Blk.cell hP i); (try have qhG := fun i => Blk.cell hG i); (try have qhQ := fun i => Blk.cell hQ i)) | (go_at_call 24; refine (known_true m _ (known_at hm hB)).mono ?_; rintro e w1 ⟨rfl, hb⟩; (try replace hS := hS.below hb hS.lt); (try replace hF := hF.below hb hF.lt); (try replace hP := hP.below hb hP.lt); (try replace hG := hG.below hb hG.lt); (try replace hQ := hQ.below hb hQ.lt); replace hB := hB.trans (hb.mono hB.size); (try clear qhS); (try clear qhF); (try clear qhP); (try clear qhG); (try clear qhQ); clear hb; (try have qhS := fun i => Blk.cell hS i); (try have qhF := fun i => Blk.cell hF i); (try have qhP := fun i => Blk.cell hP i); (try have qhG := fun i => Blk.cell hG i); (try have qhQ := fun i => Blk.cell hQ i)))
  go_ret
  exact ⟨rfl, hB⟩
set_option maxRecDepth 100000 in
set_option maxHeartbeats 25600000 in
theorem meeting_x7 (W H F L X Y N1 PX1 PY1 N2 PX2 PY2 : Int) (A1 : Option Addr) (n1 cap1 : Nat) (rows1 : List ByteArray) (A2 : Option Addr) (n2 cap2 : Nat) (rows2 : List ByteArray) (m : Int) (w : World) (hm : w.cell? ⟨0, 0, none⟩ = some (.int .i64 m)) (hc11 : n1 ≤ cap1) (hc12 : cap1 ≤ maxLen) (hs1 : ∀ r ∈ rows1, r.size ≤ maxLen) (hR1 : Rd w w.heap.size 1 A1 n1 (rows1.map Value.string)) (hc21 : n2 ≤ cap2) (hc22 : cap2 ≤ maxLen) (hs2 : ∀ r ∈ rows2, r.size ≤ maxLen) (hR2 : Rd w w.heap.size 1 A2 n2 (rows2.map Value.string)) (hsh1 : shortB rows1 = true) (hsh2 : shortB rows2 = true) (hst : stageB W H F L X Y = true) (hfg1 : figB rows1 = true) (hpl1 : placeB F N1 PX1 PY1 = true) (hfg2 : figB rows2 = true) (hpl2 : placeB F N2 PX2 PY2 = false) :
    Calls Tryz.prog 7 #[.agg #[.int .i64 W, .int .i64 H, .int .i64 F, .int .i64 L, .int .i64 X, .int .i64 Y], .agg #[.slice A1 n1 cap1], .agg #[.int .i64 N1, .int .i64 PX1, .int .i64 PY1], .agg #[.slice A2 n2 cap2], .agg #[.int .i64 N2, .int .i64 PX2, .int .i64 PY2]] w fun e w' => e = .returned (.bool true) ∧ Below w.heap.size w w' := by
  have hn1 : n1 ≤ maxLen := Nat.le_trans hc11 hc12
  have hn2 : n2 ≤ maxLen := Nat.le_trans hc21 hc22
  have ⟨⟨a1, a2⟩, ⟨a3, a4⟩, ⟨a5, a6⟩, _⟩ := stageB_nums hst
  go_enter Tryz.func7, Tryz.ntmps7
  go_upto_region 1 with (fail)
  have hS := blk5_0 w (.cells #[.slice A1 n1 cap1] 26) (.cells #[.int .i64 N1, .int .i64 PX1, .int .i64 PY1] 28) (.cells #[.slice A2 n2 cap2] 26) (.cells #[.int .i64 N2, .int .i64 PX2, .int .i64 PY2] 28) 23 #[.int .i64 W, .int .i64 H, .int .i64 F, .int .i64 L, .int .i64 X, .int .i64 Y]
  have hF := blk5_1 w (.cells #[.int .i64 W, .int .i64 H, .int .i64 F, .int .i64 L, .int .i64 X, .int .i64 Y] 23) (.cells #[.int .i64 N1, .int .i64 PX1, .int .i64 PY1] 28) (.cells #[.slice A2 n2 cap2] 26) (.cells #[.int .i64 N2, .int .i64 PX2, .int .i64 PY2] 28) 26 #[.slice A1 n1 cap1]
  have hP := blk5_2 w (.cells #[.int .i64 W, .int .i64 H, .int .i64 F, .int .i64 L, .int .i64 X, .int .i64 Y] 23) (.cells #[.slice A1 n1 cap1] 26) (.cells #[.slice A2 n2 cap2] 26) (.cells #[.int .i64 N2, .int .i64 PX2, .int .i64 PY2] 28) 28 #[.int .i64 N1, .int .i64 PX1, .int .i64 PY1]
  have hG := blk5_3 w (.cells #[.int .i64 W, .int .i64 H, .int .i64 F, .int .i64 L, .int .i64 X, .int .i64 Y] 23) (.cells #[.slice A1 n1 cap1] 26) (.cells #[.int .i64 N1, .int .i64 PX1, .int .i64 PY1] 28) (.cells #[.int .i64 N2, .int .i64 PX2, .int .i64 PY2] 28) 26 #[.slice A2 n2 cap2]
  have hQ := blk5_4 w (.cells #[.int .i64 W, .int .i64 H, .int .i64 F, .int .i64 L, .int .i64 X, .int .i64 Y] 23) (.cells #[.slice A1 n1 cap1] 26) (.cells #[.int .i64 N1, .int .i64 PX1, .int .i64 PY1] 28) (.cells #[.slice A2 n2 cap2] 26) 28 #[.int .i64 N2, .int .i64 PX2, .int .i64 PY2]
  have hB := pro_5 w (.cells #[.int .i64 W, .int .i64 H, .int .i64 F, .int .i64 L, .int .i64 X, .int .i64 Y] 23) (.cells #[.slice A1 n1 cap1] 26) (.cells #[.int .i64 N1, .int .i64 PX1, .int .i64 PY1] 28) (.cells #[.slice A2 n2 cap2] 26) (.cells #[.int .i64 N2, .int .i64 PX2, .int .i64 PY2] 28)
  generalize ((((w.alloc (.cells #[.int .i64 W, .int .i64 H, .int .i64 F, .int .i64 L, .int .i64 X, .int .i64 Y] 23)).alloc (.cells #[.slice A1 n1 cap1] 26)).alloc (.cells #[.int .i64 N1, .int .i64 PX1, .int .i64 PY1] 28)).alloc (.cells #[.slice A2 n2 cap2] 26)).alloc (.cells #[.int .i64 N2, .int .i64 PX2, .int .i64 PY2] 28) = W0 at *
  have qhS := fun i => Blk.cell hS i
  have qhF := fun i => Blk.cell hF i
  have qhP := fun i => Blk.cell hP i
  have qhG := fun i => Blk.cell hG i
  have qhQ := fun i => Blk.cell hQ i
  clear hc11 hc12 hc21 hc22
  go_wp2_with (first | (go_at_call 23; have hx := hd0; clear hx; refine (short_any A2 n2 cap2 rows2 _ hn2 hs2 (rdB hR2 hB)).mono ?_; rintro e w1 ⟨rfl, rfl⟩; rw [hsh2]) | (go_at_call 23; refine (short_any A1 n1 cap1 rows1 _ hn1 hs1 (rdB hR1 hB)).mono ?_; rintro e w1 ⟨rfl, rfl⟩; rw [hsh1]; have hd0 : (0 : Nat) = 0 := rfl) | (go_at_call 27; refine (Stage_any W H F L X Y _).mono ?_; rintro e w1 ⟨rfl, hb⟩; rw [hst]; (try replace hS := hS.below hb hS.lt); (try replace hF := hF.below hb hF.lt); (try replace hP := hP.below hb hP.lt); (try replace hG := hG.below hb hG.lt); (try replace hQ := hQ.below hb hQ.lt); replace hB := hB.trans (hb.mono hB.size); (try clear qhS); (try clear qhF); (try clear qhP); (try clear qhG); (try clear qhQ); clear hb; (try have qhS := fun i => Blk.cell hS i); (try have qhF := fun i => Blk.cell hF i); (try have qhP := fun i => Blk.cell hP i); (try have qhG := fun i => Blk.cell hG i); (try have qhQ := fun i => Blk.cell hQ i)) | (go_at_call 28; have hx := hd2; clear hx; refine (refFigure_any A2 n2 cap2 rows2 _ hn2 hs2 (rdB hR2 hB)).mono ?_; rintro e w1 ⟨rfl, hb⟩; rw [hfg2]; have hd3 : (0 : Nat) = 0 := rfl; (try replace hS := hS.below hb hS.lt); (try replace hF := hF.below hb hF.lt); (try replace hP := hP.below hb hP.lt); (try replace hG := hG.below hb hG.lt); (try replace hQ := hQ.below hb hQ.lt); replace hB := hB.trans (hb.mono hB.size); (try clear qhS); (try clear qhF); (try clear qhP); (try clear qhG); (try clear qhQ); clear hb; (try have qhS := fun i => Blk.cell hS i); (try have qhF := fun i => Blk.cell hF i); (try have qhP := fun i => Blk.cell hP i); (try have qhG := fun i => Blk.cell hG i); (try have qhQ := fun i => Blk.cell hQ i)) | (go_at_call 31; have hx := hd3; clear hx; refine (Place_any W H F L X Y N2 PX2 PY2 _ a5 a6).mono ?_; rintro e w1 ⟨rfl, hb⟩; rw [hpl2]; (try replace hS := hS.below hb hS.lt); (try replace hF := hF.below hb hF.lt); (try replace hP := hP.below hb hP.lt); (try replace hG := hG.below hb hG.lt); (try replace hQ := hQ.below hb hQ.lt); replace hB := hB.trans (hb.mono hB.size); (try clear qhS); (try clear qhF); (try clear qhP); (try clear qhG); (try clear qhQ); clear hb; (try have qhS := fun i => Blk.cell hS i); (try have qhF := fun i => Blk.cell hF i); (try have qhP := fun i => Blk.cell hP i); (try have qhG := fun i => Blk.cell hG i); (try have qhQ := fun i => Blk.cell hQ i)) | (go_at_call 28; refine (refFigure_any A1 n1 cap1 rows1 _ hn1 hs1 (rdB hR1 hB)).mono ?_; rintro e w1 ⟨rfl, hb⟩; rw [hfg1]; (try replace hS := hS.below hb hS.lt); (try replace hF := hF.below hb hF.lt); (try replace hP := hP.below hb hP.lt); (try replace hG := hG.below hb hG.lt); (try replace hQ := hQ.below hb hQ.lt); replace hB := hB.trans (hb.mono hB.size); (try clear qhS); (try clear qhF); (try clear qhP); (try clear qhG); (try clear qhQ); clear hb; (try have qhS := fun i => Blk.cell hS i); (try have qhF := fun i => Blk.cell hF i); (try have qhP := fun i => Blk.cell hP i); (try have qhG := fun i => Blk.cell hG i); (try have qhQ := fun i => Blk.cell hQ i)) | (go_at_call 31; refine (Place_any W H F L X Y N1 PX1 PY1 _ a5 a6).mono ?_; rintro e w1 ⟨rfl, hb⟩; rw [hpl1]; have hd2 : (0 : Nat) = 0 := rfl; (try replace hS := hS.below hb hS.lt); (try replace hF := hF.below hb hF.lt); (try replace hP := hP.below hb hP.lt); (try replace hG := hG.below hb hG.lt); (try replace hQ := hQ.below hb hQ.lt); replace hB := hB.trans (hb.mono hB.size); (try clear qhS); (try clear qhF); (try clear qhP); (try clear qhG); (try clear qhQ); clear hb; (try have qhS := fun i => Blk.cell hS i); (try have qhF := fun i => Blk.cell hF i); (try have qhP := fun i => Blk.cell hP i); (try have qhG := fun i => Blk.cell hG i); (try have qhQ := fun i => Blk.cell hQ i)) | (go_at_call 24; refine (known_true m _ (known_at hm hB)).mono ?_; rintro e w1 ⟨rfl, hb⟩; (try replace hS := hS.below hb hS.lt); (try replace hF := hF.below hb hF.lt); (try replace hP := hP.below hb hP.lt); (try replace hG := hG.below hb hG.lt); (try replace hQ := hQ.below hb hQ.lt); replace hB := hB.trans (hb.mono hB.size); (try clear qhS); (try clear qhF); (try clear qhP); (try clear qhG); (try clear qhQ); clear hb; (try have qhS := fun i => Blk.cell hS i); (try have qhF := fun i => Blk.cell hF i); (try have qhP := fun i => Blk.cell hP i); (try have qhG := fun i => Blk.cell hG i); (try have qhQ := fun i => Blk.cell hQ i)))
  go_ret
  exact ⟨rfl, hB⟩
end Go.Proofs.YtifddfchpknkbaaGreatDoor

namespace Go.Proofs.YtifddfchpknkbaaGreatDoor
open Go.RowKit

set_option maxRecDepth 100000 in
set_option maxHeartbeats 25600000 in
theorem meeting_main (Wn Hn : Nat) (F L X Y N1 PX1 PY1 N2 PX2 PY2 : Int) (A1 : Option Addr) (n1 cap1 : Nat) (rows1 : List ByteArray) (A2 : Option Addr) (n2 cap2 : Nat) (rows2 : List ByteArray) (m : Int) (w : World) (hm : w.cell? ⟨0, 0, none⟩ = some (.int .i64 m)) (hc11 : n1 ≤ cap1) (hc12 : cap1 ≤ maxLen) (hs1 : ∀ r ∈ rows1, r.size ≤ maxLen) (hR1 : Rd w w.heap.size 1 A1 n1 (rows1.map Value.string)) (hc21 : n2 ≤ cap2) (hc22 : cap2 ≤ maxLen) (hs2 : ∀ r ∈ rows2, r.size ≤ maxLen) (hR2 : Rd w w.heap.size 1 A2 n2 (rows2.map Value.string)) (P me own cf df cg dg u v : Int) (rsJ : List ByteArray)
    (hsh1 : shortB rows1 = true) (hsh2 : shortB rows2 = true) (hst : stageB Wn Hn F L X Y = true) (hfg1 : figB rows1 = true) (hpl1 : placeB F N1 PX1 PY1 = true) (hfg2 : figB rows2 = true) (hpl2 : placeB F N2 PX2 PY2 = true)
    (HM1 : Hid (meetsR Wn Hn F L X Y N1 PX1 PY1 N2 PX2 PY2 rows1 rows2 = #[.int .i64 me, .int .i64 0])) (HM2 : Hid (meetsR Wn Hn F L X Y N2 PX2 PY2 N1 PX1 PY1 rows2 rows1 = #[.int .i64 me, .int .i64 0])) (HM3 : Hid (meetsR Wn Hn F L X Y N1 PX1 PY1 N1 PX1 PY1 rows1 rows1 = #[.int .i64 own, .int .i64 0]))
    (HC1 : Hid (countsR Wn Hn F L X Y N1 PX1 PY1 rows1 = #[.int .i64 cf, .int .i64 df, .int .i64 0])) (HC2 : Hid (countsR Wn Hn F L X Y N2 PX2 PY2 rows2 = #[.int .i64 cg, .int .i64 dg, .int .i64 0]))
    (HJE : Hid (joinedE Wn Hn F L X Y [(⟨A1, n1, cap1, rows1⟩ : Fig), (⟨A2, n2, cap2, rows2⟩ : Fig)] [(⟨N1, PX1, PY1⟩ : Pl), (⟨N2, PX2, PY2⟩ : Pl)] = 0)) (HJL : Hid (joinedL Wn Hn F L X Y [(⟨A1, n1, cap1, rows1⟩ : Fig), (⟨A2, n2, cap2, rows2⟩ : Fig)] [(⟨N1, PX1, PY1⟩ : Pl), (⟨N2, PX2, PY2⟩ : Pl)] = rsJ))
    (hJ1 : rsJ.length ≤ 100000) (hJ2 : ∀ r ∈ rsJ, r.size ≤ 100000) (HW : Hid (wholeB Wn Hn rsJ = true)) (HU : Hid (((countR rsJ ((35 : Nat) : Int) : Nat) : Int) = u)) (HV : Hid (((countR rsJ ((43 : Nat) : Int) : Nat) : Int) = v)) (HP : Hid ((Wn : Int) * Hn = P)) (hP6 : P ≤ 256)
    (HME : Hid (Meeting P me own cf df cg dg u v)) :
    Calls Tryz.prog 7 #[.agg #[.int .i64 Wn, .int .i64 Hn, .int .i64 F, .int .i64 L, .int .i64 X, .int .i64 Y], .agg #[.slice A1 n1 cap1], .agg #[.int .i64 N1, .int .i64 PX1, .int .i64 PY1], .agg #[.slice A2 n2 cap2], .agg #[.int .i64 N2, .int .i64 PX2, .int .i64 PY2]] w fun e w' => e = .returned (.bool true) ∧ Below w.heap.size w w' := by
  have hn1 : n1 ≤ maxLen := Nat.le_trans hc11 hc12
  have hn2 : n2 ≤ maxLen := Nat.le_trans hc21 hc22
  have ⟨⟨a1, a2⟩, ⟨a3, a4⟩, ⟨a5, a6⟩, _⟩ := stageB_nums hst
  go_enter Tryz.func7, Tryz.ntmps7
  go_upto_region 1 with (fail)
  have hS := blk5_0 w (.cells #[.slice A1 n1 cap1] 26) (.cells #[.int .i64 N1, .int .i64 PX1, .int .i64 PY1] 28) (.cells #[.slice A2 n2 cap2] 26) (.cells #[.int .i64 N2, .int .i64 PX2, .int .i64 PY2] 28) 23 #[.int .i64 Wn, .int .i64 Hn, .int .i64 F, .int .i64 L, .int .i64 X, .int .i64 Y]
  have hF := blk5_1 w (.cells #[.int .i64 Wn, .int .i64 Hn, .int .i64 F, .int .i64 L, .int .i64 X, .int .i64 Y] 23) (.cells #[.int .i64 N1, .int .i64 PX1, .int .i64 PY1] 28) (.cells #[.slice A2 n2 cap2] 26) (.cells #[.int .i64 N2, .int .i64 PX2, .int .i64 PY2] 28) 26 #[.slice A1 n1 cap1]
  have hP := blk5_2 w (.cells #[.int .i64 Wn, .int .i64 Hn, .int .i64 F, .int .i64 L, .int .i64 X, .int .i64 Y] 23) (.cells #[.slice A1 n1 cap1] 26) (.cells #[.slice A2 n2 cap2] 26) (.cells #[.int .i64 N2, .int .i64 PX2, .int .i64 PY2] 28) 28 #[.int .i64 N1, .int .i64 PX1, .int .i64 PY1]
  have hG := blk5_3 w (.cells #[.int .i64 Wn, .int .i64 Hn, .int .i64 F, .int .i64 L, .int .i64 X, .int .i64 Y] 23) (.cells #[.slice A1 n1 cap1] 26) (.cells #[.int .i64 N1, .int .i64 PX1, .int .i64 PY1] 28) (.cells #[.int .i64 N2, .int .i64 PX2, .int .i64 PY2] 28) 26 #[.slice A2 n2 cap2]
  have hQ := blk5_4 w (.cells #[.int .i64 Wn, .int .i64 Hn, .int .i64 F, .int .i64 L, .int .i64 X, .int .i64 Y] 23) (.cells #[.slice A1 n1 cap1] 26) (.cells #[.int .i64 N1, .int .i64 PX1, .int .i64 PY1] 28) (.cells #[.slice A2 n2 cap2] 26) 28 #[.int .i64 N2, .int .i64 PX2, .int .i64 PY2]
  have hB := pro_5 w (.cells #[.int .i64 Wn, .int .i64 Hn, .int .i64 F, .int .i64 L, .int .i64 X, .int .i64 Y] 23) (.cells #[.slice A1 n1 cap1] 26) (.cells #[.int .i64 N1, .int .i64 PX1, .int .i64 PY1] 28) (.cells #[.slice A2 n2 cap2] 26) (.cells #[.int .i64 N2, .int .i64 PX2, .int .i64 PY2] 28)
  generalize ((((w.alloc (.cells #[.int .i64 Wn, .int .i64 Hn, .int .i64 F, .int .i64 L, .int .i64 X, .int .i64 Y] 23)).alloc (.cells #[.slice A1 n1 cap1] 26)).alloc (.cells #[.int .i64 N1, .int .i64 PX1, .int .i64 PY1] 28)).alloc (.cells #[.slice A2 n2 cap2] 26)).alloc (.cells #[.int .i64 N2, .int .i64 PX2, .int .i64 PY2] 28) = W0 at *
  have qhS := fun i => Blk.cell hS i
  have qhF := fun i => Blk.cell hF i
  have qhP := fun i => Blk.cell hP i
  have qhG := fun i => Blk.cell hG i
  have qhQ := fun i => Blk.cell hQ i
  go_upto_region 3 with (first | (go_at_call 23; have hx := hd0; clear hx; refine (short_any A2 n2 cap2 rows2 _ hn2 hs2 (rdB hR2 hB)).mono ?_; rintro e w1 ⟨rfl, rfl⟩; rw [hsh2]) | (go_at_call 23; refine (short_any A1 n1 cap1 rows1 _ hn1 hs1 (rdB hR1 hB)).mono ?_; rintro e w1 ⟨rfl, rfl⟩; rw [hsh1]; have hd0 : (0 : Nat) = 0 := rfl) | (go_at_call 27; refine (Stage_any Wn Hn F L X Y _).mono ?_; rintro e w1 ⟨rfl, hb⟩; rw [hst]; (try replace hS := hS.below hb hS.lt); (try replace hF := hF.below hb hF.lt); (try replace hP := hP.below hb hP.lt); (try replace hG := hG.below hb hG.lt); (try replace hQ := hQ.below hb hQ.lt); replace hB := hB.trans (hb.mono hB.size); (try clear qhS); (try clear qhF); (try clear qhP); (try clear qhG); (try clear qhQ); clear hb; (try have qhS := fun i => Blk.cell hS i); (try have qhF := fun i => Blk.cell hF i); (try have qhP := fun i => Blk.cell hP i); (try have qhG := fun i => Blk.cell hG i); (try have qhQ := fun i => Blk.cell hQ i)) | (go_at_call 28; have hx := hd2; clear hx; refine (refFigure_any A2 n2 cap2 rows2 _ hn2 hs2 (rdB hR2 hB)).mono ?_; rintro e w1 ⟨rfl, hb⟩; rw [hfg2]; have hd3 : (0 : Nat) = 0 := rfl; (try replace hS := hS.below hb hS.lt); (try replace hF := hF.below hb hF.lt); (try replace hP := hP.below hb hP.lt); (try replace hG := hG.below hb hG.lt); (try replace hQ := hQ.below hb hQ.lt); replace hB := hB.trans (hb.mono hB.size); (try clear qhS); (try clear qhF); (try clear qhP); (try clear qhG); (try clear qhQ); clear hb; (try have qhS := fun i => Blk.cell hS i); (try have qhF := fun i => Blk.cell hF i); (try have qhP := fun i => Blk.cell hP i); (try have qhG := fun i => Blk.cell hG i); (try have qhQ := fun i => Blk.cell hQ i)) | (go_at_call 31; have hx := hd3; clear hx; refine (Place_any Wn Hn F L X Y N2 PX2 PY2 _ a5 a6).mono ?_; rintro e w1 ⟨rfl, hb⟩; rw [hpl2]; (try replace hS := hS.below hb hS.lt); (try replace hF := hF.below hb hF.lt); (try replace hP := hP.below hb hP.lt); (try replace hG := hG.below hb hG.lt); (try replace hQ := hQ.below hb hQ.lt); replace hB := hB.trans (hb.mono hB.size); (try clear qhS); (try clear qhF); (try clear qhP); (try clear qhG); (try clear qhQ); clear hb; (try have qhS := fun i => Blk.cell hS i); (try have qhF := fun i => Blk.cell hF i); (try have qhP := fun i => Blk.cell hP i); (try have qhG := fun i => Blk.cell hG i); (try have qhQ := fun i => Blk.cell hQ i)) | (go_at_call 28; refine (refFigure_any A1 n1 cap1 rows1 _ hn1 hs1 (rdB hR1 hB)).mono ?_; rintro e w1 ⟨rfl, hb⟩; rw [hfg1]; (try replace hS := hS.below hb hS.lt); (try replace hF := hF.below hb hF.lt); (try replace hP := hP.below hb hP.lt); (try replace hG := hG.below hb hG.lt); (try replace hQ := hQ.below hb hQ.lt); replace hB := hB.trans (hb.mono hB.size); (try clear qhS); (try clear qhF); (try clear qhP); (try clear qhG); (try clear qhQ); clear hb; (try have qhS := fun i => Blk.cell hS i); (try have qhF := fun i => Blk.cell hF i); (try have qhP := fun i => Blk.cell hP i); (try have qhG := fun i => Blk.cell hG i); (try have qhQ := fun i => Blk.cell hQ i)) | (go_at_call 31; refine (Place_any Wn Hn F L X Y N1 PX1 PY1 _ a5 a6).mono ?_; rintro e w1 ⟨rfl, hb⟩; rw [hpl1]; have hd2 : (0 : Nat) = 0 := rfl; (try replace hS := hS.below hb hS.lt); (try replace hF := hF.below hb hF.lt); (try replace hP := hP.below hb hP.lt); (try replace hG := hG.below hb hG.lt); (try replace hQ := hQ.below hb hQ.lt); replace hB := hB.trans (hb.mono hB.size); (try clear qhS); (try clear qhF); (try clear qhP); (try clear qhG); (try clear qhQ); clear hb; (try have qhS := fun i => Blk.cell hS i); (try have qhF := fun i => Blk.cell hF i); (try have qhP := fun i => Blk.cell hP i); (try have qhG := fun i => Blk.cell hG i); (try have qhQ := fun i => Blk.cell hQ i)))
  clear hsh1 hsh2 hst hfg1 hpl1 hfg2 hpl2 hd0 hd2 hd3
  go_upto_region 4 with ((go_at_call 44; refine (Meets_any Wn Hn F L X Y N1 PX1 PY1 A1 n1 cap1 rows1 N2 PX2 PY2 A2 n2 cap2 rows2 _ hc11 hc12 hs1 (rdB hR1 hB) hc21 hc22 hs2 (rdB hR2 hB)).mono ?_; rintro e w1 ⟨rfl, hb⟩; rw [HM1.out]; (try replace hS := hS.below hb hS.lt); (try replace hF := hF.below hb hF.lt); (try replace hP := hP.below hb hP.lt); (try replace hG := hG.below hb hG.lt); (try replace hQ := hQ.below hb hQ.lt); replace hB := hB.trans (hb.mono hB.size); (try clear qhS); (try clear qhF); (try clear qhP); (try clear qhG); (try clear qhQ); clear hb; (try have qhS := fun i => Blk.cell hS i); (try have qhF := fun i => Blk.cell hF i); (try have qhP := fun i => Blk.cell hP i); (try have qhG := fun i => Blk.cell hG i); (try have qhQ := fun i => Blk.cell hQ i)))
  go_upto_region 5 with ((go_at_call 44; refine (Meets_any Wn Hn F L X Y N2 PX2 PY2 A2 n2 cap2 rows2 N1 PX1 PY1 A1 n1 cap1 rows1 _ hc21 hc22 hs2 (rdB hR2 hB) hc11 hc12 hs1 (rdB hR1 hB)).mono ?_; rintro e w1 ⟨rfl, hb⟩; rw [HM2.out]; (try replace hS := hS.below hb hS.lt); (try replace hF := hF.below hb hF.lt); (try replace hP := hP.below hb hP.lt); (try replace hG := hG.below hb hG.lt); (try replace hQ := hQ.below hb hQ.lt); replace hB := hB.trans (hb.mono hB.size); (try clear qhS); (try clear qhF); (try clear qhP); (try clear qhG); (try clear qhQ); clear hb; (try have qhS := fun i => Blk.cell hS i); (try have qhF := fun i => Blk.cell hF i); (try have qhP := fun i => Blk.cell hP i); (try have qhG := fun i => Blk.cell hG i); (try have qhQ := fun i => Blk.cell hQ i)))
  go_upto_region 6 with ((go_at_call 44; refine (Meets_any Wn Hn F L X Y N1 PX1 PY1 A1 n1 cap1 rows1 N1 PX1 PY1 A1 n1 cap1 rows1 _ hc11 hc12 hs1 (rdB hR1 hB) hc11 hc12 hs1 (rdB hR1 hB)).mono ?_; rintro e w1 ⟨rfl, hb⟩; rw [HM3.out]; (try replace hS := hS.below hb hS.lt); (try replace hF := hF.below hb hF.lt); (try replace hP := hP.below hb hP.lt); (try replace hG := hG.below hb hG.lt); (try replace hQ := hQ.below hb hQ.lt); replace hB := hB.trans (hb.mono hB.size); (try clear qhS); (try clear qhF); (try clear qhP); (try clear qhG); (try clear qhQ); clear hb; (try have qhS := fun i => Blk.cell hS i); (try have qhF := fun i => Blk.cell hF i); (try have qhP := fun i => Blk.cell hP i); (try have qhG := fun i => Blk.cell hG i); (try have qhQ := fun i => Blk.cell hQ i)))
  go_upto_region 7 with ((go_at_call 30; refine (Counts_any Wn Hn F L X Y N1 PX1 PY1 A1 n1 cap1 rows1 _ hc11 hc12 hs1 (rdB hR1 hB)).mono ?_; rintro e w1 ⟨rfl, hb⟩; rw [HC1.out]; (try replace hS := hS.below hb hS.lt); (try replace hF := hF.below hb hF.lt); (try replace hP := hP.below hb hP.lt); (try replace hG := hG.below hb hG.lt); (try replace hQ := hQ.below hb hQ.lt); replace hB := hB.trans (hb.mono hB.size); (try clear qhS); (try clear qhF); (try clear qhP); (try clear qhG); (try clear qhQ); clear hb; (try have qhS := fun i => Blk.cell hS i); (try have qhF := fun i => Blk.cell hF i); (try have qhP := fun i => Blk.cell hP i); (try have qhG := fun i => Blk.cell hG i); (try have qhQ := fun i => Blk.cell hQ i)))
  go_upto_region 8 with ((go_at_call 30; refine (Counts_any Wn Hn F L X Y N2 PX2 PY2 A2 n2 cap2 rows2 _ hc21 hc22 hs2 (rdB hR2 hB)).mono ?_; rintro e w1 ⟨rfl, hb⟩; rw [HC2.out]; (try replace hS := hS.below hb hS.lt); (try replace hF := hF.below hb hF.lt); (try replace hP := hP.below hb hP.lt); (try replace hG := hG.below hb hG.lt); (try replace hQ := hQ.below hb hQ.lt); replace hB := hB.trans (hb.mono hB.size); (try clear qhS); (try clear qhF); (try clear qhP); (try clear qhG); (try clear qhQ); clear hb; (try have qhS := fun i => Blk.cell hS i); (try have qhF := fun i => Blk.cell hF i); (try have qhP := fun i => Blk.cell hP i); (try have qhG := fun i => Blk.cell hG i); (try have qhQ := fun i => Blk.cell hQ i)))
  clear HM1 HM2 HM3 HC1 HC2
  rename World => WJ
  have hl1 := hS.lt; have hl2 := hF.lt; have hl3 := hP.lt; have hl4 := hG.lt; have hl5 := hQ.lt
  have hfs : ∀ f ∈ [(⟨A1, n1, cap1, rows1⟩ : Fig), (⟨A2, n2, cap2, rows2⟩ : Fig)], f.ok ((WJ.alloc (.cells #[.slice A1 n1 cap1, .slice A2 n2 cap2] 26)).alloc (.cells #[.int .i64 N1, .int .i64 PX1, .int .i64 PY1, .int .i64 N2, .int .i64 PX2, .int .i64 PY2] 28)) ((WJ.alloc (.cells #[.slice A1 n1 cap1, .slice A2 n2 cap2] 26)).alloc (.cells #[.int .i64 N1, .int .i64 PX1, .int .i64 PY1, .int .i64 N2, .int .i64 PX2, .int .i64 PY2] 28)).heap.size := by
    have e1 := (((rdB hR1 hB).alloc (Nat.le_refl _) (.cells #[.slice A1 n1 cap1, .slice A2 n2 cap2] 26)).alloc (by simp) (.cells #[.int .i64 N1, .int .i64 PX1, .int .i64 PY1, .int .i64 N2, .int .i64 PX2, .int .i64 PY2] 28)).more (show WJ.heap.size ≤ ((WJ.alloc (.cells #[.slice A1 n1 cap1, .slice A2 n2 cap2] 26)).alloc (.cells #[.int .i64 N1, .int .i64 PX1, .int .i64 PY1, .int .i64 N2, .int .i64 PX2, .int .i64 PY2] 28)).heap.size by simp only [World.size_alloc]; omega)
    have e2 := (((rdB hR2 hB).alloc (Nat.le_refl _) (.cells #[.slice A1 n1 cap1, .slice A2 n2 cap2] 26)).alloc (by simp) (.cells #[.int .i64 N1, .int .i64 PX1, .int .i64 PY1, .int .i64 N2, .int .i64 PX2, .int .i64 PY2] 28)).more (show WJ.heap.size ≤ ((WJ.alloc (.cells #[.slice A1 n1 cap1, .slice A2 n2 cap2] 26)).alloc (.cells #[.int .i64 N1, .int .i64 PX1, .int .i64 PY1, .int .i64 N2, .int .i64 PX2, .int .i64 PY2] 28)).heap.size by simp only [World.size_alloc]; omega)
    intro f hf
    rcases List.mem_cons.1 hf with rfl | hf
    · exact ⟨hc11, hc12, hs1, e1⟩
    · obtain rfl : f = (⟨A2, n2, cap2, rows2⟩ : Fig) := by simpa using hf
      exact ⟨hc21, hc22, hs2, e2⟩
  have hrf : Rd ((WJ.alloc (.cells #[.slice A1 n1 cap1, .slice A2 n2 cap2] 26)).alloc (.cells #[.int .i64 N1, .int .i64 PX1, .int .i64 PY1, .int .i64 N2, .int .i64 PX2, .int .i64 PY2] 28)) ((WJ.alloc (.cells #[.slice A1 n1 cap1, .slice A2 n2 cap2] 26)).alloc (.cells #[.int .i64 N1, .int .i64 PX1, .int .i64 PY1, .int .i64 N2, .int .i64 PX2, .int .i64 PY2] 28)).heap.size 1 (some ⟨WJ.heap.size, 0, none⟩) 2 ([(⟨A1, n1, cap1, rows1⟩ : Fig), (⟨A2, n2, cap2, rows2⟩ : Fig)].map Fig.val) := Rd.blkN ((Blk.new WJ 26 #[.slice A1 n1 cap1, .slice A2 n2 cap2]).alloc (.cells #[.int .i64 N1, .int .i64 PX1, .int .i64 PY1, .int .i64 N2, .int .i64 PX2, .int .i64 PY2] 28)) rfl (by simp only [World.size_alloc]; omega)
  have hrp : Rd ((WJ.alloc (.cells #[.slice A1 n1 cap1, .slice A2 n2 cap2] 26)).alloc (.cells #[.int .i64 N1, .int .i64 PX1, .int .i64 PY1, .int .i64 N2, .int .i64 PX2, .int .i64 PY2] 28)) ((WJ.alloc (.cells #[.slice A1 n1 cap1, .slice A2 n2 cap2] 26)).alloc (.cells #[.int .i64 N1, .int .i64 PX1, .int .i64 PY1, .int .i64 N2, .int .i64 PX2, .int .i64 PY2] 28)).heap.size 3 (some ⟨WJ.heap.size + 1, 0, none⟩) 2 ([(⟨N1, PX1, PY1⟩ : Pl), (⟨N2, PX2, PY2⟩ : Pl)].flatMap plC) := Rd.blkN (blk2_1 WJ (.cells #[.slice A1 n1 cap1, .slice A2 n2 cap2] 26) 28 #[.int .i64 N1, .int .i64 PX1, .int .i64 PY1, .int .i64 N2, .int .i64 PX2, .int .i64 PY2]) rfl (by simp only [World.size_alloc]; omega)
  have hBB := pro_2 WJ (.cells #[.slice A1 n1 cap1, .slice A2 n2 cap2] 26) (.cells #[.int .i64 N1, .int .i64 PX1, .int .i64 PY1, .int .i64 N2, .int .i64 PX2, .int .i64 PY2] 28)
  have hJO := Joined_any Wn Hn F L X Y (some ⟨WJ.heap.size, 0, none⟩) 2 2 [(⟨A1, n1, cap1, rows1⟩ : Fig), (⟨A2, n2, cap2, rows2⟩ : Fig)] (some ⟨WJ.heap.size + 1, 0, none⟩) 2 2 [(⟨N1, PX1, PY1⟩ : Pl), (⟨N2, PX2, PY2⟩ : Pl)] _ (Nat.le_refl _) (by unfold maxLen; omega) hfs hrf hrp
  rw [HJE.out, HJL.out] at hJO
  clear hfs hrf hrp
  go_upto_region 9 with (go_at_call 40; refine hJO.mono ?_; rintro e w1 ⟨vJ, rfl, hIs, hb⟩; obtain ⟨AJ, nJ, cJ, rfl, hj1, hj2, hA⟩ := hIs; replace hb := hBB.trans (hb.mono hBB.size); clear hBB; (try replace hS := hS.below hb hS.lt); (try replace hF := hF.below hb hF.lt); (try replace hP := hP.below hb hP.lt); (try replace hG := hG.below hb hG.lt); (try replace hQ := hQ.below hb hQ.lt); replace hB := hB.trans (hb.mono hB.size); (try clear qhS); (try clear qhF); (try clear qhP); (try clear qhG); (try clear qhQ); clear hb; (try have qhS := fun i => Blk.cell hS i); (try have qhF := fun i => Blk.cell hF i); (try have qhP := fun i => Blk.cell hP i); (try have qhG := fun i => Blk.cell hG i); (try have qhQ := fun i => Blk.cell hQ i))
  clear hl1 hl2 hl3 hl4 hl5
  clear hJO HJE HJL hc11 hc12 hc21 hc22 hs1 hs2 hR1 hR2
  have hAl := hA.len
  obtain ⟨p1, p2, p3, p4, p5, f1, f2, f3, f4, f5, hmm, hoo⟩ := HME.out
  have q1 : ((me : Int) != me) = false := by simp
  have g1 : ¬ (cf : Int) < 0 := by omega
  have g2 : ¬ (df : Int) < 0 := by omega
  have g3 : ¬ (cg : Int) < 0 := by omega
  have g4 : ¬ (dg : Int) < 0 := by omega
  have g5 : ¬ (P : Int) < cf := by omega
  have g6 : ¬ (P : Int) < df := by omega
  have g7 : ¬ (P : Int) < cg := by omega
  have g8 : ¬ (P : Int) < dg := by omega
  have g9 : ¬ (P : Int) < (cf : Int) + df := by omega
  have k1 := i64_ok ((Wn : Int) * Hn) (by rw [HP.out]; omega)
  have k2 := i64_ok ((cf : Int) + df) (by omega)
  have k3 := i64_ok ((cf : Int) + cg) (by omega)
  have k4 := i64_ok ((df : Int) + dg) (by omega)
  have k5 : ((Wn : Int) * Hn) = P := HP.out
  have u1 : ¬ (cf : Int) + cg < u := by omega
  obtain ⟨b1, hb1⟩ : ∃ b, b = ((own : Int) == 3) := ⟨_, rfl⟩
  obtain ⟨b2, hb2⟩ : ∃ b, b = ((own : Int) == 1) := ⟨_, rfl⟩
  obtain ⟨b3, hb3⟩ : ∃ b, b = ((me : Int) == 3) := ⟨_, rfl⟩
  have e1 : decide ((0 : Int) < cf) = b1 := by rw [hb1]; rcases hoo with ⟨h1, h2⟩ | ⟨h1, h2, h3⟩ | ⟨h1, h2, h3⟩ <;> rw [h1] <;> simp <;> omega
  have e2 : ((cf : Int) + df == 0) = b2 := by rw [hb2]; rcases hoo with ⟨h1, h2⟩ | ⟨h1, h2, h3⟩ | ⟨h1, h2, h3⟩ <;> rw [h1] <;> simp <;> omega
  have e3 : decide ((u : Int) < (cf : Int) + cg) = b3 := by rw [hb3]; rcases hmm with ⟨h1, h2⟩ | ⟨h1, h2⟩ | ⟨h1, h2, h3⟩ <;> rw [h1] <;> simp <;> omega
  replace hb1 := hb1.symm; replace hb2 := hb2.symm; replace hb3 := hb3.symm
  have mx : max (cf : Int) cg ≤ u := by omega
  have hmm2 : ((me : Int) != 1) = true ∨ (((me : Int) != 1) = false ∧ (v : Int) = (df : Int) + dg) := by
    rcases hmm with ⟨h1, h2⟩ | ⟨h1, h2⟩ | ⟨h1, h2, h3⟩
    · exact .inl (by rw [h1]; rfl)
    · exact .inl (by rw [h1]; rfl)
    · exact .inr ⟨by rw [h1]; rfl, by omega⟩
  have HMM := Lib.hid hmm2
  have HAL := Lib.hid hAl
  clear hmm hoo hmm2 hAl HME f1 f2 f3 f4 f5
  have hnJ : nJ ≤ 100000 := by rw [← HAL.out]; exact hJ1
  go_upto_region 11 with (go_at_call 35; refine (whole_any Wn Hn F L X Y AJ nJ cJ rsJ _ hnJ hJ2 hA).mono ?_; rintro e w1 ⟨rfl, hb⟩; rw [HW.out]; replace hA := rdB hA hb; (try replace hS := hS.below hb hS.lt); (try replace hF := hF.below hb hF.lt); (try replace hP := hP.below hb hP.lt); (try replace hG := hG.below hb hG.lt); (try replace hQ := hQ.below hb hQ.lt); replace hB := hB.trans (hb.mono hB.size); (try clear qhS); (try clear qhF); (try clear qhP); (try clear qhG); (try clear qhQ); clear hb; (try have qhS := fun i => Blk.cell hS i); (try have qhF := fun i => Blk.cell hF i); (try have qhP := fun i => Blk.cell hP i); (try have qhG := fun i => Blk.cell hG i); (try have qhQ := fun i => Blk.cell hQ i))
  clear HW
  go_upto_region 14 with (fail)
  go_upto_region 15 with (go_at_call 34; refine (refCount_any AJ nJ cJ rsJ 35 _ hnJ (by omega) hJ2 hA).mono ?_; rintro e w1 ⟨rfl, rfl⟩; rw [HU.out])
  clear e1 e2 hb1 hb2 HU g1 g2 g3 g4 g5 g6 g7 g8 g9
  go_upto_region 17 with (fail)
  rcases HMM.out with h1 | ⟨h1, h2⟩
  · as_aux_lemma =>
      clear HMM HV
      go_wp2_with ((go_at_call 24; refine (known_true m _ (known_at hm hB)).mono ?_; rintro e w1 ⟨rfl, hb⟩; (try replace hS := hS.below hb hS.lt); (try replace hF := hF.below hb hF.lt); (try replace hP := hP.below hb hP.lt); (try replace hG := hG.below hb hG.lt); (try replace hQ := hQ.below hb hQ.lt); replace hB := hB.trans (hb.mono hB.size); (try clear qhS); (try clear qhF); (try clear qhP); (try clear qhG); (try clear qhQ); clear hb; (try have qhS := fun i => Blk.cell hS i); (try have qhF := fun i => Blk.cell hF i); (try have qhP := fun i => Blk.cell hP i); (try have qhG := fun i => Blk.cell hG i); (try have qhQ := fun i => Blk.cell hQ i)))
      go_ret
      exact ⟨rfl, hB⟩
  · as_aux_lemma =>
      clear HMM
      have h3 : ((v : Int) == (df : Int) + dg) = true := by rw [h2]; simp
      clear h2
      go_wp2_with (first | (go_at_call 34; refine (refCount_any AJ nJ cJ rsJ 43 _ hnJ (by omega) hJ2 hA).mono ?_; rintro e w1 ⟨rfl, rfl⟩; rw [HV.out]) | (go_at_call 24; refine (known_true m _ (known_at hm hB)).mono ?_; rintro e w1 ⟨rfl, hb⟩; (try replace hS := hS.below hb hS.lt); (try replace hF := hF.below hb hF.lt); (try replace hP := hP.below hb hP.lt); (try replace hG := hG.below hb hG.lt); (try replace hQ := hQ.below hb hQ.lt); replace hB := hB.trans (hb.mono hB.size); (try clear qhS); (try clear qhF); (try clear qhP); (try clear qhG); (try clear qhQ); clear hb; (try have qhS := fun i => Blk.cell hS i); (try have qhF := fun i => Blk.cell hF i); (try have qhP := fun i => Blk.cell hP i); (try have qhG := fun i => Blk.cell hG i); (try have qhQ := fun i => Blk.cell hQ i)))
      go_ret
      exact ⟨rfl, hB⟩
theorem meeting_law (W H F L X Y N1 PX1 PY1 N2 PX2 PY2 : Int) (A1 : Option Addr) (n1 cap1 : Nat) (rows1 : List ByteArray) (A2 : Option Addr) (n2 cap2 : Nat) (rows2 : List ByteArray) (m : Int) (w : World) (hm : w.cell? ⟨0, 0, none⟩ = some (.int .i64 m)) (hc11 : n1 ≤ cap1) (hc12 : cap1 ≤ maxLen) (hs1 : ∀ r ∈ rows1, r.size ≤ maxLen) (hR1 : Rd w w.heap.size 1 A1 n1 (rows1.map Value.string)) (hc21 : n2 ≤ cap2) (hc22 : cap2 ≤ maxLen) (hs2 : ∀ r ∈ rows2, r.size ≤ maxLen) (hR2 : Rd w w.heap.size 1 A2 n2 (rows2.map Value.string)) :
    Calls Tryz.prog 7 #[.agg #[.int .i64 W, .int .i64 H, .int .i64 F, .int .i64 L, .int .i64 X, .int .i64 Y], .agg #[.slice A1 n1 cap1], .agg #[.int .i64 N1, .int .i64 PX1, .int .i64 PY1], .agg #[.slice A2 n2 cap2], .agg #[.int .i64 N2, .int .i64 PX2, .int .i64 PY2]] w fun e w' => e = .returned (.bool true) ∧ Below w.heap.size w w' := by
  cases hsh1 : shortB rows1
  · exact meeting_x1 W H F L X Y N1 PX1 PY1 N2 PX2 PY2 A1 n1 cap1 rows1 A2 n2 cap2 rows2 m w hm hc11 hc12 hs1 hR1 hc21 hc22 hs2 hR2 hsh1
  cases hsh2 : shortB rows2
  · exact meeting_x2 W H F L X Y N1 PX1 PY1 N2 PX2 PY2 A1 n1 cap1 rows1 A2 n2 cap2 rows2 m w hm hc11 hc12 hs1 hR1 hc21 hc22 hs2 hR2 hsh1 hsh2
  cases hst : stageB W H F L X Y
  · exact meeting_x3 W H F L X Y N1 PX1 PY1 N2 PX2 PY2 A1 n1 cap1 rows1 A2 n2 cap2 rows2 m w hm hc11 hc12 hs1 hR1 hc21 hc22 hs2 hR2 hsh1 hsh2 hst
  cases hfg1 : figB rows1
  · exact meeting_x4 W H F L X Y N1 PX1 PY1 N2 PX2 PY2 A1 n1 cap1 rows1 A2 n2 cap2 rows2 m w hm hc11 hc12 hs1 hR1 hc21 hc22 hs2 hR2 hsh1 hsh2 hst hfg1
  cases hpl1 : placeB F N1 PX1 PY1
  · exact meeting_x5 W H F L X Y N1 PX1 PY1 N2 PX2 PY2 A1 n1 cap1 rows1 A2 n2 cap2 rows2 m w hm hc11 hc12 hs1 hR1 hc21 hc22 hs2 hR2 hsh1 hsh2 hst hfg1 hpl1
  cases hfg2 : figB rows2
  · exact meeting_x6 W H F L X Y N1 PX1 PY1 N2 PX2 PY2 A1 n1 cap1 rows1 A2 n2 cap2 rows2 m w hm hc11 hc12 hs1 hR1 hc21 hc22 hs2 hR2 hsh1 hsh2 hst hfg1 hpl1 hfg2
  cases hpl2 : placeB F N2 PX2 PY2
  · exact meeting_x7 W H F L X Y N1 PX1 PY1 N2 PX2 PY2 A1 n1 cap1 rows1 A2 n2 cap2 rows2 m w hm hc11 hc12 hs1 hR1 hc21 hc22 hs2 hR2 hsh1 hsh2 hst hfg1 hpl1 hfg2 hpl2
  have ⟨⟨a1, a2⟩, ⟨a3, a4⟩, ⟨a5, a6⟩, _⟩ := stageB_nums hst
  obtain ⟨Wn, rfl⟩ : ∃ k : Nat, W = k := ⟨W.toNat, by omega⟩
  obtain ⟨Hn, rfl⟩ : ∃ k : Nat, H = k := ⟨H.toNat, by omega⟩
  have hv1 : viewB Wn Hn F L X Y N1 PX1 PY1 rows1 = true := viewB_of hst hfg1 hpl1
  have hv2 : viewB Wn Hn F L X Y N2 PX2 PY2 rows2 = true := viewB_of hst hfg2 hpl2
  obtain ⟨me, own, e1, e2, hM⟩ := meeting_facts Wn Hn F L X Y ((⟨A1, n1, cap1, rows1⟩ : Fig), (⟨N1, PX1, PY1⟩ : Pl)) ((⟨A2, n2, cap2, rows2⟩ : Fig), (⟨N2, PX2, PY2⟩ : Pl))
  dsimp only at e1 e2 hM
  have e3 := meetV_comm (shS Wn Hn F L X Y N1 PX1 PY1 rows1) (shS Wn Hn F L X Y N2 PX2 PY2 rows2)
  have hle : Wn * Hn ≤ 256 := Nat.mul_le_mul (show Wn ≤ 16 by omega) (show Hn ≤ 16 by omega)
  have hjb : joinedB Wn Hn F L X Y [(⟨A1, n1, cap1, rows1⟩ : Fig), (⟨A2, n2, cap2, rows2⟩ : Fig)] [(⟨N1, PX1, PY1⟩ : Pl), (⟨N2, PX2, PY2⟩ : Pl)] = true := by
    unfold joinedB
    rw [hst]
    simp [zok, hfg1, hfg2, hpl1, hpl2]
  have hsz := jS_size Wn Hn F L X Y [((⟨A1, n1, cap1, rows1⟩ : Fig), (⟨N1, PX1, PY1⟩ : Pl)), ((⟨A2, n2, cap2, rows2⟩ : Fig), (⟨N2, PX2, PY2⟩ : Pl))]
  refine meeting_main Wn Hn F L X Y N1 PX1 PY1 N2 PX2 PY2 A1 n1 cap1 rows1 A2 n2 cap2 rows2 m w hm hc11 hc12 hs1 hR1 hc21 hc22 hs2 hR2 ((Wn * Hn : Nat) : Int) me own _ _ _ _ _ _ (rowsOf (jS Wn Hn F L X Y [((⟨A1, n1, cap1, rows1⟩ : Fig), (⟨N1, PX1, PY1⟩ : Pl)), ((⟨A2, n2, cap2, rows2⟩ : Fig), (⟨N2, PX2, PY2⟩ : Pl))]) Wn Hn) hsh1 hsh2 hst hfg1 hpl1 hfg2 hpl2
    (Lib.hid (by unfold meetsR; rw [hv1, hv2, e1]; rfl)) (Lib.hid (by unfold meetsR; rw [hv1, hv2, ← e3, e1]; rfl)) (Lib.hid (by unfold meetsR; rw [hv1, e2]; rfl))
    (Lib.hid (by unfold countsR; rw [if_pos hv1])) (Lib.hid (by unfold countsR; rw [if_pos hv2])) (Lib.hid (by unfold joinedE; rw [hjb]; rfl)) (Lib.hid (by unfold joinedL; rw [if_pos hjb, Int.toNat_natCast, Int.toNat_natCast]; rfl))
    (by rw [rowsOf_len]; omega) (fun s hs => by obtain ⟨i, hi, rfl⟩ := rowsOf_mem hs; rw [cut_size hsz hi]; omega) (Lib.hid (whole_str hsz (jS_tri Wn Hn F L X Y _))) (Lib.hid (by rw [countR_rows hsz]; rfl)) (Lib.hid (by rw [countR_rows hsz]; rfl)) (Lib.hid (by rw [Int.natCast_mul])) (by omega) (Lib.hid hM)
end Go.Proofs.YtifddfchpknkbaaGreatDoor
