import Derived.Test.YtekmnelpkogppaaGreatDoorProg
import Derived.Test.YtekmnelpkogppaaGreatDoorKy0
import Derived.Test.YtekmnelpkogppaaGreatDoorKy1
import Derived.Test.YtekmnelpkogppaaGreatDoorKy3
import Derived.Test.YtekmnelpkogppaaGreatDoorKy7
import Derived.Test.YtekmnelpkogppaaGreatDoorKy8
import Derived.Recover
import Derived.Defers
set_option linter.unusedVariables false
set_option linter.unusedSimpArgs false
set_option maxRecDepth 100000
set_option maxHeartbeats 40000000
namespace Go.Proofs.YtekmnelpkogppaaGreatDoor
section
open Go.RowKit Go.Lib Go.Maps
def askE (o : Option QU) : Ending := match o with | some q => .returned (.tuple #[.int .i64 q.copy, .int .i64 q.line, .int .i64 q.left, .int .i64 0]) | none => .returned (.tuple #[.int .i64 0, .int .i64 0, .int .i64 0, .int .i64 5])
theorem Ask_yes {wn : Nat} {A : Option Addr} {n : Nat} (cap : Nat) {cs : List VC} {w : World} (hb : BkG wn A n cs w w.heap.size) (h1 : bookB (wn : Int) cs = true) :
  Calls Tryz.prog 60 #[.agg #[.int .i64 (wn : Int), .slice A n cap]] w fun e w' => e = askE (bestI QU.left (qAll wn cs n)) ∧ Below w.heap.size w w' := by
 have hX := Blk.new w 24 #[.int .i64 (wn : Int), .slice A n cap]
 have hB : Below w.heap.size w (w.alloc (.cells #[.int .i64 (wn : Int), .slice A n cap] 24)) := (Below.refl _ w).alloc (Nat.le_refl _) _
 have qX := fun i => hX.cell i
 have hgb := fun (wx : World) (hx : Below w.heap.size w wx) => goodBook_any (wn : Int) A n cap cs wx (by have := hb.2.1.2; unfold maxLen; omega) (rdB hb.2.2.2.1 hx) (fun c h => okB (hb.2.2.2.2.1 c h) hx)
 simp only [h1] at hgb
 have hqa := fun (wx : World) (hx : Below w.heap.size w wx) => questions_any cap (hb.toW hx)
 have hql := qAll_len wn cs n
 have hkL : n * headN cs ≤ 5 * 4 := Nat.mul_le_mul hb.2.1.2 hb.2.2.1.2
 have HGB := Lib.hid hgb; have HQA := Lib.hid hqa
 clear hgb hqa h1 hb
 generalize qAll wn cs n = Q at *
 obtain ⟨m, hm⟩ : ∃ m, m = Q.length := ⟨_, rfl⟩
 rw [← hm] at hql
 have HM := Lib.hid hm
 have HQA2 : Hid (∀ (wx : World), Below w.heap.size w wx → Calls Tryz.prog 107 #[.agg #[.int .i64 (wn : Int), .slice A n cap]] wx fun e w' => ∃ v, e = .returned v ∧ w'.ownsRow wx.heap.size 152 3 v m (Q.flatMap QU.cells) ∧ Below wx.heap.size wx w') := by rw [hm]; exact HQA
 clear hm HQA
 obtain ⟨o, ho⟩ : ∃ o, o = bestI QU.left Q := ⟨_, rfl⟩
 rw [← ho]
 have HO := Lib.hid ho; clear ho
 go_enter Tryz.func60, Tryz.ntmps60
 go_wp2_with fail
 refine (HGB.out _ hB).mono ?_; rintro e w1 ⟨rfl, hb⟩; replace hX := hX.below hb hX.lt; replace hB := hB.trans (hb.mono hB.size); clear hb qX; have qX := fun i => hX.cell i
 go_wp2_with fail
 refine (HQA2.out _ hB).mono ?_; rintro e w2 ⟨v, rfl, hown, hb⟩
 obtain ⟨qa, qc, rfl⟩ := own_slice hown
 replace hB := hB.trans (hb.mono hB.size)
 have hbq := best_QU qa m qc Q w2 (by omega) (Rd.of_own hown)
 rw [← HO.out] at hbq
 have HBQ := Lib.hid hbq; clear hbq hb qX hX
 cases o with
 | none =>
  have hfn := fun (W : World) => (Blk.new W 152 #[.int .i64 0, .int .i64 0, .int .i64 0]).frozen 0
  go_wp2_with fail
  refine HBQ.out.mono ?_; rintro e w3 ⟨rfl, hb⟩
  replace hB := hB.trans (hb.mono hB.size); clear hb
  simp only [brQU, acQU, zcQU, Option.isSome_none, Option.isSome_some]
  go_wp2_with fail

  refine bodyPost_ret (v := .tuple #[.int .i64 0, .int .i64 0, .int .i64 0, .int .i64 5]) (by simp [results, Tryz.results60, go_sem]) rfl ?_
  exact ⟨rfl, hB.alloc hB.size _⟩
 | some q =>
  obtain ⟨qc', ql, qf⟩ := q
  go_wp2_with fail
  refine HBQ.out.mono ?_; rintro e w3 ⟨rfl, hb⟩
  replace hB := hB.trans (hb.mono hB.size); clear hb
  simp only [brQU, acQU, zcQU, Option.isSome_none, Option.isSome_some]
  obtain ⟨qc, hqc⟩ : ∃ x, x = qc' := ⟨_, rfl⟩
  subst hqc
  go_wp2_with fail
  have hQ := Blk.new w3 152 #[.int .i64 qc, .int .i64 ql, .int .i64 qf]
  replace hB := hB.alloc hB.size (.cells #[.int .i64 qc, .int .i64 ql, .int .i64 qf] 152)
  obtain ⟨b6, hb6⟩ : ∃ b6, b6 = w3.heap.size := ⟨_, rfl⟩
  rw [← hb6] at hQ ⊢
  generalize w3.alloc (.cells #[.int .i64 qc, .int .i64 ql, .int .i64 qf] 152) = w4 at *
  clear hb6
  rename World => WR
  refine wp_region_G (fun w' => Blk w' b6 152 #[.int .i64 qc, .int .i64 ql, .int .i64 qf]) 9 (by kernel_rfl) ?_
  replace hQ := hQ.drew; replace hB : Below w.heap.size w WR.drew := hB.drew
  generalize WR.drew = WD at *
  have hTT : Blk WD b6 152 #[.int .i64 qc, .int .i64 ql, .int .i64 qf] := hQ
  refine tk 0 (v := ?_) rfl (Or.inl ⟨by rfl, ?h⟩) hTT ?_
  case h => intro wq hSw; have q0 := fun i => hSw.cell i; go_simp <;> with_reducible rfl
  simp only [LS, Act.put]
  refine tk 1 (v := ?_) rfl (Or.inl ⟨by rfl, ?h⟩) hTT ?_
  case h => intro wq hSw; have q0 := fun i => hSw.cell i; go_simp <;> with_reducible rfl
  simp only [LS, Act.put]
  refine tk 2 (v := ?_) rfl (Or.inl ⟨by rfl, ?h⟩) hTT ?_
  case h => intro wq hSw; have q0 := fun i => hSw.cell i; go_simp <;> with_reducible rfl
  simp only [LS, Act.put]
  refine tk 3 (v := ?_) rfl (Or.inl ⟨by rfl, ?h⟩) hTT ?_
  case h => intro wq hSw; have q0 := fun i => hSw.cell i; go_simp <;> with_reducible rfl
  simp only [LS, Act.put]
  refine tk 4 (v := ?_) rfl (Or.inl ⟨by rfl, ?h⟩) hTT ?_
  case h => intro wq hSw; have q0 := fun i => hSw.cell i; go_simp <;> with_reducible rfl
  simp only [LS, Act.put]
  refine tk 5 (v := ?_) rfl (Or.inl ⟨by rfl, ?h⟩) hTT ?_
  case h => intro wq hSw; have q0 := fun i => hSw.cell i; go_simp <;> with_reducible rfl
  simp only [LS, Act.put]
  refine tk 6 (v := ?_) rfl (Or.inl ⟨by rfl, ?h⟩) hTT ?_
  case h => intro wq hSw; have q0 := fun i => hSw.cell i; go_simp <;> with_reducible rfl
  simp only [LS, Act.put]
  refine tk 7 (v := ?_) rfl (Or.inl ⟨by rfl, ?h⟩) hTT ?_
  case h => intro wq hSw; have q0 := fun i => hSw.cell i; go_simp <;> with_reducible rfl
  simp only [LS, Act.put]
  refine tk 8 (v := ?_) rfl (Or.inl ⟨by rfl, ?h⟩) hTT ?_
  case h => intro wq hSw; have q0 := fun i => hSw.cell i; go_simp <;> with_reducible rfl
  simp only [LS, Act.put]
  refine o1 9 rfl fun K hK => ?_
  go_simp
  refine hK _ _ (.inl rfl) ?_
  clear hK K
  try simp only [LS, Act.put]
  refine wpG_done (by kernel_rfl) ?_ _
  clear hTT
  go_wp2_with fail
  refine bodyPost_ret (v := .tuple #[.int .i64 qc, .int .i64 ql, .int .i64 qf, .int .i64 0]) (by simp [results, Tryz.results60, go_sem]) rfl ?_
  exact ⟨rfl, hB⟩
theorem Between_yes {wn : Nat} {A : Option Addr} {n : Nat} (cap : Nat) {cs : List VC} (A1 : Option Addr) (n1 c1 : Nat) (l1 : List Int) (A2 : Option Addr) (n2 c2 : Nat) (l2 : List Int) {w : World} (hb : BkG wn A n cs w w.heap.size) (h1 : bookB (wn : Int) cs = true) (hn1 : n1 ≤ maxLen) (hr1 : Rd w w.heap.size 1 A1 n1 (l1.map (Value.int .i64))) (hn2 : n2 ≤ maxLen) (hr2 : Rd w w.heap.size 1 A2 n2 (l2.map (Value.int .i64))) (h2 : lnB (wn : Int) l1 = true) (h3 : lnB (wn : Int) l2 = true) :
  Calls Tryz.prog 38 #[.agg #[.int .i64 (wn : Int), .slice A n cap], .slice A1 n1 c1, .slice A2 n2 c2] w fun e w' => (∃ v, e = .returned (.tuple #[v, .int .i64 0]) ∧ ∃ rs : List RI, w'.ownsRow w.heap.size 25 1 v (betweenL wn (lbS l1) (lbS l2)).length (rs.map RI.val) ∧ Rows w' w.heap.size rs (betweenL wn (lbS l1) (lbS l2))) ∧ Below w.heap.size w w' := by
 have hX := Blk.new w 24 #[.int .i64 (wn : Int), .slice A n cap]
 have hB : Below w.heap.size w (w.alloc (.cells #[.int .i64 (wn : Int), .slice A n cap] 24)) := (Below.refl _ w).alloc (Nat.le_refl _) _
 have qX := fun i => hX.cell i
 have hmm := @run_makeMap Tryz.prog
 have hgb := fun (wx : World) (hx : Below w.heap.size w wx) => goodBook_any (wn : Int) A n cap cs wx (by have := hb.2.1.2; unfold maxLen; omega) (rdB hb.2.2.2.1 hx) (fun c h => okB (hb.2.2.2.2.1 c h) hx)
 have hW : 1 ≤ (wn : Int) ∧ (wn : Int) ≤ 3 := by have := hb.1; omega
 simp only [h1] at hgb
 have hg1 := fun (wx : World) (hx : Below w.heap.size w wx) => goodLine_any (wn : Int) A n cap A1 n1 c1 l1 wx hW.1 hW.2 hn1 (rdB hr1 hx)
 have hg2 := fun (wx : World) (hx : Below w.heap.size w wx) => goodLine_any (wn : Int) A n cap A2 n2 c2 l2 wx hW.1 hW.2 hn2 (rdB hr2 hx)
 simp only [h2] at hg1
 simp only [h3] at hg2
 obtain ⟨s1, s2⟩ := ln_small hW h2
 obtain ⟨t1, t2⟩ := ln_small hW h3
 have hz1 : l1.length = n1 := by simpa using hr1.len
 have hz2 : l2.length = n2 := by simpa using hr2.len
 have hl1 := fun (wx : World) (hx : Below w.heap.size w wx) => lineOf_any A1 n1 c1 l1 wx (by omega) (fun x h => by have := s2 x h; omega) (rdB hr1 hx)
 have hl2 := fun (wx : World) (hx : Below w.heap.size w wx) => lineOf_any A2 n2 c2 l2 wx (by omega) (fun x h => by have := t2 x h; omega) (rdB hr2 hx)
 have hb1 : (lbS l1).size ≤ 4 := by rw [lbS_size]; exact s1
 have hb2 : (lbS l2).size ≤ 4 := by rw [lbS_size]; exact t1
 generalize lbS l1 = S1 at *
 generalize lbS l2 = S2 at *
 have hbt := fun (mb : Nat) (wx : World) (_ : w.heap.size ≤ mb) (hm : Memo wx mb 0) => between_any wn S1 S2 mb 0 wx hb.1.2 hb1 hb2 hm (by rw [KK_8]; unfold maxLen; omega)
 have hll : (betweenL wn S1 S2).length ≤ 121 := Nat.le_trans (List.length_filter_le _ _) (allLn_le hb.1.2)
 have hls : ∀ l ∈ betweenL wn S1 S2, l.size ≤ 1000 := fun l hl => by have := (allLn_mem (List.mem_filter.1 hl).1).1; omega
 obtain ⟨LS9, hLS⟩ : ∃ LS9, LS9 = betweenL wn S1 S2 := ⟨_, rfl⟩
 rw [← hLS] at hll hls
 simp only [← hLS] at hbt
 obtain ⟨m, hm'⟩ : ∃ m, m = LS9.length := ⟨_, rfl⟩
 rw [← hm'] at hll
 simp only [← hm'] at hbt
 have HGB := Lib.hid hgb; have HG1 := Lib.hid hg1; have HG2 := Lib.hid hg2; have HL1 := Lib.hid hl1; have HL2 := Lib.hid hl2; have HBT := Lib.hid hbt; have HSZ := Lib.hid hls; have HLS := Lib.hid hLS
 have HM : Hid (m = (betweenL wn S1 S2).length) := Lib.hid (by rw [hm', hLS])
 clear hgb hg1 hg2 h1 h2 h3 hl1 hl2 hz1 hz2 s1 s2 t1 t2 hbt hls hLS hm' hb
 go_enter Tryz.func38, Tryz.ntmps38
 go_wp2_with fail
 refine (HGB.out _ hB).mono ?_; rintro e w1 ⟨rfl, hb⟩; replace hX := hX.below hb hX.lt; replace hB := hB.trans (hb.mono hB.size); clear hb qX; have qX := fun i => hX.cell i
 go_wp2_with fail
 refine (HG1.out _ hB).mono ?_; rintro e w1 ⟨rfl, hb⟩; replace hX := hX.below hb hX.lt; replace hB := hB.trans (hb.mono hB.size); clear hb qX; have qX := fun i => hX.cell i
 go_wp2_with fail
 refine (HG2.out _ hB).mono ?_; rintro e w2 ⟨rfl, hb⟩; replace hX := hX.below hb hX.lt; replace hB := hB.trans (hb.mono hB.size); clear hb qX
 go_wp2_with fail
 rename World => WR
 refine wp_region_G (fun w' => Blk w' w.heap.size 24 #[.int .i64 (wn : Int), .slice A n cap]) 11 (by kernel_rfl) ?_
 replace hX := hX.drew; replace hB : Below w.heap.size w WR.drew := hB.drew
 generalize WR.drew = WD at *
 have hTT : Blk WD w.heap.size 24 #[.int .i64 (wn : Int), .slice A n cap] := hX
 refine tk 1 (v := ?_) rfl (Or.inl ⟨by rfl, ?h⟩) hTT ?_
 case h => intro wq hSw; have q0 := fun i => hSw.cell i; go_simp <;> with_reducible rfl
 simp only [LS, Act.put]
 refine tk 3 (v := ?_) rfl (Or.inl ⟨by rfl, ?h⟩) hTT ?_
 case h => intro wq hSw; have q0 := fun i => hSw.cell i; go_simp <;> with_reducible rfl
 simp only [LS, Act.put]
 refine tk 6 (v := ?_) rfl (Or.inl ⟨by rfl, ?h⟩) hTT ?_
 case h => intro wq hSw; have q0 := fun i => hSw.cell i; go_simp <;> with_reducible rfl
 simp only [LS, Act.put]
 refine tk 7 (v := ?_) rfl (Or.inl ⟨by rfl, ?h⟩) hTT ?_
 case h => intro wq hSw; have q0 := fun i => hSw.cell i; go_simp <;> with_reducible rfl
 simp only [LS, Act.put]
 refine wpG_two (i := 0) (j := 2) rfl rfl (by kernel_rfl) (fun K hK => ?_) (fun K hK => ?_)
 ·go_simp
  have hm := Memo.made WD
  have hmB := hB.size
  have hXl := hX.lt
  replace hB := hB.alloc hB.size (.map #[] 0); replace hX := hX.alloc (.map #[] 0)
  replace hTT := hX
  refine hK _ _ (.inr hTT) ?_
  clear hK K
  try simp only [LS, Act.put]
  refine o1 2 rfl fun K hK => ?_
  go_simp
  refine (HL1.out _ hB).mono ?_
  rintro e wz3 ⟨rfl, hb⟩
  replace hX := hX.below hb hX.lt; replace hB := hB.trans (hb.mono hB.size); replace hm := hm.below hb
  replace hTT := hX
  clear hb
  refine hK _ _ (.inr hTT) ?_
  clear hK K
  try simp only [LS, Act.put]
  refine o1 4 rfl fun K hK => ?_
  go_simp
  refine (HL2.out _ hB).mono ?_
  rintro e wz5 ⟨rfl, hb⟩
  replace hX := hX.below hb hX.lt; replace hB := hB.trans (hb.mono hB.size); replace hm := hm.below hb
  replace hTT := hX
  clear hb
  refine hK _ _ (.inr hTT) ?_
  clear hK K
  try simp only [LS, Act.put]
  refine tk 5 (v := ?_) rfl (Or.inl ⟨by rfl, ?h⟩) hTT ?_
  case h => intro wq hSw; have q0 := fun i => hSw.cell i; go_simp <;> with_reducible rfl
  simp only [LS, Act.put]
  refine o1 8 rfl fun K hK => ?_
  go_simp
  refine (HBT.out _ _ hmB hm).mono ?_
  rintro e w8 ⟨v8, rfl, hown8, _, hg8⟩
  obtain ⟨a8, c8, rfl⟩ := own_slice hown8
  replace hX := hX.gb hg8 (by omega); have hB8 := below_gb hB hg8 hmB hB.size
  replace hTT := hX
  refine hK _ _ (.inr hTT) ?_
  clear hK K hg8
  try simp only [LS, Act.put]
  refine o1 9 rfl fun K hK => ?_
  go_simp
  refine (wordsOf_any a8 m c8 LS9 w8 (by omega) HSZ.out (Rd.of_own hown8)).mono ?_
  rintro e w9 ⟨v9, rs, rfl, hown9, hrows, _, hb9⟩
  obtain ⟨a9, c9, rfl⟩ := own_slice hown9
  replace hX := hX.below hb9 hX.lt
  have hB9 := hB8.trans (hb9.mono hB8.size)
  replace hTT := hX
  refine hK _ _ (.inr hTT) ?_
  clear hK K hb9
  try simp only [LS, Act.put]
  refine tk 10 (v := ?_) rfl (Or.inl ⟨by rfl, ?h⟩) hTT ?_
  case h => intro wq hSw; have q0 := fun i => hSw.cell i; go_simp <;> with_reducible rfl
  simp only [LS, Act.put]
  refine o1 11 rfl fun K hK => ?_
  go_simp
  refine hK _ _ (.inl rfl) ?_
  clear hK K
  try simp only [LS, Act.put]
  refine wpG_done (by kernel_rfl) ?_ _
  clear hTT
  go_wp2_with fail
  go_ret2
  exact ⟨⟨_, rfl, rs, by rw [← HM.out]; exact own_more hown9 hB8.size, by rw [← HLS.out]; exact ⟨hrows.1, fun r hr => ⟨own_more (hrows.2 r hr).1 hB8.size, (hrows.2 r hr).2⟩⟩⟩, hB9⟩
 ·go_simp
  refine (HL1.out _ hB).mono ?_
  rintro e wz7 ⟨rfl, hb⟩
  replace hX := hX.below hb hX.lt; replace hB := hB.trans (hb.mono hB.size)
  replace hTT := hX
  clear hb
  refine hK _ _ (.inr hTT) ?_
  clear hK K
  try simp only [LS, Act.put]
  refine wpG_two (i := 0) (j := 4) rfl rfl (by kernel_rfl) (fun K hK => ?_) (fun K hK => ?_)
  ·go_simp
   have hm := Memo.made wz7
   have hmB := hB.size
   have hXl := hX.lt
   replace hB := hB.alloc hB.size (.map #[] 0); replace hX := hX.alloc (.map #[] 0)
   replace hTT := hX
   refine hK _ _ (.inr hTT) ?_
   clear hK K
   try simp only [LS, Act.put]
   refine o1 4 rfl fun K hK => ?_
   go_simp
   refine (HL2.out _ hB).mono ?_
   rintro e wz10 ⟨rfl, hb⟩
   replace hX := hX.below hb hX.lt; replace hB := hB.trans (hb.mono hB.size); replace hm := hm.below hb
   replace hTT := hX
   clear hb
   refine hK _ _ (.inr hTT) ?_
   clear hK K
   try simp only [LS, Act.put]
   refine tk 5 (v := ?_) rfl (Or.inl ⟨by rfl, ?h⟩) hTT ?_
   case h => intro wq hSw; have q0 := fun i => hSw.cell i; go_simp <;> with_reducible rfl
   simp only [LS, Act.put]
   refine o1 8 rfl fun K hK => ?_
   go_simp
   refine (HBT.out _ _ hmB hm).mono ?_
   rintro e w8 ⟨v8, rfl, hown8, _, hg8⟩
   obtain ⟨a8, c8, rfl⟩ := own_slice hown8
   replace hX := hX.gb hg8 (by omega); have hB8 := below_gb hB hg8 hmB hB.size
   replace hTT := hX
   refine hK _ _ (.inr hTT) ?_
   clear hK K hg8
   try simp only [LS, Act.put]
   refine o1 9 rfl fun K hK => ?_
   go_simp
   refine (wordsOf_any a8 m c8 LS9 w8 (by omega) HSZ.out (Rd.of_own hown8)).mono ?_
   rintro e w9 ⟨v9, rs, rfl, hown9, hrows, _, hb9⟩
   obtain ⟨a9, c9, rfl⟩ := own_slice hown9
   replace hX := hX.below hb9 hX.lt
   have hB9 := hB8.trans (hb9.mono hB8.size)
   replace hTT := hX
   refine hK _ _ (.inr hTT) ?_
   clear hK K hb9
   try simp only [LS, Act.put]
   refine tk 10 (v := ?_) rfl (Or.inl ⟨by rfl, ?h⟩) hTT ?_
   case h => intro wq hSw; have q0 := fun i => hSw.cell i; go_simp <;> with_reducible rfl
   simp only [LS, Act.put]
   refine o1 11 rfl fun K hK => ?_
   go_simp
   refine hK _ _ (.inl rfl) ?_
   clear hK K
   try simp only [LS, Act.put]
   refine wpG_done (by kernel_rfl) ?_ _
   clear hTT
   go_wp2_with fail
   go_ret2
   exact ⟨⟨_, rfl, rs, by rw [← HM.out]; exact own_more hown9 hB8.size, by rw [← HLS.out]; exact ⟨hrows.1, fun r hr => ⟨own_more (hrows.2 r hr).1 hB8.size, (hrows.2 r hr).2⟩⟩⟩, hB9⟩
  ·go_simp
   refine (HL2.out _ hB).mono ?_
   rintro e wz12 ⟨rfl, hb⟩
   replace hX := hX.below hb hX.lt; replace hB := hB.trans (hb.mono hB.size)
   replace hTT := hX
   clear hb
   refine hK _ _ (.inr hTT) ?_
   clear hK K
   try simp only [LS, Act.put]
   refine tk 5 (v := ?_) rfl (Or.inl ⟨by rfl, ?h⟩) hTT ?_
   case h => intro wq hSw; have q0 := fun i => hSw.cell i; go_simp <;> with_reducible rfl
   simp only [LS, Act.put]
   refine o1 0 rfl fun K hK => ?_
   go_simp
   have hm := Memo.made wz12
   have hmB := hB.size
   have hXl := hX.lt
   replace hB := hB.alloc hB.size (.map #[] 0); replace hX := hX.alloc (.map #[] 0)
   replace hTT := hX
   refine hK _ _ (.inr hTT) ?_
   clear hK K
   try simp only [LS, Act.put]
   refine o1 8 rfl fun K hK => ?_
   go_simp
   refine (HBT.out _ _ hmB hm).mono ?_
   rintro e w8 ⟨v8, rfl, hown8, _, hg8⟩
   obtain ⟨a8, c8, rfl⟩ := own_slice hown8
   replace hX := hX.gb hg8 (by omega); have hB8 := below_gb hB hg8 hmB hB.size
   replace hTT := hX
   refine hK _ _ (.inr hTT) ?_
   clear hK K hg8
   try simp only [LS, Act.put]
   refine o1 9 rfl fun K hK => ?_
   go_simp
   refine (wordsOf_any a8 m c8 LS9 w8 (by omega) HSZ.out (Rd.of_own hown8)).mono ?_
   rintro e w9 ⟨v9, rs, rfl, hown9, hrows, _, hb9⟩
   obtain ⟨a9, c9, rfl⟩ := own_slice hown9
   replace hX := hX.below hb9 hX.lt
   have hB9 := hB8.trans (hb9.mono hB8.size)
   replace hTT := hX
   refine hK _ _ (.inr hTT) ?_
   clear hK K hb9
   try simp only [LS, Act.put]
   refine tk 10 (v := ?_) rfl (Or.inl ⟨by rfl, ?h⟩) hTT ?_
   case h => intro wq hSw; have q0 := fun i => hSw.cell i; go_simp <;> with_reducible rfl
   simp only [LS, Act.put]
   refine o1 11 rfl fun K hK => ?_
   go_simp
   refine hK _ _ (.inl rfl) ?_
   clear hK K
   try simp only [LS, Act.put]
   refine wpG_done (by kernel_rfl) ?_ _
   clear hTT
   go_wp2_with fail
   go_ret2
   exact ⟨⟨_, rfl, rs, by rw [← HM.out]; exact own_more hown9 hB8.size, by rw [← HLS.out]; exact ⟨hrows.1, fun r hr => ⟨own_more (hrows.2 r hr).1 hB8.size, (hrows.2 r hr).2⟩⟩⟩, hB9⟩
end
section
open Go.RowKit Go.Lib Go.Maps
theorem row208 : (208 : TypeId) < Tryz.prog.types.size := of_decide_eq_true (by kernel_rfl)
theorem law208 : Keyed Tryz.prog 208 := Keyed.of_law (deep_law_laid laidOutP (m := 2) (by omega) row208 (by kernel_rfl) (by rw [Tryz.underlying208]))
theorem cells3 : Tryz.prog.cellsOf 3 = 1 := by kernel_rfl
theorem cells208 : Tryz.prog.cellsOf 208 = 2 := by kernel_rfl
theorem keyLits208 (d : Nat) (p q : Int) (hp : (Lit.int .i64 p).wf = true) (hq : (Lit.int .i64 q).wf = true) : Tryz.prog.keyLits (d + 2) 208 [.int .i64 p, .int .i64 q] = some [.int .i64 p, .int .i64 q] := by
 simp [Program.keyLits, Tryz.underlying208, Tryz.underlying3, cells3, cells208, hp, hq]
theorem key208 (p q : Int) (hp : -1000 ≤ p ∧ p ≤ 1000) (hq : -1000 ≤ q ∧ q ≤ 1000) : ∃ kl, keyOf Tryz.prog 208 (.agg #[.int .i64 p, .int .i64 q]) = some kl := by
 have h1 : Tryz.prog.keyType 208 = true := by kernel_rfl
 have h2 : (Value.agg #[.int .i64 p, .int .i64 q]).formed Tryz.prog 208 = true := by kernel_rfl
 have w1 : (Lit.int .i64 p).wf = true := WalkArith.wf_i64 (by omega)
 have w2 : (Lit.int .i64 q).wf = true := WalkArith.wf_i64 (by omega)
 obtain ⟨d, hd⟩ : ∃ d, Tryz.prog.types.size = d + 1 := ⟨Tryz.prog.types.size - 1, by have : 1 ≤ Tryz.prog.types.size := Nat.lt_of_le_of_lt (Nat.zero_le _) row208; omega⟩
 unfold keyOf
 rw [Tryz.underlying208]
 simp only [h1, h2, Bool.and_self, if_true]
 rw [hd, show (Value.agg #[.int .i64 p, .int .i64 q]).cells.toList = [.int .i64 p, .int .i64 q] from rfl, keyLits208 d p q w1 w2]
 exact ⟨_, rfl⟩
def CM (w : World) (b : Nat) (F : Int → Int → Int) (S : List (Int × Int)) : Prop := ∃ D : DataW Unit, w.ownsMap Tryz.prog 208 (plainElem Tryz.prog 3) b S.length D ∧
 ∀ (p q : Int) (kl : Lit), keyOf Tryz.prog 208 (.agg #[.int .i64 p, .int .i64 q]) = some kl → (p, q) ∈ S → D.atKey kl (.lit (.int .i64 0)) = .lit (.int .i64 (F p q))
theorem CM.made (w : World) (F : Int → Int → Int) : CM (w.alloc (.map #[] 0)) w.heap.size F [] := ⟨_, World.ownsMap_made _ _ _ _, fun _ _ _ _ h => by cases h⟩
theorem CM.lt {w : World} {b : Nat} {F : Int → Int → Int} {S : List (Int × Int)} (h : CM w b F S) : b < w.heap.size := by
 obtain ⟨D, h1, _⟩ := h
 exact h1.lt
theorem CM.at_ {A B : World} {b : Nat} {F : Int → Int → Int} {S : List (Int × Int)} (h : CM A b F S) (hk : B.heap[b]? = A.heap[b]?) : CM B b F S := by
 obtain ⟨D, hD, h2⟩ := h
 obtain ⟨es, c, hmap, hr⟩ := hD
 exact ⟨D, ⟨es, c, hk.trans hmap, hr⟩, h2⟩
theorem CM.isMap {w : World} {b : Nat} {F : Int → Int → Int} {S : List (Int × Int)} (h : CM w b F S) : ∃ es c, w.heap[b]? = some (.map es c) := by
 obtain ⟨D, hD, _⟩ := h
 obtain ⟨es, c, hmap, _⟩ := hD
 exact ⟨es, c, hmap⟩
theorem CM.wpPut {o : Oper} {a : Act} {K : Act → World → Prop} {Q : Exit → Act → World → Prop} {w : World} {b : Nat} {F : Int → Int → Int} {S : List (Int × Int)} (hC : CM w b F S) (m x v : Operand) (hop : o.op = .mapUpdate 147 m x v) (p q : Int) (hp : -1000 ≤ p ∧ p ≤ 1000) (hq : -1000 ≤ q ∧ q ≤ 1000)
  (hF : (Lit.int .i64 (F p q)).wf = true) (hn : S.length < maxLen) (hm : a.eval m = .map (some b)) (hx : a.eval x = .agg #[.int .i64 p, .int .i64 q]) (hv : a.eval v = .int .i64 (F p q))
  (h : ∀ w', CM w' b F ((p, q) :: S) → w.grownBy w' (some b) → K (a.put o.dst undef) w') : o.wp Tryz.prog a w K Q := by
 obtain ⟨D, hown, h2⟩ := hC
 obtain ⟨kl, hkl⟩ := key208 p q hp hq
 obtain ⟨w', hrun, r1, r2⟩ := hown.update law208 Tryz.underlying147 hn hkl (plainElem_int Tryz.underlying3 hF)
 have hfin := h w' ⟨_, r1, fun p' q' kl' hk' hin => ?_⟩ r2
 ·unfold Oper.wp
  simp [execOp, hop, hm, hx, hv, hrun, Result.andThen]
  exact hfin
 ·by_cases e : kl' = kl
  ·subst e
   have hi := law208.inj hkl hk'
   simp only [Value.agg.injEq, Array.mk.injEq, List.cons.injEq, Value.int.injEq, and_true, true_and] at hi
   obtain ⟨rfl, rfl⟩ := hi
   exact atKey_put_same hown.isMap (law208.key hkl) _ _
  ·rw [atKey_put_other e]
   rcases List.mem_cons.1 hin with h1 | h1
   ·cases h1
    rw [hkl] at hk'
    exact absurd (by injection hk' with hk'; exact hk'.symm) e
   ·exact h2 p' q' kl' hk' h1
def srcL (cs : List VC) (ts : List RI) (f : Int) : List ByteArray := if f = -1 then ts.map fun r => lbS r.ws else ((cs[f.toNat]?).map fun c => c.ls.map fun r => lbS r.ws).getD []
def costV (cs : List VC) (ts : List RI) (k f : Int) : Int := sumI (cgL ((srcL cs ts f).zip (((cs[k.toNat]?).map VC.ls).getD [])))
def TxG (cs : List VC) (tA : Option Addr) (tn : Nat) (ts : List RI) (w : World) (B : Nat) : Prop :=
 Rd w B 1 tA tn (ts.map RI.val) ∧ (∀ r ∈ ts, r.ok w B) ∧ ts.length = headN cs ∧ ∀ r ∈ ts, r.n ≤ 4 ∧ r.ws.length ≤ 4 ∧ ∀ x ∈ r.ws, 0 ≤ x ∧ x ≤ 255
theorem TxG.below {cs : List VC} {tA : Option Addr} {tn : Nat} {ts : List RI} {w w' : World} {B : Nat} (h : TxG cs tA tn ts w B) (hb : Below B w w') : TxG cs tA tn ts w' B := ⟨h.1.below hb, fun r hr => (h.2.1 r hr).below hb, h.2.2⟩
theorem TxG.more {cs : List VC} {tA : Option Addr} {tn : Nat} {ts : List RI} {w : World} {B B' : Nat} (h : TxG cs tA tn ts w B) (hb : B ≤ B') : TxG cs tA tn ts w B' := ⟨h.1.more hb, fun r hr => (h.2.1 r hr).more hb, h.2.2⟩
theorem srcL_len {wn : Nat} {A : Option Addr} {n : Nat} {cs : List VC} {w : World} {B : Nat} {tA : Option Addr} {tn : Nat} {ts : List RI} (hb : BkG wn A n cs w B) (ht : TxG cs tA tn ts w B) {f : Int} (h0 : -1 ≤ f) (h1 : f < n) : (srcL cs ts f).length = headN cs ∧ ∀ l ∈ srcL cs ts f, l.size ≤ 4 := by
 unfold srcL
 split
 ·refine ⟨by rw [List.length_map]; exact ht.2.2.1, fun l hl => ?_⟩
  obtain ⟨r, hr, rfl⟩ := List.mem_map.1 hl
  rw [lbS_size]; exact (ht.2.2.2 r hr).2.1
 ·have hlt : f.toNat < cs.length := by have := hb.len; omega
  rw [List.getElem?_eq_getElem hlt]
  refine ⟨by simp only [Option.map_some, Option.getD_some, List.length_map]; exact (hb.2.2.2.2.2.1 _ (List.getElem_mem hlt)).2, fun l hl => ?_⟩
  simp only [Option.map_some, Option.getD_some] at hl
  obtain ⟨r, hr, rfl⟩ := List.mem_map.1 hl
  rw [lbS_size]; exact (hb.2.2.2.2.2.2 _ (List.getElem_mem hlt) r hr).2.1
theorem cgL_bd (z : List (ByteArray × VL)) (h : ∀ p ∈ z, p.1.size ≤ 4 ∧ p.2.ws.length ≤ 4) : ∀ x ∈ cgL z, 0 ≤ x ∧ x ≤ 8 := by
 intro x hx
 obtain ⟨p, hp, hx⟩ := List.mem_flatMap.1 hx
 unfold cgO at hx
 split at hx
 ·cases hx
 ·rw [List.mem_singleton.1 hx]
  have := edB_le8 p.1 (lbS p.2.ws) (h p hp).1 (by rw [lbS_size]; exact (h p hp).2)
  omega
theorem costV_bd {wn : Nat} {A : Option Addr} {n : Nat} {cs : List VC} {w : World} {B : Nat} {tA : Option Addr} {tn : Nat} {ts : List RI} (hb : BkG wn A n cs w B) (ht : TxG cs tA tn ts w B) {k f : Int} (hk : 0 ≤ k ∧ k < n) (h0 : -1 ≤ f) (h1 : f < n) : 0 ≤ costV cs ts k f ∧ costV cs ts k f ≤ 1000 := by
 have hlt : k.toNat < cs.length := by have := hb.len; omega
 have hs := srcL_len hb ht h0 h1
 have h2 := sumI_bd (cgL ((srcL cs ts f).zip (((cs[k.toNat]?).map VC.ls).getD []))) 8 (cgL_bd _ (fun p hp => by
   have hp' := List.of_mem_zip hp
   refine ⟨hs.2 _ hp'.1, ?_⟩
   rw [List.getElem?_eq_getElem hlt] at hp'
   exact (hb.2.2.2.2.2.2 _ (List.getElem_mem hlt) _ hp'.2).2.1))
 have h3 := cgL_len ((srcL cs ts f).zip (((cs[k.toNat]?).map VC.ls).getD []))
 rw [List.length_zip, hs.1] at h3
 have h4 := hb.2.2.1.2
 unfold costV
 omega
theorem costs_any {wn : Nat} {A : Option Addr} {n : Nat} (cap : Nat) {cs : List VC} {w : World} {B : Nat} {tA : Option Addr} {tn tc : Nat} {ts : List RI} (mb N' : Nat) (hb : BkG wn A n cs w B) (ht : TxG cs tA tn ts w B) (hBm : B ≤ mb) (hm : Memo w mb N') (hN : N' + 1000000000 ≤ maxLen) :
  Calls Tryz.prog 105 #[.agg #[.int .i64 (wn : Int), .slice A n cap, .slice tA tn tc, .map (some mb)]] w fun e w' => ∃ cb, e = .returned (.map (some cb)) ∧ w.heap.size ≤ cb ∧ (∃ S, CM w' cb (costV cs ts) S ∧ ∀ p q : Int, 0 ≤ p → p < n → -1 ≤ q → q < n → (p, q) ∈ S) ∧ GB w.heap.size mb w w' := by
 have hmb := hm.lt
 have hmm := @run_makeMap Tryz.prog
 have hbB := fun (wx : World) (hx : GB w.heap.size mb w wx) => hb.below (hx.below hBm (by omega))
 have htB := fun (wx : World) (hx : GB w.heap.size mb w wx) => ht.below (hx.below hBm (by omega))
 have hln : ∀ (f : Int) (wx : World), GB w.heap.size mb w wx → -1 ≤ f → f < n → Calls Tryz.prog 151 #[.agg #[.int .i64 (wn : Int), .slice A n cap, .slice tA tn tc, .map (some mb)], .int .i64 f] wx fun e w' => ∃ lA lc, e = .returned (.slice lA (headN cs) lc) ∧ w'.ownsRow wx.heap.size 121 1 (.slice lA (headN cs) lc) (headN cs) ((srcL cs ts f).map Value.string) ∧ Below wx.heap.size wx w' := by
  intro f wx hx h0 h1
  have hB := (hbB wx hx).more (show B ≤ wx.heap.size by have := hx.size; omega)
  have hT := (htB wx hx).more (show B ≤ wx.heap.size by have := hx.size; omega)
  by_cases hf : f = -1
  ·subst hf
   refine (linesText_any (wn : Int) A n cap cs tA tn tc mb ts wx hB.2.1.1 (by have := hB.2.1.2; omega) hB.2.2.2.1 hB.2.2.2.2.1 (by have := hB.2.2.1.2; omega) hT.1 hT.2.1 (fun r hr => ⟨by have := (hT.2.2.2 r hr).1; omega, (hT.2.2.2 r hr).2.2⟩) hT.2.2.1).mono ?_
   rintro e w' ⟨v, rfl, hown, hbl⟩
   obtain ⟨a, c, rfl⟩ := own_slice hown
   refine ⟨a, c, rfl, ?_, hbl⟩
   rw [srcL, if_pos rfl, List.map_map]
   exact hown
  ·have hfn : f = ((f.toNat : Nat) : Int) := by omega
   have hlt : f.toNat < cs.length := by have := hB.len; omega
   have h2 := linesCopy_any (wn : Int) A n cap cs tA tn tc mb f.toNat cs[f.toNat] wx hB.2.1.1 (by have := hB.2.1.2; omega) hB.2.2.2.1 hB.2.2.2.2.1 (by have := hB.2.2.1.2; omega) (by have := hB.len; omega) (List.getElem?_eq_getElem hlt) (fun r hr => ⟨by have := (hB.2.2.2.2.2.2 _ (List.getElem_mem hlt) r hr).1; omega, (hB.2.2.2.2.2.2 _ (List.getElem_mem hlt) r hr).2.2⟩) (hB.2.2.2.2.2.1 _ (List.getElem_mem hlt)).2
   rw [← hfn] at h2
   refine h2.mono ?_
   rintro e w' ⟨v, rfl, hown, hbl⟩
   obtain ⟨a, c, rfl⟩ := own_slice hown
   refine ⟨a, c, rfl, ?_, hbl⟩
   rw [srcL, if_neg hf, List.getElem?_eq_getElem hlt]
   simp only [Option.map_some, Option.getD_some, List.map_map]
   exact hown
 have hcc : ∀ (k : Nat) (f : Int) (wx : World) (N1 lbase : Nat) (lA : Option Addr) (lc : Nat), GB w.heap.size mb w wx → wx.ownsRow lbase 121 1 (.slice lA (headN cs) lc) (headN cs) ((srcL cs ts f).map Value.string) → Memo wx mb N1 → N1 + 5 * KK 8 ≤ maxLen → k < n → -1 ≤ f → f < n → mb < lbase →
   Calls Tryz.prog 150 #[.agg #[.int .i64 (wn : Int), .slice A n cap, .slice tA tn tc, .map (some mb)], .slice lA (headN cs) lc, .int .i64 (k : Int)] wx fun e w' => e = .returned (.int .i64 (costV cs ts (k : Int) f)) ∧ Memo w' mb (N1 + 5000000) ∧ GB wx.heap.size mb wx w' := by
  intro k f wx N1 lbase lA lc hx hown hmx hN1 hk h0 h1 hml
  have hB := hbB wx hx
  have hs := srcL_len hb ht h0 h1
  have hlt : k < cs.length := by have := hB.len; omega
  have hck := hB.2.2.2.2.2.1 _ (List.getElem_mem hlt)
  have h := copiedChanges_any (wn : Int) A n cap cs tA tn tc k mb N1 B lbase cs[k] lA lc (srcL cs ts f) wx hBm hB.2.2.2.1 hB.2.2.2.2.1 hk (List.getElem?_eq_getElem hlt) (by have := hB.2.2.1.2; omega) (by rw [hck.1]; exact hs.1) hs.2 (fun v hv => (hB.2.2.2.2.2.2 _ (List.getElem_mem hlt) v hv).2) (by rw [hck.1]; exact hown) hml hmx hN1
  rw [hck.1] at h
  refine h.mono ?_
  rintro e w' ⟨rfl, hm', hg'⟩
  refine ⟨?_, hm'.mono (by rw [KK_8]; have := hB.2.2.1.2; omega), hg'⟩
  unfold costV
  rw [show ((k : Int)).toNat = k by omega, List.getElem?_eq_getElem hlt]
  rfl
 have hwf := fun (k : Nat) (f : Int) (hk : k < n) (h0 : -1 ≤ f) (h1 : f < n) => costV_bd hb ht (k := (k : Int)) (f := f) (by omega) h0 h1
 have hn5 := hb.2.1.2
 rw [KK_8] at hcc
 have hX := Blk.new w 149 #[.int .i64 (wn : Int), .slice A n cap, .slice tA tn tc, .map (some mb)]
 have qX := fun i => hX.cell i
 have hG : GB w.heap.size mb w (w.alloc (.cells #[.int .i64 (wn : Int), .slice A n cap, .slice tA tn tc, .map (some mb)] 149)) := (GB.refl _ _ _).alloc (Nat.le_refl _) _
 obtain ⟨L, hL⟩ : ∃ L, L = headN cs := ⟨_, rfl⟩
 simp only [← hL] at hln hcc
 have HLN := Lib.hid hln; have HCC := Lib.hid hcc; have HWW := Lib.hid hwf
 clear hln hcc hwf hbB htB hL hb ht
 go_enter Tryz.func105, Tryz.ntmps105
 go_wp2_with fail
 have hC := CM.made (w.alloc (.cells #[.int .i64 (wn : Int), .slice A n cap, .slice tA tn tc, .map (some mb)] 149)) (costV cs ts)
 rw [World.size_alloc] at hC
 replace hX := hX.alloc (.map #[] 0); replace hG := hG.alloc hG.size (.map #[] 0)
 have hm0 := (hm.alloc (.cells #[.int .i64 (wn : Int), .slice A n cap, .slice tA tn tc, .map (some mb)] 149)).alloc (.map #[] 0)
 have hsz0 : ((w.alloc (.cells #[.int .i64 (wn : Int), .slice A n cap, .slice tA tn tc, .map (some mb)] 149)).alloc (.map #[] 0)).heap.size = w.heap.size + 1 + 1 := by simp only [World.size_alloc]
 obtain ⟨cb, hcb⟩ : ∃ cb, cb = w.heap.size + 1 := ⟨_, rfl⟩
 rw [← hcb] at hC ⊢
 have hcb1 : w.heap.size + 1 ≤ cb := by omega
 have hcb2 : cb ≤ w.heap.size + 1 := by omega
 clear qX hcb
 generalize ((w.alloc (.cells #[.int .i64 (wn : Int), .slice A n cap, .slice tA tn tc, .map (some mb)] 149)).alloc (.map #[] 0)) = w0 at *
 clear hm
 go_loopg [11] n (fun g i wr => ∃ (k Nk : Nat) (S : List (Int × Int)), g = n - k ∧ k ≤ n ∧ i = .int .i64 k ∧ S.length = Nk ∧ Nk ≤ k * 10 ∧ Hid (∀ p q : Int, 0 ≤ p → p < k → -1 ≤ q → q < n → (p, q) ∈ S) ∧ CM wr cb (costV cs ts) S ∧ Memo wr mb (N' + Nk * 5000000) ∧ Blk wr w.heap.size 149 #[.int .i64 (wn : Int), .slice A n cap, .slice tA tn tc, .map (some mb)] ∧ GB w.heap.size mb w wr ∧ w.heap.size + 2 ≤ wr.heap.size)
 case atStart => exact ⟨0, 0, [], rfl, Nat.zero_le _, rfl, rfl, Nat.zero_le _, Lib.hid (fun p q h1 h2 => by omega), hC, by simpa using hm0, hX, hG, by omega⟩
 case round =>
  clear hC hm0 hX hG hsz0
  obtain ⟨k, Nk, S, hg, hk, rfl, hS, hNk, hin, hC, hm, hX, hG, hszr⟩ := hrel
  rename World => wr
  have HG := Lib.hid hg; have HS := Lib.hid hS; clear hg hS
  have qX := fun i => hX.cell i
  have hlX := hX.lt
  by_cases hlt : k < n
  ·have hlti : (k : Int) < n := by omega
   go_wp2_with fail
   go_loopg [5] (n + 1) (fun g v wr => ∃ (f : Int) (Nk : Nat) (S : List (Int × Int)), g = (n - f).toNat ∧ -1 ≤ f ∧ f ≤ n ∧ v = .int .i64 f ∧ S.length = Nk ∧ Nk ≤ k * 10 + (f + 1).toNat ∧ Hid (∀ p q : Int, 0 ≤ p → (p < k ∨ p = k ∧ q < f) → -1 ≤ q → q < n → (p, q) ∈ S) ∧ CM wr cb (costV cs ts) S ∧ Memo wr mb (N' + Nk * 5000000) ∧ Blk wr w.heap.size 149 #[.int .i64 (wn : Int), .slice A n cap, .slice tA tn tc, .map (some mb)] ∧ GB w.heap.size mb w wr ∧ w.heap.size + 2 ≤ wr.heap.size)
   case atStart => exact ⟨-1, Nk, S, by omega, by omega, by omega, rfl, HS.out, by omega, Lib.hid (fun p q h1 h2 h3 h4 => hin.out p q h1 (by omega) h3 h4), hC, hm, hX, hG, hszr⟩
   case round =>
    clear hC hm hX hG hszr hin HS hNk qX hlX
    clear S Nk
    obtain ⟨f, Nk, S, hg, hf0, hfn, rfl, hS, hNk, hin, hC, hm, hX, hG, hszr⟩ := hrel
    have HG2 := Lib.hid hg; have HS := Lib.hid hS; clear hg hS
    rename World => wr2
    have qX := fun i => hX.cell i
    have hlX := hX.lt
    by_cases hf1 : f < n
    ·have HWF : Hid ((Lit.int .i64 (costV cs ts (k : Int) f)).wf = true) := Lib.hid (WalkArith.wf_i64 (by have := HWW.out k f hlt hf0 hf1; omega))
     have HNN : Hid (N' + Nk * 5000000 + 5 * 488281 ≤ maxLen) := Lib.hid (by omega)
     have HND : Hid (S.length < maxLen) := Lib.hid (by have := HS.out; unfold maxLen; omega)
     go_wp2_with fail
     clear qX
     rename World => WR
     refine wp_region_G (fun w' => Blk w' w.heap.size 149 #[.int .i64 (wn : Int), .slice A n cap, .slice tA tn tc, .map (some mb)]) 10 (by kernel_rfl) ?_
     have HWD : Hid (w.heap.size + 2 ≤ WR.drew.heap.size) := Lib.hid hszr; replace hX := hX.drew; replace hm : Memo WR.drew mb (N' + Nk * 5000000) := hm; replace hC : CM WR.drew cb (costV cs ts) S := hC; replace hG := hG.drew
     generalize WR.drew = WD at *
     have hTT : Blk WD w.heap.size 149 #[.int .i64 (wn : Int), .slice A n cap, .slice tA tn tc, .map (some mb)] := hX
     refine tk 0 (v := ?_) rfl (Or.inl ⟨by rfl, ?h⟩) hTT ?_
     case h => intro wq hSw; have q0 := fun i => hSw.cell i; go_simp <;> with_reducible rfl
     simp only [LS, Act.put]
     refine tk 1 (v := ?_) rfl (Or.inl ⟨by rfl, ?h⟩) hTT ?_
     case h => intro wq hSw; have q0 := fun i => hSw.cell i; go_simp <;> with_reducible rfl
     simp only [LS, Act.put]
     refine tk 2 (v := ?_) rfl (Or.inl ⟨by rfl, ?h⟩) hTT ?_
     case h => intro wq hSw; have q0 := fun i => hSw.cell i; go_simp <;> with_reducible rfl
     simp only [LS, Act.put]
     refine tk 3 (v := ?_) rfl (Or.inl ⟨by rfl, ?h⟩) hTT ?_
     case h => intro wq hSw; have q0 := fun i => hSw.cell i; go_simp <;> with_reducible rfl
     simp only [LS, Act.put]
     refine tk 4 (v := ?_) rfl (Or.inl ⟨by rfl, ?h⟩) hTT ?_
     case h => intro wq hSw; have q0 := fun i => hSw.cell i; go_simp <;> with_reducible rfl
     simp only [LS, Act.put]
     refine tk 5 (v := ?_) rfl (Or.inl ⟨by rfl, ?h⟩) hTT ?_
     case h => intro wq hSw; have q0 := fun i => hSw.cell i; go_simp <;> with_reducible rfl
     simp only [LS, Act.put]
     refine tk 6 (v := ?_) rfl (Or.inl ⟨by rfl, ?h⟩) hTT ?_
     case h => intro wq hSw; have q0 := fun i => hSw.cell i; go_simp <;> with_reducible rfl
     simp only [LS, Act.put]
     refine tk 8 (v := ?_) rfl (Or.inl ⟨by rfl, ?h⟩) hTT ?_
     case h => intro wq hSw; have q0 := fun i => hSw.cell i; go_simp <;> with_reducible rfl
     simp only [LS, Act.put]
     refine o1 7 rfl fun K hK => ?_
     go_simp
     refine (HLN.out f WD hG hf0 hf1).mono ?_
     rintro e w1 ⟨lA, lc, rfl, hlo, hb1⟩
     replace hX := hX.below hb1 hX.lt; replace hm := hm.below hb1; replace hC := hC.at_ (hb1.block _ hC.lt); replace hG := hG.call (GB.of_below hb1) hG.size
     replace hTT := hX
     clear hb1
     refine hK _ _ (.inr hTT) ?_
     clear hK K
     try simp only [LS, Act.put]
     refine o1 9 rfl fun K hK => ?_
     go_simp
     refine (HCC.out k f w1 (N' + Nk * 5000000) WD.heap.size lA lc hG hlo hm HNN.out hlt hf0 hf1 (by have := HWD.out; omega)).mono ?_
     rintro e w2 ⟨rfl, hm2, hg2⟩
     have hX2 := hX.gb hg2 (by omega)
     have hC2 := hC.at_ (hg2.block _ hC.lt (by omega))
     have hG2 := hG.call hg2 hG.size
     replace hTT := hX2
     clear hg2
     refine hK _ _ (.inr hTT) ?_
     clear hK K
     try simp only [LS, Act.put]
     refine o1 10 rfl fun K hK => ?_
     rw [if_pos (by rfl)]
     refine hC2.wpPut _ _ _ rfl (k : Int) f (by omega) (by omega) HWF.out HND.out rfl rfl rfl (fun w3 hC3 hg3 => ?_)
     have hX3 := hX2.grown hg3 (fun e => by injection e with e; omega)
     have hm3 := hm2.kept hg3 (fun e => by injection e with e; omega)
     have hG3 := hG2.row hg3 hG2.size (fun z hz => by injection hz with hz; omega)
     refine hK _ _ (.inl rfl) ?_
     clear hK K
     try simp only [LS, Act.put]
     refine wpG_done (by kernel_rfl) ?_ _
     clear hTT
     have hlX3 := hX3.lt
     go_wp2_with fail
     go_roundg ((n - (f + 1)).toNat)
     case measure => rw [HG2.out]; omega
     case rel => exact ⟨f + 1, Nk + 1, ((k : Int), f) :: S, rfl, by omega, by omega, by go_num, by rw [List.length_cons, HS.out], by omega, Lib.hid (fun p q h1 h2 h3 h4 => by
         by_cases e : p = k ∧ q = f
         · obtain ⟨rfl, rfl⟩ := e; exact List.mem_cons_self ..
         · exact List.mem_cons_of_mem _ (hin.out p q h1 (by omega) h3 h4)), hC3, hm3.mono (by omega), hX3, hG3, by have := hX3.lt; have := hC3.lt; omega⟩
    ·obtain rfl : f = n := by omega
     have hge : ¬ (n : Int) < n := by omega
     go_wp2_with fail
     go_roundg (n - (k + 1))
     case measure => rw [HG.out]; omega
     case rel => exact ⟨k + 1, Nk, S, rfl, by omega, by go_num, HS.out, by omega, Lib.hid (fun p q h1 h2 h3 h4 => hin.out p q h1 (by omega) h3 h4), hC, hm, hX, hG, hszr⟩
  ·obtain rfl : k = n := by omega
   have hge : ¬ (k : Int) < k := by omega
   go_wp2_with fail
   go_ret
   exact ⟨cb, rfl, by omega, ⟨S, hC, hin.out⟩, hG⟩
end
section
open Go.RowKit Go.Lib Go.Maps
def folF (t : List Int) : Nat → Int → Bool
 | 0, _ => false
 | k + 1, c => if t.getD c.toNat 0 = -1 then true else folF t k (t.getD c.toNat 0)
def LOST : List PanicEntry := [{ v := .iface 205 (.agg #[]), recovered := false }]
theorem follow_any (A : Option Addr) (n cap : Nat) (t : List Int) (c : Int) (w : World) (hn : n ≤ 1000) (ht : ∀ x ∈ t, -1 ≤ x ∧ x < n) (hr : Rd w w.heap.size 1 A n (t.map (Value.int .i64))) (hc : 0 ≤ c ∧ c < n) :
  Calls Tryz.prog 149 #[.slice A n cap, .int .i64 c] w fun e w' => e = (if folF t n c then .returned (.tuple #[]) else .panicked LOST) ∧ w = w' := by
 have hlen : t.length = n := by simpa using hr.len
 obtain ⟨r, hfr⟩ : ∃ r, folF t n c = r := ⟨_, rfl⟩
 rw [hfr]
 go_enter Tryz.func149, Tryz.ntmps149
 go_wp2_with fail
 go_loopg [1, 6] n (fun g x i wr => ∃ (k : Nat) (y : Int), g = n - k ∧ k ≤ n ∧ i = .int .i64 k ∧ x = .int .i64 y ∧ 0 ≤ y ∧ y < n ∧ Hid (folF t (n - k) y = r) ∧ wr = w)
 case atStart => exact ⟨0, c, rfl, Nat.zero_le _, rfl, rfl, hc.1, hc.2, Lib.hid hfr, rfl⟩
 case round =>
  obtain ⟨k, y, hg, hk, rfl, rfl, hy0, hy1, hf, rfl⟩ := hrel
  have HG := Lib.hid hg; clear hg
  by_cases hlt : k < n
  ·obtain ⟨m, rfl⟩ : ∃ m : Nat, y = (m : Int) := ⟨y.toNat, by omega⟩
   have hlti : (k : Int) < n := by omega
   have hml : m < n := by omega
   obtain ⟨b, off, hz, rfl, hb, hcell⟩ := hr.atm hml
   have hx := ht _ (List.getElem_mem hz)
   have hstep : (if t[m] = -1 then true else folF t (n - (k + 1)) t[m]) = r := by
    have h := hf.out
    rw [show n - k = (n - (k + 1)) + 1 by omega] at h
    unfold folF at h
    rw [Int.toNat_natCast, List.getD_eq_getElem?_getD, List.getElem?_eq_getElem hz] at h
    exact h
   have HT := Lib.hid ht; have HST := Lib.hid hstep; clear ht hstep hf
   generalize t[m] = x at *
   by_cases hx1 : x = -1
   ·subst hx1
    have hrt := HST.out
    rw [if_pos rfl] at hrt
    subst hrt
    go_wp2_with fail
    exact bodyPost_ret (results_none Tryz.results149 _ _ _) rfl ⟨rfl, rfl⟩
   ·have hrt := Lib.hid HST.out
    rw [if_neg hx1] at hrt
    go_wp2_with fail
    go_roundg (n - (k + 1))
    case measure => rw [HG.out]; omega
    case rel => exact ⟨k + 1, x, rfl, by omega, by go_num, rfl, by omega, by omega, hrt, rfl⟩
  ·obtain rfl : k = n := by omega
   have hge : ¬ (k : Int) < k := by omega
   have hrt := hf.out
   rw [Nat.sub_self] at hrt
   subst hrt
   go_wp2_with fail
   exact ⟨rfl, rfl, rfl⟩
theorem totIdle (b0 b1 : Nat) (w : World) :
  CallsD Tryz.prog 148 #[.pointer (some ⟨b0, 0, none⟩), .pointer (some ⟨b1, 0, none⟩)] .returning w fun e u' w' => e = .returned (.tuple #[]) ∧ u' = .returning ∧ w' = w := by
 refine callsD_of_wpS Tryz.func148 rfl fun c₀ cs hu => ?_
 simp only [Tryz.ntmps148, List.size_toArray, List.length_cons, List.length_nil, Nat.reduceAdd, Nat.reduceSub, Array.replicate_succ, Array.replicate_zero, List.push_toArray, List.append_toArray, List.nil_append, List.cons_append]
 apply wpS_seq
 apply wpS_region
 simp [wpOpsS, go_sem, recoverD, hu, Tryz.ntmps148, Exit.thenS]
 refine wpS_of_wp ?_
 go_wp2
 cases c₀
 simp_all [bodyPostS, results, Tryz.results148]
theorem totCatch (b0 b1 : Nat) (z0 z1 : Value) (older : List PanicEntry) (w : World) (g0 : Blk w b0 3 #[z0]) (g1 : Blk w b1 4 #[z1]) (hne : b0 ≠ b1) :
  CallsD Tryz.prog 148 #[.pointer (some ⟨b0, 0, none⟩), .pointer (some ⟨b1, 0, none⟩)] (.panicking ({ v := .iface 205 (.agg #[]), recovered := false } :: older)) w fun e u' w' => e = .returned (.tuple #[]) ∧ u' = .panicking ({ v := .iface 205 (.agg #[]), recovered := true } :: older) ∧
   Blk w' b0 3 #[.int .i64 0] ∧ Blk w' b1 4 #[.bool false] ∧ ∀ (B : Nat) (v : World), Below B v w → B ≤ b0 → B ≤ b1 → Below B v w' := by
 have hta : ∀ w : World, (Instr.typeAssert (.iface 205 (.agg #[])) 20 205 true).run Tryz.prog w = .ok (.tuple #[.agg #[], .bool true]) w := fun _ => by kernel_rfl
 refine callsD_of_wpS Tryz.func148 rfl fun c₀ cs hu => ?_
 simp only [Tryz.ntmps148, List.size_toArray, List.length_cons, List.length_nil, Nat.reduceAdd, Nat.reduceSub, Array.replicate_succ, Array.replicate_zero, List.push_toArray, List.append_toArray, List.nil_append, List.cons_append]
 apply wpS_seq
 apply wpS_region
 simp [wpOpsS, go_sem, recoverD, hu, Tryz.ntmps148, Exit.thenS]
 refine wpS_of_wp ?_
 have q0 := fun i => g0.cell i; have f0 := fun i => g0.frozen i; have l0 := g0.lt
 have q1 := fun i => g1.cell i; have f1 := fun i => g1.frozen i; have l1 := g1.lt
 go_wp2
 clear q0 f0 l0 q1 f1 l1
 have G0 : Blk (((w.setCell ⟨b0, 0, none⟩ (.int .i64 0)).setCell ⟨b1, 0, none⟩ (.bool false)).alloc (.cells #[] 205)) b0 3 #[.int .i64 0] := by simpa using (((g0.set_ 0 (.int .i64 0)).far (p := ⟨b1, 0, none⟩) hne (.bool false)).alloc (.cells #[] 205))
 have G1 : Blk (((w.setCell ⟨b0, 0, none⟩ (.int .i64 0)).setCell ⟨b1, 0, none⟩ (.bool false)).alloc (.cells #[] 205)) b1 4 #[.bool false] := by simpa using (((g1.far (p := ⟨b0, 0, none⟩) (Ne.symm hne) (.int .i64 0)).set_ 0 (.bool false)).alloc (.cells #[] 205))
 have HB : ∀ (B : Nat) (v : World), Below B v w → B ≤ b0 → B ≤ b1 → Below B v (((w.setCell ⟨b0, 0, none⟩ (.int .i64 0)).setCell ⟨b1, 0, none⟩ (.bool false)).alloc (.cells #[] 205)) := fun B v h h0 h1 => ((h.setCell (p := ⟨b0, 0, none⟩) h0 (.int .i64 0)).setCell (p := ⟨b1, 0, none⟩) h1 (.bool false)).alloc (Nat.le_trans h0 (Nat.le_of_lt (((g0.set_ 0 (.int .i64 0)).far (p := ⟨b1, 0, none⟩) hne (.bool false)).lt))) _
 generalize (((w.setCell ⟨b0, 0, none⟩ (.int .i64 0)).setCell ⟨b1, 0, none⟩ (.bool false)).alloc (.cells #[] 205)) = W9 at *
 cases c₀
 simp_all [bodyPostS, results, Tryz.results148]
def treeOK (t : List Int) : Bool := (List.range t.length).all fun k : Nat => folF t t.length (k : Int)
def treeL (F : Int → Int → Int) (t : List Int) (k : Nat) : List Int := (List.range k).map fun j : Nat => F (j : Int) (t.getD j 0)
def treeS (F : Int → Int → Int) (t : List Int) : Int := sumI (treeL F t t.length)
theorem treeL_snoc (F : Int → Int → Int) (t : List Int) (k : Nat) : treeL F t (k + 1) = treeL F t k ++ [F (k : Int) (t.getD k 0)] := by unfold treeL; rw [List.range_succ, List.map_append]; rfl
theorem total_any (A : Option Addr) (n cap cb : Nat) (t : List Int) (F : Int → Int → Int) (S : List (Int × Int)) (B : Nat) (w : World) (hn : n ≤ 1000) (ht : ∀ x ∈ t, -1 ≤ x ∧ x < n) (hr : Rd w B 1 A n (t.map (Value.int .i64))) (hB0 : B ≤ w.heap.size) (hC : CM w cb F S)
  (hF : ∀ p q : Int, 0 ≤ p → p < n → -1 ≤ q → q < n → (p, q) ∈ S ∧ 0 ≤ F p q ∧ F p q ≤ 1000) :
  Calls Tryz.prog 104 #[.slice A n cap, .map (some cb)] w fun e w' => e = .returned (.tuple #[.int .i64 (if treeOK t then treeS F t else 0), .bool (treeOK t)]) ∧ Below w.heap.size w w' := by
 obtain ⟨i3, hj, hy0, hy1', hy2'⟩ := info_parts info3
 have hlen : t.length = n := by simpa using hr.len
 have hmf : ∀ (fn : Fn) (first cap : Array Value) (w : World), (Instr.makeFunc fn first cap).run Tryz.prog w = .ok (.func fn first cap) w := fun _ _ _ _ => rfl
 have g0 : Blk ((w.alloc (.cells #[.int .i64 0] 3)).alloc (.cells #[.bool false] 4)) w.heap.size 3 #[.int .i64 0] := (Blk.new w 3 #[.int .i64 0]).alloc _
 have g1 : Blk ((w.alloc (.cells #[.int .i64 0] 3)).alloc (.cells #[.bool false] 4)) (w.heap.size + 1) 4 #[.bool false] := blk2 w _ 4 #[.bool false]
 have hB2 : Below w.heap.size w ((w.alloc (.cells #[.int .i64 0] 3)).alloc (.cells #[.bool false] 4)) := ((Below.refl _ w).alloc (Nat.le_refl _) _).alloc (by simp only [World.size_alloc]; omega) _
 have hCB : ∀ wx, Below w.heap.size w wx → CM wx cb F S := fun wx hx => hC.at_ (hx.block _ hC.lt)
 have hrB : ∀ wx, Below w.heap.size w wx → Rd wx w.heap.size 1 A n (t.map (Value.int .i64)) := fun wx hx => (hr.more hB0).below hx
 have hcl := hC.lt
 have HF := Lib.hid hF; have HCB := Lib.hid hCB; have HRB := Lib.hid hrB; have HL := Lib.hid hlen
 clear hF hCB hrB hlen hC hr
 go_enter_defers Tryz.func104, Tryz.ntmps104
 go_wp2_with fail
 generalize ((w.alloc (.cells #[.int .i64 0] 3)).alloc (.cells #[.bool false] 4)) = w1 at *
 go_loopg [13] n (fun g i wr => ∃ k : Nat, g = n - k ∧ k ≤ n ∧ i = .int .i64 k ∧ Hid (∀ j : Nat, j < k → folF t n (j : Int) = true) ∧ wr = w1)
 case atStart => exact ⟨0, rfl, Nat.zero_le _, rfl, Lib.hid (fun j h => absurd h (Nat.not_lt_zero _)), rfl⟩
 case round =>
  obtain ⟨k, hg, hk, rfl, hall, rfl⟩ := hrel
  have HG := Lib.hid hg; clear hg
  have hB1s := hB2.size
  by_cases hlt : k < n
  ·have hlti : (k : Int) < n := by omega
   have hfo := follow_any A n cap t (k : Int) wr hn ht ((HRB.out wr hB2).more hB1s) ⟨by omega, hlti⟩
   by_cases hf : folF t n (k : Int) = true
   ·rw [if_pos hf] at hfo
    go_wp2_with (first | (go_at_call 149; refine hfo.mono ?_; rintro e w2 ⟨rfl, rfl⟩))
    go_roundg (n - (k + 1))
    case measure => rw [HG.out]; omega
    case rel => exact ⟨k + 1, rfl, by omega, by go_num, Lib.hid (fun j h => by
      by_cases e : j = k
      · subst e; exact hf
      · exact hall.out j (by omega)), rfl⟩
   ·rw [if_neg hf] at hfo
    have hno : treeOK t = false := by
     unfold treeOK
     rw [List.all_eq_false]
     exact ⟨k, List.mem_range.2 (by rw [HL.out]; exact hlt), by rw [HL.out]; exact hf⟩
    have HFO := Lib.hid hfo; have HNO := Lib.hid hno
    clear hfo hf hall hno
    go_wp2_with (first | (go_at_call 149; refine HFO.out.mono ?_; rintro e w2 ⟨rfl, rfl⟩))
    ·rename_i h
     rw [HNO.out] at h
     cases h
    ·refine leaves_cons (f := 148) (args := #[.pointer (some ⟨w.heap.size, 0, none⟩), .pointer (some ⟨w.heap.size + 1, 0, none⟩)]) (by simp) (by simp [go_sem]) ?_
     refine (totCatch _ _ _ _ [] _ g0 g1 (by omega)).mono ?_
     rintro e u' w9 ⟨rfl, rfl, h0, h1, hb9⟩
     have q0 := fun i => h0.cell i; have q1 := fun i => h1.cell i
     have hB9 := hb9 _ _ hB2 (Nat.le_refl _) (by omega)
     simp [Leaves, settle, results, Tryz.results104, go_sem, q0, q1]
     exact hB9
  ·obtain rfl : k = n := by omega
   have hge : ¬ (k : Int) < k := by omega
   have hok : treeOK t = true := by
    unfold treeOK
    rw [List.all_eq_true]
    intro j hj
    rw [HL.out]
    exact hall.out j (by rw [← HL.out]; exact List.mem_range.1 hj)
   have HOK := Lib.hid hok
   clear hok hall
   go_wp2_with fail
   go_loopg [7, 22] k (fun g v i wr => ∃ (m : Nat) (v0 : Value), g = k - m ∧ m ≤ k ∧ v = v0 ∧ i = .int .i64 m ∧ wr.ownsRow (w.heap.size + 2) 3 1 v0 m ((treeL F t m).map (Value.int .i64)) ∧ Blk wr w.heap.size 3 #[.int .i64 0] ∧ Blk wr (w.heap.size + 1) 4 #[.bool false] ∧ Below w.heap.size w wr)
   case atStart => exact ⟨0, _, rfl, Nat.zero_le _, rfl, rfl, World.ownsRow_nil _ _ _ _, g0, g1, hB2⟩
   case round =>
    clear g0 g1 hB2
    obtain ⟨m, v0, hg, hm, rfl, rfl, hown, g0, g1, hB2⟩ := hrel
    have HG2 := Lib.hid hg; clear hg
    obtain ⟨va, vc, rfl⟩ := own_slice hown
    by_cases hmk : m < k
    ·have hlti : (m : Int) < k := by omega
     rename World => wr2
     obtain ⟨b, off, hz, rfl, hb, hcell⟩ := (HRB.out wr2 hB2).atm hmk
     have hx := ht _ (List.getElem_mem hz)
     have hts : treeL F t (m + 1) = treeL F t m ++ [F (m : Int) t[m]] := by rw [treeL_snoc, List.getD_eq_getElem?_getD, List.getElem?_eq_getElem hz]; rfl
     have HTS := Lib.hid hts; have HT := Lib.hid ht; clear hts ht
     generalize t[m] = x at *
     obtain ⟨hin, hb0, hb1⟩ := HF.out (m : Int) x (by omega) hlti hx.1 hx.2
     obtain ⟨D, hD, hDa⟩ := HCB.out wr2 hB2
     obtain ⟨kl, hkl⟩ := key208 (m : Int) x (by omega) (by omega)
     have hat0 := hDa _ _ kl hkl hin
     have HAT := Lib.hid hat0; have HKL := Lib.hid hkl
     clear hDa hat0 hkl hin
     generalize F (m : Int) x = fx at *
     go_wp2_with (first
       | (at_lookup; refine wpList_lookup_own_int _ rfl _ _ 147 rfl 208 3 .i64 law208 Tryz.underlying147 Tryz.underlying3 (zero3 _) cb S.length D rfl hD _ kl rfl HKL.out ?_; intro c hat hwc; have hce : c = fx := (by have := hat.symm.trans HAT.out; simpa using this); clear hat hwc; subst hce; have hnb := Blk.new wr2 3 #[.int .i64 c])
       | (at_builtin; refine wpList_append_any _ rfl _ _ 25 rfl (w.heap.size + 2) 3 i3 (.int .i64 0) 1 8 Tryz.underlying25 hj hy0 hy1' hy2' rfl (by decide) (.slice va m vc) m ((treeL F t m).map (Value.int .i64)) rfl (hown.alloc _) (wr2.heap.size + 1) (some ⟨wr2.heap.size, 0, none⟩) 1 1 [.int .i64 c] rfl (Rd.blkN hnb rfl (by omega)).reads (by simp [Value.oneCell']) (by unfold maxLen; omega) (by omega) (by have := g1.lt; rw [World.size_alloc]; omega) (fun v' w3 hown' hgrow hob => ?_)))
     have hnow := fun g hg => ((hown.alloc (.cells #[.int .i64 c] 3)).lt g hg).1
     have hB3 := (hB2.alloc hB2.size (.cells #[.int .i64 c] 3)).grown hgrow (by have := hB2.size; rw [World.size_alloc]; omega) (fun g hg => by have := hnow g hg; omega)
     have g03 := (g0.alloc (.cells #[.int .i64 c] 3)).grown hgrow (fun e => by have := hnow _ e.symm; omega)
     have g13 := (g1.alloc (.cells #[.int .i64 c] 3)).grown hgrow (fun e => by have := hnow _ e.symm; omega)
     go_roundg (k - (m + 1))
     case measure => rw [HG2.out]; omega
     case rel => exact ⟨m + 1, v', rfl, by omega, rfl, by go_num, by rw [HTS.out, List.map_append]; exact hown', g03, g13, hB3⟩
    ·obtain rfl : m = k := by omega
     have hge2 : ¬ (m : Int) < m := by omega
     have hsm := sum_any va m vc (treeL F t m) _ (by omega) (fun x hx => by
       unfold treeL at hx
       obtain ⟨j, hj, rfl⟩ := List.mem_map.1 hx
       have hjm := List.mem_range.1 hj
       have hjl : j < t.length := by have := HL.out; omega
       have hg : t.getD j 0 = t[j] := by rw [List.getD_eq_getElem?_getD, List.getElem?_eq_getElem hjl]; rfl
       have h1 := ht _ (List.getElem_mem hjl)
       have h2 := HF.out (j : Int) (t.getD j 0) (by omega) (by omega) (by rw [hg]; omega) (by rw [hg]; omega)
       omega) (Rd.of_own hown)
     have hts : treeS F t = sumI (treeL F t m) := by unfold treeS; rw [HL.out]
     have HSM := Lib.hid hsm; have HTS := Lib.hid hts
     clear hsm hts ht hown
     generalize sumI (treeL F t m) = sx at *
     have q0 := fun i => g0.cell i; have f0 := fun i => g0.frozen i; have l0 := g0.lt
     have q1 := fun i => g1.cell i; have f1 := fun i => g1.frozen i; have l1 := g1.lt
     go_wp2_with (first | (go_at_call 98; refine HSM.out.mono ?_; rintro e w3 ⟨rfl, rfl⟩))
     ·clear q0 f0 l0 q1 f1 l1
      have G0 : Blk ((wr.setCell ⟨w.heap.size, 0, none⟩ (.int .i64 sx)).setCell ⟨w.heap.size + 1, 0, none⟩ (.bool true)) w.heap.size 3 #[.int .i64 sx] := by simpa using ((g0.set_ 0 (.int .i64 sx)).far (p := ⟨w.heap.size + 1, 0, none⟩) (show w.heap.size ≠ w.heap.size + 1 by omega) (.bool true))
      have G1 : Blk ((wr.setCell ⟨w.heap.size, 0, none⟩ (.int .i64 sx)).setCell ⟨w.heap.size + 1, 0, none⟩ (.bool true)) (w.heap.size + 1) 4 #[.bool true] := by simpa using ((g1.far (p := ⟨w.heap.size, 0, none⟩) (show w.heap.size + 1 ≠ w.heap.size by omega) (.int .i64 sx)).set_ 0 (.bool true))
      have HB := (hB2.setCell (p := ⟨w.heap.size, 0, none⟩) (Nat.le_refl _) (.int .i64 sx)).setCell (p := ⟨w.heap.size + 1, 0, none⟩) (show w.heap.size ≤ w.heap.size + 1 by omega) (.bool true)
      generalize ((wr.setCell ⟨w.heap.size, 0, none⟩ (.int .i64 sx)).setCell ⟨w.heap.size + 1, 0, none⟩ (.bool true)) = W9 at *
      refine leaves_cons (f := 148) (args := #[.pointer (some ⟨w.heap.size, 0, none⟩), .pointer (some ⟨w.heap.size + 1, 0, none⟩)]) (by simp) (by simp [go_sem]) ?_
      refine (totIdle _ _ _).mono ?_
      rintro e u' w9 ⟨rfl, rfl, rfl⟩
      have q0 := fun i => G0.cell i; have q1 := fun i => G1.cell i
      refine ⟨.tuple #[.int .i64 sx, .bool true], ?_, by rw [HTS.out], HB⟩
      simp [results, Tryz.results104, go_sem, q0, q1]
end
section
open Go.RowKit Go.Lib Go.Maps Go.Shelf
attribute [local go_sem] Oper.semAt_some
theorem info161 : (Tryz.prog.info? 161).map (fun i => (i.zero, i.size, i.bytes)) = some (some (.agg #[.slice none 0 0, .int .i64 0]), 2, 32) := by kernel_rfl
def treesOf (n : Nat) (F : Int → Int → Int) (ps : List (List Int)) : List (List Int × Int) := ps.flatMap fun p => if treeOK (p.map (· - 1)) then [(p.map (· - 1), treeS F (p.map (· - 1)))] else []
theorem treesOf_snoc (n : Nat) (F : Int → Int → Int) (ps : List (List Int)) (p : List Int) : treesOf n F (ps ++ [p]) = treesOf n F ps ++ (if treeOK (p.map (· - 1)) then [(p.map (· - 1), treeS F (p.map (· - 1)))] else []) := by unfold treesOf; simp
theorem treesOf_le (n : Nat) (F : Int → Int → Int) : ∀ ps : List (List Int), (treesOf n F ps).length ≤ ps.length := by
 refine revInd (Nat.le_refl _) ?_
 intro l x ih
 rw [treesOf_snoc, List.length_append, List.length_append, List.length_singleton]
 split <;> simp <;> omega
def tGT (x : RI × Int) : GT := ⟨x.1.A, x.1.n, x.1.cap, x.2⟩
def TRows (w : World) (B : Nat) (rs : List (RI × Int)) (L : List (List Int × Int)) : Prop := rs.map (fun x => (x.1.ws, x.2)) = L ∧ ∀ x ∈ rs, w.ownsRow B 3 1 x.1.val x.1.n (intsV x.1.ws)
theorem TRows.at_ {A B : World} {b : Nat} {rs : List (RI × Int)} {L : List (List Int × Int)} (h : TRows A b rs L) (hk : ∀ x ∈ rs, ∀ g, x.1.val.ownBlock = some g → B.heap[g]? = A.heap[g]?) : TRows B b rs L :=
 ⟨h.1, fun x hx => ownsRow_at (h.2 x hx) (hk x hx)⟩
theorem TRows.alloc {A : World} {b : Nat} {rs : List (RI × Int)} {L : List (List Int × Int)} (h : TRows A b rs L) (o : Obj) : TRows (A.alloc o) b rs L := ⟨h.1, fun x hx => (h.2 x hx).alloc o⟩
theorem TRows.below {A B : World} {b : Nat} {rs : List (RI × Int)} {L : List (List Int × Int)} (h : TRows A b rs L) (hb : Below A.heap.size A B) : TRows B b rs L := ⟨h.1, fun x hx => ownsRow_below' (h.2 x hx) hb⟩
theorem TRows.kept {A B : World} {b b2 sz m : Nat} {v : Value} {xs : List Value} {rs : List (RI × Int)} {L : List (List Int × Int)} (h : TRows A b rs L) (hg : A.grownBy B v.ownBlock) (ho : A.ownsRow b2 161 sz v m xs) : TRows B b rs L :=
 ⟨h.1, fun x hx => (h.2 x hx).kept hg (own_ne (h.2 x hx) ho (by decide))⟩
theorem TRows.len {A : World} {b : Nat} {rs : List (RI × Int)} {L : List (List Int × Int)} (h : TRows A b rs L) : rs.length = L.length := by rw [← h.1, List.length_map]
theorem own_map {A : World} {base e sz n b : Nat} {v : Value} {xs : List Value} (ho : A.ownsRow base e sz v n xs) (hb : v.ownBlock = some b) (hm : ∃ es c, A.heap[b]? = some (.map es c)) : False := by
 obtain ⟨es, c, hmap⟩ := hm
 rcases ho.2 with ⟨h1, _⟩ | ⟨g, cp, cur, h1, _, h3, _⟩
 ·rw [h1] at hb; cases hb
 ·rw [h1] at hb
  injection hb with hb
  have e' : g = b := hb
  rw [e', hmap] at h3
  cases h3
theorem own_blk {A : World} {base e sz n b : Nat} {t : TypeId} {cs : Array Value} {v : Value} {xs : List Value} (ho : A.ownsRow base e sz v n xs) (hb : Blk A b t cs) (hne : e ≠ t) (hv : v.ownBlock = some b) : False := by
 rcases ho.2 with ⟨h1, _⟩ | ⟨g, cp, cur, h1, _, h3, _⟩
 ·rw [h1] at hv; cases hv
 ·rw [h1] at hv
  injection hv with hv
  have e' : g = b := hv
  have hb' : A.heap[b]? = _ := hb
  rw [e', hb'] at h3
  injection h3 with h3
  injection h3 with _ h3
  exact hne h3.symm
def decK (k : Nat) (xs : List Int) : List Int := (xs.take k).map (· - 1) ++ xs.drop k
theorem decK_len (k : Nat) (xs : List Int) : (decK k xs).length = xs.length := by unfold decK; simp; omega
theorem decK_get {k : Nat} {xs : List Int} (h : k < xs.length) : (decK k xs)[k]'(by rw [decK_len]; exact h) = xs[k] := by
 unfold decK
 rw [List.getElem_append_right (by rw [List.length_map, take_len h]; exact Nat.le_refl _)]
 simp only [List.length_map, take_len h, Nat.sub_self, List.getElem_drop, Nat.add_zero]
theorem decK_all (xs : List Int) : decK xs.length xs = xs.map (· - 1) := by unfold decK; simp
theorem decK_set {k : Nat} {xs : List Int} (h : k < xs.length) : (intsV (decK k xs)).set k (.int .i64 (xs[k] - 1)) = intsV (decK (k + 1) xs) := by
 have hd : xs.drop k = xs[k] :: xs.drop (k + 1) := List.drop_eq_getElem_cons h
 have ht : xs.take (k + 1) = xs.take k ++ [xs[k]] := List.take_succ_eq_append_getElem h
 unfold decK intsV
 rw [hd, ht, List.map_append, List.map_append, List.map_append, List.map_append, List.append_assoc, List.set_append_right _ _ (by simp; omega)]
 simp [take_len h]
 rw [show k - min k xs.length = 0 by omega, ← List.map_drop, ← List.map_drop, hd]
 rfl
theorem trees_any {wn : Nat} {A : Option Addr} {n : Nat} (cap : Nat) {cs : List VC} {w : World} {B : Nat} {tA : Option Addr} {tn tc : Nat} {ts : List RI} (mb N' : Nat) (hb : BkG wn A n cs w B) (ht : TxG cs tA tn ts w B) (hBm : B ≤ mb) (hm : Memo w mb N') (hN : N' + 1000000000 ≤ maxLen) :
  Calls Tryz.prog 112 #[.agg #[.int .i64 (wn : Int), .slice A n cap, .slice tA tn tc, .map (some mb)]] w fun e w' => ∃ v rs, e = .returned v ∧ w'.ownsRow w.heap.size 161 2 v rs.length ((rs.map tGT).flatMap GT.cells) ∧ TRows w' w.heap.size rs (treesOf n (costV cs ts) (allLs n (n + 1))) ∧ (∀ x ∈ rs, x.1.n = n) ∧ GB w.heap.size mb w w' := by
 obtain ⟨i161, hi, hz0, hz1', hz2'⟩ := info_parts info161
 have hmb := hm.lt
 have hn5 := hb.2.1
 have hCO := fun (wx : World) (hx : GB w.heap.size mb w wx) (hmx : Memo wx mb N') => costs_any cap mb N' (tc := tc) ((hb.below (hx.below hBm (by omega)))) (ht.below (hx.below hBm (by omega))) hBm hmx hN
 have hCB := fun (p q : Int) (h1 : 0 ≤ p) (h2 : p < n) (h3 : -1 ≤ q) (h4 : q < n) => costV_bd hb ht (k := p) (f := q) ⟨h1, h2⟩ h3 h4
 have hX := (Blk.new w 149 #[.int .i64 (wn : Int), .slice A n cap, .slice tA tn tc, .map (some mb)]).alloc (.cells #[.slice none 0 0] 164)
 have hV := blk2_1 w (.cells #[.int .i64 (wn : Int), .slice A n cap, .slice tA tn tc, .map (some mb)] 149) 164 #[.slice none 0 0]
 have hG : GB w.heap.size mb w ((w.alloc (.cells #[.int .i64 (wn : Int), .slice A n cap, .slice tA tn tc, .map (some mb)] 149)).alloc (.cells #[.slice none 0 0] 164)) := ((GB.refl _ _ _).alloc (Nat.le_refl _) _).alloc (by simp only [World.size_alloc]; omega) _
 have hm0 := (hm.alloc (.cells #[.int .i64 (wn : Int), .slice A n cap, .slice tA tn tc, .map (some mb)] 149)).alloc (.cells #[.slice none 0 0] 164)
 have hco := hCO _ hG hm0
 have HCO := Lib.hid hco; have HCB := Lib.hid hCB
 clear hco hCO hCB hb ht hm
 refine (callsIn_wide (n := 9)).1 ?_
 refine callsIn_of_wp_marks Tryz.func112 rfl trivial ?_ rfl
 simp only [Tryz.ntmps112, List.size_toArray, List.length_cons, List.length_nil, Nat.reduceAdd, Nat.reduceSub, Array.replicate_succ, Array.replicate_zero, List.push_toArray, List.append_toArray, List.nil_append, List.cons_append]
 have qX := fun i => hX.cell i
 gi_wp2_with (first
   | (refine ⟨trivial, ?_⟩; gi_at_call 105; refine (callsIn_wide.2 HCO.out).mono ?_; rintro e w1 ⟨cb, rfl, hcb, ⟨S, hCM, hin⟩, hg⟩; have hX1 := hX.gb hg (by omega); clear qX; have qX := fun i => hX1.cell i; have hlX := hX1.lt; have hfn := fun (W : World) => (Blk.new W 147 #[.map none]).frozen 0)
   | (refine ⟨trivial, ?_⟩; gi_at_call 137; refine (callsIn_wide.2 (lists_any (n : Int) ((n : Int) + 1) _)).mono ?_; rintro e w' ⟨rfl, rfl⟩))
 obtain ⟨S1, hS1⟩ : ∃ S1, S1 = w1.heap.size := ⟨_, rfl⟩
 obtain ⟨W0, hW0⟩ : ∃ W0 : World, W0 = ((w1.alloc (.cells #[.map (some cb)] 147)).alloc (.cells #[.int .i64 (n : Int)] 3)).alloc (.cells #[.int .i64 ((n : Int) + 1)] 3) := ⟨_, rfl⟩
 have hC := ((Blk.new w1 147 #[.map (some cb)]).alloc (.cells #[.int .i64 (n : Int)] 3)).alloc (.cells #[.int .i64 ((n : Int) + 1)] 3)
 have hMb := (blk2_1 w1 (.cells #[.map (some cb)] 147) 3 #[.int .i64 (n : Int)]).alloc (.cells #[.int .i64 ((n : Int) + 1)] 3)
 have hLb := Blk.new ((w1.alloc (.cells #[.map (some cb)] 147)).alloc (.cells #[.int .i64 (n : Int)] 3)) 3 #[.int .i64 ((n : Int) + 1)]
 have hbw : Below w1.heap.size w1 W0 := by rw [hW0]; exact (((Below.refl _ _).alloc (Nat.le_refl _) _).alloc (by simp only [World.size_alloc]; omega) _).alloc (by simp only [World.size_alloc]; omega) _
 have hsz : W0.heap.size = S1 + 1 + 1 + 1 := by rw [hW0, hS1]; simp only [World.size_alloc]
 have hG1 : GB w.heap.size mb w w1 := hG.call hg hG.size
 have hG0 := hG1.trans (GB.of_below (hbw.mono hG1.size))
 have hV1 := (hV.gb hg (by omega)).below hbw (hV.gb hg (by omega)).lt
 have hCM0 := hCM.at_ (hbw.block _ hCM.lt)
 have hS1w : w.heap.size + 2 ≤ S1 := by rw [hS1]; have := hg.size; simp only [World.size_alloc] at this; omega
 have hcl : cb < S1 ∧ mb < cb := ⟨by rw [hS1]; exact hCM.lt, by simp only [World.size_alloc] at hcb; omega⟩
 rw [show ((w1.alloc (.cells #[.map (some cb)] 147)).alloc (.cells #[.int .i64 (n : Int)] 3)).heap.size = S1 + 1 + 1 by rw [hS1]; simp only [World.size_alloc]] at hLb
 rw [← hS1] at hC hMb
 rw [← hW0] at hC hMb hLb
 rw [← hW0, ← hS1]
 have HS1W := Lib.hid hS1w; have HSZ := Lib.hid hsz; have HCL := Lib.hid hcl; have HIN := Lib.hid hin
 clear hW0 hsz hbw hg hX hX1 hS1 qX hlX hfn hG1 hG hV hCM hm0 hcb hcl hin hS1w HCO
 have hCM := hCM0; have hV := hV1; have hG := hG0
 clear hCM0 hV1 hG0
 have hml : mb < w.heap.size := hmb
 refine wpIn_rangeO (F := Fence.wide) (n := 9) (w0 := W0) (Pre := fun ys => ys.map Prod.fst <+: allLs n (n + 1)) (S := fun ys => ys.map Prod.fst = allLs n (n + 1)) (O0 := fun k => k = S1 + 1 ∨ k = S1 + 1 + 1) (Good := GoodL n (n + 1)) (encs := fun x : LV => #[x.2]) rfl (by omega) (gf := 182) (lb := #[.pointer (some ⟨S1 + 1, 0, none⟩), .pointer (some ⟨S1 + 1 + 1, 0, none⟩)]) rfl trivial (enters_of Tryz.func182 (by kernel_rfl) rfl)
  (fun k h => by have := HSZ.out; omega) (lists_seq n (n + 1) (S1 + 1) (S1 + 1 + 1) _ (by omega) (by omega) W0 hMb hLb) (Below.refl _ _) (fun _ => rfl)
  (fun (pre : List LV) O Z => ∃ v rs, Blk Z (w.heap.size + 1) 164 #[v] ∧ Blk Z S1 147 #[.map (some cb)] ∧ Z.ownsRow w.heap.size 161 2 v rs.length ((rs.map tGT).flatMap GT.cells) ∧ TRows Z w.heap.size rs (treesOf n (costV cs ts) (pre.map Prod.fst)) ∧ CM Z cb (costV cs ts) S ∧ GB w.heap.size mb w Z ∧ OIn (S1 + 1) O Z ∧ Apart O v ∧ (∀ x ∈ rs, Apart O x.1.val ∧ x.1.n = n))
  (fun _ _ _ _ => False)
  ?hI (fun _ _ _ _ _ _ h => h.elim) ?h0 ?hround ?hdone (fun _ _ _ _ _ _ _ h => h.elim)
 case hI =>
  rintro s O O' P0 Q0 ⟨v, rs, h1, h2, h3, h4, h5, h6, h7, h8, h9⟩ ho hO'
  have hs1 := HS1W.out; have hc1 := HCL.out
  exact ⟨v, rs, ho.blk h1 (fun h => by have := h7.1 _ h; omega), ho.blk h2 (fun h => by have := h7.1 _ h; omega), ho.own h3 h8, h4.at_ (fun x hx g hg => ho.block g ((h4.2 x hx).lt g hg).2 ((h9 x hx).1 g hg)), h5.at_ (ho.block cb h5.lt (fun h => by have := h7.1 _ h; omega)), Off.gb h6 ho (fun k h => by have := h7.1 _ h; omega) (by have := h7.2.2; omega), h7.off ho hO', h8.off h3 hO', fun x hx => ⟨(h9 x hx).1.off (h4.2 x hx) hO', (h9 x hx).2⟩⟩
 case h0 =>
  intro W3 hb3 hs3
  have hs := HSZ.out
  have hs1 := HS1W.out
  refine ⟨_, [], hV.below hb3 hV.lt, hC.below hb3 hC.lt, World.ownsRow_nil _ _ _ _, ⟨rfl, fun x h => by cases h⟩, hCM.at_ (hb3.block _ hCM.lt), hG.trans (GB.of_below (hb3.mono (by omega))), ⟨?_, ?_, by omega⟩, (fun g h => by cases h), (fun x h => by cases h)⟩
  ·intro k h; omega
  ·intro k h; omega
 case hround =>
  rintro l' pre x O W0' W1' K1 hOl ⟨v, rs, h1, h2, h3, h4, h5, h6, h7, h8, h9⟩ ho hx hpr hK1
  simp only [List.zip_toArray, List.zip_cons_cons, List.zip_nil_right, List.foldl_toArray', List.foldl_toArray, List.foldl_cons, List.foldl_nil, List.setIfInBounds_toArray, List.set_cons_succ, List.set_cons_zero, List.size_toArray, List.length_cons, List.length_nil]
  gi_wp2
  refine hK1 _ _ (Held.refl _ _) (fun W2 ho2 hsz2 => ?_)
  obtain ⟨xs, xv⟩ := x
  obtain ⟨hx, hxb⟩ := hx
  dsimp only at hx hxb ⊢
  have hs1 := HS1W.out; have hc1 := HCL.out
  have hxl : xs.length = n := by have := (Rd.of_own (w := W1') (A := none) (c := 0) (base := 0) (e := 3) (sz := 1) (n := 0) (xs := []) (World.ownsRow_nil _ _ _ _)).1; have h := hx.1; simpa using h
  have hoo := ho.trans ho2
  have hx2 := ho2.own hx (fun g hg hO => by have := h7.2.1 g hO; have := (hx.lt g hg).1; omega)
  replace hV := hoo.blk h1 (fun h => by have := h7.1 _ h; omega)
  replace hC := hoo.blk h2 (fun h => by have := h7.1 _ h; omega)
  have hown := hoo.own h3 h8
  have hT := h4.at_ (fun x hx g hg => hoo.block g ((h4.2 x hx).lt g hg).2 ((h9 x hx).1 g hg))
  replace hCM := h5.at_ (hoo.block cb h5.lt (fun h => by have := h7.1 _ h; omega))
  replace hG := Off.gb h6 hoo (fun k h => by have := h7.1 _ h; omega) (by have := h7.2.2; omega)
  have hOI := h7.off hoo (O' := O) (fun k h => .inl h)
  have hOV : ¬ O (w.heap.size + 1) := fun h => by have := h7.1 _ h; omega
  have hlow : (∀ z, v.ownBlock = some z → z < W0'.heap.size) ∧ (∀ y ∈ rs, ∀ z, y.1.val.ownBlock = some z → z < W0'.heap.size) := ⟨fun z hz => (h3.lt z hz).2, fun y hy z hz => ((h4.2 y hy).lt z hz).2⟩
  have hVlt := h1.lt; have hClt := h2.lt; have hMlt := h5.lt
  have hOsz := fun k (h : O k) => h7.2.1 k h
  have hle : pre.length + 1 ≤ 7776 := by
   have h := hpr.length_le
   rw [List.length_map, List.length_append, allLs, dfsL_len] at h
   have h1 : (n + 1) ^ n ≤ 6 ^ n := Nat.pow_le_pow_left (by omega) n
   have h2 : 6 ^ n ≤ 6 ^ 5 := Nat.pow_le_pow_right (by omega) hn5.2
   simp at h
   omega
  have hrl : rs.length ≤ 7776 := by have := h4.len; have := treesOf_le n (costV cs ts) (pre.map Prod.fst); rw [List.length_map] at this; omega
  obtain ⟨ps, hps⟩ : ∃ ps, ps = pre.map Prod.fst := ⟨_, rfl⟩
  rw [← hps] at hT
  have HPS : Hid ((pre ++ [(xs, xv)]).map Prod.fst = ps ++ [xs]) := Lib.hid (by rw [hps]; simp)
  obtain ⟨m, hm⟩ : ∃ m, m = W0'.heap.size := ⟨_, rfl⟩
  rw [← hm] at hx2 hlow hVlt hClt hMlt hOsz
  obtain ⟨g, rc, rfl, hgm, hgl⟩ := hx2.form hn5.1
  have HOI := Lib.hid hOI; have HAP := Lib.hid h8; have HNX := Lib.hid h9; have HLW := Lib.hid hlow; have HOS := Lib.hid hOsz
  obtain ⟨va, vc, rfl⟩ := own_slice hown
  obtain ⟨j, hj⟩ : ∃ j, j = rs.length := ⟨_, rfl⟩
  obtain ⟨ys, hys⟩ : ∃ ys, ys = (rs.map tGT).flatMap GT.cells := ⟨_, rfl⟩
  rw [← hj, ← hys] at hown
  rw [← hj] at hV hrl
  have HJ := Lib.hid hj; have HYS := Lib.hid hys
  clear h1 h2 h3 h4 h5 h6 h7 h8 h9 ho ho2 hsz2 hoo hOI hK1 hpr hx hlow hOsz hps hle hm hj hys
  gi_wp2
  gi_loopg [24] n (fun gg i wr => ∃ k : Nat, gg = n - k ∧ k ≤ n ∧ i = .int .i64 k ∧ wr.ownsRow m 3 1 (.slice (some ⟨g, 0, none⟩) n rc) n (intsV (decK k xs)) ∧ Off (fun z => z = g) W2 wr ∧ wr.heap.size = W2.heap.size)
  case atStart => exact ⟨0, rfl, Nat.zero_le _, rfl, by simpa [decK] using hx2, Off.refl _ _, rfl⟩
  case round =>
   clear hx2 hgl
   obtain ⟨k, hg, hk, rfl, hown2, hoff, hsz⟩ := hrel
   rename World => WR
   have HG := Lib.hid hg; clear hg
   by_cases hkL : k < n
   ·have hki : (k : Int) < n := by omega
    have hkR : k < xs.length := by rw [hxl]; exact hkL
    have hget := decK_get hkR
    have hset := decK_set hkR
    have hbk := hxb _ (List.getElem_mem hkR)
    have HCC : Hid (∀ W : World, W.ownsRow m 3 1 (.slice (some ⟨g, 0, none⟩) n rc) n (intsV (decK k xs)) → W.cell? ⟨g, k, none⟩ = some (.int .i64 xs[k])) := Lib.hid (fun W hW => by
      obtain ⟨_, _, _, e4, _, hc⟩ := (Rd.of_own hW).atm hkL
      cases e4
      rw [hget, Nat.zero_add] at hc
      exact hc)
    have HFZ : Hid (∀ W : World, W.ownsRow m 3 1 (.slice (some ⟨g, 0, none⟩) n rc) n (intsV (decK k xs)) → W.frozen? ⟨g, k, none⟩ = false) := Lib.hid (fun W h => own_fz h _)
    have HSET := Lib.hid hset; have HXB := Lib.hid hxb
    clear hget hset hxb
    generalize xs[k] = y at *
    have hlg : g < WR.heap.size := (hown2.lt g rfl).2
    have hcc := HCC.out _ hown2; have hfz := HFZ.out _ hown2
    have hs2 := own_put hown2 (k := k) (by omega) (.int .i64 (y - 1))
    rw [HSET.out] at hs2
    have ho3 := hoff.trans (Off.setCell (O := fun z => z = g) (A := WR) (p := ⟨g, k, none⟩) rfl (.int .i64 (y - 1)))
    have hs3 : (WR.setCell ⟨g, k, none⟩ (.int .i64 (y - 1))).heap.size = W2.heap.size := by rw [← hsz]; simp
    gi_wp2
    rw [show y + -1 = y - 1 by omega]
    gi_roundg (n - (k + 1))
    case measure => rw [HG.out]; omega
    case rel => exact ⟨k + 1, rfl, by omega, by go_num, hs2, ho3, hs3⟩
   ·obtain rfl : k = n := by omega
    have hge : ¬ (k : Int) < k := by omega
    have hall : decK k xs = xs.map (· - 1) := by rw [← hxl]; exact decK_all xs
    rw [hall] at hown2
    have hs1 := HS1W.out; have hc1 := HCL.out
    have hHel : Held O W2 WR := ⟨hoff.size, fun z hz ho => hoff.block z hz (fun e => by have := HOS.out z ho; omega)⟩
    replace hV := hoff.blk hV (show w.heap.size + 1 ≠ g by omega)
    replace hC := hoff.blk hC (show S1 ≠ g by omega)
    replace hown := hoff.own hown (fun z hz e => by have := HLW.out.1 z (by rw [← HJ.out]; exact hz); omega)
    replace hT := hT.at_ (fun y hy z hz => hoff.block z ((hT.2 y hy).lt z hz).2 (fun e => by have := HLW.out.2 y hy z hz; omega))
    replace hCM := hCM.at_ (hoff.block cb hCM.lt (show cb ≠ g by omega))
    replace hG : GB w.heap.size mb w WR := Off.gb hG hoff (fun z hz => by have : z = g := hz; omega) hG.size
    have hrow : Rd WR WR.heap.size 1 (some ⟨g, 0, none⟩) k ((xs.map (· - 1)).map (Value.int .i64)) := Rd.of_own hown2
    have hmem : ∀ x ∈ xs.map (· - 1), -1 ≤ x ∧ x < (k : Int) := fun x hx => by
     obtain ⟨y, hy, rfl⟩ := List.mem_map.1 hx
     have := hxb y hy
     omega
    have htot := total_any (some ⟨g, 0, none⟩) k rc cb (xs.map (· - 1)) (costV cs ts) S WR.heap.size WR (by omega) hmem hrow (Nat.le_refl _) hCM (fun p q h1 h2 h3 h4 => ⟨HIN.out p q h1 h2 h3 h4, HCB.out p q h1 h2 h3 h4⟩)
    have hsn := treesOf_snoc k (costV cs ts) ps xs
    obtain ⟨tr, htr⟩ : ∃ tr, tr = xs.map (· - 1) := ⟨_, rfl⟩
    rw [← htr] at htot hsn hown2
    have HSN := Lib.hid hsn
    obtain ⟨ok, hok⟩ : ∃ ok, ok = treeOK tr := ⟨_, rfl⟩
    obtain ⟨c, hcc⟩ : ∃ c, c = (if treeOK tr then treeS (costV cs ts) tr else 0) := ⟨_, rfl⟩
    rw [← hcc, ← hok] at htot
    have HTOT := Lib.hid htot; have HOK := Lib.hid hok; have HCC := Lib.hid hcc
    clear hrow hmem htot hsn hok hcc hall hxl hxb hoff hsz htr
    have qC := fun i => hC.cell i; have hlC := hC.lt
    have hG0s := hG.size
    cases ok
    ·gi_wp2_with (refine ⟨trivial, ?_⟩; gi_at_call 104; refine (CallsIn.inRound l' (callsIn_wide.2 HTOT.out)).mono ?_; rintro e w3 ⟨rfl, hb3⟩; clear qC hlC)
     have hh3 : Held O W2 w3 := hHel.trans (Held.of_below hb3)
     refine ⟨hh3, .slice va j vc, rs, hV.below hb3 hV.lt, hC.below hb3 hC.lt, by rw [← HJ.out, ← HYS.out]; exact ownsRow_below' hown hb3, ?_, hCM.at_ (hb3.block cb hCM.lt), hG.trans (GB.of_below (hb3.mono hG0s)), HOI.out.held hh3, by rw [HJ.out]; exact HAP.out, HNX.out⟩
     rw [HPS.out, HSN.out, ← HOK.out, if_neg (by decide), List.append_nil]
     exact hT.below hb3
    ·gi_wp2_with (first
       | (refine ⟨trivial, ?_⟩; gi_at_call 104; refine (CallsIn.inRound l' (callsIn_wide.2 HTOT.out)).mono ?_; rintro e w3 ⟨rfl, hb3⟩; clear qC hlC; replace hV := hV.below hb3 hV.lt; replace hC := hC.below hb3 hC.lt; replace hown := ownsRow_below' hown hb3; replace hown2 := ownsRow_below' hown2 hb3; replace hT := hT.below hb3; replace hCM := hCM.at_ (hb3.block cb hCM.lt); replace hG := hG.trans (GB.of_below (hb3.mono hG0s)); have hh3 : Held O W2 w3 := hHel.trans (Held.of_below hb3); have qV := fun i => hV.cell i; have hlV := hV.lt; have hn3 := Blk.new w3 161 #[.slice (some ⟨g, 0, none⟩) k rc, .int .i64 c])
       | (gi_at_builtin; refine wpListIn_append_any (fun _ => trivial) rfl _ _ 164 rfl _ w.heap.size 161 i161 (.agg #[.slice none 0 0, .int .i64 0]) 2 32 Tryz.underlying164 hi hz0 hz1' hz2' rfl (by decide) (.slice va j vc) j ys rfl (hown.alloc (.cells #[.slice (some ⟨g, 0, none⟩) k rc, .int .i64 c] 161)) (w3.heap.size + 1) (some ⟨w3.heap.size, 0, none⟩) 1 1 [.slice (some ⟨g, 0, none⟩) k rc, .int .i64 c] rfl (Rd.blkN hn3 rfl (Nat.lt_succ_self _)).reads (by simp [Value.oneCell']) (by unfold maxLen; omega) (by omega) (by rw [World.size_alloc]; omega) (fun v' w4 hown' hgrow hob => ?_); obtain ⟨va2, vc2, rfl⟩ := own_slice hown'; have hownA := hown.alloc (.cells #[.slice (some ⟨g, 0, none⟩) k rc, .int .i64 c] 161); have hV4 := (hV.alloc (.cells #[.slice (some ⟨g, 0, none⟩) k rc, .int .i64 c] 161)).kept_own hownA (by decide) hgrow; clear qV hlV; have qV := fun i => hV4.cell i; have hlV := hV4.lt; have hfV := hV4.frozen 0))
     have hgl3 := (hown2.lt g rfl).2
     have hO3 : ∀ z, O z → z < (w3.alloc (.cells #[.slice (some ⟨g, 0, none⟩) k rc, .int .i64 c] 161)).heap.size := fun z hz => by have := HOS.out z hz; rw [World.size_alloc]; omega
     have hAPj : Apart O (.slice va j vc) := by rw [HJ.out]; exact HAP.out
     have hap2 : Apart O (.slice va2 (j + 1) vc2) := Apart.next hAPj hO3 hob
     have kC := ((hC.alloc (.cells #[.slice (some ⟨g, 0, none⟩) k rc, .int .i64 c] 161)).kept_own hownA (by decide) hgrow).far (p := ⟨w.heap.size + 1, 0, none⟩) (show S1 ≠ w.heap.size + 1 by omega) (.slice va2 (j + 1) vc2)
     have kT0 := (hT.alloc (.cells #[.slice (some ⟨g, 0, none⟩) k rc, .int .i64 c] 161)).kept hgrow hownA
     have k20 := ((own_more hown2 (show w.heap.size ≤ m by omega)).alloc (.cells #[.slice (some ⟨g, 0, none⟩) k rc, .int .i64 c] 161)).kept hgrow (own_ne (hown2.alloc (.cells #[.slice (some ⟨g, 0, none⟩) k rc, .int .i64 c] 161)) hownA (by decide))
     have kM0 := hCM.at_ (Below.heap_alloc w3 (.cells #[.slice (some ⟨g, 0, none⟩) k rc, .int .i64 c] 161) cb hCM.lt)
     have kM1 := kM0.at_ (hgrow.block cb kM0.lt (fun e => own_map hownA e.symm kM0.isMap))
     have kM := kM1.at_ (Below.heap_setCell w4 ⟨w.heap.size + 1, 0, none⟩ (.slice va2 (j + 1) vc2) cb (show cb ≠ w.heap.size + 1 by have := kM1.isMap; intro e; obtain ⟨es, cc, hm⟩ := this; rw [e] at hm; have h4 : w4.heap[w.heap.size + 1]? = _ := hV4; rw [hm] at h4; cases h4))
     have k2 := ownsRow_at k20 (fun z hz => Below.heap_setCell w4 ⟨w.heap.size + 1, 0, none⟩ (.slice va2 (j + 1) vc2) z (fun e => own_blk k20 hV4 (by decide) (by rw [hz, e])))
     have kT := kT0.at_ (fun y hy z hz => Below.heap_setCell w4 ⟨w.heap.size + 1, 0, none⟩ (.slice va2 (j + 1) vc2) z (fun e => own_blk (kT0.2 y hy) hV4 (by decide) (by rw [hz, e])))
     have k1 := ownsRow_at hown' (fun z hz => Below.heap_setCell w4 ⟨w.heap.size + 1, 0, none⟩ (.slice va2 (j + 1) vc2) z (fun e => own_blk hown' hV4 (by decide) (by rw [hz, e])))
     have kV : Blk (w4.setCell ⟨w.heap.size + 1, 0, none⟩ (.slice va2 (j + 1) vc2)) (w.heap.size + 1) 164 #[.slice va2 (j + 1) vc2] := by simpa using hV4.set_ 0 (.slice va2 (j + 1) vc2)
     have kG := (GB.row (hG.alloc hG.size (.cells #[.slice (some ⟨g, 0, none⟩) k rc, .int .i64 c] 161)) hgrow (hG.alloc hG.size (.cells #[.slice (some ⟨g, 0, none⟩) k rc, .int .i64 c] 161)).size (fun z hz => (hownA.lt z hz).1)).setCell (p := ⟨w.heap.size + 1, 0, none⟩) (show w.heap.size ≤ w.heap.size + 1 by omega) (.slice va2 (j + 1) vc2)
     have kh := ((hh3.trans (Held.alloc O w3 (.cells #[.slice (some ⟨g, 0, none⟩) k rc, .int .i64 c] 161))).trans (Held.of_grown hgrow (fun z hz => hAPj z hz))).trans (Held.setCell (p := ⟨w.heap.size + 1, 0, none⟩) hOV (.slice va2 (j + 1) vc2))
     refine ⟨kh, .slice va2 (j + 1) vc2, rs ++ [(⟨some ⟨g, 0, none⟩, k, rc, tr⟩, c)], kV, kC, ?_, ⟨?_, ?_⟩, kM, kG, HOI.out.held kh, ?_, ?_⟩
     ·rw [List.length_append, ← HJ.out, List.map_append, List.flatMap_append, ← HYS.out]
      exact k1
     ·rw [HPS.out, HSN.out, List.map_append, kT.1, ← HOK.out, if_pos rfl]
      have := HCC.out
      rw [← HOK.out, if_pos rfl] at this
      rw [this]
      rfl
     ·intro y hy
      rcases List.mem_append.1 hy with h | h
      ·exact kT.2 y h
      ·rw [List.mem_singleton.1 h]; exact k2
     ·exact hap2
     ·intro y hy
      rcases List.mem_append.1 hy with h | h
      ·exact HNX.out y h
      ·rw [List.mem_singleton.1 h]
       refine ⟨fun z hz ho => ?_, rfl⟩
       have hz' : g = z := by injection hz
       have := HOS.out z ho
       omega
 case hdone =>
  rintro D xs O Z hD hOD hxs ⟨v, rs, h1, h2, h3, h4, h5, h6, h7, h8, h9⟩ hd
  have qV := fun i => h1.cell i
  have hlV := h1.lt
  gi_wp2
  refine leaves_marks [D] Z (by simp) (fun E hE => by rw [List.mem_singleton.1 hE]; exact hd) (fun w' hw' => ?_)
  have hO1 : ∀ k, k ∈ [D] → O k ∧ w.heap.size ≤ k := fun k hk => by rw [List.mem_singleton.1 hk]; have := HSZ.out; have := HS1W.out; exact ⟨hOD, by omega⟩
  refine ⟨_, results_tmp rfl _ _ _, v, rs, rfl, hw'.own h3 (fun g hg hk => h8 g hg (hO1 g hk).1), ?_, fun x hx => (h9 x hx).2, Off.gb h6 hw' (fun k hk => (hO1 k hk).2) (by have := h7.2.2; have := HS1W.out; omega)⟩
  rw [hxs] at h4
  exact h4.at_ (fun x hx g hg => hw'.block g ((h4.2 x hx).lt g hg).2 (fun hk => (h9 x hx).1 g hg (hO1 g hk).1))
end
section
open Go.RowKit Go.Lib
theorem flatGT : ∀ (l : List GT) (k j : Nat) (hk : k < l.length), j < 2 → (l.flatMap GT.cells)[k * 2 + j]? = (GT.cells l[k])[j]?
 | x :: l, 0, j, _, hj => by
  simp only [List.flatMap_cons, List.getElem_cons_zero, Nat.zero_mul, Nat.zero_add]
  rw [List.getElem?_append_left (by simp [GT.cells]; omega)]
 | x :: l, k + 1, j, hk, hj => by
  simp only [List.flatMap_cons, List.getElem_cons_succ]
  rw [List.getElem?_append_right (by simp [GT.cells]; omega), show (k + 1) * 2 + j - (GT.cells x).length = k * 2 + j by simp [GT.cells]; omega]
  exact flatGT l k j (by simpa using hk) hj
theorem flatGT_len : ∀ l : List GT, (l.flatMap GT.cells).length = l.length * 2
 | [] => rfl
 | x :: l => by rw [List.flatMap_cons, List.length_append, flatGT_len l]; simp [GT.cells]; omega
theorem Rd.lenGT {w : World} {B : Nat} {A : Option Addr} {n : Nat} {l : List GT} (h : Rd w B 2 A n (l.flatMap GT.cells)) : l.length = n := by have := h.1; rw [flatGT_len] at this; omega
theorem Rd.elGT {w : World} {B : Nat} {A : Option Addr} {n k : Nat} {l : List GT} (h : Rd w B 2 A n (l.flatMap GT.cells)) (hk : k < n) : ∃ b off, ∃ hz : k < l.length, A = some ⟨b, off, none⟩ ∧ b < B ∧ w.cell? ⟨b, off + k * 2, none⟩ = some ((GT.cells l[k])[0]'(by simp [GT.cells])) ∧ w.cell? ⟨b, off + k * 2 + 1, none⟩ = some ((GT.cells l[k])[1]'(by simp [GT.cells])) := by
 have hl := h.lenGT
 obtain ⟨b, off, rfl, hb, hc⟩ := h.2 (by omega)
 refine ⟨b, off, by omega, rfl, hb, ?_, ?_⟩
 ·exact hc (k * 2) _ (by have := flatGT l k 0 (by omega) (by omega); rw [Nat.add_zero] at this; rw [this]; rfl)
 ·exact hc (k * 2 + 1) _ (by rw [flatGT l k 1 (by omega) (by omega)]; rfl)
def zcGT : Array Value := #[.slice none 0 0, .int .i64 0]
def acGT (o : Option GT) : Array Value := match o with | some x => (match x with | ⟨tA, tn, tc, c⟩ => #[.slice tA tn tc, .int .i64 c]) | none => zcGT
def anGT (o : Option GT) : Int := match o with | some x => GT.c x | none => 0
def brGT (o : Option GT) : Ending := .returned (.tuple #[.agg (acGT o), .bool o.isSome])
theorem cost_GT (tA : Option Addr) (tn tc : Nat) (c : Int) (w : World) : Calls Tryz.prog 113 #[.agg #[.slice tA tn tc, .int .i64 c]] w fun e w' => e = .returned (.int .i64 c) ∧ Below w.heap.size w w' := by
 have hX := Blk.new w 161 #[.slice tA tn tc, .int .i64 c]
 have qX := fun i => hX.cell i
 have hB : Below w.heap.size w (w.alloc (.cells #[.slice tA tn tc, .int .i64 c] 161)) := (Below.refl _ _).alloc (Nat.le_refl _) _
 go_enter Tryz.func113, Tryz.ntmps113
 go_wp2_with fail
 go_ret
 exact ⟨rfl, hB⟩
theorem best_GT (A : Option Addr) (n cap : Nat) (ms : List GT) (w : World) (hn : n ≤ 1000000) (hr : Rd w w.heap.size 2 A n (ms.flatMap GT.cells)) :
  Calls Tryz.prog 111 #[.slice A n cap, .func (.func 113) #[] #[]] w fun e w' => e = brGT (bestI GT.c ms) ∧ Below w.heap.size w w' := by
 have hcf : ∀ (a : Array Value) (w : World), Sem.run Tryz.prog (callFunc 113 a) w = .ok (Next.enter 113 a) w := fun _ _ => rfl
 have hlen := hr.lenGT
 have hB : Below w.heap.size w ((w.alloc (.cells #[.slice none 0 0, .int .i64 0] 161)).alloc (.cells #[.slice none 0 0, .int .i64 0] 161)) := ((Below.refl _ _).alloc (Nat.le_refl _) _).alloc (by simp only [World.size_alloc]; omega) _
 have h4 : Blk ((w.alloc (.cells #[.slice none 0 0, .int .i64 0] 161)).alloc (.cells #[.slice none 0 0, .int .i64 0] 161)) w.heap.size 161 #[.slice none 0 0, .int .i64 0] := blk2_0 w _ 161 _
 have h6 : Blk ((w.alloc (.cells #[.slice none 0 0, .int .i64 0] 161)).alloc (.cells #[.slice none 0 0, .int .i64 0] 161)) (w.heap.size + 1) 161 #[.slice none 0 0, .int .i64 0] := blk2_1 w _ 161 _
 have HLEN := Lib.hid hlen; clear hlen
 go_enter Tryz.func111, Tryz.ntmps111
 go_wp2_with fail
 generalize ((w.alloc (.cells #[.slice none 0 0, .int .i64 0] 161)).alloc (.cells #[.slice none 0 0, .int .i64 0] 161)) = W0 at *
 go_loopg [7, 13] n (fun g l i wr => ∃ (k : Nat) (acc : Option GT) (z : Int), g = n - k ∧ k ≤ n ∧ i = .int .i64 k ∧ l = .int .i64 z ∧ Hid (acc = bestI GT.c (ms.take k)) ∧ Hid (z = anGT acc) ∧ Blk wr w.heap.size 161 #[.slice none 0 0, .int .i64 0] ∧ (∃ x0 x1, Hid (acGT acc = #[x0, x1]) ∧ Blk wr (w.heap.size + 1) 161 #[x0, x1]) ∧ Below w.heap.size w wr)
 case atStart => exact ⟨0, none, 0, rfl, Nat.zero_le _, rfl, rfl, Lib.hid rfl, Lib.hid rfl, h4, ⟨_, _, Lib.hid rfl, h6⟩, hB⟩
 case round =>
  clear h4 h6 hB
  obtain ⟨k, acc, z, hg, hk, rfl, rfl, hacc, hz, h4, ⟨x0, x1, hxx, h6⟩, hB⟩ := hrel
  have HG := Lib.hid hg; clear hg
  rename World => wr
  by_cases hlt : k < n
  ·have hlti : (k : Int) < n := by omega
   obtain ⟨gb, off, hzl, rfl, hgb, hc0, hc1⟩ := (hr.below hB).elGT hlt
   have htk : ms.take (k + 1) = ms.take k ++ [ms[k]] := List.take_succ_eq_append_getElem hzl
   generalize ms[k] = m at *
   have HTK := Lib.hid htk; clear htk hzl
   obtain ⟨tA, tn, tc, c⟩ := m
   simp only [GT.cells, List.getElem_cons_zero, List.getElem_cons_succ] at hc0 hc1
   have hl4 := h4.lt; have hl6 := h6.lt; have hs := hB.size
   by_cases hk0 : k = 0
   ·have hk0b : ((k : Int) == 0) = true := by rw [beq_iff_eq]; omega
    have hac : acc = none := by rw [hacc.out, hk0]; rfl
    have HAC := Lib.hid hac; clear hac hk0
    go_wp2_with (go_at_call 113; refine (cost_GT tA tn tc c _).mono ?_; rintro e w1 ⟨rfl, hb1⟩; have hX := (Blk.new wr 161 #[.slice tA tn tc, .int .i64 c]).below hb1 (by simp only [World.size_alloc]; omega); replace h4 := (h4.alloc (.cells #[.slice tA tn tc, .int .i64 c] 161)).below hb1 (by simp only [World.size_alloc]; omega); replace h6 := (h6.alloc (.cells #[.slice tA tn tc, .int .i64 c] 161)).below hb1 (by simp only [World.size_alloc]; omega); replace hB := (hB.alloc hB.size (.cells #[.slice tA tn tc, .int .i64 c] 161)).trans (hb1.mono (by have := hB.size; simp only [World.size_alloc]; omega)); have qX := fun i => hX.cell i; have q6 := fun i => h6.cell i; have f6 := fun i => h6.frozen i; have l6 := h6.lt; clear hb1)
    clear qX q6 f6 l6
    replace h6 := h6.set_ 0 (.slice tA tn tc); replace h4 := h4.far (p := ⟨w.heap.size + 1, 0, none⟩) (show w.heap.size ≠ w.heap.size + 1 by omega) (.slice tA tn tc); replace hB := hB.setCell (p := ⟨w.heap.size + 1, 0, none⟩) (Nat.le_succ _) (.slice tA tn tc)
    replace h6 := h6.set_ 1 (.int .i64 c); replace h4 := h4.far (p := ⟨w.heap.size + 1, 1, none⟩) (show w.heap.size ≠ w.heap.size + 1 by omega) (.int .i64 c); replace hB := hB.setCell (p := ⟨w.heap.size + 1, 1, none⟩) (Nat.le_succ _) (.int .i64 c)
    go_roundg (n - (k + 1))
    case measure => rw [HG.out]; omega
    case rel => exact ⟨k + 1, some ⟨tA, tn, tc, c⟩, c, rfl, by omega, by go_num, rfl, Lib.hid (by rw [HTK.out, bestI_snoc, ← hacc.out]; rw [HAC.out]), Lib.hid rfl, h4, ⟨_, _, Lib.hid rfl, h6⟩, hB⟩
   ·have hk0b : ((k : Int) == 0) = false := by rw [beq_eq_false_iff_ne]; omega
    have hne : ms.take k ≠ [] := fun e => by have := congrArg List.length e; rw [List.length_take, List.length_nil, HLEN.out] at this; omega
    obtain ⟨am, hac⟩ := bestI_some GT.c hne
    rw [← hacc.out] at hac
    have hzc : z = GT.c am := by rw [hz.out, hac]; rfl
    have HAC := Lib.hid hac; have HZC := Lib.hid hzc; clear hac hne hk0 hzc
    by_cases hcl : c < z
    ·have HNL := Lib.hid (show GT.c ⟨tA, tn, tc, c⟩ < GT.c am from by rw [← HZC.out]; exact hcl)
     go_wp2_with (go_at_call 113; refine (cost_GT tA tn tc c _).mono ?_; rintro e w1 ⟨rfl, hb1⟩; have hX := (Blk.new wr 161 #[.slice tA tn tc, .int .i64 c]).below hb1 (by simp only [World.size_alloc]; omega); replace h4 := (h4.alloc (.cells #[.slice tA tn tc, .int .i64 c] 161)).below hb1 (by simp only [World.size_alloc]; omega); replace h6 := (h6.alloc (.cells #[.slice tA tn tc, .int .i64 c] 161)).below hb1 (by simp only [World.size_alloc]; omega); replace hB := (hB.alloc hB.size (.cells #[.slice tA tn tc, .int .i64 c] 161)).trans (hb1.mono (by have := hB.size; simp only [World.size_alloc]; omega)); have qX := fun i => hX.cell i; have q6 := fun i => h6.cell i; have f6 := fun i => h6.frozen i; have l6 := h6.lt; clear hb1)
     clear qX q6 f6 l6
     replace h6 := h6.set_ 0 (.slice tA tn tc); replace h4 := h4.far (p := ⟨w.heap.size + 1, 0, none⟩) (show w.heap.size ≠ w.heap.size + 1 by omega) (.slice tA tn tc); replace hB := hB.setCell (p := ⟨w.heap.size + 1, 0, none⟩) (Nat.le_succ _) (.slice tA tn tc)
     replace h6 := h6.set_ 1 (.int .i64 c); replace h4 := h4.far (p := ⟨w.heap.size + 1, 1, none⟩) (show w.heap.size ≠ w.heap.size + 1 by omega) (.int .i64 c); replace hB := hB.setCell (p := ⟨w.heap.size + 1, 1, none⟩) (Nat.le_succ _) (.int .i64 c)
     go_roundg (n - (k + 1))
     case measure => rw [HG.out]; omega
     case rel => exact ⟨k + 1, some ⟨tA, tn, tc, c⟩, c, rfl, by omega, by go_num, rfl, Lib.hid (by rw [HTK.out, bestI_snoc, ← hacc.out]; rw [HAC.out]; simp only; rw [if_pos (by have := HNL.out; omega)]), Lib.hid rfl, h4, ⟨_, _, Lib.hid rfl, h6⟩, hB⟩
    ·have HNL := Lib.hid (show ¬ GT.c ⟨tA, tn, tc, c⟩ < GT.c am from by rw [← HZC.out]; exact hcl)
     go_wp2_with (go_at_call 113; refine (cost_GT tA tn tc c _).mono ?_; rintro e w1 ⟨rfl, hb1⟩; have hX := (Blk.new wr 161 #[.slice tA tn tc, .int .i64 c]).below hb1 (by simp only [World.size_alloc]; omega); replace h4 := (h4.alloc (.cells #[.slice tA tn tc, .int .i64 c] 161)).below hb1 (by simp only [World.size_alloc]; omega); replace h6 := (h6.alloc (.cells #[.slice tA tn tc, .int .i64 c] 161)).below hb1 (by simp only [World.size_alloc]; omega); replace hB := (hB.alloc hB.size (.cells #[.slice tA tn tc, .int .i64 c] 161)).trans (hb1.mono (by have := hB.size; simp only [World.size_alloc]; omega)); have qX := fun i => hX.cell i; have q6 := fun i => h6.cell i; have f6 := fun i => h6.frozen i; have l6 := h6.lt; clear hb1)
     clear qX q6 f6 l6
     go_roundg (n - (k + 1))
     case measure => rw [HG.out]; omega
     case rel => exact ⟨k + 1, acc, z, rfl, by omega, by go_num, rfl, Lib.hid (by rw [HTK.out, bestI_snoc, ← hacc.out, HAC.out]; simp only; rw [if_neg (by have := HNL.out; omega)]), hz, h4, ⟨_, _, hxx, h6⟩, hB⟩
  ·obtain rfl : k = n := by omega
   have htk : ms.take k = ms := List.take_of_length_le (by have := HLEN.out; omega)
   have hfin : acc = bestI GT.c ms := by rw [hacc.out, htk]
   have HFIN := Lib.hid hfin; clear hfin htk
   cases acc with
   | none =>
    have hk0 : k = 0 := by
     have h1 : ms = [] := (bestI_none GT.c ms).1 HFIN.out.symm
     have := HLEN.out
     rw [h1] at this
     exact this.symm
    have h := hxx.out
    simp only [acGT, zcGT, Array.mk.injEq, List.cons.injEq, and_true] at h
    obtain ⟨rfl, rfl⟩ := h
    have hk0i : ¬ (0 : Int) < k := by omega
    have HK0 := Lib.hid hk0; clear hk0
    have q6 := fun i => h6.cell i
    have q4 := fun i => h4.cell i; have f4 := fun i => h4.frozen i; have l4 := h4.lt
    go_wp2_with fail
    clear q6 q4 f4 l4
    replace h4 := h4.set_ 0 (.slice none 0 0); replace hB := hB.setCell (p := ⟨w.heap.size, 0, none⟩) (Nat.le_refl _) (.slice none 0 0)
    replace h4 := h4.set_ 1 (.int .i64 0); replace hB := hB.setCell (p := ⟨w.heap.size, 1, none⟩) (Nat.le_refl _) (.int .i64 0)
    replace h4 : Blk ((((wr).setCell ⟨w.heap.size, 0, none⟩ (.slice none 0 0))).setCell ⟨w.heap.size, 1, none⟩ (.int .i64 0)) w.heap.size 161 #[.slice none 0 0, .int .i64 0] := h4
    generalize ((((wr).setCell ⟨w.heap.size, 0, none⟩ (.slice none 0 0))).setCell ⟨w.heap.size, 1, none⟩ (.int .i64 0)) = w9 at *
    have hq9 := fun i => h4.cell i
    refine bodyPost_ret (v := .tuple #[.agg #[.slice none 0 0, .int .i64 0], .bool false]) ?_ rfl ⟨by rw [← HFIN.out]; rfl, hB⟩
    simp [results, Tryz.results111, go_sem, hq9, HK0.out]
   | some m =>
    obtain ⟨tA, tn, tc, c⟩ := m
    have hk0 : 0 < k := by
     rcases Nat.eq_zero_or_pos k with h | h
     ·have h1 : ms = [] := List.length_eq_zero_iff.1 (by have := HLEN.out; omega)
      have h2 := HFIN.out
      rw [h1] at h2
      cases h2
     ·exact h
    have h := hxx.out
    simp only [acGT, Array.mk.injEq, List.cons.injEq, and_true] at h
    obtain ⟨rfl, rfl⟩ := h
    have hk0i : (0 : Int) < k := by omega
    have q6 := fun i => h6.cell i
    have q4 := fun i => h4.cell i; have f4 := fun i => h4.frozen i; have l4 := h4.lt
    go_wp2_with fail
    clear q6 q4 f4 l4
    replace h4 := h4.set_ 0 (.slice tA tn tc); replace hB := hB.setCell (p := ⟨w.heap.size, 0, none⟩) (Nat.le_refl _) (.slice tA tn tc)
    replace h4 := h4.set_ 1 (.int .i64 c); replace hB := hB.setCell (p := ⟨w.heap.size, 1, none⟩) (Nat.le_refl _) (.int .i64 c)
    replace h4 : Blk ((((wr).setCell ⟨w.heap.size, 0, none⟩ (.slice tA tn tc))).setCell ⟨w.heap.size, 1, none⟩ (.int .i64 c)) w.heap.size 161 #[.slice tA tn tc, .int .i64 c] := h4
    generalize ((((wr).setCell ⟨w.heap.size, 0, none⟩ (.slice tA tn tc))).setCell ⟨w.heap.size, 1, none⟩ (.int .i64 c)) = w9 at *
    have hq9 := fun i => h4.cell i
    refine bodyPost_ret (v := .tuple #[.agg #[.slice tA tn tc, .int .i64 c], .bool true]) ?_ rfl ⟨by rw [← HFIN.out]; rfl, hB⟩
    simp [results, Tryz.results111, go_sem, hq9]
end
section
open Go.RowKit Go.Lib Go.Maps
theorem okB2 {w w' : World} {r : RI} (h : r.ok w w.heap.size) (hb : Below w.heap.size w w') : r.ok w' w'.heap.size := (h.below hb).more hb.size
theorem dfsL_has (lim : Nat) : ∀ (r : Nat) (pre l : List Int), l.length = r → (∀ x ∈ l, 0 ≤ x ∧ x < (lim : Int)) → pre ++ l ∈ dfsL lim r pre
 | 0, pre, l, h, _ => by rw [List.length_eq_zero_iff.1 h, dfsL]; simp
 | r + 1, pre, [], h, _ => by cases h
 | r + 1, pre, x :: l, h, hx => by
  rw [dfsL, List.mem_flatMap]
  have h1 := hx x (List.mem_cons_self ..)
  refine ⟨x.toNat, List.mem_range.2 (by omega), ?_⟩
  have := dfsL_has lim r (pre ++ [x]) l (by simpa using h) (fun y hy => hx y (List.mem_cons_of_mem _ hy))
  rw [show Int.ofNat x.toNat = x by rw [Int.ofNat_eq_natCast]; omega]
  simpa using this
theorem allLs_has {many lim : Nat} {l : List Int} (h : l.length = many) (hx : ∀ x ∈ l, 0 ≤ x ∧ x < (lim : Int)) : l ∈ allLs many lim := by
 have := dfsL_has lim many [] l h hx
 simpa [allLs] using this
theorem trees_has {n : Nat} (F : Int → Int → Int) {t : List Int} (h : t.length = n) (hx : ∀ x ∈ t, -1 ≤ x ∧ x < (n : Int)) (hok : treeOK t = true) : (t, treeS F t) ∈ treesOf n F (allLs n (n + 1)) := by
 unfold treesOf
 rw [List.mem_flatMap]
 refine ⟨t.map (· + 1), allLs_has (by simpa using h) (fun x hxm => ?_), ?_⟩
 ·obtain ⟨y, hy, rfl⟩ := List.mem_map.1 hxm
  have := hx y hy
  simp only [Int.natCast_add]
  omega
 ·have : (t.map (· + 1)).map (· - 1) = t := by
   have h9 : (t.map (· + 1)).map (· - 1) = t.map id := by rw [List.map_map]; exact List.map_congr_left (fun a _ => by simp [Function.comp])
   rw [h9, List.map_id]
  rw [this, if_pos hok]
  exact List.mem_singleton_self _
theorem trees_pos {n : Nat} (F : Int → Int → Int) (hn : 1 ≤ n) : treesOf n F (allLs n (n + 1)) ≠ [] := fun e => by
 have h := trees_has F (t := List.replicate n (-1)) (n := n) (by simp) (fun x hx => by rw [(List.mem_replicate.1 hx).2]; omega) (by
   unfold treeOK
   rw [List.all_eq_true]
   intro k hk
   have hk := List.mem_range.1 hk
   rw [List.length_replicate] at hk ⊢
   obtain ⟨m, rfl⟩ : ∃ m, n = m + 1 := ⟨n - 1, by omega⟩
   unfold folF
   rw [if_pos]
   rw [Int.toNat_natCast, List.getD_eq_getElem?_getD, List.getElem?_replicate, if_pos hk]
   rfl)
 rw [e] at h
 cases h
theorem bestI_map {α β : Type} (f : β → Int) (g : α → β) : ∀ l : List α, bestI f (l.map g) = (bestI (fun x => f (g x)) l).map g := by
 refine revInd rfl ?_
 intro l x ih
 rw [List.map_append, List.map_singleton, bestI_snoc, bestI_snoc, ih]
 cases bestI (fun x => f (g x)) l with
 | none => rfl
 | some a => simp only [Option.map_some]; split <;> rfl
theorem Tree_yes {wn : Nat} {A : Option Addr} {n : Nat} (cap : Nat) {cs : List VC} {tA : Option Addr} {tn : Nat} (tc : Nat) {ts : List RI} {w : World} (hb : BkG wn A n cs w w.heap.size) (h1 : bookB (wn : Int) cs = true) (ht : TxG cs tA tn ts w w.heap.size) (h2 : textB (wn : Int) (headN cs) ts = true) :
  Calls Tryz.prog 64 #[.agg #[.int .i64 (wn : Int), .slice A n cap], .slice tA tn tc] w fun e w' => (∃ v t c, bestI Prod.snd (treesOf n (costV cs ts) (allLs n (n + 1))) = some (t, c) ∧ e = .returned (.tuple #[v, .int .i64 c, .int .i64 0]) ∧ w'.ownsRow w.heap.size 3 1 v n (intsV t)) ∧ Below w.heap.size w w' := by
 have hX := Blk.new w 24 #[.int .i64 (wn : Int), .slice A n cap]
 have hB : Below w.heap.size w (w.alloc (.cells #[.int .i64 (wn : Int), .slice A n cap] 24)) := (Below.refl _ w).alloc (Nat.le_refl _) _
 have qX := fun i => hX.cell i
 have hmm := @run_makeMap Tryz.prog
 have hgb := fun (wx : World) (hx : Below w.heap.size w wx) => goodBook_any (wn : Int) A n cap cs wx (by have := hb.2.1.2; unfold maxLen; omega) (rdB hb.2.2.2.1 hx) (fun c h => okB (hb.2.2.2.2.1 c h) hx)
 simp only [h1] at hgb
 have hgt := fun (wx : World) (hx : Below w.heap.size w wx) => goodText_any (wn : Int) A n cap cs tA tn tc ts wx (by have := hb.1.1; omega) (by have := hb.1.2; omega) hb.2.1.1 (rdB hb.2.2.2.1 hx) (fun c h => okB (hb.2.2.2.2.1 c h) hx) (by have h0 : ts.length = tn := (by simpa using ht.1.len); have h := ht.2.2.1; have := hb.2.2.1.2; unfold maxLen; omega) (rdB ht.1 hx) (fun r h => okB2 (ht.2.1 r h) hx)
 simp only [h2] at hgt
 have htr := fun (wx : World) (mb : Nat) (hx : Below w.heap.size w wx) (hmb : w.heap.size ≤ mb) (hm : Memo wx mb 0) => trees_any cap (tc := tc) mb 0 (hb.below hx) (ht.below hx) hmb hm (by unfold maxLen; omega)
 have hn5 := hb.2.1
 have hpos := trees_pos (costV cs ts) hn5.1
 have hlen : (treesOf n (costV cs ts) (allLs n (n + 1))).length ≤ 7776 := by
  have h := treesOf_le n (costV cs ts) (allLs n (n + 1))
  rw [allLs, dfsL_len] at h
  have h1 : (n + 1) ^ n ≤ 6 ^ n := Nat.pow_le_pow_left (by omega) n
  have h2 : 6 ^ n ≤ 6 ^ 5 := Nat.pow_le_pow_right (by omega) hn5.2
  simp only [allLs]
  simp at h2
  omega
 obtain ⟨Q, hQ⟩ : ∃ Q, Q = treesOf n (costV cs ts) (allLs n (n + 1)) := ⟨_, rfl⟩
 simp only [← hQ] at htr hpos hlen ⊢
 have HGB := Lib.hid hgb; have HGT := Lib.hid hgt; have HTR := Lib.hid htr; have HPOS := Lib.hid hpos; have HLEN := Lib.hid hlen
 clear hgb hgt htr h1 h2 hb ht hpos hlen hQ
 go_enter Tryz.func64, Tryz.ntmps64
 go_wp2_with fail
 refine (HGB.out _ hB).mono ?_; rintro e w1 ⟨rfl, hb⟩; replace hX := hX.below hb hX.lt; replace hB := hB.trans (hb.mono hB.size); clear hb qX; have qX := fun i => hX.cell i
 go_wp2_with fail
 refine (HGT.out _ hB).mono ?_; rintro e w2 ⟨rfl, hb⟩; replace hX := hX.below hb hX.lt; replace hB := hB.trans (hb.mono hB.size); clear hb qX; have qX := fun i => hX.cell i
 have hlX := hX.lt
 go_wp2_with fail
 have hB3 := hB.alloc hB.size (.map #[] 0)
 have hBs := hB.size
 refine (HTR.out _ w2.heap.size hB3 hBs (Memo.made w2)).mono ?_
 rintro e w3 ⟨v, rs, rfl, hown, hT, hrn, hg⟩
 obtain ⟨va, vc, rfl⟩ := own_slice hown
 have hB4 := below_gb hB3 hg hBs hB3.size
 have hg2 := hg.size
 have hrl : rs.length ≤ 7776 := by rw [hT.len]; exact HLEN.out
 have hne : rs ≠ [] := fun e => HPOS.out (by rw [← hT.1, e]; rfl)
 obtain ⟨⟨r, c⟩, hbest⟩ := bestI_some (fun x : RI × Int => x.2) hne
 have hmem := (bestI_mem _ _ _ hbest).1
 have hQb : bestI Prod.snd Q = some (r.ws, c) := by rw [← hT.1, bestI_map Prod.snd (fun x : RI × Int => (x.1.ws, x.2)), hbest]; rfl
 have hrow := hT.2 _ hmem
 have hr3 := hrn _ hmem
 have hGb : bestI GT.c (rs.map tGT) = some (tGT (r, c)) := by rw [bestI_map GT.c tGT]; show (bestI (fun x : RI × Int => x.2) rs).map tGT = _; rw [hbest]; rfl
 have hbc := best_GT va rs.length vc (rs.map tGT) w3 (by omega) (Rd.of_own hown)
 rw [hGb] at hbc
 obtain ⟨rA, r3, rc, ws⟩ := r
 dsimp only at hr3 hrow hQb
 subst hr3
 obtain ⟨g, rc', hv, hg1, hg3⟩ := hrow.form hn5.1
 have hv' : rA = some ⟨g, 0, none⟩ := by injection hv
 have hv2 : rc = rc' := by injection hv
 subst hv'; subst hv2
 replace hrow : w3.ownsRow w.heap.size 3 1 (.slice (some ⟨g, 0, none⟩) r3 rc) r3 (intsV ws) := own_more hrow (by rw [World.size_alloc]; omega)
 have HBC := Lib.hid hbc; have HQB := Lib.hid hQb
 clear hbc hQb hGb hmem hbest hne hT hrn hg HTR HGB HGT qX hX hlX hv hown
 have hfn := fun (W : World) => (Blk.new W 161 #[.slice none 0 0, .int .i64 0]).frozen 0
 have hfn1 := fun (W : World) => (Blk.new W 161 #[.slice none 0 0, .int .i64 0]).frozen 1
 go_wp2_with fail
 refine HBC.out.mono ?_; rintro e w4 ⟨rfl, hb⟩
 replace hB := hB4.trans (hb.mono hB4.size); replace hown := ownsRow_below' hrow hb
 clear hb
 simp only [brGT, acGT, tGT, zcGT, Option.isSome_none, Option.isSome_some]
 go_wp2_with fail
 have hQ := Blk.new w4 161 #[.slice (some ⟨g, 0, none⟩) r3 rc, .int .i64 c]
 replace hB := hB.alloc hB.size (.cells #[.slice (some ⟨g, 0, none⟩) r3 rc, .int .i64 c] 161)
 replace hown := hown.alloc (.cells #[.slice (some ⟨g, 0, none⟩) r3 rc, .int .i64 c] 161)
 obtain ⟨b7, hb7⟩ : ∃ b7, b7 = w4.heap.size := ⟨_, rfl⟩
 rw [← hb7] at hQ ⊢
 generalize w4.alloc (.cells #[.slice (some ⟨g, 0, none⟩) r3 rc, .int .i64 c] 161) = w5 at *
 clear hb7
 rename World => WR
 refine wp_region_G (fun w' => Blk w' b7 161 #[.slice (some ⟨g, 0, none⟩) r3 rc, .int .i64 c]) 6 (by kernel_rfl) ?_
 replace hQ := hQ.drew; replace hB : Below w.heap.size w WR.drew := hB.drew; replace hown : WR.drew.ownsRow w.heap.size 3 1 (.slice (some ⟨g, 0, none⟩) r3 rc) r3 (intsV ws) := hown
 generalize WR.drew = WD at *
 have hTT : Blk WD b7 161 #[.slice (some ⟨g, 0, none⟩) r3 rc, .int .i64 c] := hQ
 refine tk 0 (v := ?_) rfl (Or.inl ⟨by rfl, ?h⟩) hTT ?_
 case h => intro wq hSw; have q0 := fun i => hSw.cell i; go_simp <;> with_reducible rfl
 simp only [LS, Act.put]
 refine tk 1 (v := ?_) rfl (Or.inl ⟨by rfl, ?h⟩) hTT ?_
 case h => intro wq hSw; have q0 := fun i => hSw.cell i; go_simp <;> with_reducible rfl
 simp only [LS, Act.put]
 refine tk 2 (v := ?_) rfl (Or.inl ⟨by rfl, ?h⟩) hTT ?_
 case h => intro wq hSw; have q0 := fun i => hSw.cell i; go_simp <;> with_reducible rfl
 simp only [LS, Act.put]
 refine tk 3 (v := ?_) rfl (Or.inl ⟨by rfl, ?h⟩) hTT ?_
 case h => intro wq hSw; have q0 := fun i => hSw.cell i; go_simp <;> with_reducible rfl
 simp only [LS, Act.put]
 refine tk 4 (v := ?_) rfl (Or.inl ⟨by rfl, ?h⟩) hTT ?_
 case h => intro wq hSw; have q0 := fun i => hSw.cell i; go_simp <;> with_reducible rfl
 simp only [LS, Act.put]
 refine tk 5 (v := ?_) rfl (Or.inl ⟨by rfl, ?h⟩) hTT ?_
 case h => intro wq hSw; have q0 := fun i => hSw.cell i; go_simp <;> with_reducible rfl
 simp only [LS, Act.put]
 refine o1 6 rfl fun K hK => ?_
 go_simp
 refine hK _ _ (.inl rfl) ?_
 clear hK K
 try simp only [LS, Act.put]
 refine wpG_done (by kernel_rfl) ?_ _
 clear hTT
 go_wp2_with fail
 refine bodyPost_ret (v := .tuple #[.slice (some ⟨g, 0, none⟩) r3 rc, .int .i64 c, .int .i64 0]) (by simp [results, Tryz.results64, go_sem]) rfl ?_
 exact ⟨⟨_, ws, c, HQB.out, rfl, hown⟩, hB⟩
end
end Go.Proofs.YtekmnelpkogppaaGreatDoor
