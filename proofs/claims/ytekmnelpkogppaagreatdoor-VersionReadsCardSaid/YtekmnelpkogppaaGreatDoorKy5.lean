import Derived.Test.YtekmnelpkogppaaGreatDoorProg
import Derived.Test.YtekmnelpkogppaaGreatDoorKy3
import Derived.Test.YtekmnelpkogppaaGreatDoorKy4
import Derived.Laws.RangeAny
set_option linter.unusedVariables false
set_option linter.unusedSimpArgs false
set_option maxRecDepth 100000
set_option maxHeartbeats 40000000
namespace Go.Proofs.YtekmnelpkogppaaGreatDoor
section
open Go.RowKit Go.Lib
structure Gb2 (r1 r2 : Option Nat) (w w' : World) : Prop where
 os : w'.os = w.os
 tape : w'.tape = w.tape
 output : w'.output = w.output
 size : w.heap.size ≤ w'.heap.size
 block : ∀ k, k < w.heap.size → some k ≠ r1 → some k ≠ r2 → w'.heap[k]? = w.heap[k]?
section
variable {r1 r2 : Option Nat} {w w' w2 : World}
theorem Gb2.of_below (h : Below w.heap.size w w') : Gb2 r1 r2 w w' := ⟨h.os, h.tape, h.output, h.size, fun k hk _ _ => h.block k hk⟩
theorem Gb2.below (h : Gb2 r1 r2 w w') (hb : Below w'.heap.size w' w2) : Gb2 r1 r2 w w2 := ⟨hb.os.trans h.os, hb.tape.trans h.tape, hb.output.trans h.output, Nat.le_trans h.size hb.size, fun k hk h1 h2 => (hb.block k (Nat.lt_of_lt_of_le hk h.size)).trans (h.block k hk h1 h2)⟩
theorem Gb2.alloc (h : Gb2 r1 r2 w w') (o : Obj) : Gb2 r1 r2 w (w'.alloc o) := h.below ((Below.refl _ w').alloc (Nat.le_refl _) o)
theorem Gb2.drew (h : Gb2 r1 r2 w w') : Gb2 r1 r2 w w'.drew := ⟨h.os, h.tape, h.output, h.size, h.block⟩
theorem Gb2.grown {row : Option Nat} (h : Gb2 r1 r2 w w') (hg : w'.grownBy w2 row) (hr : row = r1 ∨ row = r2 ∨ ∀ k, row = some k → w.heap.size ≤ k) : Gb2 r1 r2 w w2 :=
 ⟨hg.os.trans h.os, hg.tape.trans h.tape, hg.output.trans h.output, Nat.le_trans h.size hg.size, fun k hk h1 h2 => (hg.block k (Nat.lt_of_lt_of_le hk h.size) (fun e => by
   rcases hr with rfl | rfl | hr
   · exact h1 e
   · exact h2 e
   · have := hr k e.symm; omega)).trans (h.block k hk h1 h2)⟩
theorem Gb2.set {p : Addr} (h : Gb2 r1 r2 w w') (u : Value) (hr : some p.block = r1 ∨ some p.block = r2 ∨ w.heap.size ≤ p.block) : Gb2 r1 r2 w (w'.setCell p u) :=
 h.grown (grown_set w' p u) (by
   rcases hr with h | h | h
   · exact .inl h
   · exact .inr (.inl h)
   · exact .inr (.inr (fun k hk => by cases hk; exact h)))
theorem Gb2.own {base n size : Nat} {e : TypeId} {v : Value} {xs : List Value} (h : Gb2 r1 r2 w w') (ho : w.ownsRow base e size v n xs) (h1 : v.ownBlock = none ∨ v.ownBlock ≠ r1) (h2 : v.ownBlock = none ∨ v.ownBlock ≠ r2) : w'.ownsRow base e size v n xs := by
 refine ⟨ho.1, ?_⟩
 rcases ho.2 with hn | ⟨g, cap, cur, rfl, hb, hgg, rest⟩
 ·exact .inl hn
 ·refine .inr ⟨g, cap, cur, rfl, hb, ?_, rest⟩
  rw [h.block g (Array.getElem?_eq_some_iff.1 hgg).1 (by simpa [Value.ownBlock] using h1) (by simpa [Value.ownBlock] using h2)]
  exact hgg
theorem Gb2.blk {g : Nat} {t : TypeId} {cs : Array Value} (h : Gb2 r1 r2 w w') (hb : Blk w g t cs) (h1 : some g ≠ r1) (h2 : some g ≠ r2) : Blk w' g t cs := (h.block g hb.lt h1 h2).trans hb
theorem Gb2.to_below {B : Nat} {w0 : World} (h : Gb2 r1 r2 w w') (hb : Below B w0 w) (hB : B ≤ w.heap.size) (h1 : ∀ k, r1 = some k → B ≤ k) (h2 : ∀ k, r2 = some k → B ≤ k) : Below B w0 w' :=
 hb.trans ⟨h.os, h.tape, h.output, h.size, fun k hk => h.block k (by omega) (fun e => by have := h1 k e.symm; omega) (fun e => by have := h2 k e.symm; omega)⟩
end
theorem own_putL {w : World} {base : Nat} {e : TypeId} {n g cap : Nat} {xs : List Value} (h : w.ownsRow base e 1 (.slice (some ⟨g, 0, none⟩) n cap) n xs) (k : Nat) (hk : k < n) (u : Value) :
  (w.setCell ⟨g, k, none⟩ u).ownsRow base e 1 (.slice (some ⟨g, 0, none⟩) n cap) n (xs.set k u) := by
 refine ⟨by rw [List.length_set]; exact h.1, ?_⟩
 rcases h.2 with ⟨e1, _⟩ | ⟨g2, cap2, cur, e1, hb, hgg, hc1, hc2, hc3, hc4⟩
 ·cases e1
 ·cases e1
  have hb2 : Blk w g e cur := hgg
  refine .inr ⟨g, cap, cur.setIfInBounds k u, rfl, hb, hb2.set_ k u, hc1, hc2, by simpa using hc3, ?_⟩
  rw [← hc4, Array.toList_setIfInBounds, List.take_set]
theorem set_last {us : List Value} {a b : Value} {m : Nat} (h : us.length = m) : (us ++ [a]).set m b = us ++ [b] := by subst h; simp
theorem own_ad {w : World} {base n size : Nat} {e : TypeId} {A : Option Addr} {cap : Nat} {xs : List Value} (h : w.ownsRow base e size (.slice A n cap) n xs) (hn : 0 < n) : ∃ g, A = some ⟨g, 0, none⟩ := by
 rcases h.2 with ⟨e1, _⟩ | ⟨g2, cap2, cur, e1, _⟩
 ·cases e1; omega
 ·cases e1; exact ⟨g2, rfl⟩
theorem info76 : (Tryz.prog.info? 76).map (fun i => (i.zero, i.size, i.bytes)) = some (some (.agg #[.bool false, .slice none 0 0]), 2, 32) := by kernel_rfl
theorem info77 : (Tryz.prog.info? 77).map (fun i => (i.zero, i.size, i.bytes)) = some (some (.slice none 0 0), 1, 24) := by kernel_rfl
theorem addLine_any (W : Int) (g m cap : Nat) (us : List Value) (lv : Value) (q : Nat) (xs : List Value) (lost : Bool) (lu : Value) (base : Nat) (w : World) (hm : m ≤ 1000) (hq : q ≤ 1000) (hul : us.length = m)
  (hown : w.ownsRow base 77 1 (.slice (some ⟨g, 0, none⟩) (m + 1) cap) (m + 1) (us ++ [lv])) (hlv : w.ownsRow base 76 2 lv q xs) (hbase : base ≤ w.heap.size) (hlu : lu.oneCell' = true) :
  Calls Tryz.prog 200 #[.agg #[.int .i64 W, .slice (some ⟨g, 0, none⟩) (m + 1) cap], .agg #[.bool lost, lu]] w fun e w' => e = .returned (.tuple #[]) ∧ ∃ lv', w'.ownsRow base 77 1 (.slice (some ⟨g, 0, none⟩) (m + 1) cap) (m + 1) (us ++ [lv']) ∧ w'.ownsRow base 76 2 lv' (q + 1) (xs ++ [.bool lost, lu]) ∧ Gb2 (some g) lv.ownBlock w w' ∧ (lv'.ownBlock = lv.ownBlock ∨ ∀ z, lv'.ownBlock = some z → w.heap.size ≤ z) := by
 obtain ⟨i76, hi, hz0, hz1', hz2'⟩ := info_parts info76
 have hgl := (hown.lt g rfl).2
 have hlt0 : ∀ z, lv.ownBlock = some z → z < w.heap.size := fun z hz => (hlv.lt z hz).2
 have hgne : lv.ownBlock = none ∨ lv.ownBlock ≠ some g := own_ne hlv hown (by decide)
 have hX := (Blk.new w 24 #[.int .i64 W, .slice (some ⟨g, 0, none⟩) (m + 1) cap]).alloc (.cells #[.bool lost, lu] 76)
 have hY := blk2_1 w (.cells #[.int .i64 W, .slice (some ⟨g, 0, none⟩) (m + 1) cap] 24) 76 #[.bool lost, lu]
 have hG : Gb2 (some g) lv.ownBlock w ((w.alloc (.cells #[.int .i64 W, .slice (some ⟨g, 0, none⟩) (m + 1) cap] 24)).alloc (.cells #[.bool lost, lu] 76)) := ((Gb2.of_below (Below.refl _ w)).alloc _).alloc _
 replace hown := (hown.alloc (.cells #[.int .i64 W, .slice (some ⟨g, 0, none⟩) (m + 1) cap] 24)).alloc (.cells #[.bool lost, lu] 76)
 replace hlv := (hlv.alloc (.cells #[.int .i64 W, .slice (some ⟨g, 0, none⟩) (m + 1) cap] 24)).alloc (.cells #[.bool lost, lu] 76)
 have qX := fun i => hX.cell i
 have hpos : (0 : Int) < (m : Int) + 1 := by omega
 have hgl2 : g < w.heap.size := hgl
 have HL0 := Lib.hid hlt0; have HGN := Lib.hid hgne; have HUL := Lib.hid hul
 clear hlt0 hgne hul
 go_enter Tryz.func200, Tryz.ntmps200
 go_upto_region 3 with (go_at_call 163; refine (insist_ok _).mono ?_; rintro e w1 ⟨rfl, rfl⟩)
 generalize ((w.alloc (.cells #[.int .i64 W, .slice (some ⟨g, 0, none⟩) (m + 1) cap] 24)).alloc (.cells #[.bool lost, lu] 76)) = W0 at *
 clear qX
 have hc0 : W0.cell? ⟨g, m, none⟩ = some lv := by
  have h := (Rd.of_own hown).2 (by omega)
  obtain ⟨b, off, e, _, hc⟩ := h
  cases e
  have h2 := hc m lv (by rw [List.getElem?_append_right (by rw [HUL.out]; exact Nat.le_refl _), HUL.out]; simp)
  simpa using h2
 have hmm1 : (m : Int) < (m : Int) + 1 := by omega
 have hwr : IntKind.i64.wrap ((m : Int) + 1 - 1) = (m : Int) := by rw [IntWalk.i64_in _ (by omega)]; omega
 rename World => WR
 refine wp_region_G (fun w' => Blk w' w.heap.size 24 #[.int .i64 W, .slice (some ⟨g, 0, none⟩) (m + 1) cap] ∧ Blk w' (w.heap.size + 1) 76 #[.bool lost, lu] ∧ w'.cell? ⟨g, m, none⟩ = some lv) 12 (by kernel_rfl) ?_
 replace hX := hX.drew; replace hY := hY.drew; replace hc0 : WR.drew.cell? ⟨g, m, none⟩ = some lv := hc0; replace hown := hown.drew; replace hlv := hlv.drew; replace hG := hG.drew
 generalize WR.drew = WD at *
 have hTT : Blk WD w.heap.size 24 #[.int .i64 W, .slice (some ⟨g, 0, none⟩) (m + 1) cap] ∧ Blk WD (w.heap.size + 1) 76 #[.bool lost, lu] ∧ WD.cell? ⟨g, m, none⟩ = some lv := ⟨hX, hY, hc0⟩
 refine tk 0 (v := ?_) rfl (Or.inl ⟨by rfl, ?h⟩) hTT ?_
 case h => intro wq hSw; have q0 := fun i => hSw.1.cell i; have q1 := fun i => hSw.2.1.cell i; have q2 := hSw.2.2; go_simp <;> with_reducible rfl
 simp only [LS, Act.put]
 refine tk 1 (v := ?_) rfl (Or.inl ⟨by rfl, ?h⟩) hTT ?_
 case h => intro wq hSw; have q0 := fun i => hSw.1.cell i; have q1 := fun i => hSw.2.1.cell i; have q2 := hSw.2.2; go_simp <;> with_reducible rfl
 simp only [LS, Act.put]
 refine tk 2 (v := ?_) rfl (Or.inl ⟨by rfl, ?h⟩) hTT ?_
 case h => intro wq hSw; have q0 := fun i => hSw.1.cell i; have q1 := fun i => hSw.2.1.cell i; have q2 := hSw.2.2; go_simp <;> with_reducible rfl
 simp only [LS, Act.put]
 refine tk 3 (v := ?_) rfl (Or.inl ⟨by rfl, ?h⟩) hTT ?_
 case h => intro wq hSw; have q0 := fun i => hSw.1.cell i; have q1 := fun i => hSw.2.1.cell i; have q2 := hSw.2.2; go_simp <;> with_reducible rfl
 simp only [LS, Act.put]
 refine tk 4 (v := ?_) rfl (Or.inl ⟨by rfl, ?h⟩) hTT ?_
 case h => intro wq hSw; have q0 := fun i => hSw.1.cell i; have q1 := fun i => hSw.2.1.cell i; have q2 := hSw.2.2; go_simp <;> with_reducible rfl
 simp only [LS, Act.put]
 refine tk 5 (v := ?_) rfl (Or.inl ⟨by rfl, ?h⟩) hTT ?_
 case h => intro wq hSw; have q0 := fun i => hSw.1.cell i; have q1 := fun i => hSw.2.1.cell i; have q2 := hSw.2.2; go_simp <;> with_reducible rfl
 simp only [LS, Act.put]
 refine tk 6 (v := ?_) rfl (Or.inl ⟨by rfl, ?h⟩) hTT ?_
 case h => intro wq hSw; have q0 := fun i => hSw.1.cell i; have q1 := fun i => hSw.2.1.cell i; have q2 := hSw.2.2; go_simp <;> with_reducible rfl
 simp only [LS, Act.put]
 refine tk 7 (v := ?_) rfl (Or.inl ⟨by rfl, ?h⟩) hTT ?_
 case h => intro wq hSw; have q0 := fun i => hSw.1.cell i; have q1 := fun i => hSw.2.1.cell i; have q2 := hSw.2.2; go_simp <;> with_reducible rfl
 simp only [LS, Act.put]
 refine tk 8 (v := ?_) rfl (Or.inl ⟨by rfl, ?h⟩) hTT ?_
 case h => intro wq hSw; have q0 := fun i => hSw.1.cell i; have q1 := fun i => hSw.2.1.cell i; have q2 := hSw.2.2; go_simp <;> with_reducible rfl
 simp only [LS, Act.put]
 refine o1 9 rfl fun K hK => ?_
 go_simp
 replace hX := hX.alloc (.cells #[.bool lost, lu] 76); replace hY := hY.alloc (.cells #[.bool lost, lu] 76); replace hc0 := (World.cell?_alloc_lt WD (.cells #[.bool lost, lu] 76) ⟨g, m, none⟩ (by have := hG.size; show g < WD.heap.size; omega)).trans hc0; replace hown := hown.alloc (.cells #[.bool lost, lu] 76); replace hlv := hlv.alloc (.cells #[.bool lost, lu] 76); replace hG := hG.alloc (.cells #[.bool lost, lu] 76)
 replace hTT := And.intro hX (And.intro hY hc0)
 refine hK _ _ (.inr hTT) ?_
 clear hK K
 try simp only [LS, Act.put]
 refine o1 10 rfl fun K hK => ?_
 rw [if_pos (by rfl)]
 refine wp_append_any _ _ _ 77 rfl base 76 i76 (.agg #[.bool false, .slice none 0 0]) 2 32 Tryz.underlying77 hi hz0 hz1' hz2' rfl (by decide) lv q xs rfl hlv (WD.heap.size + 1) (some ⟨WD.heap.size, 0, none⟩) 1 1 [.bool lost, lu] rfl (Rd.blkN (Blk.new WD 76 #[.bool lost, lu]) rfl (Nat.lt_succ_self _)).reads (fun u hu => by rcases (by simpa using hu : u = .bool lost ∨ u = lu) with rfl | rfl; exact rfl; exact hlu) (by unfold maxLen; omega) (by omega) (Nat.le_trans hbase hG.size) (fun v' w2 hlv' hgrow hob => ?_)
 have hne1 : some (w.heap.size + 1) ≠ lv.ownBlock := fun e => by have := HL0.out _ e.symm; omega
 have hne2 : some g ≠ lv.ownBlock := fun e => by rcases HGN.out with h | h; rw [h] at e; cases e; exact h e.symm
 replace hX := hX.kept_own hlv (by decide) hgrow
 replace hY : Blk w2 (w.heap.size + 1) 76 #[.bool lost, lu] := (hgrow.block _ hY.lt hne1).trans hY
 replace hc0 := hgrow.cell hc0 hne2
 replace hown := hown.kept hgrow (.inr hne2)
 replace hob : v'.ownBlock = lv.ownBlock ∨ ∀ z, v'.ownBlock = some z → w.heap.size ≤ z := hob.imp id (fun h z hz => by rw [h] at hz; cases hz; have := hG.size; omega)
 replace hG := hG.grown hgrow (.inr (.inl rfl))
 replace hTT := And.intro hX (And.intro hY hc0)
 have hbg : ∃ cur, Blk w2 g 77 cur := by
  rcases hown.2 with ⟨e, _⟩ | ⟨g2, cap2, cur, e, _, hgg, _⟩
  ·cases e
  ·cases e; exact ⟨cur, hgg⟩
 obtain ⟨cur, hbg⟩ := hbg
 have hfz := hbg.frozen m; have hlg := hbg.lt
 refine hK _ _ (.inr hTT) ?_
 clear hK K
 try simp only [LS, Act.put]
 refine tk 11 (v := ?_) rfl (Or.inl ⟨by rfl, ?h⟩) hTT ?_
 case h => intro wq hSw; have q0 := fun i => hSw.1.cell i; have q1 := fun i => hSw.2.1.cell i; have q2 := hSw.2.2; go_simp <;> with_reducible rfl
 simp only [LS, Act.put]
 refine o1 12 rfl fun K hK => ?_
 obtain ⟨va, vc, rfl⟩ := own_slice hlv'
 go_simp
 refine hK _ _ (.inl rfl) ?_
 clear hK K
 try simp only [LS, Act.put]
 refine wpG_done (by kernel_rfl) ?_ _
 clear hTT
 go_wp2_with fail
 have hn2 := own_ne hlv' hown (by decide)
 have hset : (us ++ [lv]).set m (Value.slice va (q + 1) vc) = us ++ [Value.slice va (q + 1) vc] := set_last HUL.out
 have hp := own_putL hown m (by omega) (Value.slice va (q + 1) vc)
 rw [hset] at hp
 exact ⟨rfl, .tuple #[], by simp [results, Tryz.results200, go_sem], rfl, _, hp, hlv'.kept (grown_set _ _ _) hn2, hG.set _ (.inl rfl), hob⟩
theorem addLine_bad (W : Int) (A : Option Addr) (cap : Nat) (lost : Bool) (lu : Value) (w : World) :
  Calls Tryz.prog 200 #[.agg #[.int .i64 W, .slice A 0 cap], .agg #[.bool lost, lu]] w fun e w' => e = BADv ∧ Below w.heap.size w w' := by
 have hX := (Blk.new w 24 #[.int .i64 W, .slice A 0 cap]).alloc (.cells #[.bool lost, lu] 76)
 have qX := fun i => hX.cell i
 have hB : Below w.heap.size w ((w.alloc (.cells #[.int .i64 W, .slice A 0 cap] 24)).alloc (.cells #[.bool lost, lu] 76)) := ((Below.refl _ w).alloc (Nat.le_refl _) _).alloc (by simp only [World.size_alloc]; omega) _
 go_enter Tryz.func200, Tryz.ntmps200
 go_wp2_with (go_at_call 163; refine (insist_bad _).mono ?_; rintro e w1 ⟨rfl, rfl⟩)
 exact ⟨rfl, Eq.symm (by assumption), hB⟩
end
section
open Go.RowKit Go.Lib
theorem Gb2.trans {r1 r2 : Option Nat} {a b c : World} (h : Gb2 r1 r2 a b) (h2 : Gb2 r1 r2 b c) : Gb2 r1 r2 a c :=
 ⟨h2.os.trans h.os, h2.tape.trans h.tape, h2.output.trans h.output, Nat.le_trans h.size h2.size, fun k hk h3 h4 => (h2.block k (Nat.lt_of_lt_of_le hk h.size) h3 h4).trans (h.block k hk h3 h4)⟩
theorem own_blkL {w : World} {base n size : Nat} {e t : TypeId} {v : Value} {xs : List Value} {g : Nat} {cs : Array Value} (h : w.ownsRow base e size v n xs) (hb : Blk w g t cs) (hne : e ≠ t) : v.ownBlock = none ∨ v.ownBlock ≠ some g := by
 rcases h.2 with ⟨rfl, _⟩ | ⟨g2, cap, cur, rfl, _, hh, _⟩
 ·exact .inl rfl
 ·refine .inr (fun e0 => ?_)
  have e1 : g2 = g := by simpa [Value.ownBlock] using e0
  subst e1
  unfold Blk at hb
  rw [hb] at hh
  injection hh with h1
  injection h1 with h2 h3
  exact hne h3.symm
theorem with_book (W : Int) (A : Option Addr) (n cap a : Nat) (w : World) :
  Calls Tryz.prog 166 #[.agg #[.int .i64 W, .slice A n cap], .iface 251 (.agg #[.int .i64 a])] w fun e w' => e = .returned (.agg #[.int .i64 a, .slice A n cap]) ∧ Below w.heap.size w w' := by
 have ha0 : ∀ w, (Instr.typeAssert (.iface 251 (.agg #[.int .i64 a])) 219 251 true).run Tryz.prog w = .ok (.tuple #[.agg #[.int .i64 a], .bool true]) w := fun _ => by kernel_rfl
 have hX := (Blk.new w 24 #[.int .i64 W, .slice A n cap]).alloc (.cells #[.int .i64 0, .slice none 0 0] 24)
 have hR := blk2_1 w (.cells #[.int .i64 W, .slice A n cap] 24) 24 #[.int .i64 0, .slice none 0 0]
 have hB : Below w.heap.size w ((w.alloc (.cells #[.int .i64 W, .slice A n cap] 24)).alloc (.cells #[.int .i64 0, .slice none 0 0] 24)) := ((Below.refl _ w).alloc (Nat.le_refl _) _).alloc (by simp only [World.size_alloc]; omega) _
 have hZ := Blk.new ((w.alloc (.cells #[.int .i64 W, .slice A n cap] 24)).alloc (.cells #[.int .i64 0, .slice none 0 0] 24)) 251 #[.int .i64 a]
 simp only [World.size_alloc] at hZ
 replace hX := hX.alloc (.cells #[.int .i64 a] 251); replace hR := hR.alloc (.cells #[.int .i64 a] 251); replace hB := hB.alloc hB.size (.cells #[.int .i64 a] 251)
 have qX := fun i => hX.cell i; have qZ := fun i => hZ.cell i; have fX := fun i => hX.frozen i; have fR := fun i => hR.frozen i; have qR := fun i => hR.cell i; have lR := hR.lt; have lX := hX.lt
 go_enter Tryz.func166, Tryz.ntmps166
 go_upto_region 4 with fail
 generalize (((w.alloc (.cells #[.int .i64 W, .slice A n cap] 24)).alloc (.cells #[.int .i64 0, .slice none 0 0] 24)).alloc (.cells #[.int .i64 a] 251)) = W0 at *
 go_upto_region 14 with fail
 replace hX := hX.set_ 0 (.int .i64 a); replace hR := hR.far (p := ⟨w.heap.size, 0, none⟩) (show w.heap.size + 1 ≠ w.heap.size by omega) (.int .i64 a); replace hB := hB.setCell (p := ⟨w.heap.size, 0, none⟩) (Nat.le_refl w.heap.size) (.int .i64 a)
 replace hX : Blk (W0.setCell ⟨w.heap.size, 0, none⟩ (.int .i64 a)) w.heap.size 24 #[.int .i64 a, .slice A n cap] := by simpa using hX
 clear qX qZ fX fR qR lR lX hZ
 generalize W0.setCell ⟨w.heap.size, 0, none⟩ (.int .i64 a) = W1 at *
 have qX := fun i => hX.cell i; have fR := fun i => hR.frozen i; have qR := fun i => hR.cell i; have lR := hR.lt
 go_wp2_with fail
 have G : Blk ((W1.setCell ⟨w.heap.size + 1, 0, none⟩ (.int .i64 a)).setCell ⟨w.heap.size + 1, 1, none⟩ (.slice A n cap)) (w.heap.size + 1) 24 #[.int .i64 a, .slice A n cap] := by simpa using ((hR.set_ 0 (.int .i64 a)).set_ 1 (.slice A n cap))
 have qG := fun i => G.cell i
 refine bodyPost_ret (v := .agg #[.int .i64 a, .slice A n cap]) (by simp [results, Tryz.results166, go_sem, qG]) rfl ⟨rfl, (hB.setCell (p := ⟨w.heap.size + 1, 0, none⟩) (show w.heap.size ≤ w.heap.size + 1 by omega) _).setCell (p := ⟨w.heap.size + 1, 1, none⟩) (show w.heap.size ≤ w.heap.size + 1 by omega) _⟩
theorem with_copy (W : Int) (A : Option Addr) (n cap base : Nat) (vs : List Value) (w : World) (hn : n ≤ 1000) (hbase : base ≤ w.heap.size) (hown : w.ownsRow base 77 1 (.slice A n cap) n vs) :
  Calls Tryz.prog 166 #[.agg #[.int .i64 W, .slice A n cap], .iface 252 (.agg #[])] w fun e w' => ∃ v', e = .returned (.agg #[.int .i64 W, v']) ∧ w'.ownsRow base 77 1 v' (n + 1) (vs ++ [.slice none 0 0]) ∧ Gb2 (Value.slice A n cap).ownBlock none w w' := by
 obtain ⟨i77, hi, hz0, hz1', hz2'⟩ := info_parts info77
 have ha0 : ∀ w, (Instr.typeAssert (.iface 252 (.agg #[])) 219 251 true).run Tryz.prog w = .ok (.tuple #[.agg #[.int .i64 0], .bool false]) w := fun _ => by kernel_rfl
 have ha1 : ∀ w, (Instr.typeAssert (.iface 252 (.agg #[])) 219 252 true).run Tryz.prog w = .ok (.tuple #[.agg #[], .bool true]) w := fun _ => by kernel_rfl
 have hX := (Blk.new w 24 #[.int .i64 W, .slice A n cap]).alloc (.cells #[.int .i64 0, .slice none 0 0] 24)
 have hR := blk2_1 w (.cells #[.int .i64 W, .slice A n cap] 24) 24 #[.int .i64 0, .slice none 0 0]
 have hG : Gb2 (Value.slice A n cap).ownBlock none w ((w.alloc (.cells #[.int .i64 W, .slice A n cap] 24)).alloc (.cells #[.int .i64 0, .slice none 0 0] 24)) := ((Gb2.of_below (Below.refl _ w)).alloc _).alloc _
 replace hown := (hown.alloc (.cells #[.int .i64 W, .slice A n cap] 24)).alloc (.cells #[.int .i64 0, .slice none 0 0] 24)
 replace hX := hX.alloc (.cells #[] 252); replace hR := hR.alloc (.cells #[] 252); replace hG := hG.alloc (.cells #[] 252); replace hown := hown.alloc (.cells #[] 252)
 have qX := fun i => hX.cell i
 go_enter Tryz.func166, Tryz.ntmps166
 go_upto_region 7 with fail
 generalize (((w.alloc (.cells #[.int .i64 W, .slice A n cap] 24)).alloc (.cells #[.int .i64 0, .slice none 0 0] 24)).alloc (.cells #[] 252)) = W0 at *
 go_upto_region 14 with (at_builtin; refine wpList_append_any _ rfl _ _ 22 rfl base 77 i77 (.slice none 0 0) 1 24 Tryz.underlying22 hi hz0 hz1' hz2' rfl (by decide) (.slice A n cap) n vs rfl (hown.alloc _) (W0.heap.size + 1) (some ⟨W0.heap.size, 0, none⟩) 1 1 [.slice none 0 0] rfl (Rd.blkN (Blk.new W0 77 #[.slice none 0 0]) rfl (Nat.lt_succ_self _)).reads (by simp [Value.oneCell']) (by unfold maxLen; omega) (by omega) (Nat.le_trans hbase (by have := hG.size; simp only [World.size_alloc]; omega)) (fun v' w2 hown' hgrow hob => ?_); (have hX2 := (hX.alloc (.cells #[.slice none 0 0] 77)).kept_own (hown.alloc (.cells #[.slice none 0 0] 77)) (by decide) hgrow); (have hR2 := (hR.alloc (.cells #[.slice none 0 0] 77)).kept_own (hown.alloc (.cells #[.slice none 0 0] 77)) (by decide) hgrow); (have hG2 := (hG.alloc (.cells #[.slice none 0 0] 77)).grown hgrow (.inl rfl)); (have qX2 := fun i => hX2.cell i); (have fX2 := fun i => hX2.frozen i); (have lX2 := hX2.lt); obtain ⟨va, vc, rfl⟩ := own_slice hown')
 have hnb : (Value.slice va (n + 1) vc).ownBlock = none ∨ (Value.slice va (n + 1) vc).ownBlock ≠ some w.heap.size := own_blkL hown' hX2 (by decide)
 have hnb1 : (Value.slice va (n + 1) vc).ownBlock = none ∨ (Value.slice va (n + 1) vc).ownBlock ≠ some (w.heap.size + 1) := own_blkL hown' hR2 (by decide)
 replace hown' := hown'.kept (grown_set w2 ⟨w.heap.size, 1, none⟩ (.slice va (n + 1) vc)) hnb
 replace hX2 := hX2.set_ 1 (.slice va (n + 1) vc); replace hR2 := hR2.far (p := ⟨w.heap.size, 1, none⟩) (show w.heap.size + 1 ≠ w.heap.size by omega) (.slice va (n + 1) vc); replace hG2 := hG2.set (p := ⟨w.heap.size, 1, none⟩) (.slice va (n + 1) vc) (.inr (.inr (Nat.le_refl w.heap.size)))
 replace hX2 : Blk (w2.setCell ⟨w.heap.size, 1, none⟩ (.slice va (n + 1) vc)) w.heap.size 24 #[.int .i64 W, .slice va (n + 1) vc] := by simpa using hX2
 clear qX qX2 fX2 lX2 hX hR hG hown
 have hR := hR2; have hG := hG2; clear hR2 hG2
 generalize w2.setCell ⟨w.heap.size, 1, none⟩ (.slice va (n + 1) vc) = W1 at *
 have qX := fun i => hX2.cell i; have fR := fun i => hR.frozen i; have qR := fun i => hR.cell i; have lR := hR.lt
 go_wp2_with fail
 have G : Blk ((W1.setCell ⟨w.heap.size + 1, 0, none⟩ (.int .i64 W)).setCell ⟨w.heap.size + 1, 1, none⟩ (.slice va (n + 1) vc)) (w.heap.size + 1) 24 #[.int .i64 W, .slice va (n + 1) vc] := by simpa using ((hR.set_ 0 (.int .i64 W)).set_ 1 (.slice va (n + 1) vc))
 have qG := fun i => G.cell i
 refine bodyPost_ret (v := .agg #[.int .i64 W, .slice va (n + 1) vc]) (by simp [results, Tryz.results166, go_sem, qG]) rfl ⟨_, rfl, ?_, ?_⟩
 ·exact (hown'.kept (grown_set _ ⟨w.heap.size + 1, 0, none⟩ _) hnb1).kept (grown_set _ ⟨w.heap.size + 1, 1, none⟩ _) hnb1
 ·exact (hG.set (p := ⟨w.heap.size + 1, 0, none⟩) _ (.inr (.inr (show w.heap.size ≤ w.heap.size + 1 by omega)))).set (p := ⟨w.heap.size + 1, 1, none⟩) _ (.inr (.inr (show w.heap.size ≤ w.heap.size + 1 by omega)))
theorem with_line (W : Int) (g m cap : Nat) (us : List Value) (lv : Value) (q : Nat) (xs : List Value) (lA : Option Addr) (ln lcap : Nat) (base : Nat) (w : World) (hm : m ≤ 1000) (hq : q ≤ 1000) (hul : us.length = m)
  (hown : w.ownsRow base 77 1 (.slice (some ⟨g, 0, none⟩) (m + 1) cap) (m + 1) (us ++ [lv])) (hlv : w.ownsRow base 76 2 lv q xs) (hbase : base ≤ w.heap.size) :
  Calls Tryz.prog 166 #[.agg #[.int .i64 W, .slice (some ⟨g, 0, none⟩) (m + 1) cap], .iface 255 (.agg #[.slice lA ln lcap])] w fun e w' => ∃ lv', e = .returned (.agg #[.int .i64 W, .slice (some ⟨g, 0, none⟩) (m + 1) cap]) ∧ w'.ownsRow base 77 1 (.slice (some ⟨g, 0, none⟩) (m + 1) cap) (m + 1) (us ++ [lv']) ∧ w'.ownsRow base 76 2 lv' (q + 1) (xs ++ [.bool false, .slice lA ln lcap]) ∧ Gb2 (some g) lv.ownBlock w w' ∧ (lv'.ownBlock = lv.ownBlock ∨ ∀ z, lv'.ownBlock = some z → w.heap.size ≤ z) := by
 have ha0 : ∀ w, (Instr.typeAssert (.iface 255 (.agg #[.slice lA ln lcap])) 219 251 true).run Tryz.prog w = .ok (.tuple #[.agg #[.int .i64 0], .bool false]) w := fun _ => by kernel_rfl
 have ha1 : ∀ w, (Instr.typeAssert (.iface 255 (.agg #[.slice lA ln lcap])) 219 252 true).run Tryz.prog w = .ok (.tuple #[.agg #[], .bool false]) w := fun _ => by kernel_rfl
 have ha2 : ∀ w, (Instr.typeAssert (.iface 255 (.agg #[.slice lA ln lcap])) 219 255 true).run Tryz.prog w = .ok (.tuple #[.agg #[.slice lA ln lcap], .bool true]) w := fun _ => by kernel_rfl
 have hgl := (hown.lt g rfl).2
 have hlt0 : ∀ z, lv.ownBlock = some z → z < w.heap.size := fun z hz => (hlv.lt z hz).2
 have hX := (Blk.new w 24 #[.int .i64 W, .slice (some ⟨g, 0, none⟩) (m + 1) cap]).alloc (.cells #[.int .i64 0, .slice none 0 0] 24)
 have hR := blk2_1 w (.cells #[.int .i64 W, .slice (some ⟨g, 0, none⟩) (m + 1) cap] 24) 24 #[.int .i64 0, .slice none 0 0]
 have hG : Gb2 (some g) lv.ownBlock w ((w.alloc (.cells #[.int .i64 W, .slice (some ⟨g, 0, none⟩) (m + 1) cap] 24)).alloc (.cells #[.int .i64 0, .slice none 0 0] 24)) := ((Gb2.of_below (Below.refl _ w)).alloc _).alloc _
 replace hown := ((hown.alloc (.cells #[.int .i64 W, .slice (some ⟨g, 0, none⟩) (m + 1) cap] 24)).alloc (.cells #[.int .i64 0, .slice none 0 0] 24)).alloc (.cells #[.slice lA ln lcap] 255)
 replace hlv := ((hlv.alloc (.cells #[.int .i64 W, .slice (some ⟨g, 0, none⟩) (m + 1) cap] 24)).alloc (.cells #[.int .i64 0, .slice none 0 0] 24)).alloc (.cells #[.slice lA ln lcap] 255)
 have hZ := Blk.new ((w.alloc (.cells #[.int .i64 W, .slice (some ⟨g, 0, none⟩) (m + 1) cap] 24)).alloc (.cells #[.int .i64 0, .slice none 0 0] 24)) 255 #[.slice lA ln lcap]
 simp only [World.size_alloc] at hZ
 have hsz : (((w.alloc (.cells #[.int .i64 W, .slice (some ⟨g, 0, none⟩) (m + 1) cap] 24)).alloc (.cells #[.int .i64 0, .slice none 0 0] 24)).alloc (.cells #[.slice lA ln lcap] 255)).heap.size = w.heap.size + 1 + 1 + 1 := by simp only [World.size_alloc]
 replace hX := hX.alloc (.cells #[.slice lA ln lcap] 255); replace hR := hR.alloc (.cells #[.slice lA ln lcap] 255); replace hG := hG.alloc (.cells #[.slice lA ln lcap] 255)
 have qX := fun i => hX.cell i; have qZ := fun i => hZ.cell i
 have hal := addLine_any W g m cap us lv q xs false (.slice lA ln lcap) base _ hm hq hul hown hlv (by rw [hsz]; omega) rfl
 have HAL := Lib.hid hal; have HL0 := Lib.hid hlt0; have HSZ := Lib.hid hsz; clear hal hlt0 hown hlv hul hsz
 go_enter Tryz.func166, Tryz.ntmps166
 go_upto_region 10 with fail
 generalize (((w.alloc (.cells #[.int .i64 W, .slice (some ⟨g, 0, none⟩) (m + 1) cap] 24)).alloc (.cells #[.int .i64 0, .slice none 0 0] 24)).alloc (.cells #[.slice lA ln lcap] 255)) = W0 at *
 go_upto_region 14 with (go_at_call 200; refine HAL.out.mono ?_; rintro e w2 ⟨rfl, lv', hown, hlv, hg2, hob⟩)
 have hn1 : some w.heap.size ≠ some g := fun e => by cases e; omega
 have hn2 : some (w.heap.size + 1) ≠ some g := fun e => by cases e; omega
 replace hX := hg2.blk hX hn1 (fun e => by have := HL0.out _ e.symm; omega)
 replace hR := hg2.blk hR hn2 (fun e => by have := HL0.out _ e.symm; omega)
 replace hG := hG.trans hg2
 clear qX qZ hZ
 have qX := fun i => hX.cell i; have fR := fun i => hR.frozen i; have qR := fun i => hR.cell i; have lR := hR.lt
 have hob2 : lv'.ownBlock = lv.ownBlock ∨ ∀ z, lv'.ownBlock = some z → w.heap.size ≤ z := hob.imp id (fun h z hz => by have := h z hz; have := HSZ.out; omega)
 have hv1 : lv'.ownBlock = none ∨ lv'.ownBlock ≠ some (w.heap.size + 1) := own_blkL hlv hR (by decide)
 have hv2 : (Value.slice (some ⟨g, 0, none⟩) (m + 1) cap).ownBlock = none ∨ (Value.slice (some ⟨g, 0, none⟩) (m + 1) cap).ownBlock ≠ some (w.heap.size + 1) := own_blkL hown hR (by decide)
 clear hob
 go_wp2_with fail
 have G : Blk ((w2.setCell ⟨w.heap.size + 1, 0, none⟩ (.int .i64 W)).setCell ⟨w.heap.size + 1, 1, none⟩ (.slice (some ⟨g, 0, none⟩) (m + 1) cap)) (w.heap.size + 1) 24 #[.int .i64 W, .slice (some ⟨g, 0, none⟩) (m + 1) cap] := by simpa using ((hR.set_ 0 (.int .i64 W)).set_ 1 (.slice (some ⟨g, 0, none⟩) (m + 1) cap))
 have qG := fun i => G.cell i
 refine bodyPost_ret (v := .agg #[.int .i64 W, .slice (some ⟨g, 0, none⟩) (m + 1) cap]) (by simp [results, Tryz.results166, go_sem, qG]) rfl ⟨_, rfl, ?_, ?_, ?_, hob2⟩
 ·exact (hown.kept (grown_set _ ⟨w.heap.size + 1, 0, none⟩ _) hv2).kept (grown_set _ ⟨w.heap.size + 1, 1, none⟩ _) hv2
 ·exact (hlv.kept (grown_set _ ⟨w.heap.size + 1, 0, none⟩ _) hv1).kept (grown_set _ ⟨w.heap.size + 1, 1, none⟩ _) hv1
 ·exact (hG.set (p := ⟨w.heap.size + 1, 0, none⟩) _ (.inr (.inr (show w.heap.size ≤ w.heap.size + 1 by omega)))).set (p := ⟨w.heap.size + 1, 1, none⟩) _ (.inr (.inr (show w.heap.size ≤ w.heap.size + 1 by omega)))
theorem with_line_bad (W : Int) (A : Option Addr) (cap : Nat) (lA : Option Addr) (ln lcap : Nat) (w : World) :
  Calls Tryz.prog 166 #[.agg #[.int .i64 W, .slice A 0 cap], .iface 255 (.agg #[.slice lA ln lcap])] w fun e w' => e = BADv ∧ Below w.heap.size w w' := by
 have ha0 : ∀ w, (Instr.typeAssert (.iface 255 (.agg #[.slice lA ln lcap])) 219 251 true).run Tryz.prog w = .ok (.tuple #[.agg #[.int .i64 0], .bool false]) w := fun _ => by kernel_rfl
 have ha1 : ∀ w, (Instr.typeAssert (.iface 255 (.agg #[.slice lA ln lcap])) 219 252 true).run Tryz.prog w = .ok (.tuple #[.agg #[], .bool false]) w := fun _ => by kernel_rfl
 have ha2 : ∀ w, (Instr.typeAssert (.iface 255 (.agg #[.slice lA ln lcap])) 219 255 true).run Tryz.prog w = .ok (.tuple #[.agg #[.slice lA ln lcap], .bool true]) w := fun _ => by kernel_rfl
 have hX := (Blk.new w 24 #[.int .i64 W, .slice A 0 cap]).alloc (.cells #[.int .i64 0, .slice none 0 0] 24)
 have hR := blk2_1 w (.cells #[.int .i64 W, .slice A 0 cap] 24) 24 #[.int .i64 0, .slice none 0 0]
 have hB : Below w.heap.size w ((w.alloc (.cells #[.int .i64 W, .slice A 0 cap] 24)).alloc (.cells #[.int .i64 0, .slice none 0 0] 24)) := ((Below.refl _ w).alloc (Nat.le_refl _) _).alloc (by simp only [World.size_alloc]; omega) _
 have hZ := Blk.new ((w.alloc (.cells #[.int .i64 W, .slice A 0 cap] 24)).alloc (.cells #[.int .i64 0, .slice none 0 0] 24)) 255 #[.slice lA ln lcap]
 simp only [World.size_alloc] at hZ
 replace hX := hX.alloc (.cells #[.slice lA ln lcap] 255); replace hB := hB.alloc hB.size (.cells #[.slice lA ln lcap] 255)
 have qX := fun i => hX.cell i; have qZ := fun i => hZ.cell i
 clear hR
 go_enter Tryz.func166, Tryz.ntmps166
 go_upto_region 10 with fail
 generalize (((w.alloc (.cells #[.int .i64 W, .slice A 0 cap] 24)).alloc (.cells #[.int .i64 0, .slice none 0 0] 24)).alloc (.cells #[.slice lA ln lcap] 255)) = W0 at *
 go_wp2_with (go_at_call 200; refine (addLine_bad W _ _ false _ _).mono ?_; rintro e w2 ⟨rfl, hb⟩; replace hB := hB.trans (hb.mono hB.size))
 exact ⟨rfl, Eq.symm (by assumption), hB⟩
theorem with_lost (W : Int) (g m cap : Nat) (us : List Value) (lv : Value) (q : Nat) (xs : List Value) (base : Nat) (w : World) (hm : m ≤ 1000) (hq : q ≤ 1000) (hul : us.length = m)
  (hown : w.ownsRow base 77 1 (.slice (some ⟨g, 0, none⟩) (m + 1) cap) (m + 1) (us ++ [lv])) (hlv : w.ownsRow base 76 2 lv q xs) (hbase : base ≤ w.heap.size) :
  Calls Tryz.prog 166 #[.agg #[.int .i64 W, .slice (some ⟨g, 0, none⟩) (m + 1) cap], .iface 253 (.agg #[])] w fun e w' => ∃ lv', e = .returned (.agg #[.int .i64 W, .slice (some ⟨g, 0, none⟩) (m + 1) cap]) ∧ w'.ownsRow base 77 1 (.slice (some ⟨g, 0, none⟩) (m + 1) cap) (m + 1) (us ++ [lv']) ∧ w'.ownsRow base 76 2 lv' (q + 1) (xs ++ [.bool true, .slice none 0 0]) ∧ Gb2 (some g) lv.ownBlock w w' ∧ (lv'.ownBlock = lv.ownBlock ∨ ∀ z, lv'.ownBlock = some z → w.heap.size ≤ z) := by
 have ha0 : ∀ w, (Instr.typeAssert (.iface 253 (.agg #[])) 219 251 true).run Tryz.prog w = .ok (.tuple #[.agg #[.int .i64 0], .bool false]) w := fun _ => by kernel_rfl
 have ha1 : ∀ w, (Instr.typeAssert (.iface 253 (.agg #[])) 219 252 true).run Tryz.prog w = .ok (.tuple #[.agg #[], .bool false]) w := fun _ => by kernel_rfl
 have ha2 : ∀ w, (Instr.typeAssert (.iface 253 (.agg #[])) 219 255 true).run Tryz.prog w = .ok (.tuple #[.agg #[.slice none 0 0], .bool false]) w := fun _ => by kernel_rfl
 have ha3 : ∀ w, (Instr.typeAssert (.iface 253 (.agg #[])) 219 253 true).run Tryz.prog w = .ok (.tuple #[.agg #[], .bool true]) w := fun _ => by kernel_rfl
 have hgl := (hown.lt g rfl).2
 have hlt0 : ∀ z, lv.ownBlock = some z → z < w.heap.size := fun z hz => (hlv.lt z hz).2
 have hX := (Blk.new w 24 #[.int .i64 W, .slice (some ⟨g, 0, none⟩) (m + 1) cap]).alloc (.cells #[.int .i64 0, .slice none 0 0] 24)
 have hR := blk2_1 w (.cells #[.int .i64 W, .slice (some ⟨g, 0, none⟩) (m + 1) cap] 24) 24 #[.int .i64 0, .slice none 0 0]
 have hG : Gb2 (some g) lv.ownBlock w ((w.alloc (.cells #[.int .i64 W, .slice (some ⟨g, 0, none⟩) (m + 1) cap] 24)).alloc (.cells #[.int .i64 0, .slice none 0 0] 24)) := ((Gb2.of_below (Below.refl _ w)).alloc _).alloc _
 replace hown := ((hown.alloc (.cells #[.int .i64 W, .slice (some ⟨g, 0, none⟩) (m + 1) cap] 24)).alloc (.cells #[.int .i64 0, .slice none 0 0] 24)).alloc (.cells #[] 253)
 replace hlv := ((hlv.alloc (.cells #[.int .i64 W, .slice (some ⟨g, 0, none⟩) (m + 1) cap] 24)).alloc (.cells #[.int .i64 0, .slice none 0 0] 24)).alloc (.cells #[] 253)
 have hZ := Blk.new ((w.alloc (.cells #[.int .i64 W, .slice (some ⟨g, 0, none⟩) (m + 1) cap] 24)).alloc (.cells #[.int .i64 0, .slice none 0 0] 24)) 253 #[]
 simp only [World.size_alloc] at hZ
 have hsz : (((w.alloc (.cells #[.int .i64 W, .slice (some ⟨g, 0, none⟩) (m + 1) cap] 24)).alloc (.cells #[.int .i64 0, .slice none 0 0] 24)).alloc (.cells #[] 253)).heap.size = w.heap.size + 1 + 1 + 1 := by simp only [World.size_alloc]
 replace hX := hX.alloc (.cells #[] 253); replace hR := hR.alloc (.cells #[] 253); replace hG := hG.alloc (.cells #[] 253)
 have qX := fun i => hX.cell i; have qZ := fun i => hZ.cell i
 have hal := addLine_any W g m cap us lv q xs true (.slice none 0 0) base _ hm hq hul hown hlv (by rw [hsz]; omega) rfl
 have HAL := Lib.hid hal; have HL0 := Lib.hid hlt0; have HSZ := Lib.hid hsz; clear hal hlt0 hown hlv hul hsz
 go_enter Tryz.func166, Tryz.ntmps166
 go_upto_region 13 with fail
 generalize (((w.alloc (.cells #[.int .i64 W, .slice (some ⟨g, 0, none⟩) (m + 1) cap] 24)).alloc (.cells #[.int .i64 0, .slice none 0 0] 24)).alloc (.cells #[] 253)) = W0 at *
 go_upto_region 14 with (go_at_call 200; refine HAL.out.mono ?_; rintro e w2 ⟨rfl, lv', hown, hlv, hg2, hob⟩)
 have hn1 : some w.heap.size ≠ some g := fun e => by cases e; omega
 have hn2 : some (w.heap.size + 1) ≠ some g := fun e => by cases e; omega
 replace hX := hg2.blk hX hn1 (fun e => by have := HL0.out _ e.symm; omega)
 replace hR := hg2.blk hR hn2 (fun e => by have := HL0.out _ e.symm; omega)
 replace hG := hG.trans hg2
 clear qX qZ hZ
 have qX := fun i => hX.cell i; have fR := fun i => hR.frozen i; have qR := fun i => hR.cell i; have lR := hR.lt
 have hob2 : lv'.ownBlock = lv.ownBlock ∨ ∀ z, lv'.ownBlock = some z → w.heap.size ≤ z := hob.imp id (fun h z hz => by have := h z hz; have := HSZ.out; omega)
 have hv1 : lv'.ownBlock = none ∨ lv'.ownBlock ≠ some (w.heap.size + 1) := own_blkL hlv hR (by decide)
 have hv2 : (Value.slice (some ⟨g, 0, none⟩) (m + 1) cap).ownBlock = none ∨ (Value.slice (some ⟨g, 0, none⟩) (m + 1) cap).ownBlock ≠ some (w.heap.size + 1) := own_blkL hown hR (by decide)
 clear hob
 go_wp2_with fail
 have G : Blk ((w2.setCell ⟨w.heap.size + 1, 0, none⟩ (.int .i64 W)).setCell ⟨w.heap.size + 1, 1, none⟩ (.slice (some ⟨g, 0, none⟩) (m + 1) cap)) (w.heap.size + 1) 24 #[.int .i64 W, .slice (some ⟨g, 0, none⟩) (m + 1) cap] := by simpa using ((hR.set_ 0 (.int .i64 W)).set_ 1 (.slice (some ⟨g, 0, none⟩) (m + 1) cap))
 have qG := fun i => G.cell i
 refine bodyPost_ret (v := .agg #[.int .i64 W, .slice (some ⟨g, 0, none⟩) (m + 1) cap]) (by simp [results, Tryz.results166, go_sem, qG]) rfl ⟨_, rfl, ?_, ?_, ?_, hob2⟩
 ·exact (hown.kept (grown_set _ ⟨w.heap.size + 1, 0, none⟩ _) hv2).kept (grown_set _ ⟨w.heap.size + 1, 1, none⟩ _) hv2
 ·exact (hlv.kept (grown_set _ ⟨w.heap.size + 1, 0, none⟩ _) hv1).kept (grown_set _ ⟨w.heap.size + 1, 1, none⟩ _) hv1
 ·exact (hG.set (p := ⟨w.heap.size + 1, 0, none⟩) _ (.inr (.inr (show w.heap.size ≤ w.heap.size + 1 by omega)))).set (p := ⟨w.heap.size + 1, 1, none⟩) _ (.inr (.inr (show w.heap.size ≤ w.heap.size + 1 by omega)))
theorem with_lost_bad (W : Int) (A : Option Addr) (cap : Nat) (w : World) :
  Calls Tryz.prog 166 #[.agg #[.int .i64 W, .slice A 0 cap], .iface 253 (.agg #[])] w fun e w' => e = BADv ∧ Below w.heap.size w w' := by
 have ha0 : ∀ w, (Instr.typeAssert (.iface 253 (.agg #[])) 219 251 true).run Tryz.prog w = .ok (.tuple #[.agg #[.int .i64 0], .bool false]) w := fun _ => by kernel_rfl
 have ha1 : ∀ w, (Instr.typeAssert (.iface 253 (.agg #[])) 219 252 true).run Tryz.prog w = .ok (.tuple #[.agg #[], .bool false]) w := fun _ => by kernel_rfl
 have ha2 : ∀ w, (Instr.typeAssert (.iface 253 (.agg #[])) 219 255 true).run Tryz.prog w = .ok (.tuple #[.agg #[.slice none 0 0], .bool false]) w := fun _ => by kernel_rfl
 have ha3 : ∀ w, (Instr.typeAssert (.iface 253 (.agg #[])) 219 253 true).run Tryz.prog w = .ok (.tuple #[.agg #[], .bool true]) w := fun _ => by kernel_rfl
 have hX := (Blk.new w 24 #[.int .i64 W, .slice A 0 cap]).alloc (.cells #[.int .i64 0, .slice none 0 0] 24)
 have hR := blk2_1 w (.cells #[.int .i64 W, .slice A 0 cap] 24) 24 #[.int .i64 0, .slice none 0 0]
 have hB : Below w.heap.size w ((w.alloc (.cells #[.int .i64 W, .slice A 0 cap] 24)).alloc (.cells #[.int .i64 0, .slice none 0 0] 24)) := ((Below.refl _ w).alloc (Nat.le_refl _) _).alloc (by simp only [World.size_alloc]; omega) _
 have hZ := Blk.new ((w.alloc (.cells #[.int .i64 W, .slice A 0 cap] 24)).alloc (.cells #[.int .i64 0, .slice none 0 0] 24)) 253 #[]
 simp only [World.size_alloc] at hZ
 replace hX := hX.alloc (.cells #[] 253); replace hB := hB.alloc hB.size (.cells #[] 253)
 have qX := fun i => hX.cell i; have qZ := fun i => hZ.cell i
 clear hR
 go_enter Tryz.func166, Tryz.ntmps166
 go_upto_region 13 with fail
 generalize (((w.alloc (.cells #[.int .i64 W, .slice A 0 cap] 24)).alloc (.cells #[.int .i64 0, .slice none 0 0] 24)).alloc (.cells #[] 253)) = W0 at *
 go_wp2_with (go_at_call 200; refine (addLine_bad W _ _ true _ _).mono ?_; rintro e w2 ⟨rfl, hb⟩; replace hB := hB.trans (hb.mono hB.size))
 exact ⟨rfl, Eq.symm (by assumption), hB⟩
end
section
open Go.RowKit Go.Lib
inductive TL where
 | book (n : Nat)
 | copy
 | line (ws : List Nat)
 | lost
 deriving DecidableEq
def numO (s : ByteArray) : Option Nat := (List.range 100).find? fun a => decide (s = dS a)
def numsO : List ByteArray → Option (List Nat)
 | [] => some []
 | x :: r => match numO x with
  | none => none
  | some a => (numsO r).map (a :: ·)
def tellO (w0 : ByteArray) (ns : List Nat) : Option TL :=
 if w0 = wBook then (match ns with | [n] => some (.book n) | _ => none)
 else if w0 = wCopy then (if ns = [] then some .copy else none)
 else if w0 = wLine then some (.line ns)
 else if w0 = wLost then (if ns = [] then some .lost else none)
 else none
def lineO (s : ByteArray) : Option TL := match cutB 32 s with | [] => none | w0 :: r => (numsO r).bind (tellO w0)
theorem numO_some {s : ByteArray} {a : Nat} (h : numO s = some a) : a < 100 ∧ s = dS a := by
 unfold numO at h
 exact ⟨by simpa using List.mem_of_find?_eq_some h, by simpa using List.find?_some h⟩
theorem numO_none {s : ByteArray} (h : numO s = none) : ∀ a, a < 100 → s ≠ dS a := fun a ha e => by
 unfold numO at h
 rw [List.find?_eq_none] at h
 exact h a (by simpa using ha) (by simpa using e)
theorem numsO_app : ∀ (r s : List ByteArray), numsO (r ++ s) = (numsO r).bind fun a => (numsO s).map (a ++ ·)
 | [], s => by simp [numsO]
 | x :: r, s => by
  rw [List.cons_append, numsO, numsO, numsO_app r s]
  cases numO x with
  | none => rfl
  | some a =>
   cases numsO r with
   | none => rfl
   | some b => cases numsO s <;> rfl
theorem numsO_len : ∀ (r : List ByteArray) (ns : List Nat), numsO r = some ns → ns.length = r.length ∧ ∀ a ∈ ns, a < 100
 | [], ns, h => by cases h; simp
 | x :: r, ns, h => by
  rw [numsO] at h
  cases hx : numO x with
  | none => rw [hx] at h; cases h
  | some a =>
   rw [hx] at h
   cases hr : numsO r with
   | none => rw [hr] at h; cases h
   | some b =>
    rw [hr] at h
    cases h
    obtain ⟨h1, h2⟩ := numsO_len r b hr
    exact ⟨by simp [h1], fun y hy => by
      rcases List.mem_cons.1 hy with rfl | hy
      · exact (numO_some hx).1
      · exact h2 y hy⟩
theorem numsO_none_take {r : List ByteArray} {k : Nat} (h : numsO (r.take k) = none) : numsO r = none := by
 rw [← List.take_append_drop k r, numsO_app, h]; rfl
def natsV (ws : List Nat) : List Value := ws.map fun a : Nat => .int .i64 (a : Int)
def TVal (w : World) (base : Nat) : TL → Value → Prop
 | .book n, v => v = .iface 251 (.agg #[.int .i64 n])
 | .copy, v => v = .iface 252 (.agg #[])
 | .line ws, v => ∃ u, v = .iface 255 (.agg #[u]) ∧ w.ownsRow base 3 1 u ws.length (natsV ws)
 | .lost, v => v = .iface 253 (.agg #[])
def PLPost (s : ByteArray) (w : World) (e : Ending) (w' : World) : Prop := Below w.heap.size w w' ∧ match lineO s with | some t => ∃ v, e = .returned v ∧ TVal w' w.heap.size t v | none => e = BADv
theorem ne_list {a b : ByteArray} (h : a ≠ b) : (a.toList == b.toList) = false := by
 rw [beq_eq_false_iff_ne, ByteArray.toList_eq, ByteArray.toList_eq]
 intro e
 exact h (ByteArray.ext (Array.toList_inj.1 e))
theorem parseLine_any (s : ByteArray) (m : Int) (w : World) (hs : s.size ≤ 1000) (hE : Env m w) :
  Calls Tryz.prog 165 #[.string s] w fun e w' => PLPost s w e w' := by
 obtain ⟨i3, hi, hz0, hz1', hz2'⟩ := info_parts info3
 have hsp := fun wx hx => Tryz.strings_Split s ⟨#[32]⟩ m wx (by omega) hx (by decide)
 obtain ⟨N, hN⟩ : ∃ N, N = countB s ⟨#[32]⟩ := ⟨_, rfl⟩
 have hcut : cutB 32 s = splitB ⟨#[32]⟩ 0 N s := by rw [hN]; rfl
 have hlen : (cutB 32 s).length = N + 1 := by rw [hN]; exact countB_split 32 s
 have hNle : N ≤ 1000 := by rw [hN]; exact Nat.le_trans (countB_le ⟨#[32]⟩ (Nat.le_refl 1) _ s (Nat.le_refl _)) hs
 simp only [← hN, ← hcut] at hsp
 obtain ⟨w0, r, hwr⟩ : ∃ w0 r, cutB 32 s = w0 :: r := by
  cases hc : cutB 32 s with
  | nil => rw [hc] at hlen; cases hlen
  | cons a b => exact ⟨a, b, rfl⟩
 have hrl : r.length = N := by rw [hwr] at hlen; simpa using hlen
 have hlo : lineO s = (numsO r).bind (tellO w0) := by unfold lineO; rw [hwr]
 rw [hwr] at hsp
 obtain ⟨arr, harr⟩ : ∃ arr, arr = ((w0 :: r).map Value.string).toArray := ⟨_, rfl⟩
 rw [← harr] at hsp
 have hbk : Blk (w.alloc (.cells arr 9)) w.heap.size 9 arr := Blk.new _ _ _
 have hBw : Below w.heap.size w (w.alloc (.cells arr 9)) := (Below.refl _ w).alloc (Nat.le_refl _) _
 have hq0 : arr[0]? = some (.string w0) := by rw [harr]; rfl
 have hqk : ∀ k (hk : k < r.length), arr[1 + k]? = some (.string r[k]) := fun k hk => by
  rw [harr, List.getElem?_toArray, Nat.add_comm, List.map_cons, List.getElem?_cons_succ, List.getElem?_map, List.getElem?_eq_getElem hk]; rfl
 obtain ⟨ca, hca⟩ : ∃ ca, ca = cutA (some ⟨w.heap.size, 0, none⟩) (N + 1) 1 1 := ⟨_, rfl⟩
 have hsl : ∀ wx : World, (Instr.slice 173 (.slice (some ⟨w.heap.size, 0, none⟩) (N + 1) (N + 1)) (some (.int .i64 1)) none none).run Tryz.prog wx = .ok (.slice ca N N) wx := fun wx => by
  have h := run_slice_lo (P := Tryz.prog) 173 9 1 Tryz.underlying173 (fun _ => by kernel_rfl) (some ⟨w.heap.size, 0, none⟩) (N + 1) (N + 1) .i64 1 (by omega) (by omega) wx
  rw [show N + 1 - 1 = N by omega, ← hca] at h
  exact h
 have hca2 : 0 < N → ca = some ⟨w.heap.size, 1, none⟩ := fun h => by rw [hca]; unfold cutA; rw [if_neg (by omega)]; rfl
 have hpost : ∀ (w' : World), Below w.heap.size w w' → lineO s = none → PLPost s w BADv w' := fun w' h1 h2 => ⟨h1, by rw [h2]⟩
 have hyes : ∀ (w' : World) t v, Below w.heap.size w w' → lineO s = some t → TVal w' w.heap.size t v → PLPost s w (.returned v) w' := fun w' t v h1 h2 h3 => ⟨h1, by rw [h2]; exact ⟨v, rfl, h3⟩⟩
 have HSP := Lib.hid (hsp w hE.1); have HQ0 := Lib.hid hq0; have HQK := Lib.hid hqk; have HCA := Lib.hid hca2; have HP := Lib.hid hpost; have HY := Lib.hid hyes; have HLO := Lib.hid hlo; have HRL := Lib.hid hrl
 clear hsp hq0 hqk hca2 hpost hyes hlo hrl hcut hN hlen hwr harr hca
 obtain ⟨PL, hPL⟩ : ∃ PL : Ending → World → Prop, PL = PLPost s w := ⟨_, rfl⟩
 have h0N : (0 : Int) < (N : Int) + 1 := by omega
 go_enter Tryz.func165, Tryz.ntmps165
 go_upto_region 2 with (go_at_call 164; refine HSP.out.mono ?_; rintro e w1 ⟨rfl, rfl⟩)
 generalize w.alloc (.cells arr 9) = W0 at *
 go_wp2_with fail
 go_loopg [4, 12] N (fun g v i wr => ∃ (k : Nat) (v0 : Value) (ns : List Nat), g = N - k ∧ k ≤ N ∧ v = v0 ∧ i = .int .i64 k ∧ wr.ownsRow W0.heap.size 3 1 v0 k (natsV ns) ∧ Hid (numsO (r.take k) = some ns) ∧ Below W0.heap.size W0 wr)
 case atStart => exact ⟨0, _, [], rfl, Nat.zero_le _, rfl, rfl, World.ownsRow_nil _ _ _ _, Lib.hid rfl, Below.refl _ _⟩
 case round =>
  obtain ⟨k, v0, ns, hg, hk, rfl, rfl, hown, hns, hB⟩ := hrel
  obtain ⟨va, vc, rfl⟩ := own_slice hown
  have HG := Lib.hid hg; clear hg
  rename World => W2
  have hbk2 := hbk.below hB hbk.lt
  have hB2 := hBw.trans (hB.mono hBw.size)
  by_cases hlt : k < N
  ·have hlti : (k : Int) < N := by omega
   have hzk : k < r.length := by rw [HRL.out]; exact hlt
   have hcell := (hbk2.cell (1 + k)).trans (HQK.out k hzk)
   have hcae := HCA.out (by omega)
   subst hcae
   have htk : r.take (k + 1) = r.take k ++ [r[k]] := List.take_succ_eq_append_getElem hzk
   have hno : numsO (r.take (k + 1)) = (numsO [r[k]]).map (ns ++ ·) := by rw [htk, numsO_app, hns.out]; rfl
   have hl2 := hbk2.lt
   generalize r[k] = x at *
   cases hx : numO x with
   | none =>
    have hpb := fun wx => pn_bad x wx (numO_none hx)
    have hnone : lineO s = none := by
     rw [HLO.out, numsO_none_take (r := r) (k := k + 1) (by rw [hno]; unfold numsO; rw [hx]; rfl)]; rfl
    have HPB := Lib.hid hpb; have HNO := Lib.hid hnone; clear hpb hnone hx hno htk
    go_wp2_with (go_at_call 199; refine (HPB.out _).mono ?_; rintro e w3 ⟨rfl, hb⟩; replace hB2 := hB2.trans (hb.mono hB2.size))
    exact ⟨rfl, by have h := HP.out _ hB2 HNO.out; rw [‹BADv = Ending.panicked _›] at h; exact h⟩
   | some a =>
    obtain ⟨ha, hxa⟩ := numO_some hx
    have hpa := fun wx => pn_any a ha wx
    rw [← hxa] at hpa
    have hno2 : numsO (r.take (k + 1)) = some (ns ++ [a]) := by rw [hno]; unfold numsO; rw [hx]; rfl
    have hap : natsV (ns ++ [a]) = natsV ns ++ [.int .i64 (a : Int)] := by unfold natsV; simp
    have HPA := Lib.hid hpa; have HNO := Lib.hid hno2; have HAP := Lib.hid hap; clear hpa hno2 hx hno htk hxa hap
    generalize natsV ns = ys at *
    go_wp2_with (first
      | (go_at_call 199; refine (HPA.out _).mono ?_; rintro e w3 ⟨rfl, hb⟩; replace hown := ownsRow_below' hown hb; replace hB := hB.trans (hb.mono hB.size); clear hb hcell)
      | (at_builtin; refine wpList_append_any _ rfl _ _ 25 rfl W0.heap.size 3 i3 (.int .i64 0) 1 8 Tryz.underlying25 hi hz0 hz1' hz2' rfl (by decide) (.slice va k vc) k ys rfl (hown.alloc _) (w3.heap.size + 1) (some ⟨w3.heap.size, 0, none⟩) 1 1 [.int .i64 (a : Int)] rfl (Rd.blkN (Blk.new w3 3 #[.int .i64 (a : Int)]) rfl (Nat.lt_succ_self _)).reads (by simp [Value.oneCell']) (by unfold maxLen; omega) (by omega) (by have := hB.size; simp only [World.size_alloc]; omega) (fun v' w' hown' hgrow hob => ?_)))
    have hB3 := (hB.alloc hB.size (.cells #[.int .i64 (a : Int)] 3)).grown hgrow (by have := hB.size; simp only [World.size_alloc]; omega) (fun g hg => ((hown.alloc (.cells #[.int .i64 (a : Int)] 3)).lt g hg).1)
    go_roundg (N - (k + 1))
    case measure => rw [HG.out]; omega
    case rel => exact ⟨k + 1, _, ns ++ [a], rfl, by omega, rfl, by go_num, by rw [HAP.out]; exact hown', HNO, hB3⟩
  ·obtain rfl : k = N := by omega
   have hge : ¬ (k : Int) < k := by omega
   have hnr : numsO r = some ns := by have h := hns.out; rwa [List.take_of_length_le (by rw [HRL.out]; exact Nat.le_refl _)] at h
   have hnl : ns.length = k := by rw [(numsO_len r ns hnr).1]; exact HRL.out
   have hlo : lineO s = tellO w0 ns := by rw [HLO.out, hnr]; rfl
   have hcell := (hbk2.cell 0).trans HQ0.out
   have hl2 := hbk2.lt
   have hown2 := own_mono hown hBw.size
   have hrd := Rd.of_own hown
   have HNR := Lib.hid hnr; have HNL := Lib.hid hnl; have HLO2 := Lib.hid hlo; have HRD := Lib.hid hrd; have HOW := Lib.hid hown2
   clear hnr hnl hlo hns hown hrd hown2
   have hbook := word_book; have hcopy := word_copy; have hline := word_line; have hlost := word_lost
   obtain ⟨s0, hs0⟩ : ∃ s0, s0 = wBook := ⟨_, rfl⟩
   obtain ⟨s1, hs1⟩ : ∃ s1, s1 = wCopy := ⟨_, rfl⟩
   obtain ⟨s2, hs2⟩ : ∃ s2, s2 = wLine := ⟨_, rfl⟩
   obtain ⟨s3, hs3⟩ : ∃ s3, s3 = wLost := ⟨_, rfl⟩
   rw [← hs0] at hbook; rw [← hs1] at hcopy; rw [← hs2] at hline; rw [← hs3] at hlost
   by_cases c0 : w0 = wBook
   ·have b0 : (w0.toList == s0.toList) = true := by rw [hs0, c0]; exact beq_self_eq_true _
    clear hs0 hs1 hs2 hs3
    by_cases hk1 : k = 1
    ·subst hk1
     obtain ⟨a, rfl⟩ : ∃ a, ns = [a] := by
      have := HNL.out
      match ns, this with
      | [a], _ => exact ⟨a, rfl⟩
     obtain ⟨b3, off3, hz3, e3, hb3, hc3⟩ := (show Rd W2 W2.heap.size 1 va 1 ([a].map fun a : Nat => Value.int .i64 (a : Int)) from HRD.out).atm (show 0 < 1 by omega)
     subst e3
     have hc3' : W2.cell? ⟨b3, off3, none⟩ = some (.int .i64 (a : Int)) := hc3
     have hY := HY.out W2 (.book a) (.iface 251 (.agg #[.int .i64 a])) hB2 (by rw [HLO2.out]; unfold tellO; rw [if_pos c0]) rfl
     have HYY := Lib.hid hY; clear hY hc3 hz3 c0
     go_wp2_with fail
     refine (hbook _).mono ?_; rintro e w3 ⟨rfl, rfl⟩
     go_wp2_with fail
     refine (insist_ok _).mono ?_; rintro e w3 ⟨rfl, rfl⟩
     go_wp2_with fail
     go_ret
     exact HYY.out
    ·have hk1' : ((k : Int) == 1) = false := by simp; omega
     have hP := HP.out W2 hB2 (by
       rw [HLO2.out]; unfold tellO; rw [if_pos c0]
       have := HNL.out
       match ns, this with
       | [], _ => rfl
       | [a], h => exact absurd h.symm hk1
       | _ :: _ :: _, _ => rfl)
     have HPP := Lib.hid hP; clear hP c0 hk1
     go_wp2_with fail
     refine (hbook _).mono ?_; rintro e w3 ⟨rfl, rfl⟩
     go_wp2_with fail
     refine (insist_bad _).mono ?_; rintro e w3 ⟨rfl, rfl⟩
     go_wp2_with fail
     exact ⟨rfl, by have h := HPP.out; rw [‹BADv = Ending.panicked _›] at h; exact h⟩
   ·by_cases c1 : w0 = wCopy
    ·have b0 : (w0.toList == s0.toList) = false := ne_list (by rw [hs0]; exact c0)
     have b1 : (w0.toList == s1.toList) = true := by rw [hs1, c1]; exact beq_self_eq_true _
     clear hs0 hs1 hs2 hs3
     by_cases hk0 : k = 0
     ·subst hk0
      have hn0 : ns = [] := List.eq_nil_of_length_eq_zero HNL.out
      have hY := HY.out W2 .copy (.iface 252 (.agg #[])) hB2 (by rw [HLO2.out]; unfold tellO; rw [if_neg c0]; rw [if_pos c1, if_pos hn0]) rfl
      have HYY := Lib.hid hY; clear hY hn0 c0 c1
      go_wp2_with fail
      refine (hbook _).mono ?_; rintro e w3 ⟨rfl, rfl⟩
      go_wp2_with fail
      refine (hcopy _).mono ?_; rintro e w3 ⟨rfl, rfl⟩
      go_wp2_with fail
      refine (insist_ok _).mono ?_; rintro e w3 ⟨rfl, rfl⟩
      go_wp2_with fail
      go_ret
      exact HYY.out
     ·have hk0' : ((k : Int) == 0) = false := by simp; omega
      have hn0 : ns ≠ [] := fun e => by have := HNL.out; rw [e] at this; exact hk0 this.symm
      have hP := HP.out W2 hB2 (by rw [HLO2.out]; unfold tellO; rw [if_neg c0]; rw [if_pos c1, if_neg hn0])
      have HPP := Lib.hid hP; clear hP hn0 hk0 c0 c1
      go_wp2_with fail
      refine (hbook _).mono ?_; rintro e w3 ⟨rfl, rfl⟩
      go_wp2_with fail
      refine (hcopy _).mono ?_; rintro e w3 ⟨rfl, rfl⟩
      go_wp2_with fail
      refine (insist_bad _).mono ?_; rintro e w3 ⟨rfl, rfl⟩
      go_wp2_with fail
      exact ⟨rfl, by have h := HPP.out; rw [‹BADv = Ending.panicked _›] at h; exact h⟩
    ·by_cases c2 : w0 = wLine
     ·have b0 : (w0.toList == s0.toList) = false := ne_list (by rw [hs0]; exact c0)
      have b1 : (w0.toList == s1.toList) = false := ne_list (by rw [hs1]; exact c1)
      have b2 : (w0.toList == s2.toList) = true := by rw [hs2, c2]; exact beq_self_eq_true _
      clear hs0 hs1 hs2 hs3
      have hown3 := HOW.out
      rw [← HNL.out] at hown3
      have hY := HY.out W2 (.line ns) (.iface 255 (.agg #[.slice va k vc])) hB2 (by rw [HLO2.out]; unfold tellO; rw [if_neg c0]; rw [if_neg c1]; rw [if_pos c2]) ⟨_, rfl, by rw [HNL.out]; exact HOW.out⟩
      have HYY := Lib.hid hY; clear hY hown3 c0 c1 c2
      go_wp2_with fail
      refine (hbook _).mono ?_; rintro e w3 ⟨rfl, rfl⟩
      go_wp2_with fail
      refine (hcopy _).mono ?_; rintro e w3 ⟨rfl, rfl⟩
      go_wp2_with fail
      refine (hline _).mono ?_; rintro e w3 ⟨rfl, rfl⟩
      go_wp2_with fail
      go_ret
      exact HYY.out
     ·by_cases c3 : w0 = wLost
      ·have b0 : (w0.toList == s0.toList) = false := ne_list (by rw [hs0]; exact c0)
       have b1 : (w0.toList == s1.toList) = false := ne_list (by rw [hs1]; exact c1)
       have b2 : (w0.toList == s2.toList) = false := ne_list (by rw [hs2]; exact c2)
       have b3 : (w0.toList == s3.toList) = true := by rw [hs3, c3]; exact beq_self_eq_true _
       clear hs0 hs1 hs2 hs3
       by_cases hk0 : k = 0
       ·subst hk0
        have hn0 : ns = [] := List.eq_nil_of_length_eq_zero HNL.out
        have hY := HY.out W2 .lost (.iface 253 (.agg #[])) hB2 (by rw [HLO2.out]; unfold tellO; rw [if_neg c0]; rw [if_neg c1]; rw [if_neg c2]; rw [if_pos c3, if_pos hn0]) rfl
        have HYY := Lib.hid hY; clear hY hn0 c0 c1 c2 c3
        go_wp2_with fail
        refine (hbook _).mono ?_; rintro e w3 ⟨rfl, rfl⟩
        go_wp2_with fail
        refine (hcopy _).mono ?_; rintro e w3 ⟨rfl, rfl⟩
        go_wp2_with fail
        refine (hline _).mono ?_; rintro e w3 ⟨rfl, rfl⟩
        go_wp2_with fail
        refine (hlost _).mono ?_; rintro e w3 ⟨rfl, rfl⟩
        go_wp2_with fail
        refine (insist_ok _).mono ?_; rintro e w3 ⟨rfl, rfl⟩
        go_wp2_with fail
        go_ret
        exact HYY.out
       ·have hk0' : ((k : Int) == 0) = false := by simp; omega
        have hn0 : ns ≠ [] := fun e => by have := HNL.out; rw [e] at this; exact hk0 this.symm
        have hP := HP.out W2 hB2 (by rw [HLO2.out]; unfold tellO; rw [if_neg c0]; rw [if_neg c1]; rw [if_neg c2]; rw [if_pos c3, if_neg hn0])
        have HPP := Lib.hid hP; clear hP hn0 hk0 c0 c1 c2 c3
        go_wp2_with fail
        refine (hbook _).mono ?_; rintro e w3 ⟨rfl, rfl⟩
        go_wp2_with fail
        refine (hcopy _).mono ?_; rintro e w3 ⟨rfl, rfl⟩
        go_wp2_with fail
        refine (hline _).mono ?_; rintro e w3 ⟨rfl, rfl⟩
        go_wp2_with fail
        refine (hlost _).mono ?_; rintro e w3 ⟨rfl, rfl⟩
        go_wp2_with fail
        refine (insist_bad _).mono ?_; rintro e w3 ⟨rfl, rfl⟩
        go_wp2_with fail
        exact ⟨rfl, by have h := HPP.out; rw [‹BADv = Ending.panicked _›] at h; exact h⟩
      ·have b0 : (w0.toList == s0.toList) = false := ne_list (by rw [hs0]; exact c0)
       have b1 : (w0.toList == s1.toList) = false := ne_list (by rw [hs1]; exact c1)
       have b2 : (w0.toList == s2.toList) = false := ne_list (by rw [hs2]; exact c2)
       have b3 : (w0.toList == s3.toList) = false := ne_list (by rw [hs3]; exact c3)
       clear hs0 hs1 hs2 hs3
       have hP := HP.out W2 hB2 (by rw [HLO2.out]; unfold tellO; rw [if_neg c0]; rw [if_neg c1]; rw [if_neg c2]; rw [if_neg c3])
       have HPP := Lib.hid hP; clear hP c0 c1 c2 c3
       go_wp2_with fail
       refine (hbook _).mono ?_; rintro e w3 ⟨rfl, rfl⟩
       go_wp2_with fail
       refine (hcopy _).mono ?_; rintro e w3 ⟨rfl, rfl⟩
       go_wp2_with fail
       refine (hline _).mono ?_; rintro e w3 ⟨rfl, rfl⟩
       go_wp2_with fail
       refine (hlost _).mono ?_; rintro e w3 ⟨rfl, rfl⟩
       go_wp2_with fail
       exact ⟨rfl, HPP.out⟩
end
section
open Go.RowKit Go.Lib
structure CL where
 lost : Bool
 u : Value
 ws : List Nat
def CL.cells (l : CL) : List Value := [.bool l.lost, l.u]
abbrev Cps := List (Value × List CL)
def CpsOk (w : World) (base : Nat) (v : Value) (cps : Cps) : Prop :=
 w.ownsRow base 77 1 v cps.length (cps.map Prod.fst) ∧
 (∀ c ∈ cps, w.ownsRow base 76 2 c.1 c.2.length (c.2.flatMap CL.cells) ∧ ∀ l ∈ c.2, w.ownsRow base 3 1 l.u l.ws.length (natsV l.ws)) ∧
 (∀ us c, cps = us ++ [c] → ∀ d ∈ us, d.1.ownBlock = none ∨ d.1.ownBlock ≠ c.1.ownBlock)
def content (cps : Cps) : List (List (Bool × List Nat)) := cps.map fun c => c.2.map fun l => (l.lost, l.ws)
theorem CpsOk.nil (w : World) (base : Nat) : CpsOk w base (.slice none 0 0) [] := ⟨World.ownsRow_nil _ _ _ _, (fun c h => by cases h), (fun us c h => absurd h (by simp))⟩
theorem CpsOk.of_gb {w w' : World} {base : Nat} {v : Value} {cps : Cps} (h : CpsOk w base v cps) (hb : Below w.heap.size w w') : CpsOk w' base v cps :=
 ⟨ownsRow_below' h.1 hb, fun c hc => ⟨ownsRow_below' (h.2.1 c hc).1 hb, fun l hl => ownsRow_below' ((h.2.1 c hc).2 l hl) hb⟩, h.2.2⟩
theorem CpsOk.set {w : World} {base : Nat} {v : Value} {cps : Cps} (h : CpsOk w base v cps) {a : Addr} (ha : a.block < base) (u : Value) : CpsOk (w.setCell a u) base v cps :=
 ⟨ownsRow_setCell_below h.1 ha u, fun c hc => ⟨ownsRow_setCell_below (h.2.1 c hc).1 ha u, fun l hl => ownsRow_setCell_below ((h.2.1 c hc).2 l hl) ha u⟩, h.2.2⟩
theorem CpsOk.mono {w : World} {base base' : Nat} {v : Value} {cps : Cps} (h : CpsOk w base v cps) (hb : base' ≤ base) : CpsOk w base' v cps :=
 ⟨own_mono h.1 hb, fun c hc => ⟨own_mono (h.2.1 c hc).1 hb, fun l hl => own_mono ((h.2.1 c hc).2 l hl) hb⟩, h.2.2⟩
theorem CpsOk.copy {w w' : World} {base : Nat} {v v' : Value} {cps : Cps} (h : CpsOk w base v cps) (ho : w'.ownsRow base 77 1 v' (cps.length + 1) (cps.map Prod.fst ++ [.slice none 0 0])) (hg : Gb2 v.ownBlock none w w') : CpsOk w' base v' (cps ++ [(.slice none 0 0, [])]) := by
 refine ⟨by simpa using ho, fun c hc => ?_, fun us c e d hd => ?_⟩
 ·rcases List.mem_append.1 hc with hc | hc
  ·obtain ⟨h1, h2⟩ := h.2.1 c hc
   exact ⟨hg.own h1 (own_ne h1 h.1 (by decide)) (by cases c.1.ownBlock <;> simp), fun l hl => hg.own (h2 l hl) (own_ne (h2 l hl) h.1 (by decide)) (by cases l.u.ownBlock <;> simp)⟩
  ·obtain rfl : c = (.slice none 0 0, []) := (by simpa using hc)
   exact ⟨World.ownsRow_nil _ _ _ _, fun l hl => by cases hl⟩
 ·obtain ⟨_, h2⟩ := List.append_inj' e rfl
  obtain rfl : (.slice none 0 0, []) = c := (by simpa using h2)
  cases d.1.ownBlock <;> simp [Value.ownBlock]
theorem CpsOk.line {w w' : World} {base : Nat} {v lv lv' : Value} {us : Cps} {ls : List CL} {l : CL} (h : CpsOk w base v (us ++ [(lv, ls)])) (hl : w.ownsRow base 3 1 l.u l.ws.length (natsV l.ws))
  (ho : w'.ownsRow base 77 1 v (us.length + 1) (us.map Prod.fst ++ [lv'])) (hv : w'.ownsRow base 76 2 lv' (ls.length + 1) (ls.flatMap CL.cells ++ l.cells)) (hg : Gb2 v.ownBlock lv.ownBlock w w') (hob : lv'.ownBlock = lv.ownBlock ∨ ∀ z, lv'.ownBlock = some z → w.heap.size ≤ z) :
  CpsOk w' base v (us ++ [(lv', ls ++ [l])]) := by
 have hlast := h.2.2 us (lv, ls) rfl
 obtain ⟨hv0, hl0⟩ := h.2.1 (lv, ls) (by simp)
 refine ⟨by simpa using ho, fun c hc => ?_, fun us2 c e d hd => ?_⟩
 ·rcases List.mem_append.1 hc with hc | hc
  ·obtain ⟨h1, h2⟩ := h.2.1 c (List.mem_append_left _ hc)
   exact ⟨hg.own h1 (own_ne h1 h.1 (by decide)) (hlast c hc), fun x hx => hg.own (h2 x hx) (own_ne (h2 x hx) h.1 (by decide)) (own_ne (h2 x hx) hv0 (by decide))⟩
  ·obtain rfl : c = (lv', ls ++ [l]) := (by simpa using hc)
   refine ⟨by simpa using hv, fun x hx => ?_⟩
   rcases List.mem_append.1 hx with hx | hx
   ·exact hg.own (hl0 x hx) (own_ne (hl0 x hx) h.1 (by decide)) (own_ne (hl0 x hx) hv0 (by decide))
   ·obtain rfl : x = l := (by simpa using hx)
    exact hg.own hl (own_ne hl h.1 (by decide)) (own_ne hl hv0 (by decide))
 ·obtain ⟨h1, h2⟩ := List.append_inj' e rfl
  subst h1
  obtain rfl : (lv', ls ++ [l]) = c := (by simpa using h2)
  cases hd2 : d.1.ownBlock with
  | none => exact .inl rfl
  | some z =>
   refine .inr (fun e2 => ?_)
   have e3 : some z = lv'.ownBlock := e2
   rcases hob with h4 | h4
   ·rcases hlast d hd with h3 | h3
    ·rw [hd2] at h3; cases h3
    ·exact h3 (by rw [hd2, e3, h4])
   ·have h5 := ((h.2.1 d (List.mem_append_left _ hd)).1.lt z hd2).2
    have h6 := h4 z e3.symm
    omega
end
section
open Go.RowKit Go.Lib
abbrev BkT := Nat × List (List (Bool × List Nat))
def addL {α : Type} : List (List α) → α → List (List α)
 | [], _ => []
 | [c], l => [c ++ [l]]
 | c :: d :: cs, l => c :: addL (d :: cs) l
theorem addL_snoc {α : Type} (l : α) (c : List α) : ∀ us : List (List α), addL (us ++ [c]) l = us ++ [c ++ [l]]
 | [] => rfl
 | [x] => rfl
 | x :: y :: us => by
  show addL (x :: y :: (us ++ [c])) l = _
  rw [addL]
  have := addL_snoc l c (y :: us)
  rw [List.cons_append] at this
  rw [this]; rfl
def stepO (i : Nat) (b : BkT) : TL → Option BkT
 | .book n => if i = 0 then some (n, b.2) else none
 | .copy => if i = 0 then none else some (b.1, b.2 ++ [[]])
 | .line ws => if i = 0 then none else if b.2 = [] then none else some (b.1, addL b.2 (false, ws))
 | .lost => if i = 0 then none else if b.2 = [] then none else some (b.1, addL b.2 (true, []))
def foldO : Nat → BkT → List ByteArray → Option BkT
 | _, b, [] => some b
 | i, b, x :: r => (lineO x).bind fun t => (stepO i b t).bind fun b' => foldO (i + 1) b' r
def trimB (s : ByteArray) : ByteArray := ⟨(trimSuffix s.data.toList [10]).toArray⟩
def parseO (s : ByteArray) : Option BkT :=
 if hasSuffix s.data.toList [10] = true then
  if 2 ≤ (cutB 10 (trimB s)).length then
   (foldO 0 (0, []) (cutB 10 (trimB s)).dropLast).bind fun b => if (cutB 10 (trimB s)).getLast? = some (endB (sB (cutB 10 (trimB s)).dropLast)) then some b else none
  else none
 else none
def NONEv : Ending := .returned (.tuple #[.agg #[.int .i64 0, .slice none 0 0], .int .i64 4])
def PPost (s : ByteArray) (w : World) (e : Ending) (w' : World) : Prop := Below w.heap.size w w' ∧ match parseO s with
 | some b => ∃ v cps, e = .returned (.tuple #[.agg #[.int .i64 (b.1 : Int), v], .int .i64 0]) ∧ CpsOk w' w.heap.size v cps ∧ content cps = b.2 ∧ cps.length ≤ 1000 ∧ ∀ c ∈ cps, c.2.length ≤ 1000 ∧ ∀ l ∈ c.2, l.ws.length ≤ 1000 ∧ ∀ a ∈ l.ws, a < 100
 | none => e = NONEv
theorem cutB_size (c : UInt8) (s : ByteArray) : (cutB c s).length ≤ s.size + 1 ∧ ∀ x ∈ cutB c s, x.size ≤ s.size := by
 have h := cut_size c s.data.toList
 rw [← cutB_data] at h
 refine ⟨by have := h.1; rw [List.length_map, size_list] at this; exact this, fun x hx => ?_⟩
 have := h.2 _ (List.mem_map_of_mem hx)
 rw [size_list, size_list] at this
 exact this
theorem lineO_small {x : ByteArray} {ws : List Nat} (h : lineO x = some (.line ws)) : ws.length ≤ x.size ∧ ∀ a ∈ ws, a < 100 := by
 unfold lineO at h
 cases hc : cutB 32 x with
 | nil => rw [hc] at h; cases h
 | cons w0 r =>
  rw [hc] at h
  simp only at h
  cases hn : numsO r with
  | none => rw [hn] at h; cases h
  | some ns =>
   rw [hn] at h
   obtain ⟨h1, h2⟩ := numsO_len r ns hn
   have h3 := (cutB_size 32 x).1
   rw [hc, List.length_cons] at h3
   have h4 : tellO w0 ns = some (.line ws) := h
   have h5 : ns = ws := by
    unfold tellO at h4
    split at h4
    ·split at h4 <;> cases h4
    ·split at h4
     ·split at h4 <;> cases h4
     ·split at h4
      ·cases h4; rfl
      ·split at h4
       ·split at h4 <;> cases h4
       ·cases h4
   subst h5
   exact ⟨by omega, h2⟩
theorem parseIdle (b0 b1 : Nat) (w : World) :
  CallsD Tryz.prog 161 #[.pointer (some ⟨b0, 0, none⟩), .pointer (some ⟨b1, 0, none⟩)] .returning w fun e u' w' => e = .returned (.tuple #[]) ∧ u' = .returning ∧ w' = w := by
 refine callsD_of_wpS Tryz.func161 rfl fun c₀ cs hu => ?_
 simp only [Tryz.ntmps161, List.size_toArray, List.length_cons, List.length_nil, Nat.reduceAdd, Nat.reduceSub, Array.replicate_succ, Array.replicate_zero, List.push_toArray, List.append_toArray, List.nil_append, List.cons_append]
 apply wpS_seq
 apply wpS_region
 simp [wpOpsS, go_sem, recoverD, hu, Tryz.ntmps161, Exit.thenS]
 refine wpS_of_wp ?_
 go_wp2
 cases c₀
 simp_all [bodyPostS, results, Tryz.results161]
theorem parseCatch (b0 b1 : Nat) (z0 z1 y : Value) (older : List PanicEntry) (w : World) (g0 : Blk w b0 24 #[z0, z1]) (g1 : Blk w b1 28 #[y]) (hne : b0 ≠ b1) :
  CallsD Tryz.prog 161 #[.pointer (some ⟨b0, 0, none⟩), .pointer (some ⟨b1, 0, none⟩)] (.panicking ({ v := .iface 223 (.agg #[]), recovered := false } :: older)) w fun e u' w' => e = .returned (.tuple #[]) ∧ u' = .panicking ({ v := .iface 223 (.agg #[]), recovered := true } :: older) ∧
   Blk w' b0 24 #[.int .i64 0, .slice none 0 0] ∧ Blk w' b1 28 #[.int .i64 4] ∧ ∀ (B : Nat) (v : World), Below B v w → B ≤ b0 → B ≤ b1 → Below B v w' := by
 have hta : ∀ w : World, (Instr.typeAssert (.iface 223 (.agg #[])) 20 223 true).run Tryz.prog w = .ok (.tuple #[.agg #[], .bool true]) w := fun _ => by kernel_rfl
 refine callsD_of_wpS Tryz.func161 rfl fun c₀ cs hu => ?_
 simp only [Tryz.ntmps161, List.size_toArray, List.length_cons, List.length_nil, Nat.reduceAdd, Nat.reduceSub, Array.replicate_succ, Array.replicate_zero, List.push_toArray, List.append_toArray, List.nil_append, List.cons_append]
 apply wpS_seq
 apply wpS_region
 simp [wpOpsS, go_sem, recoverD, hu, Tryz.ntmps161, Exit.thenS]
 refine wpS_of_wp ?_
 have HB0 := Lib.hid g0.lt
 replace g0 := g0.alloc (.cells #[] 223); replace g1 := g1.alloc (.cells #[] 223)
 have q0 := fun i => g0.cell i; have f0 := fun i => g0.frozen i; have l0 := g0.lt
 have q1 := fun i => g1.cell i; have f1 := fun i => g1.frozen i; have l1 := g1.lt
 go_wp2
 clear q0 f0 l0 q1 f1 l1
 have G0 := ((g0.set_ 0 (.int .i64 0)).set_ 1 (.slice none 0 0)).far (p := ⟨b1, 0, none⟩) hne (.int .i64 4)
 have G1 := ((g1.far (p := ⟨b0, 0, none⟩) (Ne.symm hne) (.int .i64 0)).far (p := ⟨b0, 1, none⟩) (Ne.symm hne) (.slice none 0 0)).set_ 0 (.int .i64 4)
 have HB : ∀ (B : Nat) (v : World), Below B v w → B ≤ b0 → B ≤ b1 → Below B v ((((w.alloc (.cells #[] 223)).setCell ⟨b0, 0, none⟩ (.int .i64 0)).setCell ⟨b0, 1, none⟩ (.slice none 0 0)).setCell ⟨b1, 0, none⟩ (.int .i64 4)) := fun B v h h0 h1 =>
  (((h.alloc (Nat.le_of_lt (Nat.lt_of_le_of_lt h0 HB0.out)) _).setCell (p := ⟨b0, 0, none⟩) h0 _).setCell (p := ⟨b0, 1, none⟩) h0 _).setCell (p := ⟨b1, 0, none⟩) h1 _
 replace G0 : Blk ((((w.alloc (.cells #[] 223)).setCell ⟨b0, 0, none⟩ (.int .i64 0)).setCell ⟨b0, 1, none⟩ (.slice none 0 0)).setCell ⟨b1, 0, none⟩ (.int .i64 4)) b0 24 #[.int .i64 0, .slice none 0 0] := by simpa using G0
 replace G1 : Blk ((((w.alloc (.cells #[] 223)).setCell ⟨b0, 0, none⟩ (.int .i64 0)).setCell ⟨b0, 1, none⟩ (.slice none 0 0)).setCell ⟨b1, 0, none⟩ (.int .i64 4)) b1 28 #[.int .i64 4] := by simpa using G1
 generalize (((w.alloc (.cells #[] 223)).setCell ⟨b0, 0, none⟩ (.int .i64 0)).setCell ⟨b0, 1, none⟩ (.slice none 0 0)).setCell ⟨b1, 0, none⟩ (.int .i64 4) = W9 at *
 cases c₀
 simp_all [bodyPostS, results, Tryz.results161]
def PanR (w0 w : World) : Prop := (∃ z0 z1 : Value, Blk w w0.heap.size 24 #[z0, z1]) ∧ (∃ y : Value, Blk w (w0.heap.size + 1) 28 #[y]) ∧ Below w0.heap.size w0 w
def BADc : List PanicEntry := [{ v := .iface 223 (.agg #[]), recovered := false }]
def PanA (a0 : Act) (w0 : World) (ch : List PanicEntry) (a : Act) (w : World) : Prop := ch = BADc ∧ a.tmps[2]? = a0.tmps[2]? ∧ a.tmps[3]? = a0.tmps[3]? ∧ a.defers = a0.defers ∧ PanR w0 w
theorem PanA.put {a0 : Act} {w0 : World} {ch : List PanicEntry} {a : Act} {w : World} {d : Nat} {v : Value} (hd : 4 ≤ d) (h : PanA a0 w0 ch (a.put (some d) v) w) : PanA a0 w0 ch a w := by
 obtain ⟨h1, h2, h3, h4, h5⟩ := h
 refine ⟨h1, ?_, ?_, h4, h5⟩
 ·rw [← h2]
  show _ = (a.tmps.setIfInBounds d v)[2]?
  rw [Array.getElem?_setIfInBounds_ne (by omega)]
 ·rw [← h3]
  show _ = (a.tmps.setIfInBounds d v)[3]?
  rw [Array.getElem?_setIfInBounds_ne (by omega)]
theorem wp_panicD {P : Program} {c : Code} {Q : Exit → Act → World → Prop} {a : Act} {w : World} (w0 : World) (hq : ∀ (a' : Act) (w' : World), PanA a w0 BADc a' w' → Q (.panic BADc) a' w')
  (h : c.wp P (fun ex a' w' => match ex with | .panic ch => PanA a w0 ch a' w' | ex => Q ex a' w') a w) : c.wp P Q a w := by
 refine Code.wp_mono (fun e a' w' hx => ?_) h
 cases e <;> first | exact hx | (obtain ⟨rfl, h2⟩ := hx; exact hq a' w' ⟨rfl, h2⟩)
theorem parse_leaves (s : ByteArray) (w0 w : World) (tm : Array Value) (h2 : tm[2]? = some (.pointer (some ⟨w0.heap.size, 0, none⟩))) (h3 : tm[3]? = some (.pointer (some ⟨w0.heap.size + 1, 0, none⟩))) (hR : PanR w0 w) (hn : parseO s = none) :
  bodyPostD Tryz.prog Tryz.f120 (fun e w' => PPost s w0 e w') (Exit.panic BADc) { tmps := tm, defers := [{ target := Target.fn (.func 161) #[.pointer (some ⟨w0.heap.size, 0, none⟩), .pointer (some ⟨w0.heap.size + 1, 0, none⟩)], args := #[] }] } w := by
 obtain ⟨⟨z0, z1, gT⟩, ⟨y, gE⟩, hB2⟩ := hR
 refine leaves_cons (f := 161) (args := #[.pointer (some ⟨w0.heap.size, 0, none⟩), .pointer (some ⟨w0.heap.size + 1, 0, none⟩)]) (by simp) (by simp [go_sem]) ?_
 refine (parseCatch _ _ _ _ _ [] _ gT gE (by omega)).mono ?_
 rintro e u' w9 ⟨rfl, rfl, g0, g1, hB⟩
 have q0 := fun i => g0.cell i; have q1 := fun i => g1.cell i
 have hB9 := hB _ _ hB2 (Nat.le_refl _) (by omega)
 have hp : PPost s w0 NONEv w9 := ⟨hB9, by rw [hn]⟩
 simp [Leaves, settle, results, Tryz.results120, go_sem, q0, q1, h2, h3]
 exact hp
theorem parse_b1 (s : ByteArray) (w : World) (hs : s.size ≤ 1000) (hend : hasSuffix s.data.toList [10] = false) : Calls Tryz.prog 120 #[.string s] w fun e w' => PPost s w e w' := by
 have hmf : ∀ (fn : Fn) (first cap : Array Value) (w : World), (Instr.makeFunc fn first cap).run Tryz.prog w = .ok (.func fn first cap) w := fun _ _ _ _ => rfl
 have hno : parseO s = none := by unfold parseO; rw [if_neg (by rw [hend]; decide)]
 have hB2 : Below w.heap.size w ((w.alloc (.cells #[.int .i64 0, .slice none 0 0] 24)).alloc (.cells #[.int .i64 0] 28)) := ((Below.refl _ w).alloc (Nat.le_refl _) _).alloc (by simp only [World.size_alloc]; omega) _
 have gT : Blk ((w.alloc (.cells #[.int .i64 0, .slice none 0 0] 24)).alloc (.cells #[.int .i64 0] 28)) w.heap.size 24 #[.int .i64 0, .slice none 0 0] := (Blk.new w 24 #[.int .i64 0, .slice none 0 0]).alloc _
 have gE : Blk ((w.alloc (.cells #[.int .i64 0, .slice none 0 0] 24)).alloc (.cells #[.int .i64 0] 28)) (w.heap.size + 1) 28 #[.int .i64 0] := blk2 w _ 28 #[.int .i64 0]
 have HNO := Lib.hid hno; clear hno
 go_enter_defers Tryz.func120, Tryz.ntmps120
 go_wp2_with (first
   | (go_at_call 162; refine (Tryz.strings_CutSuffix s ⟨#[10]⟩ _ (by omega)).mono ?_; rintro e w1 ⟨rfl, rfl⟩; rw [hend])
   | (go_at_call 163; refine (insist_bad _).mono ?_; rintro e w5 ⟨rfl, rfl⟩))
 rename_i chain heq
 unfold BADv at heq
 cases heq
 exact parse_leaves s w _ _ rfl rfl ⟨⟨_, _, gT⟩, ⟨_, gE⟩, hB2⟩ HNO.out
end
section
open Go.RowKit Go.Lib
theorem parse_b2 (s : ByteArray) (m : Int) (w : World) (hE : Env m w) (hs : s.size ≤ 400) (hend : hasSuffix s.data.toList [10] = true) (hz : (cutB 10 (trimB s)).length = 1) : Calls Tryz.prog 120 #[.string s] w fun e w' => PPost s w e w' := by
 have hmf : ∀ (fn : Fn) (first cap : Array Value) (w : World), (Instr.makeFunc fn first cap).run Tryz.prog w = .ok (.func fn first cap) w := fun _ _ _ _ => rfl
 have htr := trim_end s hend
 have htz : (trimB s).size ≤ 400 := by
  have h := congrArg ByteArray.size htr
  rw [size_app] at h
  have e : ByteArray.size ⟨#[10]⟩ = 1 := rfl
  rw [e] at h
  show ByteArray.size ⟨(trimSuffix s.data.toList [10]).toArray⟩ ≤ 400
  omega
 have htrim : (⟨(trimSuffix s.data.toList [10]).toArray⟩ : ByteArray) = trimB s := rfl
 obtain ⟨T, hT⟩ : ∃ T, T = trimB s := ⟨_, rfl⟩
 obtain ⟨hc1, hc2⟩ := cutB_size 10 T
 have hpo : parseO s = if 2 ≤ (cutB 10 T).length then (foldO 0 (0, []) (cutB 10 T).dropLast).bind fun b => if (cutB 10 T).getLast? = some (endB (sB (cutB 10 T).dropLast)) then some b else none else none := by
  rw [hT]; unfold parseO; rw [if_pos hend]
 rw [← hT] at htz htrim
 have hcs := fun wx => Tryz.strings_CutSuffix s ⟨#[10]⟩ wx (by omega)
 have hsb : ((⟨#[10]⟩ : ByteArray).data.toList) = [10] := rfl
 simp only [hsb, hend, htrim] at hcs
 have hsp := fun wx hx => Tryz.strings_Split T ⟨#[10]⟩ m wx (by omega) hx (by decide)
 obtain ⟨N, hN⟩ : ∃ N, N = countB T ⟨#[10]⟩ := ⟨_, rfl⟩
 have hcut : cutB 10 T = splitB ⟨#[10]⟩ 0 N T := by rw [hN]; rfl
 have hlen : (cutB 10 T).length = N + 1 := by rw [hN]; exact countB_split 10 T
 simp only [← hN, ← hcut] at hsp
 obtain ⟨arr, harr⟩ : ∃ arr, arr = ((cutB 10 T).map Value.string).toArray := ⟨_, rfl⟩
 rw [← harr] at hsp
 have hN4 : N ≤ 400 := by omega
 have hB0 : Below w.heap.size w ((w.alloc (.cells #[.int .i64 0, .slice none 0 0] 24)).alloc (.cells #[.int .i64 0] 28)) := ((Below.refl _ w).alloc (Nat.le_refl _) _).alloc (by simp only [World.size_alloc]; omega) _
 have hB : Below w.heap.size w (((w.alloc (.cells #[.int .i64 0, .slice none 0 0] 24)).alloc (.cells #[.int .i64 0] 28)).alloc (.cells arr 9)) := hB0.alloc hB0.size _
 have gT : Blk (((w.alloc (.cells #[.int .i64 0, .slice none 0 0] 24)).alloc (.cells #[.int .i64 0] 28)).alloc (.cells arr 9)) w.heap.size 24 #[.int .i64 0, .slice none 0 0] := ((Blk.new w 24 #[.int .i64 0, .slice none 0 0]).alloc _).alloc _
 have gE : Blk (((w.alloc (.cells #[.int .i64 0, .slice none 0 0] 24)).alloc (.cells #[.int .i64 0] 28)).alloc (.cells arr 9)) (w.heap.size + 1) 28 #[.int .i64 0] := (blk2 w _ 28 #[.int .i64 0]).alloc _
 have gL : Blk (((w.alloc (.cells #[.int .i64 0, .slice none 0 0] 24)).alloc (.cells #[.int .i64 0] 28)).alloc (.cells arr 9)) (w.heap.size + 1 + 1) 9 arr := by have h := Blk.new ((w.alloc (.cells #[.int .i64 0, .slice none 0 0] 24)).alloc (.cells #[.int .i64 0] 28)) 9 arr; simpa only [World.size_alloc] using h
 have hL2 := hsp _ (hE.below hB0).1
 simp only [World.size_alloc] at hL2
 clear hsp
 have hN0 : N = 0 := by rw [← hT] at hz; omega
 have hno : parseO s = none := by rw [hpo, hlen, hN0]; rfl
 have HNO := Lib.hid hno; have HCS := Lib.hid hcs; have HL2 := Lib.hid hL2
 clear hno hcs hL2 hpo hlen hcut harr hN hT htrim htr htz hc1 hc2 hz hend hs hsb
 subst hN0
 go_enter_defers Tryz.func120, Tryz.ntmps120
 go_wp2_with fail
 refine (HCS.out _).mono ?_; rintro e w1 ⟨rfl, rfl⟩
 go_wp2_with fail
 refine (insist_ok _).mono ?_; rintro e w1 ⟨rfl, rfl⟩
 go_wp2_with fail
 refine HL2.out.mono ?_; rintro e w1 ⟨rfl, rfl⟩
 go_wp2_with fail
 refine (insist_bad _).mono ?_; rintro e w1 ⟨rfl, rfl⟩
 go_wp2_with fail
 rename_i chain heq
 unfold BADv at heq
 cases heq
 exact parse_leaves s w _ _ rfl rfl ⟨⟨_, _, gT⟩, ⟨_, gE⟩, hB⟩ HNO.out
end
end Go.Proofs.YtekmnelpkogppaaGreatDoor
