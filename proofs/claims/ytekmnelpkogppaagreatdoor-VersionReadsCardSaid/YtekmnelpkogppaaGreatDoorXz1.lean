import Derived.Test.YtekmnelpkogppaaGreatDoorXz0
set_option linter.unusedVariables false
set_option linter.unusedSimpArgs false
set_option maxRecDepth 100000
set_option maxHeartbeats 40000000
namespace Go.Proofs.YtekmnelpkogppaaGreatDoor
section
open Go.RowKit Go.Lib Go.Maps
theorem BkI.nil (w : World) : BkI w none 0 0 [] := ⟨Nat.le_refl _, Nat.zero_le _, ⟨rfl, fun h => absurd h (Nat.lt_irrefl _)⟩, fun c hc => (by cases hc)⟩
theorem sameNil (w : World) : Calls Tryz.prog 77 #[.agg #[.int .i64 0, .slice none 0 0], .agg #[.int .i64 0, .slice none 0 0]] w fun e w' => e = .returned (.bool true) ∧ Below w.heap.size w w' :=
 sameBooks_any 0 none 0 0 [] none 0 [] w (BkI.nil w) (BkI.nil w) rfl (fun c hc => by cases hc) (fun c hc => by cases hc) (by omega)
theorem read78 (s : ByteArray) (w : World) (hs : s.size ≤ 500) : Calls Tryz.prog 78 #[.string s] w fun e w' => ((∃ b A cap n cs, parseO s = some b ∧ e = .returned (.tuple #[.agg #[.int .i64 (b.1 : Int), .slice A n cap], .bool true]) ∧ BkI w' A n cap cs ∧ plain cs = toI b.2 ∧ (∀ c ∈ cs, c.ls.length ≤ 1000 ∧ ∀ l ∈ c.ls, l.ws.length ≤ 1000) ∧ n ≤ 1000 ∧ b.1 < 100) ∨ (parseO s = none ∧ e = .returned (.tuple #[.agg #[.int .i64 0, .slice none 0 0], .bool false]))) ∧ Below w.heap.size w w' := by
 refine (refRead_any s w hs).mono ?_
 rintro e w' ⟨hb, hp⟩
 refine ⟨?_, hb⟩
 rw [read_parse] at hp
 cases hq : parseO s with
 | none => rw [hq] at hp; exact .inr ⟨rfl, hp⟩
 | some b =>
  rw [hq] at hp
  obtain ⟨v, cps, rfl, hc, hcon, hbd⟩ := hp
  obtain ⟨A, cap, rfl⟩ := own_slice hc.1
  obtain ⟨g1, g2, g3, g4⟩ := read_opened hc rfl
  refine .inl ⟨b, A, cap, cps.length, cps.map cVC, rfl, rfl, ⟨g1, g2, g3, g4⟩, by rw [plain_of, hcon], fun c hc => ?_, hbd.1.1, hbd.2.1⟩
  obtain ⟨d, hd, rfl⟩ := List.mem_map.1 hc
  obtain ⟨e1, e2⟩ := hbd.1.2 d hd
  refine ⟨by show (d.2.map clVL).length ≤ 1000; rw [List.length_map]; exact e1, fun l hl => ?_⟩
  obtain ⟨l1, hl1, rfl⟩ := List.mem_map.1 hl
  show (l1.ws.map fun a : Nat => (a : Int)).length ≤ 1000
  rw [List.length_map]; exact (e2 l1 hl1).1
theorem plain_size {cs cs2 : List VC} (h : plain cs = plain cs2) {N : Nat} (h2 : ∀ c ∈ cs2, ∀ l ∈ c.ls, l.ws.length ≤ N) : ∀ c ∈ cs, ∀ l ∈ c.ls, l.ws.length ≤ N := fun c hc l hl => by
 have h3 : (c.ls.map fun l => (l.lost, l.ws)) ∈ plain cs := List.mem_map_of_mem (f := fun c : VC => c.ls.map fun l => (l.lost, l.ws)) hc
 rw [h] at h3
 obtain ⟨d, hd, e⟩ := List.mem_map.1 h3
 have h4 : (l.lost, l.ws) ∈ c.ls.map fun l => (l.lost, l.ws) := List.mem_map_of_mem (f := fun l : VL => (l.lost, l.ws)) hl
 rw [← e] at h4
 obtain ⟨l2, hl2, e2⟩ := List.mem_map.1 h4
 have e3 : l2.ws = l.ws := congrArg Prod.snd e2
 rw [← e3]; exact h2 d hd l2 hl2
theorem plain_size2 {cs cs2 : List VC} (h : plain cs = plain cs2) {N : Nat} (h2 : ∀ c ∈ cs2, c.ls.length ≤ N) : ∀ c ∈ cs, c.ls.length ≤ N := fun c hc => by
 have h3 : (c.ls.map fun l => (l.lost, l.ws)) ∈ plain cs := List.mem_map_of_mem (f := fun c : VC => c.ls.map fun l => (l.lost, l.ws)) hc
 rw [h] at h3
 obtain ⟨d, hd, e⟩ := List.mem_map.1 h3
 have e2 := congrArg List.length e
 rw [List.length_map, List.length_map] at e2
 rw [← e2]; exact h2 d hd
theorem reads_law (s : ByteArray) (m : Int) (w : World) (hE : Env m w) :
  Calls Tryz.prog 21 #[.string s] w fun e w' => e = .returned (.bool true) ∧ Below w.heap.size w w' := by
 have hB : Below w.heap.size w w := Below.refl _ w
 go_enter Tryz.func21, Tryz.ntmps21
 by_cases h5 : (500 : Int) < s.size
 ·skip
  go_wp2_with fail
  refine (known_true m _ (hE.below hB)).mono ?_; rintro e wc ⟨rfl, hb⟩
  replace hB := hB.trans (hb.mono hB.size); clear hb
  go_wp2_with fail
  go_ret
  exact ⟨rfl, hB⟩
 ·skip
  have h500 : s.size ≤ 500 := by omega
  have hrd := fun wx : World => read78 s wx h500
  have HRD := Lib.hid hrd; clear hrd h500
  by_cases h4 : (400 : Int) < s.size
  ·skip
   have hlong := fun wx : World => Read_long s wx (by omega)
   have HL := Lib.hid hlong; clear hlong
   go_wp2_with fail
   refine (HL.out _).mono ?_; rintro e wc ⟨rfl, hb⟩
   replace hB := hB.trans (hb.mono hB.size); 
   clear hb
   unfold LONGv
   have hS0 := Blk.new wc 24 #[.int .i64 0, .slice none 0 0]; have q24 := fun i => hS0.cell i; have f24 := fun i => hS0.frozen i; have l24 := hS0.lt
   go_upto_region 4 with fail
   have hSa := Blk.new wc 24 #[.int .i64 0, .slice none 0 0]
   have hKeep : Below wc.heap.size wc (wc.alloc (.cells #[.int .i64 0, .slice none 0 0] 24)) := (Below.refl _ wc).alloc (Nat.le_refl _) _
   replace hB := hB.trans (hKeep.mono hB.size); 
   clear hKeep hS0 q24 f24 l24
   generalize wc.alloc (.cells #[.int .i64 0, .slice none 0 0] 24) = WhSa at *
   generalize wc.heap.size = zhSa at hSa ⊢
   go_wp2_with fail
   refine (HRD.out _).mono ?_; rintro e wc ⟨hans, hb⟩
   replace hB := hB.trans (hb.mono hB.size); replace hSa := hSa.below hb hSa.lt
   clear hb
   rcases hans with ⟨b, A2, c2, n2, cs2, _, rfl, _⟩ | ⟨_, rfl⟩
   ·skip
    have hS0 := Blk.new wc 24 #[.int .i64 0, .slice none 0 0]; have q24 := fun i => hS0.cell i; have f24 := fun i => hS0.frozen i; have l24 := hS0.lt
    go_upto_region 5 with fail
    have hSb := Blk.new wc 24 #[.int .i64 (b.1 : Int), .slice A2 n2 c2]
    have hKeep : Below wc.heap.size wc (wc.alloc (.cells #[.int .i64 (b.1 : Int), .slice A2 n2 c2] 24)) := (Below.refl _ wc).alloc (Nat.le_refl _) _
    replace hB := hB.trans (hKeep.mono hB.size); replace hSa := hSa.below hKeep hSa.lt
    clear hKeep hS0 q24 f24 l24
    generalize wc.alloc (.cells #[.int .i64 (b.1 : Int), .slice A2 n2 c2] 24) = WhSb at *
    generalize wc.heap.size = zhSb at hSb ⊢
    have qSa := fun i => hSa.cell i
    go_wp2_with fail
    refine (sameNil _).mono ?_; rintro e wc ⟨rfl, hb⟩
    replace hB := hB.trans (hb.mono hB.size); replace hSa := hSa.below hb hSa.lt; replace hSb := hSb.below hb hSb.lt
    clear hb
    go_wp2_with fail
    refine (known_true m _ (hE.below hB)).mono ?_; rintro e wc ⟨rfl, hb⟩
    replace hB := hB.trans (hb.mono hB.size); clear hb
    go_wp2_with fail
    go_ret
    exact ⟨rfl, hB⟩
   ·skip
    have hS0 := Blk.new wc 24 #[.int .i64 0, .slice none 0 0]; have q24 := fun i => hS0.cell i; have f24 := fun i => hS0.frozen i; have l24 := hS0.lt
    go_upto_region 5 with fail
    have hSb := Blk.new wc 24 #[.int .i64 0, .slice none 0 0]
    have hKeep : Below wc.heap.size wc (wc.alloc (.cells #[.int .i64 0, .slice none 0 0] 24)) := (Below.refl _ wc).alloc (Nat.le_refl _) _
    replace hB := hB.trans (hKeep.mono hB.size); replace hSa := hSa.below hKeep hSa.lt
    clear hKeep hS0 q24 f24 l24
    generalize wc.alloc (.cells #[.int .i64 0, .slice none 0 0] 24) = WhSb at *
    generalize wc.heap.size = zhSb at hSb ⊢
    have qSa := fun i => hSa.cell i
    go_wp2_with fail
    refine (sameNil _).mono ?_; rintro e wc ⟨rfl, hb⟩
    replace hB := hB.trans (hb.mono hB.size); replace hSa := hSa.below hb hSa.lt; replace hSb := hSb.below hb hSb.lt
    clear hb
    go_wp2_with fail
    refine (known_true m _ (hE.below hB)).mono ?_; rintro e wc ⟨rfl, hb⟩
    replace hB := hB.trans (hb.mono hB.size); clear hb
    go_wp2_with fail
    go_ret
    exact ⟨rfl, hB⟩
  ·skip
   have h4n : s.size ≤ 400 := by omega
   have hsh := fun (wx : World) (hx : Below w.heap.size w wx) => Read_short s m wx (hE.below hx) h4n
   have HSH := Lib.hid hsh; clear hsh h4n
   go_wp2_with fail
   refine (HSH.out _ hB).mono ?_; rintro e wc ⟨hb, hp⟩
   replace hB := hB.trans (hb.mono hB.size); clear hb
   cases hq : parseO s with
   | none =>
    rw [hq] at hp
    obtain rfl : e = NONEv := hp
    unfold NONEv
    have hS0 := Blk.new wc 24 #[.int .i64 0, .slice none 0 0]; have q24 := fun i => hS0.cell i; have f24 := fun i => hS0.frozen i; have l24 := hS0.lt
    go_upto_region 4 with fail
    have hSa := Blk.new wc 24 #[.int .i64 0, .slice none 0 0]
    have hKeep : Below wc.heap.size wc (wc.alloc (.cells #[.int .i64 0, .slice none 0 0] 24)) := (Below.refl _ wc).alloc (Nat.le_refl _) _
    replace hB := hB.trans (hKeep.mono hB.size); 
    clear hKeep hS0 q24 f24 l24
    generalize wc.alloc (.cells #[.int .i64 0, .slice none 0 0] 24) = WhSa at *
    generalize wc.heap.size = zhSa at hSa ⊢
    go_wp2_with fail
    refine (HRD.out _).mono ?_; rintro e wc ⟨hans, hb⟩
    replace hB := hB.trans (hb.mono hB.size); replace hSa := hSa.below hb hSa.lt
    clear hb
    rcases hans with ⟨b, A2, c2, n2, cs2, h9, _⟩ | ⟨_, rfl⟩
    ·rw [hq] at h9; cases h9
    clear hq
    have hS0 := Blk.new wc 24 #[.int .i64 0, .slice none 0 0]; have q24 := fun i => hS0.cell i; have f24 := fun i => hS0.frozen i; have l24 := hS0.lt
    go_upto_region 5 with fail
    have hSb := Blk.new wc 24 #[.int .i64 0, .slice none 0 0]
    have hKeep : Below wc.heap.size wc (wc.alloc (.cells #[.int .i64 0, .slice none 0 0] 24)) := (Below.refl _ wc).alloc (Nat.le_refl _) _
    replace hB := hB.trans (hKeep.mono hB.size); replace hSa := hSa.below hKeep hSa.lt
    clear hKeep hS0 q24 f24 l24
    generalize wc.alloc (.cells #[.int .i64 0, .slice none 0 0] 24) = WhSb at *
    generalize wc.heap.size = zhSb at hSb ⊢
    have qSa := fun i => hSa.cell i
    go_wp2_with fail
    refine (sameNil _).mono ?_; rintro e wc ⟨rfl, hb⟩
    replace hB := hB.trans (hb.mono hB.size); replace hSa := hSa.below hb hSa.lt; replace hSb := hSb.below hb hSb.lt
    clear hb
    go_wp2_with fail
    refine (known_true m _ (hE.below hB)).mono ?_; rintro e wc ⟨rfl, hb⟩
    replace hB := hB.trans (hb.mono hB.size); clear hb
    go_wp2_with fail
    go_ret
    exact ⟨rfl, hB⟩
   | some b =>
    rw [hq] at hp
    obtain ⟨A, n, cap, cs, i1, i2, i3, i4, i5, i6, rfl⟩ := hp
    have hI : BkI wc A n cap cs := ⟨i1, i2, i4, i5⟩
    clear i1 i2 i4 i5
    cases hbk : bookB (b.1 : Int) cs with
    | false =>
     simp only [Bool.false_eq_true, if_false]
     unfold ARGv
     have hS0 := Blk.new wc 24 #[.int .i64 0, .slice none 0 0]; have q24 := fun i => hS0.cell i; have f24 := fun i => hS0.frozen i; have l24 := hS0.lt
     go_upto_region 4 with fail
     have hSa := Blk.new wc 24 #[.int .i64 0, .slice none 0 0]
     have hKeep : Below wc.heap.size wc (wc.alloc (.cells #[.int .i64 0, .slice none 0 0] 24)) := (Below.refl _ wc).alloc (Nat.le_refl _) _
     replace hB := hB.trans (hKeep.mono hB.size); replace hI := hI.toW hKeep
     clear hKeep hS0 q24 f24 l24
     generalize wc.alloc (.cells #[.int .i64 0, .slice none 0 0] 24) = WhSa at *
     generalize wc.heap.size = zhSa at hSa ⊢
     go_wp2_with fail
     refine (HRD.out _).mono ?_; rintro e wc ⟨hans, hb⟩
     replace hB := hB.trans (hb.mono hB.size); replace hSa := hSa.below hb hSa.lt; replace hI := hI.toW hb
     clear hb
     rcases hans with ⟨b', A2, c2, n2, cs2, h9, rfl, hI2, hpl, hsz, hn2, hb1⟩ | ⟨h9, _⟩
     rotate_left
     ·rw [hq] at h9; cases h9
     rw [hq] at h9
     obtain rfl : b = b' := by injection h9
     have hbk2 : bookB (b.1 : Int) cs2 = bookB (b.1 : Int) cs := by rw [bookB_plain, bookB_plain, hpl, i6]
     rw [hbk] at hbk2
     have hS0 := Blk.new wc 24 #[.int .i64 0, .slice none 0 0]; have q24 := fun i => hS0.cell i; have f24 := fun i => hS0.frozen i; have l24 := hS0.lt
     go_upto_region 5 with fail
     have hSb := Blk.new wc 24 #[.int .i64 (b.1 : Int), .slice A2 n2 c2]
     have hKeep : Below wc.heap.size wc (wc.alloc (.cells #[.int .i64 (b.1 : Int), .slice A2 n2 c2] 24)) := (Below.refl _ wc).alloc (Nat.le_refl _) _
     replace hB := hB.trans (hKeep.mono hB.size); replace hSa := hSa.below hKeep hSa.lt; replace hI := hI.toW hKeep; replace hI2 := hI2.toW hKeep
     clear hKeep hS0 q24 f24 l24
     generalize wc.alloc (.cells #[.int .i64 (b.1 : Int), .slice A2 n2 c2] 24) = WhSb at *
     generalize wc.heap.size = zhSb at hSb ⊢
     have hrb := refBook_any (b.1 : Int) A2 n2 c2 cs2 _ hI2
     rw [hbk2] at hrb
     have HRB := Lib.hid hrb; clear hrb
     have qSa := fun i => hSa.cell i; have qSb := fun i => hSb.cell i
     go_wp2_with fail
     refine (HRB.out).mono ?_; rintro e wc ⟨rfl, hb⟩
     replace hB := hB.trans (hb.mono hB.size); replace hSa := hSa.below hb hSa.lt; replace hSb := hSb.below hb hSb.lt
     clear hb
     have qSa := fun i => hSa.cell i
     go_wp2_with fail
     refine (sameNil _).mono ?_; rintro e wc ⟨rfl, hb⟩
     replace hB := hB.trans (hb.mono hB.size); replace hSa := hSa.below hb hSa.lt; replace hSb := hSb.below hb hSb.lt
     clear hb
     go_wp2_with fail
     refine (known_true m _ (hE.below hB)).mono ?_; rintro e wc ⟨rfl, hb⟩
     replace hB := hB.trans (hb.mono hB.size); clear hb
     go_wp2_with fail
     go_ret
     exact ⟨rfl, hB⟩
    | true =>
     simp only [if_true]
     have hS0 := Blk.new wc 24 #[.int .i64 0, .slice none 0 0]; have q24 := fun i => hS0.cell i; have f24 := fun i => hS0.frozen i; have l24 := hS0.lt
     go_upto_region 4 with fail
     have hSa := Blk.new wc 24 #[.int .i64 (b.1 : Int), .slice A n cap]
     have hKeep : Below wc.heap.size wc (wc.alloc (.cells #[.int .i64 (b.1 : Int), .slice A n cap] 24)) := (Below.refl _ wc).alloc (Nat.le_refl _) _
     replace hB := hB.trans (hKeep.mono hB.size); replace hI := hI.toW hKeep
     clear hKeep hS0 q24 f24 l24
     generalize wc.alloc (.cells #[.int .i64 (b.1 : Int), .slice A n cap] 24) = WhSa at *
     generalize wc.heap.size = zhSa at hSa ⊢
     go_wp2_with fail
     refine (HRD.out _).mono ?_; rintro e wc ⟨hans, hb⟩
     replace hB := hB.trans (hb.mono hB.size); replace hSa := hSa.below hb hSa.lt; replace hI := hI.toW hb
     clear hb
     rcases hans with ⟨b', A2, c2, n2, cs2, h9, rfl, hI2, hpl, hsz, hn2, hb1⟩ | ⟨h9, _⟩
     rotate_left
     ·rw [hq] at h9; cases h9
     rw [hq] at h9
     obtain rfl : b = b' := by injection h9
     have hbk2 : bookB (b.1 : Int) cs2 = bookB (b.1 : Int) cs := by rw [bookB_plain, bookB_plain, hpl, i6]
     rw [hbk] at hbk2
     have hS0 := Blk.new wc 24 #[.int .i64 0, .slice none 0 0]; have q24 := fun i => hS0.cell i; have f24 := fun i => hS0.frozen i; have l24 := hS0.lt
     go_upto_region 5 with fail
     have hSb := Blk.new wc 24 #[.int .i64 (b.1 : Int), .slice A2 n2 c2]
     have hKeep : Below wc.heap.size wc (wc.alloc (.cells #[.int .i64 (b.1 : Int), .slice A2 n2 c2] 24)) := (Below.refl _ wc).alloc (Nat.le_refl _) _
     replace hB := hB.trans (hKeep.mono hB.size); replace hSa := hSa.below hKeep hSa.lt; replace hI := hI.toW hKeep; replace hI2 := hI2.toW hKeep
     clear hKeep hS0 q24 f24 l24
     generalize wc.alloc (.cells #[.int .i64 (b.1 : Int), .slice A2 n2 c2] 24) = WhSb at *
     generalize wc.heap.size = zhSb at hSb ⊢
     have hrb := refBook_any (b.1 : Int) A2 n2 c2 cs2 _ hI2
     rw [hbk2] at hrb
     have HRB := Lib.hid hrb; clear hrb
     have qSa := fun i => hSa.cell i; have qSb := fun i => hSb.cell i
     go_wp2_with fail
     refine (HRB.out).mono ?_; rintro e wc ⟨rfl, hb⟩
     replace hB := hB.trans (hb.mono hB.size); replace hSa := hSa.below hb hSa.lt; replace hSb := hSb.below hb hSb.lt; replace hI := hI.toW hb; replace hI2 := hI2.toW hb
     clear hb
     obtain ⟨wn, hwn, hG⟩ := BkG.of_book hbk hI.2.2.1 hI.2.2.2
     have hwn2 : wn = b.1 := by omega
     subst hwn2
     have hpr := Print_yes cap m (hE.below hB) hG hbk
     have hts : bookT b.1 cs = s := by rw [bookT_plain, i6]; exact (parse_text hq).1
     rw [hts] at hpr
     have HPR := Lib.hid hpr; clear hpr hG hwn
     clear qSa qSb
     have qSa := fun i => hSa.cell i; have qSb := fun i => hSb.cell i
     go_wp2_with fail
     refine (HPR.out).mono ?_; rintro e wc ⟨rfl, hb⟩
     replace hB := hB.trans (hb.mono hB.size); replace hSa := hSa.below hb hSa.lt; replace hSb := hSb.below hb hSb.lt; replace hI := hI.toW hb; replace hI2 := hI2.toW hb
     clear hb
     clear qSa qSb
     have qSa := fun i => hSa.cell i; have qSb := fun i => hSb.cell i
     have hnn : n = n2 := by
      have e1 := hI.len; have e2 := hI2.len
      have e3 := congrArg List.length (i6.trans hpl.symm)
      unfold plain at e3
      rw [List.length_map, List.length_map] at e3
      omega
     subst hnn
     have hss := sameBooks_any (b.1 : Int) A n cap cs A2 c2 cs2 _ hI hI2 (i6.trans hpl.symm) (fun c hc l hl => by have h9 : plain cs = plain cs2 := i6.trans hpl.symm; exact plain_size h9 (fun c hc => (hsz c hc).2) c hc l hl) (fun c hc => plain_size2 (i6.trans hpl.symm) (fun c hc => (hsz c hc).1) c hc) hn2
     have HSS := Lib.hid hss; clear hss
     have hsq : (s.toList == s.toList) = true := by simp
     go_wp2_with fail
     refine (HSS.out).mono ?_; rintro e wc ⟨rfl, hb⟩
     replace hB := hB.trans (hb.mono hB.size); replace hSa := hSa.below hb hSa.lt; replace hSb := hSb.below hb hSb.lt
     clear hb
     go_wp2_with fail
     refine (known_true m _ (hE.below hB)).mono ?_; rintro e wc ⟨rfl, hb⟩
     replace hB := hB.trans (hb.mono hB.size); clear hb
     go_wp2_with fail
     go_ret
     exact ⟨rfl, hB⟩
end
section
open Go.ChangeShapes Go.WideShapes Go.ChangeAt Go.RowKit Go.Deep Go.Lib
set_option maxRecDepth 100000
section
variable {H : Type} {enc : TypeId × Value → H} {P : Program} {w : World} {base : Nat} {spare : Nat → Bool} {held : Bool}
theorem law_one {s0 : TypeId} {args : Array Value} {ds : List (DataW H)} {ps : List MemPlace} (h : DataW.TrodAll enc P w base spare held [s0] args.toList ds ps) :
  ∃ v0 d0 p0, args = #[v0] ∧ ds = [d0] ∧ DataW.Trod enc P w base spare held s0 v0 d0 p0 := by
 obtain ⟨v0, r0, d0, e0, p0, q0, hargs, rfl, rfl, t0, h0⟩ := trodAll_cons h
 obtain ⟨rfl, rfl, rfl⟩ := trodAll_nil h0
 exact ⟨v0, d0, p0, by cases args; simp_all, rfl, t0⟩
end
end
end Go.Proofs.YtekmnelpkogppaaGreatDoor
