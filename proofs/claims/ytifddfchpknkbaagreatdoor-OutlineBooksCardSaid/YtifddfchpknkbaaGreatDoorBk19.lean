import Derived.Test.YtifddfchpknkbaaGreatDoorProg
import Derived.Test.YtifddfchpknkbaaGreatDoorBk18
set_option linter.unusedVariables false
set_option linter.unusedSimpArgs false
namespace Go.Proofs.YtifddfchpknkbaaGreatDoor
section
open Go.RowKit Go.Lib
set_option maxRecDepth 100000 in
set_option maxHeartbeats 12800000 in
theorem refRead_any (s : ByteArray) (w : World) (hs : s.size ≤ 600) : Calls Tryz.prog 88 #[.string s] w fun e w' => ReadAns s w' e ∧ Below w.heap.size w w' := by
  obtain ⟨i26, hi, hz0, hz1', hz2'⟩ := info_parts info26
  have hB2 : Below w.heap.size w ((w.alloc (.cells #[.int .i64 0, .int .i64 0, .int .i64 0, .int .i64 0, .int .i64 0, .int .i64 0, .slice none 0 0] 121)).alloc (.cells #[.int .i64 0, .int .i64 0, .int .i64 0, .int .i64 0, .int .i64 0, .int .i64 0, .slice none 0 0] 121)) := ((Below.refl _ w).alloc (Nat.le_refl _) _).alloc (by simp only [World.size_alloc]; omega) _
  have gT : Blk ((w.alloc (.cells #[.int .i64 0, .int .i64 0, .int .i64 0, .int .i64 0, .int .i64 0, .int .i64 0, .slice none 0 0] 121)).alloc (.cells #[.int .i64 0, .int .i64 0, .int .i64 0, .int .i64 0, .int .i64 0, .int .i64 0, .slice none 0 0] 121)) w.heap.size 121 #[.int .i64 0, .int .i64 0, .int .i64 0, .int .i64 0, .int .i64 0, .int .i64 0, .slice none 0 0] := (Blk.new w 121 #[.int .i64 0, .int .i64 0, .int .i64 0, .int .i64 0, .int .i64 0, .int .i64 0, .slice none 0 0]).alloc _
  have gK : Blk ((w.alloc (.cells #[.int .i64 0, .int .i64 0, .int .i64 0, .int .i64 0, .int .i64 0, .int .i64 0, .slice none 0 0] 121)).alloc (.cells #[.int .i64 0, .int .i64 0, .int .i64 0, .int .i64 0, .int .i64 0, .int .i64 0, .slice none 0 0] 121)) (w.heap.size + 1) 121 #[.int .i64 0, .int .i64 0, .int .i64 0, .int .i64 0, .int .i64 0, .int .i64 0, .slice none 0 0] := blk2 w _ 121 #[.int .i64 0, .int .i64 0, .int .i64 0, .int .i64 0, .int .i64 0, .int .i64 0, .slice none 0 0]
  have hsp : ∀ wx : World, Calls Tryz.prog 144 #[.string s, .int .u8 10] wx fun e w' => ∃ v, e = .returned v ∧ w'.ownsRow wx.heap.size 9 1 v (cutB 10 s).length ((cutB 10 s).map Value.string) ∧ Below wx.heap.size wx w' := fun wx => refSplit_any s 10 wx (by omega)
  obtain ⟨hL1, hL2⟩ := cutB_size 10 s
  have hL3 := cutB_pos 10 s
  have hend := fun (a0 a1 a2 a3 a4 a5 : Nat) (S : Nat) (ha : ∀ x ∈ [a0, a1, a2, a3, a4, a5], x < 100) (hS : sumA (linesR [a0, a1, a2, a3, a4, a5] []) 0 0 = S) (e : s = textS (linesR [a0, a1, a2, a3, a4, a5] []) S) => (text_shape s [a0, a1, a2, a3, a4, a5] [] S hs ⟨rfl, ha, fun r h => (by cases h), hS, e⟩).2.2.2.2.1
  have hst0 := st_start (cutB 10 s)
  have HFEW := Lib.hid (@no_few s)
  have HHEAD := Lib.hid (fun l0 h0 h => @no_head s l0 h0 h)
  have HLINE := Lib.hid (fun l k hk hq h0 h => @no_line s l k hk hq h0 h)
  have HLINES := Lib.hid (fun k a cls h hk hq => @st_lines s k a cls h hk hq)
  have HUNI := Lib.hid (fun k a cls h hk hq b rl hr => @st_unique s k a cls h hk hq b rl hr)
  obtain ⟨L, hL⟩ : ∃ L, L = cutB 10 s := ⟨_, rfl⟩
  obtain ⟨q, hq⟩ : ∃ q, q = L.length := ⟨_, rfl⟩
  rw [← hL] at hsp hL1 hL2 hL3 hst0 HFEW HHEAD HLINE HLINES HUNI
  simp only [← hL] at hend
  rw [← hq] at hsp hL1 hL3 HFEW
  simp only [← hq] at HLINE HLINES HUNI
  have HEND := Lib.hid hend; have HST0 := Lib.hid hst0; have HL2 := Lib.hid hL2; clear hend hst0 hL2
  have HL := Lib.hid hL; have HQ := Lib.hid hq; clear hL hq
  have hwq := i64_ok ((q : Int) - 2) (by omega)
  go_enter Tryz.func88, Tryz.ntmps88
  go_upto_region 3 with (go_at_call 144; refine (hsp _).mono ?_; rintro e w1 ⟨v5, rfl, own5, hb⟩; obtain ⟨A5, c5, rfl⟩ := own_slice own5; replace own5 := own_mono (base' := w.heap.size + 1 + 1) own5 (by simp only [World.size_alloc]; omega); have hc5 := own_le0 own5; have hm5 := own_cap own5; replace gT := gT.below hb gT.lt; replace gK := gK.below hb gK.lt; replace hB2 := hB2.trans (hb.mono hB2.size); clear hb)
  clear hsp
  go_wp2_with (fail)
  go_loopg [6] q (fun g i wr => ∃ (k a0 a1 a2 a3 a4 a5 : Nat) (v0 : Value) (us : List Value) (cls : List (List ByteArray)), g = q - k ∧ (k = 0 ∨ k + 2 ≤ q) ∧ i = .int .i64 k ∧ Hid (RdSt L k [a0, a1, a2, a3, a4, a5] cls) ∧ Cloths wr (w.heap.size + 1 + 1) us cls ∧ wr.ownsRow (w.heap.size + 1 + 1) 26 1 v0 us.length (us.map tail1) ∧ wr.ownsRow (w.heap.size + 1 + 1) 9 1 (.slice A5 q c5) q (L.map Value.string) ∧ Blk wr w.heap.size 121 #[.int .i64 0, .int .i64 0, .int .i64 0, .int .i64 0, .int .i64 0, .int .i64 0, .slice none 0 0] ∧ Blk wr (w.heap.size + 1) 121 #[.int .i64 a0, .int .i64 a1, .int .i64 a2, .int .i64 a3, .int .i64 a4, .int .i64 a5, v0] ∧ Below w.heap.size w wr)
  case atStart => exact ⟨0, 0, 0, 0, 0, 0, 0, _, [], [], rfl, .inl rfl, rfl, HST0, Cloths.nil _ _, World.ownsRow_nil _ _ _ _, own5, gT, gK, hB2⟩
  case round =>
    clear gT gK hB2 own5 HST0
    obtain ⟨k, a0, a1, a2, a3, a4, a5, v0, us, cls, hg, hk, rfl, HST, hcl, hown, own5, gT, gK, hB2⟩ := hrel
    have HG := Lib.hid hg; clear hg
    obtain ⟨va, vc, rfl⟩ := own_slice hown
    have husl : us.length = cls.length := hcl.1
    have hclk : cls.length = k - 1 := HST.out.1
    have hus : us.length ≤ 1000 := by omega
    have HUS := Lib.hid husl; have HCLK := Lib.hid hclk; clear husl hclk
    rename World => wr
    by_cases hlt : k + 2 < q
    · have hlti : (k : Int) < (q : Int) - 2 := by omega
      obtain ⟨rb, ro, hz, rfl, hrb, hrc⟩ := (Rd.of_own own5).atm (show k < q by omega)
      have hkL : L[k]? = some L[k] := List.getElem?_eq_getElem hz
      have hsz := HL2.out _ (List.getElem_mem hz)
      generalize L[k] = l at *
      have HKL := Lib.hid hkL; clear hkL hz
      have hs7 : ∀ wx : World, Calls Tryz.prog 144 #[.string l, .int .u8 32] wx fun e w' => ∃ v, e = .returned v ∧ w'.ownsRow wx.heap.size 9 1 v (cutB 32 l).length ((cutB 32 l).map Value.string) ∧ Below wx.heap.size wx w' := fun wx => refSplit_any l 32 wx (by omega)
      obtain ⟨hc1, hc2⟩ := cutB_size 32 l
      have hc3 := cutB_pos 32 l
      have HHD := Lib.hid (HHEAD.out l); have HLN := Lib.hid (HLINE.out l k); have HS1 := Lib.hid (fun a b h h0 hb h6 hw => @st_head L l a b cls h h0 hb h6 hw); have HS2 := Lib.hid (fun a h hk h0 h2 hx => @st_line L l k a cls h hk h0 h2 hx)
      obtain ⟨c, hc⟩ : ∃ c, c = cutB 32 l := ⟨_, rfl⟩
      obtain ⟨n, hn⟩ : ∃ n, n = c.length := ⟨_, rfl⟩
      rw [← hc] at hs7 hc1 hc2 hc3 HHD HLN HS1 HS2
      rw [← hn] at hs7 hc1 hc3 HLN HS2
      have HC := Lib.hid hc; have HN := Lib.hid hn; have HC2 := Lib.hid hc2; clear hc hn hc2
      have hlK0 := gK.lt
      go_upto_region 7 with (go_at_call 144; refine (hs7 _).mono ?_; rintro e w7 ⟨v7, rfl, own7, hb⟩; obtain ⟨A7, c7, rfl⟩ := own_slice own7; replace own7 := own_mono (base' := w.heap.size + 1 + 1) own7 (by omega); have hc7 := own_le0 own7; have hm7 := own_cap own7; replace own5 := ownsRow_below' own5 hb; replace hown := ownsRow_below' hown hb; replace hcl := hcl.below hb; replace gT := gT.below hb gT.lt; replace gK := gK.below hb gK.lt; replace hB2 := hB2.trans (hb.mono hB2.size); clear hb)
      clear hs7 hrc hlK0
      have hr7 := Rd.of_own own7
      have hsl : ∀ w, (Instr.slice 24 (.slice A7 n c7) (some (.int .i64 1)) none none).run Tryz.prog w = .ok (.slice (cutA A7 c7 1 1) (n - 1) (c7 - 1)) w := run_slice_lo (P := Tryz.prog) 24 9 1 Tryz.underlying24 (fun _ => by kernel_rfl) A7 n c7 .i64 1 (by omega) (by omega)
      have htl : Rd w7 w7.heap.size 1 (cutA A7 c7 1 1) (n - 1) ((c.drop 1).map Value.string) := by
        have h := Rd.cutA' hr7 (k := 1) (m := n) (by omega) (Nat.le_refl _) hc7
        rw [Nat.one_mul, Nat.mul_one, List.take_of_length_le (by rw [List.length_drop, List.length_map, ← HN.out]; exact Nat.le_refl _), ← List.map_drop] at h
        exact h
      by_cases hk0 : k = 0
      · have hkn : ¬ (0 : Int) < k := by omega
        have HK0 := Lib.hid hk0; clear hk0
        have hnum := fun wx hx => refNumbers_any (cutA A7 c7 1 1) (n - 1) (c7 - 1) (c.drop 1) wx (by omega) hx
        by_cases hyes : ∃ ns : List Nat, (∀ a ∈ ns, a < 100) ∧ c.drop 1 = ns.map dS
        · obtain ⟨ns, hns, hcn⟩ := hyes
          have hnum2 : ∀ wx : World, Rd wx wx.heap.size 1 (cutA A7 c7 1 1) (n - 1) ((c.drop 1).map Value.string) → Calls Tryz.prog 145 #[.slice (cutA A7 c7 1 1) (n - 1) (c7 - 1), .int .i64 2] wx fun e w' => (∃ v, e = .returned (.tuple #[v, .bool true]) ∧ w'.ownsRow wx.heap.size 3 1 v ns.length (ns.map nmV)) ∧ Below wx.heap.size wx w' := fun wx hx => (hnum wx hx).mono fun e w' ⟨h, hb⟩ => by
            refine ⟨?_, hb⟩
            rcases h with ⟨ms, v, hms, hw, he, ho⟩ | ⟨hno, _⟩
            · obtain rfl := dS_map_inj hms hns (by rw [← hw, hcn])
              exact ⟨v, he, ho⟩
            · exact absurd ⟨ns, hns, hcn⟩ hno
          have HNUM := Lib.hid hnum2; have HCN := Lib.hid hcn; have HNS := Lib.hid hns; clear hnum hnum2 hcn hns
          have hnl : ns.length = n - 1 := by have := congrArg List.length HCN.out; rw [List.length_drop, List.length_map, ← HN.out] at this; omega
          have hnl2 : ns.length ≤ 1000 := by omega
          have HNL := Lib.hid hnl; clear hnl
          by_cases h6 : ns.length = 6
          · obtain ⟨b0, b1, b2, b3, b4, b5, rfl⟩ : ∃ b0 b1 b2 b3 b4 b5, ns = [b0, b1, b2, b3, b4, b5] := by
              match ns, h6 with
              | [b0, b1, b2, b3, b4, b5], _ => exact ⟨b0, b1, b2, b3, b4, b5, rfl⟩
            clear h6 hnl2
            go_upto_region 19 with (go_at_call 145; refine (HNUM.out _ htl).mono ?_; rintro e w8 ⟨⟨v8, rfl, own8⟩, hb⟩; obtain ⟨A8, c8, rfl⟩ := own_slice own8; have hr8 := Rd.of_own own8; clear own8; replace own5 := ownsRow_below' own5 hb; replace hown := ownsRow_below' hown hb; replace hcl := hcl.below hb; replace gT := gT.below hb gT.lt; replace gK := gK.below hb gK.lt; replace hB2 := hB2.trans (hb.mono hB2.size); clear hb)
            clear htl hr7 own7
            obtain ⟨b8, o8, _, rfl, hb8, hc0⟩ := hr8.atm (show 0 < [b0, b1, b2, b3, b4, b5].length by simp)
            obtain ⟨_, _, _, e1, _, hc1'⟩ := hr8.atm (show 1 < [b0, b1, b2, b3, b4, b5].length by simp)
            cases e1
            obtain ⟨_, _, _, e1, _, hc2'⟩ := hr8.atm (show 2 < [b0, b1, b2, b3, b4, b5].length by simp)
            cases e1
            obtain ⟨_, _, _, e1, _, hc3'⟩ := hr8.atm (show 3 < [b0, b1, b2, b3, b4, b5].length by simp)
            cases e1
            obtain ⟨_, _, _, e1, _, hc4'⟩ := hr8.atm (show 4 < [b0, b1, b2, b3, b4, b5].length by simp)
            cases e1
            obtain ⟨_, _, _, e1, _, hc5'⟩ := hr8.atm (show 5 < [b0, b1, b2, b3, b4, b5].length by simp)
            cases e1
            simp only [List.length_cons, List.length_nil, List.getElem_cons_zero, List.getElem_cons_succ, nmV, Nat.add_zero] at hc0 hc1' hc2' hc3' hc4' hc5'
            rename World => WR
            refine wp_region_G (fun w' => w' = WR.drew) 20 (by kernel_rfl) ?_
            replace gT := gT.drew
            replace gK := gK.drew
            replace own5 := own5.drew
            replace hown := hown.drew
            replace hcl := hcl.drew
            replace hB2 := hB2.drew
            replace hc0 : WR.drew.cell? _ = _ := hc0
            replace hc1' : WR.drew.cell? _ = _ := hc1'
            replace hc2' : WR.drew.cell? _ = _ := hc2'
            replace hc3' : WR.drew.cell? _ = _ := hc3'
            replace hc4' : WR.drew.cell? _ = _ := hc4'
            replace hc5' : WR.drew.cell? _ = _ := hc5'
            have hqK := fun i => gK.cell i; have hfK := fun i => gK.frozen i; have hlK := gK.lt
            generalize WR.drew = WD at *
            have hTT : WD = WD := rfl
            refine wpG_take (i := 0) (v := ?vp0) rfl (by kernel_rfl) (by kernel_rfl) (by kernel_rfl) (by kernel_rfl) (fun _ _ _ h => h) (Or.inl ⟨by rfl, ?hyp0⟩) hTT ?restp0
            case hyp0 => intro wq hSw; subst hSw; go_simp <;> with_reducible rfl
            simp only [List.getElem_toArray, List.getElem_cons_zero, List.getElem_cons_succ, Act.put, List.setIfInBounds_toArray, List.set_cons_zero, List.set_cons_succ]
            refine wpG_take (i := 1) (v := ?vp1) rfl (by kernel_rfl) (by kernel_rfl) (by kernel_rfl) (by kernel_rfl) (fun _ _ _ h => h) (Or.inl ⟨by rfl, ?hyp1⟩) hTT ?restp1
            case hyp1 => intro wq hSw; subst hSw; go_simp <;> with_reducible rfl
            simp only [List.getElem_toArray, List.getElem_cons_zero, List.getElem_cons_succ, Act.put, List.setIfInBounds_toArray, List.set_cons_zero, List.set_cons_succ]
            refine wpG_take (i := 2) (v := ?vp2) rfl (by kernel_rfl) (by kernel_rfl) (by kernel_rfl) (by kernel_rfl) (fun _ _ _ h => h) (Or.inl ⟨by rfl, ?hyp2⟩) hTT ?restp2
            case hyp2 => intro wq hSw; subst hSw; go_simp <;> with_reducible rfl
            simp only [List.getElem_toArray, List.getElem_cons_zero, List.getElem_cons_succ, Act.put, List.setIfInBounds_toArray, List.set_cons_zero, List.set_cons_succ]
            refine wpG_take (i := 3) (v := ?vp3) rfl (by kernel_rfl) (by kernel_rfl) (by kernel_rfl) (by kernel_rfl) (fun _ _ _ h => h) (Or.inl ⟨by rfl, ?hyp3⟩) hTT ?restp3
            case hyp3 => intro wq hSw; subst hSw; go_simp <;> with_reducible rfl
            simp only [List.getElem_toArray, List.getElem_cons_zero, List.getElem_cons_succ, Act.put, List.setIfInBounds_toArray, List.set_cons_zero, List.set_cons_succ]
            refine wpG_take (i := 4) (v := ?vp4) rfl (by kernel_rfl) (by kernel_rfl) (by kernel_rfl) (by kernel_rfl) (fun _ _ _ h => h) (Or.inl ⟨by rfl, ?hyp4⟩) hTT ?restp4
            case hyp4 => intro wq hSw; subst hSw; go_simp <;> with_reducible rfl
            simp only [List.getElem_toArray, List.getElem_cons_zero, List.getElem_cons_succ, Act.put, List.setIfInBounds_toArray, List.set_cons_zero, List.set_cons_succ]
            refine wpG_take (i := 5) (v := ?vp5) rfl (by kernel_rfl) (by kernel_rfl) (by kernel_rfl) (by kernel_rfl) (fun _ _ _ h => h) (Or.inl ⟨by rfl, ?hyp5⟩) hTT ?restp5
            case hyp5 => intro wq hSw; subst hSw; go_simp <;> with_reducible rfl
            simp only [List.getElem_toArray, List.getElem_cons_zero, List.getElem_cons_succ, Act.put, List.setIfInBounds_toArray, List.set_cons_zero, List.set_cons_succ]
            refine wpG_take (i := 6) (v := ?vp6) rfl (by kernel_rfl) (by kernel_rfl) (by kernel_rfl) (by kernel_rfl) (fun _ _ _ h => h) (Or.inl ⟨by rfl, ?hyp6⟩) hTT ?restp6
            case hyp6 => intro wq hSw; subst hSw; go_simp <;> with_reducible rfl
            simp only [List.getElem_toArray, List.getElem_cons_zero, List.getElem_cons_succ, Act.put, List.setIfInBounds_toArray, List.set_cons_zero, List.set_cons_succ]
            refine wpG_take (i := 7) (v := ?vp7) rfl (by kernel_rfl) (by kernel_rfl) (by kernel_rfl) (by kernel_rfl) (fun _ _ _ h => h) (Or.inl ⟨by rfl, ?hyp7⟩) hTT ?restp7
            case hyp7 => intro wq hSw; subst hSw; go_simp <;> with_reducible rfl
            simp only [List.getElem_toArray, List.getElem_cons_zero, List.getElem_cons_succ, Act.put, List.setIfInBounds_toArray, List.set_cons_zero, List.set_cons_succ]
            refine wpG_take (i := 8) (v := ?vp8) rfl (by kernel_rfl) (by kernel_rfl) (by kernel_rfl) (by kernel_rfl) (fun _ _ _ h => h) (Or.inl ⟨by rfl, ?hyp8⟩) hTT ?restp8
            case hyp8 => intro wq hSw; subst hSw; go_simp <;> with_reducible rfl
            simp only [List.getElem_toArray, List.getElem_cons_zero, List.getElem_cons_succ, Act.put, List.setIfInBounds_toArray, List.set_cons_zero, List.set_cons_succ]
            refine wpG_take (i := 9) (v := ?vp9) rfl (by kernel_rfl) (by kernel_rfl) (by kernel_rfl) (by kernel_rfl) (fun _ _ _ h => h) (Or.inl ⟨by rfl, ?hyp9⟩) hTT ?restp9
            case hyp9 => intro wq hSw; subst hSw; go_simp <;> with_reducible rfl
            simp only [List.getElem_toArray, List.getElem_cons_zero, List.getElem_cons_succ, Act.put, List.setIfInBounds_toArray, List.set_cons_zero, List.set_cons_succ]
            refine wpG_take (i := 10) (v := ?vp10) rfl (by kernel_rfl) (by kernel_rfl) (by kernel_rfl) (by kernel_rfl) (fun _ _ _ h => h) (Or.inl ⟨by rfl, ?hyp10⟩) hTT ?restp10
            case hyp10 => intro wq hSw; subst hSw; go_simp <;> with_reducible rfl
            simp only [List.getElem_toArray, List.getElem_cons_zero, List.getElem_cons_succ, Act.put, List.setIfInBounds_toArray, List.set_cons_zero, List.set_cons_succ]
            refine wpG_take (i := 11) (v := ?vp11) rfl (by kernel_rfl) (by kernel_rfl) (by kernel_rfl) (by kernel_rfl) (fun _ _ _ h => h) (Or.inl ⟨by rfl, ?hyp11⟩) hTT ?restp11
            case hyp11 => intro wq hSw; subst hSw; go_simp <;> with_reducible rfl
            simp only [List.getElem_toArray, List.getElem_cons_zero, List.getElem_cons_succ, Act.put, List.setIfInBounds_toArray, List.set_cons_zero, List.set_cons_succ]
            refine wpG_take (i := 12) (v := ?vp12) rfl (by kernel_rfl) (by kernel_rfl) (by kernel_rfl) (by kernel_rfl) (fun _ _ _ h => h) (Or.inl ⟨by rfl, ?hyp12⟩) hTT ?restp12
            case hyp12 => intro wq hSw; subst hSw; go_simp <;> with_reducible rfl
            simp only [List.getElem_toArray, List.getElem_cons_zero, List.getElem_cons_succ, Act.put, List.setIfInBounds_toArray, List.set_cons_zero, List.set_cons_succ]
            refine wpG_take (i := 13) (v := ?vp13) rfl (by kernel_rfl) (by kernel_rfl) (by kernel_rfl) (by kernel_rfl) (fun _ _ _ h => h) (Or.inl ⟨by rfl, ?hyp13⟩) hTT ?restp13
            case hyp13 => intro wq hSw; subst hSw; go_simp <;> with_reducible rfl
            simp only [List.getElem_toArray, List.getElem_cons_zero, List.getElem_cons_succ, Act.put, List.setIfInBounds_toArray, List.set_cons_zero, List.set_cons_succ]
            refine wpG_take (i := 14) (v := ?vp14) rfl (by kernel_rfl) (by kernel_rfl) (by kernel_rfl) (by kernel_rfl) (fun _ _ _ h => h) (Or.inl ⟨by rfl, ?hyp14⟩) hTT ?restp14
            case hyp14 => intro wq hSw; subst hSw; go_simp <;> with_reducible rfl
            simp only [List.getElem_toArray, List.getElem_cons_zero, List.getElem_cons_succ, Act.put, List.setIfInBounds_toArray, List.set_cons_zero, List.set_cons_succ]
            refine wpG_take (i := 15) (v := ?vp15) rfl (by kernel_rfl) (by kernel_rfl) (by kernel_rfl) (by kernel_rfl) (fun _ _ _ h => h) (Or.inl ⟨by rfl, ?hyp15⟩) hTT ?restp15
            case hyp15 => intro wq hSw; subst hSw; go_simp <;> with_reducible rfl
            simp only [List.getElem_toArray, List.getElem_cons_zero, List.getElem_cons_succ, Act.put, List.setIfInBounds_toArray, List.set_cons_zero, List.set_cons_succ]
            refine wpG_take (i := 16) (v := ?vp16) rfl (by kernel_rfl) (by kernel_rfl) (by kernel_rfl) (by kernel_rfl) (fun _ _ _ h => h) (Or.inl ⟨by rfl, ?hyp16⟩) hTT ?restp16
            case hyp16 => intro wq hSw; subst hSw; go_simp <;> with_reducible rfl
            simp only [List.getElem_toArray, List.getElem_cons_zero, List.getElem_cons_succ, Act.put, List.setIfInBounds_toArray, List.set_cons_zero, List.set_cons_succ]
            refine wpG_take (i := 17) (v := ?vp17) rfl (by kernel_rfl) (by kernel_rfl) (by kernel_rfl) (by kernel_rfl) (fun _ _ _ h => h) (Or.inl ⟨by rfl, ?hyp17⟩) hTT ?restp17
            case hyp17 => intro wq hSw; subst hSw; go_simp <;> with_reducible rfl
            simp only [List.getElem_toArray, List.getElem_cons_zero, List.getElem_cons_succ, Act.put, List.setIfInBounds_toArray, List.set_cons_zero, List.set_cons_succ]
            refine wpG_take (i := 18) (v := ?vp18) rfl (by kernel_rfl) (by kernel_rfl) (by kernel_rfl) (by kernel_rfl) (fun _ _ _ h => h) (Or.inl ⟨by rfl, ?hyp18⟩) hTT ?restp18
            case hyp18 => intro wq hSw; subst hSw; go_simp <;> with_reducible rfl
            simp only [List.getElem_toArray, List.getElem_cons_zero, List.getElem_cons_succ, Act.put, List.setIfInBounds_toArray, List.set_cons_zero, List.set_cons_succ]
            refine wpG_take (i := 19) (v := ?vp19) rfl (by kernel_rfl) (by kernel_rfl) (by kernel_rfl) (by kernel_rfl) (fun _ _ _ h => h) (Or.inl ⟨by rfl, ?hyp19⟩) hTT ?restp19
            case hyp19 => intro wq hSw; subst hSw; go_simp <;> with_reducible rfl
            simp only [List.getElem_toArray, List.getElem_cons_zero, List.getElem_cons_succ, Act.put, List.setIfInBounds_toArray, List.set_cons_zero, List.set_cons_succ]
            refine wpG_one (i := 20) rfl (by kernel_rfl) (fun K hK => ?_)
            go_simp
            replace gK := gK.set_ 0 (.int .i64 b0); replace gT := gT.far (p := ⟨w.heap.size + 1, 0, none⟩) (show w.heap.size ≠ w.heap.size + 1 by omega) (.int .i64 b0); replace hB2 := hB2.setCell (p := ⟨w.heap.size + 1, 0, none⟩) (Nat.le_succ _) (.int .i64 b0); replace hcl := hcl.set (a := ⟨w.heap.size + 1, 0, none⟩) (show w.heap.size + 1 < w.heap.size + 1 + 1 by omega) (.int .i64 b0); replace hown := ownsRow_setCell_below (a := ⟨w.heap.size + 1, 0, none⟩) hown (show w.heap.size + 1 < w.heap.size + 1 + 1 by omega) (.int .i64 b0); replace own5 := ownsRow_setCell_below (a := ⟨w.heap.size + 1, 0, none⟩) own5 (show w.heap.size + 1 < w.heap.size + 1 + 1 by omega) (.int .i64 b0)
            replace gK := gK.set_ 1 (.int .i64 b1); replace gT := gT.far (p := ⟨w.heap.size + 1, 1, none⟩) (show w.heap.size ≠ w.heap.size + 1 by omega) (.int .i64 b1); replace hB2 := hB2.setCell (p := ⟨w.heap.size + 1, 1, none⟩) (Nat.le_succ _) (.int .i64 b1); replace hcl := hcl.set (a := ⟨w.heap.size + 1, 1, none⟩) (show w.heap.size + 1 < w.heap.size + 1 + 1 by omega) (.int .i64 b1); replace hown := ownsRow_setCell_below (a := ⟨w.heap.size + 1, 1, none⟩) hown (show w.heap.size + 1 < w.heap.size + 1 + 1 by omega) (.int .i64 b1); replace own5 := ownsRow_setCell_below (a := ⟨w.heap.size + 1, 1, none⟩) own5 (show w.heap.size + 1 < w.heap.size + 1 + 1 by omega) (.int .i64 b1)
            replace gK := gK.set_ 2 (.int .i64 b2); replace gT := gT.far (p := ⟨w.heap.size + 1, 2, none⟩) (show w.heap.size ≠ w.heap.size + 1 by omega) (.int .i64 b2); replace hB2 := hB2.setCell (p := ⟨w.heap.size + 1, 2, none⟩) (Nat.le_succ _) (.int .i64 b2); replace hcl := hcl.set (a := ⟨w.heap.size + 1, 2, none⟩) (show w.heap.size + 1 < w.heap.size + 1 + 1 by omega) (.int .i64 b2); replace hown := ownsRow_setCell_below (a := ⟨w.heap.size + 1, 2, none⟩) hown (show w.heap.size + 1 < w.heap.size + 1 + 1 by omega) (.int .i64 b2); replace own5 := ownsRow_setCell_below (a := ⟨w.heap.size + 1, 2, none⟩) own5 (show w.heap.size + 1 < w.heap.size + 1 + 1 by omega) (.int .i64 b2)
            replace gK := gK.set_ 3 (.int .i64 b3); replace gT := gT.far (p := ⟨w.heap.size + 1, 3, none⟩) (show w.heap.size ≠ w.heap.size + 1 by omega) (.int .i64 b3); replace hB2 := hB2.setCell (p := ⟨w.heap.size + 1, 3, none⟩) (Nat.le_succ _) (.int .i64 b3); replace hcl := hcl.set (a := ⟨w.heap.size + 1, 3, none⟩) (show w.heap.size + 1 < w.heap.size + 1 + 1 by omega) (.int .i64 b3); replace hown := ownsRow_setCell_below (a := ⟨w.heap.size + 1, 3, none⟩) hown (show w.heap.size + 1 < w.heap.size + 1 + 1 by omega) (.int .i64 b3); replace own5 := ownsRow_setCell_below (a := ⟨w.heap.size + 1, 3, none⟩) own5 (show w.heap.size + 1 < w.heap.size + 1 + 1 by omega) (.int .i64 b3)
            replace gK := gK.set_ 4 (.int .i64 b4); replace gT := gT.far (p := ⟨w.heap.size + 1, 4, none⟩) (show w.heap.size ≠ w.heap.size + 1 by omega) (.int .i64 b4); replace hB2 := hB2.setCell (p := ⟨w.heap.size + 1, 4, none⟩) (Nat.le_succ _) (.int .i64 b4); replace hcl := hcl.set (a := ⟨w.heap.size + 1, 4, none⟩) (show w.heap.size + 1 < w.heap.size + 1 + 1 by omega) (.int .i64 b4); replace hown := ownsRow_setCell_below (a := ⟨w.heap.size + 1, 4, none⟩) hown (show w.heap.size + 1 < w.heap.size + 1 + 1 by omega) (.int .i64 b4); replace own5 := ownsRow_setCell_below (a := ⟨w.heap.size + 1, 4, none⟩) own5 (show w.heap.size + 1 < w.heap.size + 1 + 1 by omega) (.int .i64 b4)
            replace gK := gK.set_ 5 (.int .i64 b5); replace gT := gT.far (p := ⟨w.heap.size + 1, 5, none⟩) (show w.heap.size ≠ w.heap.size + 1 by omega) (.int .i64 b5); replace hB2 := hB2.setCell (p := ⟨w.heap.size + 1, 5, none⟩) (Nat.le_succ _) (.int .i64 b5); replace hcl := hcl.set (a := ⟨w.heap.size + 1, 5, none⟩) (show w.heap.size + 1 < w.heap.size + 1 + 1 by omega) (.int .i64 b5); replace hown := ownsRow_setCell_below (a := ⟨w.heap.size + 1, 5, none⟩) hown (show w.heap.size + 1 < w.heap.size + 1 + 1 by omega) (.int .i64 b5); replace own5 := ownsRow_setCell_below (a := ⟨w.heap.size + 1, 5, none⟩) own5 (show w.heap.size + 1 < w.heap.size + 1 + 1 by omega) (.int .i64 b5)
            clear hqK hfK hlK
            refine hK _ _ (.inl rfl) ?_
            clear hK K
            try simp only [List.getElem_toArray, List.getElem_cons_zero, List.getElem_cons_succ, Act.put, List.setIfInBounds_toArray, List.set_cons_zero, List.set_cons_succ]
            refine wpG_done (by kernel_rfl) ?_ _
            clear hTT
            go_wp2_with (fail)
            go_roundg (q - (k + 1))
            case measure => rw [HG.out]; omega
            case rel => exact ⟨k + 1, b0, b1, b2, b3, b4, b5, _, us, cls, rfl, .inr (by omega), by go_num, Lib.hid (by have h0 := HST.out; have hl := HKL.out; rw [HK0.out] at h0 hl ⊢; exact HS1.out _ _ h0 hl HNS.out rfl HCN.out), hcl, hown, own5, gT, gK, hB2⟩
          · have hno := HHD.out (by have := HKL.out; rw [HK0.out] at this; exact this) (fun ⟨ms, h1, h2, h3⟩ => h6 (by rw [← h2]; exact (congrArg List.length (dS_map_inj h1 HNS.out (by rw [← h3, HCN.out]))).symm))
            have HNO := Lib.hid hno; clear hno
            have h6i : ((ns.length : Int) != 6) = true := by rw [bne_iff_ne]; omega
            generalize ns.length = nl at *
            go_upto_region 18 with (go_at_call 145; refine (HNUM.out _ htl).mono ?_; rintro e w8 ⟨⟨v8, rfl, own8⟩, hb⟩; obtain ⟨A8, c8, rfl⟩ := own_slice own8; clear own8; replace gT := gT.below hb gT.lt; replace hB2 := hB2.trans (hb.mono hB2.size); clear hb)
            have hqT := fun i => gT.cell i; have hfT := fun i => gT.frozen i; have hlT := gT.lt
            go_wp2_with (fail)
            all_goals
              clear hqT hfT hlT
              replace gT := gT.set_ 0 (.int .i64 0); replace hB2 := hB2.setCell (p := ⟨w.heap.size, 0, none⟩) (Nat.le_refl w.heap.size) (.int .i64 0)
              replace gT := gT.set_ 1 (.int .i64 0); replace hB2 := hB2.setCell (p := ⟨w.heap.size, 1, none⟩) (Nat.le_refl w.heap.size) (.int .i64 0)
              replace gT := gT.set_ 2 (.int .i64 0); replace hB2 := hB2.setCell (p := ⟨w.heap.size, 2, none⟩) (Nat.le_refl w.heap.size) (.int .i64 0)
              replace gT := gT.set_ 3 (.int .i64 0); replace hB2 := hB2.setCell (p := ⟨w.heap.size, 3, none⟩) (Nat.le_refl w.heap.size) (.int .i64 0)
              replace gT := gT.set_ 4 (.int .i64 0); replace hB2 := hB2.setCell (p := ⟨w.heap.size, 4, none⟩) (Nat.le_refl w.heap.size) (.int .i64 0)
              replace gT := gT.set_ 5 (.int .i64 0); replace hB2 := hB2.setCell (p := ⟨w.heap.size, 5, none⟩) (Nat.le_refl w.heap.size) (.int .i64 0)
              replace gT := gT.set_ 6 (.slice none 0 0); replace hB2 := hB2.setCell (p := ⟨w.heap.size, 6, none⟩) (Nat.le_refl w.heap.size) (.slice none 0 0)
              replace gT : Blk ((((((((w8).setCell ⟨w.heap.size, 0, none⟩ (.int .i64 0)).setCell ⟨w.heap.size, 1, none⟩ (.int .i64 0)).setCell ⟨w.heap.size, 2, none⟩ (.int .i64 0)).setCell ⟨w.heap.size, 3, none⟩ (.int .i64 0)).setCell ⟨w.heap.size, 4, none⟩ (.int .i64 0)).setCell ⟨w.heap.size, 5, none⟩ (.int .i64 0)).setCell ⟨w.heap.size, 6, none⟩ (.slice none 0 0)) w.heap.size 121 #[.int .i64 0, .int .i64 0, .int .i64 0, .int .i64 0, .int .i64 0, .int .i64 0, .slice none 0 0] := gT
              generalize (((((((w8).setCell ⟨w.heap.size, 0, none⟩ (.int .i64 0)).setCell ⟨w.heap.size, 1, none⟩ (.int .i64 0)).setCell ⟨w.heap.size, 2, none⟩ (.int .i64 0)).setCell ⟨w.heap.size, 3, none⟩ (.int .i64 0)).setCell ⟨w.heap.size, 4, none⟩ (.int .i64 0)).setCell ⟨w.heap.size, 5, none⟩ (.int .i64 0)).setCell ⟨w.heap.size, 6, none⟩ (.slice none 0 0) = w9 at *
              have hq9 := fun i => gT.cell i
              refine bodyPost_ret (v := .tuple #[.agg #[.int .i64 0, .int .i64 0, .int .i64 0, .int .i64 0, .int .i64 0, .int .i64 0, .slice none 0 0], .bool false]) ?_ rfl ⟨.inr ⟨HNO.out, rfl⟩, hB2⟩
              simp [results, Tryz.results88, go_sem, hq9]
        · have hno := HHD.out (by have := HKL.out; rw [HK0.out] at this; exact this) (fun ⟨ms, h1, _, h3⟩ => hyes ⟨ms, h1, h3⟩)
          have HNO := Lib.hid hno; clear hno
          have hnum2 : ∀ wx : World, Rd wx wx.heap.size 1 (cutA A7 c7 1 1) (n - 1) ((c.drop 1).map Value.string) → Calls Tryz.prog 145 #[.slice (cutA A7 c7 1 1) (n - 1) (c7 - 1), .int .i64 2] wx fun e w' => e = .returned (.tuple #[.slice none 0 0, .bool false]) ∧ Below wx.heap.size wx w' := fun wx hx => (hnum wx hx).mono fun e w' ⟨h, hb⟩ => by
            refine ⟨?_, hb⟩
            rcases h with ⟨ms, v, hms, hw, he, ho⟩ | ⟨_, he⟩
            · exact absurd ⟨ms, hms, hw⟩ hyes
            · exact he
          have HNUM := Lib.hid hnum2; clear hnum hnum2 hyes
          go_upto_region 18 with (go_at_call 145; refine (HNUM.out _ htl).mono ?_; rintro e w8 ⟨rfl, hb⟩; replace gT := gT.below hb gT.lt; replace hB2 := hB2.trans (hb.mono hB2.size); clear hb)
          have hqT := fun i => gT.cell i; have hfT := fun i => gT.frozen i; have hlT := gT.lt
          go_wp2_with (fail)
          all_goals
            clear hqT hfT hlT
            replace gT := gT.set_ 0 (.int .i64 0); replace hB2 := hB2.setCell (p := ⟨w.heap.size, 0, none⟩) (Nat.le_refl w.heap.size) (.int .i64 0)
            replace gT := gT.set_ 1 (.int .i64 0); replace hB2 := hB2.setCell (p := ⟨w.heap.size, 1, none⟩) (Nat.le_refl w.heap.size) (.int .i64 0)
            replace gT := gT.set_ 2 (.int .i64 0); replace hB2 := hB2.setCell (p := ⟨w.heap.size, 2, none⟩) (Nat.le_refl w.heap.size) (.int .i64 0)
            replace gT := gT.set_ 3 (.int .i64 0); replace hB2 := hB2.setCell (p := ⟨w.heap.size, 3, none⟩) (Nat.le_refl w.heap.size) (.int .i64 0)
            replace gT := gT.set_ 4 (.int .i64 0); replace hB2 := hB2.setCell (p := ⟨w.heap.size, 4, none⟩) (Nat.le_refl w.heap.size) (.int .i64 0)
            replace gT := gT.set_ 5 (.int .i64 0); replace hB2 := hB2.setCell (p := ⟨w.heap.size, 5, none⟩) (Nat.le_refl w.heap.size) (.int .i64 0)
            replace gT := gT.set_ 6 (.slice none 0 0); replace hB2 := hB2.setCell (p := ⟨w.heap.size, 6, none⟩) (Nat.le_refl w.heap.size) (.slice none 0 0)
            replace gT : Blk ((((((((w8).setCell ⟨w.heap.size, 0, none⟩ (.int .i64 0)).setCell ⟨w.heap.size, 1, none⟩ (.int .i64 0)).setCell ⟨w.heap.size, 2, none⟩ (.int .i64 0)).setCell ⟨w.heap.size, 3, none⟩ (.int .i64 0)).setCell ⟨w.heap.size, 4, none⟩ (.int .i64 0)).setCell ⟨w.heap.size, 5, none⟩ (.int .i64 0)).setCell ⟨w.heap.size, 6, none⟩ (.slice none 0 0)) w.heap.size 121 #[.int .i64 0, .int .i64 0, .int .i64 0, .int .i64 0, .int .i64 0, .int .i64 0, .slice none 0 0] := gT
            generalize (((((((w8).setCell ⟨w.heap.size, 0, none⟩ (.int .i64 0)).setCell ⟨w.heap.size, 1, none⟩ (.int .i64 0)).setCell ⟨w.heap.size, 2, none⟩ (.int .i64 0)).setCell ⟨w.heap.size, 3, none⟩ (.int .i64 0)).setCell ⟨w.heap.size, 4, none⟩ (.int .i64 0)).setCell ⟨w.heap.size, 5, none⟩ (.int .i64 0)).setCell ⟨w.heap.size, 6, none⟩ (.slice none 0 0) = w9 at *
            have hq9 := fun i => gT.cell i
            refine bodyPost_ret (v := .tuple #[.agg #[.int .i64 0, .int .i64 0, .int .i64 0, .int .i64 0, .int .i64 0, .int .i64 0, .slice none 0 0], .bool false]) ?_ rfl ⟨.inr ⟨HNO.out, rfl⟩, hB2⟩
            simp [results, Tryz.results88, go_sem, hq9]
      · have hkp : (0 : Int) < k := by omega
        by_cases hn2 : n < 2
        · have hn2i : (n : Int) < 2 := by omega
          have hno := HLN.out (by omega) hlt HKL.out (.inl hn2)
          have HNO := Lib.hid hno; clear hno
          have hqT := fun i => gT.cell i; have hfT := fun i => gT.frozen i; have hlT := gT.lt
          go_wp2_with (fail)
          clear hqT hfT hlT
          replace gT := gT.set_ 0 (.int .i64 0); replace hB2 := hB2.setCell (p := ⟨w.heap.size, 0, none⟩) (Nat.le_refl w.heap.size) (.int .i64 0)
          replace gT := gT.set_ 1 (.int .i64 0); replace hB2 := hB2.setCell (p := ⟨w.heap.size, 1, none⟩) (Nat.le_refl w.heap.size) (.int .i64 0)
          replace gT := gT.set_ 2 (.int .i64 0); replace hB2 := hB2.setCell (p := ⟨w.heap.size, 2, none⟩) (Nat.le_refl w.heap.size) (.int .i64 0)
          replace gT := gT.set_ 3 (.int .i64 0); replace hB2 := hB2.setCell (p := ⟨w.heap.size, 3, none⟩) (Nat.le_refl w.heap.size) (.int .i64 0)
          replace gT := gT.set_ 4 (.int .i64 0); replace hB2 := hB2.setCell (p := ⟨w.heap.size, 4, none⟩) (Nat.le_refl w.heap.size) (.int .i64 0)
          replace gT := gT.set_ 5 (.int .i64 0); replace hB2 := hB2.setCell (p := ⟨w.heap.size, 5, none⟩) (Nat.le_refl w.heap.size) (.int .i64 0)
          replace gT := gT.set_ 6 (.slice none 0 0); replace hB2 := hB2.setCell (p := ⟨w.heap.size, 6, none⟩) (Nat.le_refl w.heap.size) (.slice none 0 0)
          replace gT : Blk ((((((((w7).setCell ⟨w.heap.size, 0, none⟩ (.int .i64 0)).setCell ⟨w.heap.size, 1, none⟩ (.int .i64 0)).setCell ⟨w.heap.size, 2, none⟩ (.int .i64 0)).setCell ⟨w.heap.size, 3, none⟩ (.int .i64 0)).setCell ⟨w.heap.size, 4, none⟩ (.int .i64 0)).setCell ⟨w.heap.size, 5, none⟩ (.int .i64 0)).setCell ⟨w.heap.size, 6, none⟩ (.slice none 0 0)) w.heap.size 121 #[.int .i64 0, .int .i64 0, .int .i64 0, .int .i64 0, .int .i64 0, .int .i64 0, .slice none 0 0] := gT
          generalize (((((((w7).setCell ⟨w.heap.size, 0, none⟩ (.int .i64 0)).setCell ⟨w.heap.size, 1, none⟩ (.int .i64 0)).setCell ⟨w.heap.size, 2, none⟩ (.int .i64 0)).setCell ⟨w.heap.size, 3, none⟩ (.int .i64 0)).setCell ⟨w.heap.size, 4, none⟩ (.int .i64 0)).setCell ⟨w.heap.size, 5, none⟩ (.int .i64 0)).setCell ⟨w.heap.size, 6, none⟩ (.slice none 0 0) = w9 at *
          have hq9 := fun i => gT.cell i
          refine bodyPost_ret (v := .tuple #[.agg #[.int .i64 0, .int .i64 0, .int .i64 0, .int .i64 0, .int .i64 0, .int .i64 0, .slice none 0 0], .bool false]) ?_ rfl ⟨.inr ⟨HNO.out, rfl⟩, hB2⟩
          simp [results, Tryz.results88, go_sem, hq9]
        · have hn2i : ¬ (n : Int) < 2 := by omega
          clear htl
          obtain ⟨g7, cap7, e7, hg7, hcap7⟩ := own7.form (by omega)
          cases e7
          have hcA : cutA (some ⟨g7, 0, none⟩) c7 1 1 = some ⟨g7, 1, none⟩ := by unfold cutA; rw [if_neg (by omega)]; rfl
          rw [hcA] at hsl
          clear hcA
          have hwd : ∀ t, t < n → ∃ x, c[t]? = some x ∧ x ∈ c ∧ w7.cell? ⟨g7, t, none⟩ = some (.string x) := fun t ht => by
            obtain ⟨_, _, hz, e1, _, hx⟩ := hr7.atm ht
            cases e1
            exact ⟨c[t], List.getElem?_eq_getElem hz, List.getElem_mem hz, by rw [Nat.zero_add] at hx; exact hx⟩
          have HWD := Lib.hid hwd; clear hwd
          go_upto_region 10 with (fail)
          go_wp2_with (fail)
          go_loop [8] (fun j => ∃ t : Nat, 1 ≤ t ∧ t ≤ n ∧ j = .int .i64 t ∧ Hid (∀ p x, 1 ≤ p → p < t → c[p]? = some x → x ≠ ⟨#[]⟩)) (fun j => n - (Go.RowKit.intOf j).toNat)
          case atStart => exact ⟨1, Nat.le_refl _, by omega, rfl, Lib.hid (fun p x h1 h2 => absurd h2 (by omega))⟩
          case round =>
            obtain ⟨t, ht1, htn, rfl, HALL⟩ := hrel
            by_cases htl : t < n
            · have htli : (t : Int) < n := by omega
              obtain ⟨x, hx1, hx2, hx3⟩ := HWD.out t htl
              have HX1 := Lib.hid hx1; have HX2 := Lib.hid hx2; clear hx1 hx2
              by_cases hxe : x = ⟨#[]⟩
              · have hno := HLN.out (by omega) hlt HKL.out (.inr ⟨x, by
                  refine List.mem_iff_getElem?.2 ⟨t - 1, ?_⟩
                  rw [List.getElem?_drop, show 1 + (t - 1) = t by omega]
                  exact HX1.out, hxe⟩)
                have HNO := Lib.hid hno; clear hno
                subst hxe
                have hqT := fun i => gT.cell i; have hfT := fun i => gT.frozen i; have hlT := gT.lt
                go_wp2_with (fail)
                clear hqT hfT hlT
                replace gT := gT.set_ 0 (.int .i64 0); replace hB2 := hB2.setCell (p := ⟨w.heap.size, 0, none⟩) (Nat.le_refl w.heap.size) (.int .i64 0)
                replace gT := gT.set_ 1 (.int .i64 0); replace hB2 := hB2.setCell (p := ⟨w.heap.size, 1, none⟩) (Nat.le_refl w.heap.size) (.int .i64 0)
                replace gT := gT.set_ 2 (.int .i64 0); replace hB2 := hB2.setCell (p := ⟨w.heap.size, 2, none⟩) (Nat.le_refl w.heap.size) (.int .i64 0)
                replace gT := gT.set_ 3 (.int .i64 0); replace hB2 := hB2.setCell (p := ⟨w.heap.size, 3, none⟩) (Nat.le_refl w.heap.size) (.int .i64 0)
                replace gT := gT.set_ 4 (.int .i64 0); replace hB2 := hB2.setCell (p := ⟨w.heap.size, 4, none⟩) (Nat.le_refl w.heap.size) (.int .i64 0)
                replace gT := gT.set_ 5 (.int .i64 0); replace hB2 := hB2.setCell (p := ⟨w.heap.size, 5, none⟩) (Nat.le_refl w.heap.size) (.int .i64 0)
                replace gT := gT.set_ 6 (.slice none 0 0); replace hB2 := hB2.setCell (p := ⟨w.heap.size, 6, none⟩) (Nat.le_refl w.heap.size) (.slice none 0 0)
                replace gT : Blk ((((((((w7).setCell ⟨w.heap.size, 0, none⟩ (.int .i64 0)).setCell ⟨w.heap.size, 1, none⟩ (.int .i64 0)).setCell ⟨w.heap.size, 2, none⟩ (.int .i64 0)).setCell ⟨w.heap.size, 3, none⟩ (.int .i64 0)).setCell ⟨w.heap.size, 4, none⟩ (.int .i64 0)).setCell ⟨w.heap.size, 5, none⟩ (.int .i64 0)).setCell ⟨w.heap.size, 6, none⟩ (.slice none 0 0)) w.heap.size 121 #[.int .i64 0, .int .i64 0, .int .i64 0, .int .i64 0, .int .i64 0, .int .i64 0, .slice none 0 0] := gT
                generalize (((((((w7).setCell ⟨w.heap.size, 0, none⟩ (.int .i64 0)).setCell ⟨w.heap.size, 1, none⟩ (.int .i64 0)).setCell ⟨w.heap.size, 2, none⟩ (.int .i64 0)).setCell ⟨w.heap.size, 3, none⟩ (.int .i64 0)).setCell ⟨w.heap.size, 4, none⟩ (.int .i64 0)).setCell ⟨w.heap.size, 5, none⟩ (.int .i64 0)).setCell ⟨w.heap.size, 6, none⟩ (.slice none 0 0) = w9 at *
                have hq9 := fun i => gT.cell i
                refine bodyPost_ret (v := .tuple #[.agg #[.int .i64 0, .int .i64 0, .int .i64 0, .int .i64 0, .int .i64 0, .int .i64 0, .slice none 0 0], .bool false]) ?_ rfl ⟨.inr ⟨HNO.out, rfl⟩, hB2⟩
                simp [results, Tryz.results88, go_sem, hq9]
              · have hxl : x.toList ≠ [] := fun e => hxe (ByteArray.ext (Array.toList_inj.1 (by rw [ByteArray.toList_eq] at e; exact e)))
                have hxb : x.toList.isEmpty = false := by rw [List.isEmpty_eq_false_iff]; exact hxl
                have hxc : (x.toList == []) = false := by rw [beq_eq_false_iff_ne]; exact hxl
                have HXE := Lib.hid hxe; clear hxe
                go_wp2_with (fail)
                go_round
                case rel =>
                  refine ⟨t + 1, by omega, by omega, by go_num, Lib.hid (fun p y h1 h2 hy => ?_)⟩
                  by_cases hp : p < t
                  · exact HALL.out p y h1 hp hy
                  · obtain rfl : p = t := by omega
                    rw [HX1.out] at hy
                    cases hy
                    exact HXE.out
                case measure => simp [Go.RowKit.intOf]; omega
            · have htge : ¬ (t : Int) < n := by omega
              have hgood : ∀ x ∈ c.drop 1, x ≠ ⟨#[]⟩ := fun x hx => by
                obtain ⟨j, hj⟩ := List.mem_iff_getElem?.1 hx
                rw [List.getElem?_drop] at hj
                have hjl := (List.getElem?_eq_some_iff.1 hj).1
                exact HALL.out (1 + j) x (by omega) (by have := HN.out; omega) hj
              have hst2 := HS2.out [a0, a1, a2, a3, a4, a5] HST.out (by omega) HKL.out (by omega) hgood
              have HST2 := Lib.hid hst2; clear hst2 hgood
              go_upto_region 15 with (fail)
              rename World => WR
              refine wp_region_G (fun w' => Blk w' (w.heap.size + 1) 121 #[.int .i64 a0, .int .i64 a1, .int .i64 a2, .int .i64 a3, .int .i64 a4, .int .i64 a5, .slice va us.length vc]) 8 (by kernel_rfl) ?_
              replace gT := gT.drew
              replace gK := gK.drew
              replace own5 := own5.drew
              replace hown := hown.drew
              replace hcl := hcl.drew
              replace hB2 := hB2.drew
              replace own7 := own7.drew
              generalize WR.drew = WD at *
              have hTT : Blk WD (w.heap.size + 1) 121 #[.int .i64 a0, .int .i64 a1, .int .i64 a2, .int .i64 a3, .int .i64 a4, .int .i64 a5, .slice va us.length vc] := gK
              refine wpG_take (i := 0) (v := ?vq0) rfl (by kernel_rfl) (by kernel_rfl) (by kernel_rfl) (by kernel_rfl) (fun _ _ _ h => h) (Or.inl ⟨by rfl, ?hyq0⟩) hTT ?restq0
              case hyq0 => intro wq hSw; have hqK := fun i => hSw.cell i; go_simp <;> with_reducible rfl
              simp only [List.getElem_toArray, List.getElem_cons_zero, List.getElem_cons_succ, Act.put, List.setIfInBounds_toArray, List.set_cons_zero, List.set_cons_succ]
              refine wpG_take (i := 1) (v := ?vq1) rfl (by kernel_rfl) (by kernel_rfl) (by kernel_rfl) (by kernel_rfl) (fun _ _ _ h => h) (Or.inl ⟨by rfl, ?hyq1⟩) hTT ?restq1
              case hyq1 => intro wq hSw; have hqK := fun i => hSw.cell i; go_simp <;> with_reducible rfl
              simp only [List.getElem_toArray, List.getElem_cons_zero, List.getElem_cons_succ, Act.put, List.setIfInBounds_toArray, List.set_cons_zero, List.set_cons_succ]
              refine wpG_take (i := 2) (v := ?vq2) rfl (by kernel_rfl) (by kernel_rfl) (by kernel_rfl) (by kernel_rfl) (fun _ _ _ h => h) (Or.inl ⟨by rfl, ?hyq2⟩) hTT ?restq2
              case hyq2 => intro wq hSw; have hqK := fun i => hSw.cell i; go_simp <;> with_reducible rfl
              simp only [List.getElem_toArray, List.getElem_cons_zero, List.getElem_cons_succ, Act.put, List.setIfInBounds_toArray, List.set_cons_zero, List.set_cons_succ]
              refine wpG_take (i := 3) (v := ?vq3) rfl (by kernel_rfl) (by kernel_rfl) (by kernel_rfl) (by kernel_rfl) (fun _ _ _ h => h) (Or.inl ⟨by rfl, ?hyq3⟩) hTT ?restq3
              case hyq3 => intro wq hSw; have hqK := fun i => hSw.cell i; go_simp <;> with_reducible rfl
              simp only [List.getElem_toArray, List.getElem_cons_zero, List.getElem_cons_succ, Act.put, List.setIfInBounds_toArray, List.set_cons_zero, List.set_cons_succ]
              refine wpG_take (i := 4) (v := ?vq4) rfl (by kernel_rfl) (by kernel_rfl) (by kernel_rfl) (by kernel_rfl) (fun _ _ _ h => h) (Or.inl ⟨by rfl, ?hyq4⟩) hTT ?restq4
              case hyq4 => intro wq hSw; have hqK := fun i => hSw.cell i; go_simp <;> with_reducible rfl
              simp only [List.getElem_toArray, List.getElem_cons_zero, List.getElem_cons_succ, Act.put, List.setIfInBounds_toArray, List.set_cons_zero, List.set_cons_succ]
              refine wpG_one (i := 5) rfl (by kernel_rfl) (fun K hK => ?_)
              go_simp
              replace gT := gT.alloc (.cells #[.slice (some ⟨g7, 1, none⟩) (n - 1) (c7 - 1)] 26)
              replace gK := gK.alloc (.cells #[.slice (some ⟨g7, 1, none⟩) (n - 1) (c7 - 1)] 26)
              replace own5 := own5.alloc (.cells #[.slice (some ⟨g7, 1, none⟩) (n - 1) (c7 - 1)] 26)
              replace hown := hown.alloc (.cells #[.slice (some ⟨g7, 1, none⟩) (n - 1) (c7 - 1)] 26)
              replace hcl := hcl.alloc (.cells #[.slice (some ⟨g7, 1, none⟩) (n - 1) (c7 - 1)] 26)
              replace own7 := own7.alloc (.cells #[.slice (some ⟨g7, 1, none⟩) (n - 1) (c7 - 1)] 26)
              have hBo := hB2
              replace hB2 := hB2.alloc hB2.size (.cells #[.slice (some ⟨g7, 1, none⟩) (n - 1) (c7 - 1)] 26)
              clear hTT; have hTT := gK
              refine hK _ _ (.inr hTT) ?_
              clear hK K
              try simp only [List.getElem_toArray, List.getElem_cons_zero, List.getElem_cons_succ, Act.put, List.setIfInBounds_toArray, List.set_cons_zero, List.set_cons_succ]
              refine wpG_one (i := 6) rfl (by kernel_rfl) (fun K hK => ?_)
              rw [if_pos (by rfl)]; refine wp_append_any _ _ _ 51 rfl (w.heap.size + 1 + 1) 26 i26 (.agg #[.slice none 0 0]) 1 24 Tryz.underlying51 hi hz0 hz1' hz2' rfl (by decide) _ us.length (us.map tail1) rfl hown (WD.heap.size + 1) (some ⟨WD.heap.size, 0, none⟩) 1 1 [.slice (some ⟨g7, 1, none⟩) (n - 1) (c7 - 1)] rfl (Rd.blkN (Blk.new _ _ _) rfl (Nat.lt_succ_self _)).reads (by simp [Value.oneCell']) (by unfold maxLen; omega) (by omega) (by have := gK.lt; simp only [World.size_alloc] at this ⊢; omega) (fun v' w' hown' hgrow hob => ?_)
              obtain ⟨pA, pC, rfl⟩ := own_slice hown'
              replace hcl := hcl.kept hown (by decide) hgrow
              replace own7 := own7.kept hgrow (own_ne own7 hown (by decide))
              replace own5 := own5.kept hgrow (own_ne own5 hown (by decide))
              replace gT := gT.kept_own hown (by decide) hgrow
              replace gK := gK.kept_own hown (by decide) hgrow
              replace hB2 := hB2.grown hgrow hB2.size (fun g hg => by have := (hown.lt g hg).1; omega)
              clear hTT; have hTT := gK
              refine hK _ _ (.inr hTT) ?_
              clear hK K
              try simp only [List.getElem_toArray, List.getElem_cons_zero, List.getElem_cons_succ, Act.put, List.setIfInBounds_toArray, List.set_cons_zero, List.set_cons_succ]
              refine wpG_take (i := 7) (v := ?vq7) rfl (by kernel_rfl) (by kernel_rfl) (by kernel_rfl) (by kernel_rfl) (fun _ _ _ h => h) (Or.inl ⟨by rfl, ?hyq7⟩) hTT ?restq7
              case hyq7 => intro wq hSw; have hqK := fun i => hSw.cell i; go_simp <;> with_reducible rfl
              simp only [List.getElem_toArray, List.getElem_cons_zero, List.getElem_cons_succ, Act.put, List.setIfInBounds_toArray, List.set_cons_zero, List.set_cons_succ]
              refine wpG_one (i := 8) rfl (by kernel_rfl) (fun K hK => ?_)
              have hqK := fun i => gK.cell i; have hfK := fun i => gK.frozen i; have hlK := gK.lt
              go_simp
              clear hqK hfK hlK
              replace gK := gK.set_ 6 (.slice pA (us.length + 1) pC); replace gT := gT.far (p := ⟨w.heap.size + 1, 6, none⟩) (show w.heap.size ≠ w.heap.size + 1 by omega) (.slice pA (us.length + 1) pC); replace hB2 := hB2.setCell (p := ⟨w.heap.size + 1, 6, none⟩) (Nat.le_succ _) (.slice pA (us.length + 1) pC); replace hcl := hcl.set (a := ⟨w.heap.size + 1, 6, none⟩) (show w.heap.size + 1 < w.heap.size + 1 + 1 by omega) (.slice pA (us.length + 1) pC); replace hown' := ownsRow_setCell_below (a := ⟨w.heap.size + 1, 6, none⟩) hown' (show w.heap.size + 1 < w.heap.size + 1 + 1 by omega) (.slice pA (us.length + 1) pC); replace own5 := ownsRow_setCell_below (a := ⟨w.heap.size + 1, 6, none⟩) own5 (show w.heap.size + 1 < w.heap.size + 1 + 1 by omega) (.slice pA (us.length + 1) pC); replace own7 := ownsRow_setCell_below (a := ⟨w.heap.size + 1, 6, none⟩) own7 (show w.heap.size + 1 < w.heap.size + 1 + 1 by omega) (.slice pA (us.length + 1) pC)
              refine hK _ _ (.inl rfl) ?_
              clear hK K
              try simp only [List.getElem_toArray, List.getElem_cons_zero, List.getElem_cons_succ, Act.put, List.setIfInBounds_toArray, List.set_cons_zero, List.set_cons_succ]
              refine wpG_done (by kernel_rfl) ?_ _
              clear hTT
              go_wp2_with (fail)
              go_roundg (q - (k + 1))
              case measure => rw [HG.out]; omega
              case rel => exact ⟨k + 1, a0, a1, a2, a3, a4, a5, _, us ++ [.slice (some ⟨g7, 0, none⟩) n c7], cls ++ [c], rfl, .inr (by omega), by go_num, HST2, hcl.snoc (by rw [← HN.out]; exact own7), by rw [List.length_append, List.map_append]; exact hown', own5, gT, gK, hB2⟩
    · have hgei : ¬ (k : Int) < (q : Int) - 2 := by omega
      have hcls : ∀ c ∈ cls, 2 ≤ c.length ∧ c.length ≤ 601 ∧ (∀ r ∈ c, r.size ≤ 600) ∧ (lineS wFigure (c.drop 1)).size ≤ 607 := fun c hc => by
        obtain ⟨j, hj⟩ := List.mem_iff_getElem?.1 hc
        obtain ⟨l, e1, e2, e3, _⟩ := HST.out.2.1 j c hj
        have hl := HL2.out l (List.mem_of_getElem? e1)
        have hz := cutB_size 32 l
        rw [e2] at hz
        exact ⟨e3, by omega, fun r hr => Nat.le_trans (hz.2 r hr) (by omega), Nat.le_trans (line_small e2 e3) (by omega)⟩
      have hft := fun (wx : World) (h : Cloths wx (w.heap.size + 1 + 1) us cls) => figs_tail h (fun c hc => by have := hcls c hc; omega) (fun c hc r hr => by have := (hcls c hc).2.2.1 r hr; unfold maxLen; omega)
      obtain ⟨S, hS, hpr⟩ := refPrint_lines a0 a1 a2 a3 a4 a5 HST.out.2.2.2.1 (cls.map (·.drop 1)) (by rw [List.length_map]; have := HCLK.out; omega) (fun rows hr => by
        obtain ⟨c, hc, rfl⟩ := List.mem_map.1 hr
        obtain ⟨h1, h2, h3, h4⟩ := hcls c hc
        exact ⟨by rw [List.length_drop]; omega, by rw [List.length_drop]; omega, fun r hr => Nat.le_trans (h3 r (List.mem_of_mem_drop hr)) (by omega), by omega⟩)
      obtain ⟨gs, eg1, eg2, hgs⟩ := hft wr hcl
      have hprint := hpr va us.length vc gs wr eg2 hgs (by rw [eg1]; exact Rd.of_own hown)
      obtain ⟨tx, htx⟩ : ∃ tx, tx = textS (linesR [a0, a1, a2, a3, a4, a5] (cls.map (·.drop 1))) S := ⟨_, rfl⟩
      rw [← htx] at hprint
      have HS := Lib.hid hS; have HTX := Lib.hid htx; have HFT := Lib.hid hft
      clear hS htx hft hpr hcls eg1 eg2 hgs
      by_cases heq : tx = s
      · subst heq
        have hk1 : 1 ≤ k ∧ q = k + 2 := by
          by_cases hk0 : k = 0
          · exfalso
            have hc0 : cls = [] := List.length_eq_zero_iff.1 (by have := HCLK.out; omega)
            have h1 := HS.out; have h2 := HTX.out
            rw [hc0] at h1 h2
            have h3 := HEND.out a0 a1 a2 a3 a4 a5 S HST.out.2.2.2.1 h1 h2
            have h4 : q = 3 := by rw [HQ.out, h3]; rfl
            omega
          · omega
        have hrl := HLINES.out k [a0, a1, a2, a3, a4, a5] cls HST.out hk1.1 hk1.2
        have HRL := Lib.hid hrl; clear hrl hk1
        have hqK := fun i => gK.cell i; have hfK := fun i => gK.frozen i; have hlK := gK.lt
        go_wp2_with (go_at_call 86; refine hprint.mono ?_; rintro e w8 ⟨rfl, hb⟩; clear hqK hfK hlK; replace hown := ownsRow_below' hown hb; replace hcl := hcl.below hb; replace gT := gT.below hb gT.lt; replace gK := gK.below hb gK.lt; replace hB2 := hB2.trans (hb.mono hB2.size); clear hb hprint; have hqK := fun i => gK.cell i; have hfK := fun i => gK.frozen i; have hlK := gK.lt; have hqT := fun i => gT.cell i; have hfT := fun i => gT.frozen i; have hlT := gT.lt)
        clear hqT hfT hlT hqK hfK hlK
        replace gT := gT.set_ 0 (.int .i64 a0); replace hB2 := hB2.setCell (p := ⟨w.heap.size, 0, none⟩) (Nat.le_refl w.heap.size) (.int .i64 a0); replace hcl := hcl.set (a := ⟨w.heap.size, 0, none⟩) (show w.heap.size < w.heap.size + 1 + 1 by omega) (.int .i64 a0); replace hown := ownsRow_setCell_below (a := ⟨w.heap.size, 0, none⟩) hown (show w.heap.size < w.heap.size + 1 + 1 by omega) (.int .i64 a0)
        replace gT := gT.set_ 1 (.int .i64 a1); replace hB2 := hB2.setCell (p := ⟨w.heap.size, 1, none⟩) (Nat.le_refl w.heap.size) (.int .i64 a1); replace hcl := hcl.set (a := ⟨w.heap.size, 1, none⟩) (show w.heap.size < w.heap.size + 1 + 1 by omega) (.int .i64 a1); replace hown := ownsRow_setCell_below (a := ⟨w.heap.size, 1, none⟩) hown (show w.heap.size < w.heap.size + 1 + 1 by omega) (.int .i64 a1)
        replace gT := gT.set_ 2 (.int .i64 a2); replace hB2 := hB2.setCell (p := ⟨w.heap.size, 2, none⟩) (Nat.le_refl w.heap.size) (.int .i64 a2); replace hcl := hcl.set (a := ⟨w.heap.size, 2, none⟩) (show w.heap.size < w.heap.size + 1 + 1 by omega) (.int .i64 a2); replace hown := ownsRow_setCell_below (a := ⟨w.heap.size, 2, none⟩) hown (show w.heap.size < w.heap.size + 1 + 1 by omega) (.int .i64 a2)
        replace gT := gT.set_ 3 (.int .i64 a3); replace hB2 := hB2.setCell (p := ⟨w.heap.size, 3, none⟩) (Nat.le_refl w.heap.size) (.int .i64 a3); replace hcl := hcl.set (a := ⟨w.heap.size, 3, none⟩) (show w.heap.size < w.heap.size + 1 + 1 by omega) (.int .i64 a3); replace hown := ownsRow_setCell_below (a := ⟨w.heap.size, 3, none⟩) hown (show w.heap.size < w.heap.size + 1 + 1 by omega) (.int .i64 a3)
        replace gT := gT.set_ 4 (.int .i64 a4); replace hB2 := hB2.setCell (p := ⟨w.heap.size, 4, none⟩) (Nat.le_refl w.heap.size) (.int .i64 a4); replace hcl := hcl.set (a := ⟨w.heap.size, 4, none⟩) (show w.heap.size < w.heap.size + 1 + 1 by omega) (.int .i64 a4); replace hown := ownsRow_setCell_below (a := ⟨w.heap.size, 4, none⟩) hown (show w.heap.size < w.heap.size + 1 + 1 by omega) (.int .i64 a4)
        replace gT := gT.set_ 5 (.int .i64 a5); replace hB2 := hB2.setCell (p := ⟨w.heap.size, 5, none⟩) (Nat.le_refl w.heap.size) (.int .i64 a5); replace hcl := hcl.set (a := ⟨w.heap.size, 5, none⟩) (show w.heap.size < w.heap.size + 1 + 1 by omega) (.int .i64 a5); replace hown := ownsRow_setCell_below (a := ⟨w.heap.size, 5, none⟩) hown (show w.heap.size < w.heap.size + 1 + 1 by omega) (.int .i64 a5)
        replace gT := gT.set_ 6 (.slice va us.length vc); replace hB2 := hB2.setCell (p := ⟨w.heap.size, 6, none⟩) (Nat.le_refl w.heap.size) (.slice va us.length vc); replace hcl := hcl.set (a := ⟨w.heap.size, 6, none⟩) (show w.heap.size < w.heap.size + 1 + 1 by omega) (.slice va us.length vc); replace hown := ownsRow_setCell_below (a := ⟨w.heap.size, 6, none⟩) hown (show w.heap.size < w.heap.size + 1 + 1 by omega) (.slice va us.length vc)
        replace gT : Blk ((((((((w8).setCell ⟨w.heap.size, 0, none⟩ (.int .i64 a0)).setCell ⟨w.heap.size, 1, none⟩ (.int .i64 a1)).setCell ⟨w.heap.size, 2, none⟩ (.int .i64 a2)).setCell ⟨w.heap.size, 3, none⟩ (.int .i64 a3)).setCell ⟨w.heap.size, 4, none⟩ (.int .i64 a4)).setCell ⟨w.heap.size, 5, none⟩ (.int .i64 a5)).setCell ⟨w.heap.size, 6, none⟩ (.slice va us.length vc)) w.heap.size 121 #[.int .i64 a0, .int .i64 a1, .int .i64 a2, .int .i64 a3, .int .i64 a4, .int .i64 a5, .slice va us.length vc] := gT
        generalize (((((((w8).setCell ⟨w.heap.size, 0, none⟩ (.int .i64 a0)).setCell ⟨w.heap.size, 1, none⟩ (.int .i64 a1)).setCell ⟨w.heap.size, 2, none⟩ (.int .i64 a2)).setCell ⟨w.heap.size, 3, none⟩ (.int .i64 a3)).setCell ⟨w.heap.size, 4, none⟩ (.int .i64 a4)).setCell ⟨w.heap.size, 5, none⟩ (.int .i64 a5)).setCell ⟨w.heap.size, 6, none⟩ (.slice va us.length vc) = w9 at *
        have hq9 := fun i => gT.cell i
        obtain ⟨gs, eg1, eg2, hgs⟩ := HFT.out w9 hcl
        have hul : us.length = (cls.map (·.drop 1)).length := by rw [List.length_map, HUS.out]
        refine bodyPost_ret (v := .tuple #[.agg #[.int .i64 a0, .int .i64 a1, .int .i64 a2, .int .i64 a3, .int .i64 a4, .int .i64 a5, .slice va us.length vc], .bool true]) ?_ rfl ⟨.inl ⟨a0, a1, a2, a3, a4, a5, S, cls.map (·.drop 1), va, vc, gs, HRL.out, HS.out, HTX.out, by rw [← hul], eg2, hgs, by rw [← hul, eg1]; exact Rd.of_own hown⟩, hB2⟩
        simp [results, Tryz.results88, go_sem, hq9]
      · have hno : NoT s := by
          by_cases hk1 : 1 ≤ k
          · have hq2 : q = k + 2 := by omega
            intro a rl hr S' hS' e
            obtain ⟨rfl, rfl⟩ := HUNI.out k [a0, a1, a2, a3, a4, a5] cls HST.out hk1 hq2 a rl hr
            have h1 := HS.out
            rw [hS'] at h1
            have h2 : S' = S := by omega
            subst h2
            exact heq (by rw [HTX.out, ← e])
          · exact HFEW.out (by omega)
        have HNO := Lib.hid hno; clear hno
        have hne : (tx.toList == s.toList) = false := by
          rw [beq_eq_false_iff_ne, ByteArray.toList_eq, ByteArray.toList_eq]
          exact fun e => heq (ByteArray.ext (Array.toList_inj.1 e))
        clear heq
        have hqK := fun i => gK.cell i; have hfK := fun i => gK.frozen i; have hlK := gK.lt
        go_upto_region 21 with (go_at_call 86; refine hprint.mono ?_; rintro e w8 ⟨rfl, hb⟩; replace gT := gT.below hb gT.lt; replace hB2 := hB2.trans (hb.mono hB2.size); clear hb hqK hfK hlK)
        clear hprint
        have hqT := fun i => gT.cell i; have hfT := fun i => gT.frozen i; have hlT := gT.lt
        go_wp2_with (fail)
        clear hqT hfT hlT
        replace gT := gT.set_ 0 (.int .i64 0); replace hB2 := hB2.setCell (p := ⟨w.heap.size, 0, none⟩) (Nat.le_refl w.heap.size) (.int .i64 0)
        replace gT := gT.set_ 1 (.int .i64 0); replace hB2 := hB2.setCell (p := ⟨w.heap.size, 1, none⟩) (Nat.le_refl w.heap.size) (.int .i64 0)
        replace gT := gT.set_ 2 (.int .i64 0); replace hB2 := hB2.setCell (p := ⟨w.heap.size, 2, none⟩) (Nat.le_refl w.heap.size) (.int .i64 0)
        replace gT := gT.set_ 3 (.int .i64 0); replace hB2 := hB2.setCell (p := ⟨w.heap.size, 3, none⟩) (Nat.le_refl w.heap.size) (.int .i64 0)
        replace gT := gT.set_ 4 (.int .i64 0); replace hB2 := hB2.setCell (p := ⟨w.heap.size, 4, none⟩) (Nat.le_refl w.heap.size) (.int .i64 0)
        replace gT := gT.set_ 5 (.int .i64 0); replace hB2 := hB2.setCell (p := ⟨w.heap.size, 5, none⟩) (Nat.le_refl w.heap.size) (.int .i64 0)
        replace gT := gT.set_ 6 (.slice none 0 0); replace hB2 := hB2.setCell (p := ⟨w.heap.size, 6, none⟩) (Nat.le_refl w.heap.size) (.slice none 0 0)
        replace gT : Blk ((((((((w8).setCell ⟨w.heap.size, 0, none⟩ (.int .i64 0)).setCell ⟨w.heap.size, 1, none⟩ (.int .i64 0)).setCell ⟨w.heap.size, 2, none⟩ (.int .i64 0)).setCell ⟨w.heap.size, 3, none⟩ (.int .i64 0)).setCell ⟨w.heap.size, 4, none⟩ (.int .i64 0)).setCell ⟨w.heap.size, 5, none⟩ (.int .i64 0)).setCell ⟨w.heap.size, 6, none⟩ (.slice none 0 0)) w.heap.size 121 #[.int .i64 0, .int .i64 0, .int .i64 0, .int .i64 0, .int .i64 0, .int .i64 0, .slice none 0 0] := gT
        generalize (((((((w8).setCell ⟨w.heap.size, 0, none⟩ (.int .i64 0)).setCell ⟨w.heap.size, 1, none⟩ (.int .i64 0)).setCell ⟨w.heap.size, 2, none⟩ (.int .i64 0)).setCell ⟨w.heap.size, 3, none⟩ (.int .i64 0)).setCell ⟨w.heap.size, 4, none⟩ (.int .i64 0)).setCell ⟨w.heap.size, 5, none⟩ (.int .i64 0)).setCell ⟨w.heap.size, 6, none⟩ (.slice none 0 0) = w9 at *
        have hq9 := fun i => gT.cell i
        refine bodyPost_ret (v := .tuple #[.agg #[.int .i64 0, .int .i64 0, .int .i64 0, .int .i64 0, .int .i64 0, .int .i64 0, .slice none 0 0], .bool false]) ?_ rfl ⟨.inr ⟨HNO.out, rfl⟩, hB2⟩
        simp [results, Tryz.results88, go_sem, hq9]
end
end Go.Proofs.YtifddfchpknkbaaGreatDoor
