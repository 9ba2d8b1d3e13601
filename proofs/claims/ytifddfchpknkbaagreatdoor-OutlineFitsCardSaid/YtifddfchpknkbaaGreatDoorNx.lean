import Derived.Test.YtifddfchpknkbaaGreatDoorBC
set_option linter.unusedVariables false
set_option linter.unusedSimpArgs false
namespace Go.Proofs.YtifddfchpknkbaaGreatDoor
open Go.RowKit Go.Maps

theorem size_le_alloc (z : World) (o : Obj) : z.heap.size ≤ (z.alloc o).heap.size := by simp
theorem own_le {w : World} {base sz n c : Nat} {e : TypeId} {A : Option Addr} {xs : List Value} (h : w.ownsRow base e sz (.slice A n c) n xs) (h0 : 0 < n) : n ≤ c := by
  rcases h.2 with ⟨_, h1⟩ | ⟨g, cap, cur, hv, _, _, hc, _⟩
  · omega
  · injection hv with _ _ h3
    omega
def unseenI (rs : List ByteArray) : List Int := (unseenL (flatS rs)).map fun n : Nat => (n : Int)
def nextE (W H F L X Y nl nh xl xh y : Int) (fs : List Fig) (rs : List ByteArray) : Int := if goodQ W H F L X Y nl nh xl xh y fs rs then (if (agL W H F L X Y nl nh xl xh y fs rs).length = 0 then 7 else if (unseenL (flatS rs)).length = 0 then 5 else 0) else 2
/-- The cell to be looked at next, and how many figures may be seen then at most. -/
def nextP (W H F L X Y nl nh xl xh y : Int) (fs : List Fig) (rs : List ByteArray) : Int × Int :=
  if goodQ W H F L X Y nl nh xl xh y fs rs then (if (agL W H F L X Y nl nh xl xh y fs rs).length = 0 then (0, 0) else match unseenI rs with
    | [] => (0, 0)
    | c0 :: cs => bestP (fun c => (mostN (agL W H F L X Y nl nh xl xh y fs rs) c.toNat : Int)) c0 cs) else (0, 0)
theorem unseenL_lt {s : ByteArray} {c : Nat} (h : c ∈ unseenL s) : c < s.size := List.mem_range.1 (List.mem_filter.1 h).1
theorem unseenL_len (s : ByteArray) : (unseenL s).length ≤ s.size := Nat.le_trans (List.length_filter_le _ _) (by simp)

set_option maxRecDepth 100000 in
set_option maxHeartbeats 1600000 in
theorem Next_any (W H F L X Y nl nh xl xh y : Int) (A : Option Addr) (n cap : Nat) (fs : List Fig) (SA : Option Addr) (sn scap : Nat) (rs : List ByteArray) (w : World) (hn : n ≤ cap) (hcm : cap ≤ maxLen) (hf : ∀ f ∈ fs, f.ok w w.heap.size) (hr : Rd w w.heap.size 1 A n (fs.map Fig.val)) (hsn : sn ≤ scap) (hscm : scap ≤ maxLen) (hss : ∀ r ∈ rs, r.size ≤ maxLen) (hsr : Rd w w.heap.size 1 SA sn (rs.map Value.string)) :
    Calls Tryz.prog 63 #[.agg #[.int .i64 W, .int .i64 H, .int .i64 F, .int .i64 L, .int .i64 X, .int .i64 Y], .slice A n cap, .agg #[.int .i64 nl, .int .i64 nh, .int .i64 xl, .int .i64 xh, .int .i64 y], .slice SA sn scap] w fun e w' => e = .returned (.tuple #[.int .i64 (nextP W H F L X Y nl nh xl xh y fs rs).1, .int .i64 (nextP W H F L X Y nl nh xl xh y fs rs).2, .int .i64 (nextE W H F L X Y nl nh xl xh y fs rs)]) ∧ Below w.heap.size w w' := by
  have hA : Blk ((w.alloc (.cells #[.int .i64 W, .int .i64 H, .int .i64 F, .int .i64 L, .int .i64 X, .int .i64 Y] 23)).alloc (.cells #[.int .i64 nl, .int .i64 nh, .int .i64 xl, .int .i64 xh, .int .i64 y] 71)) w.heap.size 23 #[.int .i64 W, .int .i64 H, .int .i64 F, .int .i64 L, .int .i64 X, .int .i64 Y] := (Blk.new w 23 #[.int .i64 W, .int .i64 H, .int .i64 F, .int .i64 L, .int .i64 X, .int .i64 Y]).alloc _
  have hBk : Blk ((w.alloc (.cells #[.int .i64 W, .int .i64 H, .int .i64 F, .int .i64 L, .int .i64 X, .int .i64 Y] 23)).alloc (.cells #[.int .i64 nl, .int .i64 nh, .int .i64 xl, .int .i64 xh, .int .i64 y] 71)) (w.heap.size + 1) 71 #[.int .i64 nl, .int .i64 nh, .int .i64 xl, .int .i64 xh, .int .i64 y] := blk2 w _ 71 #[.int .i64 nl, .int .i64 nh, .int .i64 xl, .int .i64 xh, .int .i64 y]
  have hB2 : Below w.heap.size w ((w.alloc (.cells #[.int .i64 W, .int .i64 H, .int .i64 F, .int .i64 L, .int .i64 X, .int .i64 Y] 23)).alloc (.cells #[.int .i64 nl, .int .i64 nh, .int .i64 xl, .int .i64 xh, .int .i64 y] 71)) := ((Below.refl _ w).alloc (Nat.le_refl _) _).alloc (by simp only [World.size_alloc]; omega) _
  have hqA := fun i => hA.cell i; have hqB := fun i => hBk.cell i; have hlA := hA.lt; have hlB := hBk.lt
  cases hask : (stageB W H F L X Y && (compB fs && reachB F nl nh xl xh y))
  · have he : nextE W H F L X Y nl nh xl xh y fs rs = 2 := by simp [nextE, goodQ, askB, hask]
    have hl : nextP W H F L X Y nl nh xl xh y fs rs = (0, 0) := by simp [nextP, goodQ, askB, hask]
    rw [he, hl]
    go_enter Tryz.func63, Tryz.ntmps63
    go_wp2_with (first | (go_at_call 112; refine (goodReach_any W H F L X Y nl nh xl xh y A n cap fs _ (Nat.le_trans hn hcm) (fun f hf' => ((hf f hf').below hB2).more hB2.size) ((hr.below hB2).more hB2.size)).mono ?_; rintro e w1 ⟨rfl, hb⟩; rw [hask]; replace hA := hA.below hb hA.lt; replace hBk := hBk.below hb hBk.lt; replace hB2 := hB2.trans (hb.mono hB2.size); replace hqA := fun i => hA.cell i; replace hqB := fun i => hBk.cell i; replace hlA := hA.lt; replace hlB := hBk.lt; clear hb))
    go_ret3
    exact ⟨rfl, hB2⟩
  · have hask2 : askB W H F L X Y nl nh xl xh y fs = true := hask
    cases hsight : sightB W H rs
    · have he : nextE W H F L X Y nl nh xl xh y fs rs = 2 := by simp [nextE, goodQ, hsight]
      have hl : nextP W H F L X Y nl nh xl xh y fs rs = (0, 0) := by simp [nextP, goodQ, hsight]
      rw [he, hl]
      go_enter Tryz.func63, Tryz.ntmps63
      go_wp2_with (first | (go_at_call 112; refine (goodReach_any W H F L X Y nl nh xl xh y A n cap fs _ (Nat.le_trans hn hcm) (fun f hf' => ((hf f hf').below hB2).more hB2.size) ((hr.below hB2).more hB2.size)).mono ?_; rintro e w1 ⟨rfl, hb⟩; rw [hask]; replace hA := hA.below hb hA.lt; replace hBk := hBk.below hb hBk.lt; replace hB2 := hB2.trans (hb.mono hB2.size); replace hqA := fun i => hA.cell i; replace hqB := fun i => hBk.cell i; replace hlA := hA.lt; replace hlB := hBk.lt; clear hb) | (go_at_call 113; refine (goodSight_any W H F L X Y SA sn scap rs _ (Nat.le_trans hsn hscm) hss ((hsr.below hB2).more hB2.size)).mono ?_; rintro e w1 ⟨rfl, hb⟩; rw [hsight]; replace hA := hA.below hb hA.lt; replace hBk := hBk.below hb hBk.lt; replace hB2 := hB2.trans (hb.mono hB2.size); replace hqA := fun i => hA.cell i; replace hqB := fun i => hBk.cell i; replace hlA := hA.lt; replace hlB := hBk.lt; clear hb))
      go_ret3
      exact ⟨rfl, hB2⟩
    · have hg : goodQ W H F L X Y nl nh xl xh y fs rs = true := by simp [goodQ, hask2, hsight]
      have hdm := ask_dims hask2
      have hsm : (shL W H F L X Y nl nh xl xh y fs).length ≤ 216 := by rw [shL, List.length_map]; exact allR_small hask2
      obtain ⟨hs1, hs2⟩ := sight_size hsight
      have hmul := Nat.mul_comm H.toNat W.toNat
      have hsz : ∀ h ∈ shL W H F L X Y nl nh xl xh y fs, h.s.size ≤ (flatS rs).size := fun h hh => by rw [shL_size hh]; omega
      have hagl : (agL W H F L X Y nl nh xl xh y fs rs).length ≤ 216 := Nat.le_trans (List.length_filter_le _ _) hsm
      have hwf : ∀ h ∈ agL W H F L X Y nl nh xl xh y fs rs, (Lit.int .i64 h.f).wf = true := fun h hh => by have := shL_f (List.mem_filter.1 hh).1; exact WalkArith.wf_i64 (by omega)
      have hlr := hr.len
      have hlsr := hsr.len
      have hul := unseenL_len (flatS rs)
      by_cases hq : (agL W H F L X Y nl nh xl xh y fs rs).length = 0
      · have he : nextE W H F L X Y nl nh xl xh y fs rs = 7 := by simp [nextE, hg, hq]
        have hl : nextP W H F L X Y nl nh xl xh y fs rs = (0, 0) := by simp [nextP, hg, hq]
        rw [he, hl]
        change ((shL W H F L X Y nl nh xl xh y fs).filter fun h => agreeB h.s (flatS rs)).length = 0 at hq
        unfold agL at hagl hwf
        go_enter Tryz.func63, Tryz.ntmps63
        go_wp2_with (first | (go_at_call 112; refine (goodReach_any W H F L X Y nl nh xl xh y A n cap fs _ (Nat.le_trans hn hcm) (fun f hf' => ((hf f hf').below hB2).more hB2.size) ((hr.below hB2).more hB2.size)).mono ?_; rintro e w1 ⟨rfl, hb⟩; rw [hask]; replace hA := hA.below hb hA.lt; replace hBk := hBk.below hb hBk.lt; replace hB2 := hB2.trans (hb.mono hB2.size); replace hqA := fun i => hA.cell i; replace hqB := fun i => hBk.cell i; replace hlA := hA.lt; replace hlB := hBk.lt; clear hb) | (go_at_call 113; refine (goodSight_any W H F L X Y SA sn scap rs _ (Nat.le_trans hsn hscm) hss ((hsr.below hB2).more hB2.size)).mono ?_; rintro e w1 ⟨rfl, hb⟩; rw [hsight]; replace hA := hA.below hb hA.lt; replace hBk := hBk.below hb hBk.lt; replace hB2 := hB2.trans (hb.mono hB2.size); replace hqA := fun i => hA.cell i; replace hqB := fun i => hBk.cell i; replace hlA := hA.lt; replace hlB := hBk.lt; clear hb) | (go_at_call 115; refine (shades_any W H F L X Y nl nh xl xh y A n cap fs _ hn hcm (fun f hf' => ((hf f hf').below hB2).more hB2.size) ((hr.below hB2).more hB2.size) hask2).mono ?_; rintro e w1 ⟨v1, rfl, own1, hb⟩; obtain ⟨A1, c1, rfl⟩ := own_slice own1; have hr1 := Rd.of_own own1; clear own1; replace hA := hA.below hb hA.lt; replace hBk := hBk.below hb hBk.lt; replace hB2 := hB2.trans (hb.mono hB2.size); replace hqA := fun i => hA.cell i; replace hqB := fun i => hBk.cell i; replace hlA := hA.lt; replace hlB := hBk.lt; clear hb) | (go_at_call 116; have hr1' := hr1; clear hr1'; refine (flat_any SA sn scap rs _ ((hsr.below hB2).more hB2.size) (by omega) hsn (by omega)).mono ?_; rintro e w1 ⟨rfl, hb⟩; replace hr1 := (hr1.below hb).more hb.size; replace hA := hA.below hb hA.lt; replace hBk := hBk.below hb hBk.lt; replace hB2 := hB2.trans (hb.mono hB2.size); replace hqA := fun i => hA.cell i; replace hqB := fun i => hBk.cell i; replace hlA := hA.lt; replace hlB := hBk.lt; clear hb) | (go_at_call 114; refine (seen_any A1 _ c1 _ (flatS rs) _ (by omega) hsz (by unfold maxLen; omega) hr1).mono ?_; rintro e w1 ⟨v2, rfl, own2, hb⟩; obtain ⟨A2, c2, rfl⟩ := own_slice own2; have hr2 := Rd.of_own own2; clear own2; clear hr1; replace hA := hA.below hb hA.lt; replace hBk := hBk.below hb hBk.lt; replace hB2 := hB2.trans (hb.mono hB2.size); replace hqA := fun i => hA.cell i; replace hqB := fun i => hBk.cell i; replace hlA := hA.lt; replace hlB := hBk.lt; clear hb))
        go_ret3
        exact ⟨rfl, hB2.alloc hB2.size _⟩
      · rcases hu : unseenL (flatS rs) with _ | ⟨c0, cs⟩
        · have he : nextE W H F L X Y nl nh xl xh y fs rs = 5 := by simp [nextE, hg, hq, hu]
          have hl : nextP W H F L X Y nl nh xl xh y fs rs = (0, 0) := by simp [nextP, hg, hq, unseenI, hu]
          rw [he, hl]
          change ¬ ((shL W H F L X Y nl nh xl xh y fs).filter fun h => agreeB h.s (flatS rs)).length = 0 at hq
          unfold agL at hagl hwf
          go_enter Tryz.func63, Tryz.ntmps63
          go_wp2_with (first | (go_at_call 112; refine (goodReach_any W H F L X Y nl nh xl xh y A n cap fs _ (Nat.le_trans hn hcm) (fun f hf' => ((hf f hf').below hB2).more hB2.size) ((hr.below hB2).more hB2.size)).mono ?_; rintro e w1 ⟨rfl, hb⟩; rw [hask]; replace hA := hA.below hb hA.lt; replace hBk := hBk.below hb hBk.lt; replace hB2 := hB2.trans (hb.mono hB2.size); replace hqA := fun i => hA.cell i; replace hqB := fun i => hBk.cell i; replace hlA := hA.lt; replace hlB := hBk.lt; clear hb) | (go_at_call 113; refine (goodSight_any W H F L X Y SA sn scap rs _ (Nat.le_trans hsn hscm) hss ((hsr.below hB2).more hB2.size)).mono ?_; rintro e w1 ⟨rfl, hb⟩; rw [hsight]; replace hA := hA.below hb hA.lt; replace hBk := hBk.below hb hBk.lt; replace hB2 := hB2.trans (hb.mono hB2.size); replace hqA := fun i => hA.cell i; replace hqB := fun i => hBk.cell i; replace hlA := hA.lt; replace hlB := hBk.lt; clear hb) | (go_at_call 115; refine (shades_any W H F L X Y nl nh xl xh y A n cap fs _ hn hcm (fun f hf' => ((hf f hf').below hB2).more hB2.size) ((hr.below hB2).more hB2.size) hask2).mono ?_; rintro e w1 ⟨v1, rfl, own1, hb⟩; obtain ⟨A1, c1, rfl⟩ := own_slice own1; have hr1 := Rd.of_own own1; clear own1; replace hA := hA.below hb hA.lt; replace hBk := hBk.below hb hBk.lt; replace hB2 := hB2.trans (hb.mono hB2.size); replace hqA := fun i => hA.cell i; replace hqB := fun i => hBk.cell i; replace hlA := hA.lt; replace hlB := hBk.lt; clear hb) | (go_at_call 116; have hr2' := hr2; clear hr2'; go_loud (refine (flat_any SA sn scap rs _ ((hsr.below (hB2.alloc hB2.size _)).more (hB2.alloc hB2.size _).size) (by omega) hsn (by omega)).mono ?_; rintro e w1 ⟨rfl, hb⟩; have hbx := (Blk.new _ _ _).below hb (by simp); replace hr2 := ((((hr2.alloc (Nat.le_refl _) _).more (size_le_alloc _ _)).below hb).more hb.size); replace hB2 := (hB2.alloc hB2.size _).trans (hb.mono (Nat.le_trans hB2.size (size_le_alloc _ _))); clear hb hA hBk hqA hqB hlA hlB)) | (go_at_call 116; have hr1' := hr1; clear hr1'; refine (flat_any SA sn scap rs _ ((hsr.below hB2).more hB2.size) (by omega) hsn (by omega)).mono ?_; rintro e w1 ⟨rfl, hb⟩; replace hr1 := (hr1.below hb).more hb.size; replace hA := hA.below hb hA.lt; replace hBk := hBk.below hb hBk.lt; replace hB2 := hB2.trans (hb.mono hB2.size); replace hqA := fun i => hA.cell i; replace hqB := fun i => hBk.cell i; replace hlA := hA.lt; replace hlB := hBk.lt; clear hb) | (go_at_call 114; refine (seen_any A1 _ c1 _ (flatS rs) _ (by omega) hsz (by unfold maxLen; omega) hr1).mono ?_; rintro e w1 ⟨v2, rfl, own2, hb⟩; obtain ⟨A2, c2, rfl⟩ := own_slice own2; have hr2 := Rd.of_own own2; clear own2; clear hr1; replace hA := hA.below hb hA.lt; replace hBk := hBk.below hb hBk.lt; replace hB2 := hB2.trans (hb.mono hB2.size); replace hqA := fun i => hA.cell i; replace hqB := fun i => hBk.cell i; replace hlA := hA.lt; replace hlB := hBk.lt; clear hb) | (go_at_call 124; refine (unseenCells_any (flatS rs) _ (by omega)).mono ?_; rintro e w1 ⟨v3, rfl, own3, hb⟩; obtain ⟨A3, c3, rfl⟩ := own_slice own3; have hr3 := Rd.of_own own3; rw [hu] at hr3; clear own3; replace hr2 := (hr2.below hb).more hb.size; replace hbx := hbx.below hb hbx.lt; replace hB2 := hB2.trans (hb.mono hB2.size); clear hb))
          go_ret3
          exact ⟨rfl, hB2⟩
        · have hui : unseenI rs = (c0 : Int) :: cs.map (fun k : Nat => (k : Int)) := by rw [unseenI, hu]; rfl
          have he : nextE W H F L X Y nl nh xl xh y fs rs = 0 := by simp [nextE, hg, hq, hu]
          have hl : nextP W H F L X Y nl nh xl xh y fs rs = bestP (fun c => (mostN ((shL W H F L X Y nl nh xl xh y fs).filter fun h => agreeB h.s (flatS rs)) c.toNat : Int)) c0 (cs.map (fun k : Nat => (k : Int))) := by rw [nextP, hg, hui]; simp only [if_true, hq, if_false]; rfl
          rw [he, hl]
          have hu0 : ¬ (unseenL (flatS rs)).length = 0 := by rw [hu]; simp
          have hmem : ∀ c ∈ (c0 : Int) :: cs.map (fun k : Nat => (k : Int)), ∃ k ∈ unseenL (flatS rs), c = ((k : Nat) : Int) := by
            intro c hc
            rw [← hui, unseenI] at hc
            obtain ⟨k, hk, rfl⟩ := List.mem_map.1 hc
            exact ⟨k, hk, rfl⟩
          have hmaps : (unseenL (flatS rs)).map natV = ((c0 : Int) :: cs.map (fun k : Nat => (k : Int))).map (Value.int .i64) := by rw [hu]; simp [natV, Function.comp]
          have hcell : ∀ h ∈ ((shL W H F L X Y nl nh xl xh y fs).filter fun h => agreeB h.s (flatS rs)), ∀ k ∈ unseenL (flatS rs), k < h.s.size ∧ h.s.size ≤ 100000 := fun h hh k hk => by
            have h1 := shL_size (List.mem_filter.1 hh).1
            have h2 := unseenL_lt hk
            omega
          have HUI := Lib.hid hui; clear hui
          change ¬ ((shL W H F L X Y nl nh xl xh y fs).filter fun h => agreeB h.s (flatS rs)).length = 0 at hq
          unfold agL at hagl hwf
          clear hu
          generalize cs.map (fun k : Nat => (k : Int)) = ct at *
          go_enter Tryz.func63, Tryz.ntmps63
          go_wp2_with (first | (go_at_call 112; refine (goodReach_any W H F L X Y nl nh xl xh y A n cap fs _ (Nat.le_trans hn hcm) (fun f hf' => ((hf f hf').below hB2).more hB2.size) ((hr.below hB2).more hB2.size)).mono ?_; rintro e w1 ⟨rfl, hb⟩; rw [hask]; replace hA := hA.below hb hA.lt; replace hBk := hBk.below hb hBk.lt; replace hB2 := hB2.trans (hb.mono hB2.size); replace hqA := fun i => hA.cell i; replace hqB := fun i => hBk.cell i; replace hlA := hA.lt; replace hlB := hBk.lt; clear hb) | (go_at_call 113; refine (goodSight_any W H F L X Y SA sn scap rs _ (Nat.le_trans hsn hscm) hss ((hsr.below hB2).more hB2.size)).mono ?_; rintro e w1 ⟨rfl, hb⟩; rw [hsight]; replace hA := hA.below hb hA.lt; replace hBk := hBk.below hb hBk.lt; replace hB2 := hB2.trans (hb.mono hB2.size); replace hqA := fun i => hA.cell i; replace hqB := fun i => hBk.cell i; replace hlA := hA.lt; replace hlB := hBk.lt; clear hb) | (go_at_call 115; refine (shades_any W H F L X Y nl nh xl xh y A n cap fs _ hn hcm (fun f hf' => ((hf f hf').below hB2).more hB2.size) ((hr.below hB2).more hB2.size) hask2).mono ?_; rintro e w1 ⟨v1, rfl, own1, hb⟩; obtain ⟨A1, c1, rfl⟩ := own_slice own1; have hr1 := Rd.of_own own1; clear own1; replace hA := hA.below hb hA.lt; replace hBk := hBk.below hb hBk.lt; replace hB2 := hB2.trans (hb.mono hB2.size); replace hqA := fun i => hA.cell i; replace hqB := fun i => hBk.cell i; replace hlA := hA.lt; replace hlB := hBk.lt; clear hb) | (go_at_call 116; have hr2' := hr2; clear hr2'; go_loud (refine (flat_any SA sn scap rs _ ((hsr.below (hB2.alloc hB2.size _)).more (hB2.alloc hB2.size _).size) (by omega) hsn (by omega)).mono ?_; rintro e w1 ⟨rfl, hb⟩; have hbx := (Blk.new _ _ _).below hb (by simp); replace hr2 := ((((hr2.alloc (Nat.le_refl _) _).more (size_le_alloc _ _)).below hb).more hb.size); replace hB2 := (hB2.alloc hB2.size _).trans (hb.mono (Nat.le_trans hB2.size (size_le_alloc _ _))); clear hb hA hBk hqA hqB hlA hlB)) | (go_at_call 116; have hr1' := hr1; clear hr1'; refine (flat_any SA sn scap rs _ ((hsr.below hB2).more hB2.size) (by omega) hsn (by omega)).mono ?_; rintro e w1 ⟨rfl, hb⟩; replace hr1 := (hr1.below hb).more hb.size; replace hA := hA.below hb hA.lt; replace hBk := hBk.below hb hBk.lt; replace hB2 := hB2.trans (hb.mono hB2.size); replace hqA := fun i => hA.cell i; replace hqB := fun i => hBk.cell i; replace hlA := hA.lt; replace hlB := hBk.lt; clear hb) | (go_at_call 114; refine (seen_any A1 _ c1 _ (flatS rs) _ (by omega) hsz (by unfold maxLen; omega) hr1).mono ?_; rintro e w1 ⟨v2, rfl, own2, hb⟩; obtain ⟨A2, c2, rfl⟩ := own_slice own2; have hr2 := Rd.of_own own2; clear own2; clear hr1; replace hA := hA.below hb hA.lt; replace hBk := hBk.below hb hBk.lt; replace hB2 := hB2.trans (hb.mono hB2.size); replace hqA := fun i => hA.cell i; replace hqB := fun i => hBk.cell i; replace hlA := hA.lt; replace hlB := hBk.lt; clear hb) | (go_at_call 124; refine (unseenCells_any (flatS rs) _ (by omega)).mono ?_; rintro e w1 ⟨v3, rfl, own3, hb⟩; obtain ⟨A3, c3, rfl⟩ := own_slice own3; have hr3 := Rd.of_own own3; have hle3 := own_le own3 (by omega); rw [hmaps] at hr3; clear own3; replace hr2 := (hr2.below hb).more hb.size; replace hbx := hbx.below hb hbx.lt; replace hB2 := hB2.trans (hb.mono hB2.size); clear hb) | (go_at_call 125; have hcost : ∀ c ∈ (c0 : Int) :: ct, ∀ wr, Below w1.heap.size w1 wr → Calls Tryz.prog 126 #[.int .i64 c, .pointer (some ⟨_, 0, none⟩)] wr fun e w' => e = .returned (.int .i64 (mostN ((shL W H F L X Y nl nh xl xh y fs).filter fun h => agreeB h.s (flatS rs)) c.toNat : Int)) ∧ Below wr.heap.size wr w' := (fun c hc wr hbr => by obtain ⟨k, hk, rfl⟩ := hmem c hc; have h := next1_any _ A2 _ c2 k _ wr (by have h := (hbx.below hbr hbx.lt).cell 0; simpa using h) (by omega) hwf (fun h hh => hcell h hh k hk) ((hr2.below hbr).more hbr.size); simpa using h); refine (best_any _ A3 _ c3 c0 ct (fun c => (mostN ((shL W H F L X Y nl nh xl xh y fs).filter fun h => agreeB h.s (flatS rs)) c.toNat : Int)) _ hle3 (by omega) hr3 hcost).mono ?_; rintro e w2 ⟨rfl, hb⟩; replace hB2 := hB2.trans (hb.mono hB2.size); clear hb))
          go_ret3
          exact ⟨rfl, hB2⟩
end Go.Proofs.YtifddfchpknkbaaGreatDoor
