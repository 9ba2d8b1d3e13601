import Derived.Test.YtifddfchpknkbaaGreatDoorMl
import Derived.Test.YtifddfchpknkbaaGreatDoorZ
import Derived.Recover
set_option linter.unusedVariables false
set_option linter.unusedSimpArgs false
namespace Go.Proofs.YtifddfchpknkbaaGreatDoor
open Go.RowKit

/-- The first two shades that agree, as their figures. -/
def agIn (a : Sh) (others : List Sh) : Option (Int × Int) := others.findSome? fun b => if agreeB a.s b.s then some (a.f, b.f) else none
def agFirst (ones others : List Sh) : Option (Int × Int) := ones.findSome? fun a => agIn a others
theorem find_take {α β : Type} (f : α → Option β) (l : List α) (k : Nat) (h : k < l.length) (h0 : (l.take k).findSome? f = none) : (l.take (k + 1)).findSome? f = f l[k] := by
  rw [List.take_succ_eq_append_getElem h, List.findSome?_append, h0]; simp
theorem find_stop {α β : Type} (f : α → Option β) (l : List α) (k : Nat) (h : k < l.length) (h0 : (l.take k).findSome? f = none) (b : β) (hb : f l[k] = some b) : l.findSome? f = some b := by
  have e : l = l.take (k + 1) ++ l.drop (k + 1) := (List.take_append_drop _ _).symm
  rw [e, List.findSome?_append, find_take f l k h h0, hb]; rfl

def AgPost (w : World) (r : Option (Int × Int)) (e : Ending) (w' : World) : Prop := (match r with | none => e = .returned (.tuple #[]) | some (a, b) => e = .panicked [{ v := .iface 209 (.agg #[.int .i64 a, .int .i64 b]), recovered := false }]) ∧ Below w.heap.size w w'

set_option maxRecDepth 100000 in
theorem tellApart_any (A : Option Addr) (n cap : Nat) (A2 : Option Addr) (n2 cap2 : Nat) (l l2 : List Sh) (w : World) (hn : n ≤ 100000) (hn2 : n2 ≤ 100000) (m : Nat) (hs : ∀ h ∈ l, h.s.size = m) (hs2 : ∀ h ∈ l2, h.s.size = m) (hm : m ≤ 100000)
    (hr : Rd w w.heap.size 5 A n (l.flatMap shC)) (hr2 : Rd w w.heap.size 5 A2 n2 (l2.flatMap shC)) :
    Calls Tryz.prog 165 #[.slice A n cap, .slice A2 n2 cap2] w (AgPost w (agFirst l l2)) := by
  have hlen := hr.len5
  have hlen2 := hr2.len5
  go_enter Tryz.func165, Tryz.ntmps165
  go_wp2
  go_loopg [10] n (fun g i wr => ∃ k : Nat, g = n - k ∧ k ≤ n ∧ i = .int .i64 k ∧ (l.take k).findSome? (fun a => agIn a l2) = none ∧ Below w.heap.size w wr)
  case atStart => exact ⟨0, rfl, Nat.zero_le _, rfl, rfl, Below.refl _ _⟩
  case round =>
    obtain ⟨k, hg, hk, rfl, hno, hB⟩ := hrel
    have HG := Lib.hid hg; have HLEN := Lib.hid hlen; have HLEN2 := Lib.hid hlen2; clear hg hlen hlen2
    by_cases hlt : k < n
    · obtain ⟨b, off, hz, rfl, hb, c0, c1, c2, c3, c4⟩ := (hr.below hB).at5 hlt
      have hft := find_take (fun a => agIn a l2) l k hz hno
      have hfs := find_stop (fun a => agIn a l2) l k hz hno
      have hsz := hs _ (List.getElem_mem hz)
      generalize l[k] = h at *
      obtain ⟨f, hn0, x, y, s⟩ := h
      dsimp only at c0 c1 c2 c3 c4 hsz
      have HFT := Lib.hid hft; have HFS := Lib.hid hfs; have HNO := Lib.hid hno; clear hft hfs hno
      rename World => W0
      have hbx : Blk (W0.alloc (.cells #[.int .i64 f, .int .i64 hn0, .int .i64 x, .int .i64 y, .string s] 156)) W0.heap.size 156 #[.int .i64 f, .int .i64 hn0, .int .i64 x, .int .i64 y, .string s] := Blk.new _ _ _
      go_wp2
      go_loopg [16] n2 (fun g i wr => ∃ j : Nat, g = n2 - j ∧ j ≤ n2 ∧ i = .int .i64 j ∧ (l2.take j).findSome? (fun b => if agreeB s b.s then some (f, b.f) else none) = none ∧ Below w.heap.size w wr ∧ Blk wr W0.heap.size 156 #[.int .i64 f, .int .i64 hn0, .int .i64 x, .int .i64 y, .string s])
      case atStart => exact ⟨0, rfl, Nat.zero_le _, rfl, rfl, hB.alloc hB.size _, hbx⟩
      case round =>
        clear hB hbx c0 c1 c2 c3 c4
        obtain ⟨j, hg, hj, rfl, hno2, hB, hbx⟩ := hrel
        have HG2 := Lib.hid hg; clear hg
        by_cases hlt2 : j < n2
        · obtain ⟨b2, off2, hz2, rfl, hb2, d0, d1, d2, d3, d4⟩ := (hr2.below hB).at5 hlt2
          have hft2 := find_take (fun b => if agreeB s b.s then some (f, b.f) else none) l2 j hz2 hno2
          have hfs2 := find_stop (fun b => if agreeB s b.s then some (f, b.f) else none) l2 j hz2 hno2
          have hsz2 := hs2 _ (List.getElem_mem hz2)
          generalize l2[j] = h2 at *
          obtain ⟨f2, n20, x2, y2, s2⟩ := h2
          dsimp only at d0 d1 d2 d3 d4 hsz2 hft2 hfs2
          have hcx := fun i => hbx.cell i
          have hlx := hbx.lt
          have hle : s.size ≤ s2.size := by omega
          have hsm : s.size ≤ maxLen := by unfold maxLen; omega
          cases hag : agreeB s s2
          · rw [hag] at hft2
            have HFT2 := Lib.hid hft2; clear hft2 hfs2 hno2
            go_wp2_with (first | (go_at_call 159; refine (agree_any s s2 _ hsm hle).mono ?_; rintro e w1 ⟨rfl, hb1⟩; rw [hag]; have hB1 := (hB.alloc hB.size _).trans (hb1.mono (by have := hB.size; simp only [World.size_alloc]; omega)); have hbx1 := (hbx.alloc _).below hb1 (by simp only [World.size_alloc]; omega); clear hb1))
            go_roundg (n2 - (j + 1))
            case measure => rw [HG2.out]; omega
            case rel => exact ⟨j + 1, rfl, by omega, by go_num, by rw [HFT2.out]; rfl, hB1, hbx1⟩
          · rw [hag] at hfs2
            have hres : agIn ⟨f, hn0, x, y, s⟩ l2 = some (f, f2) := hfs2 _ rfl
            have hres2 : agFirst l l2 = some (f, f2) := HFS.out _ hres
            have HR := Lib.hid hres2; clear hft2 hfs2 hno2 hres hres2
            rw [HR.out]
            go_wp2_with (first | (go_at_call 159; refine (agree_any s s2 _ hsm hle).mono ?_; rintro e w1 ⟨rfl, hb1⟩; rw [hag]; have hB1 := (hB.alloc hB.size _).trans (hb1.mono (by have := hB.size; simp only [World.size_alloc]; omega)); have hbx1 := (hbx.alloc _).below hb1 (by simp only [World.size_alloc]; omega); have hcx1 := fun i => hbx1.cell i; have hby1 := (Blk.new wr 156 #[.int .i64 f2, .int .i64 n20, .int .i64 x2, .int .i64 y2, .string s2]).below hb1 (by simp); have hcy1 := fun i => hby1.cell i; have hl1 := hbx1.lt; have hl2 := hby1.lt; clear hb1))
            exact ⟨rfl, rfl, hB1⟩
        · have hta : l2.take j = l2 := List.take_of_length_le (by have := HLEN2.out; omega)
          rw [hta] at hno2
          have HNO2 := Lib.hid hno2; clear hno2
          go_wp2
          go_roundg (n - (k + 1))
          case measure => rw [HG.out]; omega
          case rel => exact ⟨k + 1, rfl, by omega, by go_num, by rw [HFT.out]; exact HNO2.out, hB⟩
    · have hta : l.take k = l := List.take_of_length_le (by have := HLEN.out; omega)
      rw [hta] at hno
      have hres : agFirst l l2 = none := hno
      rw [hres]
      clear hno
      go_wp2
      go_end0
      exact ⟨rfl, hB⟩
end Go.Proofs.YtifddfchpknkbaaGreatDoor

namespace Go.Proofs.YtifddfchpknkbaaGreatDoor
open Go.RowKit Go.Maps

theorem size_le_alloc (z : World) (o : Obj) : z.heap.size ≤ (z.alloc o).heap.size := by simp
theorem own_le {w : World} {base sz n c : Nat} {e : TypeId} {A : Option Addr} {xs : List Value} (h : w.ownsRow base e sz (.slice A n c) n xs) (h0 : 0 < n) : n ≤ c := by
  rcases h.2 with ⟨_, h1⟩ | ⟨g, cap, cur, hv, _, _, hc, _⟩
  · omega
  · injection hv with _ _ h3
    omega
def unseenI (rs : List ByteArray) : List Int := (unseenL (flatS rs)).map fun n : Nat => (n : Int)
def nextE (W H F L X Y nl nh xl xh y : Int) (fs : List Fig) (rs : List ByteArray) : Int := if goodQ W H F L X Y nl nh xl xh y fs rs then (if (agL W H F L X Y nl nh xl xh y fs rs).length = 0 then 7 else if (unseenL (flatS rs)).length = 0 then 5 else 0) else 2
/-- The cell to be looked at next, and how many figures may be seen then at most. -/
def nextP (W H F L X Y nl nh xl xh y : Int) (fs : List Fig) (rs : List ByteArray) : Int × Int :=
  if goodQ W H F L X Y nl nh xl xh y fs rs then (if (agL W H F L X Y nl nh xl xh y fs rs).length = 0 then (0, 0) else match unseenI rs with
    | [] => (0, 0)
    | c0 :: cs => bestP (fun c => (mostN (agL W H F L X Y nl nh xl xh y fs rs) c.toNat : Int)) c0 cs) else (0, 0)
theorem unseenL_lt {s : ByteArray} {c : Nat} (h : c ∈ unseenL s) : c < s.size := List.mem_range.1 (List.mem_filter.1 h).1
theorem unseenL_len (s : ByteArray) : (unseenL s).length ≤ s.size := Nat.le_trans (List.length_filter_le _ _) (by simp)

set_option maxRecDepth 100000 in
set_option maxHeartbeats 1600000 in
theorem Next_any (W H F L X Y nl nh xl xh y : Int) (A : Option Addr) (n cap : Nat) (fs : List Fig) (SA : Option Addr) (sn scap : Nat) (rs : List ByteArray) (w : World) (hn : n ≤ cap) (hcm : cap ≤ maxLen) (hf : ∀ f ∈ fs, f.ok w w.heap.size) (hr : Rd w w.heap.size 1 A n (fs.map Fig.val)) (hsn : sn ≤ scap) (hscm : scap ≤ maxLen) (hss : ∀ r ∈ rs, r.size ≤ maxLen) (hsr : Rd w w.heap.size 1 SA sn (rs.map Value.string)) :
    Calls Tryz.prog 63 #[.agg #[.int .i64 W, .int .i64 H, .int .i64 F, .int .i64 L, .int .i64 X, .int .i64 Y], .slice A n cap, .agg #[.int .i64 nl, .int .i64 nh, .int .i64 xl, .int .i64 xh, .int .i64 y], .slice SA sn scap] w fun e w' => e = .returned (.tuple #[.int .i64 (nextP W H F L X Y nl nh xl xh y fs rs).1, .int .i64 (nextP W H F L X Y nl nh xl xh y fs rs).2, .int .i64 (nextE W H F L X Y nl nh xl xh y fs rs)]) ∧ Below w.heap.size w w' := by
  have hA : Blk ((w.alloc (.cells #[.int .i64 W, .int .i64 H, .int .i64 F, .int .i64 L, .int .i64 X, .int .i64 Y] 23)).alloc (.cells #[.int .i64 nl, .int .i64 nh, .int .i64 xl, .int .i64 xh, .int .i64 y] 71)) w.heap.size 23 #[.int .i64 W, .int .i64 H, .int .i64 F, .int .i64 L, .int .i64 X, .int .i64 Y] := (Blk.new w 23 #[.int .i64 W, .int .i64 H, .int .i64 F, .int .i64 L, .int .i64 X, .int .i64 Y]).alloc _
  have hBk : Blk ((w.alloc (.cells #[.int .i64 W, .int .i64 H, .int .i64 F, .int .i64 L, .int .i64 X, .int .i64 Y] 23)).alloc (.cells #[.int .i64 nl, .int .i64 nh, .int .i64 xl, .int .i64 xh, .int .i64 y] 71)) (w.heap.size + 1) 71 #[.int .i64 nl, .int .i64 nh, .int .i64 xl, .int .i64 xh, .int .i64 y] := blk2 w _ 71 #[.int .i64 nl, .int .i64 nh, .int .i64 xl, .int .i64 xh, .int .i64 y]
  have hB2 : Below w.heap.size w ((w.alloc (.cells #[.int .i64 W, .int .i64 H, .int .i64 F, .int .i64 L, .int .i64 X, .int .i64 Y] 23)).alloc (.cells #[.int .i64 nl, .int .i64 nh, .int .i64 xl, .int .i64 xh, .int .i64 y] 71)) := ((Below.refl _ w).alloc (Nat.le_refl _) _).alloc (by simp only [World.size_alloc]; omega) _
  have hqA := fun i => hA.cell i; have hqB := fun i => hBk.cell i; have hlA := hA.lt; have hlB := hBk.lt
  cases hask : (stageB W H F L X Y && (compB fs && reachB F nl nh xl xh y))
  · have he : nextE W H F L X Y nl nh xl xh y fs rs = 2 := by simp [nextE, goodQ, askB, hask]
    have hl : nextP W H F L X Y nl nh xl xh y fs rs = (0, 0) := by simp [nextP, goodQ, askB, hask]
    rw [he, hl]
    go_enter Tryz.func63, Tryz.ntmps63
    go_wp2_with (first | (go_at_call 112; refine (goodReach_any W H F L X Y nl nh xl xh y A n cap fs _ (Nat.le_trans hn hcm) (fun f hf' => ((hf f hf').below hB2).more hB2.size) ((hr.below hB2).more hB2.size)).mono ?_; rintro e w1 ⟨rfl, hb⟩; rw [hask]; replace hA := hA.below hb hA.lt; replace hBk := hBk.below hb hBk.lt; replace hB2 := hB2.trans (hb.mono hB2.size); replace hqA := fun i => hA.cell i; replace hqB := fun i => hBk.cell i; replace hlA := hA.lt; replace hlB := hBk.lt; clear hb))
    go_ret3
    exact ⟨rfl, hB2⟩
  · have hask2 : askB W H F L X Y nl nh xl xh y fs = true := hask
    cases hsight : sightB W H rs
    · have he : nextE W H F L X Y nl nh xl xh y fs rs = 2 := by simp [nextE, goodQ, hsight]
      have hl : nextP W H F L X Y nl nh xl xh y fs rs = (0, 0) := by simp [nextP, goodQ, hsight]
      rw [he, hl]
      go_enter Tryz.func63, Tryz.ntmps63
      go_wp2_with (first | (go_at_call 112; refine (goodReach_any W H F L X Y nl nh xl xh y A n cap fs _ (Nat.le_trans hn hcm) (fun f hf' => ((hf f hf').below hB2).more hB2.size) ((hr.below hB2).more hB2.size)).mono ?_; rintro e w1 ⟨rfl, hb⟩; rw [hask]; replace hA := hA.below hb hA.lt; replace hBk := hBk.below hb hBk.lt; replace hB2 := hB2.trans (hb.mono hB2.size); replace hqA := fun i => hA.cell i; replace hqB := fun i => hBk.cell i; replace hlA := hA.lt; replace hlB := hBk.lt; clear hb) | (go_at_call 113; refine (goodSight_any W H F L X Y SA sn scap rs _ (Nat.le_trans hsn hscm) hss ((hsr.below hB2).more hB2.size)).mono ?_; rintro e w1 ⟨rfl, hb⟩; rw [hsight]; replace hA := hA.below hb hA.lt; replace hBk := hBk.below hb hBk.lt; replace hB2 := hB2.trans (hb.mono hB2.size); replace hqA := fun i => hA.cell i; replace hqB := fun i => hBk.cell i; replace hlA := hA.lt; replace hlB := hBk.lt; clear hb))
      go_ret3
      exact ⟨rfl, hB2⟩
    · have hg : goodQ W H F L X Y nl nh xl xh y fs rs = true := by simp [goodQ, hask2, hsight]
      have hdm := ask_dims hask2
      have hsm : (shL W H F L X Y nl nh xl xh y fs).length ≤ 216 := by rw [shL, List.length_map]; exact allR_small hask2
      obtain ⟨hs1, hs2⟩ := sight_size hsight
      have hmul := Nat.mul_comm H.toNat W.toNat
      have hsz : ∀ h ∈ shL W H F L X Y nl nh xl xh y fs, h.s.size ≤ (flatS rs).size := fun h hh => by rw [shL_size hh]; omega
      have hagl : (agL W H F L X Y nl nh xl xh y fs rs).length ≤ 216 := Nat.le_trans (List.length_filter_le _ _) hsm
      have hwf : ∀ h ∈ agL W H F L X Y nl nh xl xh y fs rs, (Lit.int .i64 h.f).wf = true := fun h hh => by have := shL_f (List.mem_filter.1 hh).1; exact WalkArith.wf_i64 (by omega)
      have hlr := hr.len
      have hlsr := hsr.len
      have hul := unseenL_len (flatS rs)
      by_cases hq : (agL W H F L X Y nl nh xl xh y fs rs).length = 0
      · have he : nextE W H F L X Y nl nh xl xh y fs rs = 7 := by simp [nextE, hg, hq]
        have hl : nextP W H F L X Y nl nh xl xh y fs rs = (0, 0) := by simp [nextP, hg, hq]
        rw [he, hl]
        change ((shL W H F L X Y nl nh xl xh y fs).filter fun h => agreeB h.s (flatS rs)).length = 0 at hq
        unfold agL at hagl hwf
        go_enter Tryz.func63, Tryz.ntmps63
        go_wp2_with (first | (go_at_call 112; refine (goodReach_any W H F L X Y nl nh xl xh y A n cap fs _ (Nat.le_trans hn hcm) (fun f hf' => ((hf f hf').below hB2).more hB2.size) ((hr.below hB2).more hB2.size)).mono ?_; rintro e w1 ⟨rfl, hb⟩; rw [hask]; replace hA := hA.below hb hA.lt; replace hBk := hBk.below hb hBk.lt; replace hB2 := hB2.trans (hb.mono hB2.size); replace hqA := fun i => hA.cell i; replace hqB := fun i => hBk.cell i; replace hlA := hA.lt; replace hlB := hBk.lt; clear hb) | (go_at_call 113; refine (goodSight_any W H F L X Y SA sn scap rs _ (Nat.le_trans hsn hscm) hss ((hsr.below hB2).more hB2.size)).mono ?_; rintro e w1 ⟨rfl, hb⟩; rw [hsight]; replace hA := hA.below hb hA.lt; replace hBk := hBk.below hb hBk.lt; replace hB2 := hB2.trans (hb.mono hB2.size); replace hqA := fun i => hA.cell i; replace hqB := fun i => hBk.cell i; replace hlA := hA.lt; replace hlB := hBk.lt; clear hb) | (go_at_call 115; refine (shades_any W H F L X Y nl nh xl xh y A n cap fs _ hn hcm (fun f hf' => ((hf f hf').below hB2).more hB2.size) ((hr.below hB2).more hB2.size) hask2).mono ?_; rintro e w1 ⟨v1, rfl, own1, hb⟩; obtain ⟨A1, c1, rfl⟩ := own_slice own1; have hr1 := Rd.of_own own1; clear own1; replace hA := hA.below hb hA.lt; replace hBk := hBk.below hb hBk.lt; replace hB2 := hB2.trans (hb.mono hB2.size); replace hqA := fun i => hA.cell i; replace hqB := fun i => hBk.cell i; replace hlA := hA.lt; replace hlB := hBk.lt; clear hb) | (go_at_call 116; have hr1' := hr1; clear hr1'; refine (flat_any SA sn scap rs _ ((hsr.below hB2).more hB2.size) (by omega) hsn (by omega)).mono ?_; rintro e w1 ⟨rfl, hb⟩; replace hr1 := (hr1.below hb).more hb.size; replace hA := hA.below hb hA.lt; replace hBk := hBk.below hb hBk.lt; replace hB2 := hB2.trans (hb.mono hB2.size); replace hqA := fun i => hA.cell i; replace hqB := fun i => hBk.cell i; replace hlA := hA.lt; replace hlB := hBk.lt; clear hb) | (go_at_call 114; refine (seen_any A1 _ c1 _ (flatS rs) _ (by omega) hsz (by unfold maxLen; omega) hr1).mono ?_; rintro e w1 ⟨v2, rfl, own2, hb⟩; obtain ⟨A2, c2, rfl⟩ := own_slice own2; have hr2 := Rd.of_own own2; clear own2; clear hr1; replace hA := hA.below hb hA.lt; replace hBk := hBk.below hb hBk.lt; replace hB2 := hB2.trans (hb.mono hB2.size); replace hqA := fun i => hA.cell i; replace hqB := fun i => hBk.cell i; replace hlA := hA.lt; replace hlB := hBk.lt; clear hb))
        go_ret3
        exact ⟨rfl, hB2.alloc hB2.size _⟩
      · rcases hu : unseenL (flatS rs) with _ | ⟨c0, cs⟩
        · have he : nextE W H F L X Y nl nh xl xh y fs rs = 5 := by simp [nextE, hg, hq, hu]
          have hl : nextP W H F L X Y nl nh xl xh y fs rs = (0, 0) := by simp [nextP, hg, hq, unseenI, hu]
          rw [he, hl]
          change ¬ ((shL W H F L X Y nl nh xl xh y fs).filter fun h => agreeB h.s (flatS rs)).length = 0 at hq
          unfold agL at hagl hwf
          go_enter Tryz.func63, Tryz.ntmps63
          go_wp2_with (first | (go_at_call 112; refine (goodReach_any W H F L X Y nl nh xl xh y A n cap fs _ (Nat.le_trans hn hcm) (fun f hf' => ((hf f hf').below hB2).more hB2.size) ((hr.below hB2).more hB2.size)).mono ?_; rintro e w1 ⟨rfl, hb⟩; rw [hask]; replace hA := hA.below hb hA.lt; replace hBk := hBk.below hb hBk.lt; replace hB2 := hB2.trans (hb.mono hB2.size); replace hqA := fun i => hA.cell i; replace hqB := fun i => hBk.cell i; replace hlA := hA.lt; replace hlB := hBk.lt; clear hb) | (go_at_call 113; refine (goodSight_any W H F L X Y SA sn scap rs _ (Nat.le_trans hsn hscm) hss ((hsr.below hB2).more hB2.size)).mono ?_; rintro e w1 ⟨rfl, hb⟩; rw [hsight]; replace hA := hA.below hb hA.lt; replace hBk := hBk.below hb hBk.lt; replace hB2 := hB2.trans (hb.mono hB2.size); replace hqA := fun i => hA.cell i; replace hqB := fun i => hBk.cell i; replace hlA := hA.lt; replace hlB := hBk.lt; clear hb) | (go_at_call 115; refine (shades_any W H F L X Y nl nh xl xh y A n cap fs _ hn hcm (fun f hf' => ((hf f hf').below hB2).more hB2.size) ((hr.below hB2).more hB2.size) hask2).mono ?_; rintro e w1 ⟨v1, rfl, own1, hb⟩; obtain ⟨A1, c1, rfl⟩ := own_slice own1; have hr1 := Rd.of_own own1; clear own1; replace hA := hA.below hb hA.lt; replace hBk := hBk.below hb hBk.lt; replace hB2 := hB2.trans (hb.mono hB2.size); replace hqA := fun i => hA.cell i; replace hqB := fun i => hBk.cell i; replace hlA := hA.lt; replace hlB := hBk.lt; clear hb) | (go_at_call 116; have hr2' := hr2; clear hr2'; go_loud (refine (flat_any SA sn scap rs _ ((hsr.below (hB2.alloc hB2.size _)).more (hB2.alloc hB2.size _).size) (by omega) hsn (by omega)).mono ?_; rintro e w1 ⟨rfl, hb⟩; have hbx := (Blk.new _ _ _).below hb (by simp); replace hr2 := ((((hr2.alloc (Nat.le_refl _) _).more (size_le_alloc _ _)).below hb).more hb.size); replace hB2 := (hB2.alloc hB2.size _).trans (hb.mono (Nat.le_trans hB2.size (size_le_alloc _ _))); clear hb hA hBk hqA hqB hlA hlB)) | (go_at_call 116; have hr1' := hr1; clear hr1'; refine (flat_any SA sn scap rs _ ((hsr.below hB2).more hB2.size) (by omega) hsn (by omega)).mono ?_; rintro e w1 ⟨rfl, hb⟩; replace hr1 := (hr1.below hb).more hb.size; replace hA := hA.below hb hA.lt; replace hBk := hBk.below hb hBk.lt; replace hB2 := hB2.trans (hb.mono hB2.size); replace hqA := fun i => hA.cell i; replace hqB := fun i => hBk.cell i; replace hlA := hA.lt; replace hlB := hBk.lt; clear hb) | (go_at_call 114; refine (seen_any A1 _ c1 _ (flatS rs) _ (by omega) hsz (by unfold maxLen; omega) hr1).mono ?_; rintro e w1 ⟨v2, rfl, own2, hb⟩; obtain ⟨A2, c2, rfl⟩ := own_slice own2; have hr2 := Rd.of_own own2; clear own2; clear hr1; replace hA := hA.below hb hA.lt; replace hBk := hBk.below hb hBk.lt; replace hB2 := hB2.trans (hb.mono hB2.size); replace hqA := fun i => hA.cell i; replace hqB := fun i => hBk.cell i; replace hlA := hA.lt; replace hlB := hBk.lt; clear hb) | (go_at_call 124; refine (unseenCells_any (flatS rs) _ (by omega)).mono ?_; rintro e w1 ⟨v3, rfl, own3, hb⟩; obtain ⟨A3, c3, rfl⟩ := own_slice own3; have hr3 := Rd.of_own own3; rw [hu] at hr3; clear own3; replace hr2 := (hr2.below hb).more hb.size; replace hbx := hbx.below hb hbx.lt; replace hB2 := hB2.trans (hb.mono hB2.size); clear hb))
          go_ret3
          exact ⟨rfl, hB2⟩
        · have hui : unseenI rs = (c0 : Int) :: cs.map (fun k : Nat => (k : Int)) := by rw [unseenI, hu]; rfl
          have he : nextE W H F L X Y nl nh xl xh y fs rs = 0 := by simp [nextE, hg, hq, hu]
          have hl : nextP W H F L X Y nl nh xl xh y fs rs = bestP (fun c => (mostN ((shL W H F L X Y nl nh xl xh y fs).filter fun h => agreeB h.s (flatS rs)) c.toNat : Int)) c0 (cs.map (fun k : Nat => (k : Int))) := by rw [nextP, hg, hui]; simp only [if_true, hq, if_false]; rfl
          rw [he, hl]
          have hu0 : ¬ (unseenL (flatS rs)).length = 0 := by rw [hu]; simp
          have hmem : ∀ c ∈ (c0 : Int) :: cs.map (fun k : Nat => (k : Int)), ∃ k ∈ unseenL (flatS rs), c = ((k : Nat) : Int) := by
            intro c hc
            rw [← hui, unseenI] at hc
            obtain ⟨k, hk, rfl⟩ := List.mem_map.1 hc
            exact ⟨k, hk, rfl⟩
          have hmaps : (unseenL (flatS rs)).map natV = ((c0 : Int) :: cs.map (fun k : Nat => (k : Int))).map (Value.int .i64) := by rw [hu]; simp [natV, Function.comp]
          have hcell : ∀ h ∈ ((shL W H F L X Y nl nh xl xh y fs).filter fun h => agreeB h.s (flatS rs)), ∀ k ∈ unseenL (flatS rs), k < h.s.size ∧ h.s.size ≤ 100000 := fun h hh k hk => by
            have h1 := shL_size (List.mem_filter.1 hh).1
            have h2 := unseenL_lt hk
            omega
          have HUI := Lib.hid hui; clear hui
          change ¬ ((shL W H F L X Y nl nh xl xh y fs).filter fun h => agreeB h.s (flatS rs)).length = 0 at hq
          unfold agL at hagl hwf
          clear hu
          generalize cs.map (fun k : Nat => (k : Int)) = ct at *
          go_enter Tryz.func63, Tryz.ntmps63
          go_wp2_with (first | (go_at_call 112; refine (goodReach_any W H F L X Y nl nh xl xh y A n cap fs _ (Nat.le_trans hn hcm) (fun f hf' => ((hf f hf').below hB2).more hB2.size) ((hr.below hB2).more hB2.size)).mono ?_; rintro e w1 ⟨rfl, hb⟩; rw [hask]; replace hA := hA.below hb hA.lt; replace hBk := hBk.below hb hBk.lt; replace hB2 := hB2.trans (hb.mono hB2.size); replace hqA := fun i => hA.cell i; replace hqB := fun i => hBk.cell i; replace hlA := hA.lt; replace hlB := hBk.lt; clear hb) | (go_at_call 113; refine (goodSight_any W H F L X Y SA sn scap rs _ (Nat.le_trans hsn hscm) hss ((hsr.below hB2).more hB2.size)).mono ?_; rintro e w1 ⟨rfl, hb⟩; rw [hsight]; replace hA := hA.below hb hA.lt; replace hBk := hBk.below hb hBk.lt; replace hB2 := hB2.trans (hb.mono hB2.size); replace hqA := fun i => hA.cell i; replace hqB := fun i => hBk.cell i; replace hlA := hA.lt; replace hlB := hBk.lt; clear hb) | (go_at_call 115; refine (shades_any W H F L X Y nl nh xl xh y A n cap fs _ hn hcm (fun f hf' => ((hf f hf').below hB2).more hB2.size) ((hr.below hB2).more hB2.size) hask2).mono ?_; rintro e w1 ⟨v1, rfl, own1, hb⟩; obtain ⟨A1, c1, rfl⟩ := own_slice own1; have hr1 := Rd.of_own own1; clear own1; replace hA := hA.below hb hA.lt; replace hBk := hBk.below hb hBk.lt; replace hB2 := hB2.trans (hb.mono hB2.size); replace hqA := fun i => hA.cell i; replace hqB := fun i => hBk.cell i; replace hlA := hA.lt; replace hlB := hBk.lt; clear hb) | (go_at_call 116; have hr2' := hr2; clear hr2'; go_loud (refine (flat_any SA sn scap rs _ ((hsr.below (hB2.alloc hB2.size _)).more (hB2.alloc hB2.size _).size) (by omega) hsn (by omega)).mono ?_; rintro e w1 ⟨rfl, hb⟩; have hbx := (Blk.new _ _ _).below hb (by simp); replace hr2 := ((((hr2.alloc (Nat.le_refl _) _).more (size_le_alloc _ _)).below hb).more hb.size); replace hB2 := (hB2.alloc hB2.size _).trans (hb.mono (Nat.le_trans hB2.size (size_le_alloc _ _))); clear hb hA hBk hqA hqB hlA hlB)) | (go_at_call 116; have hr1' := hr1; clear hr1'; refine (flat_any SA sn scap rs _ ((hsr.below hB2).more hB2.size) (by omega) hsn (by omega)).mono ?_; rintro e w1 ⟨rfl, hb⟩; replace hr1 := (hr1.below hb).more hb.size; replace hA := hA.below hb hA.lt; replace hBk := hBk.below hb hBk.lt; replace hB2 := hB2.trans (hb.mono hB2.size); replace hqA := fun i => hA.cell i; replace hqB := fun i => hBk.cell i; replace hlA := hA.lt; replace hlB := hBk.lt; clear hb) | (go_at_call 114; refine (seen_any A1 _ c1 _ (flatS rs) _ (by omega) hsz (by unfold maxLen; omega) hr1).mono ?_; rintro e w1 ⟨v2, rfl, own2, hb⟩; obtain ⟨A2, c2, rfl⟩ := own_slice own2; have hr2 := Rd.of_own own2; clear own2; clear hr1; replace hA := hA.below hb hA.lt; replace hBk := hBk.below hb hBk.lt; replace hB2 := hB2.trans (hb.mono hB2.size); replace hqA := fun i => hA.cell i; replace hqB := fun i => hBk.cell i; replace hlA := hA.lt; replace hlB := hBk.lt; clear hb) | (go_at_call 124; refine (unseenCells_any (flatS rs) _ (by omega)).mono ?_; rintro e w1 ⟨v3, rfl, own3, hb⟩; obtain ⟨A3, c3, rfl⟩ := own_slice own3; have hr3 := Rd.of_own own3; have hle3 := own_le own3 (by omega); rw [hmaps] at hr3; clear own3; replace hr2 := (hr2.below hb).more hb.size; replace hbx := hbx.below hb hbx.lt; replace hB2 := hB2.trans (hb.mono hB2.size); clear hb) | (go_at_call 125; have hcost : ∀ c ∈ (c0 : Int) :: ct, ∀ wr, Below w1.heap.size w1 wr → Calls Tryz.prog 126 #[.int .i64 c, .pointer (some ⟨_, 0, none⟩)] wr fun e w' => e = .returned (.int .i64 (mostN ((shL W H F L X Y nl nh xl xh y fs).filter fun h => agreeB h.s (flatS rs)) c.toNat : Int)) ∧ Below wr.heap.size wr w' := (fun c hc wr hbr => by obtain ⟨k, hk, rfl⟩ := hmem c hc; have h := next1_any _ A2 _ c2 k _ wr (by have h := (hbx.below hbr hbx.lt).cell 0; simpa using h) (by omega) hwf (fun h hh => hcell h hh k hk) ((hr2.below hbr).more hbr.size); simpa using h); refine (best_any _ A3 _ c3 c0 ct (fun c => (mostN ((shL W H F L X Y nl nh xl xh y fs).filter fun h => agreeB h.s (flatS rs)) c.toNat : Int)) _ hle3 (by omega) hr3 hcost).mono ?_; rintro e w2 ⟨rfl, hb⟩; replace hB2 := hB2.trans (hb.mono hB2.size); clear hb))
          go_ret3
          exact ⟨rfl, hB2⟩
end Go.Proofs.YtifddfchpknkbaaGreatDoor

namespace Go.Proofs.YtifddfchpknkbaaGreatDoor
open Go.RowKit

set_option maxRecDepth 100000 in
theorem catchIdle (b0 b1 b2 : Nat) (w : World) :
    CallsD Tryz.prog 164 #[.pointer (some ⟨b0, 0, none⟩), .pointer (some ⟨b1, 0, none⟩), .pointer (some ⟨b2, 0, none⟩)] .returning w fun e u' w' => e = .returned (.tuple #[]) ∧ u' = .returning ∧ w' = w := by
  refine callsD_of_wpS Tryz.func164 rfl fun c₀ cs hu => ?_
  simp only [Tryz.ntmps164, List.size_toArray, List.length_cons, List.length_nil, Nat.reduceAdd, Nat.reduceSub, Array.replicate_succ, Array.replicate_zero, List.push_toArray, List.append_toArray, List.nil_append, List.cons_append]
  apply wpS_seq
  apply wpS_region
  simp [wpOpsS, go_sem, recoverD, hu, Tryz.ntmps164, Exit.thenS]
  refine wpS_of_wp ?_
  go_wp2
  cases c₀
  simp_all [bodyPostS, results, Tryz.results164]

set_option maxRecDepth 100000 in
set_option maxHeartbeats 1600000 in
theorem catchPanic (b0 b1 b2 B : Nat) (a b x0 x1 x2 : Int) (w : World) (h0 : Blk w b0 3 #[.int .i64 x0]) (h1 : Blk w b1 3 #[.int .i64 x1]) (h2 : Blk w b2 31 #[.int .i64 x2]) (hB0 : B ≤ b0) (hB1 : B ≤ b1) (hB2 : B ≤ b2) (hne : b0 ≠ b1) :
    CallsD Tryz.prog 164 #[.pointer (some ⟨b0, 0, none⟩), .pointer (some ⟨b1, 0, none⟩), .pointer (some ⟨b2, 0, none⟩)] (.panicking [{ v := .iface 209 (.agg #[.int .i64 a, .int .i64 b]), recovered := false }]) w fun e u' w' =>
      e = .returned (.tuple #[]) ∧ u' = .panicking [{ v := .iface 209 (.agg #[.int .i64 a, .int .i64 b]), recovered := true }] ∧ Blk w' b0 3 #[.int .i64 a] ∧ Blk w' b1 3 #[.int .i64 b] ∧ Blk w' b2 31 #[.int .i64 0] ∧ Below B w w' := by
  have hta : ∀ (a b : Int) (w : World), (Instr.typeAssert (.iface 209 (.agg #[.int .i64 a, .int .i64 b])) 20 209 true).run Tryz.prog w = .ok (.tuple #[.agg #[.int .i64 a, .int .i64 b], .bool true]) w := fun _ _ _ => by kernel_rfl
  refine callsD_of_wpS Tryz.func164 rfl fun c₀ cs hu => ?_
  simp only [Tryz.ntmps164, List.size_toArray, List.length_cons, List.length_nil, Nat.reduceAdd, Nat.reduceSub, Array.replicate_succ, Array.replicate_zero, List.push_toArray, List.append_toArray, List.nil_append, List.cons_append]
  apply wpS_seq
  apply wpS_region
  simp [wpOpsS, go_sem, recoverD, hu, Tryz.ntmps164, Exit.thenS]
  refine wpS_of_wp ?_
  go_wp2
  have hl0 := h0.lt; have hl1 := h1.lt; have hl2 := h2.lt
  have hn01 : b0 ≠ w.heap.size := by omega
  have hn11 : b1 ≠ w.heap.size := by omega
  have hn21 : b2 ≠ w.heap.size := by omega
  have hn02 : b0 ≠ b2 := Blk.ne_ h0 h2 (by decide)
  have hn12 : b1 ≠ b2 := Blk.ne_ h1 h2 (by decide)
  obtain ⟨W, hW⟩ : ∃ W, W = w.alloc (.cells #[.int .i64 a, .int .i64 b] 209) := ⟨_, rfl⟩
  have g0 : Blk W b0 3 #[.int .i64 x0] := by rw [hW]; exact h0.alloc _
  have g1 : Blk W b1 3 #[.int .i64 x1] := by rw [hW]; exact h1.alloc _
  have g2 : Blk W b2 31 #[.int .i64 x2] := by rw [hW]; exact h2.alloc _
  have gn : Blk W w.heap.size 209 #[.int .i64 a, .int .i64 b] := by rw [hW]; exact Blk.new _ _ _
  have hBW : Below B w W := by rw [hW]; exact (Below.refl B w).alloc (by omega) _
  rw [← hW]
  clear hW h0 h1 h2
  refine wp_region_G (fun w' => Blk w' w.heap.size 209 #[.int .i64 a, .int .i64 b]) 6 (by kernel_rfl) ?_
  have hTT := gn
  refine wpG_take (i := 0) (v := ?v0) rfl (by kernel_rfl) (by kernel_rfl) (by kernel_rfl) (by kernel_rfl) (fun _ _ _ h => h) (Or.inl ⟨by rfl, ?hy0⟩) hTT ?rest0
  case hy0 => intro wq hSw; have hq1 := fun i => hSw.cell i; go_simp <;> with_reducible rfl
  simp only [List.getElem_toArray, List.getElem_cons_zero, List.getElem_cons_succ, Act.put, List.setIfInBounds_toArray, List.set_cons_zero, List.set_cons_succ]
  refine wpG_take (i := 1) (v := ?v1) rfl (by kernel_rfl) (by kernel_rfl) (by kernel_rfl) (by kernel_rfl) (fun _ _ _ h => h) (Or.inl ⟨by rfl, ?hy1⟩) hTT ?rest1
  case hy1 => intro wq hSw; have hq1 := fun i => hSw.cell i; go_simp <;> with_reducible rfl
  simp only [List.getElem_toArray, List.getElem_cons_zero, List.getElem_cons_succ, Act.put, List.setIfInBounds_toArray, List.set_cons_zero, List.set_cons_succ]
  refine wpG_take (i := 2) (v := ?v2) rfl (by kernel_rfl) (by kernel_rfl) (by kernel_rfl) (by kernel_rfl) (fun _ _ _ h => h) (Or.inl ⟨by rfl, ?hy2⟩) hTT ?rest2
  case hy2 => intro wq hSw; have hq1 := fun i => hSw.cell i; go_simp <;> with_reducible rfl
  simp only [List.getElem_toArray, List.getElem_cons_zero, List.getElem_cons_succ, Act.put, List.setIfInBounds_toArray, List.set_cons_zero, List.set_cons_succ]
  refine wpG_take (i := 3) (v := ?v3) rfl (by kernel_rfl) (by kernel_rfl) (by kernel_rfl) (by kernel_rfl) (fun _ _ _ h => h) (Or.inl ⟨by rfl, ?hy3⟩) hTT ?rest3
  case hy3 => intro wq hSw; have hq1 := fun i => hSw.cell i; go_simp <;> with_reducible rfl
  simp only [List.getElem_toArray, List.getElem_cons_zero, List.getElem_cons_succ, Act.put, List.setIfInBounds_toArray, List.set_cons_zero, List.set_cons_succ]
  have hc0 : W.drew.cell? ⟨b0, 0, none⟩ = some (.int .i64 x0) := by have h := g0.cell 0; simpa using h
  have hf0 : W.drew.frozen? ⟨b0, 0, none⟩ = false := g0.frozen 0
  refine wpG_one (i := 4) rfl (by kernel_rfl) (fun K hK => ?_)
  go_simp
  have g1' := (Blk.far g1 (p := ⟨b0, 0, none⟩) (show b1 ≠ b0 from fun e => hne e.symm) (.int .i64 a)).drew; have g2' := (Blk.far g2 (p := ⟨b0, 0, none⟩) (show b2 ≠ b0 from fun e => hn02 e.symm) (.int .i64 a)).drew; have g0' := (Blk.set_ g0 0 (.int .i64 a)).drew; have gn' := (Blk.far gn (p := ⟨b0, 0, none⟩) (show w.heap.size ≠ b0 from fun e => hn01 e.symm) (.int .i64 a)).drew; have hB' := (hBW.setCell (p := ⟨b0, 0, none⟩) hB0 (.int .i64 a)).drew; clear hc0 hf0 hTT; have hTT := gn'; generalize (W.setCell ⟨b0, 0, none⟩ (.int .i64 a)).drew = W1 at *; have hc1 : W1.cell? ⟨b1, 0, none⟩ = some (.int .i64 x1) := (by have h := g1'.cell 0; simpa using h); have hf1 := g1'.frozen 0
  refine hK _ _ (.inr hTT) ?_
  clear hK K
  try simp only [List.getElem_toArray, List.getElem_cons_zero, List.getElem_cons_succ, Act.put, List.setIfInBounds_toArray, List.set_cons_zero, List.set_cons_succ]
  refine wpG_one (i := 5) rfl (by kernel_rfl) (fun K hK => ?_)
  go_simp
  have g0'' := g0'.far (p := ⟨b1, 0, none⟩) (show b0 ≠ b1 from hne) (.int .i64 b); have g2'' := g2'.far (p := ⟨b1, 0, none⟩) (show b2 ≠ b1 from fun e => hn12 e.symm) (.int .i64 b); have g1'' := g1'.set_ 0 (.int .i64 b); have gn'' := gn'.far (p := ⟨b1, 0, none⟩) (show w.heap.size ≠ b1 from fun e => hn11 e.symm) (.int .i64 b); have hB'' := hB'.setCell (p := ⟨b1, 0, none⟩) hB1 (.int .i64 b); clear hc1 hf1 hTT; have hTT := gn''; generalize W1.setCell ⟨b1, 0, none⟩ (.int .i64 b) = W2 at *; have hc2 : W2.cell? ⟨b2, 0, none⟩ = some (.int .i64 x2) := (by have h := g2''.cell 0; simpa using h); have hf2 := g2''.frozen 0
  refine hK _ _ (.inr hTT) ?_
  clear hK K
  try simp only [List.getElem_toArray, List.getElem_cons_zero, List.getElem_cons_succ, Act.put, List.setIfInBounds_toArray, List.set_cons_zero, List.set_cons_succ]
  refine wpG_one (i := 6) rfl (by kernel_rfl) (fun K hK => ?_)
  go_simp
  refine hK _ _ (.inl rfl) ?_
  clear hK K
  try simp only [List.getElem_toArray, List.getElem_cons_zero, List.getElem_cons_succ, Act.put, List.setIfInBounds_toArray, List.set_cons_zero, List.set_cons_succ]
  refine wpG_done (by kernel_rfl) ?_ _
  have k0 := g0''.far (p := ⟨b2, 0, none⟩) (show b0 ≠ b2 from hn02) (.int .i64 0)
  have k1 := g1''.far (p := ⟨b2, 0, none⟩) (show b1 ≠ b2 from hn12) (.int .i64 0)
  have k2 := g2''.set_ 0 (.int .i64 0)
  have kB := hB''.setCell (p := ⟨b2, 0, none⟩) hB2 (.int .i64 0)
  refine ⟨rfl, _, rfl, _, by simp [results, Tryz.results164], rfl, rfl, by simpa using k0, by simpa using k1, by simpa using k2, kB⟩

/-- Whether shades of two figures agree. -/
def misAt (l : List Sh) (one other : Nat) : Option (Int × Int) := agFirst (l.filter fun h => h.f == (one : Int)) (l.filter fun h => h.f == (other : Int))
def misRow (l : List Sh) (one m : Nat) : Option (Int × Int) := ((List.range m).filter fun o => decide (one < o)).findSome? (misAt l one)
/-- The first two figures that can be mistaken. -/
def misF (l : List Sh) (m : Nat) : Option (Int × Int) := (List.range m).findSome? fun one => misRow l one m
def misV (r : Option (Int × Int)) : Array Value := match r with | some (a, b) => #[.int .i64 a, .int .i64 b, .int .i64 0] | none => #[.int .i64 0, .int .i64 0, .int .i64 5]
theorem misRow_succ (l : List Sh) (one j : Nat) (h : one < j) (h0 : misRow l one j = none) : misRow l one (j + 1) = misAt l one j := by
  unfold misRow at *
  rw [List.range_succ, List.filter_append, List.findSome?_append, h0]
  simp [h]
theorem misRow_stop (l : List Sh) (one : Nat) : ∀ (j m : Nat), j ≤ m → (r : Int × Int) → misRow l one j = some r → misRow l one m = some r := by
  intro j m hjm r h
  induction m with
  | zero => obtain rfl : j = 0 := by omega
            exact h
  | succ m ih =>
    rcases Nat.lt_or_ge m j with h1 | h1
    · obtain rfl : j = m + 1 := by omega
      exact h
    · have h2 := ih h1
      unfold misRow at h2 ⊢
      rw [List.range_succ, List.filter_append, List.findSome?_append, h2]; rfl
theorem misRow_start (l : List Sh) (one : Nat) : misRow l one (one + 1) = none := by
  unfold misRow
  have : (List.range (one + 1)).filter (fun o => decide (one < o)) = [] := by
    rw [List.filter_eq_nil_iff]; intro o ho; have := List.mem_range.1 ho; simp; omega
  rw [this]; rfl
theorem misUp_succ (l : List Sh) (m k : Nat) (h0 : (List.range k).findSome? (fun one => misRow l one m) = none) : (List.range (k + 1)).findSome? (fun one => misRow l one m) = misRow l k m := by
  rw [List.range_succ, List.findSome?_append, h0]; simp
theorem misUp_stop (l : List Sh) (m k : Nat) (hk : k < m) (h0 : (List.range k).findSome? (fun one => misRow l one m) = none) (r : Int × Int) (h : misRow l k m = some r) : misF l m = some r := by
  unfold misF
  have e : List.range m = List.range (k + 1) ++ (List.range m).drop (k + 1) := by
    have := (List.take_append_drop (k + 1) (List.range m)).symm
    rwa [List.take_range, Nat.min_eq_left (by omega)] at this
  rw [e, List.findSome?_append, misUp_succ l m k h0, h]; rfl

set_option maxRecDepth 100000 in
set_option maxHeartbeats 1600000 in
theorem mistaken_any (A : Option Addr) (n cap : Nat) (l : List Sh) (m sz : Nat) (w : World) (hn : n ≤ 100000) (hm : m ≤ 1000) (hs : ∀ h ∈ l, h.s.size = sz) (hsz : sz ≤ 100000) (hr : Rd w w.heap.size 5 A n (l.flatMap shC)) :
    Calls Tryz.prog 129 #[.slice A n cap, .int .i64 m] w fun e w' => e = .returned (.tuple (misV (misF l m))) ∧ Below w.heap.size w w' := by
  have hmf : ∀ (fn : Fn) (first cap : Array Value) (w : World), (Instr.makeFunc fn first cap).run Tryz.prog w = .ok (.func fn first cap) w := fun _ _ _ _ => rfl
  have hlen := hr.len5
  have hfl : ∀ p : Sh → Bool, (l.filter p).length ≤ 100000 := fun p => Nat.le_trans (List.length_filter_le _ _) (by omega)
  have hfs : ∀ (p : Sh → Bool), ∀ h ∈ l.filter p, h.s.size = sz := fun p h hh => hs h (List.mem_filter.1 hh).1
  clear hlen
  go_enter_defers Tryz.func129, Tryz.ntmps129
  go_wp2
  have q0 : Blk (((w.alloc (.cells #[.int .i64 0] 3)).alloc (.cells #[.int .i64 0] 3)).alloc (.cells #[.int .i64 0] 31)) w.heap.size 3 #[.int .i64 0] := ((Blk.new w 3 #[.int .i64 0]).alloc _).alloc _
  have q1 : Blk (((w.alloc (.cells #[.int .i64 0] 3)).alloc (.cells #[.int .i64 0] 3)).alloc (.cells #[.int .i64 0] 31)) (w.heap.size + 1) 3 #[.int .i64 0] := (blk2 w _ 3 #[.int .i64 0]).alloc _
  have q2 : Blk (((w.alloc (.cells #[.int .i64 0] 3)).alloc (.cells #[.int .i64 0] 3)).alloc (.cells #[.int .i64 0] 31)) (w.heap.size + 1 + 1) 31 #[.int .i64 0] := by have h := Blk.new ((w.alloc (.cells #[.int .i64 0] 3)).alloc (.cells #[.int .i64 0] 3)) 31 #[.int .i64 0]; simpa only [World.size_alloc] using h
  have hB : Below w.heap.size w (((w.alloc (.cells #[.int .i64 0] 3)).alloc (.cells #[.int .i64 0] 3)).alloc (.cells #[.int .i64 0] 31)) := (((Below.refl _ w).alloc (Nat.le_refl _) _).alloc (by simp only [World.size_alloc]; omega) _).alloc (by simp only [World.size_alloc]; omega) _
  go_loopg [11] m (fun g i wr => ∃ k : Nat, g = m - k ∧ k ≤ m ∧ i = .int .i64 k ∧ (List.range k).findSome? (fun one => misRow l one m) = none ∧ Blk wr w.heap.size 3 #[.int .i64 0] ∧ Blk wr (w.heap.size + 1) 3 #[.int .i64 0] ∧ Blk wr (w.heap.size + 1 + 1) 31 #[.int .i64 0] ∧ Below w.heap.size w wr)
  case atStart => exact ⟨0, rfl, Nat.zero_le _, rfl, rfl, q0, q1, q2, hB⟩
  case round =>
    clear q0 q1 q2 hB
    obtain ⟨k, hg, hk, rfl, hno, q0, q1, q2, hB⟩ := hrel
    have HG := Lib.hid hg; clear hg
    by_cases hlt : k < m
    · go_wp2
      go_loopg [8] (m - (k + 1)) (fun g i wr => ∃ j : Nat, g = m - j ∧ k < j ∧ j ≤ m ∧ i = .int .i64 j ∧ misRow l k j = none ∧ Blk wr w.heap.size 3 #[.int .i64 0] ∧ Blk wr (w.heap.size + 1) 3 #[.int .i64 0] ∧ Blk wr (w.heap.size + 1 + 1) 31 #[.int .i64 0] ∧ Below w.heap.size w wr)
      case atStart => exact ⟨k + 1, rfl, by omega, by omega, by go_num, misRow_start l k, q0, q1, q2, hB⟩
      case round =>
        clear q0 q1 q2 hB
        obtain ⟨j, hg, hkj, hj, rfl, hno2, q0, q1, q2, hB⟩ := hrel
        have HG2 := Lib.hid hg; clear hg
        by_cases hlt2 : j < m
        · have hsu := misRow_succ l k j hkj hno2
          cases hres : misAt l k j with
          | none =>
            have HR := Lib.hid hres
            rw [hres] at hsu
            have HSU := Lib.hid hsu; clear hsu hres hno2
            have HNO := Lib.hid hno; clear hno
            go_wp2_with (first | (go_at_call 166; have hr1' := hr1; clear hr1'; refine (shadesOf_any A n cap l _ _ hn ((hr.below hB).more hB.size)).mono ?_; rintro e w1 ⟨v2, rfl, own2, hb⟩; obtain ⟨A2, c2, rfl⟩ := own_slice own2; have hr2 := Rd.of_own own2; clear own2; replace hr1 := (hr1.below hb).more hb.size; replace q0 := q0.below hb q0.lt; replace q1 := q1.below hb q1.lt; replace q2 := q2.below hb q2.lt; replace hB := hB.trans (hb.mono hB.size); clear hb) | (go_at_call 166; refine (shadesOf_any A n cap l _ _ hn ((hr.below hB).more hB.size)).mono ?_; rintro e w1 ⟨v1, rfl, own1, hb⟩; obtain ⟨A1, c1, rfl⟩ := own_slice own1; have hr1 := Rd.of_own own1; clear own1; replace q0 := q0.below hb q0.lt; replace q1 := q1.below hb q1.lt; replace q2 := q2.below hb q2.lt; replace hB := hB.trans (hb.mono hB.size); clear hb) | (go_at_call 165; refine (tellApart_any A1 _ c1 A2 _ c2 _ _ _ (hfl _) (hfl _) sz (hfs _) (hfs _) hsz hr1 hr2).mono ?_; rintro e w1 ⟨he, hb⟩; rw [show agFirst _ _ = _ from HR.out] at he; obtain rfl := he; replace q0 := q0.below hb q0.lt; replace q1 := q1.below hb q1.lt; replace q2 := q2.below hb q2.lt; replace hB := hB.trans (hb.mono hB.size); clear hb))
            go_roundg (m - (j + 1))
            case measure => rw [HG2.out]; omega
            case rel => exact ⟨j + 1, rfl, by omega, by omega, by go_num, HSU.out, q0, q1, q2, hB⟩
          | some r =>
            obtain ⟨a, b⟩ := r
            have HR := Lib.hid hres
            rw [hres] at hsu
            have hF := misUp_stop l m k hlt hno _ (misRow_stop l k (j + 1) m (by omega) _ hsu)
            have HF := Lib.hid hF; clear hsu hres hno2 hno hF
            go_wp2_with (first | (go_at_call 166; have hr1' := hr1; clear hr1'; refine (shadesOf_any A n cap l _ _ hn ((hr.below hB).more hB.size)).mono ?_; rintro e w1 ⟨v2, rfl, own2, hb⟩; obtain ⟨A2, c2, rfl⟩ := own_slice own2; have hr2 := Rd.of_own own2; clear own2; replace hr1 := (hr1.below hb).more hb.size; replace q0 := q0.below hb q0.lt; replace q1 := q1.below hb q1.lt; replace q2 := q2.below hb q2.lt; replace hB := hB.trans (hb.mono hB.size); clear hb) | (go_at_call 166; refine (shadesOf_any A n cap l _ _ hn ((hr.below hB).more hB.size)).mono ?_; rintro e w1 ⟨v1, rfl, own1, hb⟩; obtain ⟨A1, c1, rfl⟩ := own_slice own1; have hr1 := Rd.of_own own1; clear own1; replace q0 := q0.below hb q0.lt; replace q1 := q1.below hb q1.lt; replace q2 := q2.below hb q2.lt; replace hB := hB.trans (hb.mono hB.size); clear hb) | (go_at_call 165; refine (tellApart_any A1 _ c1 A2 _ c2 _ _ _ (hfl _) (hfl _) sz (hfs _) (hfs _) hsz hr1 hr2).mono ?_; rintro e w1 ⟨he, hb⟩; rw [show agFirst _ _ = _ from HR.out] at he; obtain rfl := he; replace q0 := q0.below hb q0.lt; replace q1 := q1.below hb q1.lt; replace q2 := q2.below hb q2.lt; replace hB := hB.trans (hb.mono hB.size); clear hb))
            refine leaves_cons (f := 164) (args := #[.pointer (some ⟨w.heap.size, 0, none⟩), .pointer (some ⟨w.heap.size + 1, 0, none⟩), .pointer (some ⟨w.heap.size + 1 + 1, 0, none⟩)]) (by simp) (by simp [go_sem]) ?_
            refine (catchPanic _ _ _ w.heap.size a b 0 0 0 _ q0 q1 q2 (Nat.le_refl _) (by omega) (by omega) (by omega)).mono ?_
            rintro e u' w2 ⟨rfl, rfl, k0, k1, k2, hb⟩
            have c0 := k0.cell 0; have c1 := k1.cell 0; have c2 := k2.cell 0
            simp only [List.getElem?_toArray, List.getElem?_cons_zero] at c0 c1 c2
            have hBB := hB.trans hb
            simp [Leaves, settle, results, Tryz.results129, go_sem, c0, c1, c2, HF.out, misV, hBB]
        · obtain rfl : j = m := by omega
          have hup := misUp_succ l j k hno
          rw [hno2] at hup
          have HUP := Lib.hid hup; clear hup hno hno2
          go_wp2
          go_roundg (j - (k + 1))
          case measure => rw [HG.out]; omega
          case rel => exact ⟨k + 1, rfl, by omega, by go_num, HUP.out, q0, q1, q2, hB⟩
    · obtain rfl : k = m := by omega
      have hF : misF l k = none := hno
      have HF := Lib.hid hF
      clear hno hF
      have p0 := fun i => q0.cell i; have p1 := fun i => q1.cell i; have p2 := fun i => q2.cell i
      have f0 := fun i => q0.frozen i; have f1 := fun i => q1.frozen i; have f2 := fun i => q2.frozen i
      go_wp2
      have z0 := ((q0.set_ 0 (.int .i64 0)).far (p := ⟨w.heap.size + 1, 0, none⟩) (by simp) (.int .i64 0)).far (p := ⟨w.heap.size + 1 + 1, 0, none⟩) (by simp <;> omega) (.int .i64 5)
      have z1 := ((q1.far (p := ⟨w.heap.size, 0, none⟩) (by simp) (.int .i64 0)).set_ 0 (.int .i64 0)).far (p := ⟨w.heap.size + 1 + 1, 0, none⟩) (by simp) (.int .i64 5)
      have z2 := ((q2.far (p := ⟨w.heap.size, 0, none⟩) (by simp <;> omega) (.int .i64 0)).far (p := ⟨w.heap.size + 1, 0, none⟩) (by simp) (.int .i64 0)).set_ 0 (.int .i64 5)
      have zB := ((hB.setCell (p := ⟨w.heap.size, 0, none⟩) (Nat.le_refl _) (.int .i64 0)).setCell (p := ⟨w.heap.size + 1, 0, none⟩) (by simp) (.int .i64 0)).setCell (p := ⟨w.heap.size + 1 + 1, 0, none⟩) (by simp <;> omega) (.int .i64 5)
      refine leaves_cons (f := 164) (args := #[.pointer (some ⟨w.heap.size, 0, none⟩), .pointer (some ⟨w.heap.size + 1, 0, none⟩), .pointer (some ⟨w.heap.size + 1 + 1, 0, none⟩)]) (by simp) (by simp [go_sem]) ?_
      refine (catchIdle _ _ _ _).mono ?_
      rintro e u' w2 ⟨rfl, rfl, rfl⟩
      have c0 := z0.cell 0; have c1 := z1.cell 0; have c2 := z2.cell 0
      simp only [List.setIfInBounds_toArray, List.set_cons_zero, List.getElem?_toArray, List.getElem?_cons_zero] at c0 c1 c2
      simp [Leaves, settle, results, Tryz.results129, go_sem, c0, c1, c2, HF.out, misV, zB]
end Go.Proofs.YtifddfchpknkbaaGreatDoor

namespace Go.Proofs.YtifddfchpknkbaaGreatDoor
open Go.RowKit

def mistR (W H F L X Y nl nh xl xh y : Int) (fs : List Fig) : Array Value := if askB W H F L X Y nl nh xl xh y fs then misV (misF (shL W H F L X Y nl nh xl xh y fs) fs.length) else #[.int .i64 0, .int .i64 0, .int .i64 2]
theorem misV_form (r : Option (Int × Int)) : ∃ a b c, misV r = #[.int .i64 a, .int .i64 b, .int .i64 c] := by
  cases r with
  | none => exact ⟨_, _, _, rfl⟩
  | some p => exact ⟨_, _, _, rfl⟩

set_option maxRecDepth 100000 in
set_option maxHeartbeats 1600000 in
theorem Mistaken_any (W H F L X Y nl nh xl xh y : Int) (A : Option Addr) (n cap : Nat) (fs : List Fig) (w : World) (hn : n ≤ cap) (hcm : cap ≤ maxLen) (hf : ∀ f ∈ fs, f.ok w w.heap.size) (hr : Rd w w.heap.size 1 A n (fs.map Fig.val)) :
    Calls Tryz.prog 68 #[.agg #[.int .i64 W, .int .i64 H, .int .i64 F, .int .i64 L, .int .i64 X, .int .i64 Y], .slice A n cap, .agg #[.int .i64 nl, .int .i64 nh, .int .i64 xl, .int .i64 xh, .int .i64 y]] w fun e w' => e = .returned (.tuple (mistR W H F L X Y nl nh xl xh y fs)) ∧ Below w.heap.size w w' := by
  have hA : Blk ((w.alloc (.cells #[.int .i64 W, .int .i64 H, .int .i64 F, .int .i64 L, .int .i64 X, .int .i64 Y] 23)).alloc (.cells #[.int .i64 nl, .int .i64 nh, .int .i64 xl, .int .i64 xh, .int .i64 y] 71)) w.heap.size 23 #[.int .i64 W, .int .i64 H, .int .i64 F, .int .i64 L, .int .i64 X, .int .i64 Y] := (Blk.new w 23 #[.int .i64 W, .int .i64 H, .int .i64 F, .int .i64 L, .int .i64 X, .int .i64 Y]).alloc _
  have hBk : Blk ((w.alloc (.cells #[.int .i64 W, .int .i64 H, .int .i64 F, .int .i64 L, .int .i64 X, .int .i64 Y] 23)).alloc (.cells #[.int .i64 nl, .int .i64 nh, .int .i64 xl, .int .i64 xh, .int .i64 y] 71)) (w.heap.size + 1) 71 #[.int .i64 nl, .int .i64 nh, .int .i64 xl, .int .i64 xh, .int .i64 y] := blk2 w _ 71 #[.int .i64 nl, .int .i64 nh, .int .i64 xl, .int .i64 xh, .int .i64 y]
  have hB2 : Below w.heap.size w ((w.alloc (.cells #[.int .i64 W, .int .i64 H, .int .i64 F, .int .i64 L, .int .i64 X, .int .i64 Y] 23)).alloc (.cells #[.int .i64 nl, .int .i64 nh, .int .i64 xl, .int .i64 xh, .int .i64 y] 71)) := ((Below.refl _ w).alloc (Nat.le_refl _) _).alloc (by simp only [World.size_alloc]; omega) _
  have hqA := fun i => hA.cell i; have hqB := fun i => hBk.cell i; have hlA := hA.lt; have hlB := hBk.lt
  cases hask : (stageB W H F L X Y && (compB fs && reachB F nl nh xl xh y))
  · have he : mistR W H F L X Y nl nh xl xh y fs = #[.int .i64 0, .int .i64 0, .int .i64 2] := by simp [mistR, askB, hask]
    rw [he]
    go_enter Tryz.func68, Tryz.ntmps68
    go_wp2_with (first | (go_at_call 112; refine (goodReach_any W H F L X Y nl nh xl xh y A n cap fs _ (Nat.le_trans hn hcm) (fun f hf' => ((hf f hf').below hB2).more hB2.size) ((hr.below hB2).more hB2.size)).mono ?_; rintro e w1 ⟨rfl, hb⟩; rw [hask]; replace hA := hA.below hb hA.lt; replace hBk := hBk.below hb hBk.lt; replace hB2 := hB2.trans (hb.mono hB2.size); replace hqA := fun i => hA.cell i; replace hqB := fun i => hBk.cell i; replace hlA := hA.lt; replace hlB := hBk.lt; clear hb))
    go_ret3
    exact ⟨rfl, hB2⟩
  · have hask2 : askB W H F L X Y nl nh xl xh y fs = true := hask
    have hdm := ask_dims hask2
    have hsm : (shL W H F L X Y nl nh xl xh y fs).length ≤ 216 := by rw [shL, List.length_map]; exact allR_small hask2
    have hsz2 : ∀ h ∈ shL W H F L X Y nl nh xl xh y fs, h.s.size = W.toNat * H.toNat := fun h hh => shL_size hh
    have hlr := hr.len
    have he : mistR W H F L X Y nl nh xl xh y fs = misV (misF (shL W H F L X Y nl nh xl xh y fs) n) := by simp [mistR, hask2, hlr]
    obtain ⟨a, b, c, hform⟩ := misV_form (misF (shL W H F L X Y nl nh xl xh y fs) n)
    rw [he, hform]
    go_enter Tryz.func68, Tryz.ntmps68
    go_wp2_with (first | (go_at_call 112; refine (goodReach_any W H F L X Y nl nh xl xh y A n cap fs _ (Nat.le_trans hn hcm) (fun f hf' => ((hf f hf').below hB2).more hB2.size) ((hr.below hB2).more hB2.size)).mono ?_; rintro e w1 ⟨rfl, hb⟩; rw [hask]; replace hA := hA.below hb hA.lt; replace hBk := hBk.below hb hBk.lt; replace hB2 := hB2.trans (hb.mono hB2.size); replace hqA := fun i => hA.cell i; replace hqB := fun i => hBk.cell i; replace hlA := hA.lt; replace hlB := hBk.lt; clear hb) | (go_at_call 115; refine (shades_any W H F L X Y nl nh xl xh y A n cap fs _ hn hcm (fun f hf' => ((hf f hf').below hB2).more hB2.size) ((hr.below hB2).more hB2.size) hask2).mono ?_; rintro e w1 ⟨v1, rfl, own1, hb⟩; obtain ⟨A1, c1, rfl⟩ := own_slice own1; have hr1 := Rd.of_own own1; clear own1; replace hA := hA.below hb hA.lt; replace hBk := hBk.below hb hBk.lt; replace hB2 := hB2.trans (hb.mono hB2.size); replace hqA := fun i => hA.cell i; replace hqB := fun i => hBk.cell i; replace hlA := hA.lt; replace hlB := hBk.lt; clear hb) | (go_at_call 129; refine (mistaken_any A1 _ c1 _ n (W.toNat * H.toNat) _ (by omega) (by omega) hsz2 (by omega) hr1).mono ?_; rintro e w1 ⟨rfl, hb⟩; rw [hform]; clear hr1; replace hA := hA.below hb hA.lt; replace hBk := hBk.below hb hBk.lt; replace hB2 := hB2.trans (hb.mono hB2.size); replace hqA := fun i => hA.cell i; replace hqB := fun i => hBk.cell i; replace hlA := hA.lt; replace hlB := hBk.lt; clear hb))
    go_ret3
    exact ⟨rfl, hB2⟩
end Go.Proofs.YtifddfchpknkbaaGreatDoor
