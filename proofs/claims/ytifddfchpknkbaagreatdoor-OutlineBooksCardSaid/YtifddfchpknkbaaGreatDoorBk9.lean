import Derived.Test.YtifddfchpknkbaaGreatDoorProg
import Derived.Test.YtifddfchpknkbaaGreatDoorShelf
import Derived.Test.YtifddfchpknkbaaGreatDoorBk8
import Derived.Recover
import Derived.Laws.OwnMore
import Derived.BigQuiet
import Derived.Lib.OwnBridge
set_option linter.unusedVariables false
set_option linter.unusedSimpArgs false
namespace Go.Proofs.YtifddfchpknkbaaGreatDoor
section
open Go.RowKit
def mistR (W H F L X Y nl nh xl xh y : Int) (fs : List Fig) : Array Value := if askB W H F L X Y nl nh xl xh y fs then misV (misF (shL W H F L X Y nl nh xl xh y fs) fs.length) else #[.int .i64 0, .int .i64 0, .int .i64 2]
theorem misV_form (r : Option (Int × Int)) : ∃ a b c, misV r = #[.int .i64 a, .int .i64 b, .int .i64 c] := by
  cases r with
  | none => exact ⟨_, _, _, rfl⟩
  | some p => exact ⟨_, _, _, rfl⟩
set_option maxRecDepth 100000 in
set_option maxHeartbeats 1600000 in
theorem Mistaken_any (W H F L X Y nl nh xl xh y : Int) (A : Option Addr) (n cap : Nat) (fs : List Fig) (w : World) (hn : n ≤ cap) (hcm : cap ≤ maxLen) (hf : ∀ f ∈ fs, f.ok w w.heap.size) (hr : Rd w w.heap.size 1 A n (fs.map Fig.val)) :
    Calls Tryz.prog 68 #[.agg #[.int .i64 W, .int .i64 H, .int .i64 F, .int .i64 L, .int .i64 X, .int .i64 Y], .slice A n cap, .agg #[.int .i64 nl, .int .i64 nh, .int .i64 xl, .int .i64 xh, .int .i64 y]] w fun e w' => e = .returned (.tuple (mistR W H F L X Y nl nh xl xh y fs)) ∧ Below w.heap.size w w' := by
  have hA : Blk ((w.alloc (.cells #[.int .i64 W, .int .i64 H, .int .i64 F, .int .i64 L, .int .i64 X, .int .i64 Y] 23)).alloc (.cells #[.int .i64 nl, .int .i64 nh, .int .i64 xl, .int .i64 xh, .int .i64 y] 71)) w.heap.size 23 #[.int .i64 W, .int .i64 H, .int .i64 F, .int .i64 L, .int .i64 X, .int .i64 Y] := (Blk.new w 23 #[.int .i64 W, .int .i64 H, .int .i64 F, .int .i64 L, .int .i64 X, .int .i64 Y]).alloc _
  have hBk : Blk ((w.alloc (.cells #[.int .i64 W, .int .i64 H, .int .i64 F, .int .i64 L, .int .i64 X, .int .i64 Y] 23)).alloc (.cells #[.int .i64 nl, .int .i64 nh, .int .i64 xl, .int .i64 xh, .int .i64 y] 71)) (w.heap.size + 1) 71 #[.int .i64 nl, .int .i64 nh, .int .i64 xl, .int .i64 xh, .int .i64 y] := blk2 w _ 71 #[.int .i64 nl, .int .i64 nh, .int .i64 xl, .int .i64 xh, .int .i64 y]
  have hB2 : Below w.heap.size w ((w.alloc (.cells #[.int .i64 W, .int .i64 H, .int .i64 F, .int .i64 L, .int .i64 X, .int .i64 Y] 23)).alloc (.cells #[.int .i64 nl, .int .i64 nh, .int .i64 xl, .int .i64 xh, .int .i64 y] 71)) := ((Below.refl _ w).alloc (Nat.le_refl _) _).alloc (by simp only [World.size_alloc]; omega) _
  have hqA := fun i => hA.cell i; have hqB := fun i => hBk.cell i; have hlA := hA.lt; have hlB := hBk.lt
  cases hask : (stageB W H F L X Y && (compB fs && reachB F nl nh xl xh y))
  · have he : mistR W H F L X Y nl nh xl xh y fs = #[.int .i64 0, .int .i64 0, .int .i64 2] := by simp [mistR, askB, hask]
    rw [he]
    go_enter Tryz.func68, Tryz.ntmps68
    go_wp2_with (first | (go_at_call 112; refine (goodReach_any W H F L X Y nl nh xl xh y A n cap fs _ (Nat.le_trans hn hcm) (fun f hf' => ((hf f hf').below hB2).more hB2.size) ((hr.below hB2).more hB2.size)).mono ?_; rintro e w1 ⟨rfl, hb⟩; rw [hask]; replace hA := hA.below hb hA.lt; replace hBk := hBk.below hb hBk.lt; replace hB2 := hB2.trans (hb.mono hB2.size); replace hqA := fun i => hA.cell i; replace hqB := fun i => hBk.cell i; replace hlA := hA.lt; replace hlB := hBk.lt; clear hb))
    go_ret3
    exact ⟨rfl, hB2⟩
  · have hask2 : askB W H F L X Y nl nh xl xh y fs = true := hask
    have hdm := ask_dims hask2
    have hsm : (shL W H F L X Y nl nh xl xh y fs).length ≤ 216 := by rw [shL, List.length_map]; exact allR_small hask2
    have hsz2 : ∀ h ∈ shL W H F L X Y nl nh xl xh y fs, h.s.size = W.toNat * H.toNat := fun h hh => shL_size hh
    have hlr := hr.len
    have he : mistR W H F L X Y nl nh xl xh y fs = misV (misF (shL W H F L X Y nl nh xl xh y fs) n) := by simp [mistR, hask2, hlr]
    obtain ⟨a, b, c, hform⟩ := misV_form (misF (shL W H F L X Y nl nh xl xh y fs) n)
    rw [he, hform]
    go_enter Tryz.func68, Tryz.ntmps68
    go_wp2_with (first | (go_at_call 112; refine (goodReach_any W H F L X Y nl nh xl xh y A n cap fs _ (Nat.le_trans hn hcm) (fun f hf' => ((hf f hf').below hB2).more hB2.size) ((hr.below hB2).more hB2.size)).mono ?_; rintro e w1 ⟨rfl, hb⟩; rw [hask]; replace hA := hA.below hb hA.lt; replace hBk := hBk.below hb hBk.lt; replace hB2 := hB2.trans (hb.mono hB2.size); replace hqA := fun i => hA.cell i; replace hqB := fun i => hBk.cell i; replace hlA := hA.lt; replace hlB := hBk.lt; clear hb) | (go_at_call 115; refine (shades_any W H F L X Y nl nh xl xh y A n cap fs _ hn hcm (fun f hf' => ((hf f hf').below hB2).more hB2.size) ((hr.below hB2).more hB2.size) hask2).mono ?_; rintro e w1 ⟨v1, rfl, own1, hb⟩; obtain ⟨A1, c1, rfl⟩ := own_slice own1; have hr1 := Rd.of_own own1; clear own1; replace hA := hA.below hb hA.lt; replace hBk := hBk.below hb hBk.lt; replace hB2 := hB2.trans (hb.mono hB2.size); replace hqA := fun i => hA.cell i; replace hqB := fun i => hBk.cell i; replace hlA := hA.lt; replace hlB := hBk.lt; clear hb) | (go_at_call 129; refine (mistaken_any A1 _ c1 _ n (W.toNat * H.toNat) _ (by omega) (by omega) hsz2 (by omega) hr1).mono ?_; rintro e w1 ⟨rfl, hb⟩; rw [hform]; clear hr1; replace hA := hA.below hb hA.lt; replace hBk := hBk.below hb hBk.lt; replace hB2 := hB2.trans (hb.mono hB2.size); replace hqA := fun i => hA.cell i; replace hqB := fun i => hBk.cell i; replace hlA := hA.lt; replace hlB := hBk.lt; clear hb))
    go_ret3
    exact ⟨rfl, hB2⟩
end
section
open Go.RowKit
theorem spanL_snoc {lo t : Int} (h : lo ≤ t) : spanL lo t = spanL lo (t - 1) ++ [t] := by
  have e : (t + 1 - lo).toNat = (t - 1 + 1 - lo).toNat + 1 := by omega
  unfold spanL
  rw [e, List.range_succ, List.map_append]
  congr 1
  simp; omega
def otherQ (l : List Sh) (fig : Int) (s : ByteArray) (o : Sh) : Bool := (o.f != fig) && agreeB s o.s
def oneQ (l : List Sh) (fig near : Int) (one : Sh) : Bool := (one.n == near) && l.any (otherQ l fig one.s)
def nearQ (l : List Sh) (fig near : Int) : Bool := (l.filter fun h => h.f == fig).any (oneQ l fig near)
/-- The distances at which a figure is told from all others. -/
def toldL (l : List Sh) (fig NL NH : Int) : List Int := (spanL NL NH).filter fun near => !nearQ l fig near
theorem toldL_snoc (l : List Sh) (fig NL t : Int) (h : NL ≤ t) : toldL l fig NL t = toldL l fig NL (t - 1) ++ (if nearQ l fig t then [] else [t]) := by
  unfold toldL
  rw [spanL_snoc h, List.filter_append]
  cases hq : nearQ l fig t <;> simp [hq]
theorem toldL_len (l : List Sh) (fig NL t : Int) : (toldL l fig NL t).length ≤ (t + 1 - NL).toNat := by
  have := List.length_filter_le (fun near => !nearQ l fig near) (spanL NL t)
  rw [spanL_len] at this; exact this
set_option maxRecDepth 100000 in
set_option maxHeartbeats 3200000 in
theorem told_any (A : Option Addr) (n cap : Nat) (l : List Sh) (fig NL NH : Int) (sz : Nat) (w : World) (hn : n ≤ 100000) (hs : ∀ h ∈ l, h.s.size = sz) (hsz : sz ≤ 100000) (h1 : -1000 ≤ NL) (h2 : NH ≤ 1000) (h3 : NL ≤ NH + 1) (hr : Rd w w.heap.size 5 A n (l.flatMap shC)) :
    Calls Tryz.prog 131 #[.slice A n cap, .agg #[.int .i64 NL, .int .i64 NH], .int .i64 fig] w fun e w' => ∃ v, e = .returned v ∧ w'.ownsRow w.heap.size 3 1 v (toldL l fig NL NH).length ((toldL l fig NL NH).map (Value.int .i64)) ∧ Below w.heap.size w w' := by
  obtain ⟨i0, hi, hz0, hz1', hz2'⟩ := info_parts info3
  have hlen := hr.len5
  go_enter Tryz.func131, Tryz.ntmps131
  go_wp2
  go_step3
  go_wp2
  go_step3
  go_wp2
  have hbn := Blk.new w 69 #[.int .i64 NL, .int .i64 NH]
  go_loopg [7, 8] (NH + 1 - NL).toNat (fun g v i wr => ∃ (t : Int) (m : Nat) (v0 : Value), g = (NH + 1 - t).toNat ∧ NL ≤ t ∧ t ≤ NH + 1 ∧ i = .int .i64 t ∧ v = v0 ∧ m = (toldL l fig NL (t - 1)).length ∧ wr.ownsRow w.heap.size 3 1 v0 m ((toldL l fig NL (t - 1)).map (Value.int .i64)) ∧ Blk wr w.heap.size 69 #[.int .i64 NL, .int .i64 NH] ∧ Below w.heap.size w wr)
  case atStart =>
    have e0 : toldL l fig NL (NL - 1) = [] := by simp [toldL, spanL_nil (show NL - 1 < NL by omega)]
    exact ⟨NL, 0, _, rfl, by omega, by omega, rfl, rfl, by rw [e0]; rfl, by rw [e0]; exact World.ownsRow_nil _ _ _ _, hbn, (Below.refl _ _).alloc (Nat.le_refl _) _⟩
  case round =>
    clear hbn
    obtain ⟨t, m, v0, hg, ht1, ht2, rfl, rfl, hm, hown, hbn, hB⟩ := hrel
    obtain ⟨va, vc, rfl⟩ := own_slice hown
    have HG := Lib.hid hg; clear hg
    have HLEN := Lib.hid hlen; clear hlen
    have hm2 : m ≤ 3000 := by have := toldL_len l fig NL (t - 1); omega
    have hfl : (l.filter fun h => h.f == fig).length ≤ 100000 := Nat.le_trans (List.length_filter_le _ _) (by have := HLEN.out; omega)
    have hcn := fun i => hbn.cell i
    have hln := hbn.lt
    by_cases hlt : t ≤ NH
    · have hsn := toldL_snoc l fig NL t ht1
      obtain ⟨ys, hys⟩ : ∃ ys, ys = (toldL l fig NL (t - 1)).map (Value.int .i64) := ⟨_, rfl⟩
      rw [← hys] at hown
      have HSN := Lib.hid hsn; have HM := Lib.hid hm; have HYS := Lib.hid hys; clear hsn hm hys
      go_wp2_with (first | (go_at_call 166; refine (shadesOf_any A n cap l fig _ hn ((hr.below hB).more hB.size)).mono ?_; rintro e w1 ⟨v1, rfl, own1, hb⟩; obtain ⟨A1, c1, rfl⟩ := own_slice own1; have hr1 := Rd.of_own own1; clear own1; replace hown := ownsRow_below' hown hb; replace hbn := hbn.below hb hbn.lt; replace hB := hB.trans (hb.mono hB.size); clear hb hcn hln))
      go_loopg [25] (l.filter fun h => h.f == fig).length (fun g i wr => ∃ j : Nat, g = (l.filter fun h => h.f == fig).length - j ∧ j ≤ (l.filter fun h => h.f == fig).length ∧ i = .int .i64 j ∧ ((l.filter fun h => h.f == fig).take j).any (oneQ l fig t) = false ∧ wr.ownsRow w.heap.size 3 1 (.slice va m vc) m ys ∧ Blk wr w.heap.size 69 #[.int .i64 NL, .int .i64 NH] ∧ Rd wr wr.heap.size 5 A1 (l.filter fun h => h.f == fig).length ((l.filter fun h => h.f == fig).flatMap shC) ∧ Below w.heap.size w wr)
      case atStart => exact ⟨0, rfl, Nat.zero_le _, rfl, rfl, hown, hbn, hr1, hB⟩
      case round =>
        clear hown hbn hr1 hB
        obtain ⟨j, hg2, hj, rfl, hno, hown, hbn, hr1, hB⟩ := hrel
        have HG2 := Lib.hid hg2; clear hg2
        by_cases hlt2 : j < (l.filter fun h => h.f == fig).length
        · obtain ⟨b1, off1, hz, rfl, hb1, c0, c1', c2, c3, c4⟩ := hr1.at5 hlt2
          have hat := any_take (oneQ l fig t) (l.filter fun h => h.f == fig) j hz
          have hst := any_stop (oneQ l fig t) (l.filter fun h => h.f == fig) j hz
          have hszz := hs _ (List.mem_filter.1 (List.getElem_mem hz)).1
          rw [hno, Bool.false_or] at hat
          have HNO := Lib.hid hno; clear hno
          generalize (l.filter fun h => h.f == fig)[j] = h at *
          obtain ⟨f, nn, x, y, s⟩ := h
          dsimp only at c0 c1' c2 c3 c4 hszz
          have HAT := Lib.hid hat; have HST := Lib.hid hst; clear hat hst
          rename World => W1
          by_cases hnr : nn = t
          · have hne : (nn != t) = false := by simp [hnr]
            have hq1 : oneQ l fig t ⟨f, nn, x, y, s⟩ = l.any (otherQ l fig s) := by simp [oneQ, hnr]
            have HQ1 := Lib.hid hq1; clear hq1
            subst nn
            have hbx := Blk.new W1 156 #[.int .i64 f, .int .i64 t, .int .i64 x, .int .i64 y, .string s]
            have hown' := hown.alloc (.cells #[.int .i64 f, .int .i64 t, .int .i64 x, .int .i64 y, .string s] 156)
            have hbn' := hbn.alloc (.cells #[.int .i64 f, .int .i64 t, .int .i64 x, .int .i64 y, .string s] 156)
            have hr1' := (hr1.alloc (Nat.le_refl _) (.cells #[.int .i64 f, .int .i64 t, .int .i64 x, .int .i64 y, .string s] 156)).more (size_le_alloc W1 (.cells #[.int .i64 f, .int .i64 t, .int .i64 x, .int .i64 y, .string s] 156))
            have hB' := hB.alloc hB.size (.cells #[.int .i64 f, .int .i64 t, .int .i64 x, .int .i64 y, .string s] 156)
            go_wp2
            go_loopg [37] n (fun g i wr => ∃ i0' : Nat, g = n - i0' ∧ i0' ≤ n ∧ i = .int .i64 i0' ∧ (l.take i0').any (otherQ l fig s) = false ∧ wr.ownsRow w.heap.size 3 1 (.slice va m vc) m ys ∧ Blk wr w.heap.size 69 #[.int .i64 NL, .int .i64 NH] ∧ Blk wr W1.heap.size 156 #[.int .i64 f, .int .i64 t, .int .i64 x, .int .i64 y, .string s] ∧ Rd wr wr.heap.size 5 (some ⟨b1, off1, none⟩) (l.filter fun h => h.f == fig).length ((l.filter fun h => h.f == fig).flatMap shC) ∧ Below w.heap.size w wr)
            case atStart => exact ⟨0, rfl, Nat.zero_le _, rfl, rfl, hown', hbn', hbx, hr1', hB'⟩
            case round =>
              clear hown hbn hr1 hB hown' hbn' hbx hr1' hB' c0 c1' c2 c3 c4
              obtain ⟨q, hg3, hq, rfl, hno2, hown, hbn, hbx, hr1, hB⟩ := hrel
              have HG3 := Lib.hid hg3; clear hg3
              by_cases hlt3 : q < n
              · obtain ⟨b2, off2, hz2, rfl, hb2, d0, d1, d2, d3, d4⟩ := (hr.below hB).at5 hlt3
                have hat2 := any_take (otherQ l fig s) l q hz2
                have hst2 := any_stop (otherQ l fig s) l q hz2
                have hsz2 := hs _ (List.getElem_mem hz2)
                rw [hno2, Bool.false_or] at hat2
                generalize l[q] = h2 at *
                obtain ⟨f2, n2, x2, y2, s2⟩ := h2
                dsimp only at d0 d1 d2 d3 d4 hsz2
                have hcx := fun i => hbx.cell i
                have hlx := hbx.lt
                have hle : s.size ≤ s2.size := by omega
                have hsm : s.size ≤ maxLen := by unfold maxLen; omega
                by_cases hff : f2 = fig
                · have hn2 : (f2 != fig) = false := by simp [hff]
                  have hqq : otherQ l fig s ⟨f2, n2, x2, y2, s2⟩ = false := by simp [otherQ, hff]
                  rw [hqq] at hat2
                  have HAT2 := Lib.hid hat2; clear hat2 hst2 hqq hno2
                  go_wp2
                  go_roundg (n - (q + 1))
                  case measure => rw [HG3.out]; omega
                  case rel => exact ⟨q + 1, rfl, by omega, by go_num, HAT2.out, hown.alloc _, hbn.alloc _, hbx.alloc _, (hr1.alloc (Nat.le_refl _) _).more (size_le_alloc _ _), hB.alloc hB.size _⟩
                · have hn2 : (f2 != fig) = true := by simp [hff]
                  have hO := (.cells #[.int .i64 f2, .int .i64 n2, .int .i64 x2, .int .i64 y2, .string s2] 156 : Obj)
                  clear hO
                  cases hag : agreeB s s2
                  · have hqq : otherQ l fig s ⟨f2, n2, x2, y2, s2⟩ = false := by simp [otherQ, hag]
                    rw [hqq] at hat2
                    have HAT2 := Lib.hid hat2; clear hat2 hst2 hqq hno2
                    go_wp2_with (first | (go_at_call 159; refine (agree_any s s2 _ hsm hle).mono ?_; rintro e w1 ⟨rfl, hb⟩; rw [hag]; replace hown := ownsRow_below' (hown.alloc _) hb; replace hbn := (hbn.alloc _).below hb (hbn.alloc _).lt; replace hbx := (hbx.alloc _).below hb (hbx.alloc _).lt; replace hr1 := ((((hr1.alloc (Nat.le_refl _) _).more (size_le_alloc _ _)).below hb).more hb.size); replace hB := (hB.alloc hB.size _).trans (hb.mono (Nat.le_trans hB.size (size_le_alloc _ _))); clear hb hcx hlx))
                    go_roundg (n - (q + 1))
                    case measure => rw [HG3.out]; omega
                    case rel => exact ⟨q + 1, rfl, by omega, by go_num, HAT2.out, hown, hbn, hbx, hr1, hB⟩
                  · have hqq : otherQ l fig s ⟨f2, n2, x2, y2, s2⟩ = true := by simp [otherQ, hag, hff]
                    have hany := hst2 hqq
                    have hnq : nearQ l fig t = true := HST.out (by rw [HQ1.out]; exact hany)
                    have HNQ := Lib.hid hnq; clear hat2 hst2 hqq hno2 hany hnq
                    go_wp2_with (first | (go_at_call 159; refine (agree_any s s2 _ hsm hle).mono ?_; rintro e w1 ⟨rfl, hb⟩; rw [hag]; replace hown := ownsRow_below' (hown.alloc _) hb; replace hbn := (hbn.alloc _).below hb (hbn.alloc _).lt; replace hbx := (hbx.alloc _).below hb (hbx.alloc _).lt; replace hr1 := ((((hr1.alloc (Nat.le_refl _) _).more (size_le_alloc _ _)).below hb).more hb.size); replace hB := (hB.alloc hB.size _).trans (hb.mono (Nat.le_trans hB.size (size_le_alloc _ _))); clear hb hcx hlx))
                    go_roundg ((NH + 1 - (t + 1)).toNat)
                    case measure => rw [HG.out]; omega
                    case rel => exact ⟨t + 1, m, _, rfl, by omega, by omega, by go_num, rfl, by rw [HM.out, show t + 1 - 1 = t by omega, HSN.out, HNQ.out]; simp, by rw [show t + 1 - 1 = t by omega, HSN.out, HNQ.out]; simp only [if_true, List.append_nil]; rw [← HYS.out]; exact hown, hbn, hB⟩
              · have hta : l.take q = l := List.take_of_length_le (by have := HLEN.out; omega)
                rw [hta] at hno2
                have HNO2 := Lib.hid hno2; clear hno2
                go_wp2
                go_roundg ((l.filter fun h => h.f == fig).length - (j + 1))
                case measure => rw [HG2.out]; omega
                case rel => exact ⟨j + 1, rfl, by omega, by go_num, by rw [HAT.out, HQ1.out, HNO2.out], hown, hbn, hr1, hB⟩
          · have hne : (nn != t) = true := by simp [hnr]
            have hq1 : oneQ l fig t ⟨f, nn, x, y, s⟩ = false := by simp [oneQ, hnr]
            have HQ1 := Lib.hid hq1; clear hq1
            go_wp2
            go_roundg ((l.filter fun h => h.f == fig).length - (j + 1))
            case measure => rw [HG2.out]; omega
            case rel => exact ⟨j + 1, rfl, by omega, by go_num, by rw [HAT.out, HQ1.out], hown.alloc _, hbn.alloc _, (hr1.alloc (Nat.le_refl _) _).more (size_le_alloc _ _), hB.alloc hB.size _⟩
        · have hta : (l.filter fun h => h.f == fig).take j = (l.filter fun h => h.f == fig) := List.take_of_length_le (by omega)
          rw [hta] at hno
          have hnq : nearQ l fig t = false := hno
          have HNQ := Lib.hid hnq; clear hno hnq
          have hln := hbn.lt
          go_wp2_with (first
            | (at_builtin; refine wpList_append_any _ rfl _ _ 87 rfl w.heap.size 3 i0 (.int .i64 0) 1 8 Tryz.underlying87 hi hz0 hz1' hz2' rfl (by decide) (.slice va m vc) m ys rfl (hown.alloc _) (wr.heap.size + 1) (some ⟨wr.heap.size, 0, none⟩) 1 1 [.int .i64 t] rfl (Rd.blkN (Blk.new _ _ _) rfl (Nat.lt_succ_self _)).reads (by simp [Value.oneCell']) (by unfold maxLen; omega) (by omega) (by have := hB.size; simp only [World.size_alloc]; omega) (fun v' w' hown' hgrow hob => ?_))
            | go_in)
          go_roundg ((NH + 1 - (t + 1)).toNat)
          case measure => rw [HG.out]; omega
          case rel => exact ⟨t + 1, m + 1, _, rfl, by omega, by omega, by go_num, rfl, by rw [HM.out, show t + 1 - 1 = t by omega, HSN.out, HNQ.out]; simp, by rw [show t + 1 - 1 = t by omega, HSN.out, HNQ.out]; simp only [Bool.false_eq_true, if_false, List.map_append]; rw [← HYS.out]; exact hown', (hbn.alloc _).kept_own (hown.alloc _) (by decide) hgrow, (hB.alloc hB.size _).grown hgrow (by have := hB.size; simp only [World.size_alloc]; omega) (fun g hg => (hown.lt g hg).1)⟩
    · obtain rfl : t = NH + 1 := by omega
      rw [show NH + 1 - 1 = NH by omega] at hown hm
      have HM := Lib.hid hm; clear hm
      go_wp2
      go_ret
      exact ⟨_, rfl, by rw [← HM.out]; exact hown, hB⟩
end
section
open Go.RowKit
theorem IsL.of_own {w : World} {base n : Nat} {e : TypeId} {v : Value} {xs : List Value} (h : w.ownsRow base e 1 v n xs) : IsL w v xs := by
  obtain ⟨A, c, rfl⟩ := own_slice h
  refine ⟨A, n, c, rfl, ?_, ?_, Rd.of_own h⟩
  · rcases h.2 with ⟨h1, h2⟩ | ⟨g, cap, cur, hv, _, _, hc, _⟩
    · omega
    · injection hv with _ _ h3; omega
  · rcases h.2 with ⟨h1, h2⟩ | ⟨g, cap, cur, hv, _, _, hc, hc2, _⟩
    · injection h1 with _ _ h3; unfold maxLen; omega
    · injection hv with _ _ h3; omega
def toldOk (W H F L X Y nl nh xl xh y : Int) (fs : List Fig) (fig : Int) : Bool := askB W H F L X Y nl nh xl xh y fs && inB fig 0 (fs.length - 1)
def toldE (W H F L X Y nl nh xl xh y : Int) (fs : List Fig) (fig : Int) : Int := if toldOk W H F L X Y nl nh xl xh y fs fig then 0 else 2
def toldR (W H F L X Y nl nh xl xh y : Int) (fs : List Fig) (fig : Int) : List Int := if toldOk W H F L X Y nl nh xl xh y fs fig then toldL (shL W H F L X Y nl nh xl xh y fs) fig nl nh else []
set_option maxRecDepth 100000 in
set_option maxHeartbeats 1600000 in
theorem Told_any (W H F L X Y nl nh xl xh y : Int) (A : Option Addr) (n cap : Nat) (fs : List Fig) (fig : Int) (w : World) (hn : n ≤ cap) (hcm : cap ≤ maxLen) (hf : ∀ f ∈ fs, f.ok w w.heap.size) (hr : Rd w w.heap.size 1 A n (fs.map Fig.val)) :
    Calls Tryz.prog 69 #[.agg #[.int .i64 W, .int .i64 H, .int .i64 F, .int .i64 L, .int .i64 X, .int .i64 Y], .slice A n cap, .agg #[.int .i64 nl, .int .i64 nh, .int .i64 xl, .int .i64 xh, .int .i64 y], .int .i64 fig] w fun e w' => ∃ v, e = .returned (.tuple #[v, .int .i64 (toldE W H F L X Y nl nh xl xh y fs fig)]) ∧ IsL w' v ((toldR W H F L X Y nl nh xl xh y fs fig).map (Value.int .i64)) ∧ Below w.heap.size w w' := by
  have hA : Blk ((w.alloc (.cells #[.int .i64 W, .int .i64 H, .int .i64 F, .int .i64 L, .int .i64 X, .int .i64 Y] 23)).alloc (.cells #[.int .i64 nl, .int .i64 nh, .int .i64 xl, .int .i64 xh, .int .i64 y] 71)) w.heap.size 23 #[.int .i64 W, .int .i64 H, .int .i64 F, .int .i64 L, .int .i64 X, .int .i64 Y] := (Blk.new w 23 #[.int .i64 W, .int .i64 H, .int .i64 F, .int .i64 L, .int .i64 X, .int .i64 Y]).alloc _
  have hBk : Blk ((w.alloc (.cells #[.int .i64 W, .int .i64 H, .int .i64 F, .int .i64 L, .int .i64 X, .int .i64 Y] 23)).alloc (.cells #[.int .i64 nl, .int .i64 nh, .int .i64 xl, .int .i64 xh, .int .i64 y] 71)) (w.heap.size + 1) 71 #[.int .i64 nl, .int .i64 nh, .int .i64 xl, .int .i64 xh, .int .i64 y] := blk2 w _ 71 #[.int .i64 nl, .int .i64 nh, .int .i64 xl, .int .i64 xh, .int .i64 y]
  have hB2 : Below w.heap.size w ((w.alloc (.cells #[.int .i64 W, .int .i64 H, .int .i64 F, .int .i64 L, .int .i64 X, .int .i64 Y] 23)).alloc (.cells #[.int .i64 nl, .int .i64 nh, .int .i64 xl, .int .i64 xh, .int .i64 y] 71)) := ((Below.refl _ w).alloc (Nat.le_refl _) _).alloc (by simp only [World.size_alloc]; omega) _
  have hqA := fun i => hA.cell i; have hqB := fun i => hBk.cell i; have hlA := hA.lt; have hlB := hBk.lt
  cases hask : (stageB W H F L X Y && (compB fs && reachB F nl nh xl xh y))
  · have he : toldE W H F L X Y nl nh xl xh y fs fig = 2 := by simp [toldE, toldOk, askB, hask]
    have hl : toldR W H F L X Y nl nh xl xh y fs fig = [] := by simp [toldR, toldOk, askB, hask]
    rw [he, hl]
    go_enter Tryz.func69, Tryz.ntmps69
    go_wp2_with (first | (go_at_call 112; refine (goodReach_any W H F L X Y nl nh xl xh y A n cap fs _ (Nat.le_trans hn hcm) (fun f hf' => ((hf f hf').below hB2).more hB2.size) ((hr.below hB2).more hB2.size)).mono ?_; rintro e w1 ⟨rfl, hb⟩; rw [hask]; replace hA := hA.below hb hA.lt; replace hBk := hBk.below hb hBk.lt; replace hB2 := hB2.trans (hb.mono hB2.size); replace hqA := fun i => hA.cell i; replace hqB := fun i => hBk.cell i; replace hlA := hA.lt; replace hlB := hBk.lt; clear hb))
    go_ret2
    exact ⟨_, rfl, IsL.nil _, hB2⟩
  · have hask2 : askB W H F L X Y nl nh xl xh y fs = true := hask
    have hdm := ask_dims hask2
    have hlr := hr.len
    cases hin0 : inB fig 0 ((fs.length : Int) - 1)
    · have he : toldE W H F L X Y nl nh xl xh y fs fig = 2 := by simp [toldE, toldOk, hin0]
      have hl : toldR W H F L X Y nl nh xl xh y fs fig = [] := by simp [toldR, toldOk, hin0]
      rw [he, hl]
      have hin : inB fig 0 ((n : Int) - 1) = false := by rw [← hlr]; exact hin0
      go_enter Tryz.func69, Tryz.ntmps69
      go_wp2_with (first | (go_at_call 112; refine (goodReach_any W H F L X Y nl nh xl xh y A n cap fs _ (Nat.le_trans hn hcm) (fun f hf' => ((hf f hf').below hB2).more hB2.size) ((hr.below hB2).more hB2.size)).mono ?_; rintro e w1 ⟨rfl, hb⟩; rw [hask]; replace hA := hA.below hb hA.lt; replace hBk := hBk.below hb hBk.lt; replace hB2 := hB2.trans (hb.mono hB2.size); replace hqA := fun i => hA.cell i; replace hqB := fun i => hBk.cell i; replace hlA := hA.lt; replace hlB := hBk.lt; clear hb) | (go_at_call 130; refine (within_any _ _ _ _).mono ?_; rintro e w1 ⟨rfl, rfl⟩; rw [hin]))
      go_ret2
      exact ⟨_, rfl, IsL.nil _, hB2⟩
    · have he : toldE W H F L X Y nl nh xl xh y fs fig = 0 := by simp [toldE, toldOk, hask2, hin0]
      have hl : toldR W H F L X Y nl nh xl xh y fs fig = toldL (shL W H F L X Y nl nh xl xh y fs) fig nl nh := by simp [toldR, toldOk, hask2, hin0]
      rw [he, hl]
      have hin : inB fig 0 ((n : Int) - 1) = true := by rw [← hlr]; exact hin0
      have hsm : (shL W H F L X Y nl nh xl xh y fs).length ≤ 216 := by rw [shL, List.length_map]; exact allR_small hask2
      have hsz2 : ∀ h ∈ shL W H F L X Y nl nh xl xh y fs, h.s.size = W.toNat * H.toNat := fun h hh => shL_size hh
      have hst := stageB_nums (show stageB W H F L X Y = true by simp only [askB, Bool.and_eq_true] at hask2; exact hask2.1)
      have hrn := reachB_nums (show reachB F nl nh xl xh y = true by simp only [askB, Bool.and_eq_true] at hask2; exact hask2.2.2)
      go_enter Tryz.func69, Tryz.ntmps69
      go_wp2_with (first | (go_at_call 112; refine (goodReach_any W H F L X Y nl nh xl xh y A n cap fs _ (Nat.le_trans hn hcm) (fun f hf' => ((hf f hf').below hB2).more hB2.size) ((hr.below hB2).more hB2.size)).mono ?_; rintro e w1 ⟨rfl, hb⟩; rw [hask]; replace hA := hA.below hb hA.lt; replace hBk := hBk.below hb hBk.lt; replace hB2 := hB2.trans (hb.mono hB2.size); replace hqA := fun i => hA.cell i; replace hqB := fun i => hBk.cell i; replace hlA := hA.lt; replace hlB := hBk.lt; clear hb) | (go_at_call 130; refine (within_any _ _ _ _).mono ?_; rintro e w1 ⟨rfl, rfl⟩; rw [hin]))
      clear hqA hqB
      refine wp_region_G (fun w' => Blk w' w.heap.size 23 #[.int .i64 W, .int .i64 H, .int .i64 F, .int .i64 L, .int .i64 X, .int .i64 Y] ∧ Blk w' (w.heap.size + 1) 71 #[.int .i64 nl, .int .i64 nh, .int .i64 xl, .int .i64 xh, .int .i64 y]) 9 (by kernel_rfl) ?_
      replace hA := hA.drew; replace hBk := hBk.drew; replace hB2 := hB2.drew
      have hTT := And.intro hA hBk
      refine wpG_take (i := 0) (v := ?v0) rfl (by kernel_rfl) (by kernel_rfl) (by kernel_rfl) (by kernel_rfl) (fun _ _ _ h => h) (Or.inl ⟨by rfl, ?hy0⟩) hTT ?rest0
      case hy0 => intro wq hSw; have hq1 := fun i => hSw.1.cell i; have hq2 := fun i => hSw.2.cell i; go_simp <;> with_reducible rfl
      simp only [List.getElem_toArray, List.getElem_cons_zero, List.getElem_cons_succ, Act.put, List.setIfInBounds_toArray, List.set_cons_zero, List.set_cons_succ]
      refine wpG_take (i := 1) (v := ?v1) rfl (by kernel_rfl) (by kernel_rfl) (by kernel_rfl) (by kernel_rfl) (fun _ _ _ h => h) (Or.inl ⟨by rfl, ?hy1⟩) hTT ?rest1
      case hy1 => intro wq hSw; have hq1 := fun i => hSw.1.cell i; have hq2 := fun i => hSw.2.cell i; go_simp <;> with_reducible rfl
      simp only [List.getElem_toArray, List.getElem_cons_zero, List.getElem_cons_succ, Act.put, List.setIfInBounds_toArray, List.set_cons_zero, List.set_cons_succ]
      refine wpG_take (i := 2) (v := ?v2) rfl (by kernel_rfl) (by kernel_rfl) (by kernel_rfl) (by kernel_rfl) (fun _ _ _ h => h) (Or.inl ⟨by rfl, ?hy2⟩) hTT ?rest2
      case hy2 => intro wq hSw; have hq1 := fun i => hSw.1.cell i; have hq2 := fun i => hSw.2.cell i; go_simp <;> with_reducible rfl
      simp only [List.getElem_toArray, List.getElem_cons_zero, List.getElem_cons_succ, Act.put, List.setIfInBounds_toArray, List.set_cons_zero, List.set_cons_succ]
      refine wpG_take (i := 4) (v := ?v4) rfl (by kernel_rfl) (by kernel_rfl) (by kernel_rfl) (by kernel_rfl) (fun _ _ _ h => h) (Or.inl ⟨by rfl, ?hy4⟩) hTT ?rest4
      case hy4 => intro wq hSw; have hq1 := fun i => hSw.1.cell i; have hq2 := fun i => hSw.2.cell i; go_simp <;> with_reducible rfl
      simp only [List.getElem_toArray, List.getElem_cons_zero, List.getElem_cons_succ, Act.put, List.setIfInBounds_toArray, List.set_cons_zero, List.set_cons_succ]
      refine wpG_take (i := 5) (v := ?v5) rfl (by kernel_rfl) (by kernel_rfl) (by kernel_rfl) (by kernel_rfl) (fun _ _ _ h => h) (Or.inl ⟨by rfl, ?hy5⟩) hTT ?rest5
      case hy5 => intro wq hSw; have hq1 := fun i => hSw.1.cell i; have hq2 := fun i => hSw.2.cell i; go_simp <;> with_reducible rfl
      simp only [List.getElem_toArray, List.getElem_cons_zero, List.getElem_cons_succ, Act.put, List.setIfInBounds_toArray, List.set_cons_zero, List.set_cons_succ]
      refine wpG_take (i := 6) (v := ?v6) rfl (by kernel_rfl) (by kernel_rfl) (by kernel_rfl) (by kernel_rfl) (fun _ _ _ h => h) (Or.inl ⟨by rfl, ?hy6⟩) hTT ?rest6
      case hy6 => intro wq hSw; have hq1 := fun i => hSw.1.cell i; have hq2 := fun i => hSw.2.cell i; go_simp <;> with_reducible rfl
      simp only [List.getElem_toArray, List.getElem_cons_zero, List.getElem_cons_succ, Act.put, List.setIfInBounds_toArray, List.set_cons_zero, List.set_cons_succ]
      refine wpG_one (i := 3) rfl (by kernel_rfl) (fun K hK => ?_)
      go_simp
      refine (shades_any W H F L X Y nl nh xl xh y A n cap fs _ hn hcm (fun f hf' => ((hf f hf').below hB2).more hB2.size) ((hr.below hB2).more hB2.size) hask2).mono ?_; rintro e w2 ⟨v1, rfl, own1, hb⟩; obtain ⟨A1, c1, rfl⟩ := own_slice own1; have hr1 := Rd.of_own own1; clear own1
      have hA1 := hA.below hb hA.lt; have hBk1 := hBk.below hb hBk.lt; have hB3 := hB2.trans (hb.mono hB2.size); clear hTT; have hTT := And.intro hA1 hBk1; dsimp only
      refine hK _ _ (.inr hTT) ?_
      clear hK K
      try simp only [List.getElem_toArray, List.getElem_cons_zero, List.getElem_cons_succ, Act.put, List.setIfInBounds_toArray, List.set_cons_zero, List.set_cons_succ]
      refine wpG_one (i := 7) rfl (by kernel_rfl) (fun K hK => ?_)
      go_simp
      refine (told_any A1 _ c1 _ fig nl nh (W.toNat * H.toNat) _ (by omega) hsz2 (by omega) (by omega) (by omega) (by omega) hr1).mono ?_; rintro e w3 ⟨v2, rfl, own2, hb⟩
      have hA2 := hA1.below hb hA1.lt; have hBk2 := hBk1.below hb hBk1.lt; have hB4 := hB3.trans (hb.mono hB3.size); clear hTT; have hTT := And.intro hA2 hBk2; dsimp only
      refine hK _ _ (.inr hTT) ?_
      clear hK K
      try simp only [List.getElem_toArray, List.getElem_cons_zero, List.getElem_cons_succ, Act.put, List.setIfInBounds_toArray, List.set_cons_zero, List.set_cons_succ]
      refine wpG_take (i := 8) (v := ?v8) rfl (by kernel_rfl) (by kernel_rfl) (by kernel_rfl) (by kernel_rfl) (fun _ _ _ h => h) (Or.inl ⟨by rfl, ?hy8⟩) hTT ?rest8
      case hy8 => intro wq hSw; have hq1 := fun i => hSw.1.cell i; have hq2 := fun i => hSw.2.cell i; go_simp <;> with_reducible rfl
      simp only [List.getElem_toArray, List.getElem_cons_zero, List.getElem_cons_succ, Act.put, List.setIfInBounds_toArray, List.set_cons_zero, List.set_cons_succ]
      refine wpG_one (i := 9) rfl (by kernel_rfl) (fun K hK => ?_)
      go_simp
      refine hK _ _ (.inl rfl) ?_
      clear hK K
      try simp only [List.getElem_toArray, List.getElem_cons_zero, List.getElem_cons_succ, Act.put, List.setIfInBounds_toArray, List.set_cons_zero, List.set_cons_succ]
      refine wpG_done (by kernel_rfl) ?_ _
      go_wp2_with (fail)
      go_ret2
      exact ⟨_, rfl, IsL.of_own own2, hB4⟩
end
section
open Go.RowKit
def u64V (d : Nat) : Value := .int .u64 (d : Int)
set_option maxRecDepth 100000 in
theorem less_any (a b : Nat) (w : World) : Calls Tryz.prog 215 #[.int .u64 (a : Int), .int .u64 (b : Int)] w fun e w' => e = .returned (.bool (decide (a < b))) ∧ w = w' := by
  have hnan : ∀ (x : Int) (w : World), Calls Tryz.prog 235 #[.int .u64 x] w fun e w' => e = .returned (.bool false) ∧ w = w' := by
    intro x w
    go_enter Tryz.func235, Tryz.ntmps235
    have hx : (x != x) = false := by simp
    go_wp2
    go_ret
    exact ⟨rfl, rfl⟩
  by_cases h : a < b
  · have h' : ((a : Int) < b) := by omega
    rw [decide_eq_true h]
    go_enter Tryz.func215, Tryz.ntmps215
    go_wp2_with (first | (go_at_call 235; refine (hnan _ _).mono ?_; rintro e w1 ⟨rfl, rfl⟩))
    go_ret
    exact ⟨rfl, rfl⟩
  · have h' : ¬ ((a : Int) < b) := by omega
    rw [decide_eq_false h]
    go_enter Tryz.func215, Tryz.ntmps215
    go_wp2_with (first | (go_at_call 235; refine (hnan _ _).mono ?_; rintro e w1 ⟨rfl, rfl⟩))
    go_ret
    exact ⟨rfl, rfl⟩
theorem u64_at {w : World} {base g n cap : Nat} {ds : List Nat} (h : w.ownsRow base 177 1 (.slice (some ⟨g, 0, none⟩) n cap) n (ds.map u64V)) {j : Nat} (hj : j < ds.length) : w.cell? ⟨g, j, none⟩ = some (.int .u64 (ds[j] : Int)) := by
  have hl := h.1
  rw [List.length_map] at hl
  rw [h.cellAt j (by omega)]
  simp [u64V, hj]
set_option maxRecDepth 100000 in
set_option maxHeartbeats 1600000 in
theorem insertion_any (base n : Nat) (v : Value) (ds : List Nat) (w : World) (hn : n ≤ 1000) (hbase : base ≤ w.heap.size) (hown : w.ownsRow base 177 1 v n (ds.map u64V)) :
    Calls Tryz.prog 209 #[v, .int .i64 0, .int .i64 n] w fun e w' => e = .returned (.tuple #[]) ∧ (∃ ds' : List Nat, ds'.Perm ds ∧ w'.ownsRow base 177 1 v n (ds'.map u64V)) ∧ Below base w w' := by
  have hlen : ds.length = n := by have := hown.1; rw [List.length_map] at this; omega
  rcases Nat.eq_zero_or_pos n with h0 | h0
  · subst h0
    obtain ⟨va, vc, rfl⟩ := own_slice hown
    go_enter Tryz.func209, Tryz.ntmps209
    go_wp2
    go_loop [6] (fun i => i = .int .i64 1) (fun _ => 0)
    case atStart => rfl
    case round =>
      subst hrel
      go_wp2
      go_end0
      exact ⟨rfl, ⟨ds, .refl _, hown⟩, Below.refl _ _⟩
  · obtain ⟨g, cap, rfl, hgb, hgl⟩ := hown.form h0
    go_enter Tryz.func209, Tryz.ntmps209
    go_wp2
    go_loopg [6] (n - 1) (fun gg i wr => ∃ (k : Nat) (xs : List Nat), gg = n - k ∧ 1 ≤ k ∧ k ≤ n ∧ i = .int .i64 k ∧ xs.Perm ds ∧ wr.ownsRow base 177 1 (.slice (some ⟨g, 0, none⟩) n cap) n (xs.map u64V) ∧ Below base w wr)
    case atStart => exact ⟨1, ds, rfl, by omega, by omega, rfl, .refl _, hown, Below.refl _ _⟩
    case round =>
      clear hown
      obtain ⟨k, xs, hg, hk1, hk, rfl, hp, hown, hB⟩ := hrel
      have HG := Lib.hid hg; clear hg
      by_cases hlt : k < n
      · go_wp2
        go_loopg [7] k (fun gg i wr => ∃ (j : Nat) (xs : List Nat), gg = j ∧ j ≤ k ∧ i = .int .i64 j ∧ xs.Perm ds ∧ wr.ownsRow base 177 1 (.slice (some ⟨g, 0, none⟩) n cap) n (xs.map u64V) ∧ Below base w wr)
        case atStart => exact ⟨k, xs, rfl, Nat.le_refl _, rfl, hp, hown, hB⟩
        case round =>
          clear hown hB hp
          obtain ⟨j, xs, hg, hj, rfl, hp, hown, hB⟩ := hrel
          have HG2 := Lib.hid hg; clear hg
          have hxl : xs.length = n := by rw [hp.length_eq]; exact hlen
          have HP := Lib.hid hp; clear hp
          rcases Nat.eq_zero_or_pos j with hj0 | hj0
          · subst hj0
            go_wp2
            refine wp_region_blw (by kernel_rfl) (by kernel_rfl) ?_
            repeat (go_big_quiet_step (fail))
            refine wpQuiet_nil ?_
            rintro W3 ⟨⟨_, hb3⟩, rfl⟩
            go_wp2
            go_roundg (n - (k + 1))
            case measure => rw [HG.out]; omega
            case rel => exact ⟨k + 1, xs, rfl, by omega, by omega, by go_num, HP.out, ownsRow_below' hown hb3, hB.trans (hb3.mono (by have := hB.size; omega))⟩
          · obtain ⟨i, rfl⟩ : ∃ i, j = i + 1 := ⟨j - 1, by omega⟩
            have hc1 := u64_at hown (j := i + 1) (by omega)
            have hc2 := u64_at hown (j := i) (by omega)
            have hgl2 : g < wr.heap.size := by have := hB.size; have := hown.lt g rfl; omega
            have hperm : ((xs.set (i + 1) xs[i]).set i xs[i + 1]).Perm xs := @List.set_set_perm Nat xs (i + 1) i (by omega) (by omega)
            have hst1 := hown.stored (i + 1) (u64V xs[i])
            have HPM := Lib.hid hperm; clear hperm
            have hset : ((xs.map u64V).set (i + 1) (u64V xs[i])).set i (u64V xs[i + 1]) = ((xs.set (i + 1) xs[i]).set i xs[i + 1]).map u64V := by rw [List.map_set, List.map_set]
            have HSET := Lib.hid hset; clear hset
            have hin : i + 1 < n := by omega
            have hin2 : i < n := by omega
            generalize xs[i + 1] = b at *
            generalize xs[i] = a at *
            have hd1 := fun (p : Blw wr.heap.size wr) => blw_cell (a := ⟨g, i + 1, none⟩) hgl2 hc1 p
            have hd2 := fun (p : Blw wr.heap.size wr) => blw_cell (a := ⟨g, i, none⟩) hgl2 hc2 p
            by_cases hba : b < a
            · have HBA := Lib.hid (decide_eq_true hba)
              go_wp2
              refine wp_region_blw (by kernel_rfl) (by kernel_rfl) ?_
              repeat (go_big_quiet_step (first | (go_at_call 215; exact Calls.blw_of_same _ (less_any _ _ _))))
              refine wpQuiet_nil ?_
              rintro W3 ⟨⟨_, hb3⟩, rfl⟩
              rw [HBA.out]
              have own3 := ownsRow_below' hown hb3
              have hB3 := hB.trans (hb3.mono (show base ≤ wr.heap.size by have := hB.size; omega))
              have e1 : W3.cell? ⟨g, i + 1, none⟩ = some (.int .u64 (b : Int)) := (hb3.cell (p := ⟨g, i + 1, none⟩) hgl2).trans hc1
              have e2 : W3.cell? ⟨g, i, none⟩ = some (.int .u64 (a : Int)) := (hb3.cell (p := ⟨g, i, none⟩) hgl2).trans hc2
              have z1 := own3.frozenAt (i + 1)
              have z2 := own3.frozenAt i
              clear hd1 hd2 hc1 hc2 hst1
              go_wp2
              go_region
              go_wp2
              go_roundg i
              case measure => rw [HG2.out]; omega
              case rel =>
                have k1 := own3.stored (i + 1) (u64V a)
                have k2 := k1.1.stored i (u64V b)
                rw [HSET.out] at k2
                exact ⟨i, _, rfl, by omega, by go_num, HPM.out.trans HP.out, k2.1, ((hB3.setCell (p := ⟨g, i + 1, none⟩) hgb _).setCell (p := ⟨g, i, none⟩) hgb _).drew⟩
            · have HBA := Lib.hid (decide_eq_false hba)
              go_wp2
              refine wp_region_blw (by kernel_rfl) (by kernel_rfl) ?_
              repeat (go_big_quiet_step (first | (go_at_call 215; exact Calls.blw_of_same _ (less_any _ _ _))))
              refine wpQuiet_nil ?_
              rintro W3 ⟨⟨_, hb3⟩, rfl⟩
              rw [HBA.out]
              go_wp2
              go_roundg (n - (k + 1))
              case measure => rw [HG.out]; omega
              case rel => exact ⟨k + 1, xs, rfl, by omega, by omega, by go_num, HP.out, ownsRow_below' hown hb3, hB.trans (hb3.mono (by have := hB.size; omega))⟩
      · go_wp2
        go_end0
        exact ⟨rfl, ⟨xs, hp, hown⟩, hB⟩
end
section
open Go.RowKit
set_option maxRecDepth 100000 in
set_option maxHeartbeats 1600000 in
theorem pdq_small (base n : Nat) (lim : Int) (v : Value) (ds : List Nat) (w : World) (hn : n ≤ 12) (hbase : base ≤ w.heap.size) (hown : w.ownsRow base 177 1 v n (ds.map u64V)) :
    Calls Tryz.prog 193 #[v, .int .i64 0, .int .i64 n, .int .i64 lim] w fun e w' => e = .returned (.tuple #[]) ∧ (∃ ds' : List Nat, ds'.Perm ds ∧ w'.ownsRow base 177 1 v n (ds'.map u64V)) ∧ Below base w w' := by
  obtain ⟨va, vc, rfl⟩ := own_slice hown
  go_enter Tryz.func193, Tryz.ntmps193
  go_wp2
  go_loop [1, 2] (fun a b => a = .int .i64 0 ∧ b = .int .i64 n) (fun _ _ => 0)
  case atStart => exact ⟨rfl, rfl⟩
  case round =>
    obtain ⟨rfl, rfl⟩ := hrel
    go_wp2_with (first | (go_at_call 209; refine (insertion_any base n _ ds _ (by omega) hbase hown).mono ?_; rintro e w1 ⟨rfl, hp, hB⟩))
    refine bodyPost_ret (results_none rfl _ _ _) rfl ?_
    exact ⟨rfl, hp, hB⟩
set_option maxRecDepth 100000 in
set_option maxHeartbeats 1600000 in
theorem sort_small (base n : Nat) (v : Value) (ds : List Nat) (w : World) (hn : n ≤ 12) (hbase : base ≤ w.heap.size) (hown : w.ownsRow base 177 1 v n (ds.map u64V)) :
    Calls Tryz.prog 168 #[v] w fun e w' => e = .returned (.tuple #[]) ∧ (∃ ds' : List Nat, ds'.Perm ds ∧ w'.ownsRow base 177 1 v n (ds'.map u64V)) ∧ Below base w w' := by
  obtain ⟨va, vc, rfl⟩ := own_slice hown
  go_enter Tryz.func168, Tryz.ntmps168
  go_wp2_with (first | (go_at_call 194; refine (Tryz.bits_Len n _ (by omega) (by omega)).mono ?_; rintro e w1 ⟨rfl, rfl⟩) | (go_at_call 193; refine (pdq_small base n _ _ ds _ hn hbase hown).mono ?_; rintro e w1 ⟨rfl, hp, hB⟩))
  go_end0
  exact ⟨rfl, hp, hB⟩
end
section
open Go.RowKit Go.Sort Go.Lib
theorem u64_cells : OneCell u64V := fun _ => rfl
theorem u64_eq : EqlAt Tryz.prog 177 u64V (fun x y => decide (x = y)) := ⟨fun x y w => by
  rw [u64V, u64V, (EqlAt.int Tryz.prog 177 .u64).1 (x : Int) (y : Int) w]; by_cases h : x = y
  · simp [h]
  · have h' : ¬ (x : Int) = (y : Int) := by omega
    simp [h, h'], fun op a b x y w => (EqlAt.int Tryz.prog 177 .u64).2 op a b (x : Int) (y : Int) w⟩
theorem u64_ne : NeqAt Tryz.prog 177 u64V (fun x y => decide (x = y)) := ⟨fun x y w => by
  rw [u64V, u64V, (NeqAt.int Tryz.prog 177 .u64).1 (x : Int) (y : Int) w]; by_cases h : x = y
  · simp [h]
  · have h' : ¬ (x : Int) = (y : Int) := by omega
    simp [h, h'], fun op a b x y w => (NeqAt.int Tryz.prog 177 .u64).2 op a b (x : Int) (y : Int) w⟩
theorem mem_upTo (d : Array Nat) : ∀ (m : Nat), m ≤ d.size → ∀ x, x ∈ compactUpTo d m ↔ ∃ j, j < m ∧ d[j]! = x
  | 0, _, x => by simp [compactUpTo]
  | m + 1, hm, x => by
    have ih := mem_upTo d m (by omega) x
    rw [compactUpTo_succ, List.mem_append, ih]
    constructor
    · rintro (⟨j, hj, rfl⟩ | h)
      · exact ⟨j, by omega, rfl⟩
      · cases hk : keeps d m <;> rw [hk] at h <;> simp at h
        exact ⟨m, by omega, h.symm⟩
    · rintro ⟨j, hj, rfl⟩
      by_cases hjm : j < m
      · exact .inl ⟨j, hjm, rfl⟩
      · obtain rfl : j = m := by omega
        cases hk : keeps d j
        · left
          have hk2 : ¬ (j = 0 ∨ d[j]! ≠ d[j - 1]!) := by simpa [keeps] using hk
          have h0 : j ≠ 0 := fun e => hk2 (.inl e)
          have h1 : d[j]! = d[j - 1]! := by
            by_cases e : d[j]! = d[j - 1]!
            · exact e
            · exact absurd (.inr e) hk2
          exact ⟨j - 1, by omega, h1.symm⟩
        · right; simp
theorem upTo_len (d : Array Nat) (m : Nat) : (compactUpTo d m).length ≤ m := by
  unfold compactUpTo; rw [List.length_map]; exact Nat.le_trans (List.length_filter_le _ _) (by simp)
/-- Compact: the same numbers, each of them still there. -/
def CompactPost (base : Nat) (ds : List Nat) (w : World) (e : Ending) (w' : World) : Prop :=
  ∃ v m, ∃ cs : List Nat, e = .returned v ∧ w'.ownsRow base 177 1 v m (cs.map u64V) ∧ m ≤ ds.length ∧ (∀ d, d ∈ cs ↔ d ∈ ds) ∧ Below base w w'
set_option maxRecDepth 100000 in
theorem compact_any (base n : Nat) (v : Value) (ds : List Nat) (w : World) (hn : n ≤ 100000) (hown : w.ownsRow base 177 1 v n (ds.map u64V)) :
    Calls Tryz.prog 169 #[v] w (CompactPost base ds w) := by
  have hlen : ds.length = n := by have := hown.1; rw [List.length_map] at this; omega
  by_cases hv : v = .slice none 0 0
  · subst hv
    have hd : ds = [] := by
      rcases hown.2 with ⟨_, h⟩ | ⟨g, cap, cur, h, _⟩
      · exact List.eq_nil_of_length_eq_zero (by omega)
      · injection h with h; cases h
    subst hd
    go_enter Tryz.func169, Tryz.ntmps169
    go_wp2
    go_ret
    exact ⟨_, 0, [], rfl, World.ownsRow_nil _ _ _ _, Nat.le_refl _, fun _ => Iff.rfl, Below.refl _ _⟩
  · obtain ⟨g, cap, rfl, hb, hlt, hc, hm, hl, hH⟩ := holds_of_ownsRow hown hv
    have hs : ds.toArray.size = n := by simpa using hlen
    have h := Tryz.slices_Compact u64V u64_cells u64_eq u64_ne 0 (fun _ => by kernel_rfl) g 0 cap ds.toArray w hH (by rw [hs]; omega) (by rw [hs]; omega)
    rw [hs] at h
    refine h.mono ?_
    rintro e w' ⟨rfl, q, rfl⟩
    have hk := upTo_len ds.toArray n
    have ho := ownsRow_putRow (q := q) (k := (compactUpTo ds.toArray n).length) (ys := compactUpTo ds.toArray n ++ List.replicate (n - (compactUpTo ds.toArray n).length) 0) hown (by simp; omega) hk
    rw [List.take_left] at ho
    refine ⟨_, _, _, rfl, ho, by omega, fun d => ?_, below_putRow (Below.refl _ _) hb⟩
    rw [mem_upTo ds.toArray n (by omega) d]
    constructor
    · rintro ⟨j, hj, rfl⟩
      rw [getElem!_pos _ _ (by omega)]
      simp
    · intro hd
      obtain ⟨j, hj, rfl⟩ := List.getElem_of_mem hd
      exact ⟨j, by omega, by rw [getElem!_pos _ _ (by omega)]; simp⟩
end
end Go.Proofs.YtifddfchpknkbaaGreatDoor
