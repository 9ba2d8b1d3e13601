import Derived.Test.YtifddfchpknkbaaGreatDoorTa
set_option linter.unusedVariables false
set_option linter.unusedSimpArgs false
namespace Go.Proofs.YtifddfchpknkbaaGreatDoor
open Go.RowKit

theorem spanL_snoc {lo t : Int} (h : lo ≤ t) : spanL lo t = spanL lo (t - 1) ++ [t] := by
  have e : (t + 1 - lo).toNat = (t - 1 + 1 - lo).toNat + 1 := by omega
  unfold spanL
  rw [e, List.range_succ, List.map_append]
  congr 1
  simp; omega
def otherQ (l : List Sh) (fig : Int) (s : ByteArray) (o : Sh) : Bool := (o.f != fig) && agreeB s o.s
def oneQ (l : List Sh) (fig near : Int) (one : Sh) : Bool := (one.n == near) && l.any (otherQ l fig one.s)
def nearQ (l : List Sh) (fig near : Int) : Bool := (l.filter fun h => h.f == fig).any (oneQ l fig near)
/-- The distances at which a figure is told from all others. -/
def toldL (l : List Sh) (fig NL NH : Int) : List Int := (spanL NL NH).filter fun near => !nearQ l fig near
theorem toldL_snoc (l : List Sh) (fig NL t : Int) (h : NL ≤ t) : toldL l fig NL t = toldL l fig NL (t - 1) ++ (if nearQ l fig t then [] else [t]) := by
  unfold toldL
  rw [spanL_snoc h, List.filter_append]
  cases hq : nearQ l fig t <;> simp [hq]
theorem toldL_len (l : List Sh) (fig NL t : Int) : (toldL l fig NL t).length ≤ (t + 1 - NL).toNat := by
  have := List.length_filter_le (fun near => !nearQ l fig near) (spanL NL t)
  rw [spanL_len] at this; exact this

set_option maxRecDepth 100000 in
set_option maxHeartbeats 3200000 in
theorem told_any (A : Option Addr) (n cap : Nat) (l : List Sh) (fig NL NH : Int) (sz : Nat) (w : World) (hn : n ≤ 100000) (hs : ∀ h ∈ l, h.s.size = sz) (hsz : sz ≤ 100000) (h1 : -1000 ≤ NL) (h2 : NH ≤ 1000) (h3 : NL ≤ NH + 1) (hr : Rd w w.heap.size 5 A n (l.flatMap shC)) :
    Calls Tryz.prog 131 #[.slice A n cap, .agg #[.int .i64 NL, .int .i64 NH], .int .i64 fig] w fun e w' => ∃ v, e = .returned v ∧ w'.ownsRow w.heap.size 3 1 v (toldL l fig NL NH).length ((toldL l fig NL NH).map (Value.int .i64)) ∧ Below w.heap.size w w' := by
  obtain ⟨i0, hi, hz0, hz1', hz2'⟩ := info_parts info3
  have hlen := hr.len5
  go_enter Tryz.func131, Tryz.ntmps131
  go_wp2
  go_step3
  go_wp2
  go_step3
  go_wp2
  have hbn := Blk.new w 69 #[.int .i64 NL, .int .i64 NH]
  go_loopg [7, 8] (NH + 1 - NL).toNat (fun g v i wr => ∃ (t : Int) (m : Nat) (v0 : Value), g = (NH + 1 - t).toNat ∧ NL ≤ t ∧ t ≤ NH + 1 ∧ i = .int .i64 t ∧ v = v0 ∧ m = (toldL l fig NL (t - 1)).length ∧ wr.ownsRow w.heap.size 3 1 v0 m ((toldL l fig NL (t - 1)).map (Value.int .i64)) ∧ Blk wr w.heap.size 69 #[.int .i64 NL, .int .i64 NH] ∧ Below w.heap.size w wr)
  case atStart =>
    have e0 : toldL l fig NL (NL - 1) = [] := by simp [toldL, spanL_nil (show NL - 1 < NL by omega)]
    exact ⟨NL, 0, _, rfl, by omega, by omega, rfl, rfl, by rw [e0]; rfl, by rw [e0]; exact World.ownsRow_nil _ _ _ _, hbn, (Below.refl _ _).alloc (Nat.le_refl _) _⟩
  case round =>
    clear hbn
    obtain ⟨t, m, v0, hg, ht1, ht2, rfl, rfl, hm, hown, hbn, hB⟩ := hrel
    obtain ⟨va, vc, rfl⟩ := own_slice hown
    have HG := Lib.hid hg; clear hg
    have HLEN := Lib.hid hlen; clear hlen
    have hm2 : m ≤ 3000 := by have := toldL_len l fig NL (t - 1); omega
    have hfl : (l.filter fun h => h.f == fig).length ≤ 100000 := Nat.le_trans (List.length_filter_le _ _) (by have := HLEN.out; omega)
    have hcn := fun i => hbn.cell i
    have hln := hbn.lt
    by_cases hlt : t ≤ NH
    · have hsn := toldL_snoc l fig NL t ht1
      obtain ⟨ys, hys⟩ : ∃ ys, ys = (toldL l fig NL (t - 1)).map (Value.int .i64) := ⟨_, rfl⟩
      rw [← hys] at hown
      have HSN := Lib.hid hsn; have HM := Lib.hid hm; have HYS := Lib.hid hys; clear hsn hm hys
      go_wp2_with (first | (go_at_call 166; refine (shadesOf_any A n cap l fig _ hn ((hr.below hB).more hB.size)).mono ?_; rintro e w1 ⟨v1, rfl, own1, hb⟩; obtain ⟨A1, c1, rfl⟩ := own_slice own1; have hr1 := Rd.of_own own1; clear own1; replace hown := ownsRow_below' hown hb; replace hbn := hbn.below hb hbn.lt; replace hB := hB.trans (hb.mono hB.size); clear hb hcn hln))
      go_loopg [25] (l.filter fun h => h.f == fig).length (fun g i wr => ∃ j : Nat, g = (l.filter fun h => h.f == fig).length - j ∧ j ≤ (l.filter fun h => h.f == fig).length ∧ i = .int .i64 j ∧ ((l.filter fun h => h.f == fig).take j).any (oneQ l fig t) = false ∧ wr.ownsRow w.heap.size 3 1 (.slice va m vc) m ys ∧ Blk wr w.heap.size 69 #[.int .i64 NL, .int .i64 NH] ∧ Rd wr wr.heap.size 5 A1 (l.filter fun h => h.f == fig).length ((l.filter fun h => h.f == fig).flatMap shC) ∧ Below w.heap.size w wr)
      case atStart => exact ⟨0, rfl, Nat.zero_le _, rfl, rfl, hown, hbn, hr1, hB⟩
      case round =>
        clear hown hbn hr1 hB
        obtain ⟨j, hg2, hj, rfl, hno, hown, hbn, hr1, hB⟩ := hrel
        have HG2 := Lib.hid hg2; clear hg2
        by_cases hlt2 : j < (l.filter fun h => h.f == fig).length
        · obtain ⟨b1, off1, hz, rfl, hb1, c0, c1', c2, c3, c4⟩ := hr1.at5 hlt2
          have hat := any_take (oneQ l fig t) (l.filter fun h => h.f == fig) j hz
          have hst := any_stop (oneQ l fig t) (l.filter fun h => h.f == fig) j hz
          have hszz := hs _ (List.mem_filter.1 (List.getElem_mem hz)).1
          rw [hno, Bool.false_or] at hat
          have HNO := Lib.hid hno; clear hno
          generalize (l.filter fun h => h.f == fig)[j] = h at *
          obtain ⟨f, nn, x, y, s⟩ := h
          dsimp only at c0 c1' c2 c3 c4 hszz
          have HAT := Lib.hid hat; have HST := Lib.hid hst; clear hat hst
          rename World => W1
          by_cases hnr : nn = t
          · have hne : (nn != t) = false := by simp [hnr]
            have hq1 : oneQ l fig t ⟨f, nn, x, y, s⟩ = l.any (otherQ l fig s) := by simp [oneQ, hnr]
            have HQ1 := Lib.hid hq1; clear hq1
            subst nn
            have hbx := Blk.new W1 156 #[.int .i64 f, .int .i64 t, .int .i64 x, .int .i64 y, .string s]
            have hown' := hown.alloc (.cells #[.int .i64 f, .int .i64 t, .int .i64 x, .int .i64 y, .string s] 156)
            have hbn' := hbn.alloc (.cells #[.int .i64 f, .int .i64 t, .int .i64 x, .int .i64 y, .string s] 156)
            have hr1' := (hr1.alloc (Nat.le_refl _) (.cells #[.int .i64 f, .int .i64 t, .int .i64 x, .int .i64 y, .string s] 156)).more (size_le_alloc W1 (.cells #[.int .i64 f, .int .i64 t, .int .i64 x, .int .i64 y, .string s] 156))
            have hB' := hB.alloc hB.size (.cells #[.int .i64 f, .int .i64 t, .int .i64 x, .int .i64 y, .string s] 156)
            go_wp2
            go_loopg [37] n (fun g i wr => ∃ i0' : Nat, g = n - i0' ∧ i0' ≤ n ∧ i = .int .i64 i0' ∧ (l.take i0').any (otherQ l fig s) = false ∧ wr.ownsRow w.heap.size 3 1 (.slice va m vc) m ys ∧ Blk wr w.heap.size 69 #[.int .i64 NL, .int .i64 NH] ∧ Blk wr W1.heap.size 156 #[.int .i64 f, .int .i64 t, .int .i64 x, .int .i64 y, .string s] ∧ Rd wr wr.heap.size 5 (some ⟨b1, off1, none⟩) (l.filter fun h => h.f == fig).length ((l.filter fun h => h.f == fig).flatMap shC) ∧ Below w.heap.size w wr)
            case atStart => exact ⟨0, rfl, Nat.zero_le _, rfl, rfl, hown', hbn', hbx, hr1', hB'⟩
            case round =>
              clear hown hbn hr1 hB hown' hbn' hbx hr1' hB' c0 c1' c2 c3 c4
              obtain ⟨q, hg3, hq, rfl, hno2, hown, hbn, hbx, hr1, hB⟩ := hrel
              have HG3 := Lib.hid hg3; clear hg3
              by_cases hlt3 : q < n
              · obtain ⟨b2, off2, hz2, rfl, hb2, d0, d1, d2, d3, d4⟩ := (hr.below hB).at5 hlt3
                have hat2 := any_take (otherQ l fig s) l q hz2
                have hst2 := any_stop (otherQ l fig s) l q hz2
                have hsz2 := hs _ (List.getElem_mem hz2)
                rw [hno2, Bool.false_or] at hat2
                generalize l[q] = h2 at *
                obtain ⟨f2, n2, x2, y2, s2⟩ := h2
                dsimp only at d0 d1 d2 d3 d4 hsz2
                have hcx := fun i => hbx.cell i
                have hlx := hbx.lt
                have hle : s.size ≤ s2.size := by omega
                have hsm : s.size ≤ maxLen := by unfold maxLen; omega
                by_cases hff : f2 = fig
                · have hn2 : (f2 != fig) = false := by simp [hff]
                  have hqq : otherQ l fig s ⟨f2, n2, x2, y2, s2⟩ = false := by simp [otherQ, hff]
                  rw [hqq] at hat2
                  have HAT2 := Lib.hid hat2; clear hat2 hst2 hqq hno2
                  go_wp2
                  go_roundg (n - (q + 1))
                  case measure => rw [HG3.out]; omega
                  case rel => exact ⟨q + 1, rfl, by omega, by go_num, HAT2.out, hown.alloc _, hbn.alloc _, hbx.alloc _, (hr1.alloc (Nat.le_refl _) _).more (size_le_alloc _ _), hB.alloc hB.size _⟩
                · have hn2 : (f2 != fig) = true := by simp [hff]
                  have hO := (.cells #[.int .i64 f2, .int .i64 n2, .int .i64 x2, .int .i64 y2, .string s2] 156 : Obj)
                  clear hO
                  cases hag : agreeB s s2
                  · have hqq : otherQ l fig s ⟨f2, n2, x2, y2, s2⟩ = false := by simp [otherQ, hag]
                    rw [hqq] at hat2
                    have HAT2 := Lib.hid hat2; clear hat2 hst2 hqq hno2
                    go_wp2_with (first | (go_at_call 159; refine (agree_any s s2 _ hsm hle).mono ?_; rintro e w1 ⟨rfl, hb⟩; rw [hag]; replace hown := ownsRow_below' (hown.alloc _) hb; replace hbn := (hbn.alloc _).below hb (hbn.alloc _).lt; replace hbx := (hbx.alloc _).below hb (hbx.alloc _).lt; replace hr1 := ((((hr1.alloc (Nat.le_refl _) _).more (size_le_alloc _ _)).below hb).more hb.size); replace hB := (hB.alloc hB.size _).trans (hb.mono (Nat.le_trans hB.size (size_le_alloc _ _))); clear hb hcx hlx))
                    go_roundg (n - (q + 1))
                    case measure => rw [HG3.out]; omega
                    case rel => exact ⟨q + 1, rfl, by omega, by go_num, HAT2.out, hown, hbn, hbx, hr1, hB⟩
                  · have hqq : otherQ l fig s ⟨f2, n2, x2, y2, s2⟩ = true := by simp [otherQ, hag, hff]
                    have hany := hst2 hqq
                    have hnq : nearQ l fig t = true := HST.out (by rw [HQ1.out]; exact hany)
                    have HNQ := Lib.hid hnq; clear hat2 hst2 hqq hno2 hany hnq
                    go_wp2_with (first | (go_at_call 159; refine (agree_any s s2 _ hsm hle).mono ?_; rintro e w1 ⟨rfl, hb⟩; rw [hag]; replace hown := ownsRow_below' (hown.alloc _) hb; replace hbn := (hbn.alloc _).below hb (hbn.alloc _).lt; replace hbx := (hbx.alloc _).below hb (hbx.alloc _).lt; replace hr1 := ((((hr1.alloc (Nat.le_refl _) _).more (size_le_alloc _ _)).below hb).more hb.size); replace hB := (hB.alloc hB.size _).trans (hb.mono (Nat.le_trans hB.size (size_le_alloc _ _))); clear hb hcx hlx))
                    go_roundg ((NH + 1 - (t + 1)).toNat)
                    case measure => rw [HG.out]; omega
                    case rel => exact ⟨t + 1, m, _, rfl, by omega, by omega, by go_num, rfl, by rw [HM.out, show t + 1 - 1 = t by omega, HSN.out, HNQ.out]; simp, by rw [show t + 1 - 1 = t by omega, HSN.out, HNQ.out]; simp only [if_true, List.append_nil]; rw [← HYS.out]; exact hown, hbn, hB⟩
              · have hta : l.take q = l := List.take_of_length_le (by have := HLEN.out; omega)
                rw [hta] at hno2
                have HNO2 := Lib.hid hno2; clear hno2
                go_wp2
                go_roundg ((l.filter fun h => h.f == fig).length - (j + 1))
                case measure => rw [HG2.out]; omega
                case rel => exact ⟨j + 1, rfl, by omega, by go_num, by rw [HAT.out, HQ1.out, HNO2.out], hown, hbn, hr1, hB⟩
          · have hne : (nn != t) = true := by simp [hnr]
            have hq1 : oneQ l fig t ⟨f, nn, x, y, s⟩ = false := by simp [oneQ, hnr]
            have HQ1 := Lib.hid hq1; clear hq1
            go_wp2
            go_roundg ((l.filter fun h => h.f == fig).length - (j + 1))
            case measure => rw [HG2.out]; omega
            case rel => exact ⟨j + 1, rfl, by omega, by go_num, by rw [HAT.out, HQ1.out], hown.alloc _, hbn.alloc _, (hr1.alloc (Nat.le_refl _) _).more (size_le_alloc _ _), hB.alloc hB.size _⟩
        · have hta : (l.filter fun h => h.f == fig).take j = (l.filter fun h => h.f == fig) := List.take_of_length_le (by omega)
          rw [hta] at hno
          have hnq : nearQ l fig t = false := hno
          have HNQ := Lib.hid hnq; clear hno hnq
          have hln := hbn.lt
          go_wp2_with (first
            | (at_builtin; refine wpList_append_any _ rfl _ _ 87 rfl w.heap.size 3 i0 (.int .i64 0) 1 8 Tryz.underlying87 hi hz0 hz1' hz2' rfl (by decide) (.slice va m vc) m ys rfl (hown.alloc _) (wr.heap.size + 1) (some ⟨wr.heap.size, 0, none⟩) 1 1 [.int .i64 t] rfl (Rd.blkN (Blk.new _ _ _) rfl (Nat.lt_succ_self _)).reads (by simp [Value.oneCell']) (by unfold maxLen; omega) (by omega) (by have := hB.size; simp only [World.size_alloc]; omega) (fun v' w' hown' hgrow hob => ?_))
            | go_in)
          go_roundg ((NH + 1 - (t + 1)).toNat)
          case measure => rw [HG.out]; omega
          case rel => exact ⟨t + 1, m + 1, _, rfl, by omega, by omega, by go_num, rfl, by rw [HM.out, show t + 1 - 1 = t by omega, HSN.out, HNQ.out]; simp, by rw [show t + 1 - 1 = t by omega, HSN.out, HNQ.out]; simp only [Bool.false_eq_true, if_false, List.map_append]; rw [← HYS.out]; exact hown', (hbn.alloc _).kept_own (hown.alloc _) (by decide) hgrow, (hB.alloc hB.size _).grown hgrow (by have := hB.size; simp only [World.size_alloc]; omega) (fun g hg => (hown.lt g hg).1)⟩
    · obtain rfl : t = NH + 1 := by omega
      rw [show NH + 1 - 1 = NH by omega] at hown hm
      have HM := Lib.hid hm; clear hm
      go_wp2
      go_ret
      exact ⟨_, rfl, by rw [← HM.out]; exact hown, hB⟩
end Go.Proofs.YtifddfchpknkbaaGreatDoor
