import Derived.Test.YtifddfchpknkbaaGreatDoorCo
import Derived.Test.YtifddfchpknkbaaGreatDoorKn
set_option linter.unusedVariables false
set_option linter.unusedSimpArgs false
namespace Go.Proofs.YtifddfchpknkbaaGreatDoor
open Go.RowKit

/-- A list has a number. -/
def hasB (xs : List Int) (z : Int) : Bool := xs.any fun x => x == z
set_option maxRecDepth 100000 in
set_option maxHeartbeats 800000 in
theorem has_any (A : Option Addr) (n cap : Nat) (xs : List Int) (z : Int) (w : World) (hn : n ≤ 100000) (hr : Rd w w.heap.size 1 A n (xs.map (Value.int .i64))) :
    Calls Tryz.prog 73 #[.slice A n cap, .int .i64 z] w fun e w' => e = .returned (.bool (hasB xs z)) ∧ w = w' := by
  have hlen := hr.len
  have HLEN := Lib.hid hlen; clear hlen
  go_enter Tryz.func73, Tryz.ntmps73
  go_wp2
  go_loop [5] (fun i => ∃ (k : Nat), k ≤ n ∧ i = .int .i64 k ∧ (xs.take k).any (fun x => x == z) = false) (fun i => n - (intOf i).toNat)
  case atStart => exact ⟨0, Nat.zero_le _, rfl, rfl⟩
  case round =>
    obtain ⟨k, hk, rfl, ha⟩ := hrel
    by_cases hlt : k < n
    · obtain ⟨cb, coff, hz, rfl, hcb, hcc⟩ := hr.atm hlt
      have hat := any_take (fun x : Int => x == z) xs k hz
      have hst := any_stop (fun x : Int => x == z) xs k hz
      rw [ha, Bool.false_or] at hat
      generalize xs[k] = x at *
      have HA := Lib.hid ha; have HAT := Lib.hid hat; have HST := Lib.hid hst; clear ha hat hst
      cases hq : (x == z)
      · go_wp2
        go_round
        case rel => exact ⟨k + 1, by omega, by go_num, by rw [HAT.out]; exact hq⟩
        case measure => simp [intOf]; omega
      · go_wp2
        go_ret
        exact ⟨ret_bool (by rw [hasB, HST.out hq]), rfl⟩
    · have htk : xs.take k = xs := List.take_of_length_le (by have := HLEN.out; omega)
      rw [htk] at ha
      have HA := Lib.hid ha; clear ha htk
      go_wp2
      go_ret
      exact ⟨ret_bool (by rw [hasB, HA.out]), rfl⟩

/-- A list has all numbers of another one. -/
def withB (xs ys : List Int) : Bool := ys.all fun z => hasB xs z
set_option maxRecDepth 100000 in
set_option maxHeartbeats 800000 in
theorem withinL_any (A : Option Addr) (n cap : Nat) (xs : List Int) (A2 : Option Addr) (n2 cap2 : Nat) (ys : List Int) (w : World) (hn : n ≤ 100000) (hn2 : n2 ≤ 100000) (hr : Rd w w.heap.size 1 A n (xs.map (Value.int .i64))) (hr2 : Rd w w.heap.size 1 A2 n2 (ys.map (Value.int .i64))) :
    Calls Tryz.prog 79 #[.slice A n cap, .slice A2 n2 cap2] w fun e w' => e = .returned (.bool (withB xs ys)) ∧ w = w' := by
  have hlen := hr2.len
  have HLEN := Lib.hid hlen; clear hlen
  go_enter Tryz.func79, Tryz.ntmps79
  go_wp2
  go_loop [5] (fun i => ∃ (k : Nat), k ≤ n2 ∧ i = .int .i64 k ∧ (ys.drop k).all (fun z => hasB xs z) = withB xs ys) (fun i => n2 - (intOf i).toNat)
  case atStart => exact ⟨0, Nat.zero_le _, rfl, rfl⟩
  case round =>
    obtain ⟨k, hk, rfl, ha⟩ := hrel
    by_cases hlt : k < n2
    · obtain ⟨cb, coff, hz, rfl, hcb, hcc⟩ := hr2.atm hlt
      have hd := all_drop (fun z : Int => hasB xs z) ys k hz
      rw [ha] at hd
      generalize ys[k] = y at *
      have HD := Lib.hid hd; clear hd ha
      cases hq : hasB xs y
      · go_wp2_with (go_at_call 73; refine (has_any A n cap xs y _ hn hr).mono ?_; rintro e w1 ⟨rfl, rfl⟩; rw [hq])
        go_ret
        exact ⟨ret_bool (by rw [HD.out, hq]; rfl), rfl⟩
      · go_wp2_with (go_at_call 73; refine (has_any A n cap xs y _ hn hr).mono ?_; rintro e w1 ⟨rfl, rfl⟩; rw [hq])
        go_round
        case rel => exact ⟨k + 1, by omega, by go_num, by rw [HD.out, hq]; rfl⟩
        case measure => simp [intOf]; omega
    · have htk : ys.drop k = [] := List.drop_of_length_le (by have := HLEN.out; omega)
      rw [htk] at ha
      have HA := Lib.hid ha; clear ha htk
      go_wp2
      go_ret
      exact ⟨ret_bool (by rw [← HA.out]; rfl), rfl⟩

/-- The rows of two cloths agree. -/
def ag2 (p : ByteArray × ByteArray) : Bool := agreeB p.1 p.2
def agreeR (rs ss : List ByteArray) : Bool := (rs.zip ss).all ag2
set_option maxRecDepth 100000 in
set_option maxHeartbeats 1600000 in
theorem refAgree_any (A A2 : Option Addr) (n cap n2 cap2 : Nat) (rs ss : List ByteArray) (w : World) (hn : n ≤ 100000) (hnn : n ≤ n2) (hsz : ∀ k (h : k < rs.length) (h2 : k < ss.length), rs[k].size ≤ ss[k].size ∧ ss[k].size ≤ 100000) (hr : Rd w w.heap.size 1 A n (rs.map Value.string)) (hr2 : Rd w w.heap.size 1 A2 n2 (ss.map Value.string)) :
    Calls Tryz.prog 62 #[.slice A n cap, .slice A2 n2 cap2] w fun e w' => e = .returned (.bool (agreeR rs ss)) ∧ Below w.heap.size w w' := by
  have hlen := hr.len
  have hlen2 := hr2.len
  have HLEN := Lib.hid hlen; have HLEN2 := Lib.hid hlen2; have HSZ := Lib.hid hsz; clear hlen hlen2 hsz
  go_enter Tryz.func62, Tryz.ntmps62
  go_wp2
  go_loopg [5] n (fun g i wr => ∃ k : Nat, g = n - k ∧ k ≤ n ∧ i = .int .i64 k ∧ ((rs.zip ss).drop k).all ag2 = agreeR rs ss ∧ Below w.heap.size w wr)
  case atStart => exact ⟨0, rfl, Nat.zero_le _, rfl, rfl, Below.refl _ _⟩
  case round =>
    obtain ⟨k, hg, hk, rfl, ha, hB⟩ := hrel
    have HG := Lib.hid hg; clear hg
    by_cases hlt : k < n
    · obtain ⟨b, off, hz, rfl, hb, hc⟩ := (hr.below hB).atm hlt
      obtain ⟨b2, off2, hz2, rfl, hb2, hc2⟩ := (hr2.below hB).atm (show k < n2 by omega)
      have hk2 : k < n2 := by omega
      have hzz : k < (rs.zip ss).length := by simp; omega
      have hd := all_drop ag2 (rs.zip ss) k hzz
      rw [ha, List.getElem_zip] at hd
      have ⟨hs1, hs2⟩ := HSZ.out k hz hz2
      generalize rs[k] = r at *
      generalize ss[k] = s at *
      have HD := Lib.hid hd; clear hd ha
      rename World => W0
      go_wp2_with (fail)
      go_loopg [6] (r.size) (fun g i wr => ∃ j : Nat, g = r.size - j ∧ j ≤ r.size ∧ i = .int .i64 j ∧ (((ltr r).zip (ltr s)).drop j).all (fun p => !clB p.1 p.2) = agreeB r s ∧ Below W0.heap.size W0 wr)
      case atStart => exact ⟨0, rfl, Nat.zero_le _, rfl, rfl, Below.refl _ _⟩
      case round =>
        obtain ⟨j, hg2, hj, rfl, ha2, hB2⟩ := hrel
        have HG2 := Lib.hid hg2; clear hg2
        have hbx : b < W0.heap.size := Nat.lt_of_lt_of_le hb hB.size
        have hbx2 : b2 < W0.heap.size := Nat.lt_of_lt_of_le hb2 hB.size
        have hd1 := (hB2.cell (p := ⟨b, off + k, none⟩) hbx).trans hc
        have hd2 := (hB2.cell (p := ⟨b2, off2 + k, none⟩) hbx2).trans hc2
        by_cases hlt2 : j < r.size
        · have hlt3 : j < s.size := by omega
          obtain ⟨hz3, hze⟩ := zip_at r s j hlt2 hlt3
          have hd3 := all_drop (fun p : Int × Int => !clB p.1 p.2) _ j hz3
          rw [ha2, hze] at hd3
          have HD3 := Lib.hid hd3; clear hd3 ha2 hze
          have hq1 := fun p : Blw wr.heap.size wr => blw_cell (a := ⟨b, off + k, none⟩) (Nat.lt_of_lt_of_le hbx hB2.size) hd1 p
          have hq2 := fun p : Blw wr.heap.size wr => blw_cell (a := ⟨b2, off2 + k, none⟩) (Nat.lt_of_lt_of_le hbx2 hB2.size) hd2 p
          cases hcl : clB (r[j].toNat : Int) (s[j].toNat : Int)
          · go_wp2_with (fail)
            refine wp_region_blw (by kernel_rfl) (by kernel_rfl) ?_
            repeat (go_big_quiet_step ((go_at_call 81; exact Calls.blw_of_same _ (hcl ▸ Opposed_any _ _ _))))
            refine wpQuiet_nil ?_
            rintro W3 ⟨⟨_, hb3⟩, rfl⟩
            clear hq1 hq2
            go_wp2_with (fail)
            go_roundg (r.size - (j + 1))
            case measure => rw [HG2.out]; omega
            case rel => exact ⟨j + 1, rfl, by omega, by go_num, by rw [HD3.out, hcl]; rfl, hB2.trans (hb3.mono hB2.size)⟩
          · go_wp2_with (fail)
            refine wp_region_blw (by kernel_rfl) (by kernel_rfl) ?_
            repeat (go_big_quiet_step ((go_at_call 81; exact Calls.blw_of_same _ (hcl ▸ Opposed_any _ _ _))))
            refine wpQuiet_nil ?_
            rintro W3 ⟨⟨_, hb3⟩, rfl⟩
            clear hq1 hq2
            go_wp2_with (fail)
            go_ret
            exact ⟨ret_bool (by rw [HD.out, ag2]; dsimp only; rw [HD3.out, hcl]; rfl), hB.trans ((hB2.trans (hb3.mono hB2.size)).mono hB.size)⟩
        · have hdn : ((ltr r).zip (ltr s)).drop j = [] := List.drop_eq_nil_of_le (by simp [ltr_len]; omega)
          rw [hdn] at ha2
          have HA2 := Lib.hid ha2; clear ha2 hdn
          go_wp2_with (fail)
          go_roundg (n - (k + 1))
          case measure => rw [HG.out]; omega
          case rel => exact ⟨k + 1, rfl, by omega, by go_num, by rw [HD.out, ag2]; dsimp only; rw [← HA2.out]; rfl, hB.trans (hB2.mono hB.size)⟩
    · have hdn : (rs.zip ss).drop k = [] := List.drop_eq_nil_of_le (by simp; have := HLEN.out; omega)
      rw [hdn] at ha
      have HA := Lib.hid ha; clear ha hdn
      go_wp2_with (fail)
      go_ret
      exact ⟨ret_bool (by rw [← HA.out]; rfl), hB⟩

/-- What is asked of a company that is as defined or not. -/
def askV (b : Bool) : Int := if b then 0 else 2
set_option maxRecDepth 100000 in
set_option maxHeartbeats 3200000 in
theorem asked_any (W H F L X Y nl nh xl xh y : Int) (A : Option Addr) (n cap : Nat) (fs : List Fig) (is : Bool) (w : World) (hn : n ≤ maxLen) (hf : ∀ f ∈ fs, f.ok w w.heap.size) (hr : Rd w w.heap.size 1 A n (fs.map Fig.val)) :
    Calls Tryz.prog 54 #[.agg #[.int .i64 W, .int .i64 H, .int .i64 F, .int .i64 L, .int .i64 X, .int .i64 Y], .slice A n cap, .agg #[.int .i64 nl, .int .i64 nh, .int .i64 xl, .int .i64 xh, .int .i64 y], .bool is] w fun e w' => e = .returned (.int .i64 (askV (askB W H F L X Y nl nh xl xh y fs && is))) ∧ Below w.heap.size w w' := by
  have hsplit : askV (askB W H F L X Y nl nh xl xh y fs && is) = (if (stageB W H F L X Y && (compB fs && reachB F nl nh xl xh y)) && is then 0 else 2) := rfl
  obtain ⟨res, hres⟩ : ∃ res, res = askV (askB W H F L X Y nl nh xl xh y fs && is) := ⟨_, rfl⟩
  rw [← hres] at hsplit ⊢
  clear hres
  cases hst : stageB W H F L X Y
  case' true =>
    have ⟨⟨a1, a2⟩, ⟨a3, a4⟩, ⟨b1, b2⟩, _⟩ := stageB_nums hst
    cases hcp : compB fs
    case' true =>
      cases hrc : reachB F nl nh xl xh y
      case' true => cases is
  all_goals
    (try rw [hst] at hsplit); (try rw [hcp] at hsplit); (try rw [hrc] at hsplit)
    have HR := Lib.hid hsplit; clear hsplit
    have HRR := Lib.hid hr; have HF := Lib.hid hf
    go_enter Tryz.func54, Tryz.ntmps54
    go_upto_region 1 with (fail)
    have hS := blk2_0 w (.cells #[.int .i64 nl, .int .i64 nh, .int .i64 xl, .int .i64 xh, .int .i64 y] 71) 23 #[.int .i64 W, .int .i64 H, .int .i64 F, .int .i64 L, .int .i64 X, .int .i64 Y]
    have hQ := blk2_1 w (.cells #[.int .i64 W, .int .i64 H, .int .i64 F, .int .i64 L, .int .i64 X, .int .i64 Y] 23) 71 #[.int .i64 nl, .int .i64 nh, .int .i64 xl, .int .i64 xh, .int .i64 y]
    have hB := pro_2 w (.cells #[.int .i64 W, .int .i64 H, .int .i64 F, .int .i64 L, .int .i64 X, .int .i64 Y] 23) (.cells #[.int .i64 nl, .int .i64 nh, .int .i64 xl, .int .i64 xh, .int .i64 y] 71)
    generalize (w.alloc (.cells #[.int .i64 W, .int .i64 H, .int .i64 F, .int .i64 L, .int .i64 X, .int .i64 Y] 23)).alloc (.cells #[.int .i64 nl, .int .i64 nh, .int .i64 xl, .int .i64 xh, .int .i64 y] 71) = W0 at *
    have qhS := fun i => Blk.cell hS i
    have qhQ := fun i => Blk.cell hQ i
    go_wp2_with (first | (go_at_call 27; refine (Stage_any W H F L X Y _).mono ?_; rintro e w1 ⟨rfl, hb⟩; rw [hst]; (try replace hS := hS.below hb hS.lt); (try replace hQ := hQ.below hb hQ.lt); replace hB := hB.trans (hb.mono hB.size); (try clear qhS); (try clear qhQ); clear hb; (try have qhS := fun i => Blk.cell hS i); (try have qhQ := fun i => Blk.cell hQ i)) | (go_at_call 119; refine (Company_any A n cap fs _ hn (fun f h => ((hf f h).below hB).more hB.size) (rdB hr hB)).mono ?_; rintro e w1 ⟨rfl, hb⟩; rw [hcp]; (try replace hS := hS.below hb hS.lt); (try replace hQ := hQ.below hb hQ.lt); replace hB := hB.trans (hb.mono hB.size); (try clear qhS); (try clear qhQ); clear hb; (try have qhS := fun i => Blk.cell hS i); (try have qhQ := fun i => Blk.cell hQ i)) | (go_at_call 120; refine (refReach_any W H F L X Y nl nh xl xh y _ b1 b2).mono ?_; rintro e w1 ⟨rfl, hb⟩; rw [hrc]; (try replace hS := hS.below hb hS.lt); (try replace hQ := hQ.below hb hQ.lt); replace hB := hB.trans (hb.mono hB.size); (try clear qhS); (try clear qhQ); clear hb; (try have qhS := fun i => Blk.cell hS i); (try have qhQ := fun i => Blk.cell hQ i)))
    go_ret
    exact ⟨by rw [HR.out]; rfl, hB⟩

/-- A reading is one of a company and a reach. -/
def readB (n : Nat) (nl nh xl xh y f pn px py : Int) : Bool := decide (0 ≤ f) && (decide (f < n) && (decide (nl ≤ pn) && (decide (pn ≤ nh) && (decide (xl ≤ px) && (decide (px ≤ xh) && (py == y))))))
set_option maxRecDepth 100000 in
set_option maxHeartbeats 3200000 in
theorem reading_any (nl nh xl xh y f pn px py : Int) (A : Option Addr) (n cap : Nat) (w : World) :
    Calls Tryz.prog 60 #[.slice A n cap, .agg #[.int .i64 nl, .int .i64 nh, .int .i64 xl, .int .i64 xh, .int .i64 y], .agg #[.int .i64 f, .int .i64 pn, .int .i64 px, .int .i64 py]] w fun e w' => e = .returned (.bool (readB n nl nh xl xh y f pn px py)) ∧ Below w.heap.size w w' := by
  obtain ⟨res, hres⟩ : ∃ res, res = readB n nl nh xl xh y f pn px py := ⟨_, rfl⟩
  have hsplit := hres
  rw [← hres]
  clear hres
  unfold readB at hsplit
  cases h0 : decide (0 ≤ f)
  case' true => cases h1 : decide (f < n)
  case' true.true => cases h2 : decide (nl ≤ pn)
  case' true.true.true => cases h3 : decide (pn ≤ nh)
  case' true.true.true.true => cases h4 : decide (xl ≤ px)
  case' true.true.true.true.true => cases h5 : decide (px ≤ xh)
  case' true.true.true.true.true.true => cases h6 : (py == y)
  all_goals
    (try rw [h0] at hsplit); (try rw [decide_eq_true_eq] at h0); (try rw [decide_eq_false_iff_not] at h0)
    (try rw [h1] at hsplit); (try rw [decide_eq_true_eq] at h1); (try rw [decide_eq_false_iff_not] at h1)
    (try rw [h2] at hsplit); (try rw [decide_eq_true_eq] at h2); (try rw [decide_eq_false_iff_not] at h2)
    (try rw [h3] at hsplit); (try rw [decide_eq_true_eq] at h3); (try rw [decide_eq_false_iff_not] at h3)
    (try rw [h4] at hsplit); (try rw [decide_eq_true_eq] at h4); (try rw [decide_eq_false_iff_not] at h4)
    (try rw [h5] at hsplit); (try rw [decide_eq_true_eq] at h5); (try rw [decide_eq_false_iff_not] at h5)
    (try rw [h6] at hsplit)
    have HR := Lib.hid hsplit; clear hsplit
    go_enter Tryz.func60, Tryz.ntmps60
    go_upto_region 1 with (fail)
    have hQ := blk2_0 w (.cells #[.int .i64 f, .int .i64 pn, .int .i64 px, .int .i64 py] 86) 71 #[.int .i64 nl, .int .i64 nh, .int .i64 xl, .int .i64 xh, .int .i64 y]
    have hX := blk2_1 w (.cells #[.int .i64 nl, .int .i64 nh, .int .i64 xl, .int .i64 xh, .int .i64 y] 71) 86 #[.int .i64 f, .int .i64 pn, .int .i64 px, .int .i64 py]
    have hB := pro_2 w (.cells #[.int .i64 nl, .int .i64 nh, .int .i64 xl, .int .i64 xh, .int .i64 y] 71) (.cells #[.int .i64 f, .int .i64 pn, .int .i64 px, .int .i64 py] 86)
    generalize (w.alloc (.cells #[.int .i64 nl, .int .i64 nh, .int .i64 xl, .int .i64 xh, .int .i64 y] 71)).alloc (.cells #[.int .i64 f, .int .i64 pn, .int .i64 px, .int .i64 py] 86) = W0 at *
    have qhQ := fun i => Blk.cell hQ i
    have qhX := fun i => Blk.cell hX i
    go_upto_region 2 with (fail)
    have hP := Blk.new W0 28 #[.int .i64 pn, .int .i64 px, .int .i64 py]
    replace hQ := hQ.alloc (.cells #[.int .i64 pn, .int .i64 px, .int .i64 py] 28)
    replace hX := hX.alloc (.cells #[.int .i64 pn, .int .i64 px, .int .i64 py] 28)
    replace hB := hB.alloc hB.size (.cells #[.int .i64 pn, .int .i64 px, .int .i64 py] 28)
    clear qhQ qhX
    generalize W0.alloc (.cells #[.int .i64 pn, .int .i64 px, .int .i64 py] 28) = W1 at *
    have qhQ := fun i => Blk.cell hQ i; have qhX := fun i => Blk.cell hX i; have qhP := fun i => Blk.cell hP i
    go_wp2_with (fail)
    go_ret
    exact ⟨ret_bool (by rw [HR.out]; rfl), hB⟩
end Go.Proofs.YtifddfchpknkbaaGreatDoor
