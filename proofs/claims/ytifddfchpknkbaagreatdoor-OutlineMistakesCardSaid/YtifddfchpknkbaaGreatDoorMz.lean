import Derived.Test.YtifddfchpknkbaaGreatDoorMw
import Derived.Test.YtifddfchpknkbaaGreatDoorTs
import Derived.Test.YtifddfchpknkbaaGreatDoorZ
set_option linter.unusedVariables false
set_option linter.unusedSimpArgs false
namespace Go.Proofs.YtifddfchpknkbaaGreatDoor
open Go.RowKit

theorem sameL_refl (xs : List Int) : sameL xs xs = true := by
  unfold sameL
  rw [decide_eq_true rfl, Bool.true_and, List.all_eq_true]
  intro p hp
  have : p.1 = p.2 := by
    obtain ⟨i, hi, rfl⟩ := List.getElem_of_mem hp
    rw [List.getElem_zip]
  simp [sameP, this]
set_option maxRecDepth 100000 in
set_option maxHeartbeats 25600000 in
theorem mistakes_x1 (W H F L X Y nl nh xl xh y fig : Int) (A : Option Addr) (n cap : Nat) (fs : List Fig) (m : Int) (w : World) (hm : w.cell? ⟨0, 0, none⟩ = some (.int .i64 m)) (hcap : n ≤ cap) (hcm : cap ≤ maxLen) (hf : ∀ f ∈ fs, f.ok w w.heap.size) (hr : Rd w w.heap.size 1 A n (fs.map Fig.val)) (hfw : fewB fs = false) :
    Calls Tryz.prog 14 #[.agg #[.int .i64 W, .int .i64 H, .int .i64 F, .int .i64 L, .int .i64 X, .int .i64 Y], .slice A n cap, .agg #[.int .i64 nl, .int .i64 nh, .int .i64 xl, .int .i64 xh, .int .i64 y], .int .i64 fig] w fun e w' => e = .returned (.bool true) ∧ Below w.heap.size w w' := by
  have hn : n ≤ maxLen := Nat.le_trans hcap hcm
  go_enter Tryz.func14, Tryz.ntmps14
  go_upto_region 1 with (fail)
  have hS := blk2_0 w (.cells #[.int .i64 nl, .int .i64 nh, .int .i64 xl, .int .i64 xh, .int .i64 y] 71) 23 #[.int .i64 W, .int .i64 H, .int .i64 F, .int .i64 L, .int .i64 X, .int .i64 Y]
  have hQ := blk2_1 w (.cells #[.int .i64 W, .int .i64 H, .int .i64 F, .int .i64 L, .int .i64 X, .int .i64 Y] 23) 71 #[.int .i64 nl, .int .i64 nh, .int .i64 xl, .int .i64 xh, .int .i64 y]
  have hB := pro_2 w (.cells #[.int .i64 W, .int .i64 H, .int .i64 F, .int .i64 L, .int .i64 X, .int .i64 Y] 23) (.cells #[.int .i64 nl, .int .i64 nh, .int .i64 xl, .int .i64 xh, .int .i64 y] 71)
  generalize (w.alloc (.cells #[.int .i64 W, .int .i64 H, .int .i64 F, .int .i64 L, .int .i64 X, .int .i64 Y] 23)).alloc (.cells #[.int .i64 nl, .int .i64 nh, .int .i64 xl, .int .i64 xh, .int .i64 y] 71) = W0 at *
  have qhS := fun i => Blk.cell hS i
  have qhQ := fun i => Blk.cell hQ i
  clear hcap hcm
  go_wp2_with (first | (go_at_call 39; refine (few_any A n cap fs _ hn (fun f h => ((hf f h).below hB).more hB.size) (rdB hr hB)).mono ?_; rintro e w1 ⟨rfl, rfl⟩; rw [hfw]) | (go_at_call 24; refine (known_true m _ (known_at hm hB)).mono ?_; rintro e w1 ⟨rfl, hb⟩; (try replace hS := hS.below hb hS.lt); (try replace hQ := hQ.below hb hQ.lt); (try replace hT := rdB hT hb); (try replace hU := rdB hU hb); replace hB := hB.trans (hb.mono hB.size); (try clear qhS); (try clear qhQ); clear hb; (try have qhS := fun i => Blk.cell hS i); (try have qhQ := fun i => Blk.cell hQ i)))
  go_ret
  exact ⟨rfl, hB⟩
set_option maxRecDepth 100000 in
set_option maxHeartbeats 25600000 in
theorem mistakes_x2 (W H F L X Y nl nh xl xh y fig : Int) (A : Option Addr) (n cap : Nat) (fs : List Fig) (m : Int) (w : World) (hm : w.cell? ⟨0, 0, none⟩ = some (.int .i64 m)) (hcap : n ≤ cap) (hcm : cap ≤ maxLen) (hf : ∀ f ∈ fs, f.ok w w.heap.size) (hr : Rd w w.heap.size 1 A n (fs.map Fig.val)) (hfw : fewB fs = true) (hak : askV (askB W H F L X Y nl nh xl xh y fs && true) = 2) (HM : Hid (mistR W H F L X Y nl nh xl xh y fs = #[.int .i64 0, .int .i64 0, .int .i64 2])) (HT : Hid (toldR W H F L X Y nl nh xl xh y fs fig = [])) (HE : Hid (toldE W H F L X Y nl nh xl xh y fs fig = 2)) :
    Calls Tryz.prog 14 #[.agg #[.int .i64 W, .int .i64 H, .int .i64 F, .int .i64 L, .int .i64 X, .int .i64 Y], .slice A n cap, .agg #[.int .i64 nl, .int .i64 nh, .int .i64 xl, .int .i64 xh, .int .i64 y], .int .i64 fig] w fun e w' => e = .returned (.bool true) ∧ Below w.heap.size w w' := by
  have hn : n ≤ maxLen := Nat.le_trans hcap hcm
  go_enter Tryz.func14, Tryz.ntmps14
  go_upto_region 1 with (fail)
  have hS := blk2_0 w (.cells #[.int .i64 nl, .int .i64 nh, .int .i64 xl, .int .i64 xh, .int .i64 y] 71) 23 #[.int .i64 W, .int .i64 H, .int .i64 F, .int .i64 L, .int .i64 X, .int .i64 Y]
  have hQ := blk2_1 w (.cells #[.int .i64 W, .int .i64 H, .int .i64 F, .int .i64 L, .int .i64 X, .int .i64 Y] 23) 71 #[.int .i64 nl, .int .i64 nh, .int .i64 xl, .int .i64 xh, .int .i64 y]
  have hB := pro_2 w (.cells #[.int .i64 W, .int .i64 H, .int .i64 F, .int .i64 L, .int .i64 X, .int .i64 Y] 23) (.cells #[.int .i64 nl, .int .i64 nh, .int .i64 xl, .int .i64 xh, .int .i64 y] 71)
  generalize (w.alloc (.cells #[.int .i64 W, .int .i64 H, .int .i64 F, .int .i64 L, .int .i64 X, .int .i64 Y] 23)).alloc (.cells #[.int .i64 nl, .int .i64 nh, .int .i64 xl, .int .i64 xh, .int .i64 y] 71) = W0 at *
  have qhS := fun i => Blk.cell hS i
  have qhQ := fun i => Blk.cell hQ i
  go_upto_region 3 with ((go_at_call 39; refine (few_any A n cap fs _ hn (fun f h => ((hf f h).below hB).more hB.size) (rdB hr hB)).mono ?_; rintro e w1 ⟨rfl, rfl⟩; rw [hfw]))
  go_upto_region 4 with ((go_at_call 68; refine (Mistaken_any W H F L X Y nl nh xl xh y A n cap fs _ hcap hcm (fun f h => ((hf f h).below hB).more hB.size) (rdB hr hB)).mono ?_; rintro e w1 ⟨rfl, hb⟩; rw [HM.out]; (try replace hS := hS.below hb hS.lt); (try replace hQ := hQ.below hb hQ.lt); (try replace hT := rdB hT hb); (try replace hU := rdB hU hb); replace hB := hB.trans (hb.mono hB.size); (try clear qhS); (try clear qhQ); clear hb; (try have qhS := fun i => Blk.cell hS i); (try have qhQ := fun i => Blk.cell hQ i)))
  go_upto_region 5 with ((go_at_call 69; refine (Told_any W H F L X Y nl nh xl xh y A n cap fs fig _ hcap hcm (fun f h => ((hf f h).below hB).more hB.size) (rdB hr hB)).mono ?_; rintro e w1 ⟨v1, rfl, hIs, hb⟩; obtain ⟨tA, tn, tc, rfl, ht1, ht2, hT⟩ := hIs; rw [HT.out] at hT; rw [HE.out]; (try replace hS := hS.below hb hS.lt); (try replace hQ := hQ.below hb hQ.lt); (try replace hU := rdB hU hb); replace hB := hB.trans (hb.mono hB.size); (try clear qhS); (try clear qhQ); clear hb; (try have qhS := fun i => Blk.cell hS i); (try have qhQ := fun i => Blk.cell hQ i)))
  have htn : tn = 0 := hT.len.symm
  subst htn
  clear HM HT HE
  go_wp2_with (first | (go_at_call 54; refine (asked_any W H F L X Y nl nh xl xh y A n cap fs true _ hn (fun f h => ((hf f h).below hB).more hB.size) (rdB hr hB)).mono ?_; rintro e w1 ⟨rfl, hb⟩; rw [hak]; (try replace hS := hS.below hb hS.lt); (try replace hQ := hQ.below hb hQ.lt); (try replace hT := rdB hT hb); (try replace hU := rdB hU hb); replace hB := hB.trans (hb.mono hB.size); (try clear qhS); (try clear qhQ); clear hb; (try have qhS := fun i => Blk.cell hS i); (try have qhQ := fun i => Blk.cell hQ i)) | (go_at_call 24; refine (known_true m _ (known_at hm hB)).mono ?_; rintro e w1 ⟨rfl, hb⟩; (try replace hS := hS.below hb hS.lt); (try replace hQ := hQ.below hb hQ.lt); (try replace hT := rdB hT hb); (try replace hU := rdB hU hb); replace hB := hB.trans (hb.mono hB.size); (try clear qhS); (try clear qhQ); clear hb; (try have qhS := fun i => Blk.cell hS i); (try have qhQ := fun i => Blk.cell hQ i)))
  go_ret
  exact ⟨rfl, hB⟩
set_option maxRecDepth 100000 in
set_option maxHeartbeats 25600000 in
theorem mistakes_in (Wn Hn : Nat) (F L X Y nl nh xl xh y fig : Int) (A : Option Addr) (n cap : Nat) (fs : List Fig) (m : Int) (w : World) (hm : w.cell? ⟨0, 0, none⟩ = some (.int .i64 m)) (hcap : n ≤ cap) (hcm : cap ≤ maxLen) (hf : ∀ f ∈ fs, f.ok w w.heap.size) (hr : Rd w w.heap.size 1 A n (fs.map Fig.val)) (a b me : Int) (tl : List Int) (hfw : fewB fs = true) (hak : askV (askB Wn Hn F L X Y nl nh xl xh y fs && true) = 0) (hask : askB Wn Hn F L X Y nl nh xl xh y fs = true) (HM : Hid (mistR Wn Hn F L X Y nl nh xl xh y fs = #[.int .i64 a, .int .i64 b, .int .i64 me])) (HT : Hid (toldR Wn Hn F L X Y nl nh xl xh y fs fig = tl)) (HTL : Hid (toldL (shL Wn Hn F L X Y nl nh xl xh y fs) fig nl nh = tl)) (HE : Hid (toldE Wn Hn F L X Y nl nh xl xh y fs fig = 0)) (h0 : 0 ≤ fig) (h1 : fig < n) (HMM : Hid ((me = 5 ∧ a = 0 ∧ b = 0 ∧ misF (shL Wn Hn F L X Y nl nh xl xh y fs) fs.length = none) ∨ (me = 0 ∧ misF (shL Wn Hn F L X Y nl nh xl xh y fs) fs.length = some (a, b)))) :
    Calls Tryz.prog 14 #[.agg #[.int .i64 Wn, .int .i64 Hn, .int .i64 F, .int .i64 L, .int .i64 X, .int .i64 Y], .slice A n cap, .agg #[.int .i64 nl, .int .i64 nh, .int .i64 xl, .int .i64 xh, .int .i64 y], .int .i64 fig] w fun e w' => e = .returned (.bool true) ∧ Below w.heap.size w w' := by
  have hn : n ≤ maxLen := Nat.le_trans hcap hcm
  go_enter Tryz.func14, Tryz.ntmps14
  go_upto_region 1 with (fail)
  have hS := blk2_0 w (.cells #[.int .i64 nl, .int .i64 nh, .int .i64 xl, .int .i64 xh, .int .i64 y] 71) 23 #[.int .i64 Wn, .int .i64 Hn, .int .i64 F, .int .i64 L, .int .i64 X, .int .i64 Y]
  have hQ := blk2_1 w (.cells #[.int .i64 Wn, .int .i64 Hn, .int .i64 F, .int .i64 L, .int .i64 X, .int .i64 Y] 23) 71 #[.int .i64 nl, .int .i64 nh, .int .i64 xl, .int .i64 xh, .int .i64 y]
  have hB := pro_2 w (.cells #[.int .i64 Wn, .int .i64 Hn, .int .i64 F, .int .i64 L, .int .i64 X, .int .i64 Y] 23) (.cells #[.int .i64 nl, .int .i64 nh, .int .i64 xl, .int .i64 xh, .int .i64 y] 71)
  generalize (w.alloc (.cells #[.int .i64 Wn, .int .i64 Hn, .int .i64 F, .int .i64 L, .int .i64 X, .int .i64 Y] 23)).alloc (.cells #[.int .i64 nl, .int .i64 nh, .int .i64 xl, .int .i64 xh, .int .i64 y] 71) = W0 at *
  have qhS := fun i => Blk.cell hS i
  have qhQ := fun i => Blk.cell hQ i
  go_upto_region 3 with ((go_at_call 39; refine (few_any A n cap fs _ hn (fun f h => ((hf f h).below hB).more hB.size) (rdB hr hB)).mono ?_; rintro e w1 ⟨rfl, rfl⟩; rw [hfw]))
  go_upto_region 4 with ((go_at_call 68; refine (Mistaken_any Wn Hn F L X Y nl nh xl xh y A n cap fs _ hcap hcm (fun f h => ((hf f h).below hB).more hB.size) (rdB hr hB)).mono ?_; rintro e w1 ⟨rfl, hb⟩; rw [HM.out]; (try replace hS := hS.below hb hS.lt); (try replace hQ := hQ.below hb hQ.lt); (try replace hT := rdB hT hb); (try replace hU := rdB hU hb); replace hB := hB.trans (hb.mono hB.size); (try clear qhS); (try clear qhQ); clear hb; (try have qhS := fun i => Blk.cell hS i); (try have qhQ := fun i => Blk.cell hQ i)))
  clear HM
  go_upto_region 5 with ((go_at_call 69; refine (Told_any Wn Hn F L X Y nl nh xl xh y A n cap fs fig _ hcap hcm (fun f h => ((hf f h).below hB).more hB.size) (rdB hr hB)).mono ?_; rintro e w1 ⟨v1, rfl, hIs, hb⟩; obtain ⟨tA, tn, tc, rfl, ht1, ht2, hT⟩ := hIs; rw [HT.out] at hT; rw [HE.out]; (try replace hS := hS.below hb hS.lt); (try replace hQ := hQ.below hb hQ.lt); (try replace hU := rdB hU hb); replace hB := hB.trans (hb.mono hB.size); (try clear qhS); (try clear qhQ); clear hb; (try have qhS := fun i => Blk.cell hS i); (try have qhQ := fun i => Blk.cell hQ i)))
  clear HT HE
  go_upto_region 7 with ((go_at_call 54; refine (asked_any Wn Hn F L X Y nl nh xl xh y A n cap fs true _ hn (fun f h => ((hf f h).below hB).more hB.size) (rdB hr hB)).mono ?_; rintro e w1 ⟨rfl, hb⟩; rw [hak]; (try replace hS := hS.below hb hS.lt); (try replace hQ := hQ.below hb hQ.lt); (try replace hT := rdB hT hb); (try replace hU := rdB hU hb); replace hB := hB.trans (hb.mono hB.size); (try clear qhS); (try clear qhQ); clear hb; (try have qhS := fun i => Blk.cell hS i); (try have qhQ := fun i => Blk.cell hQ i)))
  clear hak hfw
  have h0n : ¬ fig < 0 := by omega
  have h1n : ¬ (n : Int) ≤ fig := by omega
  have HMF := Lib.hid (rfl : (0 : Nat) = 0)
  rcases HMM.out with ⟨rfl, rfl, rfl, hmf⟩ | ⟨rfl, hmf⟩
  all_goals
    clear HMF
    first | have HMF := Lib.hid (show misW (misF (shL Wn Hn F L X Y nl nh xl xh y fs) fs.length) = #[.int .i64 0, .int .i64 0, .bool false] by rw [hmf]; rfl) | have HMF := Lib.hid (show misW (misF (shL Wn Hn F L X Y nl nh xl xh y fs) fs.length) = #[.int .i64 a, .int .i64 b, .bool true] by rw [hmf]; rfl)
    clear hmf HMM
    as_aux_lemma =>
      (try have haa : ((a : Int) != a) = false := by simp)
      (try have hbb : ((b : Int) != b) = false := by simp)
      go_upto_region 8 with ((go_at_call 70; refine (refMistaken_any Wn Hn F L X Y nl nh xl xh y A n cap fs _ hcap hcm (fun f h => ((hf f h).below hB).more hB.size) (rdB hr hB) hask).mono ?_; rintro e w1 ⟨rfl, hb⟩; rw [HMF.out]; (try replace hS := hS.below hb hS.lt); (try replace hQ := hQ.below hb hQ.lt); (try replace hT := rdB hT hb); (try replace hU := rdB hU hb); replace hB := hB.trans (hb.mono hB.size); (try clear qhS); (try clear qhQ); clear hb; (try have qhS := fun i => Blk.cell hS i); (try have qhQ := fun i => Blk.cell hQ i)))
      go_wp2_with (first | (go_at_call 71; refine (Same_any tA uA tn un tc uc tl tl _ (Nat.le_trans ht1 ht2) (Nat.le_trans hu1 hu2) hT hU).mono ?_; rintro e w1 ⟨rfl, hb⟩; rw [sameL_refl]; (try replace hS := hS.below hb hS.lt); (try replace hQ := hQ.below hb hQ.lt); (try replace hT := rdB hT hb); (try replace hU := rdB hU hb); replace hB := hB.trans (hb.mono hB.size); (try clear qhS); (try clear qhQ); clear hb; (try have qhS := fun i => Blk.cell hS i); (try have qhQ := fun i => Blk.cell hQ i)) | (go_at_call 72; refine (refTold_any Wn Hn F L X Y nl nh xl xh y fig A n cap fs _ hcap hcm (fun f h => ((hf f h).below hB).more hB.size) (rdB hr hB) hask).mono ?_; rintro e w1 ⟨v1, rfl, hIs, hb⟩; obtain ⟨uA, un, uc, rfl, hu1, hu2, hU⟩ := hIs; rw [HTL.out] at hU; (try replace hS := hS.below hb hS.lt); (try replace hQ := hQ.below hb hQ.lt); (try replace hT := rdB hT hb); replace hB := hB.trans (hb.mono hB.size); (try clear qhS); (try clear qhQ); clear hb; (try have qhS := fun i => Blk.cell hS i); (try have qhQ := fun i => Blk.cell hQ i)) | (go_at_call 24; refine (known_true m _ (known_at hm hB)).mono ?_; rintro e w1 ⟨rfl, hb⟩; (try replace hS := hS.below hb hS.lt); (try replace hQ := hQ.below hb hQ.lt); (try replace hT := rdB hT hb); (try replace hU := rdB hU hb); replace hB := hB.trans (hb.mono hB.size); (try clear qhS); (try clear qhQ); clear hb; (try have qhS := fun i => Blk.cell hS i); (try have qhQ := fun i => Blk.cell hQ i)))
      go_ret
      exact ⟨rfl, hB⟩
set_option maxRecDepth 100000 in
set_option maxHeartbeats 25600000 in
theorem mistakes_out (Wn Hn : Nat) (F L X Y nl nh xl xh y fig : Int) (A : Option Addr) (n cap : Nat) (fs : List Fig) (m : Int) (w : World) (hm : w.cell? ⟨0, 0, none⟩ = some (.int .i64 m)) (hcap : n ≤ cap) (hcm : cap ≤ maxLen) (hf : ∀ f ∈ fs, f.ok w w.heap.size) (hr : Rd w w.heap.size 1 A n (fs.map Fig.val)) (a b me : Int) (tl : List Int) (hfw : fewB fs = true) (hak : askV (askB Wn Hn F L X Y nl nh xl xh y fs && true) = 0) (hask : askB Wn Hn F L X Y nl nh xl xh y fs = true) (HM : Hid (mistR Wn Hn F L X Y nl nh xl xh y fs = #[.int .i64 a, .int .i64 b, .int .i64 me])) (HT : Hid (toldR Wn Hn F L X Y nl nh xl xh y fs fig = tl)) (HE : Hid (toldE Wn Hn F L X Y nl nh xl xh y fs fig = 2)) (htl : tl = []) (h01 : fig < 0 ∨ (n : Int) ≤ fig) (HMM : Hid ((me = 5 ∧ a = 0 ∧ b = 0 ∧ misF (shL Wn Hn F L X Y nl nh xl xh y fs) fs.length = none) ∨ (me = 0 ∧ misF (shL Wn Hn F L X Y nl nh xl xh y fs) fs.length = some (a, b)))) :
    Calls Tryz.prog 14 #[.agg #[.int .i64 Wn, .int .i64 Hn, .int .i64 F, .int .i64 L, .int .i64 X, .int .i64 Y], .slice A n cap, .agg #[.int .i64 nl, .int .i64 nh, .int .i64 xl, .int .i64 xh, .int .i64 y], .int .i64 fig] w fun e w' => e = .returned (.bool true) ∧ Below w.heap.size w w' := by
  have hn : n ≤ maxLen := Nat.le_trans hcap hcm
  go_enter Tryz.func14, Tryz.ntmps14
  go_upto_region 1 with (fail)
  have hS := blk2_0 w (.cells #[.int .i64 nl, .int .i64 nh, .int .i64 xl, .int .i64 xh, .int .i64 y] 71) 23 #[.int .i64 Wn, .int .i64 Hn, .int .i64 F, .int .i64 L, .int .i64 X, .int .i64 Y]
  have hQ := blk2_1 w (.cells #[.int .i64 Wn, .int .i64 Hn, .int .i64 F, .int .i64 L, .int .i64 X, .int .i64 Y] 23) 71 #[.int .i64 nl, .int .i64 nh, .int .i64 xl, .int .i64 xh, .int .i64 y]
  have hB := pro_2 w (.cells #[.int .i64 Wn, .int .i64 Hn, .int .i64 F, .int .i64 L, .int .i64 X, .int .i64 Y] 23) (.cells #[.int .i64 nl, .int .i64 nh, .int .i64 xl, .int .i64 xh, .int .i64 y] 71)
  generalize (w.alloc (.cells #[.int .i64 Wn, .int .i64 Hn, .int .i64 F, .int .i64 L, .int .i64 X, .int .i64 Y] 23)).alloc (.cells #[.int .i64 nl, .int .i64 nh, .int .i64 xl, .int .i64 xh, .int .i64 y] 71) = W0 at *
  have qhS := fun i => Blk.cell hS i
  have qhQ := fun i => Blk.cell hQ i
  go_upto_region 3 with ((go_at_call 39; refine (few_any A n cap fs _ hn (fun f h => ((hf f h).below hB).more hB.size) (rdB hr hB)).mono ?_; rintro e w1 ⟨rfl, rfl⟩; rw [hfw]))
  go_upto_region 4 with ((go_at_call 68; refine (Mistaken_any Wn Hn F L X Y nl nh xl xh y A n cap fs _ hcap hcm (fun f h => ((hf f h).below hB).more hB.size) (rdB hr hB)).mono ?_; rintro e w1 ⟨rfl, hb⟩; rw [HM.out]; (try replace hS := hS.below hb hS.lt); (try replace hQ := hQ.below hb hQ.lt); (try replace hT := rdB hT hb); (try replace hU := rdB hU hb); replace hB := hB.trans (hb.mono hB.size); (try clear qhS); (try clear qhQ); clear hb; (try have qhS := fun i => Blk.cell hS i); (try have qhQ := fun i => Blk.cell hQ i)))
  clear HM
  go_upto_region 5 with ((go_at_call 69; refine (Told_any Wn Hn F L X Y nl nh xl xh y A n cap fs fig _ hcap hcm (fun f h => ((hf f h).below hB).more hB.size) (rdB hr hB)).mono ?_; rintro e w1 ⟨v1, rfl, hIs, hb⟩; obtain ⟨tA, tn, tc, rfl, ht1, ht2, hT⟩ := hIs; rw [HT.out] at hT; rw [HE.out]; (try replace hS := hS.below hb hS.lt); (try replace hQ := hQ.below hb hQ.lt); (try replace hU := rdB hU hb); replace hB := hB.trans (hb.mono hB.size); (try clear qhS); (try clear qhQ); clear hb; (try have qhS := fun i => Blk.cell hS i); (try have qhQ := fun i => Blk.cell hQ i)))
  clear HT HE
  go_upto_region 7 with ((go_at_call 54; refine (asked_any Wn Hn F L X Y nl nh xl xh y A n cap fs true _ hn (fun f h => ((hf f h).below hB).more hB.size) (rdB hr hB)).mono ?_; rintro e w1 ⟨rfl, hb⟩; rw [hak]; (try replace hS := hS.below hb hS.lt); (try replace hQ := hQ.below hb hQ.lt); (try replace hT := rdB hT hb); (try replace hU := rdB hU hb); replace hB := hB.trans (hb.mono hB.size); (try clear qhS); (try clear qhQ); clear hb; (try have qhS := fun i => Blk.cell hS i); (try have qhQ := fun i => Blk.cell hQ i)))
  clear hak hfw
  subst htl
  have htn : tn = 0 := hT.len.symm
  subst htn
  have HMF := Lib.hid (rfl : (0 : Nat) = 0)
  rcases HMM.out with ⟨rfl, rfl, rfl, hmf⟩ | ⟨rfl, hmf⟩
  all_goals
    clear HMF
    first | have HMF := Lib.hid (show misW (misF (shL Wn Hn F L X Y nl nh xl xh y fs) fs.length) = #[.int .i64 0, .int .i64 0, .bool false] by rw [hmf]; rfl) | have HMF := Lib.hid (show misW (misF (shL Wn Hn F L X Y nl nh xl xh y fs) fs.length) = #[.int .i64 a, .int .i64 b, .bool true] by rw [hmf]; rfl)
    clear hmf HMM
    (try have haa : ((a : Int) != a) = false := by simp)
    (try have hbb : ((b : Int) != b) = false := by simp)
    go_upto_region 8 with ((go_at_call 70; refine (refMistaken_any Wn Hn F L X Y nl nh xl xh y A n cap fs _ hcap hcm (fun f h => ((hf f h).below hB).more hB.size) (rdB hr hB) hask).mono ?_; rintro e w1 ⟨rfl, hb⟩; rw [HMF.out]; (try replace hS := hS.below hb hS.lt); (try replace hQ := hQ.below hb hQ.lt); (try replace hT := rdB hT hb); (try replace hU := rdB hU hb); replace hB := hB.trans (hb.mono hB.size); (try clear qhS); (try clear qhQ); clear hb; (try have qhS := fun i => Blk.cell hS i); (try have qhQ := fun i => Blk.cell hQ i)))
    by_cases h0 : fig < 0
    · as_aux_lemma =>
        go_wp2_with (first | (go_at_call 24; refine (known_true m _ (known_at hm hB)).mono ?_; rintro e w1 ⟨rfl, hb⟩; (try replace hS := hS.below hb hS.lt); (try replace hQ := hQ.below hb hQ.lt); (try replace hT := rdB hT hb); (try replace hU := rdB hU hb); replace hB := hB.trans (hb.mono hB.size); (try clear qhS); (try clear qhQ); clear hb; (try have qhS := fun i => Blk.cell hS i); (try have qhQ := fun i => Blk.cell hQ i)))
        go_ret
        exact ⟨rfl, hB⟩
    · have h1 : (n : Int) ≤ fig := h01.resolve_left h0
      as_aux_lemma =>
        go_wp2_with (first | (go_at_call 24; refine (known_true m _ (known_at hm hB)).mono ?_; rintro e w1 ⟨rfl, hb⟩; (try replace hS := hS.below hb hS.lt); (try replace hQ := hQ.below hb hQ.lt); (try replace hT := rdB hT hb); (try replace hU := rdB hU hb); replace hB := hB.trans (hb.mono hB.size); (try clear qhS); (try clear qhQ); clear hb; (try have qhS := fun i => Blk.cell hS i); (try have qhQ := fun i => Blk.cell hQ i)))
        go_ret
        exact ⟨rfl, hB⟩
theorem mistakes_law (W H F L X Y nl nh xl xh y fig : Int) (A : Option Addr) (n cap : Nat) (fs : List Fig) (m : Int) (w : World) (hm : w.cell? ⟨0, 0, none⟩ = some (.int .i64 m)) (hcap : n ≤ cap) (hcm : cap ≤ maxLen) (hf : ∀ f ∈ fs, f.ok w w.heap.size) (hr : Rd w w.heap.size 1 A n (fs.map Fig.val)) :
    Calls Tryz.prog 14 #[.agg #[.int .i64 W, .int .i64 H, .int .i64 F, .int .i64 L, .int .i64 X, .int .i64 Y], .slice A n cap, .agg #[.int .i64 nl, .int .i64 nh, .int .i64 xl, .int .i64 xh, .int .i64 y], .int .i64 fig] w fun e w' => e = .returned (.bool true) ∧ Below w.heap.size w w' := by
  cases hfw : fewB fs
  · exact mistakes_x1 W H F L X Y nl nh xl xh y fig A n cap fs m w hm hcap hcm hf hr hfw
  rcases askV_iff (b := askB W H F L X Y nl nh xl xh y fs) with ⟨hak, hask⟩ | ⟨hak, hask⟩
  rotate_left
  · have ht : toldOk W H F L X Y nl nh xl xh y fs fig = false := by unfold toldOk; rw [hask]; rfl
    exact mistakes_x2 W H F L X Y nl nh xl xh y fig A n cap fs m w hm hcap hcm hf hr hfw hak (Lib.hid (by unfold mistR; rw [hask]; rfl)) (Lib.hid (by unfold toldR; rw [ht]; rfl)) (Lib.hid (by unfold toldE; rw [ht]; rfl))
  have hdim := ask_dims hask
  have hlen := hr.len
  obtain ⟨Wn, rfl⟩ : ∃ k : Nat, W = k := ⟨W.toNat, by omega⟩
  obtain ⟨Hn, rfl⟩ : ∃ k : Nat, H = k := ⟨H.toNat, by omega⟩
  have key : ∃ a b me : Int, mistR Wn Hn F L X Y nl nh xl xh y fs = #[.int .i64 a, .int .i64 b, .int .i64 me] ∧ ((me = 5 ∧ a = 0 ∧ b = 0 ∧ misF (shL Wn Hn F L X Y nl nh xl xh y fs) fs.length = none) ∨ (me = 0 ∧ misF (shL Wn Hn F L X Y nl nh xl xh y fs) fs.length = some (a, b))) := by
    unfold mistR
    rw [if_pos hask]
    cases h : misF (shL Wn Hn F L X Y nl nh xl xh y fs) fs.length with
    | none => exact ⟨0, 0, 5, rfl, .inl ⟨rfl, rfl, rfl, rfl⟩⟩
    | some p => exact ⟨p.1, p.2, 0, rfl, .inr ⟨rfl, rfl⟩⟩
  obtain ⟨a, b, me, hM, hF⟩ := key
  by_cases hin : 0 ≤ fig ∧ fig < n
  · have ht : toldOk Wn Hn F L X Y nl nh xl xh y fs fig = true := by simp only [toldOk, hask, inB, Bool.true_and, Bool.and_eq_true, decide_eq_true_eq]; omega
    exact mistakes_in Wn Hn F L X Y nl nh xl xh y fig A n cap fs m w hm hcap hcm hf hr a b me _ hfw hak hask (Lib.hid hM) (Lib.hid (by unfold toldR; rw [if_pos ht])) (Lib.hid rfl) (Lib.hid (by unfold toldE; rw [if_pos ht])) hin.1 hin.2 (Lib.hid hF)
  · have ht : toldOk Wn Hn F L X Y nl nh xl xh y fs fig = false := by
      simp only [toldOk, hask, inB, Bool.true_and]
      rw [Bool.and_eq_false_iff]
      by_cases h0 : 0 ≤ fig
      · right; rw [decide_eq_false_iff_not]; omega
      · left; rw [decide_eq_false_iff_not]; exact h0
    exact mistakes_out Wn Hn F L X Y nl nh xl xh y fig A n cap fs m w hm hcap hcm hf hr a b me [] hfw hak hask (Lib.hid hM) (Lib.hid (by unfold toldR; rw [ht]; rfl)) (Lib.hid (by unfold toldE; rw [ht]; rfl)) rfl (by omega) (Lib.hid hF)
end Go.Proofs.YtifddfchpknkbaaGreatDoor
