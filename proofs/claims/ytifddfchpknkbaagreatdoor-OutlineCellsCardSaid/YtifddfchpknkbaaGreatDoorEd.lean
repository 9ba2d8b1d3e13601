import Derived.Test.YtifddfchpknkbaaGreatDoorEl
import Derived.Test.YtifddfchpknkbaaGreatDoorEc
set_option linter.unusedVariables false
set_option linter.unusedSimpArgs false
namespace Go.Proofs.YtifddfchpknkbaaGreatDoor
open Go.RowKit

set_option maxRecDepth 100000 in
set_option maxHeartbeats 25600000 in
theorem refEnough_any (Wn Hn : Nat) (F L X Y nl nh xl xh y : Int) (A : Option Addr) (n cap : Nat) (fs : List Fig) (CA : Option Addr) (cn cc : Nat) (cs : List Nat) (w : World) (hcap : n ≤ cap) (hcm : cap ≤ maxLen) (hf : ∀ f ∈ fs, f.ok w w.heap.size) (hr : Rd w w.heap.size 1 A n (fs.map Fig.val)) (hok : askB Wn Hn F L X Y nl nh xl xh y fs = true) (hC : Rd w w.heap.size 1 CA cn (cs.map natV)) (hcn : cn ≤ 100) (hcs : ∀ c ∈ cs, c < Wn * Hn) :
    Calls Tryz.prog 77 #[.agg #[.int .i64 Wn, .int .i64 Hn, .int .i64 F, .int .i64 L, .int .i64 X, .int .i64 Y], .slice A n cap, .agg #[.int .i64 nl, .int .i64 nh, .int .i64 xl, .int .i64 xh, .int .i64 y], .slice CA cn cc] w fun e w' => e = .returned (.bool (telP (shL Wn Hn F L X Y nl nh xl xh y fs) cs)) ∧ Below w.heap.size w w' := by
  have hsm := allR_small hok
  have hdim : 1 ≤ Wn ∧ Wn ≤ 16 ∧ Hn ≤ 16 := by have ⟨⟨s1, s2⟩, ⟨_, s4⟩, _⟩ := ask_dims hok; omega
  have hOKC := fun c hc => okC_of Wn Hn F L X Y nl nh xl xh y fs hdim.1 (by omega) (by omega) c (hcs c hc)
  have hall2 := fun wx h1 h2 => refAll_any Wn Hn F L X Y nl nh xl xh y A n cap fs wx hcap hcm h1 h2 hok
  have htel := fun rA rC uA uC vs base wx hT hU hcl hC => tells_any Wn Hn F L X Y y rA (allR fs.length nl nh xl xh).length rC (allR fs.length nl nh xl xh) uA uC vs (clothsL Wn Hn F L X Y nl nh xl xh y fs) base CA cn cc cs (zL (shL Wn Hn F L X Y nl nh xl xh y fs)) wx (by omega) hT hU hcl hC (by omega) hdim.1 (by omega) (fun c hc => (hOKC c hc).1) (fun i h c hc => (hOKC c hc).2 i h)
  rw [telP_eq Wn Hn F L X Y nl nh xl xh y fs cs] at htel
  have HTEL := Lib.hid htel; have HALL := Lib.hid hall2
  generalize telP (shL Wn Hn F L X Y nl nh xl xh y fs) cs = tv at *
  clear hall2 htel hOKC hok hcs
  go_enter Tryz.func77, Tryz.ntmps77
  go_upto_region 1 with (fail)
  have hS := blk2_0 w (.cells #[.int .i64 nl, .int .i64 nh, .int .i64 xl, .int .i64 xh, .int .i64 y] 71) 23 #[.int .i64 Wn, .int .i64 Hn, .int .i64 F, .int .i64 L, .int .i64 X, .int .i64 Y]
  have hQ := blk2_1 w (.cells #[.int .i64 Wn, .int .i64 Hn, .int .i64 F, .int .i64 L, .int .i64 X, .int .i64 Y] 23) 71 #[.int .i64 nl, .int .i64 nh, .int .i64 xl, .int .i64 xh, .int .i64 y]
  have hB := pro_2 w (.cells #[.int .i64 Wn, .int .i64 Hn, .int .i64 F, .int .i64 L, .int .i64 X, .int .i64 Y] 23) (.cells #[.int .i64 nl, .int .i64 nh, .int .i64 xl, .int .i64 xh, .int .i64 y] 71)
  generalize (w.alloc (.cells #[.int .i64 Wn, .int .i64 Hn, .int .i64 F, .int .i64 L, .int .i64 X, .int .i64 Y] 23)).alloc (.cells #[.int .i64 nl, .int .i64 nh, .int .i64 xl, .int .i64 xh, .int .i64 y] 71) = W0 at *
  have qhS := fun i => Blk.cell hS i
  have qhQ := fun i => Blk.cell hQ i
  go_upto_region 2 with (go_at_call 132; refine (HALL.out _ (fun f h => ((hf f h).below hB).more hB.size) (rdB hr hB)).mono ?_; rintro e w1 ⟨vr, uc, vs, rfl, hrow, hown, hcl, hb⟩; obtain ⟨rA, rC, rfl⟩ := own_slice hrow; obtain ⟨uA, uC, rfl⟩ := own_slice hown; replace hS := hS.below hb hS.lt; replace hB := hB.trans (hb.mono hB.size); clear hQ qhS qhQ hb; have qhS := fun i => Blk.cell hS i)
  clear HALL
  have hrd := Rd.of_own hrow
  have hud := Rd.of_own hown
  clear hrow hown
  go_wp2_with (go_at_call 137; refine (HTEL.out _ _ _ _ _ _ _ hrd hud hcl (rdB hC hB)).mono ?_; rintro e w2 ⟨rfl, hb⟩; replace hB := hB.trans (hb.mono hB.size))
  go_ret
  exact ⟨rfl, hB⟩
set_option maxRecDepth 100000 in
set_option maxHeartbeats 25600000 in
theorem refPlan_any (Wn Hn : Nat) (F L X Y nl nh xl xh y : Int) (A : Option Addr) (n cap : Nat) (fs : List Fig) (CA : Option Addr) (cn cc : Nat) (cs : List Nat) (w : World) (hcap : n ≤ cap) (hcm : cap ≤ maxLen) (hf : ∀ f ∈ fs, f.ok w w.heap.size) (hr : Rd w w.heap.size 1 A n (fs.map Fig.val)) (hok : askB Wn Hn F L X Y nl nh xl xh y fs = true) (hC : Rd w w.heap.size 1 CA cn (cs.map natV)) (hcn : cn ≤ 10) (hcs : ∀ c ∈ cs, c < Wn * Hn) :
    Calls Tryz.prog 78 #[.agg #[.int .i64 Wn, .int .i64 Hn, .int .i64 F, .int .i64 L, .int .i64 X, .int .i64 Y], .slice A n cap, .agg #[.int .i64 nl, .int .i64 nh, .int .i64 xl, .int .i64 xh, .int .i64 y], .slice CA cn cc] w fun e w' => RefPost w (refS (telP (shL Wn Hn F L X Y nl nh xl xh y fs)) cs (cs.length + 1)) e w' := by
  have hclen : cs.length = cn := by have := hC.1; rw [List.length_map] at this; omega
  have hsm := allR_small hok
  have hdim : 1 ≤ Wn ∧ Wn ≤ 16 ∧ Hn ≤ 16 := by have ⟨⟨s1, s2⟩, ⟨_, s4⟩, _⟩ := ask_dims hok; omega
  have hOKC := fun c hc => okC_of Wn Hn F L X Y nl nh xl xh y fs hdim.1 (by omega) (by omega) c (hcs c hc)
  have hall2 := fun wx h1 h2 => refAll_any Wn Hn F L X Y nl nh xl xh y A n cap fs wx hcap hcm h1 h2 hok
  have hfew := fun (rA : Option Addr) (rC : Nat) (uA : Option Addr) (uC : Nat) (vs : List Value) (base q : Nat) (wx : World) hq hT hU hcl hC => refFewest_any Wn Hn F L X Y y rA (allR fs.length nl nh xl xh).length rC (allR fs.length nl nh xl xh) uA uC vs (clothsL Wn Hn F L X Y nl nh xl xh y fs) base CA cn cc cs (zL (shL Wn Hn F L X Y nl nh xl xh y fs)) (by omega) hcn hdim.1 (by omega) hclen hOKC q none 0 0 0 q [] 0 wx hT hU hcl hC rfl (fun _ h => by cases h) (Nat.zero_le _) (Nat.zero_add q).symm hq (Nat.le_refl _) (by unfold maxLen; omega) (Rd.nil _ _ _ _)
  have hfun : (fun l => telA (fiT (allR fs.length nl nh xl xh)) (zL (shL Wn Hn F L X Y nl nh xl xh y fs)) l (allR fs.length nl nh xl xh).length) = telP (shL Wn Hn F L X Y nl nh xl xh y fs) := funext fun l => telP_eq Wn Hn F L X Y nl nh xl xh y fs l
  rw [hfun] at hfew
  have HFEW := Lib.hid hfew; have HALL := Lib.hid hall2; have HCLEN := Lib.hid hclen
  generalize telP (shL Wn Hn F L X Y nl nh xl xh y fs) = t at *
  clear hall2 hfew hfun hOKC hok hcs hclen
  go_enter Tryz.func78, Tryz.ntmps78
  go_upto_region 1 with (fail)
  have hS := blk2_0 w (.cells #[.int .i64 nl, .int .i64 nh, .int .i64 xl, .int .i64 xh, .int .i64 y] 71) 23 #[.int .i64 Wn, .int .i64 Hn, .int .i64 F, .int .i64 L, .int .i64 X, .int .i64 Y]
  have hQ := blk2_1 w (.cells #[.int .i64 Wn, .int .i64 Hn, .int .i64 F, .int .i64 L, .int .i64 X, .int .i64 Y] 23) 71 #[.int .i64 nl, .int .i64 nh, .int .i64 xl, .int .i64 xh, .int .i64 y]
  have hB := pro_2 w (.cells #[.int .i64 Wn, .int .i64 Hn, .int .i64 F, .int .i64 L, .int .i64 X, .int .i64 Y] 23) (.cells #[.int .i64 nl, .int .i64 nh, .int .i64 xl, .int .i64 xh, .int .i64 y] 71)
  generalize (w.alloc (.cells #[.int .i64 Wn, .int .i64 Hn, .int .i64 F, .int .i64 L, .int .i64 X, .int .i64 Y] 23)).alloc (.cells #[.int .i64 nl, .int .i64 nh, .int .i64 xl, .int .i64 xh, .int .i64 y] 71) = W0 at *
  have qhS := fun i => Blk.cell hS i
  have qhQ := fun i => Blk.cell hQ i
  go_upto_region 2 with (go_at_call 132; refine (HALL.out _ (fun f h => ((hf f h).below hB).more hB.size) (rdB hr hB)).mono ?_; rintro e w1 ⟨vr, uc, vs, rfl, hrow, hown, hcl, hb⟩; obtain ⟨rA, rC, rfl⟩ := own_slice hrow; obtain ⟨uA, uC, rfl⟩ := own_slice hown; replace hS := hS.below hb hS.lt; replace hB := hB.trans (hb.mono hB.size); clear hQ qhS qhQ hb; have qhS := fun i => Blk.cell hS i)
  clear HALL
  have hrd := Rd.of_own hrow
  have hud := Rd.of_own hown
  clear hrow hown
  have hB1 := Below.refl w1.heap.size w1
  clear qhS
  go_wp2_with (fail)
  go_loopg [12] (cn + 1) (fun g i wr => ∃ (q : Nat), g = cn + 1 - q ∧ q ≤ cn + 1 ∧ i = .int .i64 q ∧ refS t cs q = none ∧ Blk wr w.heap.size 23 #[.int .i64 Wn, .int .i64 Hn, .int .i64 F, .int .i64 L, .int .i64 X, .int .i64 Y] ∧ Below w1.heap.size w1 wr)
  case atStart => exact ⟨0, rfl, Nat.zero_le _, rfl, rfl, hS, hB1⟩
  case round =>
    clear hS hB1
    obtain ⟨q, hg, hq1, rfl, hno, hS, hB1⟩ := hrel
    have HG := Lib.hid hg; clear hg
    rename World => W1
    have hB2 := hB.trans (hB1.mono hB.size)
    by_cases hlt : q ≤ cn
    · have hlti : (q : Int) ≤ cn := by omega
      have hsu := refS_succ t cs q hno
      have HSU := Lib.hid hsu; clear hsu hno
      have qhS := fun i => Blk.cell hS i
      cases hq2 : refF t cs q 0 [] with
      | some l =>
        have HFIN := Lib.hid (show refS t cs (cs.length + 1) = some l from refS_stop _ _ _ (q + 1) _ (by have := HCLEN.out; omega) (by rw [HSU.out, hq2]))
        have HQ2 := Lib.hid hq2; clear hq2
        as_aux_lemma =>
          go_wp2_with (go_at_call 138; refine (HFEW.out _ _ _ _ _ _ q _ (by omega) (rdB hrd hB1) (rdB hud hB1) (hcl.below hB1) (rdB hC hB2)).mono ?_; rintro e w5 hp; rw [HQ2.out] at hp; obtain ⟨v, rfl, hIs, hb⟩ := hp; replace hB2 := hB2.trans (hb.mono hB2.size))
          go_ret2
          rw [HFIN.out]
          exact ⟨_, rfl, hIs, hB2⟩
      | none =>
        have HNX := Lib.hid (show refS t cs (q + 1) = none by rw [HSU.out, hq2])
        have HQ2 := Lib.hid hq2; clear hq2
        as_aux_lemma =>
          go_wp2_with (go_at_call 138; refine (HFEW.out _ _ _ _ _ _ q _ (by omega) (rdB hrd hB1) (rdB hud hB1) (hcl.below hB1) (rdB hC hB2)).mono ?_; rintro e w5 hp; rw [HQ2.out] at hp; obtain ⟨v, rfl, hb⟩ := hp; replace hS := hS.below hb hS.lt; replace hB1 := hB1.trans (hb.mono hB1.size))
          go_roundg (cn + 1 - (q + 1))
          case measure => rw [HG.out]; omega
          case rel => exact ⟨q + 1, rfl, by omega, by go_num, HNX.out, hS, hB1⟩
    · obtain rfl : q = cn + 1 := by omega
      have hge : ¬ (cn : Int) + 1 ≤ cn := by omega
      go_wp2_with (fail)
      go_ret2
      rw [show refS t cs (cs.length + 1) = none by rw [HCLEN.out]; exact hno]
      exact ⟨_, rfl, hB2⟩
end Go.Proofs.YtifddfchpknkbaaGreatDoor
