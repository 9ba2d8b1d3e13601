import Derived.Test.YtifddfchpknkbaaGreatDoorMy
import Derived.Test.YtifddfchpknkbaaGreatDoorTd
set_option linter.unusedVariables false
set_option linter.unusedSimpArgs false
namespace Go.Proofs.YtifddfchpknkbaaGreatDoor
open Go.RowKit

def niL (tl : List Tr) (p : Nat) : Int := ((tl[p]?).map (·.2.1)).getD 0
theorem niL_at {tl : List Tr} {p : Nat} (h : p < tl.length) : niL tl p = tl[p].2.1 := by simp [niL, h]
/-- Reading k is of another figure, and its shadow agrees with reading i's. -/
def othI (fi : Nat → Int) (ag : Nat → Nat → Bool) (fig : Int) (i k : Nat) : Bool := (fi k != fig) && ag i k
def oneI (fi ni : Nat → Int) (ag : Nat → Nat → Bool) (fig t : Int) (N i : Nat) : Bool := ((fi i == fig) && (ni i == t)) && (List.range N).any (othI fi ag fig i)
theorem any_range_succ (p : Nat → Bool) (k : Nat) : (List.range (k + 1)).any p = ((List.range k).any p || p k) := by
  rw [List.range_succ, List.any_append]; simp
theorem near_oneI {Wn Hn : Nat} {F L X Y nl nh xl xh y fig t : Int} {fs : List Fig} :
    (List.range (allR fs.length nl nh xl xh).length).any (oneI (fiL (allR fs.length nl nh xl xh)) (niL (allR fs.length nl nh xl xh)) (fun p q => agreeR (ciL (clothsL Wn Hn F L X Y nl nh xl xh y fs) p) (ciL (clothsL Wn Hn F L X Y nl nh xl xh y fs) q)) fig t (allR fs.length nl nh xl xh).length) = nearQ (shL Wn Hn F L X Y nl nh xl xh y fs) fig t := by
  obtain ⟨l, hl⟩ : ∃ l, l = shL Wn Hn F L X Y nl nh xl xh y fs := ⟨_, rfl⟩
  have hcl : clothsL Wn Hn F L X Y nl nh xl xh y fs = l.map fun h => rowsOf h.s Wn Hn := by rw [hl]; rfl
  have hln : l.length = (allR fs.length nl nh xl xh).length := by rw [hl, shL, List.length_map]
  have hfi : ∀ p (hp : p < l.length), fiL (allR fs.length nl nh xl xh) p = l[p].f := fun p hp => by
    rw [fiL_at (by rw [← hln]; exact hp)]
    subst hl
    simp [shL, shOf]
  have hni : ∀ p (hp : p < l.length), niL (allR fs.length nl nh xl xh) p = l[p].n := fun p hp => by
    rw [niL_at (by rw [← hln]; exact hp)]
    subst hl
    simp [shL, shOf]
  have hag : ∀ p q (hp : p < l.length) (hq : q < l.length), agreeR (ciL (clothsL Wn Hn F L X Y nl nh xl xh y fs) p) (ciL (clothsL Wn Hn F L X Y nl nh xl xh y fs) q) = agreeB l[p].s l[q].s := fun p q hp hq => by
    have y1 : l[p] ∈ shL Wn Hn F L X Y nl nh xl xh y fs := by rw [← hl]; exact List.getElem_mem hp
    have y2 : l[q] ∈ shL Wn Hn F L X Y nl nh xl xh y fs := by rw [← hl]; exact List.getElem_mem hq
    have z1 := shL_size y1
    have z2 := shL_size y2
    rw [Int.toNat_natCast, Int.toNat_natCast] at z1 z2
    rw [hcl, ciL_at (by rw [List.length_map]; exact hp), ciL_at (by rw [List.length_map]; exact hq), List.getElem_map, List.getElem_map]
    exact agree_rows2 z1 z2
  rw [← hl, ← hln, Bool.eq_iff_iff, nearQ_iff, List.any_eq_true]
  constructor
  · rintro ⟨p, hp, h⟩
    have hp := List.mem_range.1 hp
    simp only [oneI, Bool.and_eq_true, beq_iff_eq, List.any_eq_true, othI, bne_iff_ne, ne_eq, List.mem_range] at h
    obtain ⟨⟨h1, h2⟩, q, hq, h3, h4⟩ := h
    rw [hfi p hp] at h1
    rw [hni p hp] at h2
    rw [hfi q hq] at h3
    rw [hag p q hp hq] at h4
    exact ⟨l[p], List.getElem_mem hp, h1, h2, l[q], List.getElem_mem hq, h3, h4⟩
  · rintro ⟨x, hx, h1, h2, y', hy, h3, h4⟩
    obtain ⟨p, hp, rfl⟩ := List.getElem_of_mem hx
    obtain ⟨q, hq, rfl⟩ := List.getElem_of_mem hy
    refine ⟨p, List.mem_range.2 hp, ?_⟩
    simp only [oneI, Bool.and_eq_true, beq_iff_eq, List.any_eq_true, othI, bne_iff_ne, ne_eq, List.mem_range]
    exact ⟨⟨by rw [hfi p hp]; exact h1, by rw [hni p hp]; exact h2⟩, q, hq, by rw [hfi q hq]; exact h3, by rw [hag p q hp hq]; exact h4⟩

set_option maxRecDepth 100000 in
set_option maxHeartbeats 25600000 in
theorem refTold_any (Wn Hn : Nat) (F L X Y nl nh xl xh y fig : Int) (A : Option Addr) (n cap : Nat) (fs : List Fig) (w : World) (hcap : n ≤ cap) (hcm : cap ≤ maxLen) (hf : ∀ f ∈ fs, f.ok w w.heap.size) (hr : Rd w w.heap.size 1 A n (fs.map Fig.val)) (hok : askB Wn Hn F L X Y nl nh xl xh y fs = true) :
    Calls Tryz.prog 72 #[.agg #[.int .i64 Wn, .int .i64 Hn, .int .i64 F, .int .i64 L, .int .i64 X, .int .i64 Y], .slice A n cap, .agg #[.int .i64 nl, .int .i64 nh, .int .i64 xl, .int .i64 xh, .int .i64 y], .int .i64 fig] w fun e w' => ∃ v, e = .returned v ∧ IsL w' v ((toldL (shL Wn Hn F L X Y nl nh xl xh y fs) fig nl nh).map (Value.int .i64)) ∧ Below w.heap.size w w' := by
  obtain ⟨i0, hi, hz0, hz1', hz2'⟩ := info_parts info3
  have hsm := allR_small hok
  have HNQ := Lib.hid (fun t => near_oneI (Wn := Wn) (Hn := Hn) (F := F) (L := L) (X := X) (Y := Y) (nl := nl) (nh := nh) (xl := xl) (xh := xh) (y := y) (fs := fs) (fig := fig) (t := t))
  have hall2 := fun wx h1 h2 => refAll_any Wn Hn F L X Y nl nh xl xh y A n cap fs wx hcap hcm h1 h2 hok
  have hcsz : ∀ c ∈ clothsL Wn Hn F L X Y nl nh xl xh y fs, c.length = Hn ∧ ∀ r ∈ c, r.size = Wn := by
    intro c hc
    obtain ⟨h, hh, rfl⟩ := List.mem_map.1 hc
    have z := shL_size hh
    rw [Int.toNat_natCast, Int.toNat_natCast] at z
    exact ⟨rowsOf_len _ _ _, fun r hr => by obtain ⟨i, hi, rfl⟩ := rowsOf_mem hr; exact cut_size z hi⟩
  have hdim : Wn ≤ 16 ∧ Hn ≤ 16 := by have ⟨⟨_, s2⟩, ⟨_, s4⟩, _⟩ := ask_dims hok; omega
  have hask := hok
  simp only [askB, Bool.and_eq_true] at hask
  obtain ⟨⟨r1, r2⟩, ⟨r3, r4⟩, ⟨r5, r6⟩, _⟩ := reachB_nums hask.2.2
  have ⟨_, _, ⟨s5, s6⟩, _⟩ := stageB_nums hask.1
  have hnl : 0 ≤ nl ∧ nl ≤ 40 ∧ 0 ≤ nh ∧ nh ≤ 40 ∧ nl ≤ nh + 1 := by omega
  obtain ⟨n1, n2, n3, n4, n5⟩ := hnl
  have hcll : (clothsL Wn Hn F L X Y nl nh xl xh y fs).length = (allR fs.length nl nh xl xh).length := by unfold clothsL shL; rw [List.length_map, List.length_map]
  obtain ⟨sl, hsl⟩ : ∃ sl, sl = shL Wn Hn F L X Y nl nh xl xh y fs := ⟨_, rfl⟩
  obtain ⟨all, hall⟩ : ∃ all, all = (allR fs.length nl nh xl xh) := ⟨_, rfl⟩
  obtain ⟨cls, hcls⟩ : ∃ cls, cls = clothsL Wn Hn F L X Y nl nh xl xh y fs := ⟨_, rfl⟩
  rw [← hsl] at HNQ ⊢
  rw [← hcls] at HNQ hcsz hcll
  rw [← hall] at HNQ hsm hcll
  simp only [← hall, ← hcls] at hall2
  have HALL := Lib.hid hall2; have HCSZ := Lib.hid hcsz; have HCLL := Lib.hid hcll
  clear hall2 hcsz hcll hall hcls hsl hok hask r1 r2 r3 r4 r5 r6 s5 s6
  go_enter Tryz.func72, Tryz.ntmps72
  go_upto_region 1 with (fail)
  have hS := blk2_0 w (.cells #[.int .i64 nl, .int .i64 nh, .int .i64 xl, .int .i64 xh, .int .i64 y] 71) 23 #[.int .i64 Wn, .int .i64 Hn, .int .i64 F, .int .i64 L, .int .i64 X, .int .i64 Y]
  have hQ := blk2_1 w (.cells #[.int .i64 Wn, .int .i64 Hn, .int .i64 F, .int .i64 L, .int .i64 X, .int .i64 Y] 23) 71 #[.int .i64 nl, .int .i64 nh, .int .i64 xl, .int .i64 xh, .int .i64 y]
  have hB := pro_2 w (.cells #[.int .i64 Wn, .int .i64 Hn, .int .i64 F, .int .i64 L, .int .i64 X, .int .i64 Y] 23) (.cells #[.int .i64 nl, .int .i64 nh, .int .i64 xl, .int .i64 xh, .int .i64 y] 71)
  generalize (w.alloc (.cells #[.int .i64 Wn, .int .i64 Hn, .int .i64 F, .int .i64 L, .int .i64 X, .int .i64 Y] 23)).alloc (.cells #[.int .i64 nl, .int .i64 nh, .int .i64 xl, .int .i64 xh, .int .i64 y] 71) = W0 at *
  have qhS := fun i => Blk.cell hS i
  have qhQ := fun i => Blk.cell hQ i
  go_upto_region 2 with (go_at_call 132; refine (HALL.out _ (fun f h => ((hf f h).below hB).more hB.size) (rdB hr hB)).mono ?_; rintro e w1 ⟨vr, uc, vs, rfl, hrow, hown, hcl, hb⟩; obtain ⟨rA, rC, rfl⟩ := own_slice hrow; obtain ⟨uA, uC, rfl⟩ := own_slice hown; replace hQ := hQ.below hb hQ.lt; replace hB := hB.trans (hb.mono hB.size); clear hS qhS qhQ hb)
  clear HALL
  have HVL := Lib.hid (show vs.length = all.length by rw [hcl.1, HCLL.out])
  have hrd := Rd.of_own hrow
  have hud : Rd w1 w1.heap.size 1 uA all.length vs := Rd.of_own hown
  have hql := hQ.lt
  clear hrow hown
  have qhQ := fun i => Blk.cell hQ i
  go_wp2_with (fail)
  clear qhQ
  go_loopg [11, 12] (nh + 1 - nl).toNat (fun g v i wr => ∃ (t : Int) (m : Nat) (v0 : Value), g = (nh + 1 - t).toNat ∧ nl ≤ t ∧ t ≤ nh + 1 ∧ i = .int .i64 t ∧ v = v0 ∧ m = (toldL sl fig nl (t - 1)).length ∧ wr.ownsRow w1.heap.size 3 1 v0 m ((toldL sl fig nl (t - 1)).map (Value.int .i64)) ∧ Blk wr (w.heap.size + 1) 71 #[.int .i64 nl, .int .i64 nh, .int .i64 xl, .int .i64 xh, .int .i64 y] ∧ Below w1.heap.size w1 wr)
  case atStart =>
    have e0 : toldL sl fig nl (nl - 1) = [] := by simp [toldL, spanL_nil (show nl - 1 < nl by omega)]
    exact ⟨nl, 0, _, rfl, by omega, by omega, rfl, rfl, by rw [e0]; rfl, by rw [e0]; exact World.ownsRow_nil _ _ _ _, hQ, Below.refl _ _⟩
  case round =>
    clear hQ
    obtain ⟨t, m, v0, hg, ht1, ht2, rfl, rfl, hm, hown, hQ, hB1⟩ := hrel
    obtain ⟨va, vc, rfl⟩ := own_slice hown
    have HG := Lib.hid hg; clear hg
    have hm2 : m ≤ 3000 := by have := toldL_len sl fig nl (t - 1); omega
    have qhQ := fun i => Blk.cell hQ i
    by_cases hlt : t ≤ nh
    · have hsn := toldL_snoc sl fig nl t ht1
      obtain ⟨ys, hys⟩ : ∃ ys, ys = (toldL sl fig nl (t - 1)).map (Value.int .i64) := ⟨_, rfl⟩
      rw [← hys] at hown
      have HSN := Lib.hid hsn; have HM := Lib.hid hm; have HYS := Lib.hid hys; clear hsn hm hys
      go_wp2_with (fail)
      clear qhQ
      go_loopg [13, 14] all.length (fun g s i wr => ∃ (i0 : Nat) (is : Bool), g = all.length - i0 ∧ i0 ≤ all.length ∧ i = .int .i64 i0 ∧ s = .bool is ∧ is = !((List.range i0).any (oneI (fiL all) (niL all) (fun p q => agreeR (ciL cls p) (ciL cls q)) fig t all.length)) ∧ wr.ownsRow w1.heap.size 3 1 (.slice va m vc) m ys ∧ Blk wr (w.heap.size + 1) 71 #[.int .i64 nl, .int .i64 nh, .int .i64 xl, .int .i64 xh, .int .i64 y] ∧ Below w1.heap.size w1 wr)
      case atStart => exact ⟨0, true, rfl, Nat.zero_le _, rfl, rfl, rfl, hown, hQ, hB1⟩
      case round =>
        clear hown hQ hB1
        obtain ⟨i, is, hg, hi1, rfl, rfl, his, hown, hQ, hB1⟩ := hrel
        have HG2 := Lib.hid hg; have HIS := Lib.hid his; clear hg his
        have qhQ := fun i => Blk.cell hQ i
        rename World => W2
        by_cases hlt2 : i < all.length
        · have hlti : (i : Int) < all.length := by omega
          obtain ⟨bR, oR, hzi, rfl, hbR, _⟩ := (rdB hrd hB1).at4 hlt2
          have hfi := fiL_at hzi
          have hni := niL_at hzi
          obtain ⟨fi, hfie⟩ : ∃ fi, fi = fiL all i := ⟨_, rfl⟩
          obtain ⟨ni, hnie⟩ : ∃ ni, ni = niL all i := ⟨_, rfl⟩
          have hrdi : ∀ wr, Below w1.heap.size w1 wr → wr.cell? ⟨bR, oR + i * 4, none⟩ = some (.int .i64 fi) ∧ wr.cell? ⟨bR, oR + i * 4 + 1, none⟩ = some (.int .i64 ni) := fun wr hb => by
            have h := (rdB hrd hb).cells4 hzi
            rw [← hfi, ← hni, ← hfie, ← hnie] at h
            exact ⟨h.1, h.2.1⟩
          have honei : oneI (fiL all) (niL all) (fun p q => agreeR (ciL cls p) (ciL cls q)) fig t all.length i = (((fi == fig) && (ni == t)) && (List.range all.length).any (othI (fiL all) (fun p q => agreeR (ciL cls p) (ciL cls q)) fig i)) := by unfold oneI; rw [← hfie, ← hnie]
          have HONE := Lib.hid honei; have HRDI := Lib.hid hrdi; have HFI := Lib.hid hfie
          clear honei hrdi hfie hnie hfi hni
          cases hcond : ((fi == fig) && (ni == t))
          · as_aux_lemma =>
              have hone0 : oneI (fiL all) (niL all) (fun p q => agreeR (ciL cls p) (ciL cls q)) fig t all.length i = false := by rw [HONE.out, hcond]; rfl
              have HO0 := Lib.hid hone0; clear hone0
              obtain ⟨ci0, ci1⟩ := HRDI.out _ hB1
              cases hc1 : (fi == fig)
              · go_wp2_with (fail)
                go_loopg [13, 15] 1 (fun g s k wr => g = 1 ∧ k = .int .i64 0 ∧ s = .bool is ∧ wr.ownsRow w1.heap.size 3 1 (.slice va m vc) m ys ∧ Blk wr (w.heap.size + 1) 71 #[.int .i64 nl, .int .i64 nh, .int .i64 xl, .int .i64 xh, .int .i64 y] ∧ Below w1.heap.size w1 wr)
                case atStart => exact ⟨rfl, rfl, rfl, hown, hQ, hB1⟩
                case round =>
                  clear hown hQ hB1 qhQ ci0 ci1
                  obtain ⟨_, rfl, rfl, hown, hQ, hB1⟩ := hrel
                  obtain ⟨ci0, ci1⟩ := HRDI.out _ hB1
                  have hpos : (0 : Int) < all.length := by omega
                  go_wp2_with (fail)
                  go_roundg (all.length - (i + 1))
                  case measure => rw [HG2.out]; omega
                  case rel => exact ⟨i + 1, is, rfl, by omega, by go_num, rfl, by rw [any_range_succ, HO0.out, Bool.or_false, HIS.out], hown, hQ, hB1⟩
              · have hc2 : (ni == t) = false := by rw [hc1] at hcond; exact hcond
                go_wp2_with (fail)
                go_loopg [13, 15] 1 (fun g s k wr => g = 1 ∧ k = .int .i64 0 ∧ s = .bool is ∧ wr.ownsRow w1.heap.size 3 1 (.slice va m vc) m ys ∧ Blk wr (w.heap.size + 1) 71 #[.int .i64 nl, .int .i64 nh, .int .i64 xl, .int .i64 xh, .int .i64 y] ∧ Below w1.heap.size w1 wr)
                case atStart => exact ⟨rfl, rfl, rfl, hown, hQ, hB1⟩
                case round =>
                  clear hown hQ hB1 qhQ ci0 ci1
                  obtain ⟨_, rfl, rfl, hown, hQ, hB1⟩ := hrel
                  obtain ⟨ci0, ci1⟩ := HRDI.out _ hB1
                  have hpos : (0 : Int) < all.length := by omega
                  go_wp2_with (fail)
                  go_roundg (all.length - (i + 1))
                  case measure => rw [HG2.out]; omega
                  case rel => exact ⟨i + 1, is, rfl, by omega, by go_num, rfl, by rw [any_range_succ, HO0.out, Bool.or_false, HIS.out], hown, hQ, hB1⟩
          · as_aux_lemma =>
              have hone1 : oneI (fiL all) (niL all) (fun p q => agreeR (ciL cls p) (ciL cls q)) fig t all.length i = (List.range all.length).any (othI (fiL all) (fun p q => agreeR (ciL cls p) (ciL cls q)) fig i) := by rw [HONE.out, hcond]; rfl
              have HO1 := Lib.hid hone1; clear hone1
              rw [Bool.and_eq_true] at hcond
              obtain ⟨hc1, hc2⟩ := hcond
              obtain ⟨bU, oU, rfl, hbU, hcu⟩ := (rdB hud hB1).2 (by omega)
              have hvi : i < vs.length := by rw [HVL.out]; exact hlt2
              obtain ⟨hci, Ai, ci, ei, _, _, hri⟩ := (hcl.below hB1).at hvi
              clear hcu hri
              have HCU := Lib.hid (fun (wr : World) (hb : Below w1.heap.size w1 wr) (k : Nat) (hk : k < vs.length) => show wr.cell? ⟨bU, oU + k, none⟩ = some vs[k] from by
                obtain ⟨b', o', e', _, h⟩ := (rdB hud hb).2 (by omega)
                cases e'
                exact h k _ (List.getElem?_eq_getElem hk))
              obtain ⟨ci0, ci1⟩ := HRDI.out _ hB1
              go_wp2_with (fail)
              go_loopg [13, 15] all.length (fun g s k wr => ∃ (k0 : Nat) (is2 : Bool), g = all.length - k0 ∧ k0 ≤ all.length ∧ k = .int .i64 k0 ∧ s = .bool is2 ∧ is2 = (!((List.range i).any (oneI (fiL all) (niL all) (fun p q => agreeR (ciL cls p) (ciL cls q)) fig t all.length)) && !((List.range k0).any (othI (fiL all) (fun p q => agreeR (ciL cls p) (ciL cls q)) fig i))) ∧ wr.ownsRow w1.heap.size 3 1 (.slice va m vc) m ys ∧ Blk wr (w.heap.size + 1) 71 #[.int .i64 nl, .int .i64 nh, .int .i64 xl, .int .i64 xh, .int .i64 y] ∧ Below w1.heap.size w1 wr)
              case atStart => exact ⟨0, is, rfl, Nat.zero_le _, rfl, rfl, by rw [HIS.out]; simp, hown, hQ, hB1⟩
              case round =>
                clear hown hQ hB1 qhQ ci0 ci1
                obtain ⟨k, is2, hg, hk1, rfl, rfl, his, hown, hQ, hB1⟩ := hrel
                have HG3 := Lib.hid hg; have HIS2 := Lib.hid his; clear hg his
                obtain ⟨ci0, ci1⟩ := HRDI.out _ hB1
                rename World => W3
                by_cases hlt3 : k < all.length
                · have hltk : (k : Int) < all.length := by omega
                  go_upto_region 13 with (fail)
                  have ck0 := ((rdB hrd hB1).cells4 (k := k) hlt3).1
                  have hfk := fiL_at (tl := all) (p := k) hlt3
                  rw [← hfk] at ck0
                  obtain ⟨fk, hfke⟩ : ∃ fk, fk = fiL all k := ⟨_, rfl⟩
                  rw [← hfke] at ck0
                  have hoth : othI (fiL all) (fun p q => agreeR (ciL cls p) (ciL cls q)) fig i k = ((fk != fig) && agreeR (ciL cls i) (ciL cls k)) := by unfold othI; rw [← hfke]
                  have hvk : k < vs.length := by rw [HVL.out]; exact hlt3
                  obtain ⟨_, Ai', ci', ei', _, _, hri⟩ := (hcl.below hB1).at hvi
                  rw [ei] at ei'
                  cases ei'
                  obtain ⟨hck, Ak, ck, ek, _, _, hrk⟩ := (hcl.below hB1).at hvk
                  have cui := HCU.out _ hB1 i hvi
                  have cuk := HCU.out _ hB1 k hvk
                  rw [ei] at cui
                  rw [ek] at cuk
                  obtain ⟨zi1, zi2⟩ := HCSZ.out _ (List.getElem_mem hci)
                  obtain ⟨zk1, zk2⟩ := HCSZ.out _ (List.getElem_mem hck)
                  rw [ciL_at hci, ciL_at hck] at hoth
                  have hagr := fun p : Blw W3.heap.size W3 => refAgree_any Ai Ak cls[i].length ci cls[k].length ck cls[i] cls[k] p.to (by omega) (by omega) (fun j h h2 => by rw [zi2 _ (List.getElem_mem h), zk2 _ (List.getElem_mem h2)]; omega) (rdB hri p.h) (rdB hrk p.h)
                  generalize agreeR cls[i] cls[k] = ag at *
                  generalize cls[k].length = lk at *
                  clear zi1 zi2 zk1 zk2 hri hrk ek hck
                  have HOTH := Lib.hid hoth; clear hoth hfk hfke
                  have hbR1 := Nat.lt_of_lt_of_le hbR (Nat.le_refl _)
                  have q2 := fun p : Blw W3.heap.size W3 => blw_cell (a := ⟨bR, oR + k * 4, none⟩) (block_lt_of_cell ck0) ck0 p
                  have q3 := fun p : Blw W3.heap.size W3 => blw_cell (a := ⟨bU, oU + i, none⟩) (block_lt_of_cell cui) cui p
                  have q4 := fun p : Blw W3.heap.size W3 => blw_cell (a := ⟨bU, oU + k, none⟩) (block_lt_of_cell cuk) cuk p
                  cases is2
                  · as_aux_lemma =>
                      refine wp_region_blw (by kernel_rfl) (by kernel_rfl) ?_
                      repeat (go_big_quiet_step (fail))
                      refine wpQuiet_nil ?_
                      rintro W4 ⟨⟨_, hb4⟩, rfl⟩
                      clear q2 q3 q4
                      replace hown := ownsRow_below' hown hb4
                      replace hQ := hQ.below hb4 hQ.lt
                      go_wp2_with (fail)
                      go_roundg (all.length - (k + 1))
                      case measure => rw [HG3.out]; omega
                      case rel => exact ⟨k + 1, false, rfl, by omega, by go_num, rfl, by rw [any_range_succ, Bool.not_or, ← Bool.and_assoc, ← HIS2.out]; rfl, hown, hQ, hB1.trans (hb4.mono hB1.size)⟩
                  cases hff : (fk == fig)
                  rotate_left
                  · have hof : othI (fiL all) (fun p q => agreeR (ciL cls p) (ciL cls q)) fig i k = false := by rw [HOTH.out]; simp at hff; simp [hff]
                    have HOF := Lib.hid hof; clear hof
                    as_aux_lemma =>
                      refine wp_region_blw (by kernel_rfl) (by kernel_rfl) ?_
                      repeat (go_big_quiet_step (fail))
                      refine wpQuiet_nil ?_
                      rintro W4 ⟨⟨_, hb4⟩, rfl⟩
                      clear q2 q3 q4
                      replace hown := ownsRow_below' hown hb4
                      replace hQ := hQ.below hb4 hQ.lt
                      go_wp2_with (fail)
                      go_roundg (all.length - (k + 1))
                      case measure => rw [HG3.out]; omega
                      case rel => exact ⟨k + 1, true, rfl, by omega, by go_num, rfl, by rw [any_range_succ, HOF.out, Bool.or_false]; exact HIS2.out, hown, hQ, hB1.trans (hb4.mono hB1.size)⟩
                  have hof : othI (fiL all) (fun p q => agreeR (ciL cls p) (ciL cls q)) fig i k = ag := by rw [HOTH.out]; simp at hff; simp [hff]
                  have HOF := Lib.hid hof; clear hof
                  cases ag
                  · as_aux_lemma =>
                      refine wp_region_blw (by kernel_rfl) (by kernel_rfl) ?_
                      repeat (go_big_quiet_step ((go_at_call 62; exact Calls.blw_of _ (hagr _))))
                      refine wpQuiet_nil ?_
                      rintro W4 ⟨⟨_, hb4⟩, rfl⟩
                      clear q2 q3 q4
                      replace hown := ownsRow_below' hown hb4
                      replace hQ := hQ.below hb4 hQ.lt
                      go_wp2_with (fail)
                      go_roundg (all.length - (k + 1))
                      case measure => rw [HG3.out]; omega
                      case rel => exact ⟨k + 1, true, rfl, by omega, by go_num, rfl, by rw [any_range_succ, HOF.out, Bool.or_false]; exact HIS2.out, hown, hQ, hB1.trans (hb4.mono hB1.size)⟩
                  · as_aux_lemma =>
                      refine wp_region_blw (by kernel_rfl) (by kernel_rfl) ?_
                      repeat (go_big_quiet_step ((go_at_call 62; exact Calls.blw_of _ (hagr _))))
                      refine wpQuiet_nil ?_
                      rintro W4 ⟨⟨_, hb4⟩, rfl⟩
                      clear q2 q3 q4
                      replace hown := ownsRow_below' hown hb4
                      replace hQ := hQ.below hb4 hQ.lt
                      go_wp2_with (fail)
                      go_roundg (all.length - (k + 1))
                      case measure => rw [HG3.out]; omega
                      case rel => exact ⟨k + 1, false, rfl, by omega, by go_num, rfl, by rw [any_range_succ, HOF.out, Bool.or_true]; simp, hown, hQ, hB1.trans (hb4.mono hB1.size)⟩
                · obtain rfl : k = all.length := by omega
                  have hge : ¬ (all.length : Int) < all.length := by omega
                  go_wp2_with (fail)
                  go_roundg (all.length - (i + 1))
                  case measure => rw [HG2.out]; omega
                  case rel => exact ⟨i + 1, is2, rfl, by omega, by go_num, rfl, by rw [any_range_succ, HO1.out, HIS2.out, Bool.not_or], hown, hQ, hB1⟩
        · obtain rfl : i = all.length := by omega
          have hge : ¬ (all.length : Int) < all.length := by omega
          have hnq := HNQ.out t
          have his2 := HIS.out
          rw [hnq] at his2
          have HI3 := Lib.hid his2; clear hnq his2 HIS
          cases is
          · as_aux_lemma =>
              have hq : nearQ sl fig t = true := by have := HI3.out; simpa using this.symm
              have HQ := Lib.hid hq; clear hq
              go_wp2_with (fail)
              go_roundg (nh + 1 - (t + 1)).toNat
              case measure => rw [HG.out]; omega
              case rel => exact ⟨t + 1, m, _, rfl, by omega, by omega, by go_num, rfl, by rw [HM.out, show t + 1 - 1 = t by omega, HSN.out, HQ.out]; simp, by rw [show t + 1 - 1 = t by omega, HSN.out, HQ.out, HYS.out] at *; simpa using hown, hQ, hB1⟩
          · as_aux_lemma =>
              have hq : nearQ sl fig t = false := by have := HI3.out; simpa using this.symm
              have HQ := Lib.hid hq; clear hq
              go_wp2_with (first
                | (at_builtin; refine wpList_append_any _ rfl _ _ 87 rfl w1.heap.size 3 i0 (.int .i64 0) 1 8 Tryz.underlying87 hi hz0 hz1' hz2' rfl (by decide) (.slice va m vc) m ys rfl (hown.alloc _) (W2.heap.size + 1) (some ⟨W2.heap.size, 0, none⟩) 1 1 [.int .i64 t] rfl (Rd.blkN (Blk.new W2 3 #[.int .i64 t]) rfl (Nat.lt_succ_self _)).reads (by simp [Value.oneCell']) (by unfold maxLen; omega) (by omega) (by have := hB1.size; simp only [World.size_alloc]; omega) (fun v' w' hown' hgrow hob => ?_))
                | go_in)
              have hQ2 := (hQ.alloc (.cells #[.int .i64 t] 3)).kept_own (hown.alloc (.cells #[.int .i64 t] 3)) (by decide) hgrow
              have hB2 := (hB1.alloc hB1.size (.cells #[.int .i64 t] 3)).grown hgrow (by have := hB1.size; simp only [World.size_alloc]; omega) (fun g hg => ((hown.alloc (.cells #[.int .i64 t] 3)).lt g hg).1)
              go_roundg (nh + 1 - (t + 1)).toNat
              case measure => rw [HG.out]; omega
              case rel => exact ⟨t + 1, m + 1, _, rfl, by omega, by omega, by go_num, rfl, by rw [HM.out, show t + 1 - 1 = t by omega, HSN.out, HQ.out]; simp, by rw [show t + 1 - 1 = t by omega, HSN.out, HQ.out]; simp only [Bool.false_eq_true, if_false, List.map_append, List.map_cons, List.map_nil]; rw [← HYS.out]; exact hown', hQ2, hB2⟩
    · obtain rfl : t = nh + 1 := by omega
      have hge : ¬ nh + 1 ≤ nh := by omega
      rw [show nh + 1 - 1 = nh by omega] at hown
      clear hm
      go_wp2_with (fail)
      go_ret
      exact ⟨_, rfl, ⟨va, m, vc, rfl, own_le0 hown, own_cap hown, Rd.of_own hown⟩, hB.trans (hB1.mono hB.size)⟩
end Go.Proofs.YtifddfchpknkbaaGreatDoor
