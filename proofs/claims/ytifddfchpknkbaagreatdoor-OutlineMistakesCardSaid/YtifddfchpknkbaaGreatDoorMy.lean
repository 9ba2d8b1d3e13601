import Derived.Test.YtifddfchpknkbaaGreatDoorAo
import Derived.Test.YtifddfchpknkbaaGreatDoorTm
set_option linter.unusedVariables false
set_option linter.unusedSimpArgs false
namespace Go.Proofs.YtifddfchpknkbaaGreatDoor
open Go.RowKit

def fiL (tl : List Tr) (p : Nat) : Int := ((tl[p]?).map (·.1)).getD 0
def ciL (cls : List (List ByteArray)) (p : Nat) : List ByteArray := (cls[p]?).getD []
theorem fiL_at {tl : List Tr} {p : Nat} (h : p < tl.length) : fiL tl p = tl[p].1 := by simp [fiL, h]
theorem ciL_at {cls : List (List ByteArray)} {p : Nat} (h : p < cls.length) : ciL cls p = cls[p] := by simp [ciL, h]
/-- The least pair of figures so far. -/
def LeastSo (fi : Nat → Int) (ag : Nat → Nat → Bool) (D : Nat → Nat → Prop) (one two : Int) : Prop :=
  (one = -1 ∧ two = -1 ∧ ∀ p q, D p q → fi p < fi q → ag p q = false) ∨
  (0 ≤ one ∧ (∃ p q, D p q ∧ fi p = one ∧ fi q = two ∧ one < two ∧ ag p q = true) ∧ ∀ p q, D p q → fi p < fi q → ag p q = true → one < fi p ∨ (one = fi p ∧ two ≤ fi q))
def Dn (N i k : Nat) (p q : Nat) : Prop := q < N ∧ (p < i ∨ (p = i ∧ q < k))
section
variable {fi : Nat → Int} {ag : Nat → Nat → Bool} {N i k : Nat} {one two : Int}
theorem Dn_succ {p q : Nat} (h : Dn N i (k + 1) p q) : Dn N i k p q ∨ (p = i ∧ q = k) := by
  obtain ⟨h1, h2 | ⟨h2, h3⟩⟩ := h
  · exact .inl ⟨h1, .inl h2⟩
  · rcases Nat.lt_or_ge q k with h4 | h4
    · exact .inl ⟨h1, .inr ⟨h2, h4⟩⟩
    · exact .inr ⟨h2, by omega⟩
theorem Dn_of {p q : Nat} (h : Dn N i k p q) : Dn N i (k + 1) p q := by
  obtain ⟨h1, h2 | ⟨h2, h3⟩⟩ := h
  · exact ⟨h1, .inl h2⟩
  · exact ⟨h1, .inr ⟨h2, by omega⟩⟩
theorem Dn_row {p q : Nat} : Dn N i N p q ↔ Dn N (i + 1) 0 p q := by
  unfold Dn
  constructor
  · rintro ⟨h1, h2 | ⟨h2, h3⟩⟩ <;> exact ⟨h1, .inl (by omega)⟩
  · rintro ⟨h1, h2 | ⟨h2, h3⟩⟩
    · rcases Nat.lt_or_ge p i with h4 | h4
      · exact ⟨h1, .inl h4⟩
      · exact ⟨h1, .inr ⟨by omega, h1⟩⟩
    · omega
theorem LeastSo.start : LeastSo fi ag (Dn N 0 0) (-1) (-1) := .inl ⟨rfl, rfl, fun p q h => by obtain ⟨_, h | h⟩ := h <;> omega⟩
theorem LeastSo.row (h : LeastSo fi ag (Dn N i N) one two) : LeastSo fi ag (Dn N (i + 1) 0) one two := by
  rcases h with ⟨h1, h2, h3⟩ | ⟨h1, ⟨p, q, h2, h3⟩, h4⟩
  · exact .inl ⟨h1, h2, fun p q h => h3 p q (Dn_row.2 h)⟩
  · exact .inr ⟨h1, ⟨p, q, Dn_row.1 h2, h3⟩, fun p q h => h4 p q (Dn_row.2 h)⟩
theorem LeastSo.keep (h : LeastSo fi ag (Dn N i k) one two) (hs : ¬ fi i < fi k ∨ ag i k = false ∨ (0 ≤ one ∧ (one < fi i ∨ (one = fi i ∧ two ≤ fi k)))) : LeastSo fi ag (Dn N i (k + 1)) one two := by
  rcases h with ⟨h1, h2, h3⟩ | ⟨h1, ⟨p, q, h2, h3⟩, h4⟩
  · refine .inl ⟨h1, h2, fun p q h hl => ?_⟩
    rcases Dn_succ h with h | ⟨rfl, rfl⟩
    · exact h3 p q h hl
    · rcases hs with hs | hs | hs
      · exact absurd hl hs
      · exact hs
      · omega
  · refine .inr ⟨h1, ⟨p, q, Dn_of h2, h3⟩, fun p q h hl ha => ?_⟩
    rcases Dn_succ h with h | ⟨rfl, rfl⟩
    · exact h4 p q h hl ha
    · rcases hs with hs | hs | hs
      · exact absurd hl hs
      · rw [hs] at ha; cases ha
      · exact hs.2
theorem LeastSo.take (h : LeastSo fi ag (Dn N i k) one two) (hk : k < N) (hl : fi i < fi k) (ha : ag i k = true) (h0 : 0 ≤ fi i) (hb : one < 0 ∨ fi i < one ∨ (fi i = one ∧ fi k < two)) : LeastSo fi ag (Dn N i (k + 1)) (fi i) (fi k) := by
  refine .inr ⟨h0, ⟨i, k, ⟨hk, .inr ⟨rfl, by omega⟩⟩, rfl, rfl, hl, ha⟩, fun p q hd hl2 ha2 => ?_⟩
  rcases Dn_succ hd with hd | ⟨rfl, rfl⟩
  · rcases h with ⟨h1, h2, h3⟩ | ⟨h1, _, h4⟩
    · rw [h3 p q hd hl2] at ha2; cases ha2
    · rcases h4 p q hd hl2 ha2 with h5 | h5 <;> omega
  · exact .inr ⟨rfl, by omega⟩
end

/-- What the specification returns of two figures. -/
def misW (r : Option (Int × Int)) : Array Value := match r with | some (a, b) => #[.int .i64 a, .int .i64 b, .bool true] | none => #[.int .i64 0, .int .i64 0, .bool false]
theorem least_misF {Wn Hn : Nat} {F L X Y nl nh xl xh y : Int} {fs : List Fig} {one two : Int}
    (h : LeastSo (fiL (allR fs.length nl nh xl xh)) (fun p q => agreeR (ciL (clothsL Wn Hn F L X Y nl nh xl xh y fs) p) (ciL (clothsL Wn Hn F L X Y nl nh xl xh y fs) q)) (Dn (allR fs.length nl nh xl xh).length (allR fs.length nl nh xl xh).length 0) one two) :
    (one = -1 ∧ misF (shL Wn Hn F L X Y nl nh xl xh y fs) fs.length = none) ∨ (0 ≤ one ∧ misF (shL Wn Hn F L X Y nl nh xl xh y fs) fs.length = some (one, two)) := by
  obtain ⟨l, hl⟩ : ∃ l, l = shL Wn Hn F L X Y nl nh xl xh y fs := ⟨_, rfl⟩
  have hcl : clothsL Wn Hn F L X Y nl nh xl xh y fs = l.map fun h => rowsOf h.s Wn Hn := by rw [hl]; rfl
  have hln : l.length = (allR fs.length nl nh xl xh).length := by rw [hl, shL, List.length_map]
  have hfi : ∀ p (hp : p < l.length), fiL (allR fs.length nl nh xl xh) p = l[p].f := fun p hp => by
    rw [fiL_at (by rw [← hln]; exact hp)]
    subst hl
    simp [shL, shOf]
  have hag : ∀ p q (hp : p < l.length) (hq : q < l.length), agreeR (ciL (clothsL Wn Hn F L X Y nl nh xl xh y fs) p) (ciL (clothsL Wn Hn F L X Y nl nh xl xh y fs) q) = agreeB l[p].s l[q].s := fun p q hp hq => by
    have y1 : l[p] ∈ shL Wn Hn F L X Y nl nh xl xh y fs := by rw [← hl]; exact List.getElem_mem hp
    have y2 : l[q] ∈ shL Wn Hn F L X Y nl nh xl xh y fs := by rw [← hl]; exact List.getElem_mem hq
    have z1 := shL_size y1
    have z2 := shL_size y2
    rw [Int.toNat_natCast, Int.toNat_natCast] at z1 z2
    rw [hcl, ciL_at (by rw [List.length_map]; exact hp), ciL_at (by rw [List.length_map]; exact hq), List.getElem_map, List.getElem_map]
    exact agree_rows2 z1 z2
  have hf : ∀ h ∈ l, 0 ≤ h.f ∧ h.f < fs.length := fun h hh => shL_f (hl ▸ hh)
  rw [← hl]
  rw [← hln] at h
  clear hcl hln
  rcases h with ⟨h1, h2, h3⟩ | ⟨h1, ⟨p, q, ⟨d1, d2⟩, h2, h3, h4, h5⟩, h6⟩
  · refine .inl ⟨h1, ?_⟩
    rcases misF_spec l fs.length with ⟨e, _⟩ | ⟨a, b, e1, e2, e3, ⟨x, hx, y', hy, e4, e5, e6⟩, _⟩
    · exact e
    · exfalso
      obtain ⟨p, hp, rfl⟩ := List.getElem_of_mem hx
      obtain ⟨q, hq, rfl⟩ := List.getElem_of_mem hy
      have := h3 p q ⟨hq, .inl hp⟩ (by rw [hfi p hp, hfi q hq]; omega)
      dsimp only at this
      rw [hag p q hp hq, e6] at this; cases this
  · refine .inr ⟨h1, ?_⟩
    have hp : p < l.length := by omega
    rw [hfi p hp] at h2
    rw [hfi q d1] at h3
    dsimp only at h5
    rw [hag p q hp d1] at h5
    have b1 := hf _ (List.getElem_mem hp)
    have b2 := hf _ (List.getElem_mem d1)
    have hpair : Pair l (one.toNat : Nat) (two.toNat : Nat) := ⟨l[p], List.getElem_mem hp, l[q], List.getElem_mem d1, by omega, by omega, h5⟩
    rcases misF_spec l fs.length with ⟨_, e⟩ | ⟨a, b, e1, e2, e3, ⟨x, hx, y', hy, e4, e5, e6⟩, e7⟩
    · exact absurd hpair (e one.toNat two.toNat (by omega) (by omega))
    · rw [e3]
      have k1 := e7 one.toNat two.toNat (by omega) (by omega) hpair
      obtain ⟨p', hp', rfl⟩ := List.getElem_of_mem hx
      obtain ⟨q', hq', rfl⟩ := List.getElem_of_mem hy
      have k2 := h6 p' q' ⟨hq', .inl hp'⟩ (by rw [hfi p' hp', hfi q' hq']; omega) (by dsimp only; rw [hag p' q' hp' hq']; exact e6)
      rw [hfi p' hp', hfi q' hq', e4, e5] at k2
      have o1 : (a : Int) = one := by omega
      have o2 : (b : Int) = two := by omega
      rw [o1, o2]

set_option maxRecDepth 100000 in
set_option maxHeartbeats 25600000 in
theorem refMistaken_any (Wn Hn : Nat) (F L X Y nl nh xl xh y : Int) (A : Option Addr) (n cap : Nat) (fs : List Fig) (w : World) (hcap : n ≤ cap) (hcm : cap ≤ maxLen) (hf : ∀ f ∈ fs, f.ok w w.heap.size) (hr : Rd w w.heap.size 1 A n (fs.map Fig.val)) (hok : askB Wn Hn F L X Y nl nh xl xh y fs = true) :
    Calls Tryz.prog 70 #[.agg #[.int .i64 Wn, .int .i64 Hn, .int .i64 F, .int .i64 L, .int .i64 X, .int .i64 Y], .slice A n cap, .agg #[.int .i64 nl, .int .i64 nh, .int .i64 xl, .int .i64 xh, .int .i64 y]] w fun e w' => e = .returned (.tuple (misW (misF (shL Wn Hn F L X Y nl nh xl xh y fs) fs.length))) ∧ Below w.heap.size w w' := by
  have hsm := allR_small hok
  have HFIN := Lib.hid (fun one two => least_misF (Wn := Wn) (Hn := Hn) (F := F) (L := L) (X := X) (Y := Y) (nl := nl) (nh := nh) (xl := xl) (xh := xh) (y := y) (fs := fs) (one := one) (two := two))
  have hall2 := fun wx h1 h2 => refAll_any Wn Hn F L X Y nl nh xl xh y A n cap fs wx hcap hcm h1 h2 hok
  have hcsz : ∀ c ∈ clothsL Wn Hn F L X Y nl nh xl xh y fs, c.length = Hn ∧ ∀ r ∈ c, r.size = Wn := by
    intro c hc
    obtain ⟨h, hh, rfl⟩ := List.mem_map.1 hc
    have z := shL_size hh
    rw [Int.toNat_natCast, Int.toNat_natCast] at z
    exact ⟨rowsOf_len _ _ _, fun r hr => by obtain ⟨i, hi, rfl⟩ := rowsOf_mem hr; exact cut_size z hi⟩
  have hdim : Wn ≤ 16 ∧ Hn ≤ 16 := by have ⟨⟨_, s2⟩, ⟨_, s4⟩, _⟩ := ask_dims hok; omega
  have hf0 : ∀ t ∈ (allR fs.length nl nh xl xh), 0 ≤ t.1 := fun t ht => (mem_fR.1 ht).1.1
  have hcll : (clothsL Wn Hn F L X Y nl nh xl xh y fs).length = (allR fs.length nl nh xl xh).length := by unfold clothsL shL; rw [List.length_map, List.length_map]
  obtain ⟨res, hres⟩ : ∃ res, res = misF (shL Wn Hn F L X Y nl nh xl xh y fs) fs.length := ⟨_, rfl⟩
  obtain ⟨all, hall⟩ : ∃ all, all = (allR fs.length nl nh xl xh) := ⟨_, rfl⟩
  obtain ⟨cls, hcls⟩ : ∃ cls, cls = clothsL Wn Hn F L X Y nl nh xl xh y fs := ⟨_, rfl⟩
  rw [← hres] at HFIN ⊢
  rw [← hcls] at HFIN hcsz hcll
  rw [← hall] at HFIN hsm hf0 hcll
  simp only [← hall, ← hcls] at hall2
  have HALL := Lib.hid hall2; have HCSZ := Lib.hid hcsz; have HF0 := Lib.hid hf0; have HCLL := Lib.hid hcll
  clear hall2 hcsz hf0 hcll hall hcls hres
  go_enter Tryz.func70, Tryz.ntmps70
  go_upto_region 1 with (fail)
  have hS := blk2_0 w (.cells #[.int .i64 nl, .int .i64 nh, .int .i64 xl, .int .i64 xh, .int .i64 y] 71) 23 #[.int .i64 Wn, .int .i64 Hn, .int .i64 F, .int .i64 L, .int .i64 X, .int .i64 Y]
  have hQ := blk2_1 w (.cells #[.int .i64 Wn, .int .i64 Hn, .int .i64 F, .int .i64 L, .int .i64 X, .int .i64 Y] 23) 71 #[.int .i64 nl, .int .i64 nh, .int .i64 xl, .int .i64 xh, .int .i64 y]
  have hB := pro_2 w (.cells #[.int .i64 Wn, .int .i64 Hn, .int .i64 F, .int .i64 L, .int .i64 X, .int .i64 Y] 23) (.cells #[.int .i64 nl, .int .i64 nh, .int .i64 xl, .int .i64 xh, .int .i64 y] 71)
  generalize (w.alloc (.cells #[.int .i64 Wn, .int .i64 Hn, .int .i64 F, .int .i64 L, .int .i64 X, .int .i64 Y] 23)).alloc (.cells #[.int .i64 nl, .int .i64 nh, .int .i64 xl, .int .i64 xh, .int .i64 y] 71) = W0 at *
  have qhS := fun i => Blk.cell hS i
  have qhQ := fun i => Blk.cell hQ i
  go_upto_region 2 with (go_at_call 132; refine (HALL.out _ (fun f h => ((hf f h).below hB).more hB.size) (rdB hr hB)).mono ?_; rintro e w1 ⟨vr, uc, vs, rfl, hrow, hown, hcl, hb⟩; obtain ⟨rA, rC, rfl⟩ := own_slice hrow; obtain ⟨uA, uC, rfl⟩ := own_slice hown; replace hB := hB.trans (hb.mono hB.size); clear hS hQ qhS qhQ hb)
  clear HALL
  have HVL := Lib.hid (show vs.length = all.length by rw [hcl.1, HCLL.out])
  have hrd := Rd.of_own hrow
  have hud : Rd w1 w1.heap.size 1 uA all.length vs := Rd.of_own hown
  clear hrow hown
  go_wp2_with (fail)
  go_loopg [11, 12, 13] all.length (fun g o t i wr => ∃ (k : Nat) (one two : Int), g = all.length - k ∧ k ≤ all.length ∧ i = .int .i64 k ∧ o = .int .i64 one ∧ t = .int .i64 two ∧ LeastSo (fiL all) (fun p q => agreeR (ciL cls p) (ciL cls q)) (Dn all.length k 0) one two ∧ Below w1.heap.size w1 wr)
  case atStart => exact ⟨0, -1, -1, rfl, Nat.zero_le _, rfl, rfl, rfl, LeastSo.start, Below.refl _ _⟩
  case round =>
    obtain ⟨i, one, two, hg, hi, rfl, rfl, rfl, hls, hB1⟩ := hrel
    have HG := Lib.hid hg; have HLS := Lib.hid hls; clear hg hls
    by_cases hlt : i < all.length
    · have hlti : (i : Int) < all.length := by omega
      go_wp2_with (fail)
      go_loopg [11, 12, 14] all.length (fun g o t j wr => ∃ (k : Nat) (one two : Int), g = all.length - k ∧ k ≤ all.length ∧ j = .int .i64 k ∧ o = .int .i64 one ∧ t = .int .i64 two ∧ LeastSo (fiL all) (fun p q => agreeR (ciL cls p) (ciL cls q)) (Dn all.length i k) one two ∧ Below w1.heap.size w1 wr)
      case atStart => exact ⟨0, one, two, rfl, Nat.zero_le _, rfl, rfl, rfl, HLS.out, hB1⟩
      case round =>
        clear hB1 HLS
        obtain ⟨k, one, two, hg, hk, rfl, rfl, rfl, hls, hB1⟩ := hrel
        have HG2 := Lib.hid hg; have HLS := Lib.hid hls; clear hg hls
        rename World => W2
        by_cases hlt2 : k < all.length
        · have hlt2i : (k : Int) < all.length := by omega
          obtain ⟨bR, oR, hzi, rfl, hbR, ci0, _⟩ := (rdB hrd hB1).at4 hlt
          have ck0 := ((rdB hrd hB1).cells4 (k := k) hlt2).1
          have hfi := fiL_at hzi
          have hfk := fiL_at (tl := all) (p := k) hlt2
          have hfi0 := HF0.out _ (List.getElem_mem hzi)
          rw [← hfi] at ci0 hfi0
          rw [← hfk] at ck0
          obtain ⟨bU, oU, rfl, hbU, hcu⟩ := (rdB hud hB1).2 (by omega)
          have hvi : i < vs.length := by rw [HVL.out]; exact hlt
          have hvk : k < vs.length := by rw [HVL.out]; exact hlt2
          obtain ⟨hci, Ai, ci, ei, _, _, hri⟩ := (hcl.below hB1).at hvi
          obtain ⟨hck, Ak, ck, ek, _, _, hrk⟩ := (hcl.below hB1).at hvk
          have cui : W2.cell? ⟨bU, oU + i, none⟩ = some (.slice Ai cls[i].length ci) := hcu i _ (by rw [List.getElem?_eq_getElem hvi, ei])
          have cuk : W2.cell? ⟨bU, oU + k, none⟩ = some (.slice Ak cls[k].length ck) := hcu k _ (by rw [List.getElem?_eq_getElem hvk, ek])
          obtain ⟨zi1, zi2⟩ := HCSZ.out _ (List.getElem_mem hci)
          obtain ⟨zk1, zk2⟩ := HCSZ.out _ (List.getElem_mem hck)
          have hagr := fun p : Blw W2.heap.size W2 => refAgree_any Ai Ak cls[i].length ci cls[k].length ck cls[i] cls[k] p.to (by omega) (by omega) (fun j h h2 => by rw [zi2 _ (List.getElem_mem h), zk2 _ (List.getElem_mem h2)]; omega) (rdB hri p.h) (rdB hrk p.h)
          have hai : (fun p q => agreeR (ciL cls p) (ciL cls q)) i k = agreeR cls[i] cls[k] := by dsimp only; rw [ciL_at hci, ciL_at hck]
          generalize agreeR cls[i] cls[k] = ag at *
          generalize cls[i].length = li at *
          generalize cls[k].length = lk at *
          obtain ⟨fi, hfie⟩ : ∃ fi, fi = fiL all i := ⟨_, rfl⟩
          obtain ⟨fk, hfke⟩ : ∃ fk, fk = fiL all k := ⟨_, rfl⟩
          rw [← hfie] at ci0 hfi0
          rw [← hfke] at ck0
          have HFI := Lib.hid hfie; have HFK := Lib.hid hfke; have HAI := Lib.hid hai; have HAGR := Lib.hid hagr
          clear hfie hfke hai hagr hfi hfk hcu ei ek zi1 zi2 zk1 zk2 hri hrk
          have q1 := fun p : Blw W2.heap.size W2 => blw_cell (a := ⟨bR, oR + i * 4, none⟩) hbR ci0 p
          have q2 := fun p : Blw W2.heap.size W2 => blw_cell (a := ⟨bR, oR + k * 4, none⟩) hbR ck0 p
          go_upto_region 9 with (fail)
          refine wp_region_blw (by kernel_rfl) (by kernel_rfl) ?_
          repeat (go_big_quiet_step (fail))
          refine wpQuiet_nil ?_
          rintro W3 ⟨⟨_, hb3⟩, rfl⟩
          clear q1 q2
          have q3 := fun p : Blw W3.heap.size W3 => blw_cell (a := ⟨bU, oU + i, none⟩) (Nat.lt_of_lt_of_le hbU hb3.size) ((hb3.cell (p := ⟨bU, oU + i, none⟩) hbU).trans cui) p
          have q4 := fun p : Blw W3.heap.size W3 => blw_cell (a := ⟨bU, oU + k, none⟩) (Nat.lt_of_lt_of_le hbU hb3.size) ((hb3.cell (p := ⟨bU, oU + k, none⟩) hbU).trans cuk) p
          have q5 := fun p : Blw W3.heap.size W3 => HAGR.out ⟨p.to, hb3.trans (p.h.mono hb3.size)⟩
          clear HAGR
          by_cases hab : fi < fk
          rotate_left
          · have hls2 := HLS.out.keep (.inl (by rw [← HFI.out, ← HFK.out]; exact hab))
            have HL2 := Lib.hid hls2; clear hls2
            as_aux_lemma =>
              go_upto_region 10 with (fail)
              refine wp_region_blw (by kernel_rfl) (by kernel_rfl) ?_
              repeat (go_big_quiet_step (fail))
              refine wpQuiet_nil ?_
              rintro W4 ⟨⟨_, hb4⟩, rfl⟩
              clear q3 q4
              go_wp2_with (fail)
              go_roundg (all.length - (k + 1))
              case measure => rw [HG2.out]; omega
              case rel => exact ⟨k + 1, one, two, rfl, by omega, by go_num, rfl, rfl, HL2.out, hB1.trans ((hb3.trans (hb4.mono hb3.size)).mono hB1.size)⟩
          by_cases ho : one < 0
          · have hx : 0 < 1 := by decide
            cases ag
            · have hls2 := HLS.out.keep (.inr (.inl HAI.out))
              have HL2 := Lib.hid hls2; clear hls2
              as_aux_lemma =>
                go_upto_region 10 with (fail)
                refine wp_region_blw (by kernel_rfl) (by kernel_rfl) ?_
                repeat (go_big_quiet_step ((go_at_call 62; exact Calls.blw_of _ (q5 _))))
                refine wpQuiet_nil ?_
                rintro W4 ⟨⟨_, hb4⟩, rfl⟩
                clear q3 q4
                go_wp2_with (fail)
                go_roundg (all.length - (k + 1))
                case measure => rw [HG2.out]; omega
                case rel => exact ⟨k + 1, one, two, rfl, by omega, by go_num, rfl, rfl, HL2.out, hB1.trans ((hb3.trans (hb4.mono hb3.size)).mono hB1.size)⟩
            · have hls2 := HLS.out.take hlt2 (by rw [← HFI.out, ← HFK.out]; exact hab) HAI.out (by rw [← HFI.out]; exact hfi0) (by rw [← HFI.out, ← HFK.out]; exact .inl ho)
              rw [← HFI.out, ← HFK.out] at hls2
              have HL2 := Lib.hid hls2; clear hls2
              as_aux_lemma =>
                go_upto_region 10 with (fail)
                refine wp_region_blw (by kernel_rfl) (by kernel_rfl) ?_
                repeat (go_big_quiet_step ((go_at_call 62; exact Calls.blw_of _ (q5 _))))
                refine wpQuiet_nil ?_
                rintro W4 ⟨⟨_, hb4⟩, rfl⟩
                clear q3 q4
                go_wp2_with (fail)
                go_roundg (all.length - (k + 1))
                case measure => rw [HG2.out]; omega
                case rel => exact ⟨k + 1, fi, fk, rfl, by omega, by go_num, rfl, rfl, HL2.out, hB1.trans ((hb3.trans (hb4.mono hb3.size)).mono hB1.size)⟩
          by_cases ho1 : fi < one
          · have hx : 0 < 1 := by decide
            cases ag
            · have hls2 := HLS.out.keep (.inr (.inl HAI.out))
              have HL2 := Lib.hid hls2; clear hls2
              as_aux_lemma =>
                go_upto_region 10 with (fail)
                refine wp_region_blw (by kernel_rfl) (by kernel_rfl) ?_
                repeat (go_big_quiet_step ((go_at_call 62; exact Calls.blw_of _ (q5 _))))
                refine wpQuiet_nil ?_
                rintro W4 ⟨⟨_, hb4⟩, rfl⟩
                clear q3 q4
                go_wp2_with (fail)
                go_roundg (all.length - (k + 1))
                case measure => rw [HG2.out]; omega
                case rel => exact ⟨k + 1, one, two, rfl, by omega, by go_num, rfl, rfl, HL2.out, hB1.trans ((hb3.trans (hb4.mono hb3.size)).mono hB1.size)⟩
            · have hls2 := HLS.out.take hlt2 (by rw [← HFI.out, ← HFK.out]; exact hab) HAI.out (by rw [← HFI.out]; exact hfi0) (by rw [← HFI.out, ← HFK.out]; exact .inr (.inl ho1))
              rw [← HFI.out, ← HFK.out] at hls2
              have HL2 := Lib.hid hls2; clear hls2
              as_aux_lemma =>
                go_upto_region 10 with (fail)
                refine wp_region_blw (by kernel_rfl) (by kernel_rfl) ?_
                repeat (go_big_quiet_step ((go_at_call 62; exact Calls.blw_of _ (q5 _))))
                refine wpQuiet_nil ?_
                rintro W4 ⟨⟨_, hb4⟩, rfl⟩
                clear q3 q4
                go_wp2_with (fail)
                go_roundg (all.length - (k + 1))
                case measure => rw [HG2.out]; omega
                case rel => exact ⟨k + 1, fi, fk, rfl, by omega, by go_num, rfl, rfl, HL2.out, hB1.trans ((hb3.trans (hb4.mono hb3.size)).mono hB1.size)⟩
          by_cases ho2 : fi = one
          rotate_left
          · have heq : (fi == one) = false := by simp [ho2]
            have hls2 := HLS.out.keep (.inr (.inr ⟨by omega, .inl (by rw [← HFI.out]; omega)⟩))
            have HL2 := Lib.hid hls2; clear hls2
            as_aux_lemma =>
              go_upto_region 10 with (fail)
              refine wp_region_blw (by kernel_rfl) (by kernel_rfl) ?_
              repeat (go_big_quiet_step (fail))
              refine wpQuiet_nil ?_
              rintro W4 ⟨⟨_, hb4⟩, rfl⟩
              clear q3 q4
              go_wp2_with (fail)
              go_roundg (all.length - (k + 1))
              case measure => rw [HG2.out]; omega
              case rel => exact ⟨k + 1, one, two, rfl, by omega, by go_num, rfl, rfl, HL2.out, hB1.trans ((hb3.trans (hb4.mono hb3.size)).mono hB1.size)⟩
          have heq : (fi == one) = true := by simp [ho2]
          by_cases ho3 : fk < two
          rotate_left
          · have hls2 := HLS.out.keep (.inr (.inr ⟨by omega, .inr (by rw [← HFI.out, ← HFK.out]; omega)⟩))
            have HL2 := Lib.hid hls2; clear hls2
            clear ho2
            as_aux_lemma =>
              go_upto_region 10 with (fail)
              refine wp_region_blw (by kernel_rfl) (by kernel_rfl) ?_
              repeat (go_big_quiet_step (fail))
              refine wpQuiet_nil ?_
              rintro W4 ⟨⟨_, hb4⟩, rfl⟩
              clear q3 q4
              go_wp2_with (fail)
              go_roundg (all.length - (k + 1))
              case measure => rw [HG2.out]; omega
              case rel => exact ⟨k + 1, one, two, rfl, by omega, by go_num, rfl, rfl, HL2.out, hB1.trans ((hb3.trans (hb4.mono hb3.size)).mono hB1.size)⟩
          have HO2 := Lib.hid ho2; clear ho2
          cases ag
          · have hls2 := HLS.out.keep (.inr (.inl HAI.out))
            have HL2 := Lib.hid hls2; clear hls2
            as_aux_lemma =>
              go_upto_region 10 with (fail)
              refine wp_region_blw (by kernel_rfl) (by kernel_rfl) ?_
              repeat (go_big_quiet_step ((go_at_call 62; exact Calls.blw_of _ (q5 _))))
              refine wpQuiet_nil ?_
              rintro W4 ⟨⟨_, hb4⟩, rfl⟩
              clear q3 q4
              go_wp2_with (fail)
              go_roundg (all.length - (k + 1))
              case measure => rw [HG2.out]; omega
              case rel => exact ⟨k + 1, one, two, rfl, by omega, by go_num, rfl, rfl, HL2.out, hB1.trans ((hb3.trans (hb4.mono hb3.size)).mono hB1.size)⟩
          · have hls2 := HLS.out.take hlt2 (by rw [← HFI.out, ← HFK.out]; exact hab) HAI.out (by rw [← HFI.out]; exact hfi0) (by rw [← HFI.out, ← HFK.out]; exact .inr (.inr ⟨HO2.out, ho3⟩))
            rw [← HFI.out, ← HFK.out] at hls2
            have HL2 := Lib.hid hls2; clear hls2
            as_aux_lemma =>
              go_upto_region 10 with (fail)
              refine wp_region_blw (by kernel_rfl) (by kernel_rfl) ?_
              repeat (go_big_quiet_step ((go_at_call 62; exact Calls.blw_of _ (q5 _))))
              refine wpQuiet_nil ?_
              rintro W4 ⟨⟨_, hb4⟩, rfl⟩
              clear q3 q4
              go_wp2_with (fail)
              go_roundg (all.length - (k + 1))
              case measure => rw [HG2.out]; omega
              case rel => exact ⟨k + 1, fi, fk, rfl, by omega, by go_num, rfl, rfl, HL2.out, hB1.trans ((hb3.trans (hb4.mono hb3.size)).mono hB1.size)⟩
        · obtain rfl : k = all.length := by omega
          have HL2 := Lib.hid HLS.out.row; clear HLS
          have hge : ¬ (all.length : Int) < all.length := by omega
          go_wp2_with (fail)
          go_roundg (all.length - (i + 1))
          case measure => rw [HG.out]; omega
          case rel => exact ⟨i + 1, one, two, rfl, by omega, by go_num, rfl, rfl, HL2.out, hB1⟩
    · obtain rfl : i = all.length := by omega
      have hge : ¬ (all.length : Int) < all.length := by omega
      rcases HFIN.out one two HLS.out with ⟨h1, h2⟩ | ⟨h1, h2⟩
      · have ho : one < 0 := by omega
        have HR := Lib.hid h2; clear h2 HFIN h1
        go_wp2_with (fail)
        go_ret3
        exact ⟨by rw [HR.out]; rfl, hB.trans (hB1.mono hB.size)⟩
      · have ho : ¬ one < 0 := by omega
        have HR := Lib.hid h2; clear h2 HFIN h1
        go_wp2_with (fail)
        go_ret3
        exact ⟨by rw [HR.out]; rfl, hB.trans (hB1.mono hB.size)⟩
end Go.Proofs.YtifddfchpknkbaaGreatDoor
