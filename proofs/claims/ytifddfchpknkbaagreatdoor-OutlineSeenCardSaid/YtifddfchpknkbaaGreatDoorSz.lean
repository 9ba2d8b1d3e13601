import Derived.Test.YtifddfchpknkbaaGreatDoorSy
set_option linter.unusedVariables false
set_option linter.unusedSimpArgs false
namespace Go.Proofs.YtifddfchpknkbaaGreatDoor
open Go.RowKit


theorem clB_self (a : Int) : clB a a = false := by
  unfold clB
  by_cases h : a = 35
  · subst h; decide
  · simp [h]
theorem shS_tri (W H F L X Y N PX PY : Int) (rows : List ByteArray) : ∀ z ∈ ltr (shS W H F L X Y N PX PY rows), tri z := by
  intro z hz
  rw [ltr_shS] at hz
  unfold shadL at hz
  obtain ⟨c, _, rfl⟩ := List.mem_map.1 hz
  exact cellFP_tri F L X Y ((⟨none, 0, 0, rows⟩ : Fig), (⟨N, PX, PY⟩ : Pl)) (c % W.toNat) (c / W.toNat)
theorem chr_mem {s : ByteArray} {j : Nat} (h : j < s.size) : chr s j ∈ ltr s := by
  unfold chr
  rw [List.getElem?_eq_getElem (by rw [ltr_len]; exact h)]
  exact List.getElem_mem _
theorem ltr_chr (s : ByteArray) : ltr s = (List.range s.size).map (chr s) := by
  refine List.ext_getElem? fun j => ?_
  by_cases h : j < s.size
  · rw [List.getElem?_map, List.getElem?_range h]
    have hj : j < (ltr s).length := by rw [ltr_len]; exact h
    rw [List.getElem?_eq_getElem hj]
    unfold chr
    rw [Option.map_some, List.getElem?_eq_getElem hj]; rfl
  · rw [List.getElem?_eq_none (by rw [ltr_len]; omega), List.getElem?_eq_none (by simp; omega)]
def sgL (s : ByteArray) (cs : List Int) (j : Nat) : Int := if 0 < (cs[j]?).getD 0 then chr s j else 63
theorem sgG_L {s : ByteArray} {cs : List Int} {W j : Nat} : sgG s cs W (j % W) (j / W) = sgL s cs j := by
  unfold sgG sgL
  have e : j / W * W + j % W = j := by rw [Nat.mul_comm]; exact Nat.div_add_mod j W
  rw [e]
theorem sg_ltr {s : ByteArray} {cs : List Int} {W H : Nat} (hs : s.size = W * H) (ht : ∀ z ∈ ltr s, tri z) : ltr (clothS W H (sgG s cs W)) = (List.range (W * H)).map (sgL s cs) := by
  unfold clothS
  rw [ltr_nums]
  · exact List.map_congr_left fun j _ => sgG_L
  · intro x hx
    obtain ⟨j, hj, rfl⟩ := List.mem_map.1 hx
    rw [sgG_L]
    unfold sgL
    split
    · exact tri_byte (ht _ (chr_mem (by rw [hs]; exact List.mem_range.1 hj)))
    · omega
theorem sg_sight {s : ByteArray} {cs : List Int} {W H : Nat} (hs : s.size = W * H) (ht : ∀ z ∈ ltr s, tri z) : sightB W H (rowsOf (clothS W H (sgG s cs W)) W H) = true := by
  have hz := clothS_size W H (sgG s cs W)
  simp only [sightB, Bool.and_eq_true, decide_eq_true_eq, List.all_eq_true]
  refine ⟨by rw [rowsOf_len], fun r hr => ?_⟩
  obtain ⟨i, hi, rfl⟩ := rowsOf_mem hr
  simp only [sightRow, Bool.and_eq_true, decide_eq_true_eq]
  refine ⟨by rw [cut_size hz hi], ?_⟩
  unfold onlyB
  rw [List.all_eq_true]
  intro z hzz
  have h1 := cut_mem hzz
  rw [sg_ltr hs ht] at h1
  obtain ⟨j, hj, rfl⟩ := List.mem_map.1 h1
  unfold sgL
  split
  · rcases ht _ (chr_mem (by rw [hs]; exact List.mem_range.1 hj)) with h | h | h <;> rw [h] <;> decide
  · decide
theorem sg_agree {s : ByteArray} {cs : List Int} {W H : Nat} (hs : s.size = W * H) (ht : ∀ z ∈ ltr s, tri z) : agreeB s (flatS (rowsOf (clothS W H (sgG s cs W)) W H)) = true := by
  unfold agreeB
  rw [ltr_rows, Nat.mul_comm H W, List.take_of_length_le (by rw [ltr_len, clothS_size]; omega), sg_ltr hs ht, ltr_chr s, hs, List.zip_map', List.all_map, List.all_eq_true]
  intro j _
  simp only [Function.comp, sgL]
  split
  · rw [clB_self]; rfl
  · rw [clB_63]; rfl
theorem words_filter (fs : List Int) (m : Nat) (p : Int → Bool) : ((wordsL fs m).filter p).length = ((List.range m).filter fun i => p (wordV fs i)).length := by
  unfold wordsL
  rw [List.filter_map, List.length_map]
  rfl

theorem seen_law (W H F L X Y nl nh xl xh y f1 n1 x1 y1 : Int) (A : Option Addr) (n cap : Nat) (fs : List Fig) (CA : Option Addr) (cn ccap : Nat) (cs : List Int) (m : Int) (w : World) (hm : w.cell? ⟨0, 0, none⟩ = some (.int .i64 m)) (hcap : n ≤ cap) (hcm : cap ≤ maxLen) (hf : ∀ f ∈ fs, f.ok w w.heap.size) (hr : Rd w w.heap.size 1 A n (fs.map Fig.val)) (hcn : cn ≤ ccap) (hccm : ccap ≤ maxLen) (hcr : Rd w w.heap.size 1 CA cn (cs.map (Value.int .i64))) :
    Calls Tryz.prog 11 #[.agg #[.int .i64 W, .int .i64 H, .int .i64 F, .int .i64 L, .int .i64 X, .int .i64 Y], .slice A n cap, .agg #[.int .i64 nl, .int .i64 nh, .int .i64 xl, .int .i64 xh, .int .i64 y], .agg #[.int .i64 f1, .int .i64 n1, .int .i64 x1, .int .i64 y1], .slice CA cn ccap] w fun e w' => e = .returned (.bool true) ∧ Below w.heap.size w w' := by
  cases hfw : fewB fs
  · exact seen_x1 W H F L X Y nl nh xl xh y f1 n1 x1 y1 A n cap fs CA cn ccap cs m w hm hcap hcm hf hr hcn hccm hcr hfw
  by_cases hc3 : (300 : Int) < cn
  · exact seen_x2 W H F L X Y nl nh xl xh y f1 n1 x1 y1 A n cap fs CA cn ccap cs m w hm hcap hcm hf hr hcn hccm hcr hfw hc3
  rcases askV_parts (b := askB W H F L X Y nl nh xl xh y fs) with ⟨hak, hask⟩ | ⟨hak, _⟩
  rotate_left
  · exact seen_x3 W H F L X Y nl nh xl xh y f1 n1 x1 y1 A n cap fs CA cn ccap cs m w hm hcap hcm hf hr hcn hccm hcr hfw hc3 hak
  cases hr1 : readB n nl nh xl xh y f1 n1 x1 y1
  · exact seen_x4 W H F L X Y nl nh xl xh y f1 n1 x1 y1 A n cap fs CA cn ccap cs m w hm hcap hcm hf hr hcn hccm hcr hfw hc3 hak hr1
  obtain ⟨⟨p1, p2⟩, ⟨p3, p4⟩, ⟨p5, p6⟩, rfl⟩ := readB_parts hr1
  obtain ⟨i1, rfl⟩ : ∃ k : Nat, f1 = k := ⟨f1.toNat, by omega⟩
  have hdim := ask_dims hask
  obtain ⟨Wn, rfl⟩ : ∃ k : Nat, W = k := ⟨W.toNat, by omega⟩
  obtain ⟨Hn, rfl⟩ : ∃ k : Nat, H = k := ⟨H.toNat, by omega⟩
  obtain ⟨⟨d1, d2⟩, ⟨d3, d4⟩, ⟨d5, d6⟩, _⟩ := hdim
  have hlen := hr.len
  have hW : Wn ≤ 16 := by omega
  have hH : Hn ≤ 16 := by omega
  have hW1 : 1 ≤ Wn := by omega
  have g1 : i1 < fs.length := by omega
  obtain ⟨k1, hk1, e1, v1, w1⟩ := view_of hask (t := ((i1 : Int), n1, x1)) (mem_fR.2 ⟨⟨by omega, by omega⟩, ⟨p3, p4⟩, p5, p6⟩)
  dsimp only at e1 v1 w1
  obtain rfl : k1 = i1 := by omega
  obtain ⟨⟨A1, mm1, cap1, rows1⟩, hg1⟩ : ∃ f, f = fs[k1] := ⟨_, rfl⟩
  rw [← hg1] at v1 w1
  dsimp only at v1 w1
  obtain ⟨s, hs⟩ : ∃ s, s = shS Wn Hn F L X Y n1 x1 y1 rows1 := ⟨_, rfl⟩
  have hss : s.size = Wn * Hn := by have := shS_size Wn Hn F L X Y n1 x1 y1 rows1; rw [Int.toNat_natCast, Int.toNat_natCast] at this; rw [hs]; exact this
  have hst : ∀ z ∈ ltr s, tri z := by rw [hs]; exact fun z hz => shS_tri _ _ _ _ _ _ _ _ _ _ z hz
  obtain ⟨sg, hsg⟩ : ∃ sg, sg = clothS Wn Hn (sgG s cs Wn) := ⟨_, rfl⟩
  have hsgs : sg.size = Wn * Hn := by rw [hsg]; exact clothS_size ..
  have hsight : sightB Wn Hn (rowsOf sg Wn Hn) = true := by rw [hsg]; exact sg_sight hss hst
  have hagx : agreeB s (flatS (rowsOf sg Wn Hn)) = true := by rw [hsg]; exact sg_agree hss hst
  have hgood : goodQ Wn Hn F L X Y nl nh xl xh y1 fs (rowsOf sg Wn Hn) = true := by simp only [goodQ, hask, hsight]; rfl
  have hsgr : ∀ r ∈ (rowsOf sg Wn Hn), r.size = Wn := fun r hr => by obtain ⟨i, hi, rfl⟩ := rowsOf_mem hr; exact cut_size hsgs hi
  have hin : ((k1 : Int), n1, x1) ∈ rdT Wn Hn F L X Y nl nh xl xh y1 fs (rowsOf sg Wn Hn) := by
    refine List.mem_filter.2 ⟨mem_fR.2 ⟨⟨by omega, by omega⟩, ⟨p3, p4⟩, p5, p6⟩, ?_⟩
    dsimp only
    rw [v1, ← hs]; exact hagx
  have hrl : (rdT Wn Hn F L X Y nl nh xl xh y1 fs (rowsOf sg Wn Hn)).length ≤ 216 := Nat.le_trans (List.length_filter_le _ _) (allR_small hask)
  have hmemF : ∀ t ∈ rdT Wn Hn F L X Y nl nh xl xh y1 fs (rowsOf sg Wn Hn), t.1 ∈ whoF Wn Hn F L X Y nl nh xl xh y1 fs (rowsOf sg Wn Hn) := fun t ht => by
    unfold whoF
    rw [agL_rdT]
    exact List.mem_map.2 ⟨_, List.mem_map.2 ⟨t, ht, rfl⟩, rfl⟩
  have hx1 := hmemF _ hin
  dsimp only at hx1
  have hu0 : (uniq (whoF Wn Hn F L X Y nl nh xl xh y1 fs (rowsOf sg Wn Hn))).length ≠ 0 := fun h => by
    have := List.length_pos_of_mem (mem_uniq.2 hx1)
    omega
  have hwe : whoE Wn Hn F L X Y nl nh xl xh y1 fs (rowsOf sg Wn Hn) = 0 := by unfold whoE; rw [if_pos hgood, if_neg hu0]
  have hwl : whoL Wn Hn F L X Y nl nh xl xh y1 fs (rowsOf sg Wn Hn) = wordsL (whoF Wn Hn F L X Y nl nh xl xh y1 fs (rowsOf sg Wn Hn)) n := by unfold whoL; rw [if_pos hgood, if_neg hu0, hlen]
  have hrange := whoF_range (W := Wn) (H := Hn) (F := F) (L := L) (X := X) (Y := Y) (nl := nl) (nh := nh) (xl := xl) (xh := xh) (y := y1) (fs := fs) (rs := (rowsOf sg Wn Hn))
  obtain ⟨wf, hwf⟩ : ∃ wf, wf = whoF Wn Hn F L X Y nl nh xl xh y1 fs (rowsOf sg Wn Hn) := ⟨_, rfl⟩
  rw [← hwf] at hu0 hwl hx1 hrange hmemF
  rw [hlen] at hrange
  have hcnt := uniq_count hrange
  have hc1 : ∀ z : Int, z ∈ wf → wf.contains z = true := fun z hz => by simpa using hz
  have hwv1 : ∀ k : Nat, (k : Int) ∈ wf → wordV wf k ≠ 1 := fun k hk => by
    unfold wordV; rw [if_pos (hc1 _ hk)]; split <;> decide
  have hfin : (((wordsL wf n).filter fun z => z == 3).length = 1 ∧ ((wordsL wf n).filter fun z => z == 2).length = 0 ∧ wordV wf k1 = 3) ∨ (((wordsL wf n).filter fun z => z == 3).length = 0 ∧ 2 ≤ ((wordsL wf n).filter fun z => z == 2).length) := by
    rw [words_filter, words_filter]
    by_cases hu : 1 < (uniq wf).length
    · right
      have a1 : ((List.range n).filter fun i => wordV wf i == 3) = [] := by
        rw [List.filter_eq_nil_iff]
        intro i _
        unfold wordV
        by_cases hc : wf.contains (i : Int) = true
        · rw [if_pos hc, if_pos hu]; decide
        · rw [if_neg hc]; decide
      have a2 : ((List.range n).filter fun i => wordV wf i == 2) = ((List.range n).filter fun i : Nat => wf.contains (i : Int)) := List.filter_congr fun i _ => by
        unfold wordV
        cases h : wf.contains (i : Int)
        · rfl
        · simp only [if_true]; rw [if_pos hu]; rfl
      rw [a1, a2, hcnt]
      exact ⟨rfl, hu⟩
    · left
      have a1 : ((List.range n).filter fun i => wordV wf i == 2) = [] := by
        rw [List.filter_eq_nil_iff]
        intro i _
        unfold wordV
        by_cases hc : wf.contains (i : Int) = true
        · rw [if_pos hc, if_neg hu]; decide
        · rw [if_neg hc]; decide
      have a2 : ((List.range n).filter fun i => wordV wf i == 3) = ((List.range n).filter fun i : Nat => wf.contains (i : Int)) := List.filter_congr fun i _ => by
        unfold wordV
        cases h : wf.contains (i : Int)
        · rfl
        · simp only [if_true]; rw [if_neg hu]; rfl
      rw [a1, a2, hcnt]
      exact ⟨by omega, rfl, by unfold wordV; rw [if_pos (hc1 _ hx1), if_neg hu]⟩
  have hwat : ∀ k, k < n → (wordsL wf n)[k]? = some (wordV wf k) := fun k hk => by
    unfold wordsL
    rw [List.getElem?_map, List.getElem?_range hk]; rfl
  refine seen_main Wn Hn F L X Y nl nh xl xh y1 n1 x1 k1 A n cap fs CA cn ccap cs m w hm hcap hcm hf hr hcn hccm hcr A1 mm1 cap1 rows1 s sg (rdT Wn Hn F L X Y nl nh xl xh y1 fs (rowsOf sg Wn Hn)) (wordsL wf n) (wordV wf k1) hfw hc3 hak hr1 hW1 hW hH g1 (Lib.hid hg1.symm)
    (Lib.hid (by unfold errV; rw [if_pos w1])) (Lib.hid (by unfold shadowRows; rw [if_pos w1, Int.toNat_natCast, Int.toNat_natCast, hs])) hss (Lib.hid ?_)
    (Lib.hid (fun q hq => by rw [hsg]; exact clothS_row (sgG s cs Wn) hW1 hq)) (Lib.hid (fun r hr => by rw [hsgr r hr]; omega)) (Lib.hid hsgr)
    (Lib.hid (by unfold readsE; rw [if_pos hgood])) (Lib.hid (by unfold readsL; rw [if_pos hgood])) hrl hin (Lib.hid hwe) (Lib.hid hwl) (by simp [wordsL]) (by omega)
    (Lib.hid ?_) (hwat k1 (by omega)) (hwv1 k1 hx1) (Lib.hid hfin) (Lib.hid ?_) (Lib.hid ?_)
  · have := whole_sh (W := (Wn : Int)) (H := (Hn : Int)) (F := F) (L := L) (X := X) (Y := Y) (N := n1) (PX := x1) (PY := y1) (rows := rows1) (by omega) (by omega)
    rw [Int.toNat_natCast, Int.toNat_natCast, ← hs] at this
    exact this
  · intro z hz
    unfold wordsL at hz
    obtain ⟨i, _, rfl⟩ := List.mem_map.1 hz
    unfold wordV
    split
    · split
      · exact .inr (.inl rfl)
      · exact .inr (.inr rfl)
    · exact .inl rfl
  · intro t ht
    obtain ⟨⟨a, b⟩, ⟨c, d⟩, e, f⟩ := mem_fR.1 (List.mem_filter.1 ht).1
    simp only [readB, Bool.and_eq_true, decide_eq_true_eq, beq_self_eq_true, and_true]
    omega
  · intro t ht
    obtain ⟨h1, h2⟩ := List.mem_filter.1 ht
    obtain ⟨k, hk, e, v, vw⟩ := view_of hask h1
    rw [v] at h2
    have hz := shS_size Wn Hn F L X Y t.2.1 t.2.2 y1 (fs[k]).rows
    rw [Int.toNat_natCast, Int.toNat_natCast] at hz
    refine ⟨k, hk, e, vw, ?_, ?_, ?_⟩
    · have := whole_sh (W := (Wn : Int)) (H := (Hn : Int)) (F := F) (L := L) (X := X) (Y := Y) (N := t.2.1) (PX := t.2.2) (PY := y1) (rows := (fs[k]).rows) (by omega) (by omega)
      rw [Int.toNat_natCast, Int.toNat_natCast] at this
      exact this
    · rw [agree_rows hz (rowsOf_len _ _ _) hsgr]; exact h2
    · intro z hz2
      rw [hwat k (by omega)] at hz2
      cases hz2
      exact hwv1 k (by rw [← e]; exact hmemF t ht)
end Go.Proofs.YtifddfchpknkbaaGreatDoor
