import Derived.Test.YtifddfchpknkbaaGreatDoorOy
import Derived.Test.YtifddfchpknkbaaGreatDoorTs
set_option linter.unusedVariables false
set_option linter.unusedSimpArgs false
namespace Go.Proofs.YtifddfchpknkbaaGreatDoor
open Go.RowKit


theorem figAt_more {fs : List Fig} {g : Fig} {f : Int} (h0 : 0 ≤ f) (h1 : f < fs.length) : figAt (fs ++ [g]) f = figAt fs f := by
  unfold figAt
  rw [List.getElem?_append_left (by omega)]
theorem shL_more {W H F L X Y nl nh xl xh y : Int} {fs : List Fig} {g : Fig} {h : Sh} (hh : h ∈ shL W H F L X Y nl nh xl xh y fs) : h ∈ shL W H F L X Y nl nh xl xh y (fs ++ [g]) := by
  obtain ⟨t, ht, rfl⟩ := List.mem_map.1 hh
  obtain ⟨⟨a, b⟩, c⟩ := mem_fR.1 ht
  refine List.mem_map.2 ⟨t, mem_fR.2 ⟨⟨a, by rw [List.length_append]; simp; omega⟩, c⟩, ?_⟩
  unfold shOf
  rw [figAt_more a b]
theorem near_more {l l' : List Sh} (hs : ∀ h ∈ l, h ∈ l') {f t : Int} (h : nearQ l' f t = false) : nearQ l f t = false := by
  cases hq : nearQ l f t with
  | false => rfl
  | true =>
    obtain ⟨x, hx, h1, h2, y', hy, h3, h4⟩ := (nearQ_iff l f t).1 hq
    rw [(nearQ_iff l' f t).2 ⟨x, hs x hx, h1, h2, y', hs y' hy, h3, h4⟩] at h
    cases h
theorem told_more {l l' : List Sh} (hs : ∀ h ∈ l, h ∈ l') (f NL NH : Int) : withB (toldL l f NL NH) (toldL l' f NL NH) = true := by
  unfold withB
  rw [List.all_eq_true]
  intro z hz
  obtain ⟨h1, h2⟩ := mem_told.1 hz
  exact hasB_iff.2 (mem_told.2 ⟨h1, near_more hs h2⟩)
theorem ask_more {W H F L X Y nl nh xl xh y : Int} {fs : List Fig} {g : Fig} (h : askB W H F L X Y nl nh xl xh y fs = true) (hg : figB g.rows = true) (hl : fs.length ≤ 5) : askB W H F L X Y nl nh xl xh y (fs ++ [g]) = true := by
  simp only [askB, Bool.and_eq_true] at h ⊢
  obtain ⟨h1, h2, h3⟩ := h
  obtain ⟨c1, c2⟩ := compB_nums h2
  refine ⟨h1, ?_, h3⟩
  simp only [compB, Bool.and_eq_true, List.all_eq_true]
  refine ⟨by simp [inB]; omega, fun f hf => ?_⟩
  rcases List.mem_append.1 hf with hf | hf
  · exact c2 f hf
  · obtain rfl : f = g := by simpa using hf
    exact hg

theorem more_law (W H F L X Y nl nh xl xh y k : Int) (bb : Bool) (fig : Int) (A : Option Addr) (n cap : Nat) (fs : List Fig) (SA : Option Addr) (sn scap : Nat) (rs : List ByteArray) (A2 : Option Addr) (n2 cap2 : Nat) (rows2 : List ByteArray) (m : Int) (w : World) (hm : w.cell? ⟨0, 0, none⟩ = some (.int .i64 m)) (hcap : n ≤ cap) (hcm : cap ≤ maxLen) (hf : ∀ f ∈ fs, f.ok w w.heap.size) (hr : Rd w w.heap.size 1 A n (fs.map Fig.val)) (hsn : sn ≤ scap) (hscm : scap ≤ maxLen) (hss : ∀ r ∈ rs, r.size ≤ maxLen) (hsr : Rd w w.heap.size 1 SA sn (rs.map Value.string)) (hc21 : n2 ≤ cap2) (hc22 : cap2 ≤ maxLen) (hs2 : ∀ r ∈ rows2, r.size ≤ maxLen) (hR2 : Rd w w.heap.size 1 A2 n2 (rows2.map Value.string)) :
    Calls Tryz.prog 19 #[.agg #[.int .i64 W, .int .i64 H, .int .i64 F, .int .i64 L, .int .i64 X, .int .i64 Y], .slice A n cap, .agg #[.int .i64 nl, .int .i64 nh, .int .i64 xl, .int .i64 xh, .int .i64 y], .slice SA sn scap, .int .i64 k, .bool bb, .agg #[.slice A2 n2 cap2], .int .i64 fig] w fun e w' => e = .returned (.bool true) ∧ Below w.heap.size w w' := by
  cases hfw : fewB fs
  · exact more_x1 W H F L X Y nl nh xl xh y k bb fig A n cap fs SA sn scap rs A2 n2 cap2 rows2 m w hm hcap hcm hf hr hsn hscm hss hsr hc21 hc22 hs2 hR2 hfw
  cases hsh : shortB rs
  · exact more_x2 W H F L X Y nl nh xl xh y k bb fig A n cap fs SA sn scap rs A2 n2 cap2 rows2 m w hm hcap hcm hf hr hsn hscm hss hsr hc21 hc22 hs2 hR2 hfw hsh
  cases hsh2 : shortB rows2
  · exact more_x3 W H F L X Y nl nh xl xh y k bb fig A n cap fs SA sn scap rs A2 n2 cap2 rows2 m w hm hcap hcm hf hr hsn hscm hss hsr hc21 hc22 hs2 hR2 hfw hsh hsh2
  cases hst : stageB W H F L X Y
  · exact more_x4 W H F L X Y nl nh xl xh y k bb fig A n cap fs SA sn scap rs A2 n2 cap2 rows2 m w hm hcap hcm hf hr hsn hscm hss hsr hc21 hc22 hs2 hR2 hfw hsh hsh2 hst (by simp [askV])
  cases hsg : sightB W H rs
  · exact more_x5 W H F L X Y nl nh xl xh y k bb fig A n cap fs SA sn scap rs A2 n2 cap2 rows2 m w hm hcap hcm hf hr hsn hscm hss hsr hc21 hc22 hs2 hR2 hfw hsh hsh2 hst hsg (by simp [askV])
  rcases askV_iff (b := askB W H F L X Y nl nh xl xh y fs) with ⟨hak, hask⟩ | ⟨hak, _⟩
  rotate_left
  · exact more_x6 W H F L X Y nl nh xl xh y k bb fig A n cap fs SA sn scap rs A2 n2 cap2 rows2 m w hm hcap hcm hf hr hsn hscm hss hsr hc21 hc22 hs2 hR2 hfw hsh hsh2 hst hsg hak
  by_cases h0 : k < 0
  · exact more_x7 W H F L X Y nl nh xl xh y k bb fig A n cap fs SA sn scap rs A2 n2 cap2 rows2 m w hm hcap hcm hf hr hsn hscm hss hsr hc21 hc22 hs2 hR2 hfw hsh hsh2 hst hsg hak h0
  have hgood : goodQ W H F L X Y nl nh xl xh y fs rs = true := by simp only [goodQ, hask, hsg]; rfl
  have hdim := ask_dims hask
  obtain ⟨Wn, rfl⟩ : ∃ k : Nat, W = k := ⟨W.toNat, by omega⟩
  obtain ⟨Hn, rfl⟩ : ∃ k : Nat, H = k := ⟨H.toNat, by omega⟩
  obtain ⟨⟨d1, d2⟩, ⟨d3, d4⟩, ⟨d5, d6⟩, _⟩ := hdim
  have hW : Wn ≤ 16 := by omega
  have hH : Hn ≤ 16 := by omega
  have hW1 : 1 ≤ Wn := by omega
  by_cases h1 : (Wn : Int) * Hn ≤ k
  · exact more_x8 Wn Hn F L X Y nl nh xl xh y k bb fig A n cap fs SA sn scap rs A2 n2 cap2 rows2 m w hm hcap hcm hf hr hsn hscm hss hsr hc21 hc22 hs2 hR2 hfw hsh hsh2 hst hsg hak h0 hW hH h1
  cases hfg : figB rows2
  · exact more_x9 Wn Hn F L X Y nl nh xl xh y k bb fig A n cap fs SA sn scap rs A2 n2 cap2 rows2 m w hm hcap hcm hf hr hsn hscm hss hsr hc21 hc22 hs2 hR2 hfw hsh hsh2 hst hsg hak h0 hW hH h1 hfg
  by_cases h6 : (6 : Int) ≤ n
  · exact more_x10 Wn Hn F L X Y nl nh xl xh y k bb fig A n cap fs SA sn scap rs A2 n2 cap2 rows2 m w hm hcap hcm hf hr hsn hscm hss hsr hc21 hc22 hs2 hR2 hfw hsh hsh2 hst hsg hak h0 hW hH h1 hfg h6
  by_cases h7 : fig < 0
  · exact more_x11 Wn Hn F L X Y nl nh xl xh y k bb fig A n cap fs SA sn scap rs A2 n2 cap2 rows2 m w hm hcap hcm hf hr hsn hscm hss hsr hc21 hc22 hs2 hR2 hfw hsh hsh2 hst hsg hak h0 hW hH h1 hfg h6 h7
  by_cases h8 : (n : Int) ≤ fig
  · exact more_x12 Wn Hn F L X Y nl nh xl xh y k bb fig A n cap fs SA sn scap rs A2 n2 cap2 rows2 m w hm hcap hcm hf hr hsn hscm hss hsr hc21 hc22 hs2 hR2 hfw hsh hsh2 hst hsg hak h0 hW hH h1 hfg h6 h7 h8
  obtain ⟨k, rfl⟩ : ∃ q : Nat, k = q := ⟨k.toNat, by omega⟩
  have hkk : k < Wn * Hn := by
    have : ((k : Nat) : Int) < (Wn : Int) * Hn := by omega
    exact_mod_cast this
  obtain ⟨hl, hw⟩ := sight_rows hsg
  have hsnl := hsr.len
  have hlen := hr.len
  have hsn3 : sn ≤ 10000 := by omega
  have hsz : (flatS rs).size = Wn * Hn := by have := (sight_size hsg).1; rw [Int.toNat_natCast, Int.toNat_natCast] at this; rw [this, Nat.mul_comm]
  have hq : k / Wn < rs.length := by rw [hl, Nat.div_lt_iff_lt_mul (by omega), Nat.mul_comm]; exact hkk
  have hrow : rs[k / Wn]? = some rs[k / Wn] := List.getElem?_eq_getElem _
  have hrs := hw _ (List.getElem_mem hq)
  obtain ⟨z, hz⟩ : ∃ z, (ltr (flatS rs))[k]? = some z := ⟨_, List.getElem?_eq_getElem (by rw [ltr_len, hsz]; exact hkk)⟩
  have hz2 := hz
  rw [flatS_cell (by omega) hw hq] at hz2
  have hsa : ∀ c : Int, seenAt rs Wn k c = rs.set (k / Wn) (seenRow rs[k / Wn] c (k % Wn)) := fun c => by unfold seenAt; rw [hrow]; rfl
  have hask2 := ask_more (g := (⟨A2, n2, cap2, rows2⟩ : Fig)) hask hfg (by omega)
  have hmono : ∀ h ∈ shL Wn Hn F L X Y nl nh xl xh y fs, h ∈ shL Wn Hn F L X Y nl nh xl xh y (fs ++ [(⟨A2, n2, cap2, rows2⟩ : Fig)]) := fun h hh => shL_more hh
  have hl2 : (fs ++ [(⟨A2, n2, cap2, rows2⟩ : Fig)]).length = n + 1 := by rw [List.length_append, hlen]; rfl
  have t1 : toldOk Wn Hn F L X Y nl nh xl xh y fs fig = true := by simp only [toldOk, hask, inB, Bool.true_and, Bool.and_eq_true, decide_eq_true_eq]; omega
  have t2 : toldOk Wn Hn F L X Y nl nh xl xh y (fs ++ [(⟨A2, n2, cap2, rows2⟩ : Fig)]) fig = true := by simp only [toldOk, hask2, hl2, inB, Bool.true_and, Bool.and_eq_true, decide_eq_true_eq]; omega
  have hask3 := hask
  simp only [askB, Bool.and_eq_true] at hask3
  obtain ⟨⟨r1, r2⟩, ⟨r3, r4⟩, ⟨r5, r6⟩, _⟩ := reachB_nums hask3.2.2
  have hnow := seenI_good hgood
  have hmis : ∃ x1 y1 me1 x2 y2 me2 : Int, mistR Wn Hn F L X Y nl nh xl xh y fs = #[.int .i64 x1, .int .i64 y1, .int .i64 me1] ∧ mistR Wn Hn F L X Y nl nh xl xh y (fs ++ [(⟨A2, n2, cap2, rows2⟩ : Fig)]) = #[.int .i64 x2, .int .i64 y2, .int .i64 me2] ∧ ((me1 = 0 ∧ me2 = 0) ∨ (me1 = 5 ∧ me2 = 0) ∨ (me1 = 5 ∧ me2 = 5)) := by
    rcases mist_cases hask with ⟨e1, _⟩ | ⟨a, b, e1, e2, e3, ⟨x, hx, y', hy, p1, p2, p3⟩, _⟩
    · rcases mist_cases hask2 with ⟨f1, _⟩ | ⟨c, d, _, _, f3, _⟩
      · exact ⟨_, _, _, _, _, _, e1, f1, .inr (.inr ⟨rfl, rfl⟩)⟩
      · exact ⟨_, _, _, _, _, _, e1, f3, .inr (.inl ⟨rfl, rfl⟩)⟩
    · rcases mist_cases hask2 with ⟨f1, f2⟩ | ⟨c, d, _, _, f3, _⟩
      · exact absurd ⟨x, hmono x hx, y', hmono y' hy, p1, p2, p3⟩ (f2 a b e1 (by rw [hl2]; omega))
      · exact ⟨_, _, _, _, _, _, e3, f3, .inl ⟨rfl, rfl⟩⟩
  obtain ⟨x1, y1, me1, x2, y2, me2, hM1, hM2, hG⟩ := hmis
  have hR1 : toldR Wn Hn F L X Y nl nh xl xh y fs fig = toldL (shL Wn Hn F L X Y nl nh xl xh y fs) fig nl nh := by unfold toldR; rw [if_pos t1]
  have hR2' : toldR Wn Hn F L X Y nl nh xl xh y (fs ++ [(⟨A2, n2, cap2, rows2⟩ : Fig)]) fig = toldL (shL Wn Hn F L X Y nl nh xl xh y (fs ++ [(⟨A2, n2, cap2, rows2⟩ : Fig)])) fig nl nh := by unfold toldR; rw [if_pos t2]
  have hL1 : (toldL (shL Wn Hn F L X Y nl nh xl xh y fs) fig nl nh).length ≤ 6 := Nat.le_trans (toldL_len _ _ _ _) (by omega)
  have hL2 : (toldL (shL Wn Hn F L X Y nl nh xl xh y (fs ++ [(⟨A2, n2, cap2, rows2⟩ : Fig)])) fig nl nh).length ≤ 6 := Nat.le_trans (toldL_len _ _ _ _) (by omega)
  have hWI := told_more hmono fig nl nh
  have hmax : (0 : Int) ≤ ((uniq (whoF Wn Hn F L X Y nl nh xl xh y fs rs)).length : Nat) := by omega
  by_cases hz63 : z = 63
  · subst hz63
    have hleft : ∀ c, (c = 35 ∨ c = 46) → seenI Wn Hn F L X Y nl nh xl xh y fs (rs.set (k / Wn) (seenRow rs[k / Wn] c (k % Wn))) = (leftN (agL Wn Hn F L X Y nl nh xl xh y fs rs) k c : Nat) := fun c hc => by rw [← hsa]; exact (seen_left hgood hkk hz hc).2
    have hsz2 : ∀ c, (c = 35 ∨ c = 46) → ∀ r ∈ rs.set (k / Wn) (seenRow rs[k / Wn] c (k % Wn)), r.size ≤ maxLen := fun c hc r hrm => by
      rw [← hsa] at hrm
      have := (sight_rows (seenAt_sight (by omega) hsg (by rw [hl, Nat.mul_comm]; exact hkk) hc)).2 r hrm
      unfold maxLen; omega
    have hle := fun c => leftN_le (agL Wn Hn F L X Y nl nh xl xh y fs rs) k c
    have hwf : whoF Wn Hn F L X Y nl nh xl xh y fs rs = (agL Wn Hn F L X Y nl nh xl xh y fs rs).map Sh.f := rfl
    rw [hwf] at hnow hmax
    exact more_q Wn Hn F L X Y nl nh xl xh y k bb fig A n cap fs SA sn scap rs A2 n2 cap2 rows2 m w hm hcap hcm hf hr hsn hscm hss hsr hc21 hc22 hs2 hR2 hfw hsh hsh2 hst hsg hak (by omega) hW hH hkk hfg (by omega) (by omega) (by omega) hW1 hsn3 _ (if bb then ((leftN (agL Wn Hn F L X Y nl nh xl xh y fs rs) k 35 : Nat) : Int) else ((leftN (agL Wn Hn F L X Y nl nh xl xh y fs rs) k 46 : Nat) : Int)) x1 y1 me1 x2 y2 me2 _ _ _ hrow hrs (Lib.hid hnow) hmax (by split <;> omega) (by have e1 := hle 35; have e2 := hle 46; split <;> omega)
      (Lib.hid hR1) (Lib.hid (by unfold toldE; rw [if_pos t1])) (Lib.hid hR2') (Lib.hid (by unfold toldE; rw [if_pos t2])) (Lib.hid hM1) (Lib.hid hM2) hL1 hL2 (Lib.hid hWI) (Lib.hid hG)
      0 0 hz2 (hsz2 35 (.inl rfl)) (hsz2 46 (.inr rfl)) (Lib.hid (fun e => by rw [if_pos e]; exact hleft 35 (.inl rfl))) (Lib.hid (fun e => by rw [e]; exact hleft 46 (.inr rfl)))
  · exact more_n Wn Hn F L X Y nl nh xl xh y k bb fig A n cap fs SA sn scap rs A2 n2 cap2 rows2 m w hm hcap hcm hf hr hsn hscm hss hsr hc21 hc22 hs2 hR2 hfw hsh hsh2 hst hsg hak (by omega) hW hH hkk hfg (by omega) (by omega) (by omega) hW1 hsn3 _ 0 x1 y1 me1 x2 y2 me2 _ _ _ hrow hrs (Lib.hid hnow) hmax (by omega) hmax
      (Lib.hid hR1) (Lib.hid (by unfold toldE; rw [if_pos t1])) (Lib.hid hR2') (Lib.hid (by unfold toldE; rw [if_pos t2])) (Lib.hid hM1) (Lib.hid hM2) hL1 hL2 (Lib.hid hWI) (Lib.hid hG)
      z hz2 (by simp [hz63]) rfl
end Go.Proofs.YtifddfchpknkbaaGreatDoor
