import Derived.Test.YtifddfchpknkbaaGreatDoorLy
set_option linter.unusedVariables false
set_option linter.unusedSimpArgs false
namespace Go.Proofs.YtifddfchpknkbaaGreatDoor
open Go.RowKit


theorem flat_at : ∀ (ls : List (List Int)) (W q r : Nat) (l : List Int), (∀ x ∈ ls, x.length = W) → ls[q]? = some l → r < W → (ls.flatMap id)[q * W + r]? = l[r]?
  | [], W, q, r, l, _, h, _ => by simp at h
  | x :: ls, W, 0, r, l, hw, h, hr => by
    have : x = l := by simpa using h
    subst this
    have hx := hw x (by simp)
    rw [List.flatMap_cons, Nat.zero_mul, Nat.zero_add, List.getElem?_append_left (by simp only [id]; omega)]; rfl
  | x :: ls, W, q + 1, r, l, hw, h, hr => by
    have hx := hw x (by simp)
    have ih := flat_at ls W q r l (fun z hz => hw z (by simp [hz])) (by simpa using h) hr
    rw [List.flatMap_cons, List.getElem?_append_right (by simp only [id]; rw [Nat.add_mul]; omega)]
    simp only [id]
    rw [hx, show (q + 1) * W + r - W = q * W + r by rw [Nat.add_mul]; omega]
    exact ih
theorem flatS_cell {rs : List ByteArray} {W k : Nat} (hW : 0 < W) (hw : ∀ r ∈ rs, r.size = W) (hq : k / W < rs.length) : (ltr (flatS rs))[k]? = (ltr rs[k / W])[k % W]? := by
  have e1 : rs.flatMap ltr = (rs.map ltr).flatMap id := by rw [List.flatMap_map]; rfl
  rw [ltr_flat, e1]
  have h := flat_at (rs.map ltr) W (k / W) (k % W) (ltr rs[k / W]) (by intro x hx; obtain ⟨r, hr, rfl⟩ := List.mem_map.1 hx; rw [ltr_len]; exact hw r hr) (by simp [hq]) (Nat.mod_lt _ hW)
  rw [← h, Nat.mul_comm, Nat.div_add_mod]
theorem cnt_none {l : List Int} {c : Int} (h : ∀ z ∈ l, z ≠ c) : cntL l [c] = 0 := by
  unfold cntL
  rw [List.length_eq_zero_iff, List.filter_eq_nil_iff]
  intro z hz he
  rw [idx_one] at he
  exact h z hz (by simpa using he)
theorem countR_none {rs : List ByteArray} {c : Int} (h : ∀ z ∈ ltr (flatS rs), z ≠ c) : countR rs c = 0 := by
  rw [ltr_flat] at h
  unfold countR
  induction rs with
  | nil => rfl
  | cons r rs ih =>
    rw [List.map_cons, List.sum_cons, cnt_none (fun z hz => h z (by rw [List.flatMap_cons]; exact List.mem_append_left _ hz)), ih (fun z hz => h z (by rw [List.flatMap_cons]; exact List.mem_append_right _ hz))]
theorem cl_not_both (z : Int) : clB z 35 = false ∨ clB z 46 = false := by
  unfold clB
  by_cases h : z = 35
  · subst h; exact .inl (by decide)
  · right; simp [h]
theorem leftN_le (l : List Sh) (c : Nat) (t : Int) : leftN l c t ≤ (uniq (l.map Sh.f)).length := by
  unfold leftN leftF
  apply uniq_le
  intro x hx
  obtain ⟨h, hh, rfl⟩ := List.mem_map.1 hx
  exact List.mem_map.2 ⟨h, (List.mem_filter.1 hh).1, rfl⟩
theorem mostN_le (l : List Sh) (c : Nat) : mostN l c ≤ (uniq (l.map Sh.f)).length := Nat.max_le.2 ⟨leftN_le l c 35, leftN_le l c 46⟩
theorem leftN_pos {l : List Sh} {c : Nat} {t : Int} {h : Sh} (hh : h ∈ l) (hc : clB (chr h.s c) t = false) : 1 ≤ leftN l c t := by
  unfold leftN leftF
  have : h.f ∈ uniq ((l.filter fun h => !clB (chr h.s c) t).map Sh.f) := mem_uniq.2 (List.mem_map.2 ⟨h, List.mem_filter.2 ⟨hh, by rw [hc]; rfl⟩, rfl⟩)
  exact List.length_pos_of_mem this
theorem mostN_pos {l : List Sh} {c : Nat} (h0 : l ≠ []) : 1 ≤ mostN l c := by
  obtain ⟨h, hh⟩ := List.exists_mem_of_ne_nil l h0
  unfold mostN
  rcases cl_not_both (chr h.s c) with h1 | h1
  · have := leftN_pos hh h1; omega
  · have := leftN_pos hh h1; omega

theorem looks_law (W H F L X Y nl nh xl xh y other : Int) (A : Option Addr) (n cap : Nat) (fs : List Fig) (SA : Option Addr) (sn scap : Nat) (rs : List ByteArray) (m : Int) (w : World) (hm : w.cell? ⟨0, 0, none⟩ = some (.int .i64 m)) (hcap : n ≤ cap) (hcm : cap ≤ maxLen) (hf : ∀ f ∈ fs, f.ok w w.heap.size) (hr : Rd w w.heap.size 1 A n (fs.map Fig.val)) (hsn : sn ≤ scap) (hscm : scap ≤ maxLen) (hss : ∀ r ∈ rs, r.size ≤ maxLen) (hsr : Rd w w.heap.size 1 SA sn (rs.map Value.string)) :
    Calls Tryz.prog 13 #[.agg #[.int .i64 W, .int .i64 H, .int .i64 F, .int .i64 L, .int .i64 X, .int .i64 Y], .slice A n cap, .agg #[.int .i64 nl, .int .i64 nh, .int .i64 xl, .int .i64 xh, .int .i64 y], .slice SA sn scap, .int .i64 other] w fun e w' => e = .returned (.bool true) ∧ Below w.heap.size w w' := by
  cases hfw : fewB fs
  · exact looks_x1 W H F L X Y nl nh xl xh y other A n cap fs SA sn scap rs m w hm hcap hcm hf hr hsn hscm hss hsr hfw
  cases hsh : shortB rs
  · exact looks_x2 W H F L X Y nl nh xl xh y other A n cap fs SA sn scap rs m w hm hcap hcm hf hr hsn hscm hss hsr hfw hsh
  cases hst : stageB W H F L X Y
  · exact looks_x3 W H F L X Y nl nh xl xh y other A n cap fs SA sn scap rs m w hm hcap hcm hf hr hsn hscm hss hsr hfw hsh hst (by simp [askV])
  cases hsg : sightB W H rs
  · exact looks_x4 W H F L X Y nl nh xl xh y other A n cap fs SA sn scap rs m w hm hcap hcm hf hr hsn hscm hss hsr hfw hsh hst hsg (by simp [askV])
  rcases askV_iff (b := askB W H F L X Y nl nh xl xh y fs) with ⟨hak, hask⟩ | ⟨hak, _⟩
  rotate_left
  · exact looks_x5 W H F L X Y nl nh xl xh y other A n cap fs SA sn scap rs m w hm hcap hcm hf hr hsn hscm hss hsr hfw hsh hst hsg hak
  by_cases h0 : other < 0
  · exact looks_x6 W H F L X Y nl nh xl xh y other A n cap fs SA sn scap rs m w hm hcap hcm hf hr hsn hscm hss hsr hfw hsh hst hsg hak h0
  have hgood : goodQ W H F L X Y nl nh xl xh y fs rs = true := by simp only [goodQ, hask, hsg]; rfl
  have hdim := ask_dims hask
  obtain ⟨Wn, rfl⟩ : ∃ k : Nat, W = k := ⟨W.toNat, by omega⟩
  obtain ⟨Hn, rfl⟩ : ∃ k : Nat, H = k := ⟨H.toNat, by omega⟩
  obtain ⟨⟨d1, d2⟩, ⟨d3, d4⟩, _, _⟩ := hdim
  have hW : Wn ≤ 16 := by omega
  have hH : Hn ≤ 16 := by omega
  have hW1 : 1 ≤ Wn := by omega
  by_cases h1 : (Wn : Int) * Hn ≤ other
  · exact looks_x7 Wn Hn F L X Y nl nh xl xh y other A n cap fs SA sn scap rs m w hm hcap hcm hf hr hsn hscm hss hsr hfw hsh hst hsg hak h0 hW hH h1
  obtain ⟨ko, rfl⟩ : ∃ k : Nat, other = k := ⟨other.toNat, by omega⟩
  have hko : ko < Wn * Hn := by
    have : ((ko : Nat) : Int) < (Wn : Int) * Hn := by omega
    exact_mod_cast this
  obtain ⟨hl, hw⟩ := sight_rows hsg
  have hsnl := hsr.len
  have hsn3 : sn ≤ 10000 := by omega
  have hsz : (flatS rs).size = Wn * Hn := by have := (sight_size hsg).1; rw [Int.toNat_natCast, Int.toNat_natCast] at this; rw [this, Nat.mul_comm]
  have hq : ∀ k, k < Wn * Hn → k / Wn < rs.length := fun k hk => by rw [hl, Nat.div_lt_iff_lt_mul (by omega), Nat.mul_comm]; exact hk
  have hrow : ∀ k (hk : k < Wn * Hn), rs[k / Wn]? = some (rs[k / Wn]'(hq k hk)) ∧ (rs[k / Wn]'(hq k hk)).size = Wn := fun k hk => ⟨List.getElem?_eq_getElem _, hw _ (List.getElem_mem _)⟩
  have hcell : ∀ k (hk : k < Wn * Hn), (ltr (flatS rs))[k]? = (ltr (rs[k / Wn]'(hq k hk)))[k % Wn]? := fun k hk => flatS_cell (by omega) hw (hq k hk)
  have hsa : ∀ k (hk : k < Wn * Hn) (c : Int), seenAt rs Wn k c = rs.set (k / Wn) (seenRow (rs[k / Wn]'(hq k hk)) c (k % Wn)) := fun k hk c => by unfold seenAt; rw [(hrow k hk).1]; rfl
  have hnow := seenI_good hgood
  have hag : whoF Wn Hn F L X Y nl nh xl xh y fs rs = (agL Wn Hn F L X Y nl nh xl xh y fs rs).map Sh.f := rfl
  by_cases hag0 : (agL Wn Hn F L X Y nl nh xl xh y fs rs).length = 0
  · have e : nextE Wn Hn F L X Y nl nh xl xh y fs rs = 7 := by unfold nextE; rw [if_pos hgood, if_pos hag0]
    rw [hag, List.length_eq_zero_iff.1 hag0] at hnow
    exact looks_7 Wn Hn F L X Y nl nh xl xh y ko A n cap fs SA sn scap rs m w hm hcap hcm hf hr hsn hscm hss hsr hfw hsh hst hsg hak hW hH hko _ _ _ (by rw [hnow]; rfl) (Lib.hid rfl) (Lib.hid e) (Lib.hid rfl)
  have hne : agL Wn Hn F L X Y nl nh xl xh y fs rs ≠ [] := fun h => hag0 (by rw [h]; rfl)
  by_cases hun : (unseenL (flatS rs)).length = 0
  · have e : nextE Wn Hn F L X Y nl nh xl xh y fs rs = 5 := by unfold nextE; rw [if_pos hgood, if_neg hag0, if_pos hun]
    have hc0 : countR rs 63 = 0 := countR_none (fun z hz he => by
      subst he
      obtain ⟨k, hk, hz⟩ := List.getElem_of_mem hz
      have : ((k : Nat) : Int) ∈ unseenI rs := mem_unseenI.2 ⟨k, rfl, by rw [List.getElem?_eq_getElem hk, hz]⟩
      unfold unseenI at this
      rw [List.length_eq_zero_iff.1 hun] at this
      simp at this)
    have hpos : 0 < seenI Wn Hn F L X Y nl nh xl xh y fs rs := by
      rw [hnow, hag]
      obtain ⟨h, hh⟩ := List.exists_mem_of_ne_nil _ hne
      have hin : h.f ∈ uniq ((agL Wn Hn F L X Y nl nh xl xh y fs rs).map Sh.f) := mem_uniq.2 (List.mem_map.2 ⟨h, hh, rfl⟩)
      have := List.length_pos_of_mem hin
      omega
    exact looks_5 Wn Hn F L X Y nl nh xl xh y ko A n cap fs SA sn scap rs m w hm hcap hcm hf hr hsn hscm hss hsr hfw hsh hst hsg hak hW hH hko _ _ _ hpos (by omega) (fun r hr => by rw [hw r hr]; omega) (Lib.hid (by rw [show ((63 : Nat) : Int) = 63 from rfl, hc0]; rfl)) (Lib.hid rfl) (Lib.hid e) (Lib.hid rfl)
  have e : nextE Wn Hn F L X Y nl nh xl xh y fs rs = 0 := by unfold nextE; rw [if_pos hgood, if_neg hag0, if_neg hun]
  obtain ⟨c0, cs, hcs⟩ : ∃ c0 cs, unseenI rs = c0 :: cs := by
    cases h : unseenI rs with
    | nil => exact absurd (by have := congrArg List.length h; unfold unseenI at this; rw [List.length_map] at this; exact this) hun
    | cons c0 cs => exact ⟨c0, cs, rfl⟩
  obtain ⟨b1, b2, b3⟩ := bestP_spec (fun c => (mostN (agL Wn Hn F L X Y nl nh xl xh y fs rs) c.toNat : Int)) c0 cs (by rw [← hcs]; exact unseenI_sorted rs)
  have hnp : nextP Wn Hn F L X Y nl nh xl xh y fs rs = bestP (fun c => (mostN (agL Wn Hn F L X Y nl nh xl xh y fs rs) c.toNat : Int)) c0 cs := by unfold nextP; rw [if_pos hgood, if_neg hag0, hcs]
  rw [← hcs] at b2 b3
  obtain ⟨kn, hkn, hun2⟩ := mem_unseenI.1 b2
  have hkn2 : kn < Wn * Hn := by
    obtain ⟨h, _⟩ := List.getElem?_eq_some_iff.1 hun2
    rwa [ltr_len, hsz] at h
  rw [hkn, Int.toNat_natCast] at b1
  have hleft : ∀ k, k < Wn * Hn → (ltr (flatS rs))[k]? = some 63 → ∀ c, (c = 35 ∨ c = 46) → seenI Wn Hn F L X Y nl nh xl xh y fs (seenAt rs Wn k c) = (leftN (agL Wn Hn F L X Y nl nh xl xh y fs rs) k c : Nat) := fun k hk hu c hc => (seen_left hgood hk hu hc).2
  have hmax : ∀ k, (max ((leftN (agL Wn Hn F L X Y nl nh xl xh y fs rs) k 35 : Nat) : Int) ((leftN (agL Wn Hn F L X Y nl nh xl xh y fs rs) k 46 : Nat) : Int)) = (mostN (agL Wn Hn F L X Y nl nh xl xh y fs rs) k : Int) := fun k => by unfold mostN; omega
  have hrs : ∀ k, k < Wn * Hn → (ltr (flatS rs))[k]? = some 63 → ∀ c, (c = 35 ∨ c = 46) → ∀ r ∈ seenAt rs Wn k c, r.size ≤ maxLen := fun k hk hu c hc r hrm => by
    have := (sight_rows (seenAt_sight (by omega) hsg (by rw [hl, Nat.mul_comm]; exact hk) hc)).2 r hrm
    unfold maxLen; omega
  have hp : nextP Wn Hn F L X Y nl nh xl xh y fs rs = ((kn : Int), ((mostN (agL Wn Hn F L X Y nl nh xl xh y fs rs) kn : Nat) : Int)) := by
    rw [hnp]
    exact Prod.ext hkn b1
  have hle : ((mostN (agL Wn Hn F L X Y nl nh xl xh y fs rs) kn : Nat) : Int) ≤ seenI Wn Hn F L X Y nl nh xl xh y fs rs := by
    rw [hnow, hag]; have := mostN_le (agL Wn Hn F L X Y nl nh xl xh y fs rs) kn; omega
  have hpos : (1 : Int) ≤ ((mostN (agL Wn Hn F L X Y nl nh xl xh y fs rs) kn : Nat) : Int) := by have := mostN_pos (c := kn) hne; omega
  have hun3 := hun2
  rw [hcell kn hkn2] at hun3
  have hA : ∀ k (hk : k < Wn * Hn), (ltr (flatS rs))[k]? = some 63 → ∀ c, (c = 35 ∨ c = 46) → seenI Wn Hn F L X Y nl nh xl xh y fs (rs.set (k / Wn) (seenRow (rs[k / Wn]'(hq k hk)) c (k % Wn))) = (leftN (agL Wn Hn F L X Y nl nh xl xh y fs rs) k c : Nat) := fun k hk hu c hc => by rw [← hsa k hk]; exact hleft k hk hu c hc
  have hR : ∀ k (hk : k < Wn * Hn), (ltr (flatS rs))[k]? = some 63 → ∀ c, (c = 35 ∨ c = 46) → ∀ r ∈ rs.set (k / Wn) (seenRow (rs[k / Wn]'(hq k hk)) c (k % Wn)), r.size ≤ maxLen := fun k hk hu c hc => by rw [← hsa k hk]; exact hrs k hk hu c hc
  obtain ⟨zo, hzo⟩ : ∃ z, (ltr (flatS rs))[ko]? = some z := ⟨_, List.getElem?_eq_getElem (by rw [ltr_len, hsz]; exact hko)⟩
  have hzo2 := hzo
  rw [hcell ko hko] at hzo2
  by_cases hz63 : zo = 63
  · subst hz63
    have b4 := b3 (ko : Int) (mem_unseenI.2 ⟨ko, rfl, hzo⟩)
    try dsimp only at b4
    rw [Int.toNat_natCast, b1, hkn] at b4
    exact looks_0b Wn Hn F L X Y nl nh xl xh y ko A n cap fs SA sn scap rs m w hm hcap hcm hf hr hsn hscm hss hsr hfw hsh hst hsg hak hW hH hko _ _ kn _ _ hW1 hsn3 hkn2 (hrow kn hkn2).1 hun3 (hrow ko hko).1 _ _ (hrow kn hkn2).2 (hR kn hkn2 hun2 35 (.inl rfl)) (hR kn hkn2 hun2 46 (.inr rfl)) (Lib.hid (hA kn hkn2 hun2 35 (.inl rfl))) (Lib.hid (hA kn hkn2 hun2 46 (.inr rfl))) (by omega) (by omega) (Lib.hid (hmax kn)) hpos hle (hrow ko hko).2
      _ _ _ hzo2 (hrow ko hko).2 (hR ko hko hzo 35 (.inl rfl)) (hR ko hko hzo 46 (.inr rfl)) (Lib.hid (hA ko hko hzo 35 (.inl rfl))) (Lib.hid (hA ko hko hzo 46 (.inr rfl))) (by omega) (by omega) (Lib.hid (hmax ko)) b4.1 (by omega) (Lib.hid hp) (Lib.hid e) (Lib.hid rfl)
  · exact looks_0a Wn Hn F L X Y nl nh xl xh y ko A n cap fs SA sn scap rs m w hm hcap hcm hf hr hsn hscm hss hsr hfw hsh hst hsg hak hW hH hko _ _ kn _ _ hW1 hsn3 hkn2 (hrow kn hkn2).1 hun3 (hrow ko hko).1 _ _ (hrow kn hkn2).2 (hR kn hkn2 hun2 35 (.inl rfl)) (hR kn hkn2 hun2 46 (.inr rfl)) (Lib.hid (hA kn hkn2 hun2 35 (.inl rfl))) (Lib.hid (hA kn hkn2 hun2 46 (.inr rfl))) (by omega) (by omega) (Lib.hid (hmax kn)) hpos hle (hrow ko hko).2
      zo hzo2 hz63 (Lib.hid hp) (Lib.hid e) (Lib.hid rfl)
end Go.Proofs.YtifddfchpknkbaaGreatDoor
