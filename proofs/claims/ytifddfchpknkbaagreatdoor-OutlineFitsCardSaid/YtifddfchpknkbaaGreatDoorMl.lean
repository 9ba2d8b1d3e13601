import Derived.Test.YtifddfchpknkbaaGreatDoorK2
import Derived.Test.YtifddfchpknkbaaGreatDoorC
import Derived.Test.YtifddfchpknkbaaGreatDoorF
set_option linter.unusedVariables false
set_option linter.unusedSimpArgs false
namespace Go.Proofs.YtifddfchpknkbaaGreatDoor
open Go.RowKit Go.Maps

/-- The tone of a cell of a string. -/
def chr (s : ByteArray) (c : Nat) : Int := ((ltr s)[c]?).getD 0
/-- The figures that may be seen once cell c has this tone. -/
def leftF (l : List Sh) (c : Nat) (tone : Int) : List Int := (l.filter fun h => !clB (chr h.s c) tone).map Sh.f
def leftN (l : List Sh) (c : Nat) (tone : Int) : Nat := (uniq (leftF l c tone)).length
def mostN (l : List Sh) (c : Nat) : Nat := max (leftN l c 35) (leftN l c 46)
theorem leftF_take (l : List Sh) (c : Nat) (tone : Int) (k : Nat) (h : k < l.length) : leftF (l.take (k + 1)) c tone = leftF (l.take k) c tone ++ (if clB (chr l[k].s c) tone then [] else [l[k].f]) := by
  unfold leftF
  rw [List.take_succ_eq_append_getElem h, List.filter_append, List.map_append]
  cases hc : clB (chr l[k].s c) tone <;> simp [hc]
theorem leftF_len (l : List Sh) (c : Nat) (tone : Int) : (leftF l c tone).length ≤ l.length := by
  unfold leftF; rw [List.length_map]; exact List.length_filter_le _ _
theorem chr_at (s : ByteArray) (c : Nat) (h : c < s.size) : chr s c = ((s[c]'h).toNat : Int) := by
  rw [chr, List.getElem?_eq_getElem (by rw [ltr_len]; exact h), ltr_at s c h]; rfl

set_option maxRecDepth 100000 in
theorem mostLeft_any (A : Option Addr) (n cap c : Nat) (l : List Sh) (w : World) (hn : n ≤ 100000) (hwf : ∀ h ∈ l, (Lit.int .i64 h.f).wf = true) (hc : ∀ h ∈ l, c < h.s.size ∧ h.s.size ≤ 100000) (hr : Rd w w.heap.size 5 A n (l.flatMap shC)) :
    Calls Tryz.prog 127 #[.slice A n cap, .int .i64 c] w fun e w' => e = .returned (.int .i64 (mostN l c)) ∧ Below w.heap.size w w' := by
  have hlen := hr.len5
  have hmm := @run_makeMap Tryz.prog
  have ix0 : ∀ w, (Instr.index 207 (.agg #[.int .u8 35, .int .u8 46]) (.int .i64 0)).run Tryz.prog w = .ok (.int .u8 35) w := fun _ => by kernel_rfl
  have ix1 : ∀ w, (Instr.index 207 (.agg #[.int .u8 35, .int .u8 46]) (.int .i64 1)).run Tryz.prog w = .ok (.int .u8 46) w := fun _ => by kernel_rfl
  go_enter Tryz.func127, Tryz.ntmps127
  go_wp2
  go_loopg [5, 12] 2 (fun g u i wr => ∃ k : Nat, g = 2 - k ∧ k ≤ 2 ∧ i = .int .i64 k ∧ u = .int .i64 ((if k = 0 then 0 else if k = 1 then leftN l c 35 else mostN l c : Nat)) ∧ Below w.heap.size w wr)
  case atStart => exact ⟨0, rfl, by omega, rfl, rfl, Below.refl _ _⟩
  case round =>
    obtain ⟨k, hg, hk, rfl, rfl, hB⟩ := hrel
    rename World => W0
    have HG0 := Lib.hid hg; clear hg
    obtain rfl | rfl | rfl : k = 0 ∨ k = 1 ∨ k = 2 := by omega
    · go_wp2
      go_loopg [18] n (fun g i wq => ∃ j : Nat, g = n - j ∧ j ≤ n ∧ i = .int .i64 j ∧ FMap wq W0.heap.size j (leftF (l.take j) c 35) ∧ Below w.heap.size w wq)
      case atStart => exact ⟨0, rfl, Nat.zero_le _, rfl, World.ownsMap_made _ _ _ _, hB.alloc hB.size _⟩
      case round =>
        have hbw := hB.size
        clear hB
        obtain ⟨j, hg2, hj, rfl, hown, hB⟩ := hrel
        have HG := Lib.hid hg2; clear hg2
        have HLEN := Lib.hid hlen; clear hlen
        by_cases hlt : j < n
        · obtain ⟨b, off, hz, rfl, hb, c0, c1, c2, c3, c4⟩ := (hr.below hB).at5 hlt
          have htk := leftF_take l c 35 j hz
          have hwk := hwf _ (List.getElem_mem hz)
          obtain ⟨hcs, hsm⟩ := hc _ (List.getElem_mem hz)
          generalize l[j] = h at *
          obtain ⟨f, hn0, x, y, s⟩ := h
          dsimp only at c0 c1 c2 c3 c4 hwk hcs hsm htk
          rw [chr_at s c hcs] at htk
          cases hcl : clB ((s[c]'hcs).toNat : Int) 35
          · rw [hcl] at htk
            have HTK := Lib.hid htk; clear htk
            go_wp2_with (first
              | (go_at_call 163; refine (clash_any _ _ _).mono ?_; rintro e w2 ⟨rfl, rfl⟩; rw [hcl])
              | (at_mapUpdate; refine wpList_mapUpdate_own _ rfl _ _ _ 157 rfl 3 4 (int_keyed Tryz.underlying3) Tryz.underlying157 _ W0.heap.size j _ rfl (hown.alloc _) (by unfold maxLen; omega) _ _ _ rfl rfl (keyOf_int_mk Tryz.underlying3 hwk) _ [] (plainElem_bool Tryz.underlying4 true) ?_; intro w1 hown1 hgrow1)
              | go_in)
            go_roundg (n - (j + 1))
            case measure => rw [HG.out]; omega
            case rel => exact ⟨j + 1, rfl, by omega, by go_num, by unfold FMap; rw [HTK.out]; simp only [Bool.false_eq_true, if_false]; rw [iset_snoc]; exact hown1, (hB.alloc hB.size _).grown hgrow1 (by have := hB.size; simp only [World.size_alloc]; omega) (fun g hg => by cases hg; exact hbw)⟩
          · rw [hcl] at htk
            have HTK := Lib.hid htk; clear htk
            go_wp2_with (first
              | (go_at_call 163; refine (clash_any _ _ _).mono ?_; rintro e w2 ⟨rfl, rfl⟩; rw [hcl])
              | go_in)
            go_roundg (n - (j + 1))
            case measure => rw [HG.out]; omega
            case rel => exact ⟨j + 1, rfl, by omega, by go_num, by rw [HTK.out]; simp only [if_true, List.append_nil]; exact (hown.alloc _).mono (Nat.le_succ _), hB.alloc hB.size _⟩
        · obtain rfl : j = n := by omega
          have hta : l.take j = l := List.take_of_length_le (by have := HLEN.out; omega)
          rw [hta] at hown
          have HMS := Lib.hid (iset_size (leftF l c 35))
          go_wp2_with (first
            | (at_len; refine wpList_len_own _ rfl _ 157 rfl 3 4 Tryz.underlying157 _ W0.heap.size j _ rfl hown ?_)
            | go_in)
          all_goals
            go_roundg (2 - 1)
            case measure => rw [HG0.out]; omega
            case rel => exact ⟨1, rfl, by omega, rfl, by have h1 := HMS.out; congr 1; simp; unfold leftN; omega, hB⟩
    · go_wp2
      go_loopg [18] n (fun g i wq => ∃ j : Nat, g = n - j ∧ j ≤ n ∧ i = .int .i64 j ∧ FMap wq W0.heap.size j (leftF (l.take j) c 46) ∧ Below w.heap.size w wq)
      case atStart => exact ⟨0, rfl, Nat.zero_le _, rfl, World.ownsMap_made _ _ _ _, hB.alloc hB.size _⟩
      case round =>
        have hbw := hB.size
        clear hB
        obtain ⟨j, hg2, hj, rfl, hown, hB⟩ := hrel
        have HG := Lib.hid hg2; clear hg2
        have HLEN := Lib.hid hlen; clear hlen
        by_cases hlt : j < n
        · obtain ⟨b, off, hz, rfl, hb, c0, c1, c2, c3, c4⟩ := (hr.below hB).at5 hlt
          have htk := leftF_take l c 46 j hz
          have hwk := hwf _ (List.getElem_mem hz)
          obtain ⟨hcs, hsm⟩ := hc _ (List.getElem_mem hz)
          generalize l[j] = h at *
          obtain ⟨f, hn0, x, y, s⟩ := h
          dsimp only at c0 c1 c2 c3 c4 hwk hcs hsm htk
          rw [chr_at s c hcs] at htk
          cases hcl : clB ((s[c]'hcs).toNat : Int) 46
          · rw [hcl] at htk
            have HTK := Lib.hid htk; clear htk
            go_wp2_with (first
              | (go_at_call 163; refine (clash_any _ _ _).mono ?_; rintro e w2 ⟨rfl, rfl⟩; rw [hcl])
              | (at_mapUpdate; refine wpList_mapUpdate_own _ rfl _ _ _ 157 rfl 3 4 (int_keyed Tryz.underlying3) Tryz.underlying157 _ W0.heap.size j _ rfl (hown.alloc _) (by unfold maxLen; omega) _ _ _ rfl rfl (keyOf_int_mk Tryz.underlying3 hwk) _ [] (plainElem_bool Tryz.underlying4 true) ?_; intro w1 hown1 hgrow1)
              | go_in)
            go_roundg (n - (j + 1))
            case measure => rw [HG.out]; omega
            case rel => exact ⟨j + 1, rfl, by omega, by go_num, by unfold FMap; rw [HTK.out]; simp only [Bool.false_eq_true, if_false]; rw [iset_snoc]; exact hown1, (hB.alloc hB.size _).grown hgrow1 (by have := hB.size; simp only [World.size_alloc]; omega) (fun g hg => by cases hg; exact hbw)⟩
          · rw [hcl] at htk
            have HTK := Lib.hid htk; clear htk
            go_wp2_with (first
              | (go_at_call 163; refine (clash_any _ _ _).mono ?_; rintro e w2 ⟨rfl, rfl⟩; rw [hcl])
              | go_in)
            go_roundg (n - (j + 1))
            case measure => rw [HG.out]; omega
            case rel => exact ⟨j + 1, rfl, by omega, by go_num, by rw [HTK.out]; simp only [if_true, List.append_nil]; exact (hown.alloc _).mono (Nat.le_succ _), hB.alloc hB.size _⟩
        · obtain rfl : j = n := by omega
          have hta : l.take j = l := List.take_of_length_le (by have := HLEN.out; omega)
          rw [hta] at hown
          have HMS := Lib.hid (iset_size (leftF l c 46))
          go_wp2_with (first
            | (at_len; refine wpList_len_own _ rfl _ 157 rfl 3 4 Tryz.underlying157 _ W0.heap.size j _ rfl hown ?_)
            | go_in)
          all_goals
            go_roundg (2 - 2)
            case measure => rw [HG0.out]; omega
            case rel => exact ⟨2, rfl, by omega, rfl, by have h1 := HMS.out; congr 1; simp [mostN]; unfold leftN at *; omega, hB⟩
    · go_wp2
      go_ret
      exact ⟨rfl, hB⟩
end Go.Proofs.YtifddfchpknkbaaGreatDoor

namespace Go.Proofs.YtifddfchpknkbaaGreatDoor
open Go.RowKit

/-- The first one with the least cost, and this cost. -/
def bestP (cost : Int → Int) (c0 : Int) (cs : List Int) : Int × Int := cs.foldl (fun p c => if cost c < p.2 then (c, cost c) else p) (c0, cost c0)
theorem bestP_snoc (cost : Int → Int) (c0 : Int) (cs : List Int) (c : Int) : bestP cost c0 (cs ++ [c]) = if cost c < (bestP cost c0 cs).2 then (c, cost c) else bestP cost c0 cs := by
  simp only [bestP, List.foldl_append, List.foldl_cons, List.foldl_nil]; rfl

theorem run_slice_lo {P : Program} (t e : TypeId) (sz : Nat) (ht : P.underlying t = some (.slice e)) (hs : ∀ w, (sizeOf e).run P w = .ok sz w) (A : Option Addr) (n cap : Nat) (kl : IntKind) (l : Nat) (h1 : l ≤ n) (h2 : n ≤ cap) (w : World) :
    (Instr.slice t (.slice A n cap) (some (.int kl l)) none none).run P w = .ok (.slice (cutA A cap l sz) (n - l) (cap - l)) w := by
  have e2 : 0 ≤ (l : Int) ∧ (l : Int) ≤ (n : Int) := by omega
  simp [Instr.slice, run_underlying ht, Instr.sliceBounds, Instr.sliceBound, asIntOf, hs, cutA, h1, h2]
set_option maxRecDepth 100000 in
theorem next1_any (b : Nat) (A : Option Addr) (n cap c : Nat) (l : List Sh) (w : World) (hb : w.cell? ⟨b, 0, none⟩ = some (.slice A n cap)) (hn : n ≤ 100000) (hwf : ∀ h ∈ l, (Lit.int .i64 h.f).wf = true) (hc : ∀ h ∈ l, c < h.s.size ∧ h.s.size ≤ 100000) (hr : Rd w w.heap.size 5 A n (l.flatMap shC)) :
    Calls Tryz.prog 126 #[.int .i64 c, .pointer (some ⟨b, 0, none⟩)] w fun e w' => e = .returned (.int .i64 (mostN l c)) ∧ Below w.heap.size w w' := by
  go_enter Tryz.func126, Tryz.ntmps126
  go_wp2_with (first | (go_at_call 127; refine (mostLeft_any A n cap c l _ hn hwf hc hr).mono ?_; rintro e w1 ⟨rfl, hb1⟩))
  go_ret
  exact ⟨rfl, hb1⟩

set_option maxRecDepth 100000 in
theorem best_any (b : Nat) (A : Option Addr) (n cap : Nat) (c0 : Int) (cs : List Int) (cost : Int → Int) (w : World) (hn : n ≤ cap) (hcm : n ≤ 100000) (hr : Rd w w.heap.size 1 A n ((c0 :: cs).map (Value.int .i64)))
    (hcost : ∀ c ∈ c0 :: cs, ∀ wr, Below w.heap.size w wr → Calls Tryz.prog 126 #[.int .i64 c, .pointer (some ⟨b, 0, none⟩)] wr fun e w' => e = .returned (.int .i64 (cost c)) ∧ Below wr.heap.size wr w') :
    Calls Tryz.prog 125 #[.slice A n cap, .func (.func 126) #[] #[.pointer (some ⟨b, 0, none⟩)]] w fun e w' => e = .returned (.tuple #[.int .i64 (bestP cost c0 cs).1, .int .i64 (bestP cost c0 cs).2]) ∧ Below w.heap.size w w' := by
  have hlen := hr.len
  have hn1 : n = cs.length + 1 := by rw [← hlen]; rfl
  obtain ⟨ab, off, hz, rfl, hab, hc0⟩ := hr.atm (show 0 < n by omega)
  simp only [List.getElem_cons_zero, Nat.add_zero] at hc0
  have h0 := hcost c0 (by simp)
  have hn' : n - 1 = cs.length := by omega
  have hr2 := hr.cutA' (k := 1) (m := n) (cap := cap) (by omega) (Nat.le_refl _) hn
  have hsl : ∀ w, (Instr.slice 87 (.slice (some ⟨ab, off, none⟩) n cap) (some (.int .i64 1)) none none).run Tryz.prog w = .ok (.slice (cutA (some ⟨ab, off, none⟩) cap 1 1) (n - 1) (cap - 1)) w := run_slice_lo (P := Tryz.prog) 87 3 1 Tryz.underlying87 (fun _ => by kernel_rfl) (some ⟨ab, off, none⟩) n cap .i64 1 (by omega) hn
  have h1n : 0 < n := by omega
  rw [hn'] at hr2 hsl
  generalize hA2 : cutA (some ⟨ab, off, none⟩) cap 1 1 = A2 at hsl hr2
  clear hA2
  have hdr : ((List.map (Value.int .i64) (c0 :: cs)).drop (1 * 1)).take (cs.length * 1) = cs.map (Value.int .i64) := by rw [List.take_of_length_le (by simp)]; rfl
  rw [hdr] at hr2
  clear hdr hn' hlen hr
  obtain ⟨m, hm⟩ : ∃ m, m = cs.length := ⟨_, rfl⟩
  rw [← hm] at hr2 hsl
  have hmle : m ≤ 100000 := by omega
  have HM := Lib.hid hm
  clear hm hn1
  go_enter Tryz.func125, Tryz.ntmps125
  go_wp2_with (first | (go_at_call 126; refine (h0 _ (Below.refl _ _)).mono ?_; rintro e w1 ⟨rfl, hb1⟩))
  go_loopg [6, 7, 20] m (fun g x y i wr => ∃ k : Nat, g = m - k ∧ k ≤ m ∧ i = .int .i64 k ∧ x = .int .i64 (bestP cost c0 (cs.take k)).1 ∧ y = .int .i64 (bestP cost c0 (cs.take k)).2 ∧ Below w.heap.size w wr)
  case atStart => exact ⟨0, rfl, Nat.zero_le _, rfl, rfl, rfl, hb1⟩
  case round =>
    clear hb1
    obtain ⟨k, hg, hk, rfl, rfl, rfl, hB⟩ := hrel
    have HG := Lib.hid hg; clear hg
    by_cases hlt : k < m
    · obtain ⟨xb, xo, hz, rfl, hxb, hc⟩ := (hr2.below hB).atm hlt
      have hmem : cs[k] ∈ c0 :: cs := List.mem_cons_of_mem _ (List.getElem_mem hz)
      have hk1 := hcost _ hmem _ hB
      have hbs : bestP cost c0 (cs.take (k + 1)) = if cost cs[k] < (bestP cost c0 (cs.take k)).2 then (cs[k], cost cs[k]) else bestP cost c0 (cs.take k) := by
        rw [List.take_succ_eq_append_getElem hz, bestP_snoc]
      generalize cs[k] = c at *
      have HBS := Lib.hid hbs; clear hbs
      generalize bestP cost c0 (cs.take k) = p at *
      obtain ⟨p1, p2⟩ := p
      dsimp only at HBS
      by_cases hq : cost c < p2
      · go_wp2_with (first | (go_at_call 126; refine hk1.mono ?_; rintro e w2 ⟨rfl, hb2⟩))
        go_roundg (m - (k + 1))
        case measure => rw [HG.out]; omega
        case rel => exact ⟨k + 1, rfl, by omega, by go_num, by rw [HBS.out, if_pos hq], by rw [HBS.out, if_pos hq], hB.trans (hb2.mono hB.size)⟩
      · go_wp2_with (first | (go_at_call 126; refine hk1.mono ?_; rintro e w2 ⟨rfl, hb2⟩))
        go_roundg (m - (k + 1))
        case measure => rw [HG.out]; omega
        case rel => exact ⟨k + 1, rfl, by omega, by go_num, by rw [HBS.out, if_neg (Int.not_lt.2 hq)], by rw [HBS.out, if_neg (Int.not_lt.2 hq)], hB.trans (hb2.mono hB.size)⟩
    · have hta : cs.take k = cs := List.take_of_length_le (by have := HM.out; omega)
      rw [hta]
      go_wp2
      go_ret2
      exact ⟨rfl, hB⟩
end Go.Proofs.YtifddfchpknkbaaGreatDoor
