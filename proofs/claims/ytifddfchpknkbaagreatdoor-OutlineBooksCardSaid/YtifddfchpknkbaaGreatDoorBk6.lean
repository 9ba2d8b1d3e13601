import Derived.Test.YtifddfchpknkbaaGreatDoorProg
import Derived.Test.YtifddfchpknkbaaGreatDoorBk0
import Derived.Test.YtifddfchpknkbaaGreatDoorBk5
import Derived.LoopTactic
import Derived.WalkMore
import Derived.Deep.LoopGhost
import Derived.Laws.MakeOwn
import Derived.OrdersHeld
import Derived.RangeFuncNested
set_option linter.unusedVariables false
set_option linter.unusedSimpArgs false
namespace Go.Proofs.YtifddfchpknkbaaGreatDoor
section
open Go.RowKit Go.Maps
theorem info57 : (Tryz.prog.info? 57).map (fun i => (i.zero, i.size, i.bytes)) = some (some (.int .i64 0), 1, 8) := by kernel_rfl
theorem made_at (z : Value) (m i : Nat) : (madeCells #[z] m)[i]? = if i < m then some z else none := by
  unfold madeCells
  by_cases h : i < m
  · simp [h, Nat.mod_one]
  · simp [h]
/-- The word of a figure, given the figures that may be seen. -/
def wordV (fs : List Int) (i : Nat) : Int := if fs.contains (i : Int) then (if 1 < (uniq fs).length then 2 else 3) else 1
def wordC (fs : List Int) (m k : Nat) : Array Value := ((List.range m).map fun i => Value.int .i64 (if i < k then wordV fs i else 0)).toArray
theorem wordC_set (fs : List Int) (m k : Nat) (v : Int) (hv : v = wordV fs k) : (wordC fs m k).setIfInBounds k (.int .i64 v) = wordC fs m (k + 1) := by
  apply Array.ext
  · simp [wordC]
  · intro i h1 h2
    have h1' := h1
    rw [Array.size_setIfInBounds] at h1'
    rw [Array.getElem_setIfInBounds h1']
    simp only [wordC, List.getElem_toArray, List.getElem_map, List.getElem_range]
    by_cases h : k = i
    · subst h; simp [hv]
    · simp only [h, if_false]
      by_cases h3 : i < k
      · simp [h3, Nat.lt_succ_of_lt h3]
      · have h4 : ¬ i < k + 1 := by omega
        simp [h3, h4]
theorem wordC_0 (fs : List Int) (m : Nat) : madeCells #[Value.int .i64 0] m = wordC fs m 0 := by
  apply Array.ext_getElem?
  intro i
  rw [made_at]
  by_cases h : i < m
  · simp [wordC, h]
  · simp [wordC, h]
theorem wordC_at (fs : List Int) (m k i : Nat) (h : i < m) : (wordC fs m k)[i]? = some (.int .i64 (if i < k then wordV fs i else 0)) := by
  simp [wordC, h]
/-- The words of all figures. -/
def wordsL (fs : List Int) (m : Nat) : List Int := (List.range m).map (wordV fs)
theorem wordC_end (fs : List Int) (m : Nat) : wordC fs m m = ((wordsL fs m).map (Value.int .i64)).toArray := by
  apply Array.ext
  · simp [wordC, wordsL]
  · intro i h1 h2
    have : i < m := by simpa [wordC] using h1
    simp [wordC, wordsL, this]
set_option maxRecDepth 100000 in
theorem words_any (b nb m : Nat) (fs : List Int) (w : World) (hm : m ≤ 1000) (hown : FMap w b nb fs) :
    Calls Tryz.prog 118 #[.map (some b), .int .i64 m] w fun e w' => e = .returned (.slice (some ⟨w.heap.size, 0, none⟩) m m) ∧ Blk w' w.heap.size 57 ((wordsL fs m).map (Value.int .i64)).toArray ∧ Below w.heap.size w w' := by
  obtain ⟨i0, hi, hz0, hz1', hz2'⟩ := info_parts info57
  have hmk0 := run_makeSlice (P := Tryz.prog) w 75 57 i0 (.int .i64 0) Tryz.underlying75 hi hz0 .i64 .i64 m m (by omega) (by omega) (by rw [hz1']; omega) (by rw [hz2']; omega) (by omega)
  have hmk : (Instr.makeSlice 75 (.int .i64 (m : Int)) (.int .i64 (m : Int))).run Tryz.prog w = .ok (.slice (some ⟨w.heap.size, 0, none⟩) m m) (w.alloc (.cells (wordC fs m 0) 57)) := by
    rw [← wordC_0 fs m]
    simpa [hz1', Value.cells] using hmk0
  clear hmk0
  have hlt0 := hown.lt
  obtain ⟨d, hd⟩ : ∃ d, d = Maps.size (iset fs) := ⟨_, rfl⟩
  have hd2 : (uniq fs).length = d := by rw [hd, iset_size]
  have HD := Lib.hid hd; have HD2 := Lib.hid hd2; clear hd hd2
  go_enter Tryz.func118, Tryz.ntmps118
  go_wp2
  go_loopg [10] m (fun g i wr => ∃ k : Nat, g = m - k ∧ k ≤ m ∧ i = .int .i64 k ∧ Blk wr w.heap.size 57 (wordC fs m k) ∧ FMap wr b nb fs ∧ Below w.heap.size w wr)
  case atStart => exact ⟨0, rfl, Nat.zero_le _, rfl, Blk.new _ _ _, hown.alloc _, (Below.refl _ _).alloc (Nat.le_refl _) _⟩
  case round =>
    clear hown
    obtain ⟨k, hg, hk, rfl, hb, hown, hB⟩ := hrel
    have HG := Lib.hid hg; clear hg
    have hq := hb.cell k
    have hfz := hb.frozen k
    have hltb := hb.lt
    have hbs : b ≠ w.heap.size := by omega
    by_cases hlt : k < m
    · have hwk : (Lit.int .i64 (k : Int)).wf = true := WalkArith.wf_i64 (by omega)
      rw [wordC_at fs m k k hlt] at hq
      cases hc : fs.contains (k : Int)
      · have hat := iset_at fs k
        rw [hc] at hat
        have HV := Lib.hid (show (1 : Int) = wordV fs k by simp only [wordV, hc]; rfl); clear hc
        have HAT := Lib.hid hat; clear hat
        go_wp2_with (first
          | (at_lookup; refine wpList_lookup_own_bool _ rfl _ _ 157 rfl 3 4 (int_keyed Tryz.underlying3) Tryz.underlying157 Tryz.underlying4 (zero4 _) b nb _ rfl hown _ _ rfl (keyOf_int_mk Tryz.underlying3 hwk) _ HAT.out ?_)
          | go_in)
        go_roundg (m - (k + 1))
        case measure => rw [HG.out]; omega
        case rel => exact ⟨k + 1, rfl, by omega, by go_num, by rw [← wordC_set fs m k 1 HV.out]; exact hb.set_ k _, hown.setCell hbs _, hB.setCell (p := ⟨w.heap.size, k, none⟩) (Nat.le_refl _) _⟩
      · have hat := iset_at fs k
        rw [hc] at hat
        have HAT := Lib.hid hat; clear hat
        by_cases hdd : 1 < d
        · have HV := Lib.hid (show (2 : Int) = wordV fs k by simp only [wordV, hc, HD2.out, hdd]; rfl); clear hc
          go_wp2_with (first
            | (at_lookup; refine wpList_lookup_own_bool _ rfl _ _ 157 rfl 3 4 (int_keyed Tryz.underlying3) Tryz.underlying157 Tryz.underlying4 (zero4 _) b nb _ rfl hown _ _ rfl (keyOf_int_mk Tryz.underlying3 hwk) _ HAT.out ?_)
            | (at_len; refine wpList_len_own _ rfl _ 157 rfl 3 4 Tryz.underlying157 _ b nb _ rfl hown ?_; rw [← HD.out])
            | go_in)
          go_roundg (m - (k + 1))
          case measure => rw [HG.out]; omega
          case rel => exact ⟨k + 1, rfl, by omega, by go_num, by rw [← wordC_set fs m k 2 HV.out]; exact hb.set_ k _, hown.setCell hbs _, hB.setCell (p := ⟨w.heap.size, k, none⟩) (Nat.le_refl _) _⟩
        · have HV := Lib.hid (show (3 : Int) = wordV fs k by simp only [wordV, hc, HD2.out, hdd]; rfl); clear hc
          go_wp2_with (first
            | (at_lookup; refine wpList_lookup_own_bool _ rfl _ _ 157 rfl 3 4 (int_keyed Tryz.underlying3) Tryz.underlying157 Tryz.underlying4 (zero4 _) b nb _ rfl hown _ _ rfl (keyOf_int_mk Tryz.underlying3 hwk) _ HAT.out ?_)
            | (at_len; refine wpList_len_own _ rfl _ 157 rfl 3 4 Tryz.underlying157 _ b nb _ rfl hown ?_; rw [← HD.out])
            | go_in)
          go_roundg (m - (k + 1))
          case measure => rw [HG.out]; omega
          case rel => exact ⟨k + 1, rfl, by omega, by go_num, by rw [← wordC_set fs m k 3 HV.out]; exact hb.set_ k _, hown.setCell hbs _, hB.setCell (p := ⟨w.heap.size, k, none⟩) (Nat.le_refl _) _⟩
    · obtain rfl : k = m := by omega
      go_wp2
      go_ret
      exact ⟨rfl, by rw [← wordC_end]; exact hb, hB⟩
end
section
open Go.RowKit Go.Maps
/-- The tone of a cell of a string. -/
def chr (s : ByteArray) (c : Nat) : Int := ((ltr s)[c]?).getD 0
/-- The figures that may be seen once cell c has this tone. -/
def leftF (l : List Sh) (c : Nat) (tone : Int) : List Int := (l.filter fun h => !clB (chr h.s c) tone).map Sh.f
def leftN (l : List Sh) (c : Nat) (tone : Int) : Nat := (uniq (leftF l c tone)).length
def mostN (l : List Sh) (c : Nat) : Nat := max (leftN l c 35) (leftN l c 46)
theorem leftF_take (l : List Sh) (c : Nat) (tone : Int) (k : Nat) (h : k < l.length) : leftF (l.take (k + 1)) c tone = leftF (l.take k) c tone ++ (if clB (chr l[k].s c) tone then [] else [l[k].f]) := by
  unfold leftF
  rw [List.take_succ_eq_append_getElem h, List.filter_append, List.map_append]
  cases hc : clB (chr l[k].s c) tone <;> simp [hc]
theorem chr_at (s : ByteArray) (c : Nat) (h : c < s.size) : chr s c = ((s[c]'h).toNat : Int) := by
  rw [chr, List.getElem?_eq_getElem (by rw [ltr_len]; exact h), ltr_at s c h]; rfl
set_option maxRecDepth 100000 in
theorem mostLeft_any (A : Option Addr) (n cap c : Nat) (l : List Sh) (w : World) (hn : n ≤ 100000) (hwf : ∀ h ∈ l, (Lit.int .i64 h.f).wf = true) (hc : ∀ h ∈ l, c < h.s.size ∧ h.s.size ≤ 100000) (hr : Rd w w.heap.size 5 A n (l.flatMap shC)) :
    Calls Tryz.prog 127 #[.slice A n cap, .int .i64 c] w fun e w' => e = .returned (.int .i64 (mostN l c)) ∧ Below w.heap.size w w' := by
  have hlen := hr.len5
  have hmm := @run_makeMap Tryz.prog
  have ix0 : ∀ w, (Instr.index 207 (.agg #[.int .u8 35, .int .u8 46]) (.int .i64 0)).run Tryz.prog w = .ok (.int .u8 35) w := fun _ => by kernel_rfl
  have ix1 : ∀ w, (Instr.index 207 (.agg #[.int .u8 35, .int .u8 46]) (.int .i64 1)).run Tryz.prog w = .ok (.int .u8 46) w := fun _ => by kernel_rfl
  go_enter Tryz.func127, Tryz.ntmps127
  go_wp2
  go_loopg [5, 12] 2 (fun g u i wr => ∃ k : Nat, g = 2 - k ∧ k ≤ 2 ∧ i = .int .i64 k ∧ u = .int .i64 ((if k = 0 then 0 else if k = 1 then leftN l c 35 else mostN l c : Nat)) ∧ Below w.heap.size w wr)
  case atStart => exact ⟨0, rfl, by omega, rfl, rfl, Below.refl _ _⟩
  case round =>
    obtain ⟨k, hg, hk, rfl, rfl, hB⟩ := hrel
    rename World => W0
    have HG0 := Lib.hid hg; clear hg
    obtain rfl | rfl | rfl : k = 0 ∨ k = 1 ∨ k = 2 := by omega
    · go_wp2
      go_loopg [18] n (fun g i wq => ∃ j : Nat, g = n - j ∧ j ≤ n ∧ i = .int .i64 j ∧ FMap wq W0.heap.size j (leftF (l.take j) c 35) ∧ Below w.heap.size w wq)
      case atStart => exact ⟨0, rfl, Nat.zero_le _, rfl, World.ownsMap_made _ _ _ _, hB.alloc hB.size _⟩
      case round =>
        have hbw := hB.size
        clear hB
        obtain ⟨j, hg2, hj, rfl, hown, hB⟩ := hrel
        have HG := Lib.hid hg2; clear hg2
        have HLEN := Lib.hid hlen; clear hlen
        by_cases hlt : j < n
        · obtain ⟨b, off, hz, rfl, hb, c0, c1, c2, c3, c4⟩ := (hr.below hB).at5 hlt
          have htk := leftF_take l c 35 j hz
          have hwk := hwf _ (List.getElem_mem hz)
          obtain ⟨hcs, hsm⟩ := hc _ (List.getElem_mem hz)
          generalize l[j] = h at *
          obtain ⟨f, hn0, x, y, s⟩ := h
          dsimp only at c0 c1 c2 c3 c4 hwk hcs hsm htk
          rw [chr_at s c hcs] at htk
          cases hcl : clB ((s[c]'hcs).toNat : Int) 35
          · rw [hcl] at htk
            have HTK := Lib.hid htk; clear htk
            go_wp2_with (first
              | (go_at_call 163; refine (clash_any _ _ _).mono ?_; rintro e w2 ⟨rfl, rfl⟩; rw [hcl])
              | (at_mapUpdate; refine wpList_mapUpdate_own _ rfl _ _ _ 157 rfl 3 4 (int_keyed Tryz.underlying3) Tryz.underlying157 _ W0.heap.size j _ rfl (hown.alloc _) (by unfold maxLen; omega) _ _ _ rfl rfl (keyOf_int_mk Tryz.underlying3 hwk) _ [] (plainElem_bool Tryz.underlying4 true) ?_; intro w1 hown1 hgrow1)
              | go_in)
            go_roundg (n - (j + 1))
            case measure => rw [HG.out]; omega
            case rel => exact ⟨j + 1, rfl, by omega, by go_num, by unfold FMap; rw [HTK.out]; simp only [Bool.false_eq_true, if_false]; rw [iset_snoc]; exact hown1, (hB.alloc hB.size _).grown hgrow1 (by have := hB.size; simp only [World.size_alloc]; omega) (fun g hg => by cases hg; exact hbw)⟩
          · rw [hcl] at htk
            have HTK := Lib.hid htk; clear htk
            go_wp2_with (first
              | (go_at_call 163; refine (clash_any _ _ _).mono ?_; rintro e w2 ⟨rfl, rfl⟩; rw [hcl])
              | go_in)
            go_roundg (n - (j + 1))
            case measure => rw [HG.out]; omega
            case rel => exact ⟨j + 1, rfl, by omega, by go_num, by rw [HTK.out]; simp only [if_true, List.append_nil]; exact (hown.alloc _).mono (Nat.le_succ _), hB.alloc hB.size _⟩
        · obtain rfl : j = n := by omega
          have hta : l.take j = l := List.take_of_length_le (by have := HLEN.out; omega)
          rw [hta] at hown
          have HMS := Lib.hid (iset_size (leftF l c 35))
          go_wp2_with (first
            | (at_len; refine wpList_len_own _ rfl _ 157 rfl 3 4 Tryz.underlying157 _ W0.heap.size j _ rfl hown ?_)
            | go_in)
          all_goals
            go_roundg (2 - 1)
            case measure => rw [HG0.out]; omega
            case rel => exact ⟨1, rfl, by omega, rfl, by have h1 := HMS.out; congr 1; simp; unfold leftN; omega, hB⟩
    · go_wp2
      go_loopg [18] n (fun g i wq => ∃ j : Nat, g = n - j ∧ j ≤ n ∧ i = .int .i64 j ∧ FMap wq W0.heap.size j (leftF (l.take j) c 46) ∧ Below w.heap.size w wq)
      case atStart => exact ⟨0, rfl, Nat.zero_le _, rfl, World.ownsMap_made _ _ _ _, hB.alloc hB.size _⟩
      case round =>
        have hbw := hB.size
        clear hB
        obtain ⟨j, hg2, hj, rfl, hown, hB⟩ := hrel
        have HG := Lib.hid hg2; clear hg2
        have HLEN := Lib.hid hlen; clear hlen
        by_cases hlt : j < n
        · obtain ⟨b, off, hz, rfl, hb, c0, c1, c2, c3, c4⟩ := (hr.below hB).at5 hlt
          have htk := leftF_take l c 46 j hz
          have hwk := hwf _ (List.getElem_mem hz)
          obtain ⟨hcs, hsm⟩ := hc _ (List.getElem_mem hz)
          generalize l[j] = h at *
          obtain ⟨f, hn0, x, y, s⟩ := h
          dsimp only at c0 c1 c2 c3 c4 hwk hcs hsm htk
          rw [chr_at s c hcs] at htk
          cases hcl : clB ((s[c]'hcs).toNat : Int) 46
          · rw [hcl] at htk
            have HTK := Lib.hid htk; clear htk
            go_wp2_with (first
              | (go_at_call 163; refine (clash_any _ _ _).mono ?_; rintro e w2 ⟨rfl, rfl⟩; rw [hcl])
              | (at_mapUpdate; refine wpList_mapUpdate_own _ rfl _ _ _ 157 rfl 3 4 (int_keyed Tryz.underlying3) Tryz.underlying157 _ W0.heap.size j _ rfl (hown.alloc _) (by unfold maxLen; omega) _ _ _ rfl rfl (keyOf_int_mk Tryz.underlying3 hwk) _ [] (plainElem_bool Tryz.underlying4 true) ?_; intro w1 hown1 hgrow1)
              | go_in)
            go_roundg (n - (j + 1))
            case measure => rw [HG.out]; omega
            case rel => exact ⟨j + 1, rfl, by omega, by go_num, by unfold FMap; rw [HTK.out]; simp only [Bool.false_eq_true, if_false]; rw [iset_snoc]; exact hown1, (hB.alloc hB.size _).grown hgrow1 (by have := hB.size; simp only [World.size_alloc]; omega) (fun g hg => by cases hg; exact hbw)⟩
          · rw [hcl] at htk
            have HTK := Lib.hid htk; clear htk
            go_wp2_with (first
              | (go_at_call 163; refine (clash_any _ _ _).mono ?_; rintro e w2 ⟨rfl, rfl⟩; rw [hcl])
              | go_in)
            go_roundg (n - (j + 1))
            case measure => rw [HG.out]; omega
            case rel => exact ⟨j + 1, rfl, by omega, by go_num, by rw [HTK.out]; simp only [if_true, List.append_nil]; exact (hown.alloc _).mono (Nat.le_succ _), hB.alloc hB.size _⟩
        · obtain rfl : j = n := by omega
          have hta : l.take j = l := List.take_of_length_le (by have := HLEN.out; omega)
          rw [hta] at hown
          have HMS := Lib.hid (iset_size (leftF l c 46))
          go_wp2_with (first
            | (at_len; refine wpList_len_own _ rfl _ 157 rfl 3 4 Tryz.underlying157 _ W0.heap.size j _ rfl hown ?_)
            | go_in)
          all_goals
            go_roundg (2 - 2)
            case measure => rw [HG0.out]; omega
            case rel => exact ⟨2, rfl, by omega, rfl, by have h1 := HMS.out; congr 1; simp [mostN]; unfold leftN at *; omega, hB⟩
    · go_wp2
      go_ret
      exact ⟨rfl, hB⟩
end
section
open Go.RowKit
/-- The first one with the least cost, and this cost. -/
def bestP (cost : Int → Int) (c0 : Int) (cs : List Int) : Int × Int := cs.foldl (fun p c => if cost c < p.2 then (c, cost c) else p) (c0, cost c0)
theorem bestP_snoc (cost : Int → Int) (c0 : Int) (cs : List Int) (c : Int) : bestP cost c0 (cs ++ [c]) = if cost c < (bestP cost c0 cs).2 then (c, cost c) else bestP cost c0 cs := by
  simp only [bestP, List.foldl_append, List.foldl_cons, List.foldl_nil]; rfl
theorem run_slice_lo {P : Program} (t e : TypeId) (sz : Nat) (ht : P.underlying t = some (.slice e)) (hs : ∀ w, (sizeOf e).run P w = .ok sz w) (A : Option Addr) (n cap : Nat) (kl : IntKind) (l : Nat) (h1 : l ≤ n) (h2 : n ≤ cap) (w : World) :
    (Instr.slice t (.slice A n cap) (some (.int kl l)) none none).run P w = .ok (.slice (cutA A cap l sz) (n - l) (cap - l)) w := by
  have e2 : 0 ≤ (l : Int) ∧ (l : Int) ≤ (n : Int) := by omega
  simp [Instr.slice, run_underlying ht, Instr.sliceBounds, Instr.sliceBound, asIntOf, hs, cutA, h1, h2]
set_option maxRecDepth 100000 in
theorem next1_any (b : Nat) (A : Option Addr) (n cap c : Nat) (l : List Sh) (w : World) (hb : w.cell? ⟨b, 0, none⟩ = some (.slice A n cap)) (hn : n ≤ 100000) (hwf : ∀ h ∈ l, (Lit.int .i64 h.f).wf = true) (hc : ∀ h ∈ l, c < h.s.size ∧ h.s.size ≤ 100000) (hr : Rd w w.heap.size 5 A n (l.flatMap shC)) :
    Calls Tryz.prog 126 #[.int .i64 c, .pointer (some ⟨b, 0, none⟩)] w fun e w' => e = .returned (.int .i64 (mostN l c)) ∧ Below w.heap.size w w' := by
  go_enter Tryz.func126, Tryz.ntmps126
  go_wp2_with (first | (go_at_call 127; refine (mostLeft_any A n cap c l _ hn hwf hc hr).mono ?_; rintro e w1 ⟨rfl, hb1⟩))
  go_ret
  exact ⟨rfl, hb1⟩
set_option maxRecDepth 100000 in
theorem best_any (b : Nat) (A : Option Addr) (n cap : Nat) (c0 : Int) (cs : List Int) (cost : Int → Int) (w : World) (hn : n ≤ cap) (hcm : n ≤ 100000) (hr : Rd w w.heap.size 1 A n ((c0 :: cs).map (Value.int .i64)))
    (hcost : ∀ c ∈ c0 :: cs, ∀ wr, Below w.heap.size w wr → Calls Tryz.prog 126 #[.int .i64 c, .pointer (some ⟨b, 0, none⟩)] wr fun e w' => e = .returned (.int .i64 (cost c)) ∧ Below wr.heap.size wr w') :
    Calls Tryz.prog 125 #[.slice A n cap, .func (.func 126) #[] #[.pointer (some ⟨b, 0, none⟩)]] w fun e w' => e = .returned (.tuple #[.int .i64 (bestP cost c0 cs).1, .int .i64 (bestP cost c0 cs).2]) ∧ Below w.heap.size w w' := by
  have hlen := hr.len
  have hn1 : n = cs.length + 1 := by rw [← hlen]; rfl
  obtain ⟨ab, off, hz, rfl, hab, hc0⟩ := hr.atm (show 0 < n by omega)
  simp only [List.getElem_cons_zero, Nat.add_zero] at hc0
  have h0 := hcost c0 (by simp)
  have hn' : n - 1 = cs.length := by omega
  have hr2 := hr.cutA' (k := 1) (m := n) (cap := cap) (by omega) (Nat.le_refl _) hn
  have hsl : ∀ w, (Instr.slice 87 (.slice (some ⟨ab, off, none⟩) n cap) (some (.int .i64 1)) none none).run Tryz.prog w = .ok (.slice (cutA (some ⟨ab, off, none⟩) cap 1 1) (n - 1) (cap - 1)) w := run_slice_lo (P := Tryz.prog) 87 3 1 Tryz.underlying87 (fun _ => by kernel_rfl) (some ⟨ab, off, none⟩) n cap .i64 1 (by omega) hn
  have h1n : 0 < n := by omega
  rw [hn'] at hr2 hsl
  generalize hA2 : cutA (some ⟨ab, off, none⟩) cap 1 1 = A2 at hsl hr2
  clear hA2
  have hdr : ((List.map (Value.int .i64) (c0 :: cs)).drop (1 * 1)).take (cs.length * 1) = cs.map (Value.int .i64) := by rw [List.take_of_length_le (by simp)]; rfl
  rw [hdr] at hr2
  clear hdr hn' hlen hr
  obtain ⟨m, hm⟩ : ∃ m, m = cs.length := ⟨_, rfl⟩
  rw [← hm] at hr2 hsl
  have hmle : m ≤ 100000 := by omega
  have HM := Lib.hid hm
  clear hm hn1
  go_enter Tryz.func125, Tryz.ntmps125
  go_wp2_with (first | (go_at_call 126; refine (h0 _ (Below.refl _ _)).mono ?_; rintro e w1 ⟨rfl, hb1⟩))
  go_loopg [6, 7, 20] m (fun g x y i wr => ∃ k : Nat, g = m - k ∧ k ≤ m ∧ i = .int .i64 k ∧ x = .int .i64 (bestP cost c0 (cs.take k)).1 ∧ y = .int .i64 (bestP cost c0 (cs.take k)).2 ∧ Below w.heap.size w wr)
  case atStart => exact ⟨0, rfl, Nat.zero_le _, rfl, rfl, rfl, hb1⟩
  case round =>
    clear hb1
    obtain ⟨k, hg, hk, rfl, rfl, rfl, hB⟩ := hrel
    have HG := Lib.hid hg; clear hg
    by_cases hlt : k < m
    · obtain ⟨xb, xo, hz, rfl, hxb, hc⟩ := (hr2.below hB).atm hlt
      have hmem : cs[k] ∈ c0 :: cs := List.mem_cons_of_mem _ (List.getElem_mem hz)
      have hk1 := hcost _ hmem _ hB
      have hbs : bestP cost c0 (cs.take (k + 1)) = if cost cs[k] < (bestP cost c0 (cs.take k)).2 then (cs[k], cost cs[k]) else bestP cost c0 (cs.take k) := by
        rw [List.take_succ_eq_append_getElem hz, bestP_snoc]
      generalize cs[k] = c at *
      have HBS := Lib.hid hbs; clear hbs
      generalize bestP cost c0 (cs.take k) = p at *
      obtain ⟨p1, p2⟩ := p
      dsimp only at HBS
      by_cases hq : cost c < p2
      · go_wp2_with (first | (go_at_call 126; refine hk1.mono ?_; rintro e w2 ⟨rfl, hb2⟩))
        go_roundg (m - (k + 1))
        case measure => rw [HG.out]; omega
        case rel => exact ⟨k + 1, rfl, by omega, by go_num, by rw [HBS.out, if_pos hq], by rw [HBS.out, if_pos hq], hB.trans (hb2.mono hB.size)⟩
      · go_wp2_with (first | (go_at_call 126; refine hk1.mono ?_; rintro e w2 ⟨rfl, hb2⟩))
        go_roundg (m - (k + 1))
        case measure => rw [HG.out]; omega
        case rel => exact ⟨k + 1, rfl, by omega, by go_num, by rw [HBS.out, if_neg (Int.not_lt.2 hq)], by rw [HBS.out, if_neg (Int.not_lt.2 hq)], hB.trans (hb2.mono hB.size)⟩
    · have hta : cs.take k = cs := List.take_of_length_le (by have := HM.out; omega)
      rw [hta]
      go_wp2
      go_ret2
      exact ⟨rfl, hB⟩
end
section
open Go.RowKit
/-- The first two shades that agree, as their figures. -/
def agIn (a : Sh) (others : List Sh) : Option (Int × Int) := others.findSome? fun b => if agreeB a.s b.s then some (a.f, b.f) else none
def agFirst (ones others : List Sh) : Option (Int × Int) := ones.findSome? fun a => agIn a others
theorem find_take {α β : Type} (f : α → Option β) (l : List α) (k : Nat) (h : k < l.length) (h0 : (l.take k).findSome? f = none) : (l.take (k + 1)).findSome? f = f l[k] := by
  rw [List.take_succ_eq_append_getElem h, List.findSome?_append, h0]; simp
theorem find_stop {α β : Type} (f : α → Option β) (l : List α) (k : Nat) (h : k < l.length) (h0 : (l.take k).findSome? f = none) (b : β) (hb : f l[k] = some b) : l.findSome? f = some b := by
  have e : l = l.take (k + 1) ++ l.drop (k + 1) := (List.take_append_drop _ _).symm
  rw [e, List.findSome?_append, find_take f l k h h0, hb]; rfl
def AgPost (w : World) (r : Option (Int × Int)) (e : Ending) (w' : World) : Prop := (match r with | none => e = .returned (.tuple #[]) | some (a, b) => e = .panicked [{ v := .iface 209 (.agg #[.int .i64 a, .int .i64 b]), recovered := false }]) ∧ Below w.heap.size w w'
set_option maxRecDepth 100000 in
theorem tellApart_any (A : Option Addr) (n cap : Nat) (A2 : Option Addr) (n2 cap2 : Nat) (l l2 : List Sh) (w : World) (hn : n ≤ 100000) (hn2 : n2 ≤ 100000) (m : Nat) (hs : ∀ h ∈ l, h.s.size = m) (hs2 : ∀ h ∈ l2, h.s.size = m) (hm : m ≤ 100000)
    (hr : Rd w w.heap.size 5 A n (l.flatMap shC)) (hr2 : Rd w w.heap.size 5 A2 n2 (l2.flatMap shC)) :
    Calls Tryz.prog 165 #[.slice A n cap, .slice A2 n2 cap2] w (AgPost w (agFirst l l2)) := by
  have hlen := hr.len5
  have hlen2 := hr2.len5
  go_enter Tryz.func165, Tryz.ntmps165
  go_wp2
  go_loopg [10] n (fun g i wr => ∃ k : Nat, g = n - k ∧ k ≤ n ∧ i = .int .i64 k ∧ (l.take k).findSome? (fun a => agIn a l2) = none ∧ Below w.heap.size w wr)
  case atStart => exact ⟨0, rfl, Nat.zero_le _, rfl, rfl, Below.refl _ _⟩
  case round =>
    obtain ⟨k, hg, hk, rfl, hno, hB⟩ := hrel
    have HG := Lib.hid hg; have HLEN := Lib.hid hlen; have HLEN2 := Lib.hid hlen2; clear hg hlen hlen2
    by_cases hlt : k < n
    · obtain ⟨b, off, hz, rfl, hb, c0, c1, c2, c3, c4⟩ := (hr.below hB).at5 hlt
      have hft := find_take (fun a => agIn a l2) l k hz hno
      have hfs := find_stop (fun a => agIn a l2) l k hz hno
      have hsz := hs _ (List.getElem_mem hz)
      generalize l[k] = h at *
      obtain ⟨f, hn0, x, y, s⟩ := h
      dsimp only at c0 c1 c2 c3 c4 hsz
      have HFT := Lib.hid hft; have HFS := Lib.hid hfs; have HNO := Lib.hid hno; clear hft hfs hno
      rename World => W0
      have hbx : Blk (W0.alloc (.cells #[.int .i64 f, .int .i64 hn0, .int .i64 x, .int .i64 y, .string s] 156)) W0.heap.size 156 #[.int .i64 f, .int .i64 hn0, .int .i64 x, .int .i64 y, .string s] := Blk.new _ _ _
      go_wp2
      go_loopg [16] n2 (fun g i wr => ∃ j : Nat, g = n2 - j ∧ j ≤ n2 ∧ i = .int .i64 j ∧ (l2.take j).findSome? (fun b => if agreeB s b.s then some (f, b.f) else none) = none ∧ Below w.heap.size w wr ∧ Blk wr W0.heap.size 156 #[.int .i64 f, .int .i64 hn0, .int .i64 x, .int .i64 y, .string s])
      case atStart => exact ⟨0, rfl, Nat.zero_le _, rfl, rfl, hB.alloc hB.size _, hbx⟩
      case round =>
        clear hB hbx c0 c1 c2 c3 c4
        obtain ⟨j, hg, hj, rfl, hno2, hB, hbx⟩ := hrel
        have HG2 := Lib.hid hg; clear hg
        by_cases hlt2 : j < n2
        · obtain ⟨b2, off2, hz2, rfl, hb2, d0, d1, d2, d3, d4⟩ := (hr2.below hB).at5 hlt2
          have hft2 := find_take (fun b => if agreeB s b.s then some (f, b.f) else none) l2 j hz2 hno2
          have hfs2 := find_stop (fun b => if agreeB s b.s then some (f, b.f) else none) l2 j hz2 hno2
          have hsz2 := hs2 _ (List.getElem_mem hz2)
          generalize l2[j] = h2 at *
          obtain ⟨f2, n20, x2, y2, s2⟩ := h2
          dsimp only at d0 d1 d2 d3 d4 hsz2 hft2 hfs2
          have hcx := fun i => hbx.cell i
          have hlx := hbx.lt
          have hle : s.size ≤ s2.size := by omega
          have hsm : s.size ≤ maxLen := by unfold maxLen; omega
          cases hag : agreeB s s2
          · rw [hag] at hft2
            have HFT2 := Lib.hid hft2; clear hft2 hfs2 hno2
            go_wp2_with (first | (go_at_call 159; refine (agree_any s s2 _ hsm hle).mono ?_; rintro e w1 ⟨rfl, hb1⟩; rw [hag]; have hB1 := (hB.alloc hB.size _).trans (hb1.mono (by have := hB.size; simp only [World.size_alloc]; omega)); have hbx1 := (hbx.alloc _).below hb1 (by simp only [World.size_alloc]; omega); clear hb1))
            go_roundg (n2 - (j + 1))
            case measure => rw [HG2.out]; omega
            case rel => exact ⟨j + 1, rfl, by omega, by go_num, by rw [HFT2.out]; rfl, hB1, hbx1⟩
          · rw [hag] at hfs2
            have hres : agIn ⟨f, hn0, x, y, s⟩ l2 = some (f, f2) := hfs2 _ rfl
            have hres2 : agFirst l l2 = some (f, f2) := HFS.out _ hres
            have HR := Lib.hid hres2; clear hft2 hfs2 hno2 hres hres2
            rw [HR.out]
            go_wp2_with (first | (go_at_call 159; refine (agree_any s s2 _ hsm hle).mono ?_; rintro e w1 ⟨rfl, hb1⟩; rw [hag]; have hB1 := (hB.alloc hB.size _).trans (hb1.mono (by have := hB.size; simp only [World.size_alloc]; omega)); have hbx1 := (hbx.alloc _).below hb1 (by simp only [World.size_alloc]; omega); have hcx1 := fun i => hbx1.cell i; have hby1 := (Blk.new wr 156 #[.int .i64 f2, .int .i64 n20, .int .i64 x2, .int .i64 y2, .string s2]).below hb1 (by simp); have hcy1 := fun i => hby1.cell i; have hl1 := hbx1.lt; have hl2 := hby1.lt; clear hb1))
            exact ⟨rfl, rfl, hB1⟩
        · have hta : l2.take j = l2 := List.take_of_length_le (by have := HLEN2.out; omega)
          rw [hta] at hno2
          have HNO2 := Lib.hid hno2; clear hno2
          go_wp2
          go_roundg (n - (k + 1))
          case measure => rw [HG.out]; omega
          case rel => exact ⟨k + 1, rfl, by omega, by go_num, by rw [HFT.out]; exact HNO2.out, hB⟩
    · have hta : l.take k = l := List.take_of_length_le (by have := HLEN.out; omega)
      rw [hta] at hno
      have hres : agFirst l l2 = none := hno
      rw [hres]
      clear hno
      go_wp2
      go_end0
      exact ⟨rfl, hB⟩
end
section
open Go.RowKit
def noDefer (ops : Array Oper) : Bool := ops.all fun o => match o.op with | .defer _ => false | _ => true
theorem noDefer_spec {ops : Array Oper} (h : noDefer ops = true) {i : Nat} {o : Oper} (ho : ops[i]? = some o) : ∀ c, o.op ≠ .defer c := by
  intro c hc
  have h1 := Array.all_eq_true'.1 h o (Array.mem_of_getElem? ho)
  rw [hc] at h1
  cases h1
theorem operIn {P : Program} {o : Oper} {a : Act} {w : World} {K : Act → World → Prop} {Q : Exit → Act → World → Prop} {l n : Nat} (hd : ∀ c, o.op ≠ .defer c) (h : Oper.wp P o a w K Q) :
    Oper.wpIn (Fence.wide.inRound l) n P o a w K Q := by
  refine ⟨fun _ _ => trivial, ?_⟩
  rw [show (Fence.wide.inRound l).round = some l from rfl, Oper.semAt_some l _ _ hd]
  unfold Oper.wp at h
  generalize (execOp a.eval o).run P w = r at h
  cases r with
  | ok x w' =>
    cases x with
    | value v => exact h
    | skip => exact h
    | defer d => exact h
    | enter f args => exact ⟨fun h0 => by simp [Fence.wide] at h0, CallsIn.inRound l (callsIn_wide.2 h)⟩
    | row row args =>
      refine ⟨fun h0 => by simp [Fence.wide] at h0, ?_⟩
      intro c cs _
      obtain ⟨v, w'', hR, hs⟩ := h c cs
      exact ⟨v, w'', hR, stepsIn_wide.2 hs⟩
    | _ => exact h.elim
  | halt x w' =>
    cases x with
    | panic v => exact h
    | _ => exact h.elim
theorem opsIn {P : Program} {ops : Array Oper} {Q : Exit → Act → World → Prop} {l n : Nat} (hd : noDefer ops = true) (hQ : ¬ LetsOut Q) :
    ∀ (lst : List Nat) (a : Act) (w : World), wpOps P ops Q lst a w → wpOpsIn (Fence.wide.inRound l) n P ops Q lst a w
  | [], _, _, h => h
  | i :: rest, a, w, h => by
    simp only [wpOps] at h
    simp only [wpOpsIn]
    cases ho : ops[i]? with
    | none => simp only [ho] at h; exact opsIn hd hQ rest a w h
    | some o =>
      simp only [ho] at h
      by_cases hw : Region.wanted o (yielded ops a.tmps) = true
      · simp only [hw, if_true] at h ⊢
        rcases h with h | h
        · exact operIn (noDefer_spec hd ho) (Oper.wp_mono (fun a w => opsIn hd hQ rest a w) h)
        · exact absurd h.2 hQ
      · simp only [hw, if_false, Bool.false_eq_true] at h ⊢
        exact ⟨fun _ _ => trivial, opsIn hd hQ rest _ w h⟩
theorem wpIn_region_G {P : Program} {ops : Array Oper} {Q : Exit → Act → World → Prop} {l n id : Nat} {a : Act} {w : World} (T : World → Prop) (L : Nat) (hm : P.follows .mixedOrders = true)
    (hd : noDefer ops = true) (hQ : ¬ LetsOut Q) (h : wpG P .any ops Q T L ops.size (Array.replicate ops.size false) a w.drew) : (Code.region id ops true).wpIn (Fence.wide.inRound l) n P Q a w :=
  wpIn_region_draw fun t => by
    simp only [Region.schedule, hm, Bool.true_or, if_true]
    exact opsIn hd hQ _ _ _ (wpAny_sound ops.size t _ a _ (wpAny_of_wpG _ _ _ _ h))
end
end Go.Proofs.YtifddfchpknkbaaGreatDoor
