import Derived.Test.YtifddfchpknkbaaGreatDoorK
import Derived.Test.YtifddfchpknkbaaGreatDoorE
import Derived.Test.YtifddfchpknkbaaGreatDoorP
set_option linter.unusedVariables false
set_option linter.unusedSimpArgs false
namespace Go.Proofs.YtifddfchpknkbaaGreatDoor
open Go.RowKit Go.Maps

/-- The tone of a cell of a string. -/
def chr (s : ByteArray) (c : Nat) : Int := ((ltr s)[c]?).getD 0
/-- The figures that may be seen once cell c has this tone. -/
def leftF (l : List Sh) (c : Nat) (tone : Int) : List Int := (l.filter fun h => !clB (chr h.s c) tone).map Sh.f
def leftN (l : List Sh) (c : Nat) (tone : Int) : Nat := (uniq (leftF l c tone)).length
def mostN (l : List Sh) (c : Nat) : Nat := max (leftN l c 35) (leftN l c 46)
theorem leftF_take (l : List Sh) (c : Nat) (tone : Int) (k : Nat) (h : k < l.length) : leftF (l.take (k + 1)) c tone = leftF (l.take k) c tone ++ (if clB (chr l[k].s c) tone then [] else [l[k].f]) := by
  unfold leftF
  rw [List.take_succ_eq_append_getElem h, List.filter_append, List.map_append]
  cases hc : clB (chr l[k].s c) tone <;> simp [hc]
theorem leftF_len (l : List Sh) (c : Nat) (tone : Int) : (leftF l c tone).length ≤ l.length := by
  unfold leftF; rw [List.length_map]; exact List.length_filter_le _ _
theorem chr_at (s : ByteArray) (c : Nat) (h : c < s.size) : chr s c = ((s[c]'h).toNat : Int) := by
  rw [chr, List.getElem?_eq_getElem (by rw [ltr_len]; exact h), ltr_at s c h]; rfl

set_option maxRecDepth 100000 in
theorem mostLeft_any (A : Option Addr) (n cap c : Nat) (l : List Sh) (w : World) (hn : n ≤ 100000) (hwf : ∀ h ∈ l, (Lit.int .i64 h.f).wf = true) (hc : ∀ h ∈ l, c < h.s.size ∧ h.s.size ≤ 100000) (hr : Rd w w.heap.size 5 A n (l.flatMap shC)) :
    Calls Tryz.prog 127 #[.slice A n cap, .int .i64 c] w fun e w' => e = .returned (.int .i64 (mostN l c)) ∧ Below w.heap.size w w' := by
  have hlen := hr.len5
  have hmm := @run_makeMap Tryz.prog
  have ix0 : ∀ w, (Instr.index 207 (.agg #[.int .u8 35, .int .u8 46]) (.int .i64 0)).run Tryz.prog w = .ok (.int .u8 35) w := fun _ => by kernel_rfl
  have ix1 : ∀ w, (Instr.index 207 (.agg #[.int .u8 35, .int .u8 46]) (.int .i64 1)).run Tryz.prog w = .ok (.int .u8 46) w := fun _ => by kernel_rfl
  go_enter Tryz.func127, Tryz.ntmps127
  go_wp2
  go_loopg [5, 12] 2 (fun g u i wr => ∃ k : Nat, g = 2 - k ∧ k ≤ 2 ∧ i = .int .i64 k ∧ u = .int .i64 ((if k = 0 then 0 else if k = 1 then leftN l c 35 else mostN l c : Nat)) ∧ Below w.heap.size w wr)
  case atStart => exact ⟨0, rfl, by omega, rfl, rfl, Below.refl _ _⟩
  case round =>
    obtain ⟨k, hg, hk, rfl, rfl, hB⟩ := hrel
    rename World => W0
    have HG0 := Lib.hid hg; clear hg
    obtain rfl | rfl | rfl : k = 0 ∨ k = 1 ∨ k = 2 := by omega
    · go_wp2
      go_loopg [18] n (fun g i wq => ∃ j : Nat, g = n - j ∧ j ≤ n ∧ i = .int .i64 j ∧ FMap wq W0.heap.size j (leftF (l.take j) c 35) ∧ Below w.heap.size w wq)
      case atStart => exact ⟨0, rfl, Nat.zero_le _, rfl, World.ownsMap_made _ _ _ _, hB.alloc hB.size _⟩
      case round =>
        have hbw := hB.size
        clear hB
        obtain ⟨j, hg2, hj, rfl, hown, hB⟩ := hrel
        have HG := Lib.hid hg2; clear hg2
        have HLEN := Lib.hid hlen; clear hlen
        by_cases hlt : j < n
        · obtain ⟨b, off, hz, rfl, hb, c0, c1, c2, c3, c4⟩ := (hr.below hB).at5 hlt
          have htk := leftF_take l c 35 j hz
          have hwk := hwf _ (List.getElem_mem hz)
          obtain ⟨hcs, hsm⟩ := hc _ (List.getElem_mem hz)
          generalize l[j] = h at *
          obtain ⟨f, hn0, x, y, s⟩ := h
          dsimp only at c0 c1 c2 c3 c4 hwk hcs hsm htk
          rw [chr_at s c hcs] at htk
          cases hcl : clB ((s[c]'hcs).toNat : Int) 35
          · rw [hcl] at htk
            have HTK := Lib.hid htk; clear htk
            go_wp2_with (first
              | (go_at_call 163; refine (clash_any _ _ _).mono ?_; rintro e w2 ⟨rfl, rfl⟩; rw [hcl])
              | (at_mapUpdate; refine wpList_mapUpdate_own _ rfl _ _ _ 157 rfl 3 4 (int_keyed Tryz.underlying3) Tryz.underlying157 _ W0.heap.size j _ rfl (hown.alloc _) (by unfold maxLen; omega) _ _ _ rfl rfl (keyOf_int_mk Tryz.underlying3 hwk) _ [] (plainElem_bool Tryz.underlying4 true) ?_; intro w1 hown1 hgrow1)
              | go_in)
            go_roundg (n - (j + 1))
            case measure => rw [HG.out]; omega
            case rel => exact ⟨j + 1, rfl, by omega, by go_num, by unfold FMap; rw [HTK.out]; simp only [Bool.false_eq_true, if_false]; rw [iset_snoc]; exact hown1, (hB.alloc hB.size _).grown hgrow1 (by have := hB.size; simp only [World.size_alloc]; omega) (fun g hg => by cases hg; exact hbw)⟩
          · rw [hcl] at htk
            have HTK := Lib.hid htk; clear htk
            go_wp2_with (first
              | (go_at_call 163; refine (clash_any _ _ _).mono ?_; rintro e w2 ⟨rfl, rfl⟩; rw [hcl])
              | go_in)
            go_roundg (n - (j + 1))
            case measure => rw [HG.out]; omega
            case rel => exact ⟨j + 1, rfl, by omega, by go_num, by rw [HTK.out]; simp only [if_true, List.append_nil]; exact (hown.alloc _).mono (Nat.le_succ _), hB.alloc hB.size _⟩
        · obtain rfl : j = n := by omega
          have hta : l.take j = l := List.take_of_length_le (by have := HLEN.out; omega)
          rw [hta] at hown
          have HMS := Lib.hid (iset_size (leftF l c 35))
          go_wp2_with (first
            | (at_len; refine wpList_len_own _ rfl _ 157 rfl 3 4 Tryz.underlying157 _ W0.heap.size j _ rfl hown ?_)
            | go_in)
          all_goals
            go_roundg (2 - 1)
            case measure => rw [HG0.out]; omega
            case rel => exact ⟨1, rfl, by omega, rfl, by have h1 := HMS.out; congr 1; simp; unfold leftN; omega, hB⟩
    · go_wp2
      go_loopg [18] n (fun g i wq => ∃ j : Nat, g = n - j ∧ j ≤ n ∧ i = .int .i64 j ∧ FMap wq W0.heap.size j (leftF (l.take j) c 46) ∧ Below w.heap.size w wq)
      case atStart => exact ⟨0, rfl, Nat.zero_le _, rfl, World.ownsMap_made _ _ _ _, hB.alloc hB.size _⟩
      case round =>
        have hbw := hB.size
        clear hB
        obtain ⟨j, hg2, hj, rfl, hown, hB⟩ := hrel
        have HG := Lib.hid hg2; clear hg2
        have HLEN := Lib.hid hlen; clear hlen
        by_cases hlt : j < n
        · obtain ⟨b, off, hz, rfl, hb, c0, c1, c2, c3, c4⟩ := (hr.below hB).at5 hlt
          have htk := leftF_take l c 46 j hz
          have hwk := hwf _ (List.getElem_mem hz)
          obtain ⟨hcs, hsm⟩ := hc _ (List.getElem_mem hz)
          generalize l[j] = h at *
          obtain ⟨f, hn0, x, y, s⟩ := h
          dsimp only at c0 c1 c2 c3 c4 hwk hcs hsm htk
          rw [chr_at s c hcs] at htk
          cases hcl : clB ((s[c]'hcs).toNat : Int) 46
          · rw [hcl] at htk
            have HTK := Lib.hid htk; clear htk
            go_wp2_with (first
              | (go_at_call 163; refine (clash_any _ _ _).mono ?_; rintro e w2 ⟨rfl, rfl⟩; rw [hcl])
              | (at_mapUpdate; refine wpList_mapUpdate_own _ rfl _ _ _ 157 rfl 3 4 (int_keyed Tryz.underlying3) Tryz.underlying157 _ W0.heap.size j _ rfl (hown.alloc _) (by unfold maxLen; omega) _ _ _ rfl rfl (keyOf_int_mk Tryz.underlying3 hwk) _ [] (plainElem_bool Tryz.underlying4 true) ?_; intro w1 hown1 hgrow1)
              | go_in)
            go_roundg (n - (j + 1))
            case measure => rw [HG.out]; omega
            case rel => exact ⟨j + 1, rfl, by omega, by go_num, by unfold FMap; rw [HTK.out]; simp only [Bool.false_eq_true, if_false]; rw [iset_snoc]; exact hown1, (hB.alloc hB.size _).grown hgrow1 (by have := hB.size; simp only [World.size_alloc]; omega) (fun g hg => by cases hg; exact hbw)⟩
          · rw [hcl] at htk
            have HTK := Lib.hid htk; clear htk
            go_wp2_with (first
              | (go_at_call 163; refine (clash_any _ _ _).mono ?_; rintro e w2 ⟨rfl, rfl⟩; rw [hcl])
              | go_in)
            go_roundg (n - (j + 1))
            case measure => rw [HG.out]; omega
            case rel => exact ⟨j + 1, rfl, by omega, by go_num, by rw [HTK.out]; simp only [if_true, List.append_nil]; exact (hown.alloc _).mono (Nat.le_succ _), hB.alloc hB.size _⟩
        · obtain rfl : j = n := by omega
          have hta : l.take j = l := List.take_of_length_le (by have := HLEN.out; omega)
          rw [hta] at hown
          have HMS := Lib.hid (iset_size (leftF l c 46))
          go_wp2_with (first
            | (at_len; refine wpList_len_own _ rfl _ 157 rfl 3 4 Tryz.underlying157 _ W0.heap.size j _ rfl hown ?_)
            | go_in)
          all_goals
            go_roundg (2 - 2)
            case measure => rw [HG0.out]; omega
            case rel => exact ⟨2, rfl, by omega, rfl, by have h1 := HMS.out; congr 1; simp [mostN]; unfold leftN at *; omega, hB⟩
    · go_wp2
      go_ret
      exact ⟨rfl, hB⟩
end Go.Proofs.YtifddfchpknkbaaGreatDoor

namespace Go.Proofs.YtifddfchpknkbaaGreatDoor
open Go.RowKit

/-- The first one with the least cost, and this cost. -/
def bestP (cost : Int → Int) (c0 : Int) (cs : List Int) : Int × Int := cs.foldl (fun p c => if cost c < p.2 then (c, cost c) else p) (c0, cost c0)
theorem bestP_snoc (cost : Int → Int) (c0 : Int) (cs : List Int) (c : Int) : bestP cost c0 (cs ++ [c]) = if cost c < (bestP cost c0 cs).2 then (c, cost c) else bestP cost c0 cs := by
  simp only [bestP, List.foldl_append, List.foldl_cons, List.foldl_nil]; rfl

theorem run_slice_lo {P : Program} (t e : TypeId) (sz : Nat) (ht : P.underlying t = some (.slice e)) (hs : ∀ w, (sizeOf e).run P w = .ok sz w) (A : Option Addr) (n cap : Nat) (kl : IntKind) (l : Nat) (h1 : l ≤ n) (h2 : n ≤ cap) (w : World) :
    (Instr.slice t (.slice A n cap) (some (.int kl l)) none none).run P w = .ok (.slice (cutA A cap l sz) (n - l) (cap - l)) w := by
  have e2 : 0 ≤ (l : Int) ∧ (l : Int) ≤ (n : Int) := by omega
  simp [Instr.slice, run_underlying ht, Instr.sliceBounds, Instr.sliceBound, asIntOf, hs, cutA, h1, h2]
set_option maxRecDepth 100000 in
theorem next1_any (b : Nat) (A : Option Addr) (n cap c : Nat) (l : List Sh) (w : World) (hb : w.cell? ⟨b, 0, none⟩ = some (.slice A n cap)) (hn : n ≤ 100000) (hwf : ∀ h ∈ l, (Lit.int .i64 h.f).wf = true) (hc : ∀ h ∈ l, c < h.s.size ∧ h.s.size ≤ 100000) (hr : Rd w w.heap.size 5 A n (l.flatMap shC)) :
    Calls Tryz.prog 126 #[.int .i64 c, .pointer (some ⟨b, 0, none⟩)] w fun e w' => e = .returned (.int .i64 (mostN l c)) ∧ Below w.heap.size w w' := by
  go_enter Tryz.func126, Tryz.ntmps126
  go_wp2_with (first | (go_at_call 127; refine (mostLeft_any A n cap c l _ hn hwf hc hr).mono ?_; rintro e w1 ⟨rfl, hb1⟩))
  go_ret
  exact ⟨rfl, hb1⟩

set_option maxRecDepth 100000 in
theorem best_any (b : Nat) (A : Option Addr) (n cap : Nat) (c0 : Int) (cs : List Int) (cost : Int → Int) (w : World) (hn : n ≤ cap) (hcm : n ≤ 100000) (hr : Rd w w.heap.size 1 A n ((c0 :: cs).map (Value.int .i64)))
    (hcost : ∀ c ∈ c0 :: cs, ∀ wr, Below w.heap.size w wr → Calls Tryz.prog 126 #[.int .i64 c, .pointer (some ⟨b, 0, none⟩)] wr fun e w' => e = .returned (.int .i64 (cost c)) ∧ Below wr.heap.size wr w') :
    Calls Tryz.prog 125 #[.slice A n cap, .func (.func 126) #[] #[.pointer (some ⟨b, 0, none⟩)]] w fun e w' => e = .returned (.tuple #[.int .i64 (bestP cost c0 cs).1, .int .i64 (bestP cost c0 cs).2]) ∧ Below w.heap.size w w' := by
  have hlen := hr.len
  have hn1 : n = cs.length + 1 := by rw [← hlen]; rfl
  obtain ⟨ab, off, hz, rfl, hab, hc0⟩ := hr.atm (show 0 < n by omega)
  simp only [List.getElem_cons_zero, Nat.add_zero] at hc0
  have h0 := hcost c0 (by simp)
  have hn' : n - 1 = cs.length := by omega
  have hr2 := hr.cutA' (k := 1) (m := n) (cap := cap) (by omega) (Nat.le_refl _) hn
  have hsl : ∀ w, (Instr.slice 87 (.slice (some ⟨ab, off, none⟩) n cap) (some (.int .i64 1)) none none).run Tryz.prog w = .ok (.slice (cutA (some ⟨ab, off, none⟩) cap 1 1) (n - 1) (cap - 1)) w := run_slice_lo (P := Tryz.prog) 87 3 1 Tryz.underlying87 (fun _ => by kernel_rfl) (some ⟨ab, off, none⟩) n cap .i64 1 (by omega) hn
  have h1n : 0 < n := by omega
  rw [hn'] at hr2 hsl
  generalize hA2 : cutA (some ⟨ab, off, none⟩) cap 1 1 = A2 at hsl hr2
  clear hA2
  have hdr : ((List.map (Value.int .i64) (c0 :: cs)).drop (1 * 1)).take (cs.length * 1) = cs.map (Value.int .i64) := by rw [List.take_of_length_le (by simp)]; rfl
  rw [hdr] at hr2
  clear hdr hn' hlen hr
  obtain ⟨m, hm⟩ : ∃ m, m = cs.length := ⟨_, rfl⟩
  rw [← hm] at hr2 hsl
  have hmle : m ≤ 100000 := by omega
  have HM := Lib.hid hm
  clear hm hn1
  go_enter Tryz.func125, Tryz.ntmps125
  go_wp2_with (first | (go_at_call 126; refine (h0 _ (Below.refl _ _)).mono ?_; rintro e w1 ⟨rfl, hb1⟩))
  go_loopg [6, 7, 20] m (fun g x y i wr => ∃ k : Nat, g = m - k ∧ k ≤ m ∧ i = .int .i64 k ∧ x = .int .i64 (bestP cost c0 (cs.take k)).1 ∧ y = .int .i64 (bestP cost c0 (cs.take k)).2 ∧ Below w.heap.size w wr)
  case atStart => exact ⟨0, rfl, Nat.zero_le _, rfl, rfl, rfl, hb1⟩
  case round =>
    clear hb1
    obtain ⟨k, hg, hk, rfl, rfl, rfl, hB⟩ := hrel
    have HG := Lib.hid hg; clear hg
    by_cases hlt : k < m
    · obtain ⟨xb, xo, hz, rfl, hxb, hc⟩ := (hr2.below hB).atm hlt
      have hmem : cs[k] ∈ c0 :: cs := List.mem_cons_of_mem _ (List.getElem_mem hz)
      have hk1 := hcost _ hmem _ hB
      have hbs : bestP cost c0 (cs.take (k + 1)) = if cost cs[k] < (bestP cost c0 (cs.take k)).2 then (cs[k], cost cs[k]) else bestP cost c0 (cs.take k) := by
        rw [List.take_succ_eq_append_getElem hz, bestP_snoc]
      generalize cs[k] = c at *
      have HBS := Lib.hid hbs; clear hbs
      generalize bestP cost c0 (cs.take k) = p at *
      obtain ⟨p1, p2⟩ := p
      dsimp only at HBS
      by_cases hq : cost c < p2
      · go_wp2_with (first | (go_at_call 126; refine hk1.mono ?_; rintro e w2 ⟨rfl, hb2⟩))
        go_roundg (m - (k + 1))
        case measure => rw [HG.out]; omega
        case rel => exact ⟨k + 1, rfl, by omega, by go_num, by rw [HBS.out, if_pos hq], by rw [HBS.out, if_pos hq], hB.trans (hb2.mono hB.size)⟩
      · go_wp2_with (first | (go_at_call 126; refine hk1.mono ?_; rintro e w2 ⟨rfl, hb2⟩))
        go_roundg (m - (k + 1))
        case measure => rw [HG.out]; omega
        case rel => exact ⟨k + 1, rfl, by omega, by go_num, by rw [HBS.out, if_neg (Int.not_lt.2 hq)], by rw [HBS.out, if_neg (Int.not_lt.2 hq)], hB.trans (hb2.mono hB.size)⟩
    · have hta : cs.take k = cs := List.take_of_length_le (by have := HM.out; omega)
      rw [hta]
      go_wp2
      go_ret2
      exact ⟨rfl, hB⟩
end Go.Proofs.YtifddfchpknkbaaGreatDoor

namespace Go.Proofs.YtifddfchpknkbaaGreatDoor
open Go.RowKit

def shadowRows (W H F L X Y N PX PY : Int) (rows : List ByteArray) : List ByteArray := if viewB W H F L X Y N PX PY rows then rowsOf (shS W H F L X Y N PX PY rows) W.toNat H.toNat else []
def errV (b : Bool) : Value := .int .i64 (if b then 0 else 2)
def ShadowPost (w : World) (b : Bool) (rs : List ByteArray) (e : Ending) (w' : World) : Prop := ∃ v, e = .returned (.tuple #[v, errV b]) ∧ w'.ownsRow w.heap.size 9 1 v rs.length (rs.map Value.string) ∧ Below w.heap.size w w'
set_option maxRecDepth 100000 in
set_option maxHeartbeats 1600000 in
theorem Shadow_any (W H F L X Y N PX PY : Int) (A : Option Addr) (n cap : Nat) (rows : List ByteArray) (w : World) (hcap : n ≤ cap) (hcm : cap ≤ maxLen) (hs : ∀ r ∈ rows, r.size ≤ maxLen) (hr : Rd w w.heap.size 1 A n (rows.map Value.string)) :
    Calls Tryz.prog 29 #[.agg #[.int .i64 W, .int .i64 H, .int .i64 F, .int .i64 L, .int .i64 X, .int .i64 Y], .agg #[.slice A n cap], .agg #[.int .i64 N, .int .i64 PX, .int .i64 PY]] w (ShadowPost w (viewB W H F L X Y N PX PY rows) (shadowRows W H F L X Y N PX PY rows)) := by
  have hn : n ≤ maxLen := Nat.le_trans hcap hcm
  unfold shadowRows
  cases hv : viewB W H F L X Y N PX PY rows
  · go_enter Tryz.func29, Tryz.ntmps29
    go_wp2_with (first | (go_at_call 100; refine (viewGood_any W H F L X Y N PX PY A n cap rows _ hn hs (rd4 hr _ _ _ _)).mono ?_; rintro e w1 ⟨rfl, hb1⟩; rw [hv]; have hB1 : Below w.heap.size w w1 := (pro4 w _ _ _ _).trans (hb1.mono (by simp only [World.size_alloc]; omega)); have hbv1 := (blk4 w _ _ _ 140 #[.int .i64 W, .int .i64 H, .int .i64 F, .int .i64 L, .int .i64 X, .int .i64 Y, .slice A n cap, .int .i64 N, .int .i64 PX, .int .i64 PY]).below hb1 (by simp only [World.size_alloc]; omega); have hcv1 := fun i => hbv1.cell i; have hlt1 := hbv1.lt; have hbs1 := (blk1 w _ _ _ 23 #[.int .i64 W, .int .i64 H, .int .i64 F, .int .i64 L, .int .i64 X, .int .i64 Y]).below hb1 (by simp only [World.size_alloc]; omega); have hcs1 := fun i => hbs1.cell i; have hlts1 := hbs1.lt))
    go_ret2
    exact ⟨_, rfl, World.ownsRow_nil _ _ _ _, hB1⟩
  · have hv2 := hv
    simp only [viewB, Bool.and_eq_true] at hv2
    obtain ⟨hv3, hv4, hv5⟩ := hv2
    obtain ⟨⟨a1, a2⟩, ⟨a3, a4⟩, ⟨a5, a6⟩, ⟨a7, a8⟩, ⟨a9, a10⟩, a11, a12⟩ := stageB_nums hv3
    obtain ⟨⟨b1, b2⟩, b3, b4, b5⟩ := figB_nums hv4
    obtain ⟨⟨c1, c2⟩, ⟨c3, c4⟩, c5, c6⟩ := placeB_nums hv5
    clear hv3 hv4 hv5
    have hsz := shS_le F L X Y N PX PY rows (show W ≤ 50 by omega) (show H ≤ 50 by omega)
    have hshsz := shS_size W H F L X Y N PX PY rows
    obtain ⟨sh, hsh⟩ : ∃ sh, sh = shS W H F L X Y N PX PY rows := ⟨_, rfl⟩
    rw [← hsh] at hsz hshsz ⊢
    have HSH := Lib.hid hsh; clear hsh
    have hcut0 : ∀ wq, Calls Tryz.prog 101 #[.string sh, .int .i64 W] wq fun e w' => ∃ v, e = .returned v ∧ w'.ownsRow wq.heap.size 9 1 v H.toNat ((rowsOf sh W.toNat H.toNat).map Value.string) ∧ Below wq.heap.size wq w' := fun wq => by
      have h := cut_any sh W.toNat H.toNat wq hshsz (by omega) (by omega)
      rwa [show ((W.toNat : Nat) : Int) = W by omega] at h
    have hcut := Lib.hid hcut0; clear hcut0
    go_enter Tryz.func29, Tryz.ntmps29
    go_wp2_with (first | (go_at_call 100; refine (viewGood_any W H F L X Y N PX PY A n cap rows _ hn hs (rd4 hr _ _ _ _)).mono ?_; rintro e w1 ⟨rfl, hb1⟩; rw [hv]; have hB1 : Below w.heap.size w w1 := (pro4 w _ _ _ _).trans (hb1.mono (by simp only [World.size_alloc]; omega)); have hbv1 := (blk4 w _ _ _ 140 #[.int .i64 W, .int .i64 H, .int .i64 F, .int .i64 L, .int .i64 X, .int .i64 Y, .slice A n cap, .int .i64 N, .int .i64 PX, .int .i64 PY]).below hb1 (by simp only [World.size_alloc]; omega); have hcv1 := fun i => hbv1.cell i; have hlt1 := hbv1.lt; have hbs1 := (blk1 w _ _ _ 23 #[.int .i64 W, .int .i64 H, .int .i64 F, .int .i64 L, .int .i64 X, .int .i64 Y]).below hb1 (by simp only [World.size_alloc]; omega); have hcs1 := fun i => hbs1.cell i; have hlts1 := hbs1.lt))
    clear hcv1 hcs1
    refine wp_region_G (fun w' => Blk w' (w.heap.size + 1 + 1 + 1) 140 #[.int .i64 W, .int .i64 H, .int .i64 F, .int .i64 L, .int .i64 X, .int .i64 Y, .slice A n cap, .int .i64 N, .int .i64 PX, .int .i64 PY] ∧ Blk w' w.heap.size 23 #[.int .i64 W, .int .i64 H, .int .i64 F, .int .i64 L, .int .i64 X, .int .i64 Y]) 6 (by kernel_rfl) ?_
    have hTT := And.intro hbv1 hbs1
    refine wpG_take (i := 0) (v := ?v0) rfl (by kernel_rfl) (by kernel_rfl) (by kernel_rfl) (by kernel_rfl) (fun _ _ _ h => h) (Or.inl ⟨by rfl, ?hy0⟩) hTT ?rest0
    case hy0 => intro wq hSw; have hq1 := fun i => hSw.1.cell i; have hq2 := fun i => hSw.2.cell i; go_simp <;> with_reducible rfl
    simp only [List.getElem_toArray, List.getElem_cons_zero, List.getElem_cons_succ, Act.put, List.setIfInBounds_toArray, List.set_cons_zero, List.set_cons_succ]
    refine wpG_take (i := 2) (v := ?v2) rfl (by kernel_rfl) (by kernel_rfl) (by kernel_rfl) (by kernel_rfl) (fun _ _ _ h => h) (Or.inl ⟨by rfl, ?hy2⟩) hTT ?rest2
    case hy2 => intro wq hSw; have hq1 := fun i => hSw.1.cell i; have hq2 := fun i => hSw.2.cell i; go_simp <;> with_reducible rfl
    simp only [List.getElem_toArray, List.getElem_cons_zero, List.getElem_cons_succ, Act.put, List.setIfInBounds_toArray, List.set_cons_zero, List.set_cons_succ]
    refine wpG_take (i := 3) (v := ?v3) rfl (by kernel_rfl) (by kernel_rfl) (by kernel_rfl) (by kernel_rfl) (fun _ _ _ h => h) (Or.inl ⟨by rfl, ?hy3⟩) hTT ?rest3
    case hy3 => intro wq hSw; have hq1 := fun i => hSw.1.cell i; have hq2 := fun i => hSw.2.cell i; go_simp <;> with_reducible rfl
    simp only [List.getElem_toArray, List.getElem_cons_zero, List.getElem_cons_succ, Act.put, List.setIfInBounds_toArray, List.set_cons_zero, List.set_cons_succ]
    refine wpG_one (i := 1) rfl (by kernel_rfl) (fun K hK => ?_)
    go_simp
    refine (shadow_int W H F L X Y N PX PY A n cap rows _ hcap hcm (by exact (hr.below hB1).more hB1.size) hv).mono ?_; rintro e w2 ⟨rfl, hb2⟩; rw [← HSH.out]
    have hbv2 := Blk.below (w := w1.drew) hbv1 hb2 hlt1; have hbs2 := Blk.below (w := w1.drew) hbs1 hb2 hlts1; have hB2 : Below w.heap.size w w2 := Below.trans (b := w1.drew) hB1.drew (hb2.mono hB1.size); clear hTT; have hTT := And.intro hbv2 hbs2; dsimp only
    refine hK _ _ (.inr hTT) ?_
    clear hK K
    try simp only [List.getElem_toArray, List.getElem_cons_zero, List.getElem_cons_succ, Act.put, List.setIfInBounds_toArray, List.set_cons_zero, List.set_cons_succ]
    refine wpG_one (i := 4) rfl (by kernel_rfl) (fun K hK => ?_)
    go_simp
    refine (hcut.out _).mono ?_; rintro e w3 ⟨v, rfl, hown, hb3⟩
    have hbv3 := hbv2.below hb3 hbv2.lt; have hbs3 := hbs2.below hb3 hbs2.lt; have hB3 := hB2.trans (hb3.mono hB2.size); clear hTT; have hTT := And.intro hbv3 hbs3; dsimp only
    refine hK _ _ (.inr hTT) ?_
    clear hK K
    try simp only [List.getElem_toArray, List.getElem_cons_zero, List.getElem_cons_succ, Act.put, List.setIfInBounds_toArray, List.set_cons_zero, List.set_cons_succ]
    refine wpG_take (i := 5) (v := ?v5) rfl (by kernel_rfl) (by kernel_rfl) (by kernel_rfl) (by kernel_rfl) (fun _ _ _ h => h) (Or.inl ⟨by rfl, ?hy5⟩) hTT ?rest5
    case hy5 => intro wq hSw; have hq1 := fun i => hSw.1.cell i; have hq2 := fun i => hSw.2.cell i; go_simp <;> with_reducible rfl
    simp only [List.getElem_toArray, List.getElem_cons_zero, List.getElem_cons_succ, Act.put, List.setIfInBounds_toArray, List.set_cons_zero, List.set_cons_succ]
    refine wpG_one (i := 6) rfl (by kernel_rfl) (fun K hK => ?_)
    go_simp
    refine hK _ _ (.inl rfl) ?_
    clear hK K
    try simp only [List.getElem_toArray, List.getElem_cons_zero, List.getElem_cons_succ, Act.put, List.setIfInBounds_toArray, List.set_cons_zero, List.set_cons_succ]
    refine wpG_done (by kernel_rfl) ?_ _
    go_wp2_with (fail)
    go_ret2
    exact ⟨v, rfl, by rw [rowsOf_len]; exact own_mono hown hB2.size, hB3⟩
end Go.Proofs.YtifddfchpknkbaaGreatDoor

namespace Go.Proofs.YtifddfchpknkbaaGreatDoor
open Go.RowKit

theorem ascii4 : asciiL [35, 43, 46, 63] := by intro z hz; simp at hz; omega
def sightRow (W : Int) (r : ByteArray) : Bool := decide ((r.size : Int) = W) && onlyB r [35, 43, 46, 63]
/-- A sight is as defined for a stage. -/
def sightB (W H : Int) (rs : List ByteArray) : Bool := decide ((rs.length : Int) = H) && rs.all (sightRow W)

set_option maxRecDepth 100000 in
theorem goodSight_any (W H F L X Y : Int) (A : Option Addr) (n cap : Nat) (rs : List ByteArray) (w : World) (hn : n ≤ maxLen) (hs : ∀ r ∈ rs, r.size ≤ maxLen) (hr : Rd w w.heap.size 1 A n (rs.map Value.string)) :
    Calls Tryz.prog 113 #[.agg #[.int .i64 W, .int .i64 H, .int .i64 F, .int .i64 L, .int .i64 X, .int .i64 Y], .slice A n cap] w fun e w' => e = .returned (.bool (sightB W H rs)) ∧ Below w.heap.size w w' := by
  have hlen := hr.len
  unfold maxLen at hn
  have hsb : sightB W H rs = (decide ((n : Int) = H) && rs.all (sightRow W)) := by rw [sightB, hlen]
  have HF := Lib.hid hsb; clear hsb
  have HL := Lib.hid hlen; clear hlen
  by_cases h1 : (n : Int) = H
  · have HH := Lib.hid h1; clear h1
    have hne : ((n : Int) != H) = false := by have := HH.out; simp; omega
    go_enter Tryz.func113, Tryz.ntmps113
    go_wp2
    have hbs := Blk.new w 23 #[.int .i64 W, .int .i64 H, .int .i64 F, .int .i64 L, .int .i64 X, .int .i64 Y]
    have hB := (Below.refl w.heap.size w).alloc (Nat.le_refl _) (.cells #[.int .i64 W, .int .i64 H, .int .i64 F, .int .i64 L, .int .i64 X, .int .i64 Y] 23)
    go_loopg [14] n (fun g i wr => ∃ k : Nat, g = n - k ∧ k ≤ n ∧ i = .int .i64 k ∧ (rs.take k).all (sightRow W) = true ∧ Below w.heap.size w wr ∧ Blk wr w.heap.size 23 #[.int .i64 W, .int .i64 H, .int .i64 F, .int .i64 L, .int .i64 X, .int .i64 Y])
    case atStart => exact ⟨0, rfl, Nat.zero_le _, rfl, rfl, hB, hbs⟩
    case round =>
      clear hB hbs
      obtain ⟨k, hg, hk, rfl, hall, hB, hbs⟩ := hrel
      have HG := Lib.hid hg; clear hg
      have HALL := Lib.hid hall; clear hall
      have hcs := fun i => hbs.cell i
      have hls := hbs.lt
      by_cases hlt : k < n
      · obtain ⟨b, off, hzk, rfl, hb, hc⟩ := (hr.below hB).atm hlt
        have ha := all_take (sightRow W) rs k hzk
        have hstop := all_stop (sightRow W) rs k hzk
        have hsk := hs _ (List.getElem_mem hzk)
        generalize rs[k] = r at *
        have HA := Lib.hid ha; have HST := Lib.hid hstop; have HSK := Lib.hid hsk; clear ha hstop hsk
        by_cases hq : (r.size : Int) = W
        · have hqq : ((r.size : Int) != W) = false := by simp; omega
          have hw : decide ((r.size : Int) = W) = true := by simpa using hq
          have HW := Lib.hid hw; clear hw hq
          cases ho : onlyB r [35, 43, 46, 63]
          · have hrf : sightRow W r = false := by simp [sightRow, ho]
            have HRF := Lib.hid hrf; clear hrf
            go_wp2_with (go_at_call 146; refine (only_rd r _ 4 4 [35, 43, 46, 63] _ HSK.out ascii4 (by decide) (by decide) (Rd.blk (Blk.new _ _ _) rfl (by simp))).mono ?_; rintro e w1 ⟨rfl, hb1⟩; rw [ho])
            go_ret
            exact ⟨ret_bool (by rw [HF.out, HST.out HRF.out]; simp), (hB.alloc hB.size _).trans (hb1.mono (by have := hB.size; simp; omega))⟩
          · have hrt : sightRow W r = true := by rw [sightRow, HW.out, ho]; rfl
            have HRT := Lib.hid hrt; clear hrt
            go_wp2_with (go_at_call 146; refine (only_rd r _ 4 4 [35, 43, 46, 63] _ HSK.out ascii4 (by decide) (by decide) (Rd.blk (Blk.new _ _ _) rfl (by simp))).mono ?_; rintro e w1 ⟨rfl, hb1⟩; rw [ho])
            go_roundg (n - (k + 1))
            case measure => rw [HG.out]; omega
            case rel => exact ⟨k + 1, rfl, by omega, by go_num, by rw [HA.out, HALL.out, HRT.out]; rfl, (hB.alloc hB.size _).trans (hb1.mono (by have := hB.size; simp; omega)), (hbs.alloc _).below hb1 (hbs.alloc _).lt⟩
        · have hqq : ((r.size : Int) != W) = true := by simp; omega
          have hrf : sightRow W r = false := by simp [sightRow]; intro h; omega
          have HRF := Lib.hid hrf; clear hrf
          go_wp2
          go_ret
          exact ⟨ret_bool (by rw [HF.out, HST.out HRF.out]; simp), hB⟩
      · have hta : rs.take k = rs := List.take_of_length_le (by have := HL.out; omega)
        rw [hta] at HALL
        go_wp2
        go_ret
        exact ⟨ret_bool (by rw [HF.out, HALL.out, decide_eq_true HH.out]; rfl), hB⟩
  · have hne : ((n : Int) != H) = true := by simp; omega
    go_enter Tryz.func113, Tryz.ntmps113
    go_wp2
    go_ret
    exact ⟨ret_bool (by rw [HF.out, decide_eq_false h1]; rfl), (Below.refl _ _).alloc (Nat.le_refl _) _⟩
end Go.Proofs.YtifddfchpknkbaaGreatDoor

namespace Go.Proofs.YtifddfchpknkbaaGreatDoor
open Go.RowKit

set_option maxRecDepth 100000 in
theorem shadesOf_any (A : Option Addr) (n cap : Nat) (l : List Sh) (fig : Int) (w : World) (hn : n ≤ 100000) (hr : Rd w w.heap.size 5 A n (l.flatMap shC)) :
    Calls Tryz.prog 166 #[.slice A n cap, .int .i64 fig] w fun e w' => ∃ v, e = .returned v ∧ w'.ownsRow w.heap.size 156 5 v (l.filter fun h => h.f == fig).length ((l.filter fun h => h.f == fig).flatMap shC) ∧ Below w.heap.size w w' := by
  obtain ⟨i0, hi, hz0, hz1', hz2'⟩ := info_parts info156
  have hlen := hr.len5
  go_enter Tryz.func166, Tryz.ntmps166
  go_wp2
  go_loopg [5, 10] n (fun g u i wr => ∃ (k : Nat) (m : Nat) (v0 : Value), g = n - k ∧ k ≤ n ∧ i = .int .i64 k ∧ u = v0 ∧ m = ((l.take k).filter fun h => h.f == fig).length ∧ wr.ownsRow w.heap.size 156 5 v0 m (((l.take k).filter fun h => h.f == fig).flatMap shC) ∧ Below w.heap.size w wr)
  case atStart => exact ⟨0, 0, _, rfl, Nat.zero_le _, rfl, rfl, rfl, World.ownsRow_nil _ _ _ _, Below.refl _ _⟩
  case round =>
    obtain ⟨k, m, v, hg, hk, rfl, rfl, hm, hown, hB⟩ := hrel
    obtain ⟨va, vc, rfl⟩ := own_slice hown
    have HG := Lib.hid hg; clear hg
    have hm2 : m ≤ 100000 := by have h1 := List.length_filter_le (fun h : Sh => h.f == fig) (l.take k); have h2 := List.length_take_le k l; omega
    have HM := Lib.hid hm; clear hm
    have HLEN := Lib.hid hlen; clear hlen
    by_cases hlt : k < n
    · obtain ⟨b, off, hz, rfl, hb, c0, c1, c2, c3, c4⟩ := (hr.below hB).at5 hlt
      have hft := filter_take (fun h : Sh => h.f == fig) l k hz
      generalize l[k] = h at *
      obtain ⟨f, hn0, x, y, s⟩ := h
      have HFT := Lib.hid hft; clear hft
      dsimp only at c0 c1 c2 c3 c4
      cases hq : (f == fig)
      · go_wp2
        go_roundg (n - (k + 1))
        case measure => rw [HG.out]; omega
        case rel => exact ⟨k + 1, m, _, rfl, by omega, by go_num, rfl, by rw [HFT.out, HM.out]; simp [hq], by rw [HFT.out]; simpa [hq] using hown.alloc _, hB.alloc hB.size _⟩
      · go_wp2_with (first
          | (at_builtin; refine wpList_append_any _ rfl _ _ 151 rfl w.heap.size 156 i0 (.agg #[.int .i64 0, .int .i64 0, .int .i64 0, .int .i64 0, .string ByteArray.empty]) 5 48 Tryz.underlying151 hi hz0 hz1' hz2' rfl (by decide) (.slice va m vc) m (((l.take k).filter fun h => h.f == fig).flatMap shC) rfl ((hown.alloc _).alloc _) (wr.heap.size + 1 + 1) (some ⟨wr.heap.size + 1, 0, none⟩) 1 1 (shC ⟨f, hn0, x, y, s⟩) rfl (Rd.blkN (blk2 wr _ 156 #[.int .i64 f, .int .i64 hn0, .int .i64 x, .int .i64 y, .string s]) rfl (Nat.lt_succ_self _)).reads (by simp [shC, Value.oneCell']) (by unfold maxLen; omega) (by omega) (by have := hB.size; simp only [World.size_alloc]; omega) (fun v' w' hown' hgrow hob => ?_))
          | go_in)
        go_roundg (n - (k + 1))
        case measure => rw [HG.out]; omega
        case rel => exact ⟨k + 1, m + 1, _, rfl, by omega, by go_num, rfl, by rw [HFT.out, HM.out]; simp [hq], by rw [HFT.out]; simpa [hq] using hown', ((hB.alloc hB.size _).alloc (by have := hB.size; simp only [World.size_alloc]; omega) _).grown hgrow (by have := hB.size; simp only [World.size_alloc]; omega) (fun g hg => (hown.lt g hg).1)⟩
    · have hta : l.take k = l := List.take_of_length_le (by have := HLEN.out; omega)
      rw [hta] at hown HM
      go_wp2
      go_ret
      exact ⟨_, rfl, by rw [← HM.out]; exact hown, hB⟩
end Go.Proofs.YtifddfchpknkbaaGreatDoor
