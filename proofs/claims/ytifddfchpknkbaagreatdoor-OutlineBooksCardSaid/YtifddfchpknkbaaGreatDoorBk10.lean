import Derived.Test.YtifddfchpknkbaaGreatDoorProg
import Derived.Test.YtifddfchpknkbaaGreatDoorBk8
import Derived.Test.YtifddfchpknkbaaGreatDoorBk9
import Derived.Lib.OwnBridge
set_option linter.unusedVariables false
set_option linter.unusedSimpArgs false
namespace Go.Proofs.YtifddfchpknkbaaGreatDoor
section
open Go.RowKit
theorem info177 : (Tryz.prog.info? 177).map (fun i => (i.zero, i.size, i.bytes)) = some (some (.int .u64 0), 1, 8) := by kernel_rfl
theorem flat5_drop : ∀ (l : List Sh) (k : Nat), (l.flatMap shC).drop (k * 5) = (l.drop k).flatMap shC
  | [], k => by simp
  | h :: l, 0 => by simp
  | h :: l, k + 1 => by
    have e : (k + 1) * 5 = k * 5 + 5 := by omega
    rw [List.flatMap_cons, List.drop_succ_cons, e, ← flat5_drop l k, Nat.add_comm (k * 5) 5, ← List.drop_drop]
    rfl
theorem flat5_all (l : List Sh) (m : Nat) (h : l.length ≤ m) : (l.flatMap shC).take (m * 5) = l.flatMap shC := List.take_of_length_le (by rw [flat5_len]; omega)
def diffRow (cs : List Nat) (cn : Nat) (a : Sh) (rest : List Sh) : List Nat := (rest.filter fun b => a.f != b.f).map fun b => diffN a.s b.s cs cn
/-- Which of some cells tell each two shades of different figures. -/
def diffAll (cs : List Nat) (cn : Nat) : List Sh → List Nat
  | [] => []
  | a :: rest => diffRow cs cn a rest ++ diffAll cs cn rest
theorem diffAll_drop (cs : List Nat) (cn : Nat) (l : List Sh) (k : Nat) (h : k < l.length) : diffAll cs cn (l.drop k) = diffRow cs cn l[k] (l.drop (k + 1)) ++ diffAll cs cn (l.drop (k + 1)) := by
  rw [List.drop_eq_getElem_cons h]; rfl
theorem diffRow_drop (cs : List Nat) (cn : Nat) (a : Sh) (l : List Sh) (k : Nat) (h : k < l.length) : diffRow cs cn a (l.drop k) = (if a.f != l[k].f then [diffN a.s l[k].s cs cn] else []) ++ diffRow cs cn a (l.drop (k + 1)) := by
  have e := List.drop_eq_getElem_cons h
  generalize l[k] = b at *
  rw [e]
  unfold diffRow
  cases hq : (a.f != b.f) <;> simp [List.filter_cons, hq]
theorem mem_diffAll (cs : List Nat) (cn : Nat) : ∀ (l : List Sh) (d : Nat), d ∈ diffAll cs cn l → d < 2 ^ cn
  | [], d, h => by cases h
  | a :: rest, d, h => by
    rcases List.mem_append.1 h with h | h
    · obtain ⟨b, _, rfl⟩ := List.mem_map.1 h
      exact diffN_lt _ _ _ _
    · exact mem_diffAll cs cn rest d h
/-- What differences hands back: a slice with the same numbers. -/
def DiffPost (B : Nat) (ds : List Nat) (w : World) (e : Ending) (w' : World) : Prop :=
  ∃ v m, ∃ cs : List Nat, e = .returned v ∧ w'.ownsRow B 177 1 v m (cs.map u64V) ∧ m ≤ ds.length ∧ (∀ d, d ∈ cs ↔ d ∈ ds) ∧ Below B w w'
set_option maxRecDepth 100000 in
set_option maxHeartbeats 3200000 in
theorem differences_small (A : Option Addr) (n cap : Nat) (l : List Sh) (CA : Option Addr) (cn ccap sz : Nat) (cs : List Nat) (w : World) (hn : n ≤ 1000) (hcap : n ≤ cap) (hcn : cn ≤ 8) (hsm : (diffAll cs cn l).length ≤ 12)
    (hs : ∀ h ∈ l, h.s.size = sz) (hsz : sz ≤ 100000) (hcs : ∀ c ∈ cs, c < sz) (hr : Rd w w.heap.size 5 A n (l.flatMap shC)) (hcr : Rd w w.heap.size 1 CA cn (cs.map natV)) :
    Calls Tryz.prog 135 #[.slice A n cap, .slice CA cn ccap] w (DiffPost w.heap.size (diffAll cs cn l) w) := by
  obtain ⟨i0, hi, hz0, hz1', hz2'⟩ := info_parts info177
  have hlen := hr.len5
  go_enter Tryz.func135, Tryz.ntmps135
  go_wp2
  go_loopg [5, 12] n (fun g v i wr => ∃ (k m : Nat) (v0 : Value) (acc : List Nat), g = n - k ∧ k ≤ n ∧ i = .int .i64 k ∧ v = v0 ∧ m = acc.length ∧ acc ++ diffAll cs cn (l.drop k) = diffAll cs cn l ∧ wr.ownsRow w.heap.size 177 1 v0 m (acc.map u64V) ∧ Below w.heap.size w wr)
  case atStart => exact ⟨0, 0, _, [], rfl, Nat.zero_le _, rfl, rfl, rfl, rfl, World.ownsRow_nil _ _ _ _, Below.refl _ _⟩
  case round =>
    obtain ⟨k, m, v0, acc, hg, hk, rfl, rfl, hm, hacc, hown, hB⟩ := hrel
    obtain ⟨va, vc, rfl⟩ := own_slice hown
    have HG := Lib.hid hg; have HM := Lib.hid hm; have HLEN := Lib.hid hlen; clear hg hm hlen
    by_cases hlt : k < n
    · obtain ⟨b, off, hz, rfl, hb, c0, c1, c2, c3, c4⟩ := (hr.below hB).at5 hlt
      have hda := diffAll_drop cs cn l k hz
      rw [hda] at hacc
      have hs1 := hs _ (List.getElem_mem hz)
      have hr3 := hr.cutA' (k := k + 1) (m := n) (cap := cap) (by omega) (Nat.le_refl _) hcap
      rw [flat5_drop, flat5_all _ _ (by rw [List.length_drop]; have := HLEN.out; omega)] at hr3
      have hrs : ∀ h ∈ l.drop (k + 1), h.s.size = sz := fun h hh => hs h (List.mem_of_mem_drop hh)
      have hrl : (l.drop (k + 1)).length = n - (k + 1) := by rw [List.length_drop]; have := HLEN.out; omega
      have hsl : ∀ w, (Instr.slice 151 (.slice (some ⟨b, off, none⟩) n cap) (some (.int .i64 ((k : Int) + 1))) none none).run Tryz.prog w = .ok (.slice (cutA (some ⟨b, off, none⟩) cap (k + 1) 5) (n - (k + 1)) (cap - (k + 1))) w := run_slice_lo (P := Tryz.prog) 151 156 5 Tryz.underlying151 (fun _ => by kernel_rfl) (some ⟨b, off, none⟩) n cap .i64 (k + 1) (by omega) hcap
      generalize cutA (some ⟨b, off, none⟩) cap (k + 1) 5 = A3 at *
      generalize hrest : l.drop (k + 1) = rest at *
      have HREST := Lib.hid hrest; clear hrest
      generalize l[k] = h at *
      obtain ⟨f, nn, x, y, s⟩ := h
      dsimp only at c0 c1 c2 c3 c4 hs1
      have HACC := Lib.hid hacc; clear hacc hda
      have HRL := Lib.hid hrl; clear hrl
      obtain ⟨q, hq⟩ : ∃ q, q = n - (k + 1) := ⟨_, rfl⟩
      rw [← hq] at hr3 hsl HRL
      have hqn : q ≤ 1000 := by omega
      have HQ := Lib.hid hq; clear hq
      rename World => W0
      have hbx : Blk (W0.alloc (.cells #[.int .i64 f, .int .i64 nn, .int .i64 x, .int .i64 y, .string s] 156)) W0.heap.size 156 #[.int .i64 f, .int .i64 nn, .int .i64 x, .int .i64 y, .string s] := Blk.new _ _ _
      have hown' := hown.alloc (.cells #[.int .i64 f, .int .i64 nn, .int .i64 x, .int .i64 y, .string s] 156)
      have hB' := hB.alloc hB.size (.cells #[.int .i64 f, .int .i64 nn, .int .i64 x, .int .i64 y, .string s] 156)
      go_wp2
      go_loopg [5, 22] q (fun g v i wr => ∃ (j m : Nat) (v0 : Value) (acc : List Nat), g = q - j ∧ j ≤ q ∧ i = .int .i64 j ∧ v = v0 ∧ m = acc.length ∧ acc ++ (diffRow cs cn ⟨f, nn, x, y, s⟩ (rest.drop j) ++ diffAll cs cn rest) = diffAll cs cn l ∧ wr.ownsRow w.heap.size 177 1 v0 m (acc.map u64V) ∧ Blk wr W0.heap.size 156 #[.int .i64 f, .int .i64 nn, .int .i64 x, .int .i64 y, .string s] ∧ Below w.heap.size w wr)
      case atStart => exact ⟨0, m, _, acc, rfl, Nat.zero_le _, rfl, rfl, HM.out, HACC.out, hown', hbx, hB'⟩
      case round =>
        clear hown hB hown' hB' hbx HM HACC c0 c1 c2 c3 c4
        obtain ⟨j, m, v0, acc, hg, hj, rfl, rfl, hm, hacc, hown, hbx, hB⟩ := hrel
        obtain ⟨va, vc, rfl⟩ := own_slice hown
        have HG2 := Lib.hid hg; clear hg
        by_cases hlt2 : j < q
        · obtain ⟨b2, off2, hz2, rfl, hb2, d0, d1, d2, d3, d4⟩ := (hr3.below hB).at5 hlt2
          have hdr := diffRow_drop cs cn ⟨f, nn, x, y, s⟩ rest j hz2
          have hs2 := hrs _ (List.getElem_mem hz2)
          rw [hdr] at hacc
          generalize rest[j] = h2 at *
          obtain ⟨f2, n2, x2, y2, s2⟩ := h2
          dsimp only at d0 d1 d2 d3 d4 hs2 hacc
          have hcx := fun i => hbx.cell i
          have hlx := hbx.lt
          by_cases hff : f = f2
          · have hne : (f != f2) = false := by simp [hff]
            rw [hne] at hacc
            have HACC := Lib.hid hacc; have HM := Lib.hid hm; clear hacc hm hdr
            go_wp2
            go_roundg (q - (j + 1))
            case measure => rw [HG2.out]; omega
            case rel => exact ⟨j + 1, m, _, acc, rfl, by omega, by go_num, rfl, HM.out, HACC.out, hown.alloc _, hbx.alloc _, hB.alloc hB.size _⟩
          · have hne : (f != f2) = true := by simp [hff]
            rw [hne] at hacc
            have hm2 : m ≤ 12 := by have h1 := congrArg List.length hacc; simp only [List.length_append] at h1; omega
            have HACC := Lib.hid hacc; have HM := Lib.hid hm; clear hacc hm hdr
            have hby : Blk (wr.alloc (.cells #[.int .i64 f2, .int .i64 n2, .int .i64 x2, .int .i64 y2, .string s2] 156)) wr.heap.size 156 #[.int .i64 f2, .int .i64 n2, .int .i64 x2, .int .i64 y2, .string s2] := Blk.new _ _ _
            have hown2 := hown.alloc (.cells #[.int .i64 f2, .int .i64 n2, .int .i64 x2, .int .i64 y2, .string s2] 156)
            have hbx2 := hbx.alloc (.cells #[.int .i64 f2, .int .i64 n2, .int .i64 x2, .int .i64 y2, .string s2] 156)
            have hB2 := hB.alloc hB.size (.cells #[.int .i64 f2, .int .i64 n2, .int .i64 x2, .int .i64 y2, .string s2] 156)
            go_wp2_with (first
              | (go_at_call 167; refine (difference_any ⟨f, nn, x, y, s⟩ ⟨f2, n2, x2, y2, s2⟩ CA cn ccap cs (wr.alloc (.cells #[.int .i64 f2, .int .i64 n2, .int .i64 x2, .int .i64 y2, .string s2] 156)) hcn (fun c hc => by have := hcs c hc; dsimp only; omega) (fun c hc => by have := hcs c hc; dsimp only; omega) (by dsimp only; omega) ((hcr.below hB2).more hB2.size)).mono ?_; rintro e w1 ⟨rfl, hb1⟩; have own1 := ownsRow_below' hown2 hb1; have hbx1 := hbx2.below hb1 hbx2.lt; have hB1 := hB2.trans (hb1.mono hB2.size); dsimp only)
              | (at_builtin; refine wpList_append_any _ rfl _ _ 175 rfl w.heap.size 177 i0 (.int .u64 0) 1 8 Tryz.underlying175 hi hz0 hz1' hz2' rfl (by decide) (.slice va m vc) m (acc.map u64V) rfl (own1.alloc _) (w1.heap.size + 1) (some ⟨w1.heap.size, 0, none⟩) 1 1 [.int .u64 (diffN s s2 cs cn : Int)] rfl (Rd.blkN (Blk.new _ _ _) rfl (Nat.lt_succ_self _)).reads (by simp [Value.oneCell']) (by unfold maxLen; omega) (by omega) (by have := hB1.size; simp only [World.size_alloc]; omega) (fun v' w' hown' hgrow hob => ?_))
              | go_in)
            go_roundg (q - (j + 1))
            case measure => rw [HG2.out]; omega
            case rel => exact ⟨j + 1, m + 1, _, acc ++ [diffN s s2 cs cn], rfl, by omega, by go_num, rfl, by rw [HM.out]; simp, by rw [← HACC.out]; simp, by rw [List.map_append]; exact hown', (hbx1.alloc _).kept_own (own1.alloc _) (by decide) hgrow, (hB1.alloc hB1.size _).grown hgrow (by have := hB1.size; simp only [World.size_alloc]; omega) (fun g hg => (own1.lt g hg).1)⟩
        · obtain rfl : j = q := by omega
          have hdn : rest.drop j = [] := List.drop_eq_nil_of_le (by rw [HRL.out]; exact Nat.le_refl _)
          rw [hdn] at hacc
          have HACC := Lib.hid hacc; have HM := Lib.hid hm; clear hacc hm
          go_wp2
          go_roundg (n - (k + 1))
          case measure => rw [HG.out]; omega
          case rel => exact ⟨k + 1, m, _, acc, rfl, by omega, by go_num, rfl, HM.out, by rw [HREST.out]; have e := HACC.out; simpa [diffRow] using e, hown, hB⟩
    · obtain rfl : k = n := by omega
      have hdn : l.drop k = [] := List.drop_eq_nil_of_le (by have := HLEN.out; omega)
      have hacc2 : acc = diffAll cs cn l := by rw [hdn] at hacc; simpa [diffAll] using hacc
      have hm12 : m ≤ 12 := by have := HM.out; rw [hacc2] at this; omega
      have HACC := Lib.hid hacc2; clear hacc hacc2
      go_wp2_with (first
        | (go_at_call 168; refine (sort_small w.heap.size m _ acc _ hm12 hB.size hown).mono ?_; rintro e w1 ⟨rfl, ⟨ds1, hp, own1⟩, hb1⟩; have hB1 := hB.trans hb1; clear hb1)
        | (go_at_call 169; refine (compact_any w.heap.size m _ ds1 _ (by omega) own1).mono ?_; rintro e w2 ⟨v2, m2, cs2, rfl, own2, hm2, hmem, hb2⟩))
      go_ret
      refine ⟨_, m2, cs2, rfl, own2, ?_, fun d => ?_, hB1.trans hb2⟩
      · rw [← HACC.out, ← hp.length_eq]; exact hm2
      · rw [hmem, hp.mem_iff, HACC.out]
end
section
open Go.RowKit
/-- The first way to choose so many more cells, from one on, that tell. -/
def fewR (ds cells : List Nat) : Nat → Nat → Nat → Option (List Nat)
  | 0, _, set => if tellB ds set then some [] else none
  | left + 1, lo, set => ((List.range (cells.length + 1 - (left + 1))).filter fun n => decide (lo ≤ n)).findSome? fun n => (fewR ds cells left (n + 1) (set ||| 2 ^ n)).map fun ext => cells.getD n 0 :: ext
def fewUp (ds cells : List Nat) (left lo set q : Nat) : Option (List Nat) := ((List.range q).filter fun n => decide (lo ≤ n)).findSome? fun n => (fewR ds cells left (n + 1) (set ||| 2 ^ n)).map fun ext => cells.getD n 0 :: ext
theorem fewUp_succ (ds cells : List Nat) (left lo set q : Nat) (h : lo ≤ q) (h0 : fewUp ds cells left lo set q = none) : fewUp ds cells left lo set (q + 1) = (fewR ds cells left (q + 1) (set ||| 2 ^ q)).map fun ext => cells.getD q 0 :: ext := by
  unfold fewUp at *
  rw [List.range_succ, List.filter_append, List.findSome?_append, h0]
  simp [h]
theorem fewUp_start (ds cells : List Nat) (left lo set : Nat) : fewUp ds cells left lo set lo = none := by
  unfold fewUp
  have : (List.range lo).filter (fun n => decide (lo ≤ n)) = [] := by
    rw [List.filter_eq_nil_iff]; intro o ho; have := List.mem_range.1 ho; simp; omega
  rw [this]; rfl
theorem fewUp_stop (ds cells : List Nat) (left lo set : Nat) (r : List Nat) : ∀ (q m : Nat), q ≤ m → fewUp ds cells left lo set q = some r → fewUp ds cells left lo set m = some r := by
  intro q m hqm h
  induction m with
  | zero => obtain rfl : q = 0 := by omega
            exact h
  | succ m ih =>
    rcases Nat.lt_or_ge m q with h1 | h1
    · obtain rfl : q = m + 1 := by omega
      exact h
    · have h2 := ih h1
      unfold fewUp at h2 ⊢
      rw [List.range_succ, List.filter_append, List.findSome?_append, h2]; rfl
theorem own_pop {w : World} {base g m cap : Nat} {e : TypeId} {xs : List Value} {x : Value} (h : w.ownsRow base e 1 (.slice (some ⟨g, 0, none⟩) (m + 1) cap) (m + 1) (xs ++ [x])) : w.ownsRow base e 1 (.slice (some ⟨g, 0, none⟩) m cap) m xs := by
  have hl := h.1
  simp only [List.length_append, List.length_cons, List.length_nil] at hl
  rcases h.2 with ⟨h', _⟩ | ⟨g', cap', cur, h', hb, hg, hn, hm, hs, ht⟩
  · cases h'
  · injection h' with e1 _ e3
    injection e1 with e1
    injection e1 with e1
    subst e1; subst e3
    refine ⟨by omega, .inr ⟨g, cap, cur, rfl, hb, hg, by omega, hm, hs, ?_⟩⟩
    have h2 := congrArg (List.take m) ht
    rw [List.take_take, List.take_append_of_le_length (by omega), List.take_of_length_le (show xs.length ≤ m by omega)] at h2
    rw [← h2]; congr 1; omega
theorem run_slice_hi {P : Program} (t e : TypeId) (sz : Nat) (ht : P.underlying t = some (.slice e)) (hs : ∀ w, (sizeOf e).run P w = .ok sz w) (g n cap : Nat) (kl : IntKind) (h : Nat) (h2 : h ≤ cap) (h3 : 0 < cap) (w : World) :
    (Instr.slice t (.slice (some ⟨g, 0, none⟩) n cap) none (some (.int kl h)) none).run P w = .ok (.slice (some ⟨g, 0, none⟩) h cap) w := by
  have e2 : 0 ≤ (h : Int) ∧ (h : Int) ≤ (cap : Int) := by omega
  have e3 : ¬ cap = 0 := by omega
  simp [Instr.slice, run_underlying ht, Instr.sliceBounds, Instr.sliceBound, asIntOf, hs, h2, e3, Addr.add]
/-- What the search keeps: its boxes, and the chosen cells. -/
def FS (w0 : World) (bD bL bC bF : Nat) (DA : Option Addr) (dn dcap : Nat) (CA : Option Addr) (cn ccap : Nat) (ch : List Nat) (w : World) : Prop :=
  ∃ v, Blk w bC 87 #[v] ∧ w.ownsRow w0.heap.size 3 1 v ch.length (ch.map natV) ∧ Blk w bD 175 #[.slice DA dn dcap] ∧ Blk w bL 87 #[.slice CA cn ccap] ∧ Blk w bF 215 #[.func (.func 170) #[] #[.pointer (some ⟨bD, 0, none⟩), .pointer (some ⟨bL, 0, none⟩), .pointer (some ⟨bC, 0, none⟩), .pointer (some ⟨bF, 0, none⟩)]] ∧ Below w0.heap.size w0 w
def FewPost (w0 : World) (bD bL bC bF : Nat) (DA : Option Addr) (dn dcap : Nat) (CA : Option Addr) (cn ccap : Nat) (ch : List Nat) (r : Option (List Nat)) (e : Ending) (w' : World) : Prop :=
  match r with
  | some ext => e = .returned (.bool true) ∧ FS w0 bD bL bC bF DA dn dcap CA cn ccap (ch ++ ext) w'
  | none => e = .returned (.bool false) ∧ FS w0 bD bL bC bF DA dn dcap CA cn ccap ch w'
set_option maxRecDepth 100000 in
set_option maxHeartbeats 3200000 in
theorem search_any (w0 : World) (bD bL bC bF : Nat) (DA : Option Addr) (dn dcap : Nat) (CA : Option Addr) (cn ccap : Nat) (ds cells : List Nat) (hdn : dn ≤ 100000) (hcn : cn ≤ 8) (hds : ∀ d ∈ ds, d < 18446744073709551616)
    (hdr : Rd w0 w0.heap.size 1 DA dn (ds.map u64V)) (hcr : Rd w0 w0.heap.size 1 CA cn (cells.map natV)) (hbb : w0.heap.size ≤ bD ∧ w0.heap.size ≤ bL ∧ w0.heap.size ≤ bC ∧ w0.heap.size ≤ bF) (hne : bD ≠ bC ∧ bL ≠ bC ∧ bF ≠ bC) :
    ∀ (left lo set : Nat) (ch : List Nat) (w : World), left ≤ 8 → lo ≤ 9 → set < 256 → ch.length + left ≤ 8 → FS w0 bD bL bC bF DA dn dcap CA cn ccap ch w →
    Calls Tryz.prog 170 #[.int .i64 lo, .int .i64 left, .int .u64 (set : Int), .pointer (some ⟨bD, 0, none⟩), .pointer (some ⟨bL, 0, none⟩), .pointer (some ⟨bC, 0, none⟩), .pointer (some ⟨bF, 0, none⟩)] w (FewPost w0 bD bL bC bF DA dn dcap CA cn ccap ch (fewR ds cells left lo set)) := by
  obtain ⟨i0, hi, hz0, hz1', hz2'⟩ := info_parts info3
  have hlen := hcr.len
  intro left
  induction left with
  | zero =>
    intro lo set ch w _ _ hset hch ⟨v, hbC, hown, hbD, hbL, hbF, hB⟩
    have hcD := fun i => hbD.cell i
    have hlD := hbD.lt
    go_enter Tryz.func170, Tryz.ntmps170
    go_wp2_with (first | (go_at_call 134; refine (tell_any DA dn dcap ds set _ hdn hds (by omega) ((hdr.below hB).more hB.size)).mono ?_; rintro e w1 ⟨rfl, rfl⟩))
    go_ret
    unfold FewPost fewR
    cases htl : tellB ds set
    · exact ⟨rfl, v, hbC, hown, hbD, hbL, hbF, hB⟩
    · exact ⟨rfl, v, hbC, by simpa using hown, hbD, hbL, hbF, hB⟩
  | succ left ih =>
    intro lo set ch w hl8 hlo hset hch ⟨v, hbC, hown, hbD, hbL, hbF, hB⟩
    have hres : fewR ds cells (left + 1) lo set = fewUp ds cells left lo set (cells.length + 1 - (left + 1)) := rfl
    have HRES := Lib.hid hres; clear hres
    have HLEN := Lib.hid hlen; clear hlen
    go_enter Tryz.func170, Tryz.ntmps170
    go_wp2
    go_loopg [11] (cn + 1 - lo) (fun g i wr => ∃ (q : Nat), g = cn + 1 - q ∧ lo ≤ q ∧ q ≤ 9 ∧ i = .int .i64 q ∧ fewUp ds cells left lo set q = none ∧ FS w0 bD bL bC bF DA dn dcap CA cn ccap ch wr)
    case atStart => exact ⟨lo, rfl, Nat.le_refl _, hlo, rfl, fewUp_start _ _ _ _ _, v, hbC, hown, hbD, hbL, hbF, hB⟩
    case round =>
      clear hbC hown hbD hbL hbF hB
      obtain ⟨q, hg, hlq, hq9, rfl, hno, v, hbC, hown, hbD, hbL, hbF, hB⟩ := hrel
      obtain ⟨va, vc, rfl⟩ := own_slice hown
      have HG := Lib.hid hg; clear hg
      have hcL := fun i => hbL.cell i
      have hlL := hbL.lt
      by_cases hlt : q + (left + 1) ≤ cn
      · have hqn : q < cn := by omega
        obtain ⟨cb, coff, hz, rfl, hcb, hcc⟩ := (hcr.below hB).atm hqn
        have hgd : cells.getD q 0 = cells[q] := by rw [List.getD, List.getElem?_eq_getElem hz]; rfl
        have hup := fewUp_succ ds cells left lo set q hlq hno
        rw [hgd] at hup
        generalize cells[q] = c at *
        simp only [natV] at hcc
        have HUP := Lib.hid hup; clear hup hno hgd
        have hle : (q : Int) ≤ (cn : Int) - ((left : Int) + 1) := by omega
        obtain ⟨m, hm⟩ : ∃ m, m = ch.length := ⟨_, rfl⟩
        obtain ⟨ys, hys⟩ : ∃ ys, ys = ch.map natV := ⟨_, rfl⟩
        rw [← hm, ← hys] at hown
        rw [← hm] at hbC
        have HM := Lib.hid hm; have HYS := Lib.hid hys
        have hm8 : m ≤ 8 := by omega
        clear hm hys
        go_wp2_with (fail)
        clear hcL hlL
        refine wp_region_G (fun w' => Blk w' bC 87 #[.slice va m vc] ∧ Blk w' bL 87 #[.slice (some ⟨cb, coff, none⟩) cn ccap] ∧ w'.cell? ⟨cb, coff + q, none⟩ = some (.int .i64 (c : Int))) 7 (by kernel_rfl) ?_
        replace hbC := hbC.drew; replace hbD := hbD.drew; replace hbL := hbL.drew; replace hbF := hbF.drew; replace hB := hB.drew; replace hown := hown.drew
        have hTT := And.intro hbC (And.intro hbL hcc)
        refine wpG_take (i := 0) (v := ?v0) rfl (by kernel_rfl) (by kernel_rfl) (by kernel_rfl) (by kernel_rfl) (fun _ _ _ h => h) (Or.inl ⟨by rfl, ?hy0⟩) hTT ?rest0
        case hy0 => intro wq hSw; have hq1 := fun i => hSw.1.cell i; have hq2 := fun i => hSw.2.1.cell i; have hq3 := hSw.2.2; go_simp <;> with_reducible rfl
        simp only [List.getElem_toArray, List.getElem_cons_zero, List.getElem_cons_succ, Act.put, List.setIfInBounds_toArray, List.set_cons_zero, List.set_cons_succ]
        refine wpG_take (i := 1) (v := ?v1) rfl (by kernel_rfl) (by kernel_rfl) (by kernel_rfl) (by kernel_rfl) (fun _ _ _ h => h) (Or.inl ⟨by rfl, ?hy1⟩) hTT ?rest1
        case hy1 => intro wq hSw; have hq1 := fun i => hSw.1.cell i; have hq2 := fun i => hSw.2.1.cell i; have hq3 := hSw.2.2; go_simp <;> with_reducible rfl
        simp only [List.getElem_toArray, List.getElem_cons_zero, List.getElem_cons_succ, Act.put, List.setIfInBounds_toArray, List.set_cons_zero, List.set_cons_succ]
        refine wpG_take (i := 2) (v := ?v2) rfl (by kernel_rfl) (by kernel_rfl) (by kernel_rfl) (by kernel_rfl) (fun _ _ _ h => h) (Or.inl ⟨by rfl, ?hy2⟩) hTT ?rest2
        case hy2 => intro wq hSw; have hq1 := fun i => hSw.1.cell i; have hq2 := fun i => hSw.2.1.cell i; have hq3 := hSw.2.2; go_simp <;> with_reducible rfl
        simp only [List.getElem_toArray, List.getElem_cons_zero, List.getElem_cons_succ, Act.put, List.setIfInBounds_toArray, List.set_cons_zero, List.set_cons_succ]
        refine wpG_take (i := 3) (v := ?v3) rfl (by kernel_rfl) (by kernel_rfl) (by kernel_rfl) (by kernel_rfl) (fun _ _ _ h => h) (Or.inl ⟨by rfl, ?hy3⟩) hTT ?rest3
        case hy3 => intro wq hSw; have hq1 := fun i => hSw.1.cell i; have hq2 := fun i => hSw.2.1.cell i; have hq3 := hSw.2.2; go_simp <;> with_reducible rfl
        simp only [List.getElem_toArray, List.getElem_cons_zero, List.getElem_cons_succ, Act.put, List.setIfInBounds_toArray, List.set_cons_zero, List.set_cons_succ]
        refine wpG_take (i := 4) (v := ?v4) rfl (by kernel_rfl) (by kernel_rfl) (by kernel_rfl) (by kernel_rfl) (fun _ _ _ h => h) (Or.inl ⟨by rfl, ?hy4⟩) hTT ?rest4
        case hy4 => intro wq hSw; have hq1 := fun i => hSw.1.cell i; have hq2 := fun i => hSw.2.1.cell i; have hq3 := hSw.2.2; go_simp <;> with_reducible rfl
        simp only [List.getElem_toArray, List.getElem_cons_zero, List.getElem_cons_succ, Act.put, List.setIfInBounds_toArray, List.set_cons_zero, List.set_cons_succ]
        refine wpG_one (i := 5) rfl (by kernel_rfl) (fun K hK => ?_)
        go_simp
        replace hbC := hbC.alloc (.cells #[.int .i64 (c : Int)] 3); replace hbD := hbD.alloc (.cells #[.int .i64 (c : Int)] 3); replace hbL := hbL.alloc (.cells #[.int .i64 (c : Int)] 3); replace hbF := hbF.alloc (.cells #[.int .i64 (c : Int)] 3); have hcc1 := (World.cell?_alloc_lt _ (.cells #[.int .i64 (c : Int)] 3) ⟨cb, coff + q, none⟩ (Nat.lt_of_lt_of_le hcb hB.size)).trans hcc; replace hB := hB.alloc hB.size (.cells #[.int .i64 (c : Int)] 3); replace hown := hown.alloc (.cells #[.int .i64 (c : Int)] 3); clear hTT; have hTT := And.intro hbC (And.intro hbL hcc1)
        refine hK _ _ (.inr hTT) ?_
        clear hK K
        try simp only [List.getElem_toArray, List.getElem_cons_zero, List.getElem_cons_succ, Act.put, List.setIfInBounds_toArray, List.set_cons_zero, List.set_cons_succ]
        refine wpG_one (i := 6) rfl (by kernel_rfl) (fun K hK => ?_)
        rw [if_pos (by rfl)]; refine wp_append_any _ _ _ 87 rfl w0.heap.size 3 i0 (.int .i64 0) 1 8 Tryz.underlying87 hi hz0 hz1' hz2' rfl (by decide) _ m ys rfl hown (wr.heap.size + 1) (some ⟨wr.heap.size, 0, none⟩) 1 1 [.int .i64 (c : Int)] rfl (Rd.blkN (Blk.new _ _ _) rfl (Nat.lt_succ_self _)).reads (by simp [Value.oneCell']) (by unfold maxLen; omega) (by omega) (by exact hB.size) (fun v' w2 hown' hgrow hob => ?_)
        obtain ⟨va', vc', rfl⟩ := own_slice hown'; replace hbC := hbC.kept_own hown (by decide) hgrow; replace hbD := hbD.kept_own hown (by decide) hgrow; replace hbL := hbL.kept_own hown (by decide) hgrow; replace hbF := hbF.kept_own hown (by decide) hgrow; have hcc2 := (World.cell?_of_block (a := ⟨cb, coff + q, none⟩) (hgrow.block cb (Nat.lt_of_lt_of_le hcb hB.size) (fun e => by have := (hown.lt _ e.symm).1; omega))).trans hcc1; replace hB := hB.grown hgrow hB.size (fun z hz => (hown.lt z hz).1); have hfz := hbC.frozen 0; have hlC := hbC.lt; have hc3 : w2.cell? ⟨bC, 0, none⟩ = some (.slice va m vc) := (by have h := hbC.cell 0; simpa using h); clear hTT; have hTT := And.intro hbC (And.intro hbL hcc2)
        refine hK _ _ (.inr hTT) ?_
        clear hK K
        try simp only [List.getElem_toArray, List.getElem_cons_zero, List.getElem_cons_succ, Act.put, List.setIfInBounds_toArray, List.set_cons_zero, List.set_cons_succ]
        refine wpG_one (i := 7) rfl (by kernel_rfl) (fun K hK => ?_)
        go_simp
        refine hK _ _ (.inl rfl) ?_
        clear hK K
        try simp only [List.getElem_toArray, List.getElem_cons_zero, List.getElem_cons_succ, Act.put, List.setIfInBounds_toArray, List.set_cons_zero, List.set_cons_succ]
        refine wpG_done (by kernel_rfl) ?_ _
        have own4 := hown'.kept (grownBy_setCell' w2 bC (.slice va' (m + 1) vc')) (.inr (Boxed.not_row (t := 87) (u := .slice va m vc) hbC (by decide) hown').symm)
        have kC : Blk (w2.setCell ⟨bC, 0, none⟩ (.slice va' (m + 1) vc')) bC 87 #[.slice va' (m + 1) vc'] := by simpa using hbC.set_ 0 (.slice va' (m + 1) vc')
        have kD := hbD.far (p := ⟨bC, 0, none⟩) (show bD ≠ bC by omega) (.slice va' (m + 1) vc')
        have kL := hbL.far (p := ⟨bC, 0, none⟩) (show bL ≠ bC by omega) (.slice va' (m + 1) vc')
        have kF := hbF.far (p := ⟨bC, 0, none⟩) (show bF ≠ bC by omega) (.slice va' (m + 1) vc')
        have kB := hB.setCell (p := ⟨bC, 0, none⟩) (show w0.heap.size ≤ bC by omega) (.slice va' (m + 1) vc')
        generalize w2.setCell ⟨bC, 0, none⟩ (.slice va' (m + 1) vc') = w3 at *
        have hcF := fun i => kF.cell i
        have hlF := kF.lt
        clear hTT hc3 hfz hcc hcc1 hcc2
        go_wp2_with (fail)
        have own5 : w3.ownsRow w0.heap.size 3 1 (.slice va' (m + 1) vc') (ch ++ [c]).length ((ch ++ [c]).map natV) := by rw [List.length_append, List.map_append, ← HYS.out, ← HM.out]; exact own4
        have hset2 : set ||| 2 ^ q < 256 := by
          have h8 : (2 : Nat) ^ q < 2 ^ 8 := Nat.pow_lt_pow_right (by omega) (by omega)
          exact Nat.or_lt_two_pow (n := 8) (by omega) h8
        have hp8 : (2 : Nat) ^ q < 256 := Nat.lt_of_lt_of_le (Nat.pow_lt_pow_right (by omega) (show q < 8 by omega)) (by decide)
        have hw1 : IntKind.i64.wrap ((q : Int) + 1) = (q : Int) + 1 := IntWalk.i64_in _ (by omega)
        have hw2 : IntKind.i64.wrap (left : Int) = (left : Int) := IntWalk.i64_in _ (by omega)
        have hpc : (2 : Int) ^ q = ((2 ^ q : Nat) : Int) := by rw [Int.natCast_pow]; rfl
        have hw3 : IntKind.u64.wrap ((2 : Int) ^ q) = (2 : Int) ^ q := IntWalk.u64_in _ (by rw [hpc]; generalize (2 : Nat) ^ q = z at *; omega)
        have hor : bits BinOp.or IntKind.u64 (set : Int) ((2 : Int) ^ q) = ((set ||| 2 ^ q : Nat) : Int) := by
          rw [hpc]; exact bits_or_u64_nat set (2 ^ q) (Nat.lt_of_lt_of_le hset (by decide)) (Nat.lt_of_lt_of_le hp8 (by decide))
        clear hpc
        have ihq := ih (q + 1) (set ||| 2 ^ q) (ch ++ [c]) w3.drew (by omega) (by omega) hset2 (by have h9 := HM.out; rw [List.length_append]; simp only [List.length_cons, List.length_nil]; omega) ⟨_, kC, own5, kD, kL, kF, kB.drew⟩
        clear ih own4 own5 kC kD kL kB
        cases hq : fewR ds cells left (q + 1) (set ||| 2 ^ q) with
        | none =>
          rw [hq] at ihq
          have HQ := Lib.hid hq; clear hq
          go_region_with (go_at_call 170; refine ihq.mono ?_; rintro e w4 ⟨rfl, v4, gC, gown, gD, gL, gF, gB⟩)
          have hL : (ch ++ [c]).length = m + 1 := by rw [List.length_append, HM.out]; rfl
          rw [hL, List.map_append] at gown
          obtain ⟨g4, c4, rfl, hg4, hg4l⟩ := gown.form (Nat.succ_pos _)
          have hcap4 : m + 1 ≤ c4 := own_le gown (Nat.succ_pos _)
          have gpop := own_pop gown
          have hsl := run_slice_hi (P := Tryz.prog) 87 3 1 Tryz.underlying87 (fun _ => by kernel_rfl) g4 (m + 1) c4 .i64 m (by omega) (by omega)
          have hcC := fun i => gC.cell i
          have hfC := fun i => gC.frozen i
          have hlC := gC.lt
          clear hw1 hw2 hw3 hor hcF hlF ihq
          go_wp2
          have gown' := gpop.kept (grownBy_setCell' w4 bC (.slice (some ⟨g4, 0, none⟩) m c4)) (.inr (Boxed.not_row (t := 87) (u := .slice (some ⟨g4, 0, none⟩) (m + 1) c4) gC (by decide) gpop).symm)
          have gown2 : (w4.setCell ⟨bC, 0, none⟩ (.slice (some ⟨g4, 0, none⟩) m c4)).ownsRow w0.heap.size 3 1 (.slice (some ⟨g4, 0, none⟩) m c4) ch.length (ch.map natV) := (congrArg (fun z => (w4.setCell ⟨bC, 0, none⟩ (.slice (some ⟨g4, 0, none⟩) m c4)).ownsRow w0.heap.size 3 1 (.slice (some ⟨g4, 0, none⟩) m c4) z (ch.map natV)) HM.out).mp gown'
          go_roundg (cn + 1 - (q + 1))
          case measure => rw [HG.out]; omega
          case rel =>
            refine ⟨q + 1, rfl, by omega, by omega, by go_num, by rw [HUP.out, HQ.out]; rfl, .slice (some ⟨g4, 0, none⟩) m c4, ?_, gown2, ?_, ?_, ?_, ?_⟩
            · simpa using gC.set_ 0 (.slice (some ⟨g4, 0, none⟩) m c4)
            · exact gD.far (p := ⟨bC, 0, none⟩) (show bD ≠ bC by omega) _
            · exact gL.far (p := ⟨bC, 0, none⟩) (show bL ≠ bC by omega) _
            · exact gF.far (p := ⟨bC, 0, none⟩) (show bF ≠ bC by omega) _
            · exact gB.setCell (p := ⟨bC, 0, none⟩) (show w0.heap.size ≤ bC by omega) _
        | some ext =>
          rw [hq] at ihq
          have HQ := Lib.hid hq; clear hq
          go_region_with (go_at_call 170; refine ihq.mono ?_; rintro e w4 ⟨rfl, gFS⟩)
          go_wp2
          go_ret
          have hup2 := HUP.out
          rw [HQ.out] at hup2
          have hst := fewUp_stop ds cells left lo set _ (q + 1) (cells.length + 1 - (left + 1)) (by have := HLEN.out; omega) hup2
          rw [HRES.out, hst]
          refine ⟨rfl, ?_⟩
          rw [List.append_assoc] at gFS
          exact gFS
      · have hle : ¬ (q : Int) ≤ (cn : Int) - ((left : Int) + 1) := by omega
        have hnone : fewR ds cells (left + 1) lo set = none := by
          rw [HRES.out]
          cases hx : fewUp ds cells left lo set (cells.length + 1 - (left + 1)) with
          | none => rfl
          | some r =>
            have := fewUp_stop ds cells left lo set r (cells.length + 1 - (left + 1)) q (by have := HLEN.out; omega) hx
            rw [hno] at this; cases this
        have HNO := Lib.hid hnone; clear hnone hno
        go_wp2
        go_ret
        rw [HNO.out]
        exact ⟨rfl, _, hbC, hown, hbD, hbL, hbF, hB⟩
end
section
open Go.RowKit
/-- The first way that tells, by rising number of cells. -/
def fewS (ds cells : List Nat) (m : Nat) : Option (List Nat) := (List.range m).findSome? fun left => fewR ds cells left 0 0
theorem fewS_succ (ds cells : List Nat) (q : Nat) (h : fewS ds cells q = none) : fewS ds cells (q + 1) = fewR ds cells q 0 0 := by
  unfold fewS at *
  rw [List.range_succ, List.findSome?_append, h]; simp
theorem fewS_stop (ds cells : List Nat) (r : List Nat) : ∀ (q m : Nat), q ≤ m → fewS ds cells q = some r → fewS ds cells m = some r := by
  intro q m hqm h
  induction m with
  | zero => obtain rfl : q = 0 := by omega
            exact h
  | succ m ih =>
    rcases Nat.lt_or_ge m q with h1 | h1
    · obtain rfl : q = m + 1 := by omega
      exact h
    · have h2 := ih h1
      unfold fewS at h2 ⊢
      rw [List.range_succ, List.findSome?_append, h2]; rfl
def fewL (ds cells : List Nat) : List Nat := (fewS ds cells (cells.length + 1)).getD []
set_option maxRecDepth 100000 in
set_option maxHeartbeats 3200000 in
theorem fewest_any (DA : Option Addr) (dn dcap : Nat) (CA : Option Addr) (cn ccap : Nat) (ds cells : List Nat) (w : World) (hdn : dn ≤ 100000) (hcn : cn ≤ 8) (hds : ∀ d ∈ ds, d < 18446744073709551616)
    (hdr : Rd w w.heap.size 1 DA dn (ds.map u64V)) (hcr : Rd w w.heap.size 1 CA cn (cells.map natV)) :
    Calls Tryz.prog 136 #[.slice DA dn dcap, .slice CA cn ccap] w fun e w' => ∃ v, e = .returned v ∧ w'.ownsRow w.heap.size 3 1 v (fewL ds cells).length ((fewL ds cells).map natV) ∧ Below w.heap.size w w' := by
  have hlen := hcr.len
  have HLEN := Lib.hid hlen; clear hlen
  go_enter Tryz.func136, Tryz.ntmps136
  go_wp2
  go_loopg [12] (cn + 1) (fun g i wr => ∃ (q : Nat), g = cn + 1 - q ∧ q ≤ cn + 1 ∧ i = .int .i64 q ∧ fewS ds cells q = none ∧ FS w w.heap.size (w.heap.size + 1) (w.heap.size + 1 + 1) (w.heap.size + 1 + 1 + 1) DA dn dcap CA cn ccap [] wr)
  case atStart =>
    refine ⟨0, rfl, Nat.zero_le _, rfl, rfl, .slice none 0 0, ?_, World.ownsRow_nil _ _ _ _, ?_, ?_, ?_, ?_⟩
    · exact Blk.alloc (by have h := Blk.new ((w.alloc (.cells #[.slice DA dn dcap] 175)).alloc (.cells #[.slice CA cn ccap] 87)) 87 #[.slice none 0 0]; simpa [World.size_alloc] using h) _
    · exact (((Blk.new w 175 #[.slice DA dn dcap]).alloc _).alloc _).alloc _
    · exact Blk.alloc (Blk.alloc (by have h := Blk.new (w.alloc (.cells #[.slice DA dn dcap] 175)) 87 #[.slice CA cn ccap]; simpa [World.size_alloc] using h) _) _
    · have h := Blk.new (((w.alloc (.cells #[.slice DA dn dcap] 175)).alloc (.cells #[.slice CA cn ccap] 87)).alloc (.cells #[.slice none 0 0] 87)) 215 #[.func (.func 170) #[] #[.pointer (some ⟨w.heap.size, 0, none⟩), .pointer (some ⟨w.heap.size + 1, 0, none⟩), .pointer (some ⟨w.heap.size + 1 + 1, 0, none⟩), .pointer (some ⟨w.heap.size + 1 + 1 + 1, 0, none⟩)]]
      simpa [World.size_alloc] using h
    · refine ((((Below.refl w.heap.size w).alloc (Nat.le_refl _) _).alloc ?_ _).alloc ?_ _).alloc ?_ _ <;> simp only [World.size_alloc] <;> omega
  case round =>
    obtain ⟨q, hg, hq, rfl, hno, hFS⟩ := hrel
    have HG := Lib.hid hg; clear hg
    by_cases hlt : q < cn + 1
    · have hsu := fewS_succ ds cells q hno
      have HSU := Lib.hid hsu; clear hsu hno
      obtain ⟨v0, hbC, hown, hbD, hbL, hbF, hB⟩ := hFS
      have hcF := fun i => hbF.cell i
      have hlF := hbF.lt
      have hqq : (q : Int) < (cn : Int) + 1 := by omega
      have ihq := search_any w w.heap.size (w.heap.size + 1) (w.heap.size + 1 + 1) (w.heap.size + 1 + 1 + 1) DA dn dcap CA cn ccap ds cells hdn hcn hds hdr hcr (by omega) (by omega) q 0 0 [] wr (by omega) (by omega) (by omega) (by simp only [List.length_nil]; omega) ⟨v0, hbC, hown, hbD, hbL, hbF, hB⟩
      clear hbC hown hbD hbL hB
      cases hq2 : fewR ds cells q 0 0 with
      | none =>
        rw [hq2] at ihq
        have HQ2 := Lib.hid hq2; clear hq2
        go_wp2_with (go_at_call 170; refine ihq.mono ?_; rintro e w4 ⟨rfl, gFS⟩)
        go_roundg (cn + 1 - (q + 1))
        case measure => rw [HG.out]; omega
        case rel => exact ⟨q + 1, rfl, by omega, by go_num, by rw [HSU.out, HQ2.out], gFS⟩
      | some ext =>
        rw [hq2] at ihq
        have HQ2 := Lib.hid hq2; clear hq2
        have hsu2 := HSU.out
        rw [HQ2.out] at hsu2
        have hst := fewS_stop ds cells _ (q + 1) (cells.length + 1) (by have := HLEN.out; omega) hsu2
        have hl : fewL ds cells = ext := by unfold fewL; rw [hst]; rfl
        clear hst hsu2
        have HL := Lib.hid hl; clear hl
        go_wp2_with (go_at_call 170; refine ihq.mono ?_; rintro e w4 ⟨rfl, v4, gC, gown, gD, gL, gF, gB⟩; have hcC := fun i => gC.cell i; have hlC := gC.lt)
        go_ret
        rw [HL.out]
        exact ⟨_, rfl, gown, gB⟩
    · have hqe : q = cn + 1 := by omega
      have hl : fewL ds cells = [] := by
        unfold fewL; rw [HLEN.out, ← hqe, hno]; rfl
      clear hno
      have HL := Lib.hid hl; clear hl
      obtain ⟨v0, hbC, hown, hbD, hbL, hbF, hB⟩ := hFS
      have hcC := fun i => hbC.cell i
      have hlC := hbC.lt
      have hqq : ¬ (q : Int) < (cn : Int) + 1 := by omega
      go_wp2
      go_ret
      rw [HL.out]
      exact ⟨_, rfl, hown, hB⟩
end
section
open Go.RowKit Go.Maps
theorem tellB_congr {a b : List Nat} (h : ∀ d, d ∈ a ↔ d ∈ b) (set : Nat) : tellB a set = tellB b set := by
  unfold tellB
  rw [Bool.eq_iff_iff, List.all_eq_true, List.all_eq_true]
  exact ⟨fun g d hd => g d ((h d).2 hd), fun g d hd => g d ((h d).1 hd)⟩
theorem fewR_congr {a b : List Nat} (h : ∀ d, d ∈ a ↔ d ∈ b) (cells : List Nat) : ∀ left lo set, fewR a cells left lo set = fewR b cells left lo set
  | 0, lo, set => by unfold fewR; rw [tellB_congr h]
  | left + 1, lo, set => by
    unfold fewR
    congr 1
    funext n
    rw [fewR_congr h cells left]
theorem fewL_congr {a b : List Nat} (h : ∀ d, d ∈ a ↔ d ∈ b) (cells : List Nat) : fewL a cells = fewL b cells := by
  unfold fewL fewS
  simp only [fewR_congr h]
theorem own_le0 {w : World} {base n cap N : Nat} {e : TypeId} {A : Option Addr} {xs : List Value} (h : w.ownsRow base e N (.slice A n cap) n xs) : n ≤ cap := by
  rcases h.2 with ⟨h1, _⟩ | ⟨g, c, cur, h1, h2⟩
  · cases h1; omega
  · cases h1; exact h2.2.2.1
theorem own_cap {w : World} {base n cap N : Nat} {e : TypeId} {A : Option Addr} {xs : List Value} (h : w.ownsRow base e N (.slice A n cap) n xs) : cap ≤ maxLen := by
  rcases h.2 with ⟨h1, _⟩ | ⟨g, c, cur, h1, h2⟩
  · cases h1; unfold maxLen; omega
  · cases h1; exact h2.2.2.2.1
/-- Whether a plan is asked as defined; the differences in cells. -/
def goodP (W H F L X Y nl nh xl xh y : Int) (fs : List Fig) (cs : List Int) : Bool := askB W H F L X Y nl nh xl xh y fs && cellsB W H cs
def difP (W H F L X Y nl nh xl xh y : Int) (fs : List Fig) (cs : List Int) : List Nat := diffAll (cs.map Int.toNat) cs.length (shL W H F L X Y nl nh xl xh y fs)
def planE (W H F L X Y nl nh xl xh y : Int) (fs : List Fig) (cs : List Int) : Int := if goodP W H F L X Y nl nh xl xh y fs cs then (if tellB (difP W H F L X Y nl nh xl xh y fs cs) 18446744073709551615 then 0 else 5) else 2
def planL (W H F L X Y nl nh xl xh y : Int) (fs : List Fig) (cs : List Int) : List Nat := if goodP W H F L X Y nl nh xl xh y fs cs then (if tellB (difP W H F L X Y nl nh xl xh y fs cs) 18446744073709551615 then fewL (difP W H F L X Y nl nh xl xh y fs cs) (cs.map Int.toNat) else []) else []
theorem cellsF_mem : ∀ (last m : Int) (l : List Int), -1 ≤ last → cellsF last m l = true → ∀ c ∈ l, 0 ≤ c ∧ c < m
  | _, _, [], _, _ => by simp
  | last, m, c :: l, hl, h => by
    simp only [cellsF, Bool.and_eq_true, inB, decide_eq_true_eq] at h
    obtain ⟨h1, h2⟩ := h
    have ih := cellsF_mem c m l (by omega) h2
    intro d hd
    rcases List.mem_cons.1 hd with rfl | hd
    · omega
    · exact ih d hd
set_option maxRecDepth 100000 in
set_option maxHeartbeats 1600000 in
theorem Plan_any (W H F L X Y nl nh xl xh y : Int) (A : Option Addr) (n cap : Nat) (fs : List Fig) (CA : Option Addr) (cn ccap : Nat) (cs : List Int) (w : World) (hn : n ≤ cap) (hcm : cap ≤ maxLen) (hf : ∀ f ∈ fs, f.ok w w.heap.size) (hr : Rd w w.heap.size 1 A n (fs.map Fig.val)) (hcn : cn ≤ maxLen) (hcr : Rd w w.heap.size 1 CA cn (cs.map (Value.int .i64))) (hsm : goodP W H F L X Y nl nh xl xh y fs cs = true → (difP W H F L X Y nl nh xl xh y fs cs).length ≤ 12) :
    Calls Tryz.prog 75 #[.agg #[.int .i64 W, .int .i64 H, .int .i64 F, .int .i64 L, .int .i64 X, .int .i64 Y], .slice A n cap, .agg #[.int .i64 nl, .int .i64 nh, .int .i64 xl, .int .i64 xh, .int .i64 y], .slice CA cn ccap] w fun e w' => ∃ v, e = .returned (.tuple #[v, .int .i64 (planE W H F L X Y nl nh xl xh y fs cs)]) ∧ IsL w' v ((planL W H F L X Y nl nh xl xh y fs cs).map natV) ∧ Below w.heap.size w w' := by
  have hA : Blk ((w.alloc (.cells #[.int .i64 W, .int .i64 H, .int .i64 F, .int .i64 L, .int .i64 X, .int .i64 Y] 23)).alloc (.cells #[.int .i64 nl, .int .i64 nh, .int .i64 xl, .int .i64 xh, .int .i64 y] 71)) w.heap.size 23 #[.int .i64 W, .int .i64 H, .int .i64 F, .int .i64 L, .int .i64 X, .int .i64 Y] := (Blk.new w 23 #[.int .i64 W, .int .i64 H, .int .i64 F, .int .i64 L, .int .i64 X, .int .i64 Y]).alloc _
  have hBk : Blk ((w.alloc (.cells #[.int .i64 W, .int .i64 H, .int .i64 F, .int .i64 L, .int .i64 X, .int .i64 Y] 23)).alloc (.cells #[.int .i64 nl, .int .i64 nh, .int .i64 xl, .int .i64 xh, .int .i64 y] 71)) (w.heap.size + 1) 71 #[.int .i64 nl, .int .i64 nh, .int .i64 xl, .int .i64 xh, .int .i64 y] := blk2 w _ 71 #[.int .i64 nl, .int .i64 nh, .int .i64 xl, .int .i64 xh, .int .i64 y]
  have hB2 : Below w.heap.size w ((w.alloc (.cells #[.int .i64 W, .int .i64 H, .int .i64 F, .int .i64 L, .int .i64 X, .int .i64 Y] 23)).alloc (.cells #[.int .i64 nl, .int .i64 nh, .int .i64 xl, .int .i64 xh, .int .i64 y] 71)) := ((Below.refl _ w).alloc (Nat.le_refl _) _).alloc (by simp only [World.size_alloc]; omega) _
  have hqA := fun i => hA.cell i; have hqB := fun i => hBk.cell i; have hlA := hA.lt; have hlB := hBk.lt
  cases hask : (stageB W H F L X Y && (compB fs && reachB F nl nh xl xh y))
  · have hg : goodP W H F L X Y nl nh xl xh y fs cs = false := by simp [goodP, askB, hask]
    go_enter Tryz.func75, Tryz.ntmps75
    go_wp2_with (first | (go_at_call 112; refine (goodReach_any W H F L X Y nl nh xl xh y A n cap fs _ (Nat.le_trans hn hcm) (fun f hf' => ((hf f hf').below hB2).more hB2.size) ((hr.below hB2).more hB2.size)).mono ?_; rintro e w1 ⟨rfl, hb⟩; rw [hask]; replace hA := hA.below hb hA.lt; replace hBk := hBk.below hb hBk.lt; replace hB2 := hB2.trans (hb.mono hB2.size); replace hqA := fun i => hA.cell i; replace hqB := fun i => hBk.cell i; replace hlA := hA.lt; replace hlB := hBk.lt; clear hb))
    go_ret2
    exact ⟨_, by simp [planE, hg]; rfl, by simp [planL, hg]; exact IsL.nil _, hB2⟩
  · have hask2 : askB W H F L X Y nl nh xl xh y fs = true := hask
    have hdm := ask_dims hask2
    cases hcel : cellsB W H cs
    · have hg : goodP W H F L X Y nl nh xl xh y fs cs = false := by simp [goodP, hcel]
      go_enter Tryz.func75, Tryz.ntmps75
      go_wp2_with (first | (go_at_call 112; refine (goodReach_any W H F L X Y nl nh xl xh y A n cap fs _ (Nat.le_trans hn hcm) (fun f hf' => ((hf f hf').below hB2).more hB2.size) ((hr.below hB2).more hB2.size)).mono ?_; rintro e w1 ⟨rfl, hb⟩; rw [hask]; replace hA := hA.below hb hA.lt; replace hBk := hBk.below hb hBk.lt; replace hB2 := hB2.trans (hb.mono hB2.size); replace hqA := fun i => hA.cell i; replace hqB := fun i => hBk.cell i; replace hlA := hA.lt; replace hlB := hBk.lt; clear hb) | (go_at_call 133; refine (goodCells_any W H F L X Y CA cn ccap cs _ hcn ((hcr.below hB2).more hB2.size) (by omega) (by omega) (by omega) (by omega)).mono ?_; rintro e w1 ⟨rfl, hb⟩; rw [hcel]; replace hA := hA.below hb hA.lt; replace hBk := hBk.below hb hBk.lt; replace hB2 := hB2.trans (hb.mono hB2.size); replace hqA := fun i => hA.cell i; replace hqB := fun i => hBk.cell i; replace hlA := hA.lt; replace hlB := hBk.lt; clear hb))
      go_ret2
      exact ⟨_, by simp [planE, hg]; rfl, by simp [planL, hg]; exact IsL.nil _, hB2⟩
    · have hg : goodP W H F L X Y nl nh xl xh y fs cs = true := by simp [goodP, hask2, hcel]
      have hsm' := hsm hg
      have hcl := hcr.len
      have hcel2 := hcel
      simp only [cellsB, Bool.and_eq_true, decide_eq_true_eq] at hcel2
      have hc8 : cn ≤ 8 := by omega
      have hcm := cellsF_mem (-1) (W * H) cs (by omega) hcel2.2
      have hWH : W * H = ((W.toNat * H.toNat : Nat) : Int) := by rw [Int.natCast_mul, Int.toNat_of_nonneg (by omega), Int.toNat_of_nonneg (by omega)]
      have hcs : ∀ c ∈ cs.map Int.toNat, c < W.toNat * H.toNat := by
        intro c hc
        obtain ⟨d, hd, rfl⟩ := List.mem_map.1 hc
        have := hcm d hd
        rw [hWH] at this
        omega
      have hcsv : cs.map (Value.int .i64) = (cs.map Int.toNat).map natV := by
        rw [List.map_map]
        refine List.map_congr_left fun c hc => ?_
        have := hcm c hc
        simp only [Function.comp, natV]
        rw [Int.toNat_of_nonneg this.1]
      have hslen : (shL W H F L X Y nl nh xl xh y fs).length ≤ 216 := by rw [shL, List.length_map]; exact allR_small hask2
      have hshs : ∀ h ∈ shL W H F L X Y nl nh xl xh y fs, h.s.size = W.toNat * H.toNat := fun h hh => shL_size hh
      have hdb : ∀ d ∈ difP W H F L X Y nl nh xl xh y fs cs, d < 18446744073709551616 := fun d hd => by
        have h1 := mem_diffAll _ _ _ _ hd
        have h2 : (2 : Nat) ^ cs.length ≤ 2 ^ 8 := Nat.pow_le_pow_right (by omega) hcel2.1
        have h3 : (2 : Nat) ^ 8 = 256 := rfl
        omega
      have hlcs : cs.length = cn := by simpa using hcl
      unfold difP at hsm' hdb
      rw [hlcs] at hsm' hdb
      clear hcm hcel2
      cases htel : tellB (diffAll (cs.map Int.toNat) cn (shL W H F L X Y nl nh xl xh y fs)) 18446744073709551615
      · go_enter Tryz.func75, Tryz.ntmps75
        go_wp2_with (first | (go_at_call 112; refine (goodReach_any W H F L X Y nl nh xl xh y A n cap fs _ (Nat.le_trans hn hcm) (fun f hf' => ((hf f hf').below hB2).more hB2.size) ((hr.below hB2).more hB2.size)).mono ?_; rintro e w1 ⟨rfl, hb⟩; rw [hask]; replace hA := hA.below hb hA.lt; replace hBk := hBk.below hb hBk.lt; replace hB2 := hB2.trans (hb.mono hB2.size); replace hqA := fun i => hA.cell i; replace hqB := fun i => hBk.cell i; replace hlA := hA.lt; replace hlB := hBk.lt; clear hb) | (go_at_call 133; refine (goodCells_any W H F L X Y CA cn ccap cs _ hcn ((hcr.below hB2).more hB2.size) (by omega) (by omega) (by omega) (by omega)).mono ?_; rintro e w1 ⟨rfl, hb⟩; rw [hcel]; replace hA := hA.below hb hA.lt; replace hBk := hBk.below hb hBk.lt; replace hB2 := hB2.trans (hb.mono hB2.size); replace hqA := fun i => hA.cell i; replace hqB := fun i => hBk.cell i; replace hlA := hA.lt; replace hlB := hBk.lt; clear hb) | (go_at_call 115; refine (shades_any W H F L X Y nl nh xl xh y A n cap fs _ hn hcm (fun f hf' => ((hf f hf').below hB2).more hB2.size) ((hr.below hB2).more hB2.size) hask2).mono ?_; rintro e w1 ⟨v1, rfl, own1, hb⟩; obtain ⟨A1, c1, rfl⟩ := own_slice own1; have hcap1 := own_le0 own1; have hr1 := Rd.of_own own1; clear own1; replace hA := hA.below hb hA.lt; replace hBk := hBk.below hb hBk.lt; replace hB2 := hB2.trans (hb.mono hB2.size); replace hqA := fun i => hA.cell i; replace hqB := fun i => hBk.cell i; replace hlA := hA.lt; replace hlB := hBk.lt; clear hb) | (go_at_call 135; refine (differences_small A1 _ c1 _ CA cn ccap (W.toNat * H.toNat) (cs.map Int.toNat) _ (by omega) hcap1 hc8 hsm' hshs (by omega) hcs hr1 (by rw [← hcsv]; exact (hcr.below hB2).more hB2.size)).mono ?_; rintro e w1 ⟨v2, m2, ds2, rfl, own2, hm2, hmem, hb⟩; obtain ⟨A2, c2, rfl⟩ := own_slice own2; have hr2 := Rd.of_own own2; clear own2 hr1; have hd2 : ∀ d ∈ ds2, d < 18446744073709551616 := (fun d hd => hdb d ((hmem d).1 hd)); replace hA := hA.below hb hA.lt; replace hBk := hBk.below hb hBk.lt; replace hB2 := hB2.trans (hb.mono hB2.size); replace hqA := fun i => hA.cell i; replace hqB := fun i => hBk.cell i; replace hlA := hA.lt; replace hlB := hBk.lt; clear hb) | (go_at_call 134; refine (tell_any A2 m2 c2 ds2 18446744073709551615 _ (by omega) hd2 (by omega) hr2).mono ?_; rintro e w1 ⟨rfl, rfl⟩; rw [tellB_congr hmem, htel]))
        go_ret2
        exact ⟨_, by simp [planE, hg, difP, hlcs, htel]; rfl, by simp [planL, hg, difP, hlcs, htel]; exact IsL.nil _, hB2⟩
      · go_enter Tryz.func75, Tryz.ntmps75
        go_wp2_with (first | (go_at_call 112; refine (goodReach_any W H F L X Y nl nh xl xh y A n cap fs _ (Nat.le_trans hn hcm) (fun f hf' => ((hf f hf').below hB2).more hB2.size) ((hr.below hB2).more hB2.size)).mono ?_; rintro e w1 ⟨rfl, hb⟩; rw [hask]; replace hA := hA.below hb hA.lt; replace hBk := hBk.below hb hBk.lt; replace hB2 := hB2.trans (hb.mono hB2.size); replace hqA := fun i => hA.cell i; replace hqB := fun i => hBk.cell i; replace hlA := hA.lt; replace hlB := hBk.lt; clear hb) | (go_at_call 133; refine (goodCells_any W H F L X Y CA cn ccap cs _ hcn ((hcr.below hB2).more hB2.size) (by omega) (by omega) (by omega) (by omega)).mono ?_; rintro e w1 ⟨rfl, hb⟩; rw [hcel]; replace hA := hA.below hb hA.lt; replace hBk := hBk.below hb hBk.lt; replace hB2 := hB2.trans (hb.mono hB2.size); replace hqA := fun i => hA.cell i; replace hqB := fun i => hBk.cell i; replace hlA := hA.lt; replace hlB := hBk.lt; clear hb) | (go_at_call 115; refine (shades_any W H F L X Y nl nh xl xh y A n cap fs _ hn hcm (fun f hf' => ((hf f hf').below hB2).more hB2.size) ((hr.below hB2).more hB2.size) hask2).mono ?_; rintro e w1 ⟨v1, rfl, own1, hb⟩; obtain ⟨A1, c1, rfl⟩ := own_slice own1; have hcap1 := own_le0 own1; have hr1 := Rd.of_own own1; clear own1; replace hA := hA.below hb hA.lt; replace hBk := hBk.below hb hBk.lt; replace hB2 := hB2.trans (hb.mono hB2.size); replace hqA := fun i => hA.cell i; replace hqB := fun i => hBk.cell i; replace hlA := hA.lt; replace hlB := hBk.lt; clear hb) | (go_at_call 135; refine (differences_small A1 _ c1 _ CA cn ccap (W.toNat * H.toNat) (cs.map Int.toNat) _ (by omega) hcap1 hc8 hsm' hshs (by omega) hcs hr1 (by rw [← hcsv]; exact (hcr.below hB2).more hB2.size)).mono ?_; rintro e w1 ⟨v2, m2, ds2, rfl, own2, hm2, hmem, hb⟩; obtain ⟨A2, c2, rfl⟩ := own_slice own2; have hr2 := Rd.of_own own2; clear own2 hr1; have hd2 : ∀ d ∈ ds2, d < 18446744073709551616 := (fun d hd => hdb d ((hmem d).1 hd)); replace hA := hA.below hb hA.lt; replace hBk := hBk.below hb hBk.lt; replace hB2 := hB2.trans (hb.mono hB2.size); replace hqA := fun i => hA.cell i; replace hqB := fun i => hBk.cell i; replace hlA := hA.lt; replace hlB := hBk.lt; clear hb) | (go_at_call 134; refine (tell_any A2 m2 c2 ds2 18446744073709551615 _ (by omega) hd2 (by omega) hr2).mono ?_; rintro e w1 ⟨rfl, rfl⟩; rw [tellB_congr hmem, htel]) | (go_at_call 136; refine (fewest_any A2 m2 c2 CA cn ccap ds2 (cs.map Int.toNat) _ (by omega) hc8 hd2 hr2 (by rw [← hcsv]; exact (hcr.below hB2).more hB2.size)).mono ?_; rintro e w1 ⟨v3, rfl, own3, hb⟩; rw [fewL_congr hmem] at own3; obtain ⟨A3, c3, rfl⟩ := own_slice own3; replace hA := hA.below hb hA.lt; replace hBk := hBk.below hb hBk.lt; replace hB2 := hB2.trans (hb.mono hB2.size); replace hqA := fun i => hA.cell i; replace hqB := fun i => hBk.cell i; replace hlA := hA.lt; replace hlB := hBk.lt; clear hb))
        go_ret2
        refine ⟨_, by simp [planE, hg, difP, hlcs, htel]; rfl, ?_, hB2⟩
        rw [show planL W H F L X Y nl nh xl xh y fs cs = fewL (diffAll (cs.map Int.toNat) cn (shL W H F L X Y nl nh xl xh y fs)) (cs.map Int.toNat) by simp [planL, hg, difP, hlcs, htel]]
        have hIR := Rd.of_own own3
        exact ⟨A3, _, c3, rfl, own_le0 own3, own_cap own3, by simpa using hIR⟩
end
end Go.Proofs.YtifddfchpknkbaaGreatDoor
