import Derived.Test.YtifddfchpknkbaaGreatDoorTo
import Derived.Test.YtifddfchpknkbaaGreatDoorShelf
import Derived.Lib.OwnBridge
set_option linter.unusedVariables false
set_option linter.unusedSimpArgs false
namespace Go.Proofs.YtifddfchpknkbaaGreatDoor
open Go.RowKit

set_option maxRecDepth 100000 in
set_option maxHeartbeats 1600000 in
theorem pdq_small (base n : Nat) (lim : Int) (v : Value) (ds : List Nat) (w : World) (hn : n ≤ 12) (hbase : base ≤ w.heap.size) (hown : w.ownsRow base 177 1 v n (ds.map u64V)) :
    Calls Tryz.prog 193 #[v, .int .i64 0, .int .i64 n, .int .i64 lim] w fun e w' => e = .returned (.tuple #[]) ∧ (∃ ds' : List Nat, ds'.Perm ds ∧ w'.ownsRow base 177 1 v n (ds'.map u64V)) ∧ Below base w w' := by
  obtain ⟨va, vc, rfl⟩ := own_slice hown
  go_enter Tryz.func193, Tryz.ntmps193
  go_wp2
  go_loop [1, 2] (fun a b => a = .int .i64 0 ∧ b = .int .i64 n) (fun _ _ => 0)
  case atStart => exact ⟨rfl, rfl⟩
  case round =>
    obtain ⟨rfl, rfl⟩ := hrel
    go_wp2_with (first | (go_at_call 209; refine (insertion_any base n _ ds _ (by omega) hbase hown).mono ?_; rintro e w1 ⟨rfl, hp, hB⟩))
    refine bodyPost_ret (results_none rfl _ _ _) rfl ?_
    exact ⟨rfl, hp, hB⟩

set_option maxRecDepth 100000 in
set_option maxHeartbeats 1600000 in
theorem sort_small (base n : Nat) (v : Value) (ds : List Nat) (w : World) (hn : n ≤ 12) (hbase : base ≤ w.heap.size) (hown : w.ownsRow base 177 1 v n (ds.map u64V)) :
    Calls Tryz.prog 168 #[v] w fun e w' => e = .returned (.tuple #[]) ∧ (∃ ds' : List Nat, ds'.Perm ds ∧ w'.ownsRow base 177 1 v n (ds'.map u64V)) ∧ Below base w w' := by
  obtain ⟨va, vc, rfl⟩ := own_slice hown
  go_enter Tryz.func168, Tryz.ntmps168
  go_wp2_with (first | (go_at_call 194; refine (Tryz.bits_Len n _ (by omega) (by omega)).mono ?_; rintro e w1 ⟨rfl, rfl⟩) | (go_at_call 193; refine (pdq_small base n _ _ ds _ hn hbase hown).mono ?_; rintro e w1 ⟨rfl, hp, hB⟩))
  go_end0
  exact ⟨rfl, hp, hB⟩
end Go.Proofs.YtifddfchpknkbaaGreatDoor

namespace Go.Proofs.YtifddfchpknkbaaGreatDoor
open Go.RowKit Go.Sort Go.Lib

theorem u64_cells : OneCell u64V := fun _ => rfl
theorem u64_eq : EqlAt Tryz.prog 177 u64V (fun x y => decide (x = y)) := ⟨fun x y w => by
  rw [u64V, u64V, (EqlAt.int Tryz.prog 177 .u64).1 (x : Int) (y : Int) w]; by_cases h : x = y
  · simp [h]
  · have h' : ¬ (x : Int) = (y : Int) := by omega
    simp [h, h'], fun op a b x y w => (EqlAt.int Tryz.prog 177 .u64).2 op a b (x : Int) (y : Int) w⟩
theorem u64_ne : NeqAt Tryz.prog 177 u64V (fun x y => decide (x = y)) := ⟨fun x y w => by
  rw [u64V, u64V, (NeqAt.int Tryz.prog 177 .u64).1 (x : Int) (y : Int) w]; by_cases h : x = y
  · simp [h]
  · have h' : ¬ (x : Int) = (y : Int) := by omega
    simp [h, h'], fun op a b x y w => (NeqAt.int Tryz.prog 177 .u64).2 op a b (x : Int) (y : Int) w⟩
theorem mem_upTo (d : Array Nat) : ∀ (m : Nat), m ≤ d.size → ∀ x, x ∈ compactUpTo d m ↔ ∃ j, j < m ∧ d[j]! = x
  | 0, _, x => by simp [compactUpTo]
  | m + 1, hm, x => by
    have ih := mem_upTo d m (by omega) x
    rw [compactUpTo_succ, List.mem_append, ih]
    constructor
    · rintro (⟨j, hj, rfl⟩ | h)
      · exact ⟨j, by omega, rfl⟩
      · cases hk : keeps d m <;> rw [hk] at h <;> simp at h
        exact ⟨m, by omega, h.symm⟩
    · rintro ⟨j, hj, rfl⟩
      by_cases hjm : j < m
      · exact .inl ⟨j, hjm, rfl⟩
      · obtain rfl : j = m := by omega
        cases hk : keeps d j
        · left
          have hk2 : ¬ (j = 0 ∨ d[j]! ≠ d[j - 1]!) := by simpa [keeps] using hk
          have h0 : j ≠ 0 := fun e => hk2 (.inl e)
          have h1 : d[j]! = d[j - 1]! := by
            by_cases e : d[j]! = d[j - 1]!
            · exact e
            · exact absurd (.inr e) hk2
          exact ⟨j - 1, by omega, h1.symm⟩
        · right; simp
theorem upTo_len (d : Array Nat) (m : Nat) : (compactUpTo d m).length ≤ m := by
  unfold compactUpTo; rw [List.length_map]; exact Nat.le_trans (List.length_filter_le _ _) (by simp)

/-- Compact: the same numbers, each of them still there. -/
def CompactPost (base : Nat) (ds : List Nat) (w : World) (e : Ending) (w' : World) : Prop :=
  ∃ v m, ∃ cs : List Nat, e = .returned v ∧ w'.ownsRow base 177 1 v m (cs.map u64V) ∧ m ≤ ds.length ∧ (∀ d, d ∈ cs ↔ d ∈ ds) ∧ Below base w w'
set_option maxRecDepth 100000 in
theorem compact_any (base n : Nat) (v : Value) (ds : List Nat) (w : World) (hn : n ≤ 100000) (hown : w.ownsRow base 177 1 v n (ds.map u64V)) :
    Calls Tryz.prog 169 #[v] w (CompactPost base ds w) := by
  have hlen : ds.length = n := by have := hown.1; rw [List.length_map] at this; omega
  by_cases hv : v = .slice none 0 0
  · subst hv
    have hd : ds = [] := by
      rcases hown.2 with ⟨_, h⟩ | ⟨g, cap, cur, h, _⟩
      · exact List.eq_nil_of_length_eq_zero (by omega)
      · injection h with h; cases h
    subst hd
    go_enter Tryz.func169, Tryz.ntmps169
    go_wp2
    go_ret
    exact ⟨_, 0, [], rfl, World.ownsRow_nil _ _ _ _, Nat.le_refl _, fun _ => Iff.rfl, Below.refl _ _⟩
  · obtain ⟨g, cap, rfl, hb, hlt, hc, hm, hl, hH⟩ := holds_of_ownsRow hown hv
    have hs : ds.toArray.size = n := by simpa using hlen
    have h := Tryz.slices_Compact u64V u64_cells u64_eq u64_ne 0 (fun _ => by kernel_rfl) g 0 cap ds.toArray w hH (by rw [hs]; omega) (by rw [hs]; omega)
    rw [hs] at h
    refine h.mono ?_
    rintro e w' ⟨rfl, q, rfl⟩
    have hk := upTo_len ds.toArray n
    have ho := ownsRow_putRow (q := q) (k := (compactUpTo ds.toArray n).length) (ys := compactUpTo ds.toArray n ++ List.replicate (n - (compactUpTo ds.toArray n).length) 0) hown (by simp; omega) hk
    rw [List.take_left] at ho
    refine ⟨_, _, _, rfl, ho, by omega, fun d => ?_, below_putRow (Below.refl _ _) hb⟩
    rw [mem_upTo ds.toArray n (by omega) d]
    constructor
    · rintro ⟨j, hj, rfl⟩
      rw [getElem!_pos _ _ (by omega)]
      simp
    · intro hd
      obtain ⟨j, hj, rfl⟩ := List.getElem_of_mem hd
      exact ⟨j, by omega, by rw [getElem!_pos _ _ (by omega)]; simp⟩
end Go.Proofs.YtifddfchpknkbaaGreatDoor

namespace Go.Proofs.YtifddfchpknkbaaGreatDoor
open Go.RowKit

theorem info177 : (Tryz.prog.info? 177).map (fun i => (i.zero, i.size, i.bytes)) = some (some (.int .u64 0), 1, 8) := by kernel_rfl
theorem flat5_drop : ∀ (l : List Sh) (k : Nat), (l.flatMap shC).drop (k * 5) = (l.drop k).flatMap shC
  | [], k => by simp
  | h :: l, 0 => by simp
  | h :: l, k + 1 => by
    have e : (k + 1) * 5 = k * 5 + 5 := by omega
    rw [List.flatMap_cons, List.drop_succ_cons, e, ← flat5_drop l k, Nat.add_comm (k * 5) 5, ← List.drop_drop]
    rfl
theorem flat5_all (l : List Sh) (m : Nat) (h : l.length ≤ m) : (l.flatMap shC).take (m * 5) = l.flatMap shC := List.take_of_length_le (by rw [flat5_len]; omega)
def diffRow (cs : List Nat) (cn : Nat) (a : Sh) (rest : List Sh) : List Nat := (rest.filter fun b => a.f != b.f).map fun b => diffN a.s b.s cs cn
/-- Which of some cells tell each two shades of different figures. -/
def diffAll (cs : List Nat) (cn : Nat) : List Sh → List Nat
  | [] => []
  | a :: rest => diffRow cs cn a rest ++ diffAll cs cn rest
theorem diffAll_drop (cs : List Nat) (cn : Nat) (l : List Sh) (k : Nat) (h : k < l.length) : diffAll cs cn (l.drop k) = diffRow cs cn l[k] (l.drop (k + 1)) ++ diffAll cs cn (l.drop (k + 1)) := by
  rw [List.drop_eq_getElem_cons h]; rfl
theorem diffRow_drop (cs : List Nat) (cn : Nat) (a : Sh) (l : List Sh) (k : Nat) (h : k < l.length) : diffRow cs cn a (l.drop k) = (if a.f != l[k].f then [diffN a.s l[k].s cs cn] else []) ++ diffRow cs cn a (l.drop (k + 1)) := by
  have e := List.drop_eq_getElem_cons h
  generalize l[k] = b at *
  rw [e]
  unfold diffRow
  cases hq : (a.f != b.f) <;> simp [List.filter_cons, hq]
theorem diffRow_len (cs : List Nat) (cn : Nat) (a : Sh) (l : List Sh) : (diffRow cs cn a l).length ≤ l.length := by
  unfold diffRow; rw [List.length_map]; exact List.length_filter_le _ _
theorem mem_diffAll (cs : List Nat) (cn : Nat) : ∀ (l : List Sh) (d : Nat), d ∈ diffAll cs cn l → d < 2 ^ cn
  | [], d, h => by cases h
  | a :: rest, d, h => by
    rcases List.mem_append.1 h with h | h
    · obtain ⟨b, _, rfl⟩ := List.mem_map.1 h
      exact diffN_lt _ _ _ _
    · exact mem_diffAll cs cn rest d h

/-- What differences hands back: a slice with the same numbers. -/
def DiffPost (B : Nat) (ds : List Nat) (w : World) (e : Ending) (w' : World) : Prop :=
  ∃ v m, ∃ cs : List Nat, e = .returned v ∧ w'.ownsRow B 177 1 v m (cs.map u64V) ∧ m ≤ ds.length ∧ (∀ d, d ∈ cs ↔ d ∈ ds) ∧ Below B w w'

set_option maxRecDepth 100000 in
set_option maxHeartbeats 3200000 in
theorem differences_small (A : Option Addr) (n cap : Nat) (l : List Sh) (CA : Option Addr) (cn ccap sz : Nat) (cs : List Nat) (w : World) (hn : n ≤ 1000) (hcap : n ≤ cap) (hcn : cn ≤ 8) (hsm : (diffAll cs cn l).length ≤ 12)
    (hs : ∀ h ∈ l, h.s.size = sz) (hsz : sz ≤ 100000) (hcs : ∀ c ∈ cs, c < sz) (hr : Rd w w.heap.size 5 A n (l.flatMap shC)) (hcr : Rd w w.heap.size 1 CA cn (cs.map natV)) :
    Calls Tryz.prog 135 #[.slice A n cap, .slice CA cn ccap] w (DiffPost w.heap.size (diffAll cs cn l) w) := by
  obtain ⟨i0, hi, hz0, hz1', hz2'⟩ := info_parts info177
  have hlen := hr.len5
  go_enter Tryz.func135, Tryz.ntmps135
  go_wp2
  go_loopg [5, 12] n (fun g v i wr => ∃ (k m : Nat) (v0 : Value) (acc : List Nat), g = n - k ∧ k ≤ n ∧ i = .int .i64 k ∧ v = v0 ∧ m = acc.length ∧ acc ++ diffAll cs cn (l.drop k) = diffAll cs cn l ∧ wr.ownsRow w.heap.size 177 1 v0 m (acc.map u64V) ∧ Below w.heap.size w wr)
  case atStart => exact ⟨0, 0, _, [], rfl, Nat.zero_le _, rfl, rfl, rfl, rfl, World.ownsRow_nil _ _ _ _, Below.refl _ _⟩
  case round =>
    obtain ⟨k, m, v0, acc, hg, hk, rfl, rfl, hm, hacc, hown, hB⟩ := hrel
    obtain ⟨va, vc, rfl⟩ := own_slice hown
    have HG := Lib.hid hg; have HM := Lib.hid hm; have HLEN := Lib.hid hlen; clear hg hm hlen
    by_cases hlt : k < n
    · obtain ⟨b, off, hz, rfl, hb, c0, c1, c2, c3, c4⟩ := (hr.below hB).at5 hlt
      have hda := diffAll_drop cs cn l k hz
      rw [hda] at hacc
      have hs1 := hs _ (List.getElem_mem hz)
      have hr3 := hr.cutA' (k := k + 1) (m := n) (cap := cap) (by omega) (Nat.le_refl _) hcap
      rw [flat5_drop, flat5_all _ _ (by rw [List.length_drop]; have := HLEN.out; omega)] at hr3
      have hrs : ∀ h ∈ l.drop (k + 1), h.s.size = sz := fun h hh => hs h (List.mem_of_mem_drop hh)
      have hrl : (l.drop (k + 1)).length = n - (k + 1) := by rw [List.length_drop]; have := HLEN.out; omega
      have hsl : ∀ w, (Instr.slice 151 (.slice (some ⟨b, off, none⟩) n cap) (some (.int .i64 ((k : Int) + 1))) none none).run Tryz.prog w = .ok (.slice (cutA (some ⟨b, off, none⟩) cap (k + 1) 5) (n - (k + 1)) (cap - (k + 1))) w := run_slice_lo (P := Tryz.prog) 151 156 5 Tryz.underlying151 (fun _ => by kernel_rfl) (some ⟨b, off, none⟩) n cap .i64 (k + 1) (by omega) hcap
      generalize cutA (some ⟨b, off, none⟩) cap (k + 1) 5 = A3 at *
      generalize hrest : l.drop (k + 1) = rest at *
      have HREST := Lib.hid hrest; clear hrest
      generalize l[k] = h at *
      obtain ⟨f, nn, x, y, s⟩ := h
      dsimp only at c0 c1 c2 c3 c4 hs1
      have HACC := Lib.hid hacc; clear hacc hda
      have HRL := Lib.hid hrl; clear hrl
      obtain ⟨q, hq⟩ : ∃ q, q = n - (k + 1) := ⟨_, rfl⟩
      rw [← hq] at hr3 hsl HRL
      have hqn : q ≤ 1000 := by omega
      have HQ := Lib.hid hq; clear hq
      rename World => W0
      have hbx : Blk (W0.alloc (.cells #[.int .i64 f, .int .i64 nn, .int .i64 x, .int .i64 y, .string s] 156)) W0.heap.size 156 #[.int .i64 f, .int .i64 nn, .int .i64 x, .int .i64 y, .string s] := Blk.new _ _ _
      have hown' := hown.alloc (.cells #[.int .i64 f, .int .i64 nn, .int .i64 x, .int .i64 y, .string s] 156)
      have hB' := hB.alloc hB.size (.cells #[.int .i64 f, .int .i64 nn, .int .i64 x, .int .i64 y, .string s] 156)
      go_wp2
      go_loopg [5, 22] q (fun g v i wr => ∃ (j m : Nat) (v0 : Value) (acc : List Nat), g = q - j ∧ j ≤ q ∧ i = .int .i64 j ∧ v = v0 ∧ m = acc.length ∧ acc ++ (diffRow cs cn ⟨f, nn, x, y, s⟩ (rest.drop j) ++ diffAll cs cn rest) = diffAll cs cn l ∧ wr.ownsRow w.heap.size 177 1 v0 m (acc.map u64V) ∧ Blk wr W0.heap.size 156 #[.int .i64 f, .int .i64 nn, .int .i64 x, .int .i64 y, .string s] ∧ Below w.heap.size w wr)
      case atStart => exact ⟨0, m, _, acc, rfl, Nat.zero_le _, rfl, rfl, HM.out, HACC.out, hown', hbx, hB'⟩
      case round =>
        clear hown hB hown' hB' hbx HM HACC c0 c1 c2 c3 c4
        obtain ⟨j, m, v0, acc, hg, hj, rfl, rfl, hm, hacc, hown, hbx, hB⟩ := hrel
        obtain ⟨va, vc, rfl⟩ := own_slice hown
        have HG2 := Lib.hid hg; clear hg
        by_cases hlt2 : j < q
        · obtain ⟨b2, off2, hz2, rfl, hb2, d0, d1, d2, d3, d4⟩ := (hr3.below hB).at5 hlt2
          have hdr := diffRow_drop cs cn ⟨f, nn, x, y, s⟩ rest j hz2
          have hs2 := hrs _ (List.getElem_mem hz2)
          rw [hdr] at hacc
          generalize rest[j] = h2 at *
          obtain ⟨f2, n2, x2, y2, s2⟩ := h2
          dsimp only at d0 d1 d2 d3 d4 hs2 hacc
          have hcx := fun i => hbx.cell i
          have hlx := hbx.lt
          by_cases hff : f = f2
          · have hne : (f != f2) = false := by simp [hff]
            rw [hne] at hacc
            have HACC := Lib.hid hacc; have HM := Lib.hid hm; clear hacc hm hdr
            go_wp2
            go_roundg (q - (j + 1))
            case measure => rw [HG2.out]; omega
            case rel => exact ⟨j + 1, m, _, acc, rfl, by omega, by go_num, rfl, HM.out, HACC.out, hown.alloc _, hbx.alloc _, hB.alloc hB.size _⟩
          · have hne : (f != f2) = true := by simp [hff]
            rw [hne] at hacc
            have hm2 : m ≤ 12 := by have h1 := congrArg List.length hacc; simp only [List.length_append] at h1; omega
            have HACC := Lib.hid hacc; have HM := Lib.hid hm; clear hacc hm hdr
            have hby : Blk (wr.alloc (.cells #[.int .i64 f2, .int .i64 n2, .int .i64 x2, .int .i64 y2, .string s2] 156)) wr.heap.size 156 #[.int .i64 f2, .int .i64 n2, .int .i64 x2, .int .i64 y2, .string s2] := Blk.new _ _ _
            have hown2 := hown.alloc (.cells #[.int .i64 f2, .int .i64 n2, .int .i64 x2, .int .i64 y2, .string s2] 156)
            have hbx2 := hbx.alloc (.cells #[.int .i64 f2, .int .i64 n2, .int .i64 x2, .int .i64 y2, .string s2] 156)
            have hB2 := hB.alloc hB.size (.cells #[.int .i64 f2, .int .i64 n2, .int .i64 x2, .int .i64 y2, .string s2] 156)
            go_wp2_with (first
              | (go_at_call 167; refine (difference_any ⟨f, nn, x, y, s⟩ ⟨f2, n2, x2, y2, s2⟩ CA cn ccap cs (wr.alloc (.cells #[.int .i64 f2, .int .i64 n2, .int .i64 x2, .int .i64 y2, .string s2] 156)) hcn (fun c hc => by have := hcs c hc; dsimp only; omega) (fun c hc => by have := hcs c hc; dsimp only; omega) (by dsimp only; omega) ((hcr.below hB2).more hB2.size)).mono ?_; rintro e w1 ⟨rfl, hb1⟩; have own1 := ownsRow_below' hown2 hb1; have hbx1 := hbx2.below hb1 hbx2.lt; have hB1 := hB2.trans (hb1.mono hB2.size); dsimp only)
              | (at_builtin; refine wpList_append_any _ rfl _ _ 175 rfl w.heap.size 177 i0 (.int .u64 0) 1 8 Tryz.underlying175 hi hz0 hz1' hz2' rfl (by decide) (.slice va m vc) m (acc.map u64V) rfl (own1.alloc _) (w1.heap.size + 1) (some ⟨w1.heap.size, 0, none⟩) 1 1 [.int .u64 (diffN s s2 cs cn : Int)] rfl (Rd.blkN (Blk.new _ _ _) rfl (Nat.lt_succ_self _)).reads (by simp [Value.oneCell']) (by unfold maxLen; omega) (by omega) (by have := hB1.size; simp only [World.size_alloc]; omega) (fun v' w' hown' hgrow hob => ?_))
              | go_in)
            go_roundg (q - (j + 1))
            case measure => rw [HG2.out]; omega
            case rel => exact ⟨j + 1, m + 1, _, acc ++ [diffN s s2 cs cn], rfl, by omega, by go_num, rfl, by rw [HM.out]; simp, by rw [← HACC.out]; simp, by rw [List.map_append]; exact hown', (hbx1.alloc _).kept_own (own1.alloc _) (by decide) hgrow, (hB1.alloc hB1.size _).grown hgrow (by have := hB1.size; simp only [World.size_alloc]; omega) (fun g hg => (own1.lt g hg).1)⟩
        · obtain rfl : j = q := by omega
          have hdn : rest.drop j = [] := List.drop_eq_nil_of_le (by rw [HRL.out]; exact Nat.le_refl _)
          rw [hdn] at hacc
          have HACC := Lib.hid hacc; have HM := Lib.hid hm; clear hacc hm
          go_wp2
          go_roundg (n - (k + 1))
          case measure => rw [HG.out]; omega
          case rel => exact ⟨k + 1, m, _, acc, rfl, by omega, by go_num, rfl, HM.out, by rw [HREST.out]; have e := HACC.out; simpa [diffRow] using e, hown, hB⟩
    · obtain rfl : k = n := by omega
      have hdn : l.drop k = [] := List.drop_eq_nil_of_le (by have := HLEN.out; omega)
      have hacc2 : acc = diffAll cs cn l := by rw [hdn] at hacc; simpa [diffAll] using hacc
      have hm12 : m ≤ 12 := by have := HM.out; rw [hacc2] at this; omega
      have HACC := Lib.hid hacc2; clear hacc hacc2
      go_wp2_with (first
        | (go_at_call 168; refine (sort_small w.heap.size m _ acc _ hm12 hB.size hown).mono ?_; rintro e w1 ⟨rfl, ⟨ds1, hp, own1⟩, hb1⟩; have hB1 := hB.trans hb1; clear hb1)
        | (go_at_call 169; refine (compact_any w.heap.size m _ ds1 _ (by omega) own1).mono ?_; rintro e w2 ⟨v2, m2, cs2, rfl, own2, hm2, hmem, hb2⟩))
      go_ret
      refine ⟨_, m2, cs2, rfl, own2, ?_, fun d => ?_, hB1.trans hb2⟩
      · rw [← HACC.out, ← hp.length_eq]; exact hm2
      · rw [hmem, hp.mem_iff, HACC.out]
end Go.Proofs.YtifddfchpknkbaaGreatDoor
