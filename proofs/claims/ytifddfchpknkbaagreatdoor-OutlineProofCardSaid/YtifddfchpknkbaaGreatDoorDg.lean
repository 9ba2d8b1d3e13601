import Derived.Test.YtifddfchpknkbaaGreatDoorTd
import Derived.Test.YtifddfchpknkbaaGreatDoorStt
set_option linter.unusedVariables false
set_option linter.unusedSimpArgs false
namespace Go.Proofs.YtifddfchpknkbaaGreatDoor
open Go.RowKit

set_option maxRecDepth 100000 in
set_option maxHeartbeats 3200000 in
theorem differences_any (A : Option Addr) (n cap : Nat) (l : List Sh) (CA : Option Addr) (cn ccap sz : Nat) (cs : List Nat) (w : World) (hn : n ≤ 1000) (hcap : n ≤ cap) (hcn : cn ≤ 8) (hsm : (diffAll cs cn l).length ≤ 100000)
    (hs : ∀ h ∈ l, h.s.size = sz) (hsz : sz ≤ 100000) (hcs : ∀ c ∈ cs, c < sz) (hr : Rd w w.heap.size 5 A n (l.flatMap shC)) (hcr : Rd w w.heap.size 1 CA cn (cs.map natV)) :
    Calls Tryz.prog 135 #[.slice A n cap, .slice CA cn ccap] w (DiffPost w.heap.size (diffAll cs cn l) w) := by
  obtain ⟨i0, hi, hz0, hz1', hz2'⟩ := info_parts info177
  have hlen := hr.len5
  go_enter Tryz.func135, Tryz.ntmps135
  go_wp2
  go_loopg [5, 12] n (fun g v i wr => ∃ (k m : Nat) (v0 : Value) (acc : List Nat), g = n - k ∧ k ≤ n ∧ i = .int .i64 k ∧ v = v0 ∧ m = acc.length ∧ acc ++ diffAll cs cn (l.drop k) = diffAll cs cn l ∧ wr.ownsRow w.heap.size 177 1 v0 m (acc.map u64V) ∧ Below w.heap.size w wr)
  case atStart => exact ⟨0, 0, _, [], rfl, Nat.zero_le _, rfl, rfl, rfl, rfl, World.ownsRow_nil _ _ _ _, Below.refl _ _⟩
  case round =>
    obtain ⟨k, m, v0, acc, hg, hk, rfl, rfl, hm, hacc, hown, hB⟩ := hrel
    obtain ⟨va, vc, rfl⟩ := own_slice hown
    have HG := Lib.hid hg; have HM := Lib.hid hm; have HLEN := Lib.hid hlen; clear hg hm hlen
    by_cases hlt : k < n
    · obtain ⟨b, off, hz, rfl, hb, c0, c1, c2, c3, c4⟩ := (hr.below hB).at5 hlt
      have hda := diffAll_drop cs cn l k hz
      rw [hda] at hacc
      have hs1 := hs _ (List.getElem_mem hz)
      have hr3 := hr.cutA' (k := k + 1) (m := n) (cap := cap) (by omega) (Nat.le_refl _) hcap
      rw [flat5_drop, flat5_all _ _ (by rw [List.length_drop]; have := HLEN.out; omega)] at hr3
      have hrs : ∀ h ∈ l.drop (k + 1), h.s.size = sz := fun h hh => hs h (List.mem_of_mem_drop hh)
      have hrl : (l.drop (k + 1)).length = n - (k + 1) := by rw [List.length_drop]; have := HLEN.out; omega
      have hsl : ∀ w, (Instr.slice 151 (.slice (some ⟨b, off, none⟩) n cap) (some (.int .i64 ((k : Int) + 1))) none none).run Tryz.prog w = .ok (.slice (cutA (some ⟨b, off, none⟩) cap (k + 1) 5) (n - (k + 1)) (cap - (k + 1))) w := run_slice_lo (P := Tryz.prog) 151 156 5 Tryz.underlying151 (fun _ => by kernel_rfl) (some ⟨b, off, none⟩) n cap .i64 (k + 1) (by omega) hcap
      generalize cutA (some ⟨b, off, none⟩) cap (k + 1) 5 = A3 at *
      generalize hrest : l.drop (k + 1) = rest at *
      have HREST := Lib.hid hrest; clear hrest
      generalize l[k] = h at *
      obtain ⟨f, nn, x, y, s⟩ := h
      dsimp only at c0 c1 c2 c3 c4 hs1
      have HACC := Lib.hid hacc; clear hacc hda
      have HRL := Lib.hid hrl; clear hrl
      obtain ⟨q, hq⟩ : ∃ q, q = n - (k + 1) := ⟨_, rfl⟩
      rw [← hq] at hr3 hsl HRL
      have hqn : q ≤ 1000 := by omega
      have HQ := Lib.hid hq; clear hq
      rename World => W0
      have hbx : Blk (W0.alloc (.cells #[.int .i64 f, .int .i64 nn, .int .i64 x, .int .i64 y, .string s] 156)) W0.heap.size 156 #[.int .i64 f, .int .i64 nn, .int .i64 x, .int .i64 y, .string s] := Blk.new _ _ _
      have hown' := hown.alloc (.cells #[.int .i64 f, .int .i64 nn, .int .i64 x, .int .i64 y, .string s] 156)
      have hB' := hB.alloc hB.size (.cells #[.int .i64 f, .int .i64 nn, .int .i64 x, .int .i64 y, .string s] 156)
      go_wp2
      go_loopg [5, 22] q (fun g v i wr => ∃ (j m : Nat) (v0 : Value) (acc : List Nat), g = q - j ∧ j ≤ q ∧ i = .int .i64 j ∧ v = v0 ∧ m = acc.length ∧ acc ++ (diffRow cs cn ⟨f, nn, x, y, s⟩ (rest.drop j) ++ diffAll cs cn rest) = diffAll cs cn l ∧ wr.ownsRow w.heap.size 177 1 v0 m (acc.map u64V) ∧ Blk wr W0.heap.size 156 #[.int .i64 f, .int .i64 nn, .int .i64 x, .int .i64 y, .string s] ∧ Below w.heap.size w wr)
      case atStart => exact ⟨0, m, _, acc, rfl, Nat.zero_le _, rfl, rfl, HM.out, HACC.out, hown', hbx, hB'⟩
      case round =>
        clear hown hB hown' hB' hbx HM HACC c0 c1 c2 c3 c4
        obtain ⟨j, m, v0, acc, hg, hj, rfl, rfl, hm, hacc, hown, hbx, hB⟩ := hrel
        obtain ⟨va, vc, rfl⟩ := own_slice hown
        have HG2 := Lib.hid hg; clear hg
        by_cases hlt2 : j < q
        · obtain ⟨b2, off2, hz2, rfl, hb2, d0, d1, d2, d3, d4⟩ := (hr3.below hB).at5 hlt2
          have hdr := diffRow_drop cs cn ⟨f, nn, x, y, s⟩ rest j hz2
          have hs2 := hrs _ (List.getElem_mem hz2)
          rw [hdr] at hacc
          generalize rest[j] = h2 at *
          obtain ⟨f2, n2, x2, y2, s2⟩ := h2
          dsimp only at d0 d1 d2 d3 d4 hs2 hacc
          have hcx := fun i => hbx.cell i
          have hlx := hbx.lt
          by_cases hff : f = f2
          · have hne : (f != f2) = false := by simp [hff]
            rw [hne] at hacc
            have HACC := Lib.hid hacc; have HM := Lib.hid hm; clear hacc hm hdr
            go_wp2
            go_roundg (q - (j + 1))
            case measure => rw [HG2.out]; omega
            case rel => exact ⟨j + 1, m, _, acc, rfl, by omega, by go_num, rfl, HM.out, HACC.out, hown.alloc _, hbx.alloc _, hB.alloc hB.size _⟩
          · have hne : (f != f2) = true := by simp [hff]
            rw [hne] at hacc
            have hm2 : m ≤ 100000 := by have h1 := congrArg List.length hacc; simp only [List.length_append] at h1; omega
            have HACC := Lib.hid hacc; have HM := Lib.hid hm; clear hacc hm hdr
            have hby : Blk (wr.alloc (.cells #[.int .i64 f2, .int .i64 n2, .int .i64 x2, .int .i64 y2, .string s2] 156)) wr.heap.size 156 #[.int .i64 f2, .int .i64 n2, .int .i64 x2, .int .i64 y2, .string s2] := Blk.new _ _ _
            have hown2 := hown.alloc (.cells #[.int .i64 f2, .int .i64 n2, .int .i64 x2, .int .i64 y2, .string s2] 156)
            have hbx2 := hbx.alloc (.cells #[.int .i64 f2, .int .i64 n2, .int .i64 x2, .int .i64 y2, .string s2] 156)
            have hB2 := hB.alloc hB.size (.cells #[.int .i64 f2, .int .i64 n2, .int .i64 x2, .int .i64 y2, .string s2] 156)
            go_wp2_with (first
              | (go_at_call 167; refine (difference_any ⟨f, nn, x, y, s⟩ ⟨f2, n2, x2, y2, s2⟩ CA cn ccap cs (wr.alloc (.cells #[.int .i64 f2, .int .i64 n2, .int .i64 x2, .int .i64 y2, .string s2] 156)) hcn (fun c hc => by have := hcs c hc; dsimp only; omega) (fun c hc => by have := hcs c hc; dsimp only; omega) (by dsimp only; omega) ((hcr.below hB2).more hB2.size)).mono ?_; rintro e w1 ⟨rfl, hb1⟩; have own1 := ownsRow_below' hown2 hb1; have hbx1 := hbx2.below hb1 hbx2.lt; have hB1 := hB2.trans (hb1.mono hB2.size); dsimp only)
              | (at_builtin; refine wpList_append_any _ rfl _ _ 175 rfl w.heap.size 177 i0 (.int .u64 0) 1 8 Tryz.underlying175 hi hz0 hz1' hz2' rfl (by decide) (.slice va m vc) m (acc.map u64V) rfl (own1.alloc _) (w1.heap.size + 1) (some ⟨w1.heap.size, 0, none⟩) 1 1 [.int .u64 (diffN s s2 cs cn : Int)] rfl (Rd.blkN (Blk.new _ _ _) rfl (Nat.lt_succ_self _)).reads (by simp [Value.oneCell']) (by unfold maxLen; omega) (by omega) (by have := hB1.size; simp only [World.size_alloc]; omega) (fun v' w' hown' hgrow hob => ?_))
              | go_in)
            go_roundg (q - (j + 1))
            case measure => rw [HG2.out]; omega
            case rel => exact ⟨j + 1, m + 1, _, acc ++ [diffN s s2 cs cn], rfl, by omega, by go_num, rfl, by rw [HM.out]; simp, by rw [← HACC.out]; simp, by rw [List.map_append]; exact hown', (hbx1.alloc _).kept_own (own1.alloc _) (by decide) hgrow, (hB1.alloc hB1.size _).grown hgrow (by have := hB1.size; simp only [World.size_alloc]; omega) (fun g hg => (own1.lt g hg).1)⟩
        · obtain rfl : j = q := by omega
          have hdn : rest.drop j = [] := List.drop_eq_nil_of_le (by rw [HRL.out]; exact Nat.le_refl _)
          rw [hdn] at hacc
          have HACC := Lib.hid hacc; have HM := Lib.hid hm; clear hacc hm
          go_wp2
          go_roundg (n - (k + 1))
          case measure => rw [HG.out]; omega
          case rel => exact ⟨k + 1, m, _, acc, rfl, by omega, by go_num, rfl, HM.out, by rw [HREST.out]; have e := HACC.out; simpa [diffRow] using e, hown, hB⟩
    · obtain rfl : k = n := by omega
      have hdn : l.drop k = [] := List.drop_eq_nil_of_le (by have := HLEN.out; omega)
      have hacc2 : acc = diffAll cs cn l := by rw [hdn] at hacc; simpa [diffAll] using hacc
      have hm12 : m ≤ 100000 := by have := HM.out; rw [hacc2] at this; omega
      have HACC := Lib.hid hacc2; clear hacc hacc2
      go_wp2_with (first
        | (go_at_call 168; refine (sort_any w.heap.size m _ acc _ (by omega) hB.size hown).mono ?_; rintro e w1 ⟨rfl, ⟨ds1, hp, own1⟩, hb1⟩; have hB1 := hB.trans hb1; clear hb1)
        | (go_at_call 169; refine (compact_any w.heap.size m _ ds1 _ (by omega) own1).mono ?_; rintro e w2 ⟨v2, m2, cs2, rfl, own2, hm2, hmem, hb2⟩))
      go_ret
      refine ⟨_, m2, cs2, rfl, own2, ?_, fun d => ?_, hB1.trans hb2⟩
      · rw [← HACC.out, ← hp.length_eq]; exact hm2
      · rw [hmem, hp.mem_iff, HACC.out]
end Go.Proofs.YtifddfchpknkbaaGreatDoor
