import Derived.Test.YtifddfchpknkbaaGreatDoorAo
import Derived.Test.YtifddfchpknkbaaGreatDoorKn
import Derived.Test.YtifddfchpknkbaaGreatDoorEa
set_option linter.unusedVariables false
set_option linter.unusedSimpArgs false
namespace Go.Proofs.YtifddfchpknkbaaGreatDoor
open Go.RowKit

def fiT (tl : List Tr) (p : Nat) : Int := ((tl[p]?).map (·.1)).getD 0
theorem fiT_at {tl : List Tr} {p : Nat} (h : p < tl.length) : fiT tl p = tl[p].1 := by simp [fiT, h]
/-- Some of the cells tell two shadows. -/
def telC (z : Nat → Nat → Int) (cs : List Nat) (i k : Nat) : Bool := cs.any fun c => clB (z i c) (z k c)
def telK (fi : Nat → Int) (z : Nat → Nat → Int) (cs : List Nat) (i k : Nat) : Bool := (fi i == fi k) || telC z cs i k
def telI (fi : Nat → Int) (z : Nat → Nat → Int) (cs : List Nat) (i : Nat) : Bool := (List.range i).all (telK fi z cs i)
def telA (fi : Nat → Int) (z : Nat → Nat → Int) (cs : List Nat) (N : Nat) : Bool := (List.range N).all (telI fi z cs)
theorem all_range_succ (p : Nat → Bool) (k : Nat) : (List.range (k + 1)).all p = ((List.range k).all p && p k) := by
  rw [List.range_succ, List.all_append]; simp
theorem all_range_false {p : Nat → Bool} {k n : Nat} (hk : k < n) (h : p k = false) : (List.range n).all p = false := by
  rw [List.all_eq_false]; exact ⟨k, List.mem_range.2 hk, by rw [h]; decide⟩
theorem any_take_succ {α : Type} (p : α → Bool) (l : List α) (k : Nat) (h : k < l.length) : (l.take (k + 1)).any p = ((l.take k).any p || p l[k]) := by
  rw [List.take_succ_eq_append_getElem h, List.any_append]; simp
set_option maxRecDepth 100000 in
set_option maxHeartbeats 25600000 in
theorem tells_any (Wn : Nat) (H F L X Y y : Int) (tA : Option Addr) (tn tc : Nat) (tl : List Tr) (uA : Option Addr) (uc : Nat) (vs : List Value) (cls : List (List ByteArray)) (base : Nat) (CA : Option Addr) (cn cc : Nat) (cs : List Nat) (z : Nat → Nat → Int) (w : World) (htn : tn ≤ 1000) (hT : Rd w w.heap.size 4 tA tn (tl.flatMap (rdC y))) (hU : Rd w w.heap.size 1 uA tn vs) (hcl : Cloths w base vs cls) (hC : Rd w w.heap.size 1 CA cn (cs.map natV)) (hcn : cn ≤ 100000) (hW : 1 ≤ Wn) (hW2 : Wn ≤ 100) (hcs : ∀ c ∈ cs, c ≤ 10000)
    (hcell : ∀ i (h : i < cls.length) c, c ∈ cs → ∃ r, cls[i][c / Wn]? = some r ∧ (ltr r)[c % Wn]? = some (z i c) ∧ r.size ≤ 10000) :
    Calls Tryz.prog 137 #[.agg #[.int .i64 Wn, .int .i64 H, .int .i64 F, .int .i64 L, .int .i64 X, .int .i64 Y], .slice tA tn tc, .slice uA tn uc, .slice CA cn cc] w fun e w' => e = .returned (.bool (telA (fiT tl) z cs tn)) ∧ Below w.heap.size w w' := by
  have hlen := hT.lenc (by decide) (rdC_len y)
  have hvl : vs.length = tn := by have := hU.1; omega
  have hclen : cs.length = cn := by have := hC.1; rw [List.length_map] at this; omega
  have HCELL := Lib.hid hcell; have HLEN := Lib.hid hlen; have HVL := Lib.hid hvl; have HCS := Lib.hid hcs; have HCLEN := Lib.hid hclen
  clear hcell hlen hvl hcs hclen
  go_enter Tryz.func137, Tryz.ntmps137
  go_upto_region 1 with (fail)
  have hS := Blk.new w 23 #[.int .i64 Wn, .int .i64 H, .int .i64 F, .int .i64 L, .int .i64 X, .int .i64 Y]
  have hB : Below w.heap.size w (w.alloc (.cells #[.int .i64 Wn, .int .i64 H, .int .i64 F, .int .i64 L, .int .i64 X, .int .i64 Y] 23)) := (Below.refl _ w).alloc (Nat.le_refl _) _
  generalize w.alloc (.cells #[.int .i64 Wn, .int .i64 H, .int .i64 F, .int .i64 L, .int .i64 X, .int .i64 Y] 23) = W0 at *
  go_wp2_with (fail)
  go_loopg [9] tn (fun g i wr => ∃ (i0 : Nat), g = tn - i0 ∧ i0 ≤ tn ∧ i = .int .i64 i0 ∧ (List.range i0).all (telI (fiT tl) z cs) = true ∧ Blk wr w.heap.size 23 #[.int .i64 Wn, .int .i64 H, .int .i64 F, .int .i64 L, .int .i64 X, .int .i64 Y] ∧ Below w.heap.size w wr)
  case atStart => exact ⟨0, rfl, Nat.zero_le _, rfl, rfl, hS, hB⟩
  case round =>
    clear hS hB
    obtain ⟨i, hg, hi, rfl, hal, hS, hB⟩ := hrel
    have HG := Lib.hid hg; have HAL := Lib.hid hal; clear hg hal
    rename World => W1
    by_cases hlt : i < tn
    · have hlti : (i : Int) < tn := by omega
      have hzi : i < tl.length := by have := HLEN.out; omega
      go_wp2_with (fail)
      go_loopg [10] i (fun g k wr => ∃ (k0 : Nat), g = i - k0 ∧ k0 ≤ i ∧ k = .int .i64 k0 ∧ (List.range k0).all (telK (fiT tl) z cs i) = true ∧ Blk wr w.heap.size 23 #[.int .i64 Wn, .int .i64 H, .int .i64 F, .int .i64 L, .int .i64 X, .int .i64 Y] ∧ Below w.heap.size w wr)
      case atStart => exact ⟨0, rfl, Nat.zero_le _, rfl, rfl, hS, hB⟩
      case round =>
        clear hS hB
        obtain ⟨k, hg, hk, rfl, hal, hS, hB⟩ := hrel
        have HG2 := Lib.hid hg; have HAL2 := Lib.hid hal; clear hg hal
        rename World => W2
        by_cases hlt2 : k < i
        · have hltk : (k : Int) < i := by omega
          have hltkn : (k : Int) < tn := by omega
          have hkn : k < tn := by omega
          have hzk : k < tl.length := by omega
          obtain ⟨bR, oR, _, rfl, hbR, _⟩ := (rdB hT hB).at4 hlt
          have ci0 := ((rdB hT hB).cells4 hzi).1
          have ck0 := ((rdB hT hB).cells4 hzk).1
          rw [← fiT_at hzi] at ci0
          rw [← fiT_at hzk] at ck0
          have htk : telK (fiT tl) z cs i k = ((fiT tl i == fiT tl k) || telC z cs i k) := rfl
          obtain ⟨fi, hfie⟩ : ∃ fi, fi = fiT tl i := ⟨_, rfl⟩
          obtain ⟨fk, hfke⟩ : ∃ fk, fk = fiT tl k := ⟨_, rfl⟩
          rw [← hfie] at ci0 htk
          rw [← hfke] at ck0 htk
          have HTK := Lib.hid htk; clear htk hfie hfke
          have q1 := fun p : Blw W2.heap.size W2 => blw_cell (a := ⟨bR, oR + i * 4, none⟩) hbR ci0 p
          have q2 := fun p : Blw W2.heap.size W2 => blw_cell (a := ⟨bR, oR + k * 4, none⟩) hbR ck0 p
          go_upto_region 7 with (fail)
          cases hff : (fi == fk)
          rotate_left
          · as_aux_lemma =>
              refine wp_region_blw (by kernel_rfl) (by kernel_rfl) ?_
              repeat (go_big_quiet_step (fail))
              refine wpQuiet_nil ?_
              rintro W3 ⟨⟨_, hb3⟩, rfl⟩
              clear q1 q2
              go_wp2_with (fail)
              go_roundg (i - (k + 1))
              case measure => rw [HG2.out]; omega
              case rel => exact ⟨k + 1, rfl, by omega, by go_num, by rw [all_range_succ, HAL2.out, HTK.out, hff]; rfl, hS.below hb3 hS.lt, hB.trans (hb3.mono hB.size)⟩
          · refine wp_region_blw (by kernel_rfl) (by kernel_rfl) ?_
            repeat (go_big_quiet_step (fail))
            refine wpQuiet_nil ?_
            rintro W3 ⟨⟨_, hb3⟩, rfl⟩
            clear q1 q2 ci0 ck0
            have htk2 : telK (fiT tl) z cs i k = telC z cs i k := by rw [HTK.out, hff]; rfl
            have HTK2 := Lib.hid htk2; clear htk2 HTK hff
            replace hS := hS.below hb3 hS.lt
            replace hB := hB.trans (hb3.mono hB.size)
            clear hb3
            go_wp2_with (fail)
            go_loopg [11, 12] cn (fun g m c wr => ∃ (c0 : Nat) (is : Bool), g = cn - c0 ∧ c0 ≤ cn ∧ c = .int .i64 c0 ∧ m = .bool is ∧ is = (cs.take c0).any (fun c => clB (z i c) (z k c)) ∧ Blk wr w.heap.size 23 #[.int .i64 Wn, .int .i64 H, .int .i64 F, .int .i64 L, .int .i64 X, .int .i64 Y] ∧ Below w.heap.size w wr)
            case atStart => exact ⟨0, false, rfl, Nat.zero_le _, rfl, rfl, rfl, hS, hB⟩
            case round =>
              clear hS hB
              obtain ⟨c0, is, hg, hc1, rfl, rfl, his, hS, hB⟩ := hrel
              have HG3 := Lib.hid hg; have HIS := Lib.hid his; clear hg his
              rename World => W4
              by_cases hlt3 : c0 < cn
              · have hltc : (c0 : Int) < cn := by omega
                obtain ⟨bC, oC, hzc, rfl, hbC, hcc⟩ := (rdB hC hB).atm hlt3
                have hts := any_take_succ (fun c => clB (z i c) (z k c)) cs c0 hzc
                have hcm : cs[c0] ∈ cs := List.getElem_mem hzc
                have hc10 := HCS.out _ hcm
                simp only [natV] at hcc
                obtain ⟨bU, oU, rfl, hbU, hcu⟩ := (rdB hU hB).2 (by omega)
                have hvi : i < vs.length := by rw [HVL.out]; exact hlt
                have hvk : k < vs.length := by rw [HVL.out]; omega
                obtain ⟨hci, Ai, ai, ei, _, _, hri⟩ := (hcl.below hB).at hvi
                obtain ⟨hck, Ak, ak, ek, _, _, hrk⟩ := (hcl.below hB).at hvk
                have cui : W4.cell? ⟨bU, oU + i, none⟩ = some (.slice Ai cls[i].length ai) := hcu i _ (by rw [List.getElem?_eq_getElem hvi, ei])
                have cuk : W4.cell? ⟨bU, oU + k, none⟩ = some (.slice Ak cls[k].length ak) := hcu k _ (by rw [List.getElem?_eq_getElem hvk, ek])
                obtain ⟨ri, ri1, ri2, ri3⟩ := HCELL.out i hci _ hcm
                obtain ⟨rk, rk1, rk2, rk3⟩ := HCELL.out k hck _ hcm
                have hki := fun p : Blw W4.heap.size W4 => Cell_any Wn H F L X Y Ai cls[i].length ai cls[i] ri cs[c0] (z i cs[c0]) p.to hW hW2 hc10 ri1 ri2 ri3 (rdB hri p.h)
                have hkk := fun p : Blw W4.heap.size W4 => Cell_any Wn H F L X Y Ak cls[k].length ak cls[k] rk cs[c0] (z k cs[c0]) p.to hW hW2 hc10 rk1 rk2 rk3 (rdB hrk p.h)
                (try dsimp only at hts)
                generalize cls[i].length = li at *
                generalize cls[k].length = lk at *
                generalize cs[c0] = c at *
                generalize z i c = zi at *
                generalize z k c = zk at *
                have HTS := Lib.hid hts; clear hts hcu hri hrk ri1 ri2 rk1 rk2 ei ek hci hck
                have hbs := fun p i => blw_blk hS p i
                have q1 := fun p : Blw W4.heap.size W4 => blw_cell (a := ⟨bC, oC + c0, none⟩) hbC hcc p
                have q2 := fun p : Blw W4.heap.size W4 => blw_cell (a := ⟨bU, oU + i, none⟩) hbU cui p
                have q3 := fun p : Blw W4.heap.size W4 => blw_cell (a := ⟨bU, oU + k, none⟩) hbU cuk p
                go_upto_region 12 with (fail)
                cases is
                rotate_left
                · as_aux_lemma =>
                    refine wp_region_blw (by kernel_rfl) (by kernel_rfl) ?_
                    repeat (go_big_quiet_step (fail))
                    refine wpQuiet_nil ?_
                    rintro W5 ⟨⟨_, hb5⟩, rfl⟩
                    clear q1 q2 q3 hbs
                    go_wp2_with (fail)
                    go_roundg (cn - (c0 + 1))
                    case measure => rw [HG3.out]; omega
                    case rel => exact ⟨c0 + 1, true, rfl, by omega, by go_num, rfl, by rw [HTS.out, ← HIS.out]; rfl, hS.below hb5 hS.lt, hB.trans (hb5.mono hB.size)⟩
                · cases hcb : clB zi zk
                  all_goals
                    as_aux_lemma =>
                      refine wp_region_blw (by kernel_rfl) (by kernel_rfl) ?_
                      repeat (go_big_quiet_step (first | (go_at_call_of 66 (Value.slice Ai li ai); exact Calls.blw_of _ (hki _)) | (go_at_call_of 66 (Value.slice Ak lk ak); exact Calls.blw_of _ (hkk _)) | (go_at_call 81; exact Calls.blw_of_same _ (hcb ▸ Opposed_any _ _ _))))
                      refine wpQuiet_nil ?_
                      rintro W5 ⟨⟨_, hb5⟩, rfl⟩
                      clear q1 q2 q3 hbs
                      go_wp2_with (fail)
                      go_roundg (cn - (c0 + 1))
                      case measure => rw [HG3.out]; omega
                      case rel => exact ⟨c0 + 1, _, rfl, by omega, by go_num, rfl, by rw [HTS.out, ← HIS.out, hcb]; rfl, hS.below hb5 hS.lt, hB.trans (hb5.mono hB.size)⟩
              · obtain rfl : c0 = cn := by omega
                have hge : ¬ (c0 : Int) < c0 := by omega
                have his2 : is = telC z cs i k := by rw [HIS.out, List.take_of_length_le (by have := HCLEN.out; omega)]; rfl
                have HIS2 := Lib.hid his2; clear his2 HIS
                cases is
                · as_aux_lemma =>
                    go_wp2_with (fail)
                    go_ret
                    exact ⟨ret_bool (by rw [telA, all_range_false hlt]; unfold telI; exact all_range_false hlt2 (by rw [HTK2.out, ← HIS2.out])), hB⟩
                · as_aux_lemma =>
                    go_wp2_with (fail)
                    go_roundg (i - (k + 1))
                    case measure => rw [HG2.out]; omega
                    case rel => exact ⟨k + 1, rfl, by omega, by go_num, by rw [all_range_succ, HAL2.out, HTK2.out, ← HIS2.out]; rfl, hS, hB⟩
        · obtain rfl : k = i := by omega
          have hge : ¬ (k : Int) < k := by omega
          go_wp2_with (fail)
          go_roundg (tn - (k + 1))
          case measure => rw [HG.out]; omega
          case rel => exact ⟨k + 1, rfl, by omega, by go_num, by rw [all_range_succ, HAL.out]; unfold telI; rw [HAL2.out]; rfl, hS, hB⟩
    · obtain rfl : i = tn := by omega
      have hge : ¬ (i : Int) < i := by omega
      go_wp2_with (fail)
      go_ret
      exact ⟨ret_bool (by rw [telA, HAL.out]), hB⟩
end Go.Proofs.YtifddfchpknkbaaGreatDoor
