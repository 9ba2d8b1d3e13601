import Derived.Test.YtekmnelpkogppaaGreatDoorProg
import Derived.Test.YtekmnelpkogppaaGreatDoorKy1
import Derived.Test.YtekmnelpkogppaaGreatDoorKy3
import Derived.Test.YtekmnelpkogppaaGreatDoorKy4
import Derived.Test.YtekmnelpkogppaaGreatDoorKy6
import Derived.Test.YtekmnelpkogppaaGreatDoorKy8
import Derived.Test.YtekmnelpkogppaaGreatDoorKy9
import Derived.Lib.AppendZerosOnto
import Derived.Lib.SliceRun
set_option linter.unusedVariables false
set_option linter.unusedSimpArgs false
set_option maxRecDepth 100000
set_option maxHeartbeats 40000000
namespace Go.Proofs.YtekmnelpkogppaaGreatDoor
section
open Go.RowKit Go.Lib Go.Maps
theorem grow_any (n : Nat) (w : World) (hn : n ≤ 100000) : Calls Tryz.prog 189 #[.slice none 0 0, .int .i64 (n : Int)] w fun e w' => ∃ v, e = .returned v ∧ w'.ownsRow w.heap.size 121 1 v 0 [] ∧ Below w.heap.size w w' := by
 obtain ⟨i0, hi, hz0, hz1', hz2'⟩ := info_parts info121
 have h1 : ¬ ((n : Int) < 0) := by omega
 by_cases h0 : n = 0
 ·subst h0
  go_enter Tryz.func189, Tryz.ntmps189
  go_wp2_with fail
  go_ret
  exact ⟨_, rfl, World.ownsRow_nil _ _ _ _, Below.refl _ _⟩
 ·have h4 : (n : Int) > 0 := by omega
  have hG1 := grownCap_ge w n 0 121
  have hG2 := grownCap_le_maxLen w n 0 121 (by unfold maxLen; omega)
  have hrz : ∀ ty, (Builtin.append_ #[128, 3] ty #[.slice none 0 0, .int .i64 (n : Int)]).run Tryz.prog w =
    .ok (.slice (some ⟨w.heap.size, 0, none⟩) n (grownCap w n 0 121)) (w.drew.alloc (.cells (#[] ++ Builtin.zeroCells (Value.string ⟨#[]⟩).cells n ++ Builtin.zeroCells (Value.string ⟨#[]⟩).cells (grownCap w n 0 121 - n)) 121)) := fun ty => by
   have h := Lib.run_append_grow_zeros w 128 3 ty 121 i0 (.string ⟨#[]⟩) .i64 .i64 Tryz.underlying128 Tryz.underlying3 hi hz0 none 0 0 [] (run_firstCells_none _ _ _ _ _) n (by omega) (by rw [hz1']; omega) (by omega) (by omega) (by rw [hz2']; omega) (by rw [hz2']; exact growslice_fits (by omega) (by omega))
   simp only [Nat.zero_add] at h
   exact h
  obtain ⟨G, hG⟩ : ∃ G, G = grownCap w n 0 121 := ⟨_, rfl⟩
  rw [← hG] at hrz hG1 hG2
  clear hG
  have hsz : (#[] ++ Builtin.zeroCells (Value.string ⟨#[]⟩).cells n ++ Builtin.zeroCells (Value.string ⟨#[]⟩).cells (G - n)).size = G := by have e1 : (Value.string ⟨#[]⟩).cells.size = 1 := rfl; simp [Builtin.zeroCells, e1]; omega
  generalize (#[] ++ Builtin.zeroCells (Value.string ⟨#[]⟩).cells n ++ Builtin.zeroCells (Value.string ⟨#[]⟩).cells (G - n)) = cur at *
  have hown : (w.drew.alloc (.cells cur 121)).ownsRow w.heap.size 121 1 (.slice (some ⟨w.heap.size, 0, none⟩) 0 G) 0 [] := by
   refine ⟨rfl, .inr ⟨w.heap.size, G, cur, rfl, Nat.le_refl _, ?_, Nat.zero_le _, ?_, by omega, by simp⟩⟩
   ·exact World.alloc_heap_new w.drew (.cells cur 121)
   ·exact hG2
  have hB : Below w.heap.size w (w.drew.alloc (.cells cur 121)) := (Below.refl _ w).drew.alloc (Nat.le_refl _) _
  have hG63 : G ≤ 9223372036854775807 := by unfold maxLen at hG2; omega
  have HOWN := Lib.hid hown; have HB := Lib.hid hB
  clear hsz hown hB
  go_enter Tryz.func189, Tryz.ntmps189
  go_wp2_with (at_builtin; refine Lib.wpList_append_run _ rfl _ _ _ _ rfl _ _ rfl rfl _ _ (hrz _) ?_)
  all_goals (go_ret; exact ⟨_, rfl, HOWN.out, HB.out⟩)
structure SP where
 A : Option Addr
 n : Nat
 cap : Nat
 ls : List ByteArray
def SP.val (r : SP) : Value := .slice r.A r.n r.cap
def totN (ps : List SP) : Nat := (ps.map SP.n).sum
theorem totN_snoc (ps : List SP) (p : SP) : totN (ps ++ [p]) = totN ps + p.n := by unfold totN; simp
theorem concat_any (A : Option Addr) (m cap : Nat) (ps : List SP) (w : World) (hm : m ≤ 10) (hr : Rd w w.heap.size 1 A m (ps.map SP.val)) (hp : ∀ p ∈ ps, p.n ≤ 1000 ∧ Rd w w.heap.size 1 p.A p.n (p.ls.map Value.string)) :
  Calls Tryz.prog 156 #[.slice A m cap] w fun e w' => ∃ v, e = .returned v ∧ w'.ownsRow w.heap.size 121 1 v (totN ps) ((ps.flatMap SP.ls).map Value.string) ∧ Below w.heap.size w w' := by
 obtain ⟨i121, hi, hz0, hz1', hz2'⟩ := info_parts info121
 have hlen : ps.length = m := by simpa using hr.len
 have HL := Lib.hid hlen; have HP := Lib.hid hp; clear hlen hp
 go_enter Tryz.func156, Tryz.ntmps156
 go_wp2_with fail
 go_loopg [3, 11] m (fun g t i wr => ∃ (k : Nat) (T : Nat), g = m - k ∧ k ≤ m ∧ i = .int .i64 k ∧ t = .int .i64 (T : Int) ∧ Hid (T = totN (ps.take k)) ∧ T ≤ k * 1000 ∧ wr = w)
 case atStart => exact ⟨0, 0, rfl, Nat.zero_le _, rfl, rfl, Lib.hid (by simp [totN]), by omega, rfl⟩
 case round =>
  obtain ⟨k, T, hg, hk, rfl, rfl, hT, hT1, rfl⟩ := hrel
  have HG := Lib.hid hg; clear hg
  by_cases hlt : k < m
  ·have hlti : (k : Int) < m := by omega
   obtain ⟨b, off, hz, rfl, hb, hc0⟩ := hr.atm hlt
   have htk : ps.take (k + 1) = ps.take k ++ [ps[k]] := List.take_succ_eq_append_getElem hz
   have hpk := (HP.out _ (List.getElem_mem hz)).1
   generalize ps[k] = p at *
   have HTK := Lib.hid htk; clear htk
   obtain ⟨pA, pn, pc, pl⟩ := p
   dsimp only [SP.val] at hc0 hpk
   have hge : ¬ ((T : Int) + pn < 0) := by omega
   go_wp2_with fail
   go_roundg (m - (k + 1))
   case measure => rw [HG.out]; omega
   case rel => exact ⟨k + 1, T + pn, rfl, by omega, by go_num, by go_num, Lib.hid (by rw [HTK.out, totN_snoc, ← hT.out]), by omega, rfl⟩
  ·obtain rfl : k = m := by omega
   have hge : ¬ (k : Int) < k := by omega
   have hta : ps.take k = ps := List.take_of_length_le (by rw [HL.out]; exact Nat.le_refl _)
   rw [hta] at hT
   clear hta
   go_wp2_with (go_at_call 189; refine (grow_any T _ (by omega)).mono ?_; rintro e w1 ⟨v, rfl, hown, hB⟩; obtain ⟨va, vc, rfl⟩ := own_slice hown)
   go_loopg [6, 27] k (fun g v i wr2 => ∃ (q : Nat) (T2 : Nat) (v0 : Value), g = k - q ∧ q ≤ k ∧ i = .int .i64 q ∧ v = v0 ∧ Hid (T2 = totN (ps.take q)) ∧ T2 ≤ q * 1000 ∧ wr2.ownsRow wr.heap.size 121 1 v0 T2 (((ps.take q).flatMap SP.ls).map Value.string) ∧ Below wr.heap.size wr wr2)
   case atStart => exact ⟨0, 0, _, rfl, Nat.zero_le _, rfl, rfl, Lib.hid (by simp [totN]), by omega, by simpa using hown, hB⟩
   case round =>
    clear hown hB
    obtain ⟨q, T2, v0, hg, hq, rfl, rfl, hT2, hT3, hown, hB⟩ := hrel
    have HG2 := Lib.hid hg; clear hg
    rename World => WR
    obtain ⟨va, vc, rfl⟩ := own_slice hown
    have hBs := hB.size
    by_cases hlt2 : q < k
    ·have hlti : (q : Int) < k := by omega
     obtain ⟨b, off, hz, rfl, hb, hc0⟩ := (hr.below hB).atm hlt2
     have htk : ps.take (q + 1) = ps.take q ++ [ps[q]] := List.take_succ_eq_append_getElem hz
     have hpk := HP.out _ (List.getElem_mem hz)
     generalize ps[q] = p at *
     have HTK := Lib.hid htk; clear htk
     obtain ⟨pA, pn, pc, pl⟩ := p
     dsimp only [SP.val] at hc0 hpk
     obtain ⟨hpn, hpr⟩ := hpk
     have hprd := (hpr.below hB)
     obtain ⟨ys, hys⟩ : ∃ ys, ys = ((ps.take q).flatMap SP.ls).map Value.string := ⟨_, rfl⟩
     rw [← hys] at hown
     have HYS := Lib.hid hys; clear hys
     go_wp2_with (at_builtin; refine wpList_append_any _ rfl _ _ 128 rfl wr.heap.size 121 i121 (.string ⟨#[]⟩) 1 16 Tryz.underlying128 hi hz0 hz1' hz2' rfl (by decide) (.slice va T2 vc) T2 ys rfl hown wr.heap.size pA pn pc (pl.map Value.string) rfl hprd.reads (by intro u hu; obtain ⟨x, _, rfl⟩ := List.mem_map.1 hu; rfl) (by unfold maxLen; omega) (by omega) hBs (fun v' w3 hown' hgrow hob => ?_))
     have hB3 := hB.grown hgrow hBs (fun g hg => (hown.lt g hg).1)
     go_roundg (k - (q + 1))
     case measure => rw [HG2.out]; omega
     case rel => exact ⟨q + 1, T2 + pn, v', rfl, by omega, by go_num, rfl, Lib.hid (by rw [HTK.out, totN_snoc, ← hT2.out]), by omega, by rw [HTK.out, List.flatMap_append, List.map_append, ← HYS.out]; simpa using hown', hB3⟩
    ·obtain rfl : q = k := by omega
     have hge2 : ¬ (q : Int) < q := by omega
     have hta : ps.take q = ps := List.take_of_length_le (by rw [HL.out]; exact Nat.le_refl _)
     rw [hta] at hown hT2
     clear hta
     go_wp2_with fail
     go_ret
     exact ⟨_, rfl, by rw [← hT2.out]; exact hown, hB⟩
end
section
open Go.RowKit Go.Lib
theorem flatMX : ∀ (l : List MX) (k j : Nat) (hk : k < l.length), j < 4 → (l.flatMap MX.cells)[k * 4 + j]? = (MX.cells l[k])[j]?
 | x :: l, 0, j, _, hj => by
  simp only [List.flatMap_cons, List.getElem_cons_zero, Nat.zero_mul, Nat.zero_add]
  rw [List.getElem?_append_left (by simp [MX.cells]; omega)]
 | x :: l, k + 1, j, hk, hj => by
  simp only [List.flatMap_cons, List.getElem_cons_succ]
  rw [List.getElem?_append_right (by simp [MX.cells]; omega), show (k + 1) * 4 + j - (MX.cells x).length = k * 4 + j by simp [MX.cells]; omega]
  exact flatMX l k j (by simpa using hk) hj
theorem flatMX_len : ∀ l : List MX, (l.flatMap MX.cells).length = l.length * 4
 | [] => rfl
 | x :: l => by rw [List.flatMap_cons, List.length_append, flatMX_len l]; simp [MX.cells]; omega
theorem Rd.lenMX {w : World} {B : Nat} {A : Option Addr} {n : Nat} {l : List MX} (h : Rd w B 4 A n (l.flatMap MX.cells)) : l.length = n := by have := h.1; rw [flatMX_len] at this; omega
theorem Rd.elMX {w : World} {B : Nat} {A : Option Addr} {n k : Nat} {l : List MX} (h : Rd w B 4 A n (l.flatMap MX.cells)) (hk : k < n) : ∃ b off, ∃ hz : k < l.length, A = some ⟨b, off, none⟩ ∧ b < B ∧ w.cell? ⟨b, off + k * 4, none⟩ = some ((MX.cells l[k])[0]'(by simp [MX.cells])) ∧ w.cell? ⟨b, off + k * 4 + 1, none⟩ = some ((MX.cells l[k])[1]'(by simp [MX.cells])) ∧ w.cell? ⟨b, off + k * 4 + 2, none⟩ = some ((MX.cells l[k])[2]'(by simp [MX.cells])) ∧ w.cell? ⟨b, off + k * 4 + 3, none⟩ = some ((MX.cells l[k])[3]'(by simp [MX.cells])) := by
 have hl := h.lenMX
 obtain ⟨b, off, rfl, hb, hc⟩ := h.2 (by omega)
 refine ⟨b, off, by omega, rfl, hb, ?_, ?_, ?_, ?_⟩
 ·exact hc (k * 4) _ (by have := flatMX l k 0 (by omega) (by omega); rw [Nat.add_zero] at this; rw [this]; rfl)
 ·exact hc (k * 4 + 1) _ (by rw [flatMX l k 1 (by omega) (by omega)]; rfl)
 ·exact hc (k * 4 + 2) _ (by rw [flatMX l k 2 (by omega) (by omega)]; rfl)
 ·exact hc (k * 4 + 3) _ (by rw [flatMX l k 3 (by omega) (by omega)]; rfl)
def zcMX : Array Value := #[.int .i64 0, .int .i64 0, .int .i64 0, .int .i64 0]
def acMX (o : Option MX) : Array Value := match o with | some x => (match x with | ⟨o1, o2, ls, c⟩ => #[.int .i64 o1, .int .i64 o2, .int .i64 ls, .int .i64 c]) | none => zcMX
def anMX (o : Option MX) : Int := match o with | some x => MX.c x | none => 0
def brMX (o : Option MX) : Ending := .returned (.tuple #[.agg (acMX o), .bool o.isSome])
theorem cost_MX (o1 o2 ls c : Int) (w : World) : Calls Tryz.prog 117 #[.agg #[.int .i64 o1, .int .i64 o2, .int .i64 ls, .int .i64 c]] w fun e w' => e = .returned (.int .i64 c) ∧ Below w.heap.size w w' := by
 have hX := Blk.new w 93 #[.int .i64 o1, .int .i64 o2, .int .i64 ls, .int .i64 c]
 have qX := fun i => hX.cell i
 have hB : Below w.heap.size w (w.alloc (.cells #[.int .i64 o1, .int .i64 o2, .int .i64 ls, .int .i64 c] 93)) := (Below.refl _ _).alloc (Nat.le_refl _) _
 go_enter Tryz.func117, Tryz.ntmps117
 go_wp2_with fail
 go_ret
 exact ⟨rfl, hB⟩
theorem best_MX (A : Option Addr) (n cap : Nat) (ms : List MX) (w : World) (hn : n ≤ 1000000) (hr : Rd w w.heap.size 4 A n (ms.flatMap MX.cells)) :
  Calls Tryz.prog 115 #[.slice A n cap, .func (.func 117) #[] #[]] w fun e w' => e = brMX (bestI MX.c ms) ∧ Below w.heap.size w w' := by
 have hcf : ∀ (a : Array Value) (w : World), Sem.run Tryz.prog (callFunc 117 a) w = .ok (Next.enter 117 a) w := fun _ _ => rfl
 have hlen := hr.lenMX
 have hB : Below w.heap.size w ((w.alloc (.cells #[.int .i64 0, .int .i64 0, .int .i64 0, .int .i64 0] 93)).alloc (.cells #[.int .i64 0, .int .i64 0, .int .i64 0, .int .i64 0] 93)) := ((Below.refl _ _).alloc (Nat.le_refl _) _).alloc (by simp only [World.size_alloc]; omega) _
 have h4 : Blk ((w.alloc (.cells #[.int .i64 0, .int .i64 0, .int .i64 0, .int .i64 0] 93)).alloc (.cells #[.int .i64 0, .int .i64 0, .int .i64 0, .int .i64 0] 93)) w.heap.size 93 #[.int .i64 0, .int .i64 0, .int .i64 0, .int .i64 0] := blk2_0 w _ 93 _
 have h6 : Blk ((w.alloc (.cells #[.int .i64 0, .int .i64 0, .int .i64 0, .int .i64 0] 93)).alloc (.cells #[.int .i64 0, .int .i64 0, .int .i64 0, .int .i64 0] 93)) (w.heap.size + 1) 93 #[.int .i64 0, .int .i64 0, .int .i64 0, .int .i64 0] := blk2_1 w _ 93 _
 have HLEN := Lib.hid hlen; clear hlen
 go_enter Tryz.func115, Tryz.ntmps115
 go_wp2_with fail
 generalize ((w.alloc (.cells #[.int .i64 0, .int .i64 0, .int .i64 0, .int .i64 0] 93)).alloc (.cells #[.int .i64 0, .int .i64 0, .int .i64 0, .int .i64 0] 93)) = W0 at *
 go_loopg [7, 13] n (fun g l i wr => ∃ (k : Nat) (acc : Option MX) (z : Int), g = n - k ∧ k ≤ n ∧ i = .int .i64 k ∧ l = .int .i64 z ∧ Hid (acc = bestI MX.c (ms.take k)) ∧ Hid (z = anMX acc) ∧ Blk wr w.heap.size 93 #[.int .i64 0, .int .i64 0, .int .i64 0, .int .i64 0] ∧ (∃ x0 x1 x2 x3, Hid (acMX acc = #[x0, x1, x2, x3]) ∧ Blk wr (w.heap.size + 1) 93 #[x0, x1, x2, x3]) ∧ Below w.heap.size w wr)
 case atStart => exact ⟨0, none, 0, rfl, Nat.zero_le _, rfl, rfl, Lib.hid rfl, Lib.hid rfl, h4, ⟨_, _, _, _, Lib.hid rfl, h6⟩, hB⟩
 case round =>
  clear h4 h6 hB
  obtain ⟨k, acc, z, hg, hk, rfl, rfl, hacc, hz, h4, ⟨x0, x1, x2, x3, hxx, h6⟩, hB⟩ := hrel
  have HG := Lib.hid hg; clear hg
  rename World => wr
  by_cases hlt : k < n
  ·have hlti : (k : Int) < n := by omega
   obtain ⟨gb, off, hzl, rfl, hgb, hc0, hc1, hc2, hc3⟩ := (hr.below hB).elMX hlt
   have htk : ms.take (k + 1) = ms.take k ++ [ms[k]] := List.take_succ_eq_append_getElem hzl
   generalize ms[k] = m at *
   have HTK := Lib.hid htk; clear htk hzl
   obtain ⟨o1, o2, ls, c⟩ := m
   simp only [MX.cells, List.getElem_cons_zero, List.getElem_cons_succ] at hc0 hc1 hc2 hc3
   have hl4 := h4.lt; have hl6 := h6.lt; have hs := hB.size
   by_cases hk0 : k = 0
   ·have hk0b : ((k : Int) == 0) = true := by rw [beq_iff_eq]; omega
    have hac : acc = none := by rw [hacc.out, hk0]; rfl
    have HAC := Lib.hid hac; clear hac hk0
    go_wp2_with (go_at_call 117; refine (cost_MX o1 o2 ls c _).mono ?_; rintro e w1 ⟨rfl, hb1⟩; have hX := (Blk.new wr 93 #[.int .i64 o1, .int .i64 o2, .int .i64 ls, .int .i64 c]).below hb1 (by simp only [World.size_alloc]; omega); replace h4 := (h4.alloc (.cells #[.int .i64 o1, .int .i64 o2, .int .i64 ls, .int .i64 c] 93)).below hb1 (by simp only [World.size_alloc]; omega); replace h6 := (h6.alloc (.cells #[.int .i64 o1, .int .i64 o2, .int .i64 ls, .int .i64 c] 93)).below hb1 (by simp only [World.size_alloc]; omega); replace hB := (hB.alloc hB.size (.cells #[.int .i64 o1, .int .i64 o2, .int .i64 ls, .int .i64 c] 93)).trans (hb1.mono (by have := hB.size; simp only [World.size_alloc]; omega)); have qX := fun i => hX.cell i; have q6 := fun i => h6.cell i; have f6 := fun i => h6.frozen i; have l6 := h6.lt; clear hb1)
    clear qX q6 f6 l6
    replace h6 := h6.set_ 0 (.int .i64 o1); replace h4 := h4.far (p := ⟨w.heap.size + 1, 0, none⟩) (show w.heap.size ≠ w.heap.size + 1 by omega) (.int .i64 o1); replace hB := hB.setCell (p := ⟨w.heap.size + 1, 0, none⟩) (Nat.le_succ _) (.int .i64 o1)
    replace h6 := h6.set_ 1 (.int .i64 o2); replace h4 := h4.far (p := ⟨w.heap.size + 1, 1, none⟩) (show w.heap.size ≠ w.heap.size + 1 by omega) (.int .i64 o2); replace hB := hB.setCell (p := ⟨w.heap.size + 1, 1, none⟩) (Nat.le_succ _) (.int .i64 o2)
    replace h6 := h6.set_ 2 (.int .i64 ls); replace h4 := h4.far (p := ⟨w.heap.size + 1, 2, none⟩) (show w.heap.size ≠ w.heap.size + 1 by omega) (.int .i64 ls); replace hB := hB.setCell (p := ⟨w.heap.size + 1, 2, none⟩) (Nat.le_succ _) (.int .i64 ls)
    replace h6 := h6.set_ 3 (.int .i64 c); replace h4 := h4.far (p := ⟨w.heap.size + 1, 3, none⟩) (show w.heap.size ≠ w.heap.size + 1 by omega) (.int .i64 c); replace hB := hB.setCell (p := ⟨w.heap.size + 1, 3, none⟩) (Nat.le_succ _) (.int .i64 c)
    go_roundg (n - (k + 1))
    case measure => rw [HG.out]; omega
    case rel => exact ⟨k + 1, some ⟨o1, o2, ls, c⟩, c, rfl, by omega, by go_num, rfl, Lib.hid (by rw [HTK.out, bestI_snoc, ← hacc.out]; rw [HAC.out]), Lib.hid rfl, h4, ⟨_, _, _, _, Lib.hid rfl, h6⟩, hB⟩
   ·have hk0b : ((k : Int) == 0) = false := by rw [beq_eq_false_iff_ne]; omega
    have hne : ms.take k ≠ [] := fun e => by have := congrArg List.length e; rw [List.length_take, List.length_nil, HLEN.out] at this; omega
    obtain ⟨am, hac⟩ := bestI_some MX.c hne
    rw [← hacc.out] at hac
    have hzc : z = MX.c am := by rw [hz.out, hac]; rfl
    have HAC := Lib.hid hac; have HZC := Lib.hid hzc; clear hac hne hk0 hzc
    by_cases hcl : c < z
    ·have HNL := Lib.hid (show MX.c ⟨o1, o2, ls, c⟩ < MX.c am from by rw [← HZC.out]; exact hcl)
     go_wp2_with (go_at_call 117; refine (cost_MX o1 o2 ls c _).mono ?_; rintro e w1 ⟨rfl, hb1⟩; have hX := (Blk.new wr 93 #[.int .i64 o1, .int .i64 o2, .int .i64 ls, .int .i64 c]).below hb1 (by simp only [World.size_alloc]; omega); replace h4 := (h4.alloc (.cells #[.int .i64 o1, .int .i64 o2, .int .i64 ls, .int .i64 c] 93)).below hb1 (by simp only [World.size_alloc]; omega); replace h6 := (h6.alloc (.cells #[.int .i64 o1, .int .i64 o2, .int .i64 ls, .int .i64 c] 93)).below hb1 (by simp only [World.size_alloc]; omega); replace hB := (hB.alloc hB.size (.cells #[.int .i64 o1, .int .i64 o2, .int .i64 ls, .int .i64 c] 93)).trans (hb1.mono (by have := hB.size; simp only [World.size_alloc]; omega)); have qX := fun i => hX.cell i; have q6 := fun i => h6.cell i; have f6 := fun i => h6.frozen i; have l6 := h6.lt; clear hb1)
     clear qX q6 f6 l6
     replace h6 := h6.set_ 0 (.int .i64 o1); replace h4 := h4.far (p := ⟨w.heap.size + 1, 0, none⟩) (show w.heap.size ≠ w.heap.size + 1 by omega) (.int .i64 o1); replace hB := hB.setCell (p := ⟨w.heap.size + 1, 0, none⟩) (Nat.le_succ _) (.int .i64 o1)
     replace h6 := h6.set_ 1 (.int .i64 o2); replace h4 := h4.far (p := ⟨w.heap.size + 1, 1, none⟩) (show w.heap.size ≠ w.heap.size + 1 by omega) (.int .i64 o2); replace hB := hB.setCell (p := ⟨w.heap.size + 1, 1, none⟩) (Nat.le_succ _) (.int .i64 o2)
     replace h6 := h6.set_ 2 (.int .i64 ls); replace h4 := h4.far (p := ⟨w.heap.size + 1, 2, none⟩) (show w.heap.size ≠ w.heap.size + 1 by omega) (.int .i64 ls); replace hB := hB.setCell (p := ⟨w.heap.size + 1, 2, none⟩) (Nat.le_succ _) (.int .i64 ls)
     replace h6 := h6.set_ 3 (.int .i64 c); replace h4 := h4.far (p := ⟨w.heap.size + 1, 3, none⟩) (show w.heap.size ≠ w.heap.size + 1 by omega) (.int .i64 c); replace hB := hB.setCell (p := ⟨w.heap.size + 1, 3, none⟩) (Nat.le_succ _) (.int .i64 c)
     go_roundg (n - (k + 1))
     case measure => rw [HG.out]; omega
     case rel => exact ⟨k + 1, some ⟨o1, o2, ls, c⟩, c, rfl, by omega, by go_num, rfl, Lib.hid (by rw [HTK.out, bestI_snoc, ← hacc.out]; rw [HAC.out]; simp only; rw [if_pos (by have := HNL.out; omega)]), Lib.hid rfl, h4, ⟨_, _, _, _, Lib.hid rfl, h6⟩, hB⟩
    ·have HNL := Lib.hid (show ¬ MX.c ⟨o1, o2, ls, c⟩ < MX.c am from by rw [← HZC.out]; exact hcl)
     go_wp2_with (go_at_call 117; refine (cost_MX o1 o2 ls c _).mono ?_; rintro e w1 ⟨rfl, hb1⟩; have hX := (Blk.new wr 93 #[.int .i64 o1, .int .i64 o2, .int .i64 ls, .int .i64 c]).below hb1 (by simp only [World.size_alloc]; omega); replace h4 := (h4.alloc (.cells #[.int .i64 o1, .int .i64 o2, .int .i64 ls, .int .i64 c] 93)).below hb1 (by simp only [World.size_alloc]; omega); replace h6 := (h6.alloc (.cells #[.int .i64 o1, .int .i64 o2, .int .i64 ls, .int .i64 c] 93)).below hb1 (by simp only [World.size_alloc]; omega); replace hB := (hB.alloc hB.size (.cells #[.int .i64 o1, .int .i64 o2, .int .i64 ls, .int .i64 c] 93)).trans (hb1.mono (by have := hB.size; simp only [World.size_alloc]; omega)); have qX := fun i => hX.cell i; have q6 := fun i => h6.cell i; have f6 := fun i => h6.frozen i; have l6 := h6.lt; clear hb1)
     clear qX q6 f6 l6
     go_roundg (n - (k + 1))
     case measure => rw [HG.out]; omega
     case rel => exact ⟨k + 1, acc, z, rfl, by omega, by go_num, rfl, Lib.hid (by rw [HTK.out, bestI_snoc, ← hacc.out, HAC.out]; simp only; rw [if_neg (by have := HNL.out; omega)]), hz, h4, ⟨_, _, _, _, hxx, h6⟩, hB⟩
  ·obtain rfl : k = n := by omega
   have htk : ms.take k = ms := List.take_of_length_le (by have := HLEN.out; omega)
   have hfin : acc = bestI MX.c ms := by rw [hacc.out, htk]
   have HFIN := Lib.hid hfin; clear hfin htk
   cases acc with
   | none =>
    have hk0 : k = 0 := by
     have h1 : ms = [] := (bestI_none MX.c ms).1 HFIN.out.symm
     have := HLEN.out
     rw [h1] at this
     exact this.symm
    have h := hxx.out
    simp only [acMX, zcMX, Array.mk.injEq, List.cons.injEq, and_true] at h
    obtain ⟨rfl, rfl, rfl, rfl⟩ := h
    have hk0i : ¬ (0 : Int) < k := by omega
    have HK0 := Lib.hid hk0; clear hk0
    have q6 := fun i => h6.cell i
    have q4 := fun i => h4.cell i; have f4 := fun i => h4.frozen i; have l4 := h4.lt
    go_wp2_with fail
    clear q6 q4 f4 l4
    replace h4 := h4.set_ 0 (.int .i64 0); replace hB := hB.setCell (p := ⟨w.heap.size, 0, none⟩) (Nat.le_refl _) (.int .i64 0)
    replace h4 := h4.set_ 1 (.int .i64 0); replace hB := hB.setCell (p := ⟨w.heap.size, 1, none⟩) (Nat.le_refl _) (.int .i64 0)
    replace h4 := h4.set_ 2 (.int .i64 0); replace hB := hB.setCell (p := ⟨w.heap.size, 2, none⟩) (Nat.le_refl _) (.int .i64 0)
    replace h4 := h4.set_ 3 (.int .i64 0); replace hB := hB.setCell (p := ⟨w.heap.size, 3, none⟩) (Nat.le_refl _) (.int .i64 0)
    replace h4 : Blk ((((((((wr).setCell ⟨w.heap.size, 0, none⟩ (.int .i64 0))).setCell ⟨w.heap.size, 1, none⟩ (.int .i64 0))).setCell ⟨w.heap.size, 2, none⟩ (.int .i64 0))).setCell ⟨w.heap.size, 3, none⟩ (.int .i64 0)) w.heap.size 93 #[.int .i64 0, .int .i64 0, .int .i64 0, .int .i64 0] := h4
    generalize ((((((((wr).setCell ⟨w.heap.size, 0, none⟩ (.int .i64 0))).setCell ⟨w.heap.size, 1, none⟩ (.int .i64 0))).setCell ⟨w.heap.size, 2, none⟩ (.int .i64 0))).setCell ⟨w.heap.size, 3, none⟩ (.int .i64 0)) = w9 at *
    have hq9 := fun i => h4.cell i
    refine bodyPost_ret (v := .tuple #[.agg #[.int .i64 0, .int .i64 0, .int .i64 0, .int .i64 0], .bool false]) ?_ rfl ⟨by rw [← HFIN.out]; rfl, hB⟩
    simp [results, Tryz.results115, go_sem, hq9, HK0.out]
   | some m =>
    obtain ⟨o1, o2, ls, c⟩ := m
    have hk0 : 0 < k := by
     rcases Nat.eq_zero_or_pos k with h | h
     ·have h1 : ms = [] := List.length_eq_zero_iff.1 (by have := HLEN.out; omega)
      have h2 := HFIN.out
      rw [h1] at h2
      cases h2
     ·exact h
    have h := hxx.out
    simp only [acMX, Array.mk.injEq, List.cons.injEq, and_true] at h
    obtain ⟨rfl, rfl, rfl, rfl⟩ := h
    have hk0i : (0 : Int) < k := by omega
    have q6 := fun i => h6.cell i
    have q4 := fun i => h4.cell i; have f4 := fun i => h4.frozen i; have l4 := h4.lt
    go_wp2_with fail
    clear q6 q4 f4 l4
    replace h4 := h4.set_ 0 (.int .i64 o1); replace hB := hB.setCell (p := ⟨w.heap.size, 0, none⟩) (Nat.le_refl _) (.int .i64 o1)
    replace h4 := h4.set_ 1 (.int .i64 o2); replace hB := hB.setCell (p := ⟨w.heap.size, 1, none⟩) (Nat.le_refl _) (.int .i64 o2)
    replace h4 := h4.set_ 2 (.int .i64 ls); replace hB := hB.setCell (p := ⟨w.heap.size, 2, none⟩) (Nat.le_refl _) (.int .i64 ls)
    replace h4 := h4.set_ 3 (.int .i64 c); replace hB := hB.setCell (p := ⟨w.heap.size, 3, none⟩) (Nat.le_refl _) (.int .i64 c)
    replace h4 : Blk ((((((((wr).setCell ⟨w.heap.size, 0, none⟩ (.int .i64 o1))).setCell ⟨w.heap.size, 1, none⟩ (.int .i64 o2))).setCell ⟨w.heap.size, 2, none⟩ (.int .i64 ls))).setCell ⟨w.heap.size, 3, none⟩ (.int .i64 c)) w.heap.size 93 #[.int .i64 o1, .int .i64 o2, .int .i64 ls, .int .i64 c] := h4
    generalize ((((((((wr).setCell ⟨w.heap.size, 0, none⟩ (.int .i64 o1))).setCell ⟨w.heap.size, 1, none⟩ (.int .i64 o2))).setCell ⟨w.heap.size, 2, none⟩ (.int .i64 ls))).setCell ⟨w.heap.size, 3, none⟩ (.int .i64 c)) = w9 at *
    have hq9 := fun i => h4.cell i
    refine bodyPost_ret (v := .tuple #[.agg #[.int .i64 o1, .int .i64 o2, .int .i64 ls, .int .i64 c], .bool true]) ?_ rfl ⟨by rw [← HFIN.out]; rfl, hB⟩
    simp [results, Tryz.results115, go_sem, hq9]
end
section
open Go.RowKit Go.Lib Go.Maps
theorem Rd.pre {w : World} {B n k : Nat} {A : Option Addr} {xs : List Value} (h : Rd w B 1 A n xs) (hk : k ≤ n) : Rd w B 1 A k (xs.take k) := by
 refine ⟨by rw [List.length_take, h.1]; omega, fun hi => ?_⟩
 obtain ⟨b, off, rfl, hb, hc⟩ := h.2 (by omega)
 refine ⟨b, off, rfl, hb, fun j u hu => hc j u ?_⟩
 rw [List.getElem?_take] at hu
 split at hu
 ·exact hu
 ·cases hu
theorem own_cap' {w : World} {base e sz n g c : Nat} {xs : List Value} (h : w.ownsRow base e sz (.slice (some ⟨g, 0, none⟩) n c) n xs) : n ≤ c := by
 rcases h.2 with ⟨h1, _⟩ | ⟨g', cap, cur, hv, hb, hg, hn, hm, hs, ht⟩
 ·cases h1
 ·injection hv with e1 _ e3
  omega
def mixX (cs : List VC) (p a b i : Nat) : MX := ⟨a, b, i, sumI (cgL ((((srcL cs [] a).take i) ++ ((srcL cs [] b).drop i)).zip (((cs[p]?).map VC.ls).getD [])))⟩
def mixIn (cs : List VC) (p a b k : Nat) : List MX := (List.range k).map fun i => mixX cs p a b (i + 1)
def mixOt (cs : List VC) (p a k : Nat) : List MX := (List.range k).flatMap fun b => if a = b ∨ a = p ∨ b = p then [] else mixIn cs p a b (headN cs - 1)
def mixL (cs : List VC) (p n k : Nat) : List MX := (List.range k).flatMap fun a => mixOt cs p a n
theorem mixIn_succ (cs : List VC) (p a b k : Nat) : mixIn cs p a b (k + 1) = mixIn cs p a b k ++ [mixX cs p a b (k + 1)] := by unfold mixIn; rw [List.range_succ, List.map_append]; rfl
theorem mixOt_succ (cs : List VC) (p a k : Nat) : mixOt cs p a (k + 1) = mixOt cs p a k ++ (if a = k ∨ a = p ∨ k = p then [] else mixIn cs p a k (headN cs - 1)) := by unfold mixOt; rw [List.range_succ, List.flatMap_append]; simp
theorem mixL_succ (cs : List VC) (p n k : Nat) : mixL cs p n (k + 1) = mixL cs p n k ++ mixOt cs p k n := by unfold mixL; rw [List.range_succ, List.flatMap_append]; simp
theorem mixOt_len (cs : List VC) (p a : Nat) : ∀ k, (mixOt cs p a k).length ≤ k * (headN cs - 1)
 | 0 => by simp [mixOt]
 | k + 1 => by
  rw [mixOt_succ, List.length_append, Nat.succ_mul]
  have := mixOt_len cs p a k
  split <;> simp [mixIn] <;> omega
theorem mixL_len (cs : List VC) (p n : Nat) : ∀ k, (mixL cs p n k).length ≤ k * (n * (headN cs - 1))
 | 0 => by simp [mixL]
 | k + 1 => by
  rw [mixL_succ, List.length_append, Nat.succ_mul]
  have := mixL_len cs p n k
  have := mixOt_len cs p k n
  omega
structure MSt (w0 : World) (S mb N : Nat) (x y : Array Value) (v : Value) (m : Nat) (ys : List Value) (W : World) : Prop where
 own : W.ownsRow S 93 4 v m ys
 m : Memo W mb N
 bx : Blk W w0.heap.size 24 x
 bc : Blk W (mb + 1) 149 y
 bl : Below w0.heap.size w0 W
 sz : S ≤ W.heap.size
theorem MSt.below {w0 W W' : World} {S mb N m : Nat} {x y : Array Value} {v : Value} {ys : List Value} (h : MSt w0 S mb N x y v m ys W) (hb : Below W.heap.size W W') : MSt w0 S mb N x y v m ys W' :=
 ⟨ownsRow_below' h.own hb, h.m.below hb, h.bx.below hb h.bx.lt, h.bc.below hb h.bc.lt, h.bl.trans (hb.mono h.bl.size), Nat.le_trans h.sz hb.size⟩
theorem MSt.drew {w0 W : World} {S mb N m : Nat} {x y : Array Value} {v : Value} {ys : List Value} (h : MSt w0 S mb N x y v m ys W) : MSt w0 S mb N x y v m ys W.drew := h.below (Below.refl _ W).drew
theorem MSt.gb {w0 W W' : World} {S mb N N2 m : Nat} {x y : Array Value} {v : Value} {ys : List Value} (h : MSt w0 S mb N x y v m ys W) (hm : Memo W' mb N2) (hg : GB W.heap.size mb W W') (hS : mb < S) (h0 : w0.heap.size < mb) : MSt w0 S mb N2 x y v m ys W' :=
 ⟨own_gb h.own hg hS, hm, h.bx.gb hg (by omega), h.bc.gb hg (by omega), below_gb h.bl hg (by omega) h.bl.size, Nat.le_trans h.sz hg.size⟩
theorem MSt.app {w0 W W' : World} {S mb N N2 m m2 : Nat} {x y : Array Value} {v v' : Value} {ys ys2 : List Value} (h : MSt w0 S mb N x y v m ys W) (o : Obj) (hg : (W.alloc o).grownBy W' v.ownBlock) (ho : W'.ownsRow S 93 4 v' m2 ys2) (hS : mb < S) (h0 : w0.heap.size ≤ S) (hN : N ≤ N2) : MSt w0 S mb N2 x y v' m2 ys2 W' :=
 ⟨ho, ((h.m.alloc o).kept hg (fun e => by have := ((h.own.alloc o).lt mb e.symm).1; omega)).mono hN, (h.bx.alloc o).kept_own (h.own.alloc o) (by decide) hg, (h.bc.alloc o).kept_own (h.own.alloc o) (by decide) hg, (h.bl.alloc h.bl.size o).grown hg (by have := h.bl.size; rw [World.size_alloc]; omega) (fun z hz => by have := ((h.own.alloc o).lt z hz).1; omega), by have := h.sz; have := hg.size; rw [World.size_alloc] at *; omega⟩
theorem info93 : (Tryz.prog.info? 93).map (fun i => (i.zero, i.size, i.bytes)) = some (some (.agg #[.int .i64 0, .int .i64 0, .int .i64 0, .int .i64 0]), 4, 32) := by kernel_rfl
theorem mixes_any {wn : Nat} {A : Option Addr} {n : Nat} (cap : Nat) {cs : List VC} (p : Nat) {w : World} (hb : BkG wn A n cs w w.heap.size) (hp : p < n) :
  Calls Tryz.prog 116 #[.agg #[.int .i64 (wn : Int), .slice A n cap], .int .i64 (p : Int)] w fun e w' => ∃ v, e = .returned v ∧ w'.ownsRow w.heap.size 93 4 v (mixL cs p n n).length ((mixL cs p n n).flatMap MX.cells) ∧ Below w.heap.size w w' := by
 have hmm := @run_makeMap Tryz.prog
 obtain ⟨i93, hi, hz0, hz1', hz2'⟩ := info_parts info93
 have hX := Blk.new w 24 #[.int .i64 (wn : Int), .slice A n cap]
 have qX := fun i => hX.cell i
 have hlX := hX.lt
 obtain ⟨mb, hmb⟩ : ∃ mb, mb = w.heap.size + 1 := ⟨_, rfl⟩
 have hfn := fun (W : World) => (Blk.new W 149 #[.int .i64 (wn : Int), .slice A n cap, .slice none 0 0, .map (some mb)]).frozen 0
 have hn5 := hb.2.1
 have hh4 := hb.2.2.1
 have hln : ∀ q, q < n → ∀ (wx : World), Below w.heap.size w wx → Calls Tryz.prog 151 #[.agg #[.int .i64 (wn : Int), .slice A n cap, .slice none 0 0, .map (some mb)], .int .i64 (q : Int)] wx fun e w' => ∃ v, e = .returned v ∧ w'.ownsRow wx.heap.size 121 1 v (headN cs) ((srcL cs [] q).map Value.string) ∧ Below wx.heap.size wx w' := fun q hq wx hx => by
  have hB := hb.toW hx
  have hlt : q < cs.length := by have := hB.len; omega
  have h := linesCopy_any (wn : Int) A n cap cs none 0 0 mb q cs[q] wx hB.2.1.1 (by have := hB.2.1.2; omega) hB.2.2.2.1 hB.2.2.2.2.1 (by have := hB.2.2.1.2; omega) hq (List.getElem?_eq_getElem hlt) (fun r hr => ⟨by have := (hB.2.2.2.2.2.2 _ (List.getElem_mem hlt) r hr).1; omega, (hB.2.2.2.2.2.2 _ (List.getElem_mem hlt) r hr).2.2⟩) (hB.2.2.2.2.2.1 _ (List.getElem_mem hlt)).2
  refine h.mono ?_
  rintro e w' ⟨v, rfl, hown, hbl⟩
  refine ⟨v, rfl, ?_, hbl⟩
  rw [srcL, if_neg (by omega), Int.toNat_natCast, List.getElem?_eq_getElem hlt]
  simp only [Option.map_some, Option.getD_some, List.map_map]
  exact hown
 go_enter Tryz.func116, Tryz.ntmps116
 go_wp2_with fail
 rw [← hmb]
 have hM : MSt w (w.heap.size + 3) mb 0 #[.int .i64 (wn : Int), .slice A n cap] #[.int .i64 (wn : Int), .slice A n cap, .slice none 0 0, .map (some mb)] (.slice none 0 0) 0 [] (((w.alloc (.cells #[.int .i64 (wn : Int), .slice A n cap] 24)).alloc (.map #[] 0)).alloc (.cells #[.int .i64 (wn : Int), .slice A n cap, .slice none 0 0, .map (some mb)] 149)) := by
  have h2 := Memo.made (w.alloc (.cells #[.int .i64 (wn : Int), .slice A n cap] 24))
  rw [show (w.alloc (.cells #[.int .i64 (wn : Int), .slice A n cap] 24)).heap.size = mb by rw [World.size_alloc, hmb]] at h2
  have h3 := Blk.new ((w.alloc (.cells #[.int .i64 (wn : Int), .slice A n cap] 24)).alloc (.map #[] 0)) 149 #[.int .i64 (wn : Int), .slice A n cap, .slice none 0 0, .map (some mb)]
  rw [show ((w.alloc (.cells #[.int .i64 (wn : Int), .slice A n cap] 24)).alloc (.map #[] 0)).heap.size = mb + 1 by simp only [World.size_alloc]; omega] at h3
  exact ⟨World.ownsRow_nil _ _ _ _, h2.alloc _, (hX.alloc _).alloc _, h3, (((Below.refl _ w).alloc (Nat.le_refl _) _).alloc (by simp only [World.size_alloc]; omega) _).alloc (by simp only [World.size_alloc]; omega) _, by simp only [World.size_alloc]; omega⟩
 generalize ((w.alloc (.cells #[.int .i64 (wn : Int), .slice A n cap] 24)).alloc (.map #[] 0)).alloc (.cells #[.int .i64 (wn : Int), .slice A n cap, .slice none 0 0, .map (some mb)] 149) = S0 at *
 have hmb1 : w.heap.size + 1 ≤ mb := by omega
 have hmb2 : mb ≤ w.heap.size + 1 := by omega
 clear hmb
 have hHL : ∀ wx, Below w.heap.size w wx → Calls Tryz.prog 126 #[.agg #[.int .i64 (wn : Int), .slice A n cap]] wx fun e w' => e = .returned (.int .i64 (headN cs)) ∧ Below wx.heap.size wx w' := fun wx hx => lineCount_any (wn : Int) A n cap cs wx hb.2.1.1 (rdB hb.2.2.2.1 hx) (fun c h => okB (hb.2.2.2.2.1 c h) hx)
 have hsl4 : ∀ q, q < n → (srcL cs [] q).length = headN cs ∧ ∀ l ∈ srcL cs [] q, l.size ≤ 4 := fun q hq => by
  have hlt : q < cs.length := by have := hb.len; omega
  rw [srcL, if_neg (by omega), Int.toNat_natCast, List.getElem?_eq_getElem hlt]
  simp only [Option.map_some, Option.getD_some, List.length_map]
  refine ⟨(hb.2.2.2.2.2.1 _ (List.getElem_mem hlt)).2, fun l hl => ?_⟩
  obtain ⟨r, hr, rfl⟩ := List.mem_map.1 hl
  rw [lbS_size]; exact (hb.2.2.2.2.2.2 _ (List.getElem_mem hlt) r hr).2.1
 have hcc : ∀ (wx : World) (N1 lbase : Nat) (lA : Option Addr) (lc : Nat) (ls : List ByteArray), Below w.heap.size w wx → ls.length = headN cs → (∀ l ∈ ls, l.size ≤ 4) → wx.ownsRow lbase 121 1 (.slice lA (headN cs) lc) (headN cs) (ls.map Value.string) → Memo wx mb N1 → N1 + 2441405 ≤ maxLen → mb < lbase →
   Calls Tryz.prog 150 #[.agg #[.int .i64 (wn : Int), .slice A n cap, .slice none 0 0, .map (some mb)], .slice lA (headN cs) lc, .int .i64 (p : Int)] wx fun e w' => e = .returned (.int .i64 (sumI (cgL (ls.zip (((cs[p]?).map VC.ls).getD []))))) ∧ Memo w' mb (N1 + 2000000) ∧ GB wx.heap.size mb wx w' := by
  intro wx N1 lbase lA lc ls hx hl1 hl2 hown hmx hN1 hml
  have hB := hb.below hx
  have hlt : p < cs.length := by have := hb.len; omega
  have hck := hB.2.2.2.2.2.1 _ (List.getElem_mem hlt)
  have h := copiedChanges_any (wn : Int) A n cap cs none 0 0 p mb N1 w.heap.size lbase cs[p] lA lc ls wx (by omega) hB.2.2.2.1 hB.2.2.2.2.1 hp (List.getElem?_eq_getElem hlt) (by have := hB.2.2.1.2; omega) (by rw [hck.1]; exact hl1) hl2 (fun v hv => (hB.2.2.2.2.2.2 _ (List.getElem_mem hlt) v hv).2) (by rw [hck.1]; exact hown) hml hmx (by rw [KK_8]; omega)
  rw [hck.1] at h
  refine h.mono ?_
  rintro e w' ⟨rfl, hm', hg'⟩
  refine ⟨?_, hm'.mono (by rw [KK_8]; have := hB.2.2.1.2; omega), hg'⟩
  rw [List.getElem?_eq_getElem hlt]
  rfl
 obtain ⟨H, hH⟩ : ∃ H, H = headN cs := ⟨_, rfl⟩
 rw [← hH] at hh4
 simp only [← hH] at hln hHL hsl4 hcc
 have HLN := Lib.hid hln; have HHL := Lib.hid hHL; have HSL := Lib.hid hsl4; have HCC := Lib.hid hcc; have HH := Lib.hid hH
 clear hln hHL hsl4 hcc hH hb hX qX hlX
 go_loopg [5, 17] n (fun g t i wr => ∃ (k : Nat) (v : Value) (L : List MX), g = n - k ∧ k ≤ n ∧ i = .int .i64 k ∧ v = t ∧ Hid (L = mixL cs p n k) ∧ MSt w (w.heap.size + 3) mb (L.length * 2000000) #[.int .i64 (wn : Int), .slice A n cap] #[.int .i64 (wn : Int), .slice A n cap, .slice none 0 0, .map (some mb)] v L.length (L.flatMap MX.cells) wr)
 case atStart => exact ⟨0, _, [], rfl, Nat.zero_le _, rfl, rfl, Lib.hid rfl, by simpa using hM⟩
 case round =>
  clear hM
  obtain ⟨k, v, L, hg, hk, rfl, rfl, hL, hM⟩ := hrel
  rename World => wr
  have HG := Lib.hid hg; clear hg
  have qX := fun i => hM.bx.cell i
  have hlX := hM.bx.lt
  by_cases hlt : k < n
  ·have hlti : (k : Int) < n := by omega
   go_wp2_with fail
   go_loopg [5, 23] n (fun g t i wr => ∃ (q : Nat) (v : Value) (L : List MX), g = n - q ∧ q ≤ n ∧ i = .int .i64 q ∧ v = t ∧ Hid (L = mixL cs p n k ++ mixOt cs p k q) ∧ MSt w (w.heap.size + 3) mb (L.length * 2000000) #[.int .i64 (wn : Int), .slice A n cap] #[.int .i64 (wn : Int), .slice A n cap, .slice none 0 0, .map (some mb)] v L.length (L.flatMap MX.cells) wr)
   case atStart => exact ⟨0, v, L, rfl, Nat.zero_le _, rfl, rfl, Lib.hid (by rw [hL.out]; simp [mixOt]), hM⟩
   case round =>
    clear hM hL qX hlX
    clear L v
    obtain ⟨q, v, L, hg, hq, rfl, rfl, hL, hM⟩ := hrel
    rename World => wr2
    have HG2 := Lib.hid hg; clear hg
    have qX := fun i => hM.bx.cell i
    have hlX := hM.bx.lt
    by_cases hlt2 : q < n
    ·have hlti2 : (q : Int) < n := by omega
     have hst := mixOt_succ cs p k q
     have HST := Lib.hid hst; clear hst
     by_cases e1 : k = q
     ·subst e1
      go_wp2_with fail
      go_roundg (n - (k + 1))
      case measure => rw [HG2.out]; omega
      case rel => exact ⟨k + 1, v, L, rfl, by omega, by go_num, rfl, Lib.hid (by rw [HST.out, if_pos (by simp), List.append_nil]; exact hL.out), hM⟩
     by_cases e2 : k = p
     ·subst e2
      go_wp2_with fail
      go_roundg (n - (q + 1))
      case measure => rw [HG2.out]; omega
      case rel => exact ⟨q + 1, v, L, rfl, by omega, by go_num, rfl, Lib.hid (by rw [HST.out, if_pos (by simp), List.append_nil]; exact hL.out), hM⟩
     by_cases e3 : q = p
     ·subst e3
      go_wp2_with fail
      go_roundg (n - (q + 1))
      case measure => rw [HG2.out]; omega
      case rel => exact ⟨q + 1, v, L, rfl, by omega, by go_num, rfl, Lib.hid (by rw [HST.out, if_pos (by simp), List.append_nil]; exact hL.out), hM⟩
     have hst2 := HST.out
     rw [if_neg (by omega)] at hst2
     have HST2 := Lib.hid hst2
     clear hst2 HST
     have i1 : ((k : Int) == (q : Int)) = false := by rw [beq_eq_false_iff_ne]; omega
     have i2 : ((k : Int) == (p : Int)) = false := by rw [beq_eq_false_iff_ne]; omega
     have i3 : ((q : Int) == (p : Int)) = false := by rw [beq_eq_false_iff_ne]; omega
     have j1 : ¬ (k : Int) = q := by omega
     have j2 : ¬ (k : Int) = p := by omega
     have j3 : ¬ (q : Int) = p := by omega
     go_wp2_with fail
     clear i1 i2 i3 j1 j2 j3 e1 e2 e3
     go_loopg [5, 9] (H - 1) (fun g t i wr => ∃ (i0 : Nat) (v : Value) (L : List MX), g = H - i0 ∧ 1 ≤ i0 ∧ i0 ≤ H ∧ i = .int .i64 i0 ∧ v = t ∧ Hid (L = mixL cs p n k ++ mixOt cs p k q ++ mixIn cs p k q (i0 - 1)) ∧ MSt w (w.heap.size + 3) mb (L.length * 2000000) #[.int .i64 (wn : Int), .slice A n cap] #[.int .i64 (wn : Int), .slice A n cap, .slice none 0 0, .map (some mb)] v L.length (L.flatMap MX.cells) wr)
     case atStart => exact ⟨1, v, L, rfl, Nat.le_refl _, by omega, rfl, rfl, Lib.hid (by rw [hL.out]; simp [mixIn]), hM⟩
     case round =>
      clear hM hL qX hlX
      clear L v
      obtain ⟨i, v, L, hg, hi1, hiH, rfl, rfl, hL, hM⟩ := hrel
      rename World => wr3
      have HG3 := Lib.hid hg; clear hg
      obtain ⟨va, vc, rfl⟩ := own_slice hM.own
      have qX := fun i => hM.bx.cell i
      have hlX := hM.bx.lt
      have hll : L.length ≤ 1000 := by
       rw [hL.out, List.length_append, List.length_append]
       have l1 := mixL_len cs p n k
       have l2 := mixOt_len cs p k q
       rw [← HH.out] at l1 l2
       have m1 : n * (H - 1) ≤ 5 * 3 := Nat.mul_le_mul (by omega) (by omega)
       have m2 : k * (n * (H - 1)) ≤ 5 * 15 := Nat.mul_le_mul (by omega) (by omega)
       have m3 : q * (H - 1) ≤ 5 * 3 := Nat.mul_le_mul (by omega) (by omega)
       have l3 : (mixIn cs p k q (i - 1)).length = i - 1 := by simp [mixIn]
       omega
      by_cases hiL : i < H
      ·have hiLi : (i : Int) < H := by omega
       go_wp2_with fail
       refine (HHL.out _ hM.bl).mono ?_; rintro e w0 ⟨rfl, hb0⟩
       replace hM := hM.below hb0; clear hb0 qX hlX
       go_wp2_with fail
       have HLK := Lib.hid (HLN.out k hlt); have HLQ := Lib.hid (HLN.out q hlt2)
       have hs1 := HSL.out k hlt; have hs2 := HSL.out q hlt2
       have hmx : mixX cs p k q i = ⟨k, q, i, sumI (cgL ((((srcL cs [] k).take i) ++ ((srcL cs [] q).drop i)).zip (((cs[p]?).map VC.ls).getD [])))⟩ := rfl
       generalize srcL cs [] k = L1 at *
       generalize srcL cs [] q = L2 at *
       have HS1 := Lib.hid hs1; have HS2 := Lib.hid hs2; have HMX := Lib.hid hmx
       clear hs1 hs2 hmx
       rename World => WR
       refine wp_region_G (fun w' => Blk w' (mb + 1) 149 #[.int .i64 (wn : Int), .slice A n cap, .slice none 0 0, .map (some mb)]) 12 (by kernel_rfl) ?_
       replace hM := hM.drew
       generalize WR.drew = WD at *
       have hTT : Blk WD (mb + 1) 149 #[.int .i64 (wn : Int), .slice A n cap, .slice none 0 0, .map (some mb)] := hM.bc
       refine tk 0 (v := ?_) rfl (Or.inl ⟨by rfl, ?h⟩) hTT ?_
       case h => intro wq hSw; have q0 := fun i => hSw.cell i; go_simp <;> with_reducible rfl
       simp only [LS, Act.put]
       refine tk 1 (v := ?_) rfl (Or.inl ⟨by rfl, ?h⟩) hTT ?_
       case h => intro wq hSw; have q0 := fun i => hSw.cell i; go_simp <;> with_reducible rfl
       simp only [LS, Act.put]
       refine tk 3 (v := ?_) rfl (Or.inl ⟨by rfl, ?h⟩) hTT ?_
       case h => intro wq hSw; have q0 := fun i => hSw.cell i; go_simp <;> with_reducible rfl
       simp only [LS, Act.put]
       refine tk 5 (v := ?_) rfl (Or.inl ⟨by rfl, ?h⟩) hTT ?_
       case h => intro wq hSw; have q0 := fun i => hSw.cell i; go_simp <;> with_reducible rfl
       simp only [LS, Act.put]
       refine tk 6 (v := ?_) rfl (Or.inl ⟨by rfl, ?h⟩) hTT ?_
       case h => intro wq hSw; have q0 := fun i => hSw.cell i; go_simp <;> with_reducible rfl
       simp only [LS, Act.put]
       refine tk 8 (v := ?_) rfl (Or.inl ⟨by rfl, ?h⟩) hTT ?_
       case h => intro wq hSw; have q0 := fun i => hSw.cell i; go_simp <;> with_reducible rfl
       simp only [LS, Act.put]
       refine o1 2 rfl fun K hK => ?_
       go_simp
       have hM0 := hM.bc.lt
       refine (HLK.out WD hM.bl).mono ?_
       rintro e w1 ⟨v1, rfl, ho1, hb1⟩
       obtain ⟨g1, c1, rfl, hg1, hgl1⟩ := ho1.form (by omega)
       have hcp1 := own_cap' ho1
       replace hM := hM.below hb1; replace hTT := hM.bc
       have hsl1 := run_slice_hi (P := Tryz.prog) 128 121 1 Tryz.underlying128 (fun _ => by kernel_rfl) g1 H c1 .i64 i (by omega) (by omega)
       clear hb1
       refine hK _ _ (.inr hTT) ?_
       clear hK K
       try simp only [LS, Act.put]
       refine tk 4 (v := ?_) rfl (Or.inl ⟨by rfl, ?h⟩) hTT ?_
       case h => intro wq hSw; have q0 := fun i => hSw.cell i; go_simp <;> with_reducible rfl
       simp only [LS, Act.put]
       refine o1 7 rfl fun K hK => ?_
       go_simp
       refine (HLQ.out w1 hM.bl).mono ?_
       rintro e w2 ⟨v2, rfl, ho2, hb2⟩
       obtain ⟨g2, c2, rfl, hg2, hgl2⟩ := ho2.form (by omega)
       have hcp2 := own_cap' ho2
       replace ho1 := ownsRow_below' ho1 hb2
       replace hM := hM.below hb2; replace hTT := hM.bc
       have hsl2 := run_slice_lo (P := Tryz.prog) 128 121 1 Tryz.underlying128 (fun _ => by kernel_rfl) (some ⟨g2, 0, none⟩) H c2 .i64 i (by omega) (by omega)
       clear hb2
       refine hK _ _ (.inr hTT) ?_
       clear hK K
       try simp only [LS, Act.put]
       refine tk 9 (v := ?_) rfl (Or.inl ⟨by rfl, ?h⟩) hTT ?_
       case h => intro wq hSw; have q0 := fun i => hSw.cell i; go_simp <;> with_reducible rfl
       simp only [LS, Act.put]
       refine o1 10 rfl fun K hK => ?_
       go_simp
       have hr1 := ((Rd.of_own ho1).pre (k := i) (by omega)).below (below_new w2 (.cells #[.slice (some ⟨g1, 0, none⟩) i c1, .slice (cutA (some ⟨g2, 0, none⟩) c2 i 1) (H - i) (c2 - i)] 128))
       have hr2 := ((Rd.of_own ho2).cutA' (k := i) (m := H) (cap := c2) (by omega) (Nat.le_refl _) (by omega)).below (below_new w2 (.cells #[.slice (some ⟨g1, 0, none⟩) i c1, .slice (cutA (some ⟨g2, 0, none⟩) c2 i 1) (H - i) (c2 - i)] 128))
       have hn3 := Blk.new w2 128 #[.slice (some ⟨g1, 0, none⟩) i c1, .slice (cutA (some ⟨g2, 0, none⟩) c2 i 1) (H - i) (c2 - i)]
       replace hM := hM.below (below_new w2 (.cells #[.slice (some ⟨g1, 0, none⟩) i c1, .slice (cutA (some ⟨g2, 0, none⟩) c2 i 1) (H - i) (c2 - i)] 128)); replace hTT := hM.bc
       refine hK _ _ (.inr hTT) ?_
       clear hK K
       try simp only [LS, Act.put]
       refine o1 11 rfl fun K hK => ?_
       go_simp
       have htn : totN [⟨some ⟨g1, 0, none⟩, i, c1, L1.take i⟩, ⟨cutA (some ⟨g2, 0, none⟩) c2 i 1, H - i, c2 - i, L2.drop i⟩] = H := by simp [totN]; omega
       have hps := concat_any (some ⟨w2.heap.size, 0, none⟩) 2 2 [⟨some ⟨g1, 0, none⟩, i, c1, L1.take i⟩, ⟨cutA (some ⟨g2, 0, none⟩) c2 i 1, H - i, c2 - i, L2.drop i⟩] (w2.alloc (.cells #[.slice (some ⟨g1, 0, none⟩) i c1, .slice (cutA (some ⟨g2, 0, none⟩) c2 i 1) (H - i) (c2 - i)] 128)) (by omega) (Rd.blkN hn3 rfl (by rw [World.size_alloc]; omega)) (fun r hr => by
         rcases List.mem_cons.1 hr with rfl | hr
         · exact ⟨by dsimp only; omega, by have h := hr1.more (B' := (w2.alloc (.cells #[.slice (some ⟨g1, 0, none⟩) i c1, .slice (cutA (some ⟨g2, 0, none⟩) c2 i 1) (H - i) (c2 - i)] 128)).heap.size) (by rw [World.size_alloc]; omega); rw [← List.map_take] at h; exact h⟩
         · rw [List.mem_singleton.1 hr]
           exact ⟨by dsimp only; omega, by have h := hr2.more (B' := (w2.alloc (.cells #[.slice (some ⟨g1, 0, none⟩) i c1, .slice (cutA (some ⟨g2, 0, none⟩) c2 i 1) (H - i) (c2 - i)] 128)).heap.size) (by rw [World.size_alloc]; omega); rw [Nat.mul_one, Nat.mul_one, List.take_of_length_le (by rw [List.length_drop, List.length_map, HS2.out.1]; exact Nat.le_refl _), ← List.map_drop] at h; exact h⟩)
       rw [htn] at hps
       refine hps.mono ?_
       rintro e w3 ⟨v10, rfl, ho10, hb10⟩
       obtain ⟨ra, rc, rfl⟩ := own_slice ho10
       replace hM := hM.below hb10; replace hTT := hM.bc
       have hw2m : mb < (w2.alloc (.cells #[.slice (some ⟨g1, 0, none⟩) i c1, .slice (cutA (some ⟨g2, 0, none⟩) c2 i 1) (H - i) (c2 - i)] 128)).heap.size := by rw [World.size_alloc]; have := hg1; have := hgl1; have := hg2; have := hgl2; have := hM0; omega
       obtain ⟨lb, hlb⟩ : ∃ lb, lb = (w2.alloc (.cells #[.slice (some ⟨g1, 0, none⟩) i c1, .slice (cutA (some ⟨g2, 0, none⟩) c2 i 1) (H - i) (c2 - i)] 128)).heap.size := ⟨_, rfl⟩
       rw [← hlb] at ho10 hw2m
       clear hb10 hps hr1 hr2 hn3 ho1 ho2 hsl1 hsl2 hlb
       refine hK _ _ (.inr hTT) ?_
       clear hK K
       try simp only [LS, Act.put]
       refine o1 12 rfl fun K hK => ?_
       go_simp
       refine hK _ _ (.inl rfl) ?_
       clear hK K
       try simp only [LS, Act.put]
       refine wpG_done (by kernel_rfl) ?_ _
       clear hTT
       have ho11 : w3.ownsRow lb 121 1 (.slice ra H rc) H ((L1.take i ++ L2.drop i).map Value.string) := by simpa using ho10
       have hlen2 : (L1.take i ++ L2.drop i).length = H := by rw [List.length_append, List.length_take, List.length_drop, HS1.out.1, HS2.out.1]; omega
       have hsz2 : ∀ l ∈ L1.take i ++ L2.drop i, l.size ≤ 4 := fun l hl => by
        rcases List.mem_append.1 hl with h | h
        ·exact HS1.out.2 l (List.mem_of_mem_take h)
        ·exact HS2.out.2 l (List.mem_of_mem_drop h)
       have h150 := HCC.out w3 (L.length * 2000000) lb ra rc (L1.take i ++ L2.drop i) hM.bl hlen2 hsz2 ho11 hM.m (by unfold maxLen; omega) hw2m
       obtain ⟨X, hXe⟩ : ∃ X, X = sumI (cgL ((L1.take i ++ L2.drop i).zip (((cs[p]?).map VC.ls).getD []))) := ⟨_, rfl⟩
       rw [← hXe] at h150
       have HXE := Lib.hid hXe; have H150 := Lib.hid h150
       clear h150 hXe ho10 ho11 hlen2 hsz2
       have qC := fun i => hM.bc.cell i
       have hlC := hM.bc.lt
       obtain ⟨nL, hnL⟩ : ∃ nL, nL = L.length := ⟨_, rfl⟩
       obtain ⟨ys, hys⟩ : ∃ ys, ys = L.flatMap MX.cells := ⟨_, rfl⟩
       rw [← hnL, ← hys] at hM
       rw [← hnL] at H150 hll ⊢
       have HNL := Lib.hid hnL; have HYS := Lib.hid hys
       clear hnL hys
       have AL := 0
       go_wp2_with fail
       refine H150.out.mono ?_; rintro e w4 ⟨rfl, hm4, hg4⟩
       replace hM := hM.gb hm4 hg4 (by omega) (by omega)
       clear hm4 hg4 qC hlC
       have hn4 := Blk.new w4 93 #[.int .i64 (k : Int), .int .i64 (q : Int), .int .i64 (i : Int), .int .i64 X]
       have hoA := hM.own.alloc (.cells #[.int .i64 (k : Int), .int .i64 (q : Int), .int .i64 (i : Int), .int .i64 X] 93)
       have hSA : w.heap.size + 3 ≤ (w4.alloc (.cells #[.int .i64 (k : Int), .int .i64 (q : Int), .int .i64 (i : Int), .int .i64 X] 93)).heap.size := by have := hM.sz; rw [World.size_alloc]; omega
       go_wp2_with (at_builtin; refine wpList_append_any _ rfl _ _ 169 rfl (w.heap.size + 3) 93 i93 (.agg #[.int .i64 0, .int .i64 0, .int .i64 0, .int .i64 0]) 4 32 Tryz.underlying169 hi hz0 hz1' hz2' rfl (by decide) (.slice va nL vc) nL ys rfl hoA (w4.heap.size + 1) (some ⟨w4.heap.size, 0, none⟩) 1 1 [.int .i64 (k : Int), .int .i64 (q : Int), .int .i64 (i : Int), .int .i64 X] rfl (Rd.blkN hn4 rfl (Nat.lt_succ_self _)).reads (by simp [Value.oneCell']) (by unfold maxLen; omega) (by omega) hSA (fun v5 w5 ho5 hgr5 hob5 => ?_))
       have hM5 := hM.app (N2 := (nL + 1) * 2000000) _ hgr5 ho5 (by omega) (by omega) (by omega)
       have hmi : mixIn cs p k q i = mixIn cs p k q (i - 1) ++ [mixX cs p k q i] := by
        have h := mixIn_succ cs p k q (i - 1)
        rw [show i - 1 + 1 = i by omega] at h
        exact h
       go_roundg (H - (i + 1))
       case measure => rw [HG3.out]; omega
       case rel => exact ⟨i + 1, v5, L ++ [mixX cs p k q i], rfl, by omega, by omega, by go_num, rfl, Lib.hid (by rw [hL.out, Nat.add_sub_cancel, hmi]; simp only [List.append_assoc]), by
         rw [List.length_append, List.flatMap_append, ← HNL.out, ← HYS.out, HMX.out, ← HXE.out]
         exact hM5⟩
      ·obtain rfl : i = H := by omega
       have hge3 : ¬ (i : Int) < i := by omega
       go_wp2_with fail
       refine (HHL.out _ hM.bl).mono ?_; rintro e w0 ⟨rfl, hb0⟩
       replace hM := hM.below hb0; clear hb0 qX hlX
       go_wp2_with fail
       go_roundg (n - (q + 1))
       case measure => rw [HG2.out]; omega
       case rel => exact ⟨q + 1, _, L, rfl, by omega, by go_num, rfl, Lib.hid (by rw [hL.out, HST2.out, ← HH.out]; simp only [List.append_assoc]), hM⟩
    ·obtain rfl : q = n := by omega
     have hge2 : ¬ (q : Int) < q := by omega
     go_wp2_with fail
     go_roundg (q - (k + 1))
     case measure => rw [HG.out]; omega
     case rel => exact ⟨k + 1, v, L, rfl, by omega, by go_num, rfl, Lib.hid (by rw [hL.out, mixL_succ]), hM⟩
  ·obtain rfl : k = n := by omega
   have hge : ¬ (k : Int) < k := by omega
   go_wp2_with fail
   go_ret
   rw [← hL.out]
   exact ⟨v, rfl, own_more hM.own (by omega), hM.bl⟩
end
section
open Go.RowKit Go.Lib Go.Maps
def mixE (o : Option MX) : Ending := match o with | some m => .returned (.tuple #[.agg #[.int .i64 m.one, .int .i64 m.other, .int .i64 m.lines, .int .i64 m.c], .int .i64 0]) | none => .returned (.tuple #[.agg #[.int .i64 0, .int .i64 0, .int .i64 0, .int .i64 0], .int .i64 5])
theorem Mixed_yes {wn : Nat} {A : Option Addr} {n : Nat} (cap : Nat) {cs : List VC} (p : Nat) {w : World} (hb : BkG wn A n cs w w.heap.size) (h1 : bookB (wn : Int) cs = true) (hp : p < n) :
  Calls Tryz.prog 68 #[.agg #[.int .i64 (wn : Int), .slice A n cap], .int .i64 (p : Int)] w fun e w' => e = mixE (bestI MX.c (mixL cs p n n)) ∧ Below w.heap.size w w' := by
 have hX := (Blk.new w 24 #[.int .i64 (wn : Int), .slice A n cap]).alloc (.cells #[.int .i64 0, .int .i64 0, .int .i64 0, .int .i64 0] 93)
 have hS := blk2_1 w (.cells #[.int .i64 (wn : Int), .slice A n cap] 24) 93 #[.int .i64 0, .int .i64 0, .int .i64 0, .int .i64 0]
 have hB : Below w.heap.size w ((w.alloc (.cells #[.int .i64 (wn : Int), .slice A n cap] 24)).alloc (.cells #[.int .i64 0, .int .i64 0, .int .i64 0, .int .i64 0] 93)) := ((Below.refl _ w).alloc (Nat.le_refl _) _).alloc (by simp only [World.size_alloc]; omega) _
 have qX := fun i => hX.cell i
 have hgb := fun (wx : World) (hx : Below w.heap.size w wx) => goodBook_any (wn : Int) A n cap cs wx (by have := hb.2.1.2; unfold maxLen; omega) (rdB hb.2.2.2.1 hx) (fun c h => okB (hb.2.2.2.2.1 c h) hx)
 simp only [h1] at hgb
 have hhc := fun (wx : World) (hx : Below w.heap.size w wx) => hasCopy_any (wn : Int) (p : Int) A n cap wx (by have := hb.2.1.2; omega)
 have hin : inB (p : Int) 0 ((n : Int) - 1) = true := by simp [inB]; omega
 simp only [hin] at hhc
 have hmi := fun (wx : World) (hx : Below w.heap.size w wx) => mixes_any cap p (hb.toW hx) hp
 have hml : (mixL cs p n n).length ≤ 1000 := by
  have l1 := mixL_len cs p n n
  have hn5 := hb.2.1; have hh4 := hb.2.2.1
  have m1 : n * (headN cs - 1) ≤ 5 * 3 := Nat.mul_le_mul (by omega) (by omega)
  have m2 : n * (n * (headN cs - 1)) ≤ 5 * 15 := Nat.mul_le_mul (by omega) (by omega)
  omega
 generalize mixL cs p n n = Q at *
 obtain ⟨m, hm⟩ : ∃ m, m = Q.length := ⟨_, rfl⟩
 simp only [← hm] at hmi hml
 obtain ⟨o, ho⟩ : ∃ o, o = bestI MX.c Q := ⟨_, rfl⟩
 rw [← ho]
 have HGB := Lib.hid hgb; have HHC := Lib.hid hhc; have HMI := Lib.hid hmi; have HO := Lib.hid ho
 clear hgb hhc hmi ho h1 hb hin hm
 go_enter Tryz.func68, Tryz.ntmps68
 go_wp2_with fail
 refine (HGB.out _ hB).mono ?_; rintro e w1 ⟨rfl, hb⟩; replace hX := hX.below hb hX.lt; replace hS := hS.below hb hS.lt; replace hB := hB.trans (hb.mono hB.size); clear hb qX; have qX := fun i => hX.cell i
 go_wp2_with fail
 refine (HHC.out _ hB).mono ?_; rintro e w2 ⟨rfl, hb⟩; replace hX := hX.below hb hX.lt; replace hS := hS.below hb hS.lt; replace hB := hB.trans (hb.mono hB.size); clear hb qX; have qX := fun i => hX.cell i
 have hlX := hX.lt
 go_wp2_with fail
 refine (HMI.out _ hB).mono ?_; rintro e w3 ⟨v, rfl, hown, hb⟩; replace hS := hS.below hb hS.lt; replace hB := hB.trans (hb.mono hB.size); clear hb qX hX hlX
 obtain ⟨qa, qc, rfl⟩ := own_slice hown
 have hbq := best_MX qa m qc Q w3 (by omega) (Rd.of_own hown)
 rw [← HO.out] at hbq
 have HBQ := Lib.hid hbq; clear hbq
 have hfn := fun (W : World) => (Blk.new W 93 #[.int .i64 0, .int .i64 0, .int .i64 0, .int .i64 0]).frozen 0
 cases o with
 | none =>
  go_wp2_with fail
  refine HBQ.out.mono ?_; rintro e w4 ⟨rfl, hb⟩
  replace hS := (hS.below hb hS.lt).alloc (.cells #[.int .i64 0, .int .i64 0, .int .i64 0, .int .i64 0] 93); replace hB := (hB.trans (hb.mono hB.size)).alloc (by have := hB.size; have := hb.size; omega) (.cells #[.int .i64 0, .int .i64 0, .int .i64 0, .int .i64 0] 93); clear hb
  simp only [brMX, acMX, zcMX, Option.isSome_none, Option.isSome_some]
  have q66 := fun i => hS.cell i; have f66 := fun i => hS.frozen i; have l66 := hS.lt
  go_wp2_with fail
  have G : Blk (((((w4.alloc (.cells #[.int .i64 0, .int .i64 0, .int .i64 0, .int .i64 0] 93)).setCell ⟨w.heap.size + 1, 0, none⟩ (.int .i64 0)).setCell ⟨w.heap.size + 1, 1, none⟩ (.int .i64 0)).setCell ⟨w.heap.size + 1, 2, none⟩ (.int .i64 0)).setCell ⟨w.heap.size + 1, 3, none⟩ (.int .i64 0)) (w.heap.size + 1) 93 #[.int .i64 0, .int .i64 0, .int .i64 0, .int .i64 0] := by simpa using ((((hS.set_ 0 (.int .i64 0)).set_ 1 (.int .i64 0)).set_ 2 (.int .i64 0)).set_ 3 (.int .i64 0))
  have qG := fun i => G.cell i
  refine bodyPost_ret (v := .tuple #[.agg #[.int .i64 0, .int .i64 0, .int .i64 0, .int .i64 0], .int .i64 5]) (by simp [results, Tryz.results68, go_sem, qG]) rfl ⟨rfl, ((((hB.setCell (p := ⟨w.heap.size + 1, 0, none⟩) (show w.heap.size ≤ w.heap.size + 1 by omega) (.int .i64 0)).setCell (p := ⟨w.heap.size + 1, 1, none⟩) (show w.heap.size ≤ w.heap.size + 1 by omega) (.int .i64 0)).setCell (p := ⟨w.heap.size + 1, 2, none⟩) (show w.heap.size ≤ w.heap.size + 1 by omega) (.int .i64 0)).setCell (p := ⟨w.heap.size + 1, 3, none⟩) (show w.heap.size ≤ w.heap.size + 1 by omega) (.int .i64 0))⟩
 | some x =>
  obtain ⟨m0, m1, m2, m3⟩ := x
  go_wp2_with fail
  refine HBQ.out.mono ?_; rintro e w4 ⟨rfl, hb⟩
  have hQ := Blk.new w4 93 #[.int .i64 m0, .int .i64 m1, .int .i64 m2, .int .i64 m3]
  replace hS := (hS.below hb hS.lt).alloc (.cells #[.int .i64 m0, .int .i64 m1, .int .i64 m2, .int .i64 m3] 93); replace hB := (hB.trans (hb.mono hB.size)).alloc (by have := hB.size; have := hb.size; omega) (.cells #[.int .i64 m0, .int .i64 m1, .int .i64 m2, .int .i64 m3] 93); clear hb
  simp only [brMX, acMX, zcMX, Option.isSome_none, Option.isSome_some]
  have q66 := fun i => hS.cell i; have f66 := fun i => hS.frozen i; have l66 := hS.lt; have qQ := fun i => hQ.cell i
  go_wp2_with fail
  have G : Blk (((((w4.alloc (.cells #[.int .i64 m0, .int .i64 m1, .int .i64 m2, .int .i64 m3] 93)).setCell ⟨w.heap.size + 1, 0, none⟩ (.int .i64 m0)).setCell ⟨w.heap.size + 1, 1, none⟩ (.int .i64 m1)).setCell ⟨w.heap.size + 1, 2, none⟩ (.int .i64 m2)).setCell ⟨w.heap.size + 1, 3, none⟩ (.int .i64 m3)) (w.heap.size + 1) 93 #[.int .i64 m0, .int .i64 m1, .int .i64 m2, .int .i64 m3] := by simpa using ((((hS.set_ 0 (.int .i64 m0)).set_ 1 (.int .i64 m1)).set_ 2 (.int .i64 m2)).set_ 3 (.int .i64 m3))
  have qG := fun i => G.cell i
  refine bodyPost_ret (v := .tuple #[.agg #[.int .i64 m0, .int .i64 m1, .int .i64 m2, .int .i64 m3], .int .i64 0]) (by simp [results, Tryz.results68, go_sem, qG]) rfl ⟨rfl, ((((hB.setCell (p := ⟨w.heap.size + 1, 0, none⟩) (show w.heap.size ≤ w.heap.size + 1 by omega) (.int .i64 m0)).setCell (p := ⟨w.heap.size + 1, 1, none⟩) (show w.heap.size ≤ w.heap.size + 1 by omega) (.int .i64 m1)).setCell (p := ⟨w.heap.size + 1, 2, none⟩) (show w.heap.size ≤ w.heap.size + 1 by omega) (.int .i64 m2)).setCell (p := ⟨w.heap.size + 1, 3, none⟩) (show w.heap.size ≤ w.heap.size + 1 by omega) (.int .i64 m3))⟩
end
section
open Go.RowKit Go.Lib
theorem written_any (A : Option Addr) (n cap : Nat) (w : World) : Calls Tryz.prog 73 #[.slice A n cap] w fun e w' => e = .returned (.agg #[.bool false, .slice A n cap]) ∧ Below w.heap.size w w' := by
 have hB : Below w.heap.size w (w.alloc (.cells #[.bool false, .slice A n cap] 76)) := (Below.refl _ w).alloc (Nat.le_refl _) _
 have hX := Blk.new w 76 #[.bool false, .slice none 0 0]
 have qX := fun i => hX.cell i; have fX := fun i => hX.frozen i; have lX := hX.lt
 have hG := Blk.new w 76 #[.bool false, .slice A n cap]
 have qG := fun i => hG.cell i
 have HG := Lib.hid qG; clear qG hG
 go_enter Tryz.func73, Tryz.ntmps73
 go_wp2_with fail
 clear qX fX lX hX
 have qG := HG.out
 exact bodyPost_ret (v := .agg #[.bool false, .slice A n cap]) (by simp [results, Tryz.results73, go_sem, qG]) rfl ⟨rfl, hB⟩
theorem lost_any (w : World) : Calls Tryz.prog 72 #[] w fun e w' => e = .returned (.agg #[.bool true, .slice none 0 0]) ∧ Below w.heap.size w w' := by
 have hB : Below w.heap.size w (w.alloc (.cells #[.bool true, .slice none 0 0] 76)) := (Below.refl _ w).alloc (Nat.le_refl _) _
 have hX := Blk.new w 76 #[.bool false, .slice none 0 0]
 have qX := fun i => hX.cell i; have fX := fun i => hX.frozen i; have lX := hX.lt
 have hG := Blk.new w 76 #[.bool true, .slice none 0 0]
 have qG := fun i => hG.cell i
 have HG := Lib.hid qG; clear qG hG
 go_enter Tryz.func72, Tryz.ntmps72
 go_wp2_with fail
 clear qX fX lX hX
 have qG := HG.out
 exact bodyPost_ret (v := .agg #[.bool true, .slice none 0 0]) (by simp [results, Tryz.results72, go_sem, qG]) rfl ⟨rfl, hB⟩
def kcs (C0 C1 C2 C3 L0 L1 L2 L4 L5 L6 L7 : Nat) : List VC :=
 [⟨some ⟨C0, 0, none⟩, 2, 2, [⟨false, some ⟨L0, 0, none⟩, 3, 3, [0, 1, 2]⟩, ⟨false, some ⟨L1, 0, none⟩, 2, 2, [1, 1]⟩]⟩,
  ⟨some ⟨C1, 0, none⟩, 2, 2, [⟨false, some ⟨L2, 0, none⟩, 2, 2, [0, 2]⟩, ⟨true, none, 0, 0, []⟩]⟩,
  ⟨some ⟨C2, 0, none⟩, 2, 2, [⟨false, some ⟨L4, 0, none⟩, 4, 4, [0, 1, 1, 2]⟩, ⟨false, some ⟨L5, 0, none⟩, 2, 2, [1, 2]⟩]⟩,
  ⟨some ⟨C3, 0, none⟩, 2, 2, [⟨false, some ⟨L6, 0, none⟩, 3, 3, [0, 1, 2]⟩, ⟨false, some ⟨L7, 0, none⟩, 1, 1, [1]⟩]⟩]
section
variable (C0 C1 C2 C3 L0 L1 L2 L4 L5 L6 L7 : Nat)
theorem vBook : bookB 3 (kcs C0 C1 C2 C3 L0 L1 L2 L4 L5 L6 L7) = true := by kernel_rfl
theorem vChanges : edB (lbS [0, 2]) (lbS [0, 1, 1, 2]) = 2 := by kernel_rfl
theorem vSteps : stepsG ((lbS [0, 2]).size + (lbS [0, 1, 1, 2]).size + 1) (lbS [0, 2]) (lbS [0, 1, 1, 2]) = [(1, 0), (3, 1), (3, 1), (1, 2)] := by kernel_rfl
theorem vBetween : betweenL 3 (lbS [0, 2]) (lbS [0, 1, 1, 2]) = [lbS [0, 2], lbS [0, 1, 2], lbS [0, 1, 1, 2]] := by kernel_rfl
theorem vLeast : leastL 3 1 (kcs C0 C1 C2 C3 L0 L1 L2 L4 L5 L6 L7) = [lbS [1], lbS [1, 1], lbS [1, 2]] := by kernel_rfl
theorem vLeastC : leastC 3 1 (kcs C0 C1 C2 C3 L0 L1 L2 L4 L5 L6 L7) = 2 := by kernel_rfl
theorem vCommon : commonS 3 [lbS [1], lbS [1, 1], lbS [1, 2]] = lbS [1] := by kernel_rfl
theorem vTextL : textLs 3 (kcs C0 C1 C2 C3 L0 L1 L2 L4 L5 L6 L7) 2 = [lbS [0, 1, 2], lbS [1]] := by kernel_rfl
theorem vTextM : textM 3 (kcs C0 C1 C2 C3 L0 L1 L2 L4 L5 L6 L7) 2 = 3 := by kernel_rfl
theorem vTextC : sumI (textCs 3 (kcs C0 C1 C2 C3 L0 L1 L2 L4 L5 L6 L7) 2) = 4 := by kernel_rfl
theorem vAsk : bestI QU.left (qAll 3 (kcs C0 C1 C2 C3 L0 L1 L2 L4 L5 L6 L7) 4) = some ⟨1, 1, 4⟩ := by kernel_rfl
theorem vFar : ((kcs C0 C1 C2 C3 L0 L1 L2 L4 L5 L6 L7)[0]?).map (fun c0 => (sumI ((farL 3 (kcs C0 C1 C2 C3 L0 L1 L2 L4 L5 L6 L7) c0 2).map Prod.fst), sumI ((farL 3 (kcs C0 C1 C2 C3 L0 L1 L2 L4 L5 L6 L7) c0 2).map Prod.snd))) = some (0, 1) := by kernel_rfl
theorem vMixed : bestI MX.c (mixL (kcs C0 C1 C2 C3 L0 L1 L2 L4 L5 L6 L7) 3 4 4) = some ⟨0, 1, 1, 1⟩ := by kernel_rfl
end
theorem B_fun (w : World) : Calls Tryz.prog 79 #[] w fun e w' => (∃ CC C0 C1 C2 C3 L0 L1 L2 L4 L5 L6 L7 : Nat, e = .returned (.agg #[.int .i64 3, .slice (some ⟨CC, 0, none⟩) 4 4]) ∧ Rd w' w'.heap.size 1 (some ⟨CC, 0, none⟩) 4 ((kcs C0 C1 C2 C3 L0 L1 L2 L4 L5 L6 L7).map VC.val) ∧ ∀ c ∈ kcs C0 C1 C2 C3 L0 L1 L2 L4 L5 L6 L7, c.ok w' w'.heap.size) ∧ Below w.heap.size w w' := by
 have hR := Blk.new w 24 #[.int .i64 0, .slice none 0 0]
 have hB : Below w.heap.size w (w.alloc (.cells #[.int .i64 0, .slice none 0 0] 24)) := (Below.refl _ w).alloc (Nat.le_refl _) _
 go_enter Tryz.func79, Tryz.ntmps79
 have hL0 := Blk.new (w.alloc (.cells #[.int .i64 0, .slice none 0 0] 24)) 3 #[.int .i64 0, .int .i64 1, .int .i64 2]
 simp only [World.size_alloc] at hL0
 replace hR := hR.alloc (.cells #[.int .i64 0, .int .i64 1, .int .i64 2] 3)
 replace hB := hB.alloc hB.size (.cells #[.int .i64 0, .int .i64 1, .int .i64 2] 3)
 go_wp2_with fail
 refine (written_any _ _ _ _).mono ?_; rintro e w1 ⟨rfl, hb⟩
 replace hR := hR.below hb hR.lt
 replace hL0 := hL0.below hb hL0.lt
 replace hB := hB.trans (hb.mono hB.size); clear hb
 have z1 := Lib.hid hR.lt
 have hL1 := Blk.new (w1) 3 #[.int .i64 1, .int .i64 1]
 replace hR := hR.alloc (.cells #[.int .i64 1, .int .i64 1] 3)
 replace hL0 := hL0.alloc (.cells #[.int .i64 1, .int .i64 1] 3)
 replace hB := hB.alloc hB.size (.cells #[.int .i64 1, .int .i64 1] 3)
 go_wp2_with fail
 refine (written_any _ _ _ _).mono ?_; rintro e w2 ⟨rfl, hb⟩
 replace hR := hR.below hb hR.lt
 replace hL0 := hL0.below hb hL0.lt
 replace hL1 := hL1.below hb hL1.lt
 replace hB := hB.trans (hb.mono hB.size); clear hb
 have z2 := Lib.hid hR.lt
 have hC0 := Blk.new (w2) 76 #[.bool false, .slice (some ⟨w.heap.size + 1, 0, none⟩) 3 3, .bool false, .slice (some ⟨w1.heap.size, 0, none⟩) 2 2]
 replace hR := hR.alloc (.cells #[.bool false, .slice (some ⟨w.heap.size + 1, 0, none⟩) 3 3, .bool false, .slice (some ⟨w1.heap.size, 0, none⟩) 2 2] 76)
 replace hL0 := hL0.alloc (.cells #[.bool false, .slice (some ⟨w.heap.size + 1, 0, none⟩) 3 3, .bool false, .slice (some ⟨w1.heap.size, 0, none⟩) 2 2] 76)
 replace hL1 := hL1.alloc (.cells #[.bool false, .slice (some ⟨w.heap.size + 1, 0, none⟩) 3 3, .bool false, .slice (some ⟨w1.heap.size, 0, none⟩) 2 2] 76)
 replace hB := hB.alloc hB.size (.cells #[.bool false, .slice (some ⟨w.heap.size + 1, 0, none⟩) 3 3, .bool false, .slice (some ⟨w1.heap.size, 0, none⟩) 2 2] 76)
 have hL2 := Blk.new ((w2).alloc (.cells #[.bool false, .slice (some ⟨w.heap.size + 1, 0, none⟩) 3 3, .bool false, .slice (some ⟨w1.heap.size, 0, none⟩) 2 2] 76)) 3 #[.int .i64 0, .int .i64 2]
 simp only [World.size_alloc] at hL2
 replace hR := hR.alloc (.cells #[.int .i64 0, .int .i64 2] 3)
 replace hL0 := hL0.alloc (.cells #[.int .i64 0, .int .i64 2] 3)
 replace hL1 := hL1.alloc (.cells #[.int .i64 0, .int .i64 2] 3)
 replace hC0 := hC0.alloc (.cells #[.int .i64 0, .int .i64 2] 3)
 replace hB := hB.alloc hB.size (.cells #[.int .i64 0, .int .i64 2] 3)
 go_wp2_with fail
 refine (written_any _ _ _ _).mono ?_; rintro e w3 ⟨rfl, hb⟩
 replace hR := hR.below hb hR.lt
 replace hL0 := hL0.below hb hL0.lt
 replace hL1 := hL1.below hb hL1.lt
 replace hC0 := hC0.below hb hC0.lt
 replace hL2 := hL2.below hb hL2.lt
 replace hB := hB.trans (hb.mono hB.size); clear hb
 have z3 := Lib.hid hR.lt
 go_wp2_with fail
 refine (lost_any _).mono ?_; rintro e w4 ⟨rfl, hb⟩
 replace hR := hR.below hb hR.lt
 replace hL0 := hL0.below hb hL0.lt
 replace hL1 := hL1.below hb hL1.lt
 replace hC0 := hC0.below hb hC0.lt
 replace hL2 := hL2.below hb hL2.lt
 replace hB := hB.trans (hb.mono hB.size); clear hb
 have z4 := Lib.hid hR.lt
 have hC1 := Blk.new (w4) 76 #[.bool false, .slice (some ⟨w2.heap.size + 1, 0, none⟩) 2 2, .bool true, .slice none 0 0]
 replace hR := hR.alloc (.cells #[.bool false, .slice (some ⟨w2.heap.size + 1, 0, none⟩) 2 2, .bool true, .slice none 0 0] 76)
 replace hL0 := hL0.alloc (.cells #[.bool false, .slice (some ⟨w2.heap.size + 1, 0, none⟩) 2 2, .bool true, .slice none 0 0] 76)
 replace hL1 := hL1.alloc (.cells #[.bool false, .slice (some ⟨w2.heap.size + 1, 0, none⟩) 2 2, .bool true, .slice none 0 0] 76)
 replace hC0 := hC0.alloc (.cells #[.bool false, .slice (some ⟨w2.heap.size + 1, 0, none⟩) 2 2, .bool true, .slice none 0 0] 76)
 replace hL2 := hL2.alloc (.cells #[.bool false, .slice (some ⟨w2.heap.size + 1, 0, none⟩) 2 2, .bool true, .slice none 0 0] 76)
 replace hB := hB.alloc hB.size (.cells #[.bool false, .slice (some ⟨w2.heap.size + 1, 0, none⟩) 2 2, .bool true, .slice none 0 0] 76)
 have hL4 := Blk.new ((w4).alloc (.cells #[.bool false, .slice (some ⟨w2.heap.size + 1, 0, none⟩) 2 2, .bool true, .slice none 0 0] 76)) 3 #[.int .i64 0, .int .i64 1, .int .i64 1, .int .i64 2]
 simp only [World.size_alloc] at hL4
 replace hR := hR.alloc (.cells #[.int .i64 0, .int .i64 1, .int .i64 1, .int .i64 2] 3)
 replace hL0 := hL0.alloc (.cells #[.int .i64 0, .int .i64 1, .int .i64 1, .int .i64 2] 3)
 replace hL1 := hL1.alloc (.cells #[.int .i64 0, .int .i64 1, .int .i64 1, .int .i64 2] 3)
 replace hC0 := hC0.alloc (.cells #[.int .i64 0, .int .i64 1, .int .i64 1, .int .i64 2] 3)
 replace hL2 := hL2.alloc (.cells #[.int .i64 0, .int .i64 1, .int .i64 1, .int .i64 2] 3)
 replace hC1 := hC1.alloc (.cells #[.int .i64 0, .int .i64 1, .int .i64 1, .int .i64 2] 3)
 replace hB := hB.alloc hB.size (.cells #[.int .i64 0, .int .i64 1, .int .i64 1, .int .i64 2] 3)
 go_wp2_with fail
 refine (written_any _ _ _ _).mono ?_; rintro e w5 ⟨rfl, hb⟩
 replace hR := hR.below hb hR.lt
 replace hL0 := hL0.below hb hL0.lt
 replace hL1 := hL1.below hb hL1.lt
 replace hC0 := hC0.below hb hC0.lt
 replace hL2 := hL2.below hb hL2.lt
 replace hC1 := hC1.below hb hC1.lt
 replace hL4 := hL4.below hb hL4.lt
 replace hB := hB.trans (hb.mono hB.size); clear hb
 have z5 := Lib.hid hR.lt
 have hL5 := Blk.new (w5) 3 #[.int .i64 1, .int .i64 2]
 replace hR := hR.alloc (.cells #[.int .i64 1, .int .i64 2] 3)
 replace hL0 := hL0.alloc (.cells #[.int .i64 1, .int .i64 2] 3)
 replace hL1 := hL1.alloc (.cells #[.int .i64 1, .int .i64 2] 3)
 replace hC0 := hC0.alloc (.cells #[.int .i64 1, .int .i64 2] 3)
 replace hL2 := hL2.alloc (.cells #[.int .i64 1, .int .i64 2] 3)
 replace hC1 := hC1.alloc (.cells #[.int .i64 1, .int .i64 2] 3)
 replace hL4 := hL4.alloc (.cells #[.int .i64 1, .int .i64 2] 3)
 replace hB := hB.alloc hB.size (.cells #[.int .i64 1, .int .i64 2] 3)
 go_wp2_with fail
 refine (written_any _ _ _ _).mono ?_; rintro e w6 ⟨rfl, hb⟩
 replace hR := hR.below hb hR.lt
 replace hL0 := hL0.below hb hL0.lt
 replace hL1 := hL1.below hb hL1.lt
 replace hC0 := hC0.below hb hC0.lt
 replace hL2 := hL2.below hb hL2.lt
 replace hC1 := hC1.below hb hC1.lt
 replace hL4 := hL4.below hb hL4.lt
 replace hL5 := hL5.below hb hL5.lt
 replace hB := hB.trans (hb.mono hB.size); clear hb
 have z6 := Lib.hid hR.lt
 have hC2 := Blk.new (w6) 76 #[.bool false, .slice (some ⟨w4.heap.size + 1, 0, none⟩) 4 4, .bool false, .slice (some ⟨w5.heap.size, 0, none⟩) 2 2]
 replace hR := hR.alloc (.cells #[.bool false, .slice (some ⟨w4.heap.size + 1, 0, none⟩) 4 4, .bool false, .slice (some ⟨w5.heap.size, 0, none⟩) 2 2] 76)
 replace hL0 := hL0.alloc (.cells #[.bool false, .slice (some ⟨w4.heap.size + 1, 0, none⟩) 4 4, .bool false, .slice (some ⟨w5.heap.size, 0, none⟩) 2 2] 76)
 replace hL1 := hL1.alloc (.cells #[.bool false, .slice (some ⟨w4.heap.size + 1, 0, none⟩) 4 4, .bool false, .slice (some ⟨w5.heap.size, 0, none⟩) 2 2] 76)
 replace hC0 := hC0.alloc (.cells #[.bool false, .slice (some ⟨w4.heap.size + 1, 0, none⟩) 4 4, .bool false, .slice (some ⟨w5.heap.size, 0, none⟩) 2 2] 76)
 replace hL2 := hL2.alloc (.cells #[.bool false, .slice (some ⟨w4.heap.size + 1, 0, none⟩) 4 4, .bool false, .slice (some ⟨w5.heap.size, 0, none⟩) 2 2] 76)
 replace hC1 := hC1.alloc (.cells #[.bool false, .slice (some ⟨w4.heap.size + 1, 0, none⟩) 4 4, .bool false, .slice (some ⟨w5.heap.size, 0, none⟩) 2 2] 76)
 replace hL4 := hL4.alloc (.cells #[.bool false, .slice (some ⟨w4.heap.size + 1, 0, none⟩) 4 4, .bool false, .slice (some ⟨w5.heap.size, 0, none⟩) 2 2] 76)
 replace hL5 := hL5.alloc (.cells #[.bool false, .slice (some ⟨w4.heap.size + 1, 0, none⟩) 4 4, .bool false, .slice (some ⟨w5.heap.size, 0, none⟩) 2 2] 76)
 replace hB := hB.alloc hB.size (.cells #[.bool false, .slice (some ⟨w4.heap.size + 1, 0, none⟩) 4 4, .bool false, .slice (some ⟨w5.heap.size, 0, none⟩) 2 2] 76)
 have hL6 := Blk.new ((w6).alloc (.cells #[.bool false, .slice (some ⟨w4.heap.size + 1, 0, none⟩) 4 4, .bool false, .slice (some ⟨w5.heap.size, 0, none⟩) 2 2] 76)) 3 #[.int .i64 0, .int .i64 1, .int .i64 2]
 simp only [World.size_alloc] at hL6
 replace hR := hR.alloc (.cells #[.int .i64 0, .int .i64 1, .int .i64 2] 3)
 replace hL0 := hL0.alloc (.cells #[.int .i64 0, .int .i64 1, .int .i64 2] 3)
 replace hL1 := hL1.alloc (.cells #[.int .i64 0, .int .i64 1, .int .i64 2] 3)
 replace hC0 := hC0.alloc (.cells #[.int .i64 0, .int .i64 1, .int .i64 2] 3)
 replace hL2 := hL2.alloc (.cells #[.int .i64 0, .int .i64 1, .int .i64 2] 3)
 replace hC1 := hC1.alloc (.cells #[.int .i64 0, .int .i64 1, .int .i64 2] 3)
 replace hL4 := hL4.alloc (.cells #[.int .i64 0, .int .i64 1, .int .i64 2] 3)
 replace hL5 := hL5.alloc (.cells #[.int .i64 0, .int .i64 1, .int .i64 2] 3)
 replace hC2 := hC2.alloc (.cells #[.int .i64 0, .int .i64 1, .int .i64 2] 3)
 replace hB := hB.alloc hB.size (.cells #[.int .i64 0, .int .i64 1, .int .i64 2] 3)
 go_wp2_with fail
 refine (written_any _ _ _ _).mono ?_; rintro e w7 ⟨rfl, hb⟩
 replace hR := hR.below hb hR.lt
 replace hL0 := hL0.below hb hL0.lt
 replace hL1 := hL1.below hb hL1.lt
 replace hC0 := hC0.below hb hC0.lt
 replace hL2 := hL2.below hb hL2.lt
 replace hC1 := hC1.below hb hC1.lt
 replace hL4 := hL4.below hb hL4.lt
 replace hL5 := hL5.below hb hL5.lt
 replace hC2 := hC2.below hb hC2.lt
 replace hL6 := hL6.below hb hL6.lt
 replace hB := hB.trans (hb.mono hB.size); clear hb
 have z7 := Lib.hid hR.lt
 have hL7 := Blk.new (w7) 3 #[.int .i64 1]
 replace hR := hR.alloc (.cells #[.int .i64 1] 3)
 replace hL0 := hL0.alloc (.cells #[.int .i64 1] 3)
 replace hL1 := hL1.alloc (.cells #[.int .i64 1] 3)
 replace hC0 := hC0.alloc (.cells #[.int .i64 1] 3)
 replace hL2 := hL2.alloc (.cells #[.int .i64 1] 3)
 replace hC1 := hC1.alloc (.cells #[.int .i64 1] 3)
 replace hL4 := hL4.alloc (.cells #[.int .i64 1] 3)
 replace hL5 := hL5.alloc (.cells #[.int .i64 1] 3)
 replace hC2 := hC2.alloc (.cells #[.int .i64 1] 3)
 replace hL6 := hL6.alloc (.cells #[.int .i64 1] 3)
 replace hB := hB.alloc hB.size (.cells #[.int .i64 1] 3)
 go_wp2_with fail
 refine (written_any _ _ _ _).mono ?_; rintro e w8 ⟨rfl, hb⟩
 replace hR := hR.below hb hR.lt
 replace hL0 := hL0.below hb hL0.lt
 replace hL1 := hL1.below hb hL1.lt
 replace hC0 := hC0.below hb hC0.lt
 replace hL2 := hL2.below hb hL2.lt
 replace hC1 := hC1.below hb hC1.lt
 replace hL4 := hL4.below hb hL4.lt
 replace hL5 := hL5.below hb hL5.lt
 replace hC2 := hC2.below hb hC2.lt
 replace hL6 := hL6.below hb hL6.lt
 replace hL7 := hL7.below hb hL7.lt
 replace hB := hB.trans (hb.mono hB.size); clear hb
 have z8 := Lib.hid hR.lt
 have hC3 := Blk.new (w8) 76 #[.bool false, .slice (some ⟨w6.heap.size + 1, 0, none⟩) 3 3, .bool false, .slice (some ⟨w7.heap.size, 0, none⟩) 1 1]
 replace hR := hR.alloc (.cells #[.bool false, .slice (some ⟨w6.heap.size + 1, 0, none⟩) 3 3, .bool false, .slice (some ⟨w7.heap.size, 0, none⟩) 1 1] 76)
 replace hL0 := hL0.alloc (.cells #[.bool false, .slice (some ⟨w6.heap.size + 1, 0, none⟩) 3 3, .bool false, .slice (some ⟨w7.heap.size, 0, none⟩) 1 1] 76)
 replace hL1 := hL1.alloc (.cells #[.bool false, .slice (some ⟨w6.heap.size + 1, 0, none⟩) 3 3, .bool false, .slice (some ⟨w7.heap.size, 0, none⟩) 1 1] 76)
 replace hC0 := hC0.alloc (.cells #[.bool false, .slice (some ⟨w6.heap.size + 1, 0, none⟩) 3 3, .bool false, .slice (some ⟨w7.heap.size, 0, none⟩) 1 1] 76)
 replace hL2 := hL2.alloc (.cells #[.bool false, .slice (some ⟨w6.heap.size + 1, 0, none⟩) 3 3, .bool false, .slice (some ⟨w7.heap.size, 0, none⟩) 1 1] 76)
 replace hC1 := hC1.alloc (.cells #[.bool false, .slice (some ⟨w6.heap.size + 1, 0, none⟩) 3 3, .bool false, .slice (some ⟨w7.heap.size, 0, none⟩) 1 1] 76)
 replace hL4 := hL4.alloc (.cells #[.bool false, .slice (some ⟨w6.heap.size + 1, 0, none⟩) 3 3, .bool false, .slice (some ⟨w7.heap.size, 0, none⟩) 1 1] 76)
 replace hL5 := hL5.alloc (.cells #[.bool false, .slice (some ⟨w6.heap.size + 1, 0, none⟩) 3 3, .bool false, .slice (some ⟨w7.heap.size, 0, none⟩) 1 1] 76)
 replace hC2 := hC2.alloc (.cells #[.bool false, .slice (some ⟨w6.heap.size + 1, 0, none⟩) 3 3, .bool false, .slice (some ⟨w7.heap.size, 0, none⟩) 1 1] 76)
 replace hL6 := hL6.alloc (.cells #[.bool false, .slice (some ⟨w6.heap.size + 1, 0, none⟩) 3 3, .bool false, .slice (some ⟨w7.heap.size, 0, none⟩) 1 1] 76)
 replace hL7 := hL7.alloc (.cells #[.bool false, .slice (some ⟨w6.heap.size + 1, 0, none⟩) 3 3, .bool false, .slice (some ⟨w7.heap.size, 0, none⟩) 1 1] 76)
 replace hB := hB.alloc hB.size (.cells #[.bool false, .slice (some ⟨w6.heap.size + 1, 0, none⟩) 3 3, .bool false, .slice (some ⟨w7.heap.size, 0, none⟩) 1 1] 76)
 have hCC := Blk.new ((w8).alloc (.cells #[.bool false, .slice (some ⟨w6.heap.size + 1, 0, none⟩) 3 3, .bool false, .slice (some ⟨w7.heap.size, 0, none⟩) 1 1] 76)) 77 #[.slice (some ⟨w2.heap.size, 0, none⟩) 2 2, .slice (some ⟨w4.heap.size, 0, none⟩) 2 2, .slice (some ⟨w6.heap.size, 0, none⟩) 2 2, .slice (some ⟨w8.heap.size, 0, none⟩) 2 2]
 simp only [World.size_alloc] at hCC
 replace hR := hR.alloc (.cells #[.slice (some ⟨w2.heap.size, 0, none⟩) 2 2, .slice (some ⟨w4.heap.size, 0, none⟩) 2 2, .slice (some ⟨w6.heap.size, 0, none⟩) 2 2, .slice (some ⟨w8.heap.size, 0, none⟩) 2 2] 77)
 replace hL0 := hL0.alloc (.cells #[.slice (some ⟨w2.heap.size, 0, none⟩) 2 2, .slice (some ⟨w4.heap.size, 0, none⟩) 2 2, .slice (some ⟨w6.heap.size, 0, none⟩) 2 2, .slice (some ⟨w8.heap.size, 0, none⟩) 2 2] 77)
 replace hL1 := hL1.alloc (.cells #[.slice (some ⟨w2.heap.size, 0, none⟩) 2 2, .slice (some ⟨w4.heap.size, 0, none⟩) 2 2, .slice (some ⟨w6.heap.size, 0, none⟩) 2 2, .slice (some ⟨w8.heap.size, 0, none⟩) 2 2] 77)
 replace hC0 := hC0.alloc (.cells #[.slice (some ⟨w2.heap.size, 0, none⟩) 2 2, .slice (some ⟨w4.heap.size, 0, none⟩) 2 2, .slice (some ⟨w6.heap.size, 0, none⟩) 2 2, .slice (some ⟨w8.heap.size, 0, none⟩) 2 2] 77)
 replace hL2 := hL2.alloc (.cells #[.slice (some ⟨w2.heap.size, 0, none⟩) 2 2, .slice (some ⟨w4.heap.size, 0, none⟩) 2 2, .slice (some ⟨w6.heap.size, 0, none⟩) 2 2, .slice (some ⟨w8.heap.size, 0, none⟩) 2 2] 77)
 replace hC1 := hC1.alloc (.cells #[.slice (some ⟨w2.heap.size, 0, none⟩) 2 2, .slice (some ⟨w4.heap.size, 0, none⟩) 2 2, .slice (some ⟨w6.heap.size, 0, none⟩) 2 2, .slice (some ⟨w8.heap.size, 0, none⟩) 2 2] 77)
 replace hL4 := hL4.alloc (.cells #[.slice (some ⟨w2.heap.size, 0, none⟩) 2 2, .slice (some ⟨w4.heap.size, 0, none⟩) 2 2, .slice (some ⟨w6.heap.size, 0, none⟩) 2 2, .slice (some ⟨w8.heap.size, 0, none⟩) 2 2] 77)
 replace hL5 := hL5.alloc (.cells #[.slice (some ⟨w2.heap.size, 0, none⟩) 2 2, .slice (some ⟨w4.heap.size, 0, none⟩) 2 2, .slice (some ⟨w6.heap.size, 0, none⟩) 2 2, .slice (some ⟨w8.heap.size, 0, none⟩) 2 2] 77)
 replace hC2 := hC2.alloc (.cells #[.slice (some ⟨w2.heap.size, 0, none⟩) 2 2, .slice (some ⟨w4.heap.size, 0, none⟩) 2 2, .slice (some ⟨w6.heap.size, 0, none⟩) 2 2, .slice (some ⟨w8.heap.size, 0, none⟩) 2 2] 77)
 replace hL6 := hL6.alloc (.cells #[.slice (some ⟨w2.heap.size, 0, none⟩) 2 2, .slice (some ⟨w4.heap.size, 0, none⟩) 2 2, .slice (some ⟨w6.heap.size, 0, none⟩) 2 2, .slice (some ⟨w8.heap.size, 0, none⟩) 2 2] 77)
 replace hL7 := hL7.alloc (.cells #[.slice (some ⟨w2.heap.size, 0, none⟩) 2 2, .slice (some ⟨w4.heap.size, 0, none⟩) 2 2, .slice (some ⟨w6.heap.size, 0, none⟩) 2 2, .slice (some ⟨w8.heap.size, 0, none⟩) 2 2] 77)
 replace hC3 := hC3.alloc (.cells #[.slice (some ⟨w2.heap.size, 0, none⟩) 2 2, .slice (some ⟨w4.heap.size, 0, none⟩) 2 2, .slice (some ⟨w6.heap.size, 0, none⟩) 2 2, .slice (some ⟨w8.heap.size, 0, none⟩) 2 2] 77)
 replace hB := hB.alloc hB.size (.cells #[.slice (some ⟨w2.heap.size, 0, none⟩) 2 2, .slice (some ⟨w4.heap.size, 0, none⟩) 2 2, .slice (some ⟨w6.heap.size, 0, none⟩) 2 2, .slice (some ⟨w8.heap.size, 0, none⟩) 2 2] 77)
 have fR := fun i => hR.frozen i; have lR := hR.lt; have qR := fun i => hR.cell i
 go_wp2_with fail
 replace z1 := z1.out
 replace z2 := z2.out
 replace z3 := z3.out
 replace z4 := z4.out
 replace z5 := z5.out
 replace z6 := z6.out
 replace z7 := z7.out
 replace z8 := z8.out
 replace hL0 := (hL0.far (p := ⟨w.heap.size, 0, none⟩) (show w.heap.size + 1 ≠ w.heap.size by omega) (.int .i64 3)).far (p := ⟨w.heap.size, 1, none⟩) (show w.heap.size + 1 ≠ w.heap.size by omega) (.slice (some ⟨w8.heap.size + 1, 0, none⟩) 4 4)
 replace hL1 := (hL1.far (p := ⟨w.heap.size, 0, none⟩) (show w1.heap.size ≠ w.heap.size by omega) (.int .i64 3)).far (p := ⟨w.heap.size, 1, none⟩) (show w1.heap.size ≠ w.heap.size by omega) (.slice (some ⟨w8.heap.size + 1, 0, none⟩) 4 4)
 replace hC0 := (hC0.far (p := ⟨w.heap.size, 0, none⟩) (show w2.heap.size ≠ w.heap.size by omega) (.int .i64 3)).far (p := ⟨w.heap.size, 1, none⟩) (show w2.heap.size ≠ w.heap.size by omega) (.slice (some ⟨w8.heap.size + 1, 0, none⟩) 4 4)
 replace hL2 := (hL2.far (p := ⟨w.heap.size, 0, none⟩) (show w2.heap.size + 1 ≠ w.heap.size by omega) (.int .i64 3)).far (p := ⟨w.heap.size, 1, none⟩) (show w2.heap.size + 1 ≠ w.heap.size by omega) (.slice (some ⟨w8.heap.size + 1, 0, none⟩) 4 4)
 replace hC1 := (hC1.far (p := ⟨w.heap.size, 0, none⟩) (show w4.heap.size ≠ w.heap.size by omega) (.int .i64 3)).far (p := ⟨w.heap.size, 1, none⟩) (show w4.heap.size ≠ w.heap.size by omega) (.slice (some ⟨w8.heap.size + 1, 0, none⟩) 4 4)
 replace hL4 := (hL4.far (p := ⟨w.heap.size, 0, none⟩) (show w4.heap.size + 1 ≠ w.heap.size by omega) (.int .i64 3)).far (p := ⟨w.heap.size, 1, none⟩) (show w4.heap.size + 1 ≠ w.heap.size by omega) (.slice (some ⟨w8.heap.size + 1, 0, none⟩) 4 4)
 replace hL5 := (hL5.far (p := ⟨w.heap.size, 0, none⟩) (show w5.heap.size ≠ w.heap.size by omega) (.int .i64 3)).far (p := ⟨w.heap.size, 1, none⟩) (show w5.heap.size ≠ w.heap.size by omega) (.slice (some ⟨w8.heap.size + 1, 0, none⟩) 4 4)
 replace hC2 := (hC2.far (p := ⟨w.heap.size, 0, none⟩) (show w6.heap.size ≠ w.heap.size by omega) (.int .i64 3)).far (p := ⟨w.heap.size, 1, none⟩) (show w6.heap.size ≠ w.heap.size by omega) (.slice (some ⟨w8.heap.size + 1, 0, none⟩) 4 4)
 replace hL6 := (hL6.far (p := ⟨w.heap.size, 0, none⟩) (show w6.heap.size + 1 ≠ w.heap.size by omega) (.int .i64 3)).far (p := ⟨w.heap.size, 1, none⟩) (show w6.heap.size + 1 ≠ w.heap.size by omega) (.slice (some ⟨w8.heap.size + 1, 0, none⟩) 4 4)
 replace hL7 := (hL7.far (p := ⟨w.heap.size, 0, none⟩) (show w7.heap.size ≠ w.heap.size by omega) (.int .i64 3)).far (p := ⟨w.heap.size, 1, none⟩) (show w7.heap.size ≠ w.heap.size by omega) (.slice (some ⟨w8.heap.size + 1, 0, none⟩) 4 4)
 replace hC3 := (hC3.far (p := ⟨w.heap.size, 0, none⟩) (show w8.heap.size ≠ w.heap.size by omega) (.int .i64 3)).far (p := ⟨w.heap.size, 1, none⟩) (show w8.heap.size ≠ w.heap.size by omega) (.slice (some ⟨w8.heap.size + 1, 0, none⟩) 4 4)
 replace hCC := (hCC.far (p := ⟨w.heap.size, 0, none⟩) (show w8.heap.size + 1 ≠ w.heap.size by omega) (.int .i64 3)).far (p := ⟨w.heap.size, 1, none⟩) (show w8.heap.size + 1 ≠ w.heap.size by omega) (.slice (some ⟨w8.heap.size + 1, 0, none⟩) 4 4)
 replace hR := (hR.set_ 0 (.int .i64 3)).set_ 1 (.slice (some ⟨w8.heap.size + 1, 0, none⟩) 4 4)
 replace hB := (hB.setCell (p := ⟨w.heap.size, 0, none⟩) (Nat.le_refl w.heap.size) (.int .i64 3)).setCell (p := ⟨w.heap.size, 1, none⟩) (Nat.le_refl w.heap.size) (.slice (some ⟨w8.heap.size + 1, 0, none⟩) 4 4)
 replace hR : Blk (((((w8).alloc (.cells #[.bool false, .slice (some ⟨w6.heap.size + 1, 0, none⟩) 3 3, .bool false, .slice (some ⟨w7.heap.size, 0, none⟩) 1 1] 76)).alloc (.cells #[.slice (some ⟨w2.heap.size, 0, none⟩) 2 2, .slice (some ⟨w4.heap.size, 0, none⟩) 2 2, .slice (some ⟨w6.heap.size, 0, none⟩) 2 2, .slice (some ⟨w8.heap.size, 0, none⟩) 2 2] 77)).setCell ⟨w.heap.size, 0, none⟩ (.int .i64 3)).setCell ⟨w.heap.size, 1, none⟩ (.slice (some ⟨w8.heap.size + 1, 0, none⟩) 4 4)) w.heap.size 24 #[.int .i64 3, .slice (some ⟨w8.heap.size + 1, 0, none⟩) 4 4] := by simpa using hR
 generalize ((((w8).alloc (.cells #[.bool false, .slice (some ⟨w6.heap.size + 1, 0, none⟩) 3 3, .bool false, .slice (some ⟨w7.heap.size, 0, none⟩) 1 1] 76)).alloc (.cells #[.slice (some ⟨w2.heap.size, 0, none⟩) 2 2, .slice (some ⟨w4.heap.size, 0, none⟩) 2 2, .slice (some ⟨w6.heap.size, 0, none⟩) 2 2, .slice (some ⟨w8.heap.size, 0, none⟩) 2 2] 77)).setCell ⟨w.heap.size, 0, none⟩ (.int .i64 3)).setCell ⟨w.heap.size, 1, none⟩ (.slice (some ⟨w8.heap.size + 1, 0, none⟩) 4 4) = W9 at *
 clear qR fR lR
 have qR := fun i => hR.cell i
 have hpost : (∃ CC C0 C1 C2 C3 L0 L1 L2 L4 L5 L6 L7 : Nat, (.returned (.agg #[.int .i64 3, .slice (some ⟨w8.heap.size + 1, 0, none⟩) 4 4]) : Ending) = .returned (.agg #[.int .i64 3, .slice (some ⟨CC, 0, none⟩) 4 4]) ∧ Rd W9 W9.heap.size 1 (some ⟨CC, 0, none⟩) 4 ((kcs C0 C1 C2 C3 L0 L1 L2 L4 L5 L6 L7).map VC.val) ∧ ∀ c ∈ kcs C0 C1 C2 C3 L0 L1 L2 L4 L5 L6 L7, c.ok W9 W9.heap.size) ∧ Below w.heap.size w W9 := by
  refine ⟨⟨w8.heap.size + 1, w2.heap.size, w4.heap.size, w6.heap.size, w8.heap.size, w.heap.size + 1, w1.heap.size, w2.heap.size + 1, w4.heap.size + 1, w5.heap.size, w6.heap.size + 1, w7.heap.size, rfl, Rd.blkN hCC rfl hCC.lt, fun c hc => ?_⟩, hB⟩
  have hm1 : (1 : Nat) ≤ maxLen ∧ (2 : Nat) ≤ maxLen ∧ (3 : Nat) ≤ maxLen ∧ (4 : Nat) ≤ maxLen := by unfold maxLen; omega
  unfold kcs at hc
  simp only [List.mem_cons, List.not_mem_nil, or_false] at hc
  rcases hc with rfl | rfl | rfl | rfl
  ·refine ⟨Nat.le_refl _, hm1.2.1, fun l hl => ?_, Rd.blkN hC0 rfl hC0.lt⟩
   simp only [List.mem_cons, List.not_mem_nil, or_false] at hl
   rcases hl with rfl | rfl
   ·exact ⟨Nat.le_refl _, hm1.2.2.1, Rd.blkN hL0 rfl hL0.lt⟩
   ·exact ⟨Nat.le_refl _, hm1.2.1, Rd.blkN hL1 rfl hL1.lt⟩
  ·refine ⟨Nat.le_refl _, hm1.2.1, fun l hl => ?_, Rd.blkN hC1 rfl hC1.lt⟩
   simp only [List.mem_cons, List.not_mem_nil, or_false] at hl
   rcases hl with rfl | rfl
   ·exact ⟨Nat.le_refl _, hm1.2.1, Rd.blkN hL2 rfl hL2.lt⟩
   ·exact ⟨Nat.le_refl _, Nat.zero_le _, Rd.nil _ _ _ _⟩
  ·refine ⟨Nat.le_refl _, hm1.2.1, fun l hl => ?_, Rd.blkN hC2 rfl hC2.lt⟩
   simp only [List.mem_cons, List.not_mem_nil, or_false] at hl
   rcases hl with rfl | rfl
   ·exact ⟨Nat.le_refl _, hm1.2.2.2, Rd.blkN hL4 rfl hL4.lt⟩
   ·exact ⟨Nat.le_refl _, hm1.2.1, Rd.blkN hL5 rfl hL5.lt⟩
  ·refine ⟨Nat.le_refl _, hm1.2.1, fun l hl => ?_, Rd.blkN hC3 rfl hC3.lt⟩
   simp only [List.mem_cons, List.not_mem_nil, or_false] at hl
   rcases hl with rfl | rfl
   ·exact ⟨Nat.le_refl _, hm1.2.2.1, Rd.blkN hL6 rfl hL6.lt⟩
   ·exact ⟨Nat.le_refl _, hm1.1, Rd.blkN hL7 rfl hL7.lt⟩
 exact bodyPost_ret (v := .agg #[.int .i64 3, .slice (some ⟨w8.heap.size + 1, 0, none⟩) 4 4]) (by simp [results, Tryz.results79, go_sem, qR]) rfl hpost
end
section
open Go.RowKit Go.Lib
theorem sameLists_any (A : Option Addr) (n cap : Nat) (xs : List RI) (A2 : Option Addr) (n2 cap2 : Nat) (ys : List RI) (w : World) (hn : n ≤ 1000000) (hn2 : n2 ≤ 1000000) (hr : Rd w w.heap.size 1 A n (xs.map RI.val)) (hr2 : Rd w w.heap.size 1 A2 n2 (ys.map RI.val)) (hx : ∀ r ∈ xs, r.ok w w.heap.size ∧ r.n ≤ 1000000) (hy : ∀ r ∈ ys, r.ok w w.heap.size ∧ r.n ≤ 1000000) :
  Calls Tryz.prog 39 #[.slice A n cap, .slice A2 n2 cap2] w fun e w' => e = .returned (.bool (decide (xs.map RI.ws = ys.map RI.ws))) ∧ Below w.heap.size w w' := by
 have hl1 : xs.length = n := by simpa using hr.len
 have hl2 : ys.length = n2 := by simpa using hr2.len
 obtain ⟨R, hR⟩ : ∃ R, R = decide (xs.map RI.ws = ys.map RI.ws) := ⟨_, rfl⟩
 rw [← hR]
 have HR := Lib.hid hR; clear hR
 have HL1 := Lib.hid hl1; have HL2 := Lib.hid hl2; clear hl1 hl2
 by_cases hne : n = n2
 ·subst hne
  have HX := Lib.hid hx; have HY := Lib.hid hy; clear hx hy
  go_enter Tryz.func39, Tryz.ntmps39
  go_wp2_with fail
  go_loopg [5] n (fun g i wr => ∃ k : Nat, g = n - k ∧ k ≤ n ∧ i = .int .i64 k ∧ Hid ((xs.map RI.ws).take k = (ys.map RI.ws).take k) ∧ Below w.heap.size w wr)
  case atStart => exact ⟨0, rfl, Nat.zero_le _, rfl, Lib.hid rfl, Below.refl _ _⟩
  case round =>
   obtain ⟨k, hg, hk, rfl, hpre, hB⟩ := hrel
   rename World => wr
   have HG := Lib.hid hg; clear hg
   by_cases hlt : k < n
   ·have hlti : (k : Int) < n := by omega
    obtain ⟨b, off, hz, rfl, hb, hc1⟩ := (hr.below hB).atm hlt
    obtain ⟨b2, off2, hz2, rfl, hb2, hc2⟩ := (hr2.below hB).atm hlt
    have hs1 : k < (xs.map RI.ws).length := by rw [List.length_map]; exact hz
    have hs2 : k < (ys.map RI.ws).length := by rw [List.length_map]; exact hz2
    have hsu := fun he => take_eq_succ hs1 hs2 hpre.out he
    have hno : xs[k].ws ≠ ys[k].ws → R = false := fun h => by
     rw [HR.out, decide_eq_false_iff_not]
     intro e
     have h2 := List.getElem_of_eq e hs1
     simp only [List.getElem_map] at h2
     exact h h2
    simp only [List.getElem_map] at hsu
    obtain ⟨x1, x2⟩ := HX.out _ (List.getElem_mem hz)
    obtain ⟨y1, y2⟩ := HY.out _ (List.getElem_mem hz2)
    have HSU := Lib.hid hsu; have HNO := Lib.hid hno; clear hsu hno
    generalize xs[k] = x at *
    generalize ys[k] = y at *
    obtain ⟨xA, xn, xc, xw⟩ := x
    obtain ⟨yA, yn, yc, yw⟩ := y
    obtain ⟨-, -, x1⟩ := x1
    obtain ⟨-, -, y1⟩ := y1
    simp only [RI.val] at hc1 hc2 x1 x2 y1 y2
    have hsm := fun (wx : World) (hx : Below w.heap.size w wx) => same_any xA xn xc xw yA yn yc yw wx x2 y2 ((x1.below hx).more hx.size) ((y1.below hx).more hx.size)
    clear hz hz2 hs1 hs2 x1 y1 x2 y2
    have hk1 : (fun (p : Blw wr.heap.size wr) => p) = fun p => p := rfl
    have hq1 := fun (p : Blw wr.heap.size wr) => ((Blw.h p).cell (p := ⟨b, off + k, none⟩) (Nat.lt_of_lt_of_le hb hB.size)).trans hc1
    have hq2 := fun (p : Blw wr.heap.size wr) => ((Blw.h p).cell (p := ⟨b2, off2 + k, none⟩) (Nat.lt_of_lt_of_le hb2 hB.size)).trans hc2
    cases hxy : decide (xw = yw) with
    | true =>
     simp only [hxy] at hsm
     have heq := of_decide_eq_true hxy
     have HSM := Lib.hid hsm; have HEQ := Lib.hid heq; clear hsm hxy heq hk1
     go_upto_region 6 with fail
     refine wp_region_blw (by kernel_rfl) (by kernel_rfl) ?_
     repeat (go_big_quiet_step (first | (go_at_call 31; exact Calls.blw_of _ (HSM.out _ (hB.trans ((Blw.h _).mono hB.size))))))
     refine wpQuiet_nil ?_
     rintro W3 ⟨⟨_, hb3⟩, rfl⟩
     clear hq1 hq2 hc1 hc2
     replace hB := hB.trans (hb3.mono hB.size)
     go_wp2_with fail
     go_roundg (n - (k + 1))
     case measure => rw [HG.out]; omega
     case rel => exact ⟨k + 1, rfl, by omega, by go_num, Lib.hid (HSU.out HEQ.out), hB⟩
    | false =>
     simp only [hxy] at hsm
     have heq := HNO.out (of_decide_eq_false hxy)
     have HSM := Lib.hid hsm; have HEQ := Lib.hid heq; clear hsm hxy heq hk1
     go_upto_region 6 with fail
     refine wp_region_blw (by kernel_rfl) (by kernel_rfl) ?_
     repeat (go_big_quiet_step (first | (go_at_call 31; exact Calls.blw_of _ (HSM.out _ (hB.trans ((Blw.h _).mono hB.size))))))
     refine wpQuiet_nil ?_
     rintro W3 ⟨⟨_, hb3⟩, rfl⟩
     clear hq1 hq2 hc1 hc2
     replace hB := hB.trans (hb3.mono hB.size)
     go_wp2_with fail
     go_ret
     exact ⟨by rw [HEQ.out]; rfl, hB⟩
   ·obtain rfl : k = n := by omega
    have hge : ¬ (k : Int) < k := by omega
    have hRt : R = true := by
     have h := hpre.out
     rw [List.take_of_length_le (by rw [List.length_map, HL1.out]; exact Nat.le_refl _), List.take_of_length_le (by rw [List.length_map, HL2.out]; exact Nat.le_refl _)] at h
     rw [HR.out]; exact decide_eq_true h
    have HRT := Lib.hid hRt; clear hRt
    go_wp2_with fail
    go_ret
    exact ⟨by rw [HRT.out]; rfl, hB⟩
 ·have hRf : R = false := by
   rw [HR.out, decide_eq_false_iff_not]
   intro e
   have := congrArg List.length e
   rw [List.length_map, List.length_map, HL1.out, HL2.out] at this
   exact hne this
  have hneb : ((n : Int) != (n2 : Int)) = true := by simp; omega
  have HRF := Lib.hid hRf; clear hRf hne
  go_enter Tryz.func39, Tryz.ntmps39
  go_wp2_with fail
  go_ret
  exact ⟨by rw [HRF.out]; rfl, Below.refl _ _⟩
end
section
open Go.RowKit Go.Lib
def IL (w : World) (v : Value) (l : List Int) : Prop := ∃ A n cap, v = .slice A n cap ∧ n ≤ cap ∧ cap ≤ maxLen ∧ n ≤ 1000000 ∧ Rd w w.heap.size 1 A n (l.map (Value.int .i64))
def LL (w : World) (v : Value) (ls : List (List Int)) : Prop := ∃ A n cap, ∃ rs : List RI, v = .slice A n cap ∧ n ≤ cap ∧ cap ≤ maxLen ∧ n ≤ 1000000 ∧ Rd w w.heap.size 1 A n (rs.map RI.val) ∧ (∀ r ∈ rs, r.ok w w.heap.size ∧ r.n ≤ 1000000) ∧ rs.map RI.ws = ls
def SL (w : World) (v : Value) (l : List (Int × UInt8)) : Prop := ∃ A n cap, v = .slice A n cap ∧ n ≤ cap ∧ cap ≤ maxLen ∧ n ≤ 1000000 ∧ Rd w w.heap.size 2 A n (l.flatMap stC)
section
variable {w w' : World} {v : Value}
theorem IL.below {l : List Int} (h : IL w v l) (hb : Below w.heap.size w w') : IL w' v l := by
 obtain ⟨A, n, cap, e, h1, h2, h3, h4⟩ := h
 exact ⟨A, n, cap, e, h1, h2, h3, (h4.below hb).more hb.size⟩
theorem SL.below {l : List (Int × UInt8)} (h : SL w v l) (hb : Below w.heap.size w w') : SL w' v l := by
 obtain ⟨A, n, cap, e, h1, h2, h3, h4⟩ := h
 exact ⟨A, n, cap, e, h1, h2, h3, (h4.below hb).more hb.size⟩
theorem LL.below {ls : List (List Int)} (h : LL w v ls) (hb : Below w.heap.size w w') : LL w' v ls := by
 obtain ⟨A, n, cap, rs, e, h1, h2, h3, h4, h5, h6⟩ := h
 exact ⟨A, n, cap, rs, e, h1, h2, h3, (h4.below hb).more hb.size, fun r hr => ⟨((h5 r hr).1.below hb).more hb.size, (h5 r hr).2⟩, h6⟩
theorem IL.of_own {base m : Nat} {l : List Int} (h : w.ownsRow base 3 1 v m (l.map (Value.int .i64))) (hm : m ≤ 1000000) : IL w v l := by
 obtain ⟨a, c, rfl⟩ := own_slice h
 exact ⟨a, m, c, rfl, own_le0 h, own_cap h, hm, Rd.of_own h⟩
theorem SL.of_own {base m : Nat} {l : List (Int × UInt8)} (h : w.ownsRow base 116 2 v m (l.flatMap stC)) (hm : m ≤ 1000000) : SL w v l := by
 obtain ⟨a, c, rfl⟩ := own_slice h
 exact ⟨a, m, c, rfl, own_le0 h, own_cap h, hm, Rd.of_own h⟩
theorem IL.blk {g : Nat} {l : List Int} (h : Blk w g 3 (l.map (Value.int .i64)).toArray) (hm : l.length ≤ 1000000) : IL w (.slice (some ⟨g, 0, none⟩) l.length l.length) l :=
 ⟨_, _, _, rfl, Nat.le_refl _, by unfold maxLen; omega, hm, by have h2 := Rd.blkN (n := l.length) (sz := 1) h (by simp) h.lt; simpa using h2⟩
theorem SL.blk {g : Nat} {l : List (Int × UInt8)} (h : Blk w g 116 (l.flatMap stC).toArray) (hm : l.length ≤ 1000000) : SL w (.slice (some ⟨g, 0, none⟩) l.length l.length) l :=
 ⟨_, _, _, rfl, Nat.le_refl _, by unfold maxLen; omega, hm, by have h2 := Rd.blkN (n := l.length) (sz := 2) h (by have := stC_len l; simpa using this) h.lt; simpa using h2⟩
theorem LL.of_rows {base N : Nat} {rs : List RI} {ls : List ByteArray} (h : w.ownsRow base 25 1 v N (rs.map RI.val)) (hR : Rows w base rs ls) (hN : N ≤ 1000000) (hl : ∀ l ∈ ls, l.size ≤ 1000) : LL w v (ls.map nwL) := by
 obtain ⟨a, c, rfl⟩ := own_slice h
 refine ⟨a, N, c, rs, rfl, own_le0 h, own_cap h, hN, Rd.of_own h, fun r hr => ?_, hR.1⟩
 have h2 := (hR.2 r hr).1
 have h3 : r.ws ∈ ls.map nwL := by rw [← hR.1]; exact List.mem_map_of_mem hr
 obtain ⟨l, hl2, e⟩ := List.mem_map.1 h3
 have h4 := hl l hl2
 have h5 : r.ws.length = r.n := by have := h2.1; simpa using this
 have h6 : (nwL l).length = l.size := by unfold nwL; rw [List.length_map]; exact size_list l
 rw [e] at h6
 exact ⟨⟨own_le0 h2, own_cap h2, Rd.of_own h2⟩, by omega⟩
theorem LL.nil_rows {ls : List (List Int)} : ∀ vs : List Value, vs.length = ls.length → (∀ k (h1 : k < vs.length) (h2 : k < ls.length), IL w vs[k] ls[k]) → ∃ rs : List RI, rs.map RI.val = vs ∧ (∀ r ∈ rs, r.ok w w.heap.size ∧ r.n ≤ 1000000) ∧ rs.map RI.ws = ls := by
 induction ls with
 | nil => intro vs hv _; cases vs with
  | nil => exact ⟨[], rfl, (fun r h => by cases h), rfl⟩
  | cons a b => cases hv
 | cons l ls ih =>
  intro vs hv h
  cases vs with
  | nil => cases hv
  | cons a vs =>
   obtain ⟨rs, e1, e2, e3⟩ := ih vs (by simpa using hv) (fun k h1 h2 => by
     have h3 := h (k + 1) (by simpa using h1) (by simpa using h2)
     simpa only [List.getElem_cons_succ] using h3)
   obtain ⟨A, n, cap, rfl, h1, h2, h3, h4⟩ := h 0 (by simp) (by simp)
   refine ⟨⟨A, n, cap, l⟩ :: rs, by rw [List.map_cons, e1]; rfl, fun r hr => ?_, by rw [List.map_cons, e3]⟩
   rcases List.mem_cons.1 hr with rfl | hr
   ·exact ⟨⟨h1, h2, by simpa using h4⟩, h3⟩
   ·exact e2 r hr
theorem LL.blk {g : Nat} {vs : List Value} {ls : List (List Int)} (h : Blk w g 25 vs.toArray) (hv : vs.length = ls.length) (hm : vs.length ≤ 1000000) (hI : ∀ k (h1 : k < vs.length) (h2 : k < ls.length), IL w vs[k] ls[k]) : LL w (.slice (some ⟨g, 0, none⟩) vs.length vs.length) ls := by
 obtain ⟨rs, e1, e2, e3⟩ := LL.nil_rows vs hv hI
 refine ⟨_, _, _, rs, rfl, Nat.le_refl _, by unfold maxLen; omega, hm, ?_, e2, e3⟩
 rw [e1]
 have h2 := Rd.blkN (n := vs.length) (sz := 1) h (by simp) h.lt
 simpa using h2
end
theorem same_IL {w : World} {v v2 : Value} {l l2 : List Int} (h : IL w v l) (h2 : IL w v2 l2) : Calls Tryz.prog 31 #[v, v2] w fun e w' => e = .returned (.bool (decide (l = l2))) ∧ Below w.heap.size w w' := by
 obtain ⟨A, n, cap, rfl, _, _, h3, h4⟩ := h
 obtain ⟨A2, n2, cap2, rfl, _, _, k3, k4⟩ := h2
 exact same_any A n cap l A2 n2 cap2 l2 w h3 k3 h4 k4
theorem same_LL {w : World} {v v2 : Value} {l l2 : List (List Int)} (h : LL w v l) (h2 : LL w v2 l2) : Calls Tryz.prog 39 #[v, v2] w fun e w' => e = .returned (.bool (decide (l = l2))) ∧ Below w.heap.size w w' := by
 obtain ⟨A, n, cap, rs, rfl, _, _, h3, h4, h5, rfl⟩ := h
 obtain ⟨A2, n2, cap2, rs2, rfl, _, _, k3, k4, k5, rfl⟩ := h2
 exact sameLists_any A n cap rs A2 n2 cap2 rs2 w h3 k3 h4 k4 h5 k5
theorem same_SL {w : World} {v v2 : Value} {l l2 : List (Int × UInt8)} (h : SL w v l) (h2 : SL w v2 l2) : Calls Tryz.prog 34 #[v, v2] w fun e w' => e = .returned (.bool (decide (l = l2))) ∧ Below w.heap.size w w' := by
 obtain ⟨A, n, cap, rfl, _, _, h3, h4⟩ := h
 obtain ⟨A2, n2, cap2, rfl, _, _, k3, k4⟩ := h2
 exact sameSteps_any A n cap l A2 n2 cap2 l2 w h3 k3 h4 k4
end
section
open Go.RowKit Go.Lib
def BKK (w : World) (v : Value) : Prop := ∃ CC C0 C1 C2 C3 L0 L1 L2 L4 L5 L6 L7 : Nat, v = .agg #[.int .i64 3, .slice (some ⟨CC, 0, none⟩) 4 4] ∧ BkG 3 (some ⟨CC, 0, none⟩) 4 (kcs C0 C1 C2 C3 L0 L1 L2 L4 L5 L6 L7) w w.heap.size
theorem BKK.below {w w' : World} {v : Value} (h : BKK w v) (hb : Below w.heap.size w w') : BKK w' v := by
 obtain ⟨CC, C0, C1, C2, C3, L0, L1, L2, L4, L5, L6, L7, e, h⟩ := h
 exact ⟨CC, C0, C1, C2, C3, L0, L1, L2, L4, L5, L6, L7, e, h.toW hb⟩
theorem B_any (w : World) : Calls Tryz.prog 79 #[] w fun e w' => (∃ v, e = .returned v ∧ BKK w' v) ∧ Below w.heap.size w w' := by
 refine (B_fun w).mono ?_
 rintro e w' ⟨⟨CC, C0, C1, C2, C3, L0, L1, L2, L4, L5, L6, L7, rfl, hr, hc⟩, hb⟩
 obtain ⟨wn, hwn, h⟩ := BkG.of_book (vBook C0 C1 C2 C3 L0 L1 L2 L4 L5 L6 L7) hr hc
 obtain rfl : wn = 3 := by omega
 exact ⟨⟨_, rfl, CC, C0, C1, C2, C3, L0, L1, L2, L4, L5, L6, L7, rfl, h⟩, hb⟩
section
variable {w : World} {v : Value}
theorem kChanges (h : BKK w v) {a b : Value} (ha : IL w a [0, 2]) (hb : IL w b [0, 1, 1, 2]) : Calls Tryz.prog 26 #[v, a, b] w fun e w' => e = .returned (.tuple #[.int .i64 2, .int .i64 0]) ∧ Below w.heap.size w w' := by
 obtain ⟨CC, C0, C1, C2, C3, L0, L1, L2, L4, L5, L6, L7, rfl, h⟩ := h
 obtain ⟨A, n, cap, rfl, _, _, h3, h4⟩ := ha
 obtain ⟨A2, n2, cap2, rfl, _, _, k3, k4⟩ := hb
 have h5 := Changes_yes 3 (some ⟨CC, 0, none⟩) 4 4 (kcs C0 C1 C2 C3 L0 L1 L2 L4 L5 L6 L7) A n cap [0, 2] A2 n2 cap2 [0, 1, 1, 2] w (by unfold maxLen; omega) h.2.2.2.1 h.2.2.2.2.1 (by unfold maxLen; omega) h4 (by unfold maxLen; omega) k4 (vBook ..) (by kernel_rfl) (by kernel_rfl)
 rw [vChanges] at h5
 exact h5
theorem kSteps (h : BKK w v) {a b : Value} (ha : IL w a [0, 2]) (hb : IL w b [0, 1, 1, 2]) : Calls Tryz.prog 32 #[v, a, b] w fun e w' => (∃ u, e = .returned (.tuple #[u, .int .i64 0]) ∧ SL w' u [(1, 0), (3, 1), (3, 1), (1, 2)]) ∧ Below w.heap.size w w' := by
 obtain ⟨CC, C0, C1, C2, C3, L0, L1, L2, L4, L5, L6, L7, rfl, h⟩ := h
 obtain ⟨A, n, cap, rfl, _, _, h3, h4⟩ := ha
 obtain ⟨A2, n2, cap2, rfl, _, _, k3, k4⟩ := hb
 have h5 := Steps_yes 3 (some ⟨CC, 0, none⟩) 4 4 (kcs C0 C1 C2 C3 L0 L1 L2 L4 L5 L6 L7) A n cap [0, 2] A2 n2 cap2 [0, 1, 1, 2] w (by unfold maxLen; omega) h.2.2.2.1 h.2.2.2.2.1 (by unfold maxLen; omega) h4 (by unfold maxLen; omega) k4 (vBook ..) (by kernel_rfl) (by kernel_rfl)
 rw [vSteps] at h5
 refine h5.mono ?_
 rintro e w' ⟨⟨u, rfl, ho⟩, hB⟩
 exact ⟨⟨u, rfl, SL.of_own ho (by decide)⟩, hB⟩
theorem kBetween (h : BKK w v) {a b : Value} (ha : IL w a [0, 2]) (hb : IL w b [0, 1, 1, 2]) : Calls Tryz.prog 38 #[v, a, b] w fun e w' => (∃ u, e = .returned (.tuple #[u, .int .i64 0]) ∧ LL w' u [[0, 2], [0, 1, 2], [0, 1, 1, 2]]) ∧ Below w.heap.size w w' := by
 obtain ⟨CC, C0, C1, C2, C3, L0, L1, L2, L4, L5, L6, L7, rfl, h⟩ := h
 obtain ⟨A, n, cap, rfl, _, _, h3, h4⟩ := ha
 obtain ⟨A2, n2, cap2, rfl, _, _, k3, k4⟩ := hb
 have h5 := Between_yes 4 A n cap [0, 2] A2 n2 cap2 [0, 1, 1, 2] h (vBook ..) (by unfold maxLen; omega) h4 (by unfold maxLen; omega) k4 (by kernel_rfl) (by kernel_rfl)
 rw [vBetween] at h5
 refine h5.mono ?_
 rintro e w' ⟨⟨u, rfl, rs, ho, hR⟩, hB⟩
 exact ⟨⟨u, rfl, LL.of_rows ho hR (by decide) (by decide)⟩, hB⟩
theorem kLeast (h : BKK w v) : Calls Tryz.prog 43 #[v, .int .i64 1] w fun e w' => (∃ u, e = .returned (.tuple #[u, .int .i64 2, .int .i64 0]) ∧ LL w' u [[1], [1, 1], [1, 2]]) ∧ Below w.heap.size w w' := by
 obtain ⟨CC, C0, C1, C2, C3, L0, L1, L2, L4, L5, L6, L7, rfl, h⟩ := h
 have h5 := Least_yes 4 1 h (vBook ..) (show 1 < 2 by omega)
 rw [vLeast, vLeastC] at h5
 refine h5.mono ?_
 rintro e w' ⟨⟨u, rs, rfl, ho, hR⟩, hB⟩
 exact ⟨⟨u, rfl, LL.of_rows ho hR (by decide) (by decide)⟩, hB⟩
theorem kCommon (h : BKK w v) : Calls Tryz.prog 44 #[v, .int .i64 1] w fun e w' => (∃ u, e = .returned (.tuple #[u, .int .i64 0]) ∧ IL w' u [1]) ∧ Below w.heap.size w w' := by
 obtain ⟨CC, C0, C1, C2, C3, L0, L1, L2, L4, L5, L6, L7, rfl, h⟩ := h
 have h5 := Common_yes 4 1 h (vBook ..) (show 1 < 2 by omega)
 rw [vLeast, vCommon] at h5
 refine h5.mono ?_
 rintro e w' ⟨⟨u, rfl, ho⟩, hB⟩
 exact ⟨⟨u, rfl, IL.of_own ho (by decide)⟩, hB⟩
theorem kTextV (h : BKK w v) : Calls Tryz.prog 51 #[v] w fun e w' => (∃ u, e = .returned (.tuple #[u, .int .i64 3, .int .i64 4, .int .i64 0]) ∧ LL w' u [[0, 1, 2], [1]]) ∧ Below w.heap.size w w' := by
 obtain ⟨CC, C0, C1, C2, C3, L0, L1, L2, L4, L5, L6, L7, rfl, h⟩ := h
 have h5 := Text_yes 4 h (vBook ..)
 have e2 : headN (kcs C0 C1 C2 C3 L0 L1 L2 L4 L5 L6 L7) = 2 := rfl
 rw [e2, vTextL, vTextM, vTextC] at h5
 refine h5.mono ?_
 rintro e w' ⟨u, rfl, rs, ho, hR, hB⟩
 exact ⟨⟨u, rfl, LL.of_rows ho hR (by decide) (by decide)⟩, hB⟩
theorem kFar (h : BKK w v) : Calls Tryz.prog 52 #[v, .int .i64 0] w fun e w' => e = .returned (.tuple #[.agg #[.int .i64 0, .int .i64 1], .int .i64 0]) ∧ Below w.heap.size w w' := by
 obtain ⟨CC, C0, C1, C2, C3, L0, L1, L2, L4, L5, L6, L7, rfl, h⟩ := h
 have e2 : headN (kcs C0 C1 C2 C3 L0 L1 L2 L4 L5 L6 L7) = 2 := rfl
 have hv := vFar C0 C1 C2 C3 L0 L1 L2 L4 L5 L6 L7
 obtain ⟨c0, hc0⟩ : ∃ c0, (kcs C0 C1 C2 C3 L0 L1 L2 L4 L5 L6 L7)[0]? = some c0 := ⟨_, rfl⟩
 have h5 := Far_yes 4 0 c0 h (vBook ..) (show 0 < 4 by omega) hc0
 rw [hc0] at hv
 simp only [Option.map_some, Option.some.injEq, Prod.mk.injEq] at hv
 rw [e2, hv.1, hv.2] at h5
 exact h5
theorem kAsk (h : BKK w v) : Calls Tryz.prog 60 #[v] w fun e w' => e = .returned (.tuple #[.int .i64 1, .int .i64 1, .int .i64 4, .int .i64 0]) ∧ Below w.heap.size w w' := by
 obtain ⟨CC, C0, C1, C2, C3, L0, L1, L2, L4, L5, L6, L7, rfl, h⟩ := h
 have h5 := Ask_yes 4 h (vBook ..)
 rw [vAsk] at h5
 exact h5
theorem kMixed (h : BKK w v) : Calls Tryz.prog 68 #[v, .int .i64 3] w fun e w' => e = .returned (.tuple #[.agg #[.int .i64 0, .int .i64 1, .int .i64 1, .int .i64 1], .int .i64 0]) ∧ Below w.heap.size w w' := by
 obtain ⟨CC, C0, C1, C2, C3, L0, L1, L2, L4, L5, L6, L7, rfl, h⟩ := h
 have h5 := Mixed_yes 4 3 h (vBook ..) (show 3 < 4 by omega)
 rw [vMixed] at h5
 exact h5
theorem vTree {C0 C1 C2 C3 L0 L1 L2 L4 L5 L6 L7 : Nat} (A B : Option Addr) (n c m d : Nat) : bestI Prod.snd (treesOf 4 (costV (kcs C0 C1 C2 C3 L0 L1 L2 L4 L5 L6 L7) [⟨A, n, c, [0, 2]⟩, ⟨B, m, d, [1]⟩]) (allLs 4 5)) = some ([3, -1, 0, -1], 4) := by kernel_rfl
theorem kTree (h : BKK w v) {t : Value} (ht : LL w t [[0, 2], [1]]) : Calls Tryz.prog 64 #[v, t] w fun e w' => (∃ u, e = .returned (.tuple #[u, .int .i64 4, .int .i64 0]) ∧ IL w' u [3, -1, 0, -1]) ∧ Below w.heap.size w w' := by
 obtain ⟨CC, C0, C1, C2, C3, L0, L1, L2, L4, L5, L6, L7, rfl, h⟩ := h
 obtain ⟨A, n, cap, rs, rfl, h1, h2, h3, h4, h5, h6⟩ := ht
 obtain ⟨r1, r2, rfl⟩ : ∃ r1 r2, rs = [r1, r2] := by
  have hl : rs.length = 2 := by have := congrArg List.length h6; simpa using this
  match rs, hl with
  | [a, b], _ => exact ⟨a, b, rfl⟩
 simp only [List.map_cons, List.map_nil, List.cons.injEq, and_true] at h6
 obtain ⟨e1, e2⟩ := h6
 obtain ⟨A1, n1, c1, w1⟩ := r1
 obtain ⟨A2, n2, c2, w2⟩ := r2
 simp only at e1 e2
 subst e1 e2
 have hn1 : n1 = 2 := by have := (h5 _ (by simp : (⟨A1, n1, c1, [0, 2]⟩ : RI) ∈ _)).1.2.2.len; simpa using this.symm
 have hn2 : n2 = 1 := by have := (h5 _ (by simp : (⟨A2, n2, c2, [1]⟩ : RI) ∈ _)).1.2.2.len; simpa using this.symm
 have hx : TxG (kcs C0 C1 C2 C3 L0 L1 L2 L4 L5 L6 L7) A n [⟨A1, n1, c1, [0, 2]⟩, ⟨A2, n2, c2, [1]⟩] w w.heap.size := ⟨h4, fun r hr => (h5 r hr).1, rfl, fun r hr => by
   rcases (by simpa using hr : r = ⟨A1, n1, c1, [0, 2]⟩ ∨ r = ⟨A2, n2, c2, [1]⟩) with rfl | rfl
   · exact ⟨by simp only; omega, by simp, by simp⟩
   · exact ⟨by simp only; omega, by simp, by simp⟩⟩
 have k5 := Tree_yes 4 cap h (vBook ..) hx (by kernel_rfl)
 rw [vTree] at k5
 refine k5.mono ?_
 rintro e w' ⟨⟨u, t, c, hs, rfl, ho⟩, hB⟩
 cases hs
 exact ⟨⟨u, rfl, IL.of_own ho (by omega)⟩, hB⟩
end
end
section
open Go.RowKit Go.Lib
abbrev PB := List (List (Bool × List Int))
def linesP (wn : Nat) (p : PB) : List ByteArray := jnS [wBook, dS wn] ⟨#[32]⟩ :: p.flatMap fun c => wCopy :: c.map fun l => if l.1 then wLost else jnS (wLine :: l.2.map DZ) ⟨#[32]⟩
def headP (p : PB) : Nat := match p with | [] => 0 | c :: _ => c.length
def bookQ (W : Int) (p : PB) : Bool := inB W 1 3 && inB p.length 1 5 && inB (headP p) 1 4 && p.all fun c => c.length == headP p && c.all fun l => lnB W l.2 && !(l.1 && decide (0 < l.2.length))
theorem linesB_plain (wn : Nat) (cs : List VC) : linesB wn cs = linesP wn (plain cs) := by
 unfold linesB linesP plain copyB lnT
 simp [List.flatMap_map, Function.comp_def]
theorem headN_plain (cs : List VC) : headN cs = headP (plain cs) := by
 unfold headN headP plain
 cases cs <;> simp
theorem bookB_plain (W : Int) (cs : List VC) : bookB W cs = bookQ W (plain cs) := by
 unfold bookB bookQ
 rw [headN_plain]
 have e : (plain cs).length = cs.length := by unfold plain; simp
 rw [e]
 congr 1
 unfold plain vlB
 simp [List.all_map, Function.comp_def]
def bookTP (wn : Nat) (p : PB) : ByteArray := txtB (linesP wn p) (sB (linesP wn p))
theorem bookT_plain (wn : Nat) (cs : List VC) : bookT wn cs = bookTP wn (plain cs) := by unfold bookT bookTP; rw [linesB_plain]
def BKP (w : World) (v : Value) (wn : Nat) (p : PB) : Prop := ∃ A n cap cs, v = .agg #[.int .i64 (wn : Int), .slice A n cap] ∧ n ≤ cap ∧ cap ≤ maxLen ∧ n ≤ 1000 ∧ Rd w w.heap.size 1 A n (cs.map VC.val) ∧ (∀ c ∈ cs, c.ok w w.heap.size) ∧ plain cs = p
theorem BKP.below {w w' : World} {v : Value} {wn : Nat} {p : PB} (h : BKP w v wn p) (hb : Below w.heap.size w w') : BKP w' v wn p := by
 obtain ⟨A, n, cap, cs, e, h1, h2, h3, h4, h5, h6⟩ := h
 exact ⟨A, n, cap, cs, e, h1, h2, h3, (h4.below hb).more hb.size, fun c hc => okB (h5 c hc) hb, h6⟩
def ktext : ByteArray := ⟨#[98, 111, 111, 107, 32, 50, 10, 99, 111, 112, 121, 10, 108, 105, 110, 101, 32, 49, 32, 48, 10, 108, 111, 115, 116, 10, 101, 110, 100, 32, 49, 52, 51, 10]⟩
theorem vParse : parseO ktext = some (2, [[(false, [1, 0]), (true, [])]]) := by kernel_rfl
theorem kRead (m : Int) (w : World) (hE : Env m w) : Calls Tryz.prog 75 #[.string ktext] w fun e w' => (∃ v, e = .returned (.tuple #[v, .int .i64 0]) ∧ BKP w' v 2 [[(false, [1, 0]), (true, [])]]) ∧ Below w.heap.size w w' := by
 refine (Read_short ktext m w hE (by decide)).mono ?_
 rintro e w' ⟨hB, h⟩
 rw [vParse] at h
 obtain ⟨A, n, cap, cs, h1, h2, h3, h4, h5, h6, h7⟩ := h
 have hb : bookB ((2 : Nat) : Int) cs = true := by rw [bookB_plain, h6]; kernel_rfl
 simp only [hb, if_true] at h7
 exact ⟨⟨_, h7, A, n, cap, cs, rfl, h1, h2, h3, h4, h5, h6⟩, hB⟩
theorem kSizes : ∀ x ∈ linesP 2 [[(false, [1, 0]), (true, [])]], x.size ≤ 900 := by
 have h : (linesP 2 [[(false, [1, 0]), (true, [])]]).all (fun x => decide (x.size ≤ 900)) = true := by kernel_rfl
 exact fun x hx => of_decide_eq_true (List.all_eq_true.1 h x hx)
theorem kPrint (w : World) (v : Value) (h : BKP w v 2 [[(false, [1, 0]), (true, [])]]) : Calls Tryz.prog 76 #[v] w fun e w' => e = .returned (.string ktext) ∧ Below w.heap.size w w' := by
 obtain ⟨A, n, cap, cs, rfl, h1, h2, h3, h4, h5, h6⟩ := h
 have hcl : ∀ c ∈ cs, c.ls.map (fun l => (l.lost, l.ws)) = [(false, [1, 0]), (true, [])] := fun c hc => by
  have h8 : c.ls.map (fun l => (l.lost, l.ws)) ∈ plain cs := List.mem_map_of_mem hc
  rw [h6] at h8
  simpa using h8
 have h9 := refPrint_any 2 A n cap cs w (by omega) h3 h4 h5 (fun c hc => by
   have e := hcl c hc
   have hl : c.ls.length = 2 := by have := congrArg List.length e; simpa using this
   have hn := (h5 c hc).2.2.2.len2
   refine ⟨by omega, fun l hl2 => ?_⟩
   have e2 : (l.lost, l.ws) ∈ c.ls.map (fun l => (l.lost, l.ws)) := List.mem_map_of_mem hl2
   rw [e] at e2
   have e3 := ((h5 c hc).2.2.1 l hl2).2.2.len
   rcases (by simpa using e2 : (l.lost = false ∧ l.ws = [1, 0]) ∨ (l.lost = true ∧ l.ws = [])) with ⟨_, e4⟩ | ⟨_, e4⟩
   · rw [e4] at e3 ⊢
     exact ⟨by simp at e3; omega, by simp⟩
   · rw [e4] at e3 ⊢
     exact ⟨by simp at e3; omega, by simp⟩) (by rw [linesB_plain, h6]; decide) (by rw [linesB_plain, h6]; exact kSizes)
 rw [bookT_plain, h6] at h9
 have hv : bookTP 2 [[(false, [1, 0]), (true, [])]] = ktext := by kernel_rfl
 rw [hv] at h9
 exact h9
end
end Go.Proofs.YtekmnelpkogppaaGreatDoor
