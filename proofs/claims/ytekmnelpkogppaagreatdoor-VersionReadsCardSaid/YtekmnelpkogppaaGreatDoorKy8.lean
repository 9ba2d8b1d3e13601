import Derived.Test.YtekmnelpkogppaaGreatDoorProg
import Derived.Test.YtekmnelpkogppaaGreatDoorKy1
import Derived.Test.YtekmnelpkogppaaGreatDoorKy7
set_option linter.unusedVariables false
set_option linter.unusedSimpArgs false
set_option maxRecDepth 100000
set_option maxHeartbeats 40000000
namespace Go.Proofs.YtekmnelpkogppaaGreatDoor
section
open Go.RowKit Go.Lib Go.Maps
theorem Memo.isMap {w : World} {b n : Nat} (h : Memo w b n) : ∃ es c, w.heap[b]? = some (.map es c) := by
 obtain ⟨D, hD, _⟩ := h
 obtain ⟨es, c, hmap, _⟩ := hD
 exact ⟨es, c, hmap⟩
theorem own_gbm {w w' : World} {base b N : Nat} {e : TypeId} {size n : Nat} {v : Value} {xs : List Value} (h : w.ownsRow base e size v n xs) (hg : GB w.heap.size b w w') (hm : Memo w b N) : w'.ownsRow base e size v n xs := by
 obtain ⟨es, c, hmap⟩ := hm.isMap
 refine ⟨h.1, h.2.imp id ?_⟩
 rintro ⟨g, cap, cur, hv, hb, hk, hr⟩
 exact ⟨g, cap, cur, hv, hb, (hg.block g (Array.getElem?_eq_some_iff.1 hk).1 (fun e => by rw [e, hmap] at hk; cases hk)).trans hk, hr⟩
theorem Blk.gbm {w w' : World} {g b N : Nat} {t : TypeId} {cs : Array Value} (h : Blk w g t cs) (hg : GB w.heap.size b w w') (hm : Memo w b N) : Blk w' g t cs := by
 obtain ⟨es, c, hmap⟩ := hm.isMap
 exact h.gb hg (fun e => by rw [e] at h; rw [show w.heap[b]? = _ from h] at hmap; cases hmap)
structure LQ where
 A : Option Addr
 n : Nat
 cap : Nat
 xs : List RT
def LQ.val (r : LQ) : Value := .slice r.A r.n r.cap
def LQs (w : World) (B : Nat) (qs : List LQ) (ls : List (List RT)) : Prop := qs.map LQ.xs = ls ∧ ∀ r ∈ qs, w.ownsRow B 136 2 r.val r.n (r.xs.flatMap RT.cells) ∧ r.n = r.xs.length
theorem LQs.below {w w' : World} {B : Nat} {qs : List LQ} {ls : List (List RT)} (h : LQs w B qs ls) (hb : Below w.heap.size w w') : LQs w' B qs ls := ⟨h.1, fun r hr => ⟨ownsRow_below' (h.2 r hr).1 hb, (h.2 r hr).2⟩⟩
theorem LQs.gbm {w w' : World} {B b N : Nat} {qs : List LQ} {ls : List (List RT)} (h : LQs w B qs ls) (hg : GB w.heap.size b w w') (hm : Memo w b N) : LQs w' B qs ls := ⟨h.1, fun r hr => ⟨own_gbm (h.2 r hr).1 hg hm, (h.2 r hr).2⟩⟩
theorem LQs.kept {w w' : World} {B base e sz n : Nat} {v : Value} {xs : List Value} {qs : List LQ} {ls : List (List RT)} (h : LQs w B qs ls) (ho : w.ownsRow base e sz v n xs) (hne : (136 : TypeId) ≠ e) (hg : w.grownBy w' v.ownBlock) : LQs w' B qs ls := ⟨h.1, fun r hr => ⟨(h.2 r hr).1.kept hg (own_ne (h.2 r hr).1 ho hne), (h.2 r hr).2⟩⟩
def leastLs (wn : Nat) (cs : List VC) (k : Nat) : List (List RT) := (List.range k).map fun q => leastQ wn q cs
theorem leastLs_succ (wn : Nat) (cs : List VC) (k : Nat) : leastLs wn cs (k + 1) = leastLs wn cs k ++ [leastQ wn k cs] := by unfold leastLs; rw [List.range_succ, List.map_append]; rfl
theorem flat_ol (W : Int) (A : Option Addr) (n cap mb : Nat) : ∀ (l : List Nat) (k j : Nat) (hk : k < l.length), j < 4 → (l.flatMap (olC W A n cap mb))[k * 4 + j]? = (olC W A n cap mb l[k])[j]?
 | x :: l, 0, j, _, hj => by
  simp only [List.flatMap_cons, List.getElem_cons_zero, Nat.zero_mul, Nat.zero_add]
  rw [List.getElem?_append_left (by simp [olC]; omega)]
 | x :: l, k + 1, j, hk, hj => by
  simp only [List.flatMap_cons, List.getElem_cons_succ]
  rw [show (k + 1) * 4 + j = (olC W A n cap mb x).length + (k * 4 + j) by simp [olC]; omega, List.getElem?_append_right (by omega), Nat.add_sub_cancel_left]
  exact flat_ol W A n cap mb l k j (by simpa using hk) hj
theorem info130 : (Tryz.prog.info? 130).map (fun i => (i.zero, i.size, i.bytes)) = some (some (.slice none 0 0), 1, 24) := by kernel_rfl
theorem Rd.elOL {w : World} {B : Nat} {R : Option Addr} {m k mb : Nat} {W : Int} {A : Option Addr} {n cap : Nat} (h : Rd w B 4 R m ((List.range m).flatMap (olC W A n cap mb))) (hk : k < m) :
  ∃ b off, R = some ⟨b, off, none⟩ ∧ b < B ∧ w.cell? ⟨b, off + k * 4, none⟩ = some (.int .i64 W) ∧ w.cell? ⟨b, off + k * 4 + 1, none⟩ = some (.slice A n cap) ∧ w.cell? ⟨b, off + k * 4 + 2, none⟩ = some (.int .i64 (k : Int)) ∧ w.cell? ⟨b, off + k * 4 + 3, none⟩ = some (.map (some mb)) := by
 obtain ⟨b, off, rfl, hb, hc⟩ := h.2 (by omega)
 have hl : k < (List.range m).length := by rw [List.length_range]; exact hk
 have hf := fun j (hj : j < 4) => flat_ol W A n cap mb (List.range m) k j hl hj
 simp only [List.getElem_range] at hf
 refine ⟨b, off, rfl, hb, ?_, ?_, ?_, ?_⟩
 ·have := hc (k * 4 + 0) _ (by rw [hf 0 (by omega)]; rfl); simpa using this
 ·have := hc (k * 4 + 1) _ (by rw [hf 1 (by omega)]; rfl); simpa [Nat.add_assoc] using this
 ·have := hc (k * 4 + 2) _ (by rw [hf 2 (by omega)]; rfl); simpa [Nat.add_assoc] using this
 ·have := hc (k * 4 + 3) _ (by rw [hf 3 (by omega)]; rfl); simpa [Nat.add_assoc] using this
theorem leastOf_any {wn : Nat} {A : Option Addr} {n : Nat} (cap : Nat) {cs : List VC} {w : World} (hb : BkG wn A n cs w w.heap.size) :
  Calls Tryz.prog 97 #[.agg #[.int .i64 (wn : Int), .slice A n cap]] w fun e w' => ∃ v, e = .returned v ∧ ∃ qs : List LQ, w'.ownsRow w.heap.size 130 1 v (headN cs) (qs.map LQ.val) ∧ LQs w' w.heap.size qs (leastLs wn cs (headN cs)) ∧ Below w.heap.size w w' := by
 obtain ⟨i130, hi, hz0, hz1', hz2'⟩ := info_parts info130
 have hX := Blk.new w 24 #[.int .i64 (wn : Int), .slice A n cap]
 have qX := fun i => hX.cell i
 have hB : Below w.heap.size w (w.alloc (.cells #[.int .i64 (wn : Int), .slice A n cap] 24)) := (Below.refl _ w).alloc (Nat.le_refl _) _
 have hea := each_any (wn : Int) A n cap cs (w.alloc (.cells #[.int .i64 (wn : Int), .slice A n cap] 24)) hb.2.1.1 (rdB hb.2.2.2.1 hB) (fun c h => okB (hb.2.2.2.2.1 c h) hB) (by have := hb.2.2.1.2; omega)
 have hL4 := hb.2.2.1.2
 have hol := fun (q mb N' : Nat) (wx : World) (hq : q < headN cs) (hx : Below w.heap.size w wx) (hmb : w.heap.size ≤ mb) (hm : Memo wx mb N') (hN : N' + 1000 * KK 8 ≤ maxLen) => olLeast_any cap q mb N' (hb.below hx) hmb hq hm hN
 have hll := fun q => leastQ_le q cs hb.1.2
 rw [KK_8] at hol
 obtain ⟨L, hL⟩ : ∃ L, L = headN cs := ⟨_, rfl⟩
 rw [← hL] at hea hL4 ⊢
 simp only [← hL] at hol
 have HEA := Lib.hid hea; have HOL := Lib.hid hol; have HLL := Lib.hid hll; have HL := Lib.hid hL
 clear hea hol hll hL hb
 go_enter Tryz.func97, Tryz.ntmps97
 go_wp2_with fail
 refine HEA.out.mono ?_
 rintro e w1 ⟨v, mb, rfl, hmb, hm, hrow, hb1⟩
 have hmbw : w.heap.size ≤ mb := by rw [World.size_alloc] at hmb; omega
 replace hB := hB.trans (hb1.mono hB.size)
 obtain ⟨ra, rc, rfl⟩ := own_slice hrow
 clear hb1 qX hX
 go_wp2_with fail
 go_loopg [3, 9] L (fun g v i wr => ∃ (k : Nat) (v0 : Value) (qs : List LQ), g = L - k ∧ k ≤ L ∧ v = v0 ∧ i = .int .i64 k ∧ wr.ownsRow w.heap.size 130 1 v0 k (qs.map LQ.val) ∧ LQs wr w.heap.size qs (leastLs wn cs k) ∧ Memo wr mb (k * 600000000) ∧ wr.ownsRow (w.alloc (.cells #[.int .i64 (wn : Int), .slice A n cap] 24)).heap.size 132 4 (.slice ra L rc) L ((List.range L).flatMap (olC (wn : Int) A n cap mb)) ∧ Below w.heap.size w wr)
 case atStart => exact ⟨0, _, [], rfl, Nat.zero_le _, rfl, rfl, World.ownsRow_nil _ _ _ _, ⟨rfl, fun r h => by cases h⟩, by simpa using hm, hrow, hB⟩
 case round =>
  clear hm hrow hB
  obtain ⟨k, v0, qs, hg, hk, rfl, rfl, hown, hqs, hm, hrow, hB⟩ := hrel
  rename World => wr
  obtain ⟨va, vc, rfl⟩ := own_slice hown
  have HG := Lib.hid hg; clear hg
  by_cases hlt : k < L
  ·have hlti : (k : Int) < L := by omega
   obtain ⟨b, off, rfl, hbb, hc0, hc1, hc2, hc3⟩ := (Rd.of_own hrow).elOL hlt
   have hHOL := HOL.out k mb (k * 600000000) (wr.alloc (.cells #[.int .i64 (wn : Int), .slice A n cap, .int .i64 (k : Int), .map (some mb)] 132)) hlt (hB.alloc hB.size _) hmbw (hm.alloc _) (by unfold maxLen; omega)
   have HH := Lib.hid hHOL; clear hHOL
   have hlq := HLL.out k
   have hfn := fun (W : World) => (Blk.new W 132 #[.int .i64 (wn : Int), .slice A n cap, .int .i64 (k : Int), .map (some mb)]).frozen 0
   obtain ⟨ys, hys⟩ : ∃ ys, ys = qs.map LQ.val := ⟨_, rfl⟩
   rw [← hys] at hown
   have HYS := Lib.hid hys; clear hys
   go_wp2_with (first
     | (go_at_call 91; refine HH.out.mono ?_; rintro e w2 ⟨v2, rfl, hown2, hm2, hg2⟩; obtain ⟨a2, c2, rfl⟩ := own_slice hown2)
     | (at_builtin; refine wpList_append_any _ rfl _ _ 141 rfl w.heap.size 130 i130 (.slice none 0 0) 1 24 Tryz.underlying141 hi hz0 hz1' hz2' rfl (by decide) (.slice va k vc) k ys rfl ((own_gbm (hown.alloc (.cells #[.int .i64 (wn : Int), .slice A n cap, .int .i64 (k : Int), .map (some mb)] 132)) hg2 (hm.alloc _)).alloc (.cells #[.slice a2 (leastQ wn k cs).length c2] 130)) (w2.heap.size + 1) (some ⟨w2.heap.size, 0, none⟩) 1 1 [.slice a2 (leastQ wn k cs).length c2] rfl (Rd.blkN (Blk.new w2 130 #[.slice a2 (leastQ wn k cs).length c2]) rfl (by omega)).reads (by simp [Value.oneCell']) (by unfold maxLen; omega) (by omega) (by have := hg2.size; have := hB.size; rw [World.size_alloc] at *; omega) (fun v' w' hown' hgrow hob => ?_)))
   have ho2 := (own_gbm (hown.alloc (.cells #[.int .i64 (wn : Int), .slice A n cap, .int .i64 (k : Int), .map (some mb)] 132)) hg2 (hm.alloc _)).alloc (.cells #[.slice a2 (leastQ wn k cs).length c2] 130)
   have hq2 : LQs (w2.alloc (.cells #[.slice a2 (leastQ wn k cs).length c2] 130)) w.heap.size qs (leastLs wn cs k) := ⟨hqs.1, fun r hr => ⟨(own_gbm ((hqs.2 r hr).1.alloc (.cells #[.int .i64 (wn : Int), .slice A n cap, .int .i64 (k : Int), .map (some mb)] 132)) hg2 (hm.alloc _)).alloc (.cells #[.slice a2 (leastQ wn k cs).length c2] 130), (hqs.2 r hr).2⟩⟩
   have hn2 := (own_more hown2 (base' := w.heap.size) (by rw [World.size_alloc]; have := hB.size; omega)).alloc (.cells #[.slice a2 (leastQ wn k cs).length c2] 130)
   have hq3 := hq2.kept ho2 (by decide) hgrow
   have hn3 := hn2.kept hgrow (own_ne hn2 ho2 (by decide))
   have hm3 : Memo w' mb ((k + 1) * 600000000) := ((hm2.alloc (.cells #[.slice a2 (leastQ wn k cs).length c2] 130)).kept hgrow (fun e => by
     obtain ⟨es, c, hmap⟩ := (hm2.alloc (.cells #[.slice a2 (leastQ wn k cs).length c2] 130)).isMap
     rcases ho2.2 with ⟨h1, _⟩ | ⟨g, cp, cur, h1, _, h3, _⟩
     · rw [h1] at e; cases e
     · rw [h1] at e
       injection e with e
       have e' : mb = g := e
       rw [← e', hmap] at h3
       cases h3)).mono (by omega)
   have hr3 := ((own_gbm (hrow.alloc (.cells #[.int .i64 (wn : Int), .slice A n cap, .int .i64 (k : Int), .map (some mb)] 132)) hg2 (hm.alloc _)).alloc (.cells #[.slice a2 (leastQ wn k cs).length c2] 130)).kept hgrow (own_ne ((own_gbm (hrow.alloc (.cells #[.int .i64 (wn : Int), .slice A n cap, .int .i64 (k : Int), .map (some mb)] 132)) hg2 (hm.alloc _)).alloc (.cells #[.slice a2 (leastQ wn k cs).length c2] 130)) ho2 (by decide))
   have hB3 := ((((hB.alloc hB.size (.cells #[.int .i64 (wn : Int), .slice A n cap, .int .i64 (k : Int), .map (some mb)] 132)).trans (hg2.below hmbw (by rw [World.size_alloc]; have := hB.size; omega))).alloc (by have := hg2.size; have := hB.size; rw [World.size_alloc] at *; omega) (.cells #[.slice a2 (leastQ wn k cs).length c2] 130)).grown hgrow (by have := hg2.size; have := hB.size; rw [World.size_alloc] at *; omega) (fun g hg => (ho2.lt g hg).1))
   go_roundg (L - (k + 1))
   case measure => rw [HG.out]; omega
   case rel => exact ⟨k + 1, v', qs ++ [⟨a2, (leastQ wn k cs).length, c2, leastQ wn k cs⟩], rfl, by omega, rfl, by go_num, by rw [List.map_append, ← HYS.out]; exact hown', ⟨by rw [List.map_append, hq3.1, leastLs_succ]; rfl, fun r hr => by
       rcases List.mem_append.1 hr with h | h
       · exact hq3.2 r h
       · rw [List.mem_singleton.1 h]; exact ⟨hn3, rfl⟩⟩, hm3, hr3, hB3⟩
  ·obtain rfl : k = L := by omega
   have hge : ¬ (k : Int) < k := by omega
   go_wp2_with fail
   go_ret
   exact ⟨_, rfl, qs, hown, hqs, hB⟩
end
section
open Go.RowKit Go.Lib
def minL (ws : List Int) : Int := match ws with | [] => 0 | x :: xs => xs.foldl min x
theorem minL_snoc (ws : List Int) (x : Int) (h : ws ≠ []) : minL (ws ++ [x]) = min (minL ws) x := by
 cases ws with
 | nil => exact absurd rfl h
 | cons y ys => simp [minL, List.foldl_append]
theorem min_any (A : Option Addr) (n cap : Nat) (ws : List Int) (w : World) (hn : n ≤ 100000) (hp : 1 ≤ n) (hw : ∀ x ∈ ws, 0 ≤ x ∧ x ≤ 1000000) (hr : Rd w w.heap.size 1 A n (ws.map (Value.int .i64))) :
  Calls Tryz.prog 143 #[.slice A n cap] w fun e w' => e = .returned (.int .i64 (minL ws)) ∧ w = w' := by
 have hlen : ws.length = n := by simpa using hr.len
 obtain ⟨b0, off0, hz0, hA, hb0, hcell0⟩ := hr.atm (k := 0) (by omega)
 subst hA
 have htk1 : ws.take 1 = [ws[0]] := by cases ws with | nil => cases hz0 | cons x xs => rfl
 have hw0 := hw _ (List.getElem_mem hz0)
 generalize ws[0] = x0 at *
 have HL := Lib.hid hlen; have HW := Lib.hid hw; have HT1 := Lib.hid htk1; clear hlen hw htk1 hz0
 have hn1 : ¬ (n : Int) < 1 := by omega
 go_enter Tryz.func143, Tryz.ntmps143
 rw [Nat.add_zero] at hcell0
 go_wp2_with fail
 clear hcell0
 go_loop [3, 4] (fun t i => ∃ (k : Nat) (z : Int), 1 ≤ k ∧ k ≤ n ∧ i = .int .i64 k ∧ t = .int .i64 z ∧ Hid (z = minL (ws.take k)) ∧ 0 ≤ z ∧ z ≤ 1000000) (fun _ i => n - (Go.RowKit.intOf i).toNat)
 case atStart => exact ⟨1, x0, Nat.le_refl _, hp, rfl, rfl, Lib.hid (by rw [HT1.out]; rfl), by omega, by omega⟩
 case round =>
  obtain ⟨k, z, hk1, hk, rfl, rfl, hz, h0, h1⟩ := hrel
  by_cases hlt : k < n
  ·have hlti : (k : Int) < n := by omega
   obtain ⟨b, off, hzl, hA, hb, hcell⟩ := hr.atm hlt
   cases hA
   have htk : ws.take (k + 1) = ws.take k ++ [ws[k]] := List.take_succ_eq_append_getElem hzl
   have hx := HW.out _ (List.getElem_mem hzl)
   have hne : ws.take k ≠ [] := fun e => by have h7 := congrArg List.length e; rw [List.length_take, List.length_nil] at h7; have := HL.out; omega
   generalize ws[k] = x at *
   have HTK := Lib.hid htk; have HNE := Lib.hid hne; clear htk hzl hne
   have hmn : min z x = if z ≤ x then z else x := by simp only [Int.min_def]
   by_cases hzx : z ≤ x
   ·rw [if_pos hzx] at hmn
    have HMN := Lib.hid hmn; clear hmn
    go_wp2_with fail
    all_goals go_round
    all_goals first
     | (exact ⟨k + 1, _, by omega, by omega, by go_num, rfl, Lib.hid (by rw [HTK.out, minL_snoc _ _ HNE.out, ← hz.out, HMN.out]; try omega), by omega, by omega⟩)
     | (simp [Go.RowKit.intOf]; omega)
   ·rw [if_neg hzx] at hmn
    have HMN := Lib.hid hmn; clear hmn
    go_wp2_with fail
    all_goals go_round
    all_goals first
     | (exact ⟨k + 1, _, by omega, by omega, by go_num, rfl, Lib.hid (by rw [HTK.out, minL_snoc _ _ HNE.out, ← hz.out, HMN.out]; try omega), by omega, by omega⟩)
     | (simp [Go.RowKit.intOf]; omega)
  ·have hge : ¬ (k : Int) < n := by omega
   have he : z = minL ws := by
    have h := hz.out
    rwa [List.take_of_length_le (by have := HL.out; omega)] at h
   have HE := Lib.hid he; clear he
   go_wp2_with fail
   go_ret
   exact ⟨by rw [HE.out]; rfl, rfl⟩
def maxL (ws : List Int) : Int := match ws with | [] => 0 | x :: xs => xs.foldl max x
theorem maxL_snoc (ws : List Int) (x : Int) (h : ws ≠ []) : maxL (ws ++ [x]) = max (maxL ws) x := by
 cases ws with
 | nil => exact absurd rfl h
 | cons y ys => simp [maxL, List.foldl_append]
theorem max_any (A : Option Addr) (n cap : Nat) (ws : List Int) (w : World) (hn : n ≤ 100000) (hp : 1 ≤ n) (hw : ∀ x ∈ ws, 0 ≤ x ∧ x ≤ 1000000) (hr : Rd w w.heap.size 1 A n (ws.map (Value.int .i64))) :
  Calls Tryz.prog 144 #[.slice A n cap] w fun e w' => e = .returned (.int .i64 (maxL ws)) ∧ w = w' := by
 have hlen : ws.length = n := by simpa using hr.len
 obtain ⟨b0, off0, hz0, hA, hb0, hcell0⟩ := hr.atm (k := 0) (by omega)
 subst hA
 have htk1 : ws.take 1 = [ws[0]] := by cases ws with | nil => cases hz0 | cons x xs => rfl
 have hw0 := hw _ (List.getElem_mem hz0)
 generalize ws[0] = x0 at *
 have HL := Lib.hid hlen; have HW := Lib.hid hw; have HT1 := Lib.hid htk1; clear hlen hw htk1 hz0
 have hn1 : ¬ (n : Int) < 1 := by omega
 go_enter Tryz.func144, Tryz.ntmps144
 rw [Nat.add_zero] at hcell0
 go_wp2_with fail
 clear hcell0
 go_loop [3, 4] (fun t i => ∃ (k : Nat) (z : Int), 1 ≤ k ∧ k ≤ n ∧ i = .int .i64 k ∧ t = .int .i64 z ∧ Hid (z = maxL (ws.take k)) ∧ 0 ≤ z ∧ z ≤ 1000000) (fun _ i => n - (Go.RowKit.intOf i).toNat)
 case atStart => exact ⟨1, x0, Nat.le_refl _, hp, rfl, rfl, Lib.hid (by rw [HT1.out]; rfl), by omega, by omega⟩
 case round =>
  obtain ⟨k, z, hk1, hk, rfl, rfl, hz, h0, h1⟩ := hrel
  by_cases hlt : k < n
  ·have hlti : (k : Int) < n := by omega
   obtain ⟨b, off, hzl, hA, hb, hcell⟩ := hr.atm hlt
   cases hA
   have htk : ws.take (k + 1) = ws.take k ++ [ws[k]] := List.take_succ_eq_append_getElem hzl
   have hx := HW.out _ (List.getElem_mem hzl)
   have hne : ws.take k ≠ [] := fun e => by have h7 := congrArg List.length e; rw [List.length_take, List.length_nil] at h7; have := HL.out; omega
   generalize ws[k] = x at *
   have HTK := Lib.hid htk; have HNE := Lib.hid hne; clear htk hzl hne
   have hmn : max z x = if z ≤ x then x else z := by simp only [Int.max_def]
   by_cases hzx : z ≤ x
   ·rw [if_pos hzx] at hmn
    have HMN := Lib.hid hmn; clear hmn
    go_wp2_with fail
    all_goals go_round
    all_goals first
     | (exact ⟨k + 1, _, by omega, by omega, by go_num, rfl, Lib.hid (by rw [HTK.out, maxL_snoc _ _ HNE.out, ← hz.out, HMN.out]; try omega), by omega, by omega⟩)
     | (simp [Go.RowKit.intOf]; omega)
   ·rw [if_neg hzx] at hmn
    have HMN := Lib.hid hmn; clear hmn
    go_wp2_with fail
    all_goals go_round
    all_goals first
     | (exact ⟨k + 1, _, by omega, by omega, by go_num, rfl, Lib.hid (by rw [HTK.out, maxL_snoc _ _ HNE.out, ← hz.out, HMN.out]; try omega), by omega, by omega⟩)
     | (simp [Go.RowKit.intOf]; omega)
  ·have hge : ¬ (k : Int) < n := by omega
   have he : z = maxL ws := by
    have h := hz.out
    rwa [List.take_of_length_le (by have := HL.out; omega)] at h
   have HE := Lib.hid he; clear he
   go_wp2_with fail
   go_ret
   exact ⟨by rw [HE.out]; rfl, rfl⟩
end
section
open Go.RowKit Go.Lib Go.Maps
def farD (Q : List RT) (ws : List Int) : List Int := Q.map fun x => (edB x.l (lbS ws) : Int)
def farO (wn : Nat) (cs : List VC) (c : VC) (q : Nat) : List (Int × Int) := match c.ls[q]? with | some v => if v.lost then [] else [(minL (farD (leastQ wn q cs) v.ws), maxL (farD (leastQ wn q cs) v.ws))] | none => []
def farL (wn : Nat) (cs : List VC) (c : VC) (k : Nat) : List (Int × Int) := (List.range k).flatMap (farO wn cs c)
theorem farL_succ (wn : Nat) (cs : List VC) (c : VC) (k : Nat) : farL wn cs c (k + 1) = farL wn cs c k ++ farO wn cs c k := by unfold farL; rw [List.range_succ, List.flatMap_append]; simp
theorem minL_mem : ∀ ws : List Int, ws ≠ [] → minL ws ∈ ws := by
 refine revInd (p := fun ws => ws ≠ [] → minL ws ∈ ws) (fun h => absurd rfl h) ?_
 intro l x ih _
 cases l with
 | nil => simp [minL]
 | cons y ys =>
  rw [minL_snoc _ _ (by simp)]
  have := ih (by simp)
  rw [Int.min_def]
  split
  ·exact List.mem_append_left _ this
  ·exact List.mem_append_right _ (List.mem_singleton_self _)
theorem maxL_mem : ∀ ws : List Int, ws ≠ [] → maxL ws ∈ ws := by
 refine revInd (p := fun ws => ws ≠ [] → maxL ws ∈ ws) (fun h => absurd rfl h) ?_
 intro l x ih _
 cases l with
 | nil => simp [maxL]
 | cons y ys =>
  rw [maxL_snoc _ _ (by simp)]
  have := ih (by simp)
  rw [Int.max_def]
  split
  ·exact List.mem_append_right _ (List.mem_singleton_self _)
  ·exact List.mem_append_left _ this
structure FSt (w0 : World) (S mb N : Nat) (R : Value) (L : Nat) (qs : List LQ) (ls : List (List RT)) (x : Array Value) (W : World) : Prop where
 m : Memo W mb N
 row : W.ownsRow S 130 1 R L (qs.map LQ.val)
 lq : LQs W S qs ls
 bx : Blk W w0.heap.size 24 x
 bs : Blk W (w0.heap.size + 1) 66 #[.int .i64 0, .int .i64 0]
 bl : Below w0.heap.size w0 W
 sz : S ≤ W.heap.size
theorem FSt.next {w0 W W' : World} {S mb N L n : Nat} {R v : Value} {qs : List LQ} {ls : List (List RT)} {x : Array Value} {xs : List Value} (h : FSt w0 S mb N R L qs ls x W) (o : Obj) (ho : (W.alloc o).ownsRow S 3 1 v n xs) (hg : (W.alloc o).grownBy W' v.ownBlock) (hSm : mb < S) (hS0 : w0.heap.size ≤ S) : FSt w0 S mb N R L qs ls x W' :=
 ⟨(h.m.alloc o).kept hg (fun e => by have := (ho.lt mb e.symm).1; omega), (h.row.alloc o).kept hg (own_ne (h.row.alloc o) ho (by decide)), (h.lq.below (below_new W o)).kept ho (by decide) hg, (h.bx.alloc o).kept_own ho (by decide) hg, (h.bs.alloc o).kept_own ho (by decide) hg, (h.bl.alloc h.bl.size o).grown hg (by have := h.bl.size; rw [World.size_alloc]; omega) (fun z hz => by have := (ho.lt z hz).1; omega), by have := h.sz; have := hg.size; rw [World.size_alloc] at *; omega⟩
theorem own_sep {v v2 : Value} {B : Nat} (h : ∀ g, v.ownBlock = some g → B ≤ g) (h2 : ∀ g, v2.ownBlock = some g → g < B) : v.ownBlock = none ∨ v.ownBlock ≠ v2.ownBlock := by
 cases hv : v.ownBlock with
 | none => exact .inl rfl
 | some g => exact .inr (fun e => by have := h g hv; have := h2 g e.symm; omega)
theorem own_dis {v v2 : Value} (h : ∀ z, v.ownBlock = some z → v2.ownBlock ≠ some z) : v2.ownBlock = none ∨ v2.ownBlock ≠ v.ownBlock := by
 cases hv : v2.ownBlock with
 | none => exact .inl rfl
 | some g => exact .inr (fun e => h g e.symm hv)
theorem far_any {wn : Nat} {A : Option Addr} {n : Nat} (cap : Nat) {cs : List VC} (p : Nat) (c0 : VC) {w : World} (hb : BkG wn A n cs w w.heap.size) (hp : p < n) (hcp : cs[p]? = some c0) :
  Calls Tryz.prog 100 #[.agg #[.int .i64 (wn : Int), .slice A n cap], .int .i64 (p : Int)] w fun e w' => e = .returned (.agg #[.int .i64 (sumI ((farL wn cs c0 (headN cs)).map Prod.fst)), .int .i64 (sumI ((farL wn cs c0 (headN cs)).map Prod.snd))]) ∧ Below w.heap.size w w' := by
 obtain ⟨i3, hj, hy0, hy1', hy2'⟩ := info_parts info3
 have hmm := @run_makeMap Tryz.prog
 have hX := ((Blk.new w 24 #[.int .i64 (wn : Int), .slice A n cap]).alloc (.cells #[.int .i64 0, .int .i64 0] 66)).alloc (.map #[] 0)
 have hS := (blk2_1 w (.cells #[.int .i64 (wn : Int), .slice A n cap] 24) 66 #[.int .i64 0, .int .i64 0]).alloc (.map #[] 0)
 have hB : Below w.heap.size w (((w.alloc (.cells #[.int .i64 (wn : Int), .slice A n cap] 24)).alloc (.cells #[.int .i64 0, .int .i64 0] 66)).alloc (.map #[] 0)) := (((Below.refl _ w).alloc (Nat.le_refl _) _).alloc (by simp only [World.size_alloc]; omega) _).alloc (by simp only [World.size_alloc]; omega) _
 have hm0 := Memo.made ((w.alloc (.cells #[.int .i64 (wn : Int), .slice A n cap] 24)).alloc (.cells #[.int .i64 0, .int .i64 0] 66))
 have hsz : (((w.alloc (.cells #[.int .i64 (wn : Int), .slice A n cap] 24)).alloc (.cells #[.int .i64 0, .int .i64 0] 66)).alloc (.map #[] 0)).heap.size = w.heap.size + 3 := by simp only [World.size_alloc]
 have hlo := leastOf_any cap (hb.toW hB)
 have hcm : c0 ∈ cs := List.mem_of_getElem? hcp
 have hcl := (hb.2.2.2.2.2.1 c0 hcm)
 have hln := fun v hv => hb.2.2.2.2.2.2 c0 hcm v hv
 have hcr : ∀ wx, Below w.heap.size w wx → ∃ b off, A = some ⟨b, off, none⟩ ∧ wx.cell? ⟨b, off + p, none⟩ = some (.slice c0.A c0.n c0.cap) ∧ b < w.heap.size := fun wx hx => by
  obtain ⟨b, off, hz, rfl, hbb, hc⟩ := (hb.below hx).2.2.2.1.atm hp
  have e : cs[p] = c0 := by have := List.getElem?_eq_getElem hz; rw [hcp] at this; exact (Option.some.inj this).symm
  rw [e] at hc
  exact ⟨b, off, rfl, hc, hbb⟩
 have hok := fun (wx : World) (hx : Below w.heap.size w wx) => (hb.2.2.2.2.1 c0 hcm).below hx
 have hll := fun q => leastQ_le q cs hb.1.2
 have hlp := fun q => leastQ_pos wn q cs
 have hbd := fun q => leastQ_bd hb q
 have hL4 := hb.2.2.1
 rw [show ((w.alloc (.cells #[.int .i64 (wn : Int), .slice A n cap] 24)).alloc (.cells #[.int .i64 0, .int .i64 0] 66)).heap.size = w.heap.size + 1 + 1 by simp only [World.size_alloc]] at hm0
 obtain ⟨L, hL⟩ : ∃ L, L = headN cs := ⟨_, rfl⟩
 rw [← hL] at hlo hL4 hcl ⊢
 have HLO := Lib.hid hlo; have HCR := Lib.hid hcr; have HOK := Lib.hid hok; have HLL := Lib.hid hll; have HLP := Lib.hid hlp; have HBD := Lib.hid hbd; have HL := Lib.hid hL; have HLN := Lib.hid hln
 clear hlo hcr hok hll hlp hbd hL hln hcm hcp hb
 have qX := fun i => hX.cell i
 obtain ⟨K, hK⟩ : ∃ K, K = KK 8 := ⟨_, rfl⟩
 have HK := Lib.hid hK
 have hK8 : K = 488281 := by rw [hK, KK_8]
 clear hK
 go_enter Tryz.func100, Tryz.ntmps100
 go_wp2_with fail
 generalize ((w.alloc (.cells #[.int .i64 (wn : Int), .slice A n cap] 24)).alloc (.cells #[.int .i64 0, .int .i64 0] 66)).alloc (.map #[] 0) = S0 at *
 refine HLO.out.mono ?_
 rintro e w1 ⟨v, rfl, qs, hrow, hqs, hb1⟩
 obtain ⟨ra, rc, rfl⟩ := own_slice hrow
 obtain ⟨mb, hmb⟩ : ∃ mb, mb = w.heap.size + 1 + 1 := ⟨_, rfl⟩
 rw [← hmb] at hm0
 replace hX := hX.below hb1 hX.lt; replace hS := hS.below hb1 hS.lt; replace hm := hm0.below hb1; replace hB := hB.trans (hb1.mono hB.size)
 have hmw : w.heap.size + 1 < mb := by omega
 have hSw := hb1.size
 clear hb1 qX hm0 HLO
 obtain ⟨S, hS0⟩ : ∃ S, S = S0.heap.size := ⟨_, rfl⟩
 rw [← hS0] at hrow hqs hsz hSw
 have hSm : mb < S := by omega
 clear hS0
 have qX := fun i => hX.cell i
 go_wp2_with fail
 rw [← hmb]
 have HMB := Lib.hid hmb
 clear hmb qX
 go_loopg [5, 6, 18] L (fun g v5 v6 i wr => ∃ (k j : Nat) (lo hi : Value), g = L - k ∧ k ≤ L ∧ v5 = lo ∧ v6 = hi ∧ i = .int .i64 k ∧ j ≤ k ∧ Hid (j = (farL wn cs c0 k).length) ∧ wr.ownsRow S 3 1 lo j (intsV ((farL wn cs c0 k).map Prod.fst)) ∧ wr.ownsRow S 3 1 hi j (intsV ((farL wn cs c0 k).map Prod.snd)) ∧ Hid (∀ z, lo.ownBlock = some z → hi.ownBlock ≠ some z) ∧ Memo wr mb (k * 70000000) ∧ wr.ownsRow S 130 1 (.slice ra L rc) L (qs.map LQ.val) ∧ LQs wr S qs (leastLs wn cs L) ∧ Blk wr w.heap.size 24 #[.int .i64 (wn : Int), .slice A n cap] ∧ Blk wr (w.heap.size + 1) 66 #[.int .i64 0, .int .i64 0] ∧ Below w.heap.size w wr ∧ S ≤ wr.heap.size)
 case atStart => exact ⟨0, 0, _, _, rfl, Nat.zero_le _, rfl, rfl, rfl, Nat.le_refl _, Lib.hid rfl, World.ownsRow_nil _ _ _ _, World.ownsRow_nil _ _ _ _, Lib.hid (fun z hz => by cases hz), by simpa using hm, hrow, hqs, hX, hS, hB, hSw⟩
 case round =>
  clear hm hrow hqs hX hS hB
  obtain ⟨k, jo, lo, hi, hg, hk, rfl, rfl, rfl, hjk, hjl, hlo, hhi, hdis, hm, hrow, hqs, hX, hS, hB, hSz⟩ := hrel
  rename World => wr
  obtain ⟨la, lc, rfl⟩ := own_slice hlo
  obtain ⟨ha, hc, rfl⟩ := own_slice hhi
  have HG := Lib.hid hg; clear hg
  by_cases hlt : k < L
  ·have hlti : (k : Int) < L := by omega
   obtain ⟨b, off, hz, e, hbb, hcq⟩ := (Rd.of_own hrow).atm hlt
   cases e
   have hqk := hqs.2 _ (List.getElem_mem hz)
   have hqx : qs[k].xs = leastQ wn k cs := by
    have h := congrArg (fun l => l[k]?) hqs.1
    simp only [List.getElem?_map, List.getElem?_eq_getElem hz, leastLs, List.getElem?_range hlt, Option.map_some] at h
    exact Option.some.inj h
   obtain ⟨cb, coff, hA, hcc, hcbl⟩ := HCR.out wr hB
   have hck := HOK.out wr hB
   obtain ⟨b2, off2, hz2, hA2, hb2, hd0, hd1⟩ := hck.2.2.2.at2 (show k < c0.n by omega)
   have hvok := hck.2.2.1 _ (List.getElem_mem hz2)
   have hvl := HLN.out _ (List.getElem_mem hz2)
   have hfs := farL_succ wn cs c0 k
   have hfo : farO wn cs c0 k = if (c0.ls[k]).lost then [] else [(minL (farD (leastQ wn k cs) (c0.ls[k]).ws), maxL (farD (leastQ wn k cs) (c0.ls[k]).ws))] := by unfold farO; rw [List.getElem?_eq_getElem hz2]
   generalize qs[k] = q at *
   generalize c0.ls[k] = vl at *
   obtain ⟨lost, vA, vn, vc, vws⟩ := vl
   obtain ⟨qA, qn, qc, Q⟩ := q
   dsimp only at hqx hqk hd0 hd1 hvok hvl hfo
   dsimp only [LQ.val] at hcq hqk
   have hQl := HLL.out k; have hQp := HLP.out k; have hQb := HBD.out k
   rw [← hqx] at hQl hQp hQb hfo
   rw [← hqk.2] at hQl hQp
   have HQN := Lib.hid hqk.2; have hqo := hqk.1
   clear hqk
   have HQB := Lib.hid hQb; have HQX := Lib.hid hqx
   clear hqx hQb
   subst hA
   rw [hA2] at hcc
   have hcl1 := hcl.1
   have qX := fun i => hX.cell i
   have hXl := hX.lt
   have hfn := fun (W : World) => (Blk.new W 76 #[.bool lost, .slice vA vn vc]).frozen 0
   have HFS := Lib.hid hfs; clear hfs
   cases lost
   ·rw [if_neg (by decide)] at hfo
    have HFO := Lib.hid hfo; clear hfo
    go_wp2_with fail
    obtain ⟨b10, hb10⟩ : ∃ b10, b10 = wr.heap.size := ⟨_, rfl⟩
    have hT0 := Blk.new wr 76 #[.bool false, .slice vA vn vc]
    have hm1 := hm.alloc (.cells #[.bool false, .slice vA vn vc] 76)
    have a1 := hlo.alloc (.cells #[.bool false, .slice vA vn vc] 76)
    have a2 := hhi.alloc (.cells #[.bool false, .slice vA vn vc] 76)
    have aq := hqo.alloc (.cells #[.bool false, .slice vA vn vc] 76)
    have arow := hrow.alloc (.cells #[.bool false, .slice vA vn vc] 76)
    have aqs := hqs.below (below_new wr (.cells #[.bool false, .slice vA vn vc] 76))
    have aX := hX.alloc (.cells #[.bool false, .slice vA vn vc] 76)
    have aS := hS.alloc (.cells #[.bool false, .slice vA vn vc] 76)
    have aB := hB.alloc hB.size (.cells #[.bool false, .slice vA vn vc] 76)
    have hvr1 := hvok.2.2.below ((below_new wr (.cells #[.bool false, .slice vA vn vc] 76)).mono hB.size)
    rw [← hb10] at hT0 ⊢
    have hW1s : (wr.alloc (.cells #[.bool false, .slice vA vn vc] 76)).heap.size = b10 + 1 := by rw [World.size_alloc, hb10]
    have hb10S : S ≤ b10 := by omega
    clear hb10 hm hlo hhi hqo hrow hqs hX hS hB qX hXl hfn hcc hcq hd0 hd1
    generalize wr.alloc (.cells #[.bool false, .slice vA vn vc] 76) = W1 at *
    obtain ⟨W1s, hW1e⟩ : ∃ W1s, W1s = W1.heap.size := ⟨_, rfl⟩
    have hG0 := GB.refl W1.heap.size mb W1
    rw [← hW1e] at hW1s hG0
    obtain ⟨N0, hN0⟩ : ∃ N0, N0 = k * 70000000 := ⟨_, rfl⟩
    rw [← hN0] at hm1
    have HN0 := Lib.hid hN0; clear hN0
    have hN0b : N0 ≤ 280000000 := by rw [HN0.out]; omega
    have HVW : Hid (∀ x ∈ vws, 0 ≤ x ∧ x ≤ 255) := Lib.hid hvl.2.2
    have hvn := hvl.1
    have hvws := hvl.2.1
    have HVR : Hid (∀ wx, GB W1s mb W1 wx → Rd wx wx.heap.size 1 vA vn (vws.map (Value.int .i64))) := Lib.hid (fun wx hx => by
      have hx2 : Below w.heap.size W1 wx := hx.below (by omega) (by omega)
      exact (hvr1.below hx2).more (by have := aB.size; have := hx.size; omega))
    clear hvok hvr1 hvl
    go_loopg [11, 35] qn (fun g v i wr => ∃ (j : Nat) (v0 : Value), g = qn - j ∧ j ≤ qn ∧ v = v0 ∧ i = .int .i64 j ∧ wr.ownsRow W1s 3 1 v0 j (intsV ((farD Q vws).take j)) ∧ Memo wr mb (N0 + j * K) ∧ GB W1s mb W1 wr)
    case atStart => exact ⟨0, _, rfl, Nat.zero_le _, rfl, rfl, World.ownsRow_nil _ _ _ _, by rw [Nat.zero_mul, Nat.add_zero]; exact hm1, hG0⟩
    case round =>
     obtain ⟨j, v0, hg, hjq, rfl, rfl, hown, hm, hG⟩ := hrel
     rename World => WR
     have HG2 := Lib.hid hg; clear hg
     obtain ⟨va, vcp, rfl⟩ := own_slice hown
     by_cases hjq2 : j < qn
     ·have hji : (j : Int) < qn := by omega
      have hGW : GB W1.heap.size mb W1 WR := by rw [← hW1e]; exact hG
      obtain ⟨rb, roff, hzr, e, hrb, hr0, hr1⟩ := (Rd.of_own (own_gbm aq hGW hm1)).elRT hjq2
      have hqb := HQB.out _ (List.getElem_mem hzr)
      have hts : (farD Q vws).take (j + 1) = (farD Q vws).take j ++ [(edB (Q[j]).l (lbS vws) : Int)] := by
       have hz3 : j < (farD Q vws).length := by unfold farD; rw [List.length_map]; exact hzr
       rw [List.take_succ_eq_append_getElem hz3]
       simp [farD]
      have HTS := Lib.hid hts; clear hts
      simp only [RT.cells, List.getElem_cons_zero, List.getElem_cons_succ] at hr0 hr1
      generalize Q[j] = r at *
      obtain ⟨l, c⟩ := r
      dsimp only at hr0 hr1 hqb HTS
      cases e
      obtain ⟨ys, hys⟩ : ∃ ys, ys = intsV ((farD Q vws).take j) := ⟨_, rfl⟩
      rw [← hys] at hown
      obtain ⟨d, hd⟩ : ∃ d : Nat, d = edB l (lbS vws) := ⟨_, rfl⟩
      have hd8 : d ≤ 8 := by rw [hd]; exact edB_le8 l (lbS vws) hqb.1 (by rw [lbS_size]; exact hvws)
      have HD := Lib.hid hd; have HYS := Lib.hid hys
      have HSZ : Hid (l.size + (lbS vws).size ≤ 8 ∧ l.size ≤ 1000 ∧ (lbS vws).size ≤ 1000) := Lib.hid (by rw [lbS_size]; have := hqb.1; omega)
      have hjK : j * K ≤ 121 * K := Nat.mul_le_mul_right _ (by omega)
      have hsK : (j + 1) * K = j * K + K := Nat.succ_mul j K
      have HKL : Hid (N0 + j * K + KK 8 ≤ maxLen) := Lib.hid (by rw [← HK.out]; unfold maxLen; omega)
      have HKN : Hid (N0 + j * K + KK 8 = N0 + (j + 1) * K) := Lib.hid (by rw [← HK.out]; omega)
      have hT := hT0.gb hGW (by omega)
      clear hd hys hjK hsK hqb hzr
      have hfn := fun (W : World) => (Blk.new W 136 #[.string l, .int .i64 c]).frozen 0
      go_wp2_with fail
      obtain ⟨b13, hb13⟩ : ∃ b13, b13 = WR.heap.size := ⟨_, rfl⟩
      have hR := Blk.new WR 136 #[.string l, .int .i64 c]
      have hG1s := hG.size
      replace hT := hT.alloc (.cells #[.string l, .int .i64 c] 136); replace hown := hown.alloc (.cells #[.string l, .int .i64 c] 136); replace hm := hm.alloc (.cells #[.string l, .int .i64 c] 136); replace hG := hG.alloc (by omega) (.cells #[.string l, .int .i64 c] 136)
      rw [← hb13] at hR ⊢
      have hb13m : mb < b13 := by omega
      clear hb13 hfn hr0 hr1
      generalize WR.alloc (.cells #[.string l, .int .i64 c] 136) = WR at *
      rename World => WR
      refine wp_region_G (fun w' => Blk w' b10 76 #[.bool false, .slice vA vn vc] ∧ Blk w' b13 136 #[.string l, .int .i64 c]) 11 (by kernel_rfl) ?_
      replace hT := hT.drew; replace hR := hR.drew; replace hown := hown.drew; replace hm : Memo WR.drew mb (N0 + j * K) := hm; replace hG := hG.drew
      generalize WR.drew = WD at *
      have hTT : Blk WD b10 76 #[.bool false, .slice vA vn vc] ∧ Blk WD b13 136 #[.string l, .int .i64 c] := ⟨hT, hR⟩
      refine tk 0 (v := ?_) rfl (Or.inl ⟨by rfl, ?h⟩) hTT ?_
      case h => intro wq hSw; have q0 := fun i => hSw.1.cell i; have q1 := fun i => hSw.2.cell i; go_simp <;> with_reducible rfl
      simp only [LS, Act.put]
      refine tk 1 (v := ?_) rfl (Or.inl ⟨by rfl, ?h⟩) hTT ?_
      case h => intro wq hSw; have q0 := fun i => hSw.1.cell i; have q1 := fun i => hSw.2.cell i; go_simp <;> with_reducible rfl
      simp only [LS, Act.put]
      refine tk 2 (v := ?_) rfl (Or.inl ⟨by rfl, ?h⟩) hTT ?_
      case h => intro wq hSw; have q0 := fun i => hSw.1.cell i; have q1 := fun i => hSw.2.cell i; go_simp <;> with_reducible rfl
      simp only [LS, Act.put]
      refine tk 3 (v := ?_) rfl (Or.inl ⟨by rfl, ?h⟩) hTT ?_
      case h => intro wq hSw; have q0 := fun i => hSw.1.cell i; have q1 := fun i => hSw.2.cell i; go_simp <;> with_reducible rfl
      simp only [LS, Act.put]
      refine tk 4 (v := ?_) rfl (Or.inl ⟨by rfl, ?h⟩) hTT ?_
      case h => intro wq hSw; have q0 := fun i => hSw.1.cell i; have q1 := fun i => hSw.2.cell i; go_simp <;> with_reducible rfl
      simp only [LS, Act.put]
      refine tk 5 (v := ?_) rfl (Or.inl ⟨by rfl, ?h⟩) hTT ?_
      case h => intro wq hSw; have q0 := fun i => hSw.1.cell i; have q1 := fun i => hSw.2.cell i; go_simp <;> with_reducible rfl
      simp only [LS, Act.put]
      refine o1 6 rfl fun K hK => ?_
      go_simp
      refine (lineOf_any vA vn vc vws WD (by omega) HVW.out (HVR.out WD hG)).mono ?_
      rintro e w3 ⟨rfl, hb3⟩
      replace hT := hT.below hb3 hT.lt; replace hR := hR.below hb3 hR.lt; replace hown := ownsRow_below' hown hb3; replace hm := hm.below hb3; replace hG := hG.call (GB.of_below hb3) (by have := hG.size; omega); replace hTT := And.intro hT hR
      clear hb3
      refine hK _ _ (.inr hTT) ?_
      clear hK K
      try simp only [LS, Act.put]
      refine tk 7 (v := ?_) rfl (Or.inl ⟨by rfl, ?h⟩) hTT ?_
      case h => intro wq hSw; have q0 := fun i => hSw.1.cell i; have q1 := fun i => hSw.2.cell i; go_simp <;> with_reducible rfl
      simp only [LS, Act.put]
      refine o1 8 rfl fun K hK => ?_
      go_simp
      refine (changes_any 8 l (lbS vws) mb _ _ HSZ.out.1 HSZ.out.2.1 HSZ.out.2.2 hm HKL.out).mono ?_
      rintro e w4 ⟨rfl, hm4, hg4⟩
      replace hT := hT.gb hg4 (by omega); replace hR := hR.gb hg4 (by omega); replace hown := own_gb hown hg4 (by omega); replace hG := hG.call hg4 (by have := hG.size; omega); replace hTT := And.intro hT hR
      clear hg4 hm
      rw [← HD.out]
      refine hK _ _ (.inr hTT) ?_
      clear hK K
      try simp only [LS, Act.put]
      refine o1 9 rfl fun K hK => ?_
      go_simp
      replace hT := hT.alloc (.cells #[.int .i64 (d : Int)] 3); replace hR := hR.alloc (.cells #[.int .i64 (d : Int)] 3); replace hown := hown.alloc (.cells #[.int .i64 (d : Int)] 3); replace hm4 := hm4.alloc (.cells #[.int .i64 (d : Int)] 3); replace hG := hG.alloc (by have := hG.size; omega) (.cells #[.int .i64 (d : Int)] 3); replace hTT := And.intro hT hR
      have hn3 := Blk.new w4 3 #[.int .i64 (d : Int)]
      refine hK _ _ (.inr hTT) ?_
      clear hK K
      try simp only [LS, Act.put]
      refine o1 10 rfl fun K hK => ?_
      rw [if_pos (by rfl)]
      refine wp_append_any _ _ _ 25 rfl W1s 3 i3 (.int .i64 0) 1 8 Tryz.underlying25 hj hy0 hy1' hy2' rfl (by decide) (.slice va j vcp) j ys rfl hown (w4.heap.size + 1) (some ⟨w4.heap.size, 0, none⟩) 1 1 [.int .i64 (d : Int)] rfl (Rd.blkN hn3 rfl (Nat.lt_succ_self _)).reads (by simp [Value.oneCell']) (by unfold maxLen; omega) (by omega) (by have := hG.size; omega) (fun v' w5 hown' hgrow hob => ?_)
      have hlo := fun z hz => (hown.lt z hz).1
      have hm5 := hm4.kept hgrow (fun e => by have := hlo mb e.symm; omega)
      replace hT := hT.grown hgrow (fun e => by have := hlo _ e.symm; omega)
      replace hR := hR.kept_own hown (by decide) hgrow
      replace hG := GB.row hG hgrow (by have := hG.size; omega) (fun k hk => hlo k hk)
      replace hTT := And.intro hT hR
      clear hn3 hown hm4
      refine hK _ _ (.inr hTT) ?_
      clear hK K
      try simp only [LS, Act.put]
      refine o1 11 rfl fun K hK => ?_
      go_simp
      refine hK _ _ (.inl rfl) ?_
      clear hK K
      try simp only [LS, Act.put]
      refine wpG_done (by kernel_rfl) ?_ _
      clear hTT
      rw [HKN.out] at hm5
      go_wp2_with fail
      go_roundg (qn - (j + 1))
      case measure => rw [HG2.out]; omega
      case rel => exact ⟨j + 1, v', rfl, by omega, rfl, by go_num, by rw [HTS.out, intsV, List.map_append]; rw [← intsV, ← HYS.out, ← HD.out]; exact hown', hm5, hG⟩
     ·obtain rfl : j = qn := by omega
      have hge : ¬ (j : Int) < j := by omega
      have hfl : (farD Q vws).length = j := by unfold farD; rw [List.length_map, ← HQN.out]
      rw [List.take_of_length_le (by rw [hfl]; exact Nat.le_refl _)] at hown
      have hGW : GB W1.heap.size mb W1 WR := by rw [← hW1e]; exact hG
      have hWs := hGW.size
      have b1 := own_gbm a1 hGW hm1; have b2' := own_gbm a2 hGW hm1; have brow := own_gbm arow hGW hm1; have bqs := aqs.gbm hGW hm1; have bX := aX.gbm hGW hm1; have bS := aS.gbm hGW hm1
      have bB := below_gb aB hGW (by omega) aB.size
      have hsa : ∀ g, (Value.slice va j vcp).ownBlock = some g → W1s ≤ g := fun g hg => (hown.lt g hg).1
      have hsl : ∀ g, (Value.slice la jo lc).ownBlock = some g → g < W1s := fun g hg => by rw [hW1e]; exact (a1.lt g hg).2
      have hsh : ∀ g, (Value.slice ha jo hc).ownBlock = some g → g < W1s := fun g hg => by rw [hW1e]; exact (a2.lt g hg).2
      have hD8 : ∀ x ∈ farD Q vws, 0 ≤ x ∧ x ≤ 1000000 := fun x hx => by
       obtain ⟨r, hr, rfl⟩ := List.mem_map.1 hx
       have := edB_le8 r.l (lbS vws) (HQB.out r hr).1 (by rw [lbS_size]; exact hvws)
       omega
      obtain ⟨mn, hmn⟩ : ∃ mn, mn = minL (farD Q vws) := ⟨_, rfl⟩
      obtain ⟨mx, hmx⟩ : ∃ mx, mx = maxL (farD Q vws) := ⟨_, rfl⟩
      rw [← hmn, ← hmx] at HFO
      obtain ⟨D, hDD⟩ : ∃ D, D = farD Q vws := ⟨_, rfl⟩
      rw [← hDD] at hown hD8 hmn hmx
      obtain ⟨yl, hyl⟩ : ∃ yl, yl = intsV ((farL wn cs c0 k).map Prod.fst) := ⟨_, rfl⟩
      obtain ⟨yh, hyh⟩ : ∃ yh, yh = intsV ((farL wn cs c0 k).map Prod.snd) := ⟨_, rfl⟩
      rw [← hyl] at b1; rw [← hyh] at b2'
      have HMN := Lib.hid hmn; have HMX := Lib.hid hmx; have HYL := Lib.hid hyl; have HYH := Lib.hid hyh; have HD8 := Lib.hid hD8
      have HSA := Lib.hid hsa; have HSL := Lib.hid hsl; have HSH := Lib.hid hsh
      clear hmn hmx hyl hyh hD8 hsa hsl hsh hDD hm1 a1 a2 aq arow aqs aX aS aB hT0 hG0
      have hmin := min_any va j vcp D WR (by omega) hQp HD8.out (Rd.of_own hown)
      rw [← HMN.out] at hmin
      have HMIN := Lib.hid hmin; clear hmin
      clear hvws hvn HVW HVR
      go_wp2_with fail
      refine HMIN.out.mono ?_; rintro e w3 ⟨rfl, rfl⟩
      clear HMIN
      have hbl := b1.alloc (.cells #[.int .i64 mn] 3)
      have hnl := Blk.new WR 3 #[.int .i64 mn]
      have hownA := hown.alloc (.cells #[.int .i64 mn] 3)
      have hSl : S ≤ (WR.alloc (.cells #[.int .i64 mn] 3)).heap.size := by rw [World.size_alloc]; omega
      have HTL : Hid (jo + 1 ≤ maxLen ∧ (jo + 1) * 8 ≤ 140737488355328) := Lib.hid ⟨by unfold maxLen; omega, by omega⟩
      have hF : FSt w S mb (N0 + j * K) (.slice (some ⟨b, off, none⟩) L rc) L qs (leastLs wn cs L) #[.int .i64 (wn : Int), .slice (some ⟨cb, coff, none⟩) n cap] WR := ⟨hm, brow, bqs, bX, bS, bB, by omega⟩
      clear brow bqs bX bS bB hm
      go_wp2_with (first
        | (at_builtin; refine wpList_append_any _ rfl _ _ 25 rfl S 3 i3 (.int .i64 0) 1 8 Tryz.underlying25 hj hy0 hy1' hy2' rfl (by decide) (.slice la jo lc) jo yl rfl hbl (WR.heap.size + 1) (some ⟨WR.heap.size, 0, none⟩) 1 1 [.int .i64 mn] rfl (Rd.blkN hnl rfl (Nat.lt_succ_self _)).reads (by simp [Value.oneCell']) HTL.out.1 HTL.out.2 hSl (fun v5 w5 ho5 hgr5 hob5 => ?_)))
      have hownB := hownA.kept hgr5 (own_sep HSA.out HSL.out)
      have hF5 := hF.next _ hbl hgr5 hSm (by omega)
      have hb25 := (b2'.alloc (.cells #[.int .i64 mn] 3)).kept hgr5 (own_dis hdis.out)
      have hdis5 : ∀ z, v5.ownBlock = some z → (Value.slice ha jo hc).ownBlock ≠ some z := fun z hz => by
       rcases hob5 with e | e
       ·exact hdis.out z (by rw [← e]; exact hz)
       ·intro e2
        have h8 := HSH.out z e2
        rw [e, World.size_alloc] at hz
        injection hz with hz
        omega
      have hmax := max_any va j vcp D w5 (by omega) hQp HD8.out (Rd.of_own hownB)
      rw [← HMX.out] at hmax
      have HMAX := Lib.hid hmax
      have HD5 := Lib.hid hdis5
      clear hmax hdis5 hownA hownB hown hnl hbl hSl hF b1 b2'
      go_wp2_with fail
      refine HMAX.out.mono ?_; rintro e w7 ⟨rfl, rfl⟩
      clear HMAX
      have hbh := hb25.alloc (.cells #[.int .i64 mx] 3)
      have hnh := Blk.new w5 3 #[.int .i64 mx]
      have hSl : S ≤ (w5.alloc (.cells #[.int .i64 mx] 3)).heap.size := by have := hF5.sz; rw [World.size_alloc]; omega
      go_wp2_with (first
        | (at_builtin; refine wpList_append_any _ rfl _ _ 25 rfl S 3 i3 (.int .i64 0) 1 8 Tryz.underlying25 hj hy0 hy1' hy2' rfl (by decide) (.slice ha jo hc) jo yh rfl hbh (w5.heap.size + 1) (some ⟨w5.heap.size, 0, none⟩) 1 1 [.int .i64 mx] rfl (Rd.blkN hnh rfl (Nat.lt_succ_self _)).reads (by simp [Value.oneCell']) HTL.out.1 HTL.out.2 hSl (fun v6 w6 ho6 hgr6 hob6 => ?_)))
      have hF6 := hF5.next _ hbh hgr6 hSm (by omega)
      have ho56 := (ho5.alloc (.cells #[.int .i64 mx] 3)).kept hgr6 (own_dis (v := .slice ha jo hc) (v2 := v5) (fun z hz hz5 => HD5.out z hz5 hz))
      have hdis6 : ∀ z, v5.ownBlock = some z → v6.ownBlock ≠ some z := fun z hz => by
       rcases hob6 with e | e
       ·rw [e]; exact HD5.out z hz
       ·intro e2
        have h8 := (ho5.lt z hz).2
        rw [e, World.size_alloc] at e2
        injection e2 with e2
        omega
      go_roundg (L - (k + 1))
      case measure => rw [HG.out]; omega
      case rel => exact ⟨k + 1, jo + 1, v5, v6, rfl, by omega, rfl, rfl, by go_num, by omega, Lib.hid (by rw [HFS.out, HFO.out, List.length_append, ← hjl.out]; rfl), by rw [HFS.out, HFO.out, List.map_append, intsV, List.map_append, ← intsV, ← HYL.out]; exact ho56, by rw [HFS.out, HFO.out, List.map_append, intsV, List.map_append, ← intsV, ← HYH.out]; exact ho6, Lib.hid hdis6, hF6.m.mono (by rw [HN0.out, hK8]; omega), hF6.row, hF6.lq, hF6.bx, hF6.bs, hF6.bl, hF6.sz⟩
   ·rw [if_pos rfl] at hfo
    have HFO := Lib.hid hfo; clear hfo
    go_wp2_with fail
    have a1 := hlo.alloc (.cells #[.bool true, .slice vA vn vc] 76)
    have a2 := hhi.alloc (.cells #[.bool true, .slice vA vn vc] 76)
    have am := hm.alloc (.cells #[.bool true, .slice vA vn vc] 76)
    go_roundg (L - (k + 1))
    case measure => rw [HG.out]; omega
    case rel => exact ⟨k + 1, jo, _, _, rfl, by omega, rfl, rfl, by go_num, by omega, Lib.hid (by rw [HFS.out, HFO.out, List.append_nil]; exact hjl.out), by rw [HFS.out, HFO.out, List.append_nil]; exact a1, by rw [HFS.out, HFO.out, List.append_nil]; exact a2, hdis, am.mono (by omega), hrow.alloc _, hqs.below (below_new _ _), hX.alloc _, hS.alloc _, hB.alloc hB.size _, by rw [World.size_alloc]; omega⟩
  ·obtain rfl : k = L := by omega
   have hge : ¬ (k : Int) < k := by omega
   have hbd : ∀ x ∈ farL wn cs c0 k, (0 ≤ x.1 ∧ x.1 ≤ 1000000) ∧ 0 ≤ x.2 ∧ x.2 ≤ 1000000 := fun x hx => by
    unfold farL at hx
    obtain ⟨q, hq, hx⟩ := List.mem_flatMap.1 hx
    unfold farO at hx
    split at hx
    ·rename_i vl hvl0
     split at hx
     ·cases hx
     ·rw [List.mem_singleton.1 hx]
      have hv := HLN.out vl (List.mem_of_getElem? hvl0)
      have hD : ∀ y ∈ farD (leastQ wn q cs) vl.ws, 0 ≤ y ∧ y ≤ 8 := fun y hy => by
       obtain ⟨r, hr, rfl⟩ := List.mem_map.1 hy
       have := edB_le8 r.l (lbS vl.ws) (HBD.out q r hr).1 (by rw [lbS_size]; exact hv.2.1)
       omega
      have hne : farD (leastQ wn q cs) vl.ws ≠ [] := fun e => by have h5 := congrArg List.length e; unfold farD at h5; rw [List.length_map, List.length_nil] at h5; have := HLP.out q; omega
      have h1 := hD _ (minL_mem _ hne)
      have h2 := hD _ (maxL_mem _ hne)
      dsimp only
      omega
    ·cases hx
   have hs1 := sum_any la jo lc ((farL wn cs c0 k).map Prod.fst) wr (by omega) (fun x hx => by obtain ⟨y, hy, rfl⟩ := List.mem_map.1 hx; exact (hbd y hy).1) (Rd.of_own hlo)
   have hs2 := sum_any ha jo hc ((farL wn cs c0 k).map Prod.snd) wr (by omega) (fun x hx => by obtain ⟨y, hy, rfl⟩ := List.mem_map.1 hx; exact (hbd y hy).2) (Rd.of_own hhi)
   obtain ⟨s1, hs1e⟩ : ∃ s1, s1 = sumI ((farL wn cs c0 k).map Prod.fst) := ⟨_, rfl⟩
   obtain ⟨s2, hs2e⟩ : ∃ s2, s2 = sumI ((farL wn cs c0 k).map Prod.snd) := ⟨_, rfl⟩
   rw [← hs1e] at hs1; rw [← hs2e] at hs2
   have HS1 := Lib.hid hs1; have HS2 := Lib.hid hs2; have HE1 := Lib.hid hs1e; have HE2 := Lib.hid hs2e
   clear hs1 hs2 hs1e hs2e hbd hlo hhi hm hrow hqs
   have q66 := fun i => hS.cell i; have f66 := fun i => hS.frozen i; have l66 := hS.lt
   go_wp2_with fail
   refine HS1.out.mono ?_; rintro e w7 ⟨rfl, rfl⟩
   go_wp2_with fail
   refine HS2.out.mono ?_; rintro e w7 ⟨rfl, rfl⟩
   go_wp2_with fail
   have G : Blk ((wr.setCell ⟨w.heap.size + 1, 0, none⟩ (.int .i64 s1)).setCell ⟨w.heap.size + 1, 1, none⟩ (.int .i64 s2)) (w.heap.size + 1) 66 #[.int .i64 s1, .int .i64 s2] := by simpa using (hS.set_ 0 (.int .i64 s1)).set_ 1 (.int .i64 s2)
   have qG := fun i => G.cell i
   refine bodyPost_ret (v := .agg #[.int .i64 s1, .int .i64 s2]) (by simp [results, Tryz.results100, go_sem, qG]) rfl ⟨by rw [HE1.out, HE2.out], (hB.setCell (p := ⟨w.heap.size + 1, 0, none⟩) (show w.heap.size ≤ w.heap.size + 1 by omega) (.int .i64 s1)).setCell (p := ⟨w.heap.size + 1, 1, none⟩) (show w.heap.size ≤ w.heap.size + 1 by omega) (.int .i64 s2)⟩
end
section
open Go.RowKit Go.Lib Go.Maps
theorem Far_yes {wn : Nat} {A : Option Addr} {n : Nat} (cap : Nat) {cs : List VC} (p : Nat) (c0 : VC) {w : World} (hb : BkG wn A n cs w w.heap.size) (h1 : bookB (wn : Int) cs = true) (hp : p < n) (hcp : cs[p]? = some c0) :
  Calls Tryz.prog 52 #[.agg #[.int .i64 (wn : Int), .slice A n cap], .int .i64 (p : Int)] w fun e w' => e = .returned (.tuple #[.agg #[.int .i64 (sumI ((farL wn cs c0 (headN cs)).map Prod.fst)), .int .i64 (sumI ((farL wn cs c0 (headN cs)).map Prod.snd))], .int .i64 0]) ∧ Below w.heap.size w w' := by
 have hX := (Blk.new w 24 #[.int .i64 (wn : Int), .slice A n cap]).alloc (.cells #[.int .i64 0, .int .i64 0] 66)
 have hS := blk2_1 w (.cells #[.int .i64 (wn : Int), .slice A n cap] 24) 66 #[.int .i64 0, .int .i64 0]
 have hB : Below w.heap.size w ((w.alloc (.cells #[.int .i64 (wn : Int), .slice A n cap] 24)).alloc (.cells #[.int .i64 0, .int .i64 0] 66)) := ((Below.refl _ w).alloc (Nat.le_refl _) _).alloc (by simp only [World.size_alloc]; omega) _
 have qX := fun i => hX.cell i
 have hgb := fun (wx : World) (hx : Below w.heap.size w wx) => goodBook_any (wn : Int) A n cap cs wx (by have := hb.2.1.2; unfold maxLen; omega) (rdB hb.2.2.2.1 hx) (fun c h => okB (hb.2.2.2.2.1 c h) hx)
 simp only [h1] at hgb
 have hhc := fun (wx : World) (hx : Below w.heap.size w wx) => hasCopy_any (wn : Int) (p : Int) A n cap wx (by have := hb.2.1.2; omega)
 have hin : inB (p : Int) 0 ((n : Int) - 1) = true := by simp [inB]; omega
 simp only [hin] at hhc
 have hfa := fun (wx : World) (hx : Below w.heap.size w wx) => far_any cap p c0 (hb.toW hx) hp hcp
 obtain ⟨s1, hs1e⟩ : ∃ s1, s1 = sumI ((farL wn cs c0 (headN cs)).map Prod.fst) := ⟨_, rfl⟩
 obtain ⟨s2, hs2e⟩ : ∃ s2, s2 = sumI ((farL wn cs c0 (headN cs)).map Prod.snd) := ⟨_, rfl⟩
 simp only [← hs1e, ← hs2e] at hfa ⊢
 have HGB := Lib.hid hgb; have HHC := Lib.hid hhc; have HFA := Lib.hid hfa
 clear hgb hhc hfa hs1e hs2e h1 hb hin hcp
 go_enter Tryz.func52, Tryz.ntmps52
 go_wp2_with fail
 refine (HGB.out _ hB).mono ?_; rintro e w1 ⟨rfl, hb⟩; replace hX := hX.below hb hX.lt; replace hS := hS.below hb hS.lt; replace hB := hB.trans (hb.mono hB.size); clear hb qX; have qX := fun i => hX.cell i
 go_wp2_with fail
 refine (HHC.out _ hB).mono ?_; rintro e w2 ⟨rfl, hb⟩; replace hX := hX.below hb hX.lt; replace hS := hS.below hb hS.lt; replace hB := hB.trans (hb.mono hB.size); clear hb qX; have qX := fun i => hX.cell i
 have hlX := hX.lt
 go_wp2_with fail
 refine (HFA.out _ hB).mono ?_; rintro e w3 ⟨rfl, hb⟩; replace hS := hS.below hb hS.lt; replace hB := hB.trans (hb.mono hB.size); clear hb qX hX hlX
 have q66 := fun i => hS.cell i; have f66 := fun i => hS.frozen i; have l66 := hS.lt
 go_wp2_with fail
 have G : Blk ((w3.setCell ⟨w.heap.size + 1, 0, none⟩ (.int .i64 s1)).setCell ⟨w.heap.size + 1, 1, none⟩ (.int .i64 s2)) (w.heap.size + 1) 66 #[.int .i64 s1, .int .i64 s2] := by simpa using (hS.set_ 0 (.int .i64 s1)).set_ 1 (.int .i64 s2)
 have qG := fun i => G.cell i
 refine bodyPost_ret (v := .tuple #[.agg #[.int .i64 s1, .int .i64 s2], .int .i64 0]) (by simp [results, Tryz.results52, go_sem, qG]) rfl ⟨rfl, (hB.setCell (p := ⟨w.heap.size + 1, 0, none⟩) (show w.heap.size ≤ w.heap.size + 1 by omega) (.int .i64 s1)).setCell (p := ⟨w.heap.size + 1, 1, none⟩) (show w.heap.size ≤ w.heap.size + 1 by omega) (.int .i64 s2)⟩
end
section
open Go.RowKit Go.Lib Go.Maps
def lftF (wn : Nat) (cs : List VC) (line : Int) (k : Nat) : Nat := if (k : Int) = line then maxAfter (ratedL wn k cs) (allLn wn) else (leastQ wn k cs).length
def lftP (wn : Nat) (cs : List VC) (line : Int) : Nat → Nat
 | 0 => 1
 | k + 1 => lftP wn cs line k * lftF wn cs line k
theorem lftF_le {wn : Nat} (cs : List VC) (line : Int) (k : Nat) (h : wn ≤ 3) : lftF wn cs line k ≤ 121 := by
 unfold lftF
 split
 ·exact Nat.le_trans (maxAfter_le _ _) (ratedL_le k cs h)
 ·exact leastQ_le k cs h
theorem lftP_le {wn : Nat} (cs : List VC) (line : Int) (h : wn ≤ 3) : ∀ k, lftP wn cs line k ≤ 121 ^ k
 | 0 => Nat.le_refl _
 | k + 1 => by rw [lftP, Nat.pow_succ]; exact Nat.mul_le_mul (lftP_le cs line h k) (lftF_le cs line k h)
theorem leftAfter_any {wn : Nat} {A : Option Addr} {n : Nat} (cap : Nat) {cs : List VC} {w : World} {B : Nat} (line : Int) (mb N' rb : Nat) (ra : Option Addr) (rc : Nat) (hb : BkG wn A n cs w B) (hBm : B ≤ mb) (hm : Memo w mb N') (hN : N' + 40000000000 ≤ maxLen)
  (hrow : w.ownsRow rb 132 4 (.slice ra (headN cs) rc) (headN cs) ((List.range (headN cs)).flatMap (olC (wn : Int) A n cap mb))) :
  Calls Tryz.prog 154 #[.slice ra (headN cs) rc, .int .i64 line] w fun e w' => e = .returned (.int .i64 (lftP wn cs line (headN cs) : Nat)) ∧ Memo w' mb (N' + 32000000000) ∧ GB w.heap.size mb w w' := by
 have hmb := hm.lt
 have hL4 := hb.2.2.1.2
 have hol := fun (q N1 : Nat) (wx : World) (hq : q < headN cs) (hx : GB w.heap.size mb w wx) (hmx : Memo wx mb N1) (hN1 : N1 + 1000 * KK 8 ≤ maxLen) => olLeast_any cap q mb N1 (hb.below (hx.below hBm (by omega))) hBm hq hmx hN1
 have hla := fun (q N1 : Nat) (wx : World) (hq : q < headN cs) (hx : GB w.heap.size mb w wx) (hmx : Memo wx mb N1) (hN1 : N1 + 20000 * KK 8 ≤ maxLen) => leastAfter_any cap q mb N1 (hb.below (hx.below hBm (by omega))) hBm hq hmx hN1
 rw [KK_8] at hol hla
 have hll := fun q => leastQ_le q cs hb.1.2
 have hlm := fun q => Nat.le_trans (maxAfter_le (ratedL wn q cs) (allLn wn)) (ratedL_le q cs hb.1.2)
 have hlp := fun k (hk : k ≤ 4) => Nat.le_trans (lftP_le cs line hb.1.2 k) (Nat.pow_le_pow_right (by omega) hk)
 obtain ⟨L, hL⟩ : ∃ L, L = headN cs := ⟨_, rfl⟩
 rw [← hL] at hL4 hrow ⊢
 simp only [← hL] at hol hla
 have HOL := Lib.hid hol; have HLA := Lib.hid hla; have HLL := Lib.hid hll; have HLM := Lib.hid hlm; have HPP := Lib.hid hlp
 clear hol hla hll hlm hlp hL hb
 go_enter Tryz.func154, Tryz.ntmps154
 go_wp2_with fail
 go_loopg [5, 10] L (fun g v i wr => ∃ (k : Nat), g = L - k ∧ k ≤ L ∧ i = .int .i64 k ∧ v = .int .i64 (lftP wn cs line k : Nat) ∧ wr.ownsRow rb 132 4 (.slice ra L rc) L ((List.range L).flatMap (olC (wn : Int) A n cap mb)) ∧ Memo wr mb (N' + k * 8000000000) ∧ GB w.heap.size mb w wr)
 case atStart => exact ⟨0, rfl, Nat.zero_le _, rfl, rfl, hrow, by simpa using hm, GB.refl _ _ _⟩
 case round =>
  clear hm hrow
  obtain ⟨k, hg, hk, rfl, rfl, hrow, hm, hG⟩ := hrel
  rename World => wr
  have HG := Lib.hid hg; clear hg
  by_cases hlt : k < L
  ·have hlti : (k : Int) < L := by omega
   obtain ⟨b, off, rfl, hbb, hc0, hc1, hc2, hc3⟩ := (Rd.of_own hrow).elOL hlt
   have hLP : lftP wn cs line (k + 1) = lftP wn cs line k * lftF wn cs line k := rfl
   have hp1 := HPP.out k (by omega)
   have hfn := fun (W : World) => (Blk.new W 132 #[.int .i64 (wn : Int), .slice A n cap, .int .i64 (k : Int), .map (some mb)]).frozen 0
   by_cases heq : (k : Int) = line
   ·have hbq : ((k : Int) == line) = true := by rw [beq_iff_eq]; exact heq
    unfold lftF at hLP
    rw [if_pos heq] at hLP
    have HH := Lib.hid (HLA.out k (N' + k * 8000000000) (wr.alloc (.cells #[.int .i64 (wn : Int), .slice A n cap, .int .i64 (k : Int), .map (some mb)] 132)) hlt (hG.alloc hG.size _) (hm.alloc _) (by omega))
    have hm1 := HLM.out k
    generalize maxAfter (ratedL wn k cs) (allLn wn) = M at *
    generalize lftP wn cs line k = P at *
    have hPM : P * M ≤ 214358881 * 121 := Nat.mul_le_mul hp1 hm1
    have hcast : (P : Int) * (M : Int) = ((P * M : Nat) : Int) := (Int.natCast_mul P M).symm
    have hwr : wrap64 ((P : Int) * (M : Int)) = ((P * M : Nat) : Int) := by
     rw [hcast]; generalize P * M = z at *; exact IntWalk.wrap64_in _ (by omega)
    have HLP := Lib.hid hLP; have HWR := Lib.hid hwr
    clear hLP heq hcast hwr hPM hp1 hm1
    go_wp2_with (go_at_call 188; refine HH.out.mono ?_; rintro e w2 ⟨rfl, hm2, hg2⟩)
    have hG2 := (hG.alloc hG.size (.cells #[.int .i64 (wn : Int), .slice A n cap, .int .i64 (k : Int), .map (some mb)] 132)).call hg2 (by have := hG.size; rw [World.size_alloc]; omega)
    have hr2 := own_gbm (hrow.alloc (.cells #[.int .i64 (wn : Int), .slice A n cap, .int .i64 (k : Int), .map (some mb)] 132)) hg2 (hm.alloc _)
    go_roundg (L - (k + 1))
    case measure => rw [HG.out]; omega
    case rel => exact ⟨k + 1, rfl, by omega, by go_num, by rw [HLP.out, HWR.out], hr2, hm2.mono (by omega), hG2⟩
   ·have hbq : ((k : Int) == line) = false := by rw [beq_eq_false_iff_ne]; exact heq
    unfold lftF at hLP
    rw [if_neg heq] at hLP
    have HH := Lib.hid (HOL.out k (N' + k * 8000000000) (wr.alloc (.cells #[.int .i64 (wn : Int), .slice A n cap, .int .i64 (k : Int), .map (some mb)] 132)) hlt (hG.alloc hG.size _) (hm.alloc _) (by omega))
    have hm1 := HLL.out k
    generalize (leastQ wn k cs).length = M at *
    generalize lftP wn cs line k = P at *
    have hPM : P * M ≤ 214358881 * 121 := Nat.mul_le_mul hp1 hm1
    have hcast : (P : Int) * (M : Int) = ((P * M : Nat) : Int) := (Int.natCast_mul P M).symm
    have hwr : wrap64 ((P : Int) * (M : Int)) = ((P * M : Nat) : Int) := by
     rw [hcast]; generalize P * M = z at *; exact IntWalk.wrap64_in _ (by omega)
    have HLP := Lib.hid hLP; have HWR := Lib.hid hwr
    clear hLP heq hcast hwr hPM hp1 hm1
    go_wp2_with (go_at_call 91; refine HH.out.mono ?_; rintro e w2 ⟨v2, rfl, hown2, hm2, hg2⟩; obtain ⟨a2, c2, rfl⟩ := own_slice hown2)
    have hG2 := (hG.alloc hG.size (.cells #[.int .i64 (wn : Int), .slice A n cap, .int .i64 (k : Int), .map (some mb)] 132)).call hg2 (by have := hG.size; rw [World.size_alloc]; omega)
    have hr2 := own_gbm (hrow.alloc (.cells #[.int .i64 (wn : Int), .slice A n cap, .int .i64 (k : Int), .map (some mb)] 132)) hg2 (hm.alloc _)
    go_roundg (L - (k + 1))
    case measure => rw [HG.out]; omega
    case rel => exact ⟨k + 1, rfl, by omega, by go_num, by rw [HLP.out, HWR.out], hr2, hm2.mono (by omega), hG2⟩
  ·obtain rfl : k = L := by omega
   have hge : ¬ (k : Int) < k := by omega
   go_wp2_with fail
   go_ret
   exact ⟨rfl, hm.mono (by omega), hG⟩
end
section
open Go.RowKit Go.Lib Go.Maps
def qStep (wn : Nat) (cs : List VC) (k : Nat) (acc : List QU) (j : Nat) (v : VL) : List QU :=
 if v.lost && !(acc.any fun q => q.line == (j : Int)) then acc ++ [⟨k, j, (lftP wn cs j (headN cs) : Nat)⟩] else acc
def qCopy (wn : Nat) (cs : List VC) (k : Nat) (ls : List VL) : Nat → List QU → List QU
 | 0, acc => acc
 | j + 1, acc => match ls[j]? with | some v => qStep wn cs k (qCopy wn cs k ls j acc) j v | none => qCopy wn cs k ls j acc
def qAll (wn : Nat) (cs : List VC) : Nat → List QU
 | 0 => []
 | k + 1 => match cs[k]? with | some c => qCopy wn cs k c.ls (headN cs) (qAll wn cs k) | none => qAll wn cs k
theorem qStep_len (wn : Nat) (cs : List VC) (k : Nat) (acc : List QU) (j : Nat) (v : VL) : (qStep wn cs k acc j v).length ≤ acc.length + 1 := by
 unfold qStep; split <;> simp
theorem qCopy_len (wn : Nat) (cs : List VC) (k : Nat) (ls : List VL) : ∀ (j : Nat) (acc : List QU), (qCopy wn cs k ls j acc).length ≤ acc.length + j
 | 0, _ => Nat.le_refl _
 | j + 1, acc => by
  have h := qCopy_len wn cs k ls j acc
  rw [qCopy]
  split
  ·rename_i v _; have := qStep_len wn cs k (qCopy wn cs k ls j acc) j v; omega
  ·omega
theorem qAll_len (wn : Nat) (cs : List VC) : ∀ k, (qAll wn cs k).length ≤ k * headN cs
 | 0 => by simp [qAll]
 | k + 1 => by
  have h := qAll_len wn cs k
  rw [qAll, Nat.succ_mul]
  split
  ·rename_i c _; have := qCopy_len wn cs k c.ls (headN cs) (qAll wn cs k); omega
  ·omega
theorem info152 : (Tryz.prog.info? 152).map (fun i => (i.zero, i.size, i.bytes)) = some (some (.agg #[.int .i64 0, .int .i64 0, .int .i64 0]), 3, 24) := by kernel_rfl
theorem questions_any {wn : Nat} {A : Option Addr} {n : Nat} (cap : Nat) {cs : List VC} {w : World} (hb : BkG wn A n cs w w.heap.size) :
  Calls Tryz.prog 107 #[.agg #[.int .i64 (wn : Int), .slice A n cap]] w fun e w' => ∃ v, e = .returned v ∧ w'.ownsRow w.heap.size 152 3 v (qAll wn cs n).length ((qAll wn cs n).flatMap QU.cells) ∧ Below w.heap.size w w' := by
 obtain ⟨i152, hi, hz0, hz1', hz2'⟩ := info_parts info152
 have hmf : ∀ (fn : Fn) (first cap : Array Value) (w : World), (Instr.makeFunc fn first cap).run Tryz.prog w = .ok (.func fn first cap) w := fun _ _ _ _ => rfl
 have hX := Blk.new w 24 #[.int .i64 (wn : Int), .slice A n cap]
 have qX := fun i => hX.cell i
 have hG : Below w.heap.size w (w.alloc (.cells #[.int .i64 (wn : Int), .slice A n cap] 24)) := (Below.refl _ w).alloc (Nat.le_refl _) _
 have hea := each_any (wn : Int) A n cap cs (w.alloc (.cells #[.int .i64 (wn : Int), .slice A n cap] 24)) hb.2.1.1 (rdB hb.2.2.2.1 hG) (fun c h => okB (hb.2.2.2.2.1 c h) hG) (by have := hb.2.2.1.2; omega)
 have hL4 := hb.2.2.1.2
 have hn5 := hb.2.1.2
 have hlen := hb.len
 have hr := hb.2.2.2.1
 have hla := fun (line : Int) (mb N' rb : Nat) (ra : Option Addr) (rc : Nat) (wx : World) (hx : Below w.heap.size w wx) (hmb : w.heap.size ≤ mb) (hm : Memo wx mb N') (hN : N' + 40000000000 ≤ maxLen) (hrow : wx.ownsRow rb 132 4 (.slice ra (headN cs) rc) (headN cs) ((List.range (headN cs)).flatMap (olC (wn : Int) A n cap mb))) => leftAfter_any cap line mb N' rb ra rc (hb.below hx) hmb hm hN hrow
 have hcn := hb.2.2.2.2.2.1
 have hok := hb.2.2.2.2.1
 have hlp := fun (j : Nat) => lftP_le cs (j : Int) hb.1.2 (headN cs)
 have hqa := qAll_len wn cs
 obtain ⟨L, hL⟩ : ∃ L, L = headN cs := ⟨_, rfl⟩
 rw [← hL] at hea hL4
 simp only [← hL] at hla hcn hlp hqa
 have HEA := Lib.hid hea; have HLA0 := Lib.hid hla; have HL := Lib.hid hL; have HCN := Lib.hid hcn; have HOK := Lib.hid hok; have HLP := Lib.hid hlp; have HLEN := Lib.hid hlen; have HQA := Lib.hid hqa
 clear hea hla hL hb hcn hok hlp hlen hqa
 go_enter Tryz.func107, Tryz.ntmps107
 go_wp2_with fail
 refine HEA.out.mono ?_
 rintro e w1 ⟨v, mb, rfl, hmb, hm, hrow, hb1⟩
 have hmbw : w.heap.size ≤ mb := by rw [World.size_alloc] at hmb; omega
 replace hX := hX.below hb1 hX.lt
 replace hG := hG.trans (hb1.mono hG.size)
 obtain ⟨ra, rc, rfl⟩ := own_slice hrow
 obtain ⟨rb, hrb⟩ : ∃ rb, rb = (w.alloc (.cells #[.int .i64 (wn : Int), .slice A n cap] 24)).heap.size := ⟨_, rfl⟩
 rw [← hrb] at hrow
 have HLA := Lib.hid (fun (line : Int) (N' : Nat) (wx : World) (hx : Below w.heap.size w wx) (hm : Memo wx mb N') (hN : N' + 40000000000 ≤ maxLen) (hrow : wx.ownsRow rb 132 4 (.slice ra L rc) L ((List.range L).flatMap (olC (wn : Int) A n cap mb))) => HLA0.out line mb N' rb ra rc wx hx hmbw hm hN hrow)
 clear hb1 qX hrb
 have qX := fun i => hX.cell i
 go_wp2_with fail
 go_loopg [3, 15] n (fun g v i wr => ∃ (k : Nat) (v0 : Value), g = n - k ∧ k ≤ n ∧ v = v0 ∧ i = .int .i64 k ∧ wr.ownsRow w.heap.size 152 3 v0 (qAll wn cs k).length ((qAll wn cs k).flatMap QU.cells) ∧ Memo wr mb (k * 4 * 32000000000) ∧ wr.ownsRow rb 132 4 (.slice ra L rc) L ((List.range L).flatMap (olC (wn : Int) A n cap mb)) ∧ Blk wr w.heap.size 24 #[.int .i64 (wn : Int), .slice A n cap] ∧ Below w.heap.size w wr)
 case atStart => exact ⟨0, _, rfl, Nat.zero_le _, rfl, rfl, World.ownsRow_nil _ _ _ _, by simpa using hm, hrow, hX, hG⟩
 case round =>
  clear hm hrow hX hG qX
  obtain ⟨k, v0, hg, hk, rfl, rfl, hown, hm, hrow, hX, hG⟩ := hrel
  rename World => wr
  have HG := Lib.hid hg; clear hg
  by_cases hlt : k < n
  ·have hlti : (k : Int) < n := by omega
   obtain ⟨b, off, hz, rfl, hbb, hcell⟩ := (hr.below hG).atm hlt
   have hin := List.getElem_mem hz
   have hge? : cs[k]? = some cs[k] := List.getElem?_eq_getElem hz
   generalize cs[k] = c at *
   have hco := HOK.out c hin
   have hcl := HCN.out c hin
   obtain ⟨cA, cn, cc, vls⟩ := c
   obtain ⟨c1, c2, c3, c4⟩ := hco
   dsimp only at c1 c2 c3 c4 hcl
   obtain ⟨rfl, hvl⟩ := hcl
   simp only [VC.val] at hcell
   have HGE := Lib.hid hge?; have HVL := Lib.hid hvl
   have hql := HQA.out k
   have hkL : k * cn ≤ 4 * 4 := Nat.mul_le_mul (by omega) hL4
   clear hge? hin hz hvl
   go_wp2_with fail
   go_loopg [3, 22] cn (fun g v i wr => ∃ (j m : Nat) (v0 : Value), g = cn - j ∧ j ≤ cn ∧ v = v0 ∧ i = .int .i64 j ∧ Hid (m = (qCopy wn cs k vls j (qAll wn cs k)).length) ∧ wr.ownsRow w.heap.size 152 3 v0 m ((qCopy wn cs k vls j (qAll wn cs k)).flatMap QU.cells) ∧ Memo wr mb ((k * 4 + j) * 32000000000) ∧ wr.ownsRow rb 132 4 (.slice ra cn rc) cn ((List.range cn).flatMap (olC (wn : Int) (some ⟨b, off, none⟩) n cap mb)) ∧ Blk wr w.heap.size 24 #[.int .i64 (wn : Int), .slice (some ⟨b, off, none⟩) n cap] ∧ Below w.heap.size w wr)
   case atStart => exact ⟨0, _, _, rfl, Nat.zero_le _, rfl, rfl, Lib.hid rfl, hown, by simpa using hm, hrow, hX, hG⟩
   case round =>
    clear hown hm hrow hX hG hcell
    obtain ⟨j, m, v0, hg, hj, rfl, rfl, hmH, hown, hm, hrow, hX, hG⟩ := hrel
    rename World => wr
    have HG2 := Lib.hid hg; clear hg
    obtain ⟨va, vc, rfl⟩ := own_slice hown
    by_cases hlt2 : j < cn
    ·have hlti2 : (j : Int) < cn := by omega
     obtain ⟨b2, off2, hz2, rfl, hb2, hv0, hv1⟩ := (c4.below hG).at2 hlt2
     have hge2 : vls[j]? = some vls[j] := List.getElem?_eq_getElem hz2
     have hqs : qCopy wn cs k vls (j + 1) (qAll wn cs k) = qStep wn cs k (qCopy wn cs k vls j (qAll wn cs k)) j vls[j] := by rw [qCopy, hge2]
     have hql2 := qCopy_len wn cs k vls j (qAll wn cs k)
     generalize vls[j] = v at *
     obtain ⟨acc, hacc⟩ : ∃ acc, acc = qCopy wn cs k vls j (qAll wn cs k) := ⟨_, rfl⟩
     rw [← hacc] at hown hqs hql2
     have HACC := Lib.hid hacc
     obtain ⟨lost, vA, vn, vcap, vws⟩ := v
     dsimp only at hv0 hv1
     clear hge2 hz2 hacc
     have HM : Hid (m = acc.length) := Lib.hid (by rw [HACC.out]; exact hmH.out)
     have hm20 : m ≤ 20 := by have := HM.out; omega
     clear hmH hql2
     have hsw : w.heap.size + 1 ≤ wr.heap.size := by have := hX.lt; omega
     cases lost
     ·have hstep : qCopy wn cs k vls (j + 1) (qAll wn cs k) = acc := by rw [hqs]; rfl
      have HST := Lib.hid hstep
      clear hqs hstep
      have hX2 := (hX.alloc (.cells #[.int .i64 (j : Int)] 3)).alloc (.cells #[.bool false, .slice vA vn vcap] 76)
      go_wp2_with fail
      go_roundg (cn - (j + 1))
      case measure => rw [HG2.out]; omega
      case rel => exact ⟨j + 1, m, _, rfl, by omega, rfl, by go_num, Lib.hid (by rw [HST.out]; exact HM.out), by rw [HST.out]; exact (hown.alloc _).alloc _, ((hm.alloc _).alloc _).mono (by omega), (hrow.alloc _).alloc _, hX2, (hG.alloc hG.size _).alloc (by rw [World.size_alloc]; omega) _⟩
     ·have hbx := (Blk.new wr 3 #[.int .i64 (j : Int)]).alloc (.cells #[.bool true, .slice vA vn vcap] 76)
      have hown2 := (hown.alloc (.cells #[.int .i64 (j : Int)] 3)).alloc (.cells #[.bool true, .slice vA vn vcap] 76)
      have hcq := contains_qu 152 (.pointer (some ⟨wr.heap.size, 0, none⟩)) (fun q => q.line == (j : Int)) va m vc acc ((wr.alloc (.cells #[.int .i64 (j : Int)] 3)).alloc (.cells #[.bool true, .slice vA vn vcap] 76)) (by unfold maxLen; omega) (Rd.of_own hown2) (fun _ _ => rfl) (Lib.hid fun q _ wx hx => sameLine_any q (j : Int) wr.heap.size wx (hbx.below hx hbx.lt))
      have hX2 := (hX.alloc (.cells #[.int .i64 (j : Int)] 3)).alloc (.cells #[.bool true, .slice vA vn vcap] 76)
      have hm2 := (hm.alloc (.cells #[.int .i64 (j : Int)] 3)).alloc (.cells #[.bool true, .slice vA vn vcap] 76)
      have hrow2 := (hrow.alloc (.cells #[.int .i64 (j : Int)] 3)).alloc (.cells #[.bool true, .slice vA vn vcap] 76)
      have hG2 := (hG.alloc hG.size (.cells #[.int .i64 (j : Int)] 3)).alloc (by rw [World.size_alloc]; omega) (.cells #[.bool true, .slice vA vn vcap] 76)
      obtain ⟨any, hany⟩ : ∃ any, any = acc.any fun q => q.line == (j : Int) := ⟨_, rfl⟩
      rw [← hany] at hcq
      have hst : qCopy wn cs k vls (j + 1) (qAll wn cs k) = if !any then acc ++ [⟨k, j, (lftP wn cs j (headN cs) : Nat)⟩] else acc := by rw [hqs, qStep, ← hany]; rfl
      have HCQ := Lib.hid hcq; have HST := Lib.hid hst
      clear hcq hqs hany hst hown hX hm hrow hG
      cases any
      ·go_wp2_with (go_at_call 153; refine HCQ.out.mono ?_; rintro e wq ⟨rfl, hbq⟩)
       obtain ⟨b7, hb7⟩ : ∃ b7, b7 = wr.heap.size := ⟨_, rfl⟩
       have h7 := hbx.below hbq hbx.lt
       rw [← hb7] at h7 ⊢
       have HB7 := Lib.hid hb7; clear hb7
       have hX := hX2.below hbq hX2.lt; have hm := hm2.below hbq; have hrow := ownsRow_below' hrow2 hbq; have hown := ownsRow_below' hown2 hbq; have hG := hG2.trans (hbq.mono hG2.size)
       clear hX2 hm2 hrow2 hown2 hG2 hbx hbq
       obtain ⟨ys, hys⟩ : ∃ ys, ys = acc.flatMap QU.cells := ⟨_, rfl⟩
       rw [← hys] at hown
       obtain ⟨P, hP⟩ : ∃ P, P = lftP wn cs (j : Int) cn := ⟨_, rfl⟩
       obtain ⟨N1, hN1⟩ : ∃ N1, N1 = k * 4 + j := ⟨_, rfl⟩
       rw [← hN1] at hm
       have HYS := Lib.hid hys; have HPV := Lib.hid hP; have HN0 := Lib.hid hN1
       have HN1 : Hid (N1 * 32000000000 + 40000000000 ≤ maxLen) := Lib.hid (by unfold maxLen; omega)
       clear hys hP hN1
       rename World => WR
       refine wp_region_G (fun w' => Blk w' b7 3 #[.int .i64 (j : Int)]) 9 (by kernel_rfl) ?_
       replace hX := hX.drew; replace h7 := h7.drew; replace hown : WR.drew.ownsRow w.heap.size 152 3 (.slice va m vc) m ys := hown; replace hrow : WR.drew.ownsRow rb 132 4 (.slice ra cn rc) cn ((List.range cn).flatMap (olC (wn : Int) (some ⟨b, off, none⟩) n cap mb)) := hrow; replace hm : Memo WR.drew mb (N1 * 32000000000) := hm; replace hG : Below w.heap.size w WR.drew := hG.drew
       generalize WR.drew = WD at *
       have hTT : Blk WD b7 3 #[.int .i64 (j : Int)] := h7
       refine tk 0 (v := ?_) rfl (Or.inl ⟨by rfl, ?h⟩) hTT ?_
       case h => intro wq hSw; have q0 := fun i => hSw.cell i; go_simp <;> with_reducible rfl
       simp only [LS, Act.put]
       refine tk 1 (v := ?_) rfl (Or.inl ⟨by rfl, ?h⟩) hTT ?_
       case h => intro wq hSw; have q0 := fun i => hSw.cell i; go_simp <;> with_reducible rfl
       simp only [LS, Act.put]
       refine tk 2 (v := ?_) rfl (Or.inl ⟨by rfl, ?h⟩) hTT ?_
       case h => intro wq hSw; have q0 := fun i => hSw.cell i; go_simp <;> with_reducible rfl
       simp only [LS, Act.put]
       refine tk 3 (v := ?_) rfl (Or.inl ⟨by rfl, ?h⟩) hTT ?_
       case h => intro wq hSw; have q0 := fun i => hSw.cell i; go_simp <;> with_reducible rfl
       simp only [LS, Act.put]
       refine tk 4 (v := ?_) rfl (Or.inl ⟨by rfl, ?h⟩) hTT ?_
       case h => intro wq hSw; have q0 := fun i => hSw.cell i; go_simp <;> with_reducible rfl
       simp only [LS, Act.put]
       refine o1 5 rfl fun K hK => ?_
       go_simp
       refine (HLA.out (j : Int) (N1 * 32000000000) WD hG hm HN1.out hrow).mono ?_
       rintro e w2 ⟨rfl, hm2, hg2⟩
       rw [← HPV.out]
       replace hX := hX.gbm hg2 hm; replace h7 := h7.gbm hg2 hm; replace hown := own_gbm hown hg2 hm; replace hrow := own_gbm hrow hg2 hm; replace hG := hG.trans (hg2.below hmbw hG.size)
       replace hTT := h7
       clear hg2 hm
       refine hK _ _ (.inr hTT) ?_
       clear hK K
       try simp only [LS, Act.put]
       refine tk 6 (v := ?_) rfl (Or.inl ⟨by rfl, ?h⟩) hTT ?_
       case h => intro wq hSw; have q0 := fun i => hSw.cell i; go_simp <;> with_reducible rfl
       simp only [LS, Act.put]
       refine o1 7 rfl fun K hK => ?_
       go_simp
       replace hX := hX.alloc (.cells #[.int .i64 (k : Int), .int .i64 (j : Int), .int .i64 (P : Int)] 152); replace h7 := h7.alloc (.cells #[.int .i64 (k : Int), .int .i64 (j : Int), .int .i64 (P : Int)] 152); replace hown := hown.alloc (.cells #[.int .i64 (k : Int), .int .i64 (j : Int), .int .i64 (P : Int)] 152); replace hrow := hrow.alloc (.cells #[.int .i64 (k : Int), .int .i64 (j : Int), .int .i64 (P : Int)] 152); replace hG := hG.alloc hG.size (.cells #[.int .i64 (k : Int), .int .i64 (j : Int), .int .i64 (P : Int)] 152); replace hm2 := hm2.alloc (.cells #[.int .i64 (k : Int), .int .i64 (j : Int), .int .i64 (P : Int)] 152)
       replace hTT := h7
       have hn3 := Blk.new w2 152 #[.int .i64 (k : Int), .int .i64 (j : Int), .int .i64 (P : Int)]
       refine hK _ _ (.inr hTT) ?_
       clear hK K
       try simp only [LS, Act.put]
       refine o1 8 rfl fun K hK => ?_
       rw [if_pos (by rfl)]
       refine wp_append_any _ _ _ 155 rfl w.heap.size 152 i152 (.agg #[.int .i64 0, .int .i64 0, .int .i64 0]) 3 24 Tryz.underlying155 hi hz0 hz1' hz2' rfl (by decide) (.slice va m vc) m ys rfl hown (w2.heap.size + 1) (some ⟨w2.heap.size, 0, none⟩) 1 1 [.int .i64 (k : Int), .int .i64 (j : Int), .int .i64 (P : Int)] rfl (Rd.blkN hn3 rfl (Nat.lt_succ_self _)).reads (by simp [Value.oneCell']) (by unfold maxLen; omega) (by omega) (by have := hG.size; omega) (fun v' w3 hown' hgrow hob => ?_)
       have hX3 := hX.kept_own hown (by decide) hgrow
       have h73 := h7.kept_own hown (by decide) hgrow
       have hrow3 := hrow.kept hgrow (own_ne hrow hown (by decide))
       have hm3 := hm2.kept hgrow (fun e => by
         obtain ⟨es, c, hmap⟩ := hm2.isMap
         rcases hown.2 with ⟨h1, _⟩ | ⟨g, cp, cur, h1, _, h3, _⟩
         · rw [h1] at e; cases e
         · rw [h1] at e
           injection e with e
           have e' : mb = g := e
           rw [← e', hmap] at h3
           cases h3)
       have hG3 := hG.grown hgrow hG.size (fun g hg => (hown.lt g hg).1)
       replace hTT := h73
       clear hn3
       refine hK _ _ (.inr hTT) ?_
       clear hK K
       try simp only [LS, Act.put]
       refine o1 9 rfl fun K hK => ?_
       go_simp
       refine hK _ _ (.inl rfl) ?_
       clear hK K
       try simp only [LS, Act.put]
       refine wpG_done (by kernel_rfl) ?_ _
       clear hTT
       go_wp2_with fail
       go_roundg (cn - (j + 1))
       case measure => rw [HG2.out]; omega
       case rel => exact ⟨j + 1, m + 1, v', rfl, by omega, rfl, by go_num, Lib.hid (by rw [HST.out, if_pos (show (!false) = true from rfl), List.length_append, ← HM.out]; rfl), by rw [HST.out, if_pos (show (!false) = true from rfl), List.flatMap_append, ← HYS.out, ← HL.out, ← HPV.out]; exact hown', hm3.mono (by have := HN0.out; omega), hrow3, hX3, hG3⟩
      ·go_wp2_with (go_at_call 153; refine HCQ.out.mono ?_; rintro e wq ⟨rfl, hbq⟩)
       go_roundg (cn - (j + 1))
       case measure => rw [HG2.out]; omega
       case rel => exact ⟨j + 1, m, _, rfl, by omega, rfl, by go_num, Lib.hid (by rw [HST.out, if_neg (by decide)]; exact HM.out), by rw [HST.out, if_neg (by decide)]; exact ownsRow_below' hown2 hbq, (hm2.below hbq).mono (by omega), ownsRow_below' hrow2 hbq, hX2.below hbq hX2.lt, hG2.trans (hbq.mono hG2.size)⟩
    ·obtain rfl : j = cn := by omega
     have hge : ¬ (j : Int) < j := by omega
     go_wp2_with fail
     go_roundg (n - (k + 1))
     case measure => rw [HG.out]; omega
     case rel => exact ⟨k + 1, _, rfl, by omega, rfl, by go_num, by rw [show qAll wn cs (k + 1) = qCopy wn cs k vls j (qAll wn cs k) by rw [qAll, HGE.out, ← HL.out], ← hmH.out]; exact hown, hm.mono (by omega), hrow, hX, hG⟩
  ·obtain rfl : k = n := by omega
   have hge : ¬ (k : Int) < k := by omega
   go_wp2_with fail
   go_ret
   exact ⟨_, rfl, hown, hG⟩
end
section
open Go.RowKit Go.Lib Go.Maps
def firstL (wn q : Nat) (cs : List VC) : ByteArray := ((leastQ wn q cs).head?.map RT.l).getD ⟨#[]⟩
def textLs (wn : Nat) (cs : List VC) (k : Nat) : List ByteArray := (List.range k).map fun q => firstL wn q cs
def textCs (wn : Nat) (cs : List VC) (k : Nat) : List Int := (List.range k).map fun q => leastC wn q cs
def textM (wn : Nat) (cs : List VC) : Nat → Nat
 | 0 => 1
 | k + 1 => textM wn cs k * (leastQ wn k cs).length
theorem textM_le {wn : Nat} (cs : List VC) (h : wn ≤ 3) : ∀ k, textM wn cs k ≤ 121 ^ k
 | 0 => Nat.le_refl _
 | k + 1 => by rw [textM, Nat.pow_succ]; exact Nat.mul_le_mul (textM_le cs h k) (leastQ_le k cs h)
theorem own_cell1 {W : World} {B b2 off2 n c : Nat} {xs : List RT} {z : Int} (h : W.ownsRow B 136 2 (.slice (some ⟨b2, off2, none⟩) n c) n (xs.flatMap RT.cells)) (hn : 0 < n) (hz : ∀ hl : 0 < xs.length, xs[0].c = z) : W.cell? ⟨b2, off2 + 1, none⟩ = some (.int .i64 z) := by
 obtain ⟨_, _, hl, e, _, _, hc⟩ := (Rd.of_own h).elRT hn
 cases e
 simpa [RT.cells, hz hl] using hc
theorem head_get {α β : Type} (f : α → β) (d : β) {l : List α} (h : 0 < l.length) : (l.head?.map f).getD d = f l[0] := by cases l with | nil => cases h | cons x xs => rfl
theorem Rows.kept {w w' : World} {B : Nat} {rs : List RI} {ls : List ByteArray} {row : Option Nat} (h : Rows w B rs ls) (hg : w.grownBy w' row) (hne : ∀ r ∈ rs, ∀ g, r.val.ownBlock = some g → row ≠ some g) : Rows w' B rs ls :=
 ⟨h.1, fun r hr => ⟨ownsRow_at (h.2 r hr).1 (fun g hgg => hg.block g ((h.2 r hr).1.lt g hgg).2 (fun e => hne r hr g hgg e.symm)), (h.2 r hr).2⟩⟩
theorem Text_yes {wn : Nat} {A : Option Addr} {n : Nat} (cap : Nat) {cs : List VC} {w : World} (hb : BkG wn A n cs w w.heap.size) (h1 : bookB (wn : Int) cs = true) :
  Calls Tryz.prog 51 #[.agg #[.int .i64 (wn : Int), .slice A n cap]] w fun e w' => ∃ v, e = .returned (.tuple #[v, .int .i64 (textM wn cs (headN cs) : Nat), .int .i64 (sumI (textCs wn cs (headN cs))), .int .i64 0]) ∧ ∃ rs : List RI, w'.ownsRow w.heap.size 25 1 v (headN cs) (rs.map RI.val) ∧ Rows w' w.heap.size rs (textLs wn cs (headN cs)) ∧ Below w.heap.size w w' := by
 obtain ⟨i25, hi, hz0, hz1', hz2'⟩ := info_parts info25
 obtain ⟨i3, hj, hy0, hy1', hy2'⟩ := info_parts info3
 have hX := Blk.new w 24 #[.int .i64 (wn : Int), .slice A n cap]
 have hB : Below w.heap.size w (w.alloc (.cells #[.int .i64 (wn : Int), .slice A n cap] 24)) := (Below.refl _ w).alloc (Nat.le_refl _) _
 have qX := fun i => hX.cell i
 have hgb := fun (wx : World) (hx : Below w.heap.size w wx) => goodBook_any (wn : Int) A n cap cs wx (by have := hb.2.1.2; unfold maxLen; omega) (rdB hb.2.2.2.1 hx) (fun c h => okB (hb.2.2.2.2.1 c h) hx)
 simp only [h1] at hgb
 have hlo := fun (wx : World) (hx : Below w.heap.size w wx) => leastOf_any cap (hb.toW hx)
 have hL4 := hb.2.2.1.2
 have hll := fun q => leastQ_le q cs hb.1.2
 have hlp := fun q => leastQ_pos wn q cs
 have hbd := fun q => leastQ_bd hb q
 have htm := fun k (hk : k ≤ 4) => Nat.le_trans (textM_le cs hb.1.2 k) (Nat.pow_le_pow_right (show 0 < 121 by omega) hk)
 obtain ⟨L, hL⟩ : ∃ L, L = headN cs := ⟨_, rfl⟩
 rw [← hL] at hL4 ⊢
 simp only [← hL] at hlo
 have HGB := Lib.hid hgb; have HLO := Lib.hid hlo; have HLL := Lib.hid hll; have HLP := Lib.hid hlp; have HBD := Lib.hid hbd; have HTM := Lib.hid htm
 clear hgb hlo hll hlp hbd htm hL hb h1
 go_enter Tryz.func51, Tryz.ntmps51
 go_wp2_with fail
 refine (HGB.out _ hB).mono ?_; rintro e w1 ⟨rfl, hb⟩; replace hX := hX.below hb hX.lt; replace hB := hB.trans (hb.mono hB.size); clear hb qX; have qX := fun i => hX.cell i
 go_wp2_with fail
 refine (HLO.out _ hB).mono ?_; rintro e w2 ⟨v, rfl, qs, hrow, hqs, hb⟩
 obtain ⟨qa, qc, rfl⟩ := own_slice hrow
 replace hrow := own_more hrow hB.size
 replace hqs : LQs w2 w.heap.size qs (leastLs wn cs L) := ⟨hqs.1, fun r hr => ⟨own_more (hqs.2 r hr).1 hB.size, (hqs.2 r hr).2⟩⟩
 replace hB := hB.trans (hb.mono hB.size)
 clear hb qX hX
 go_wp2_with fail
 go_loopg [6, 7, 8, 17] L (fun g v6 v7 v8 i wr => ∃ (k : Nat) (z6 z7 : Value) (rs : List RI), g = L - k ∧ k ≤ L ∧ v6 = z6 ∧ v7 = z7 ∧ v8 = .int .i64 (textM wn cs k : Nat) ∧ i = .int .i64 k ∧ wr.ownsRow w.heap.size 25 1 z6 k (rs.map RI.val) ∧ Hid (Rows wr w.heap.size rs (textLs wn cs k)) ∧ wr.ownsRow w.heap.size 3 1 z7 k ((textCs wn cs k).map (Value.int .i64)) ∧ Hid (∀ r ∈ rs, ∀ g, r.val.ownBlock = some g → z7.ownBlock ≠ some g) ∧ wr.ownsRow w.heap.size 130 1 (.slice qa L qc) L (qs.map LQ.val) ∧ Hid (LQs wr w.heap.size qs (leastLs wn cs L)) ∧ Below w.heap.size w wr)
 case atStart => exact ⟨0, _, _, [], rfl, Nat.zero_le _, rfl, rfl, rfl, rfl, World.ownsRow_nil _ _ _ _, Lib.hid ⟨rfl, fun r h => by cases h⟩, World.ownsRow_nil _ _ _ _, Lib.hid (fun r h => by cases h), hrow, Lib.hid hqs, hB⟩
 case round =>
  clear hrow hqs hB
  obtain ⟨k, z6, z7, rs, hg, hk, rfl, rfl, rfl, rfl, hown, hrows, hown7, hap, hrow, hqs, hB⟩ := hrel
  rename World => wr
  obtain ⟨va, vc, rfl⟩ := own_slice hown
  obtain ⟨ua, uc, rfl⟩ := own_slice hown7
  have HG := Lib.hid hg; clear hg
  by_cases hlt : k < L
  ·have hlti : (k : Int) < L := by omega
   obtain ⟨b, off, hz, rfl, hbb, hcell⟩ := (Rd.of_own hrow).atm hlt
   have hqk := hqs.out.2 _ (List.getElem_mem hz)
   have hqe : (qs[k]).xs = leastQ wn k cs := by
    have h := hqs.out.1
    have h2 : (qs.map LQ.xs)[k]? = (leastLs wn cs L)[k]? := by rw [h]
    rw [List.getElem?_map, List.getElem?_eq_getElem hz] at h2
    unfold leastLs at h2
    rw [List.getElem?_map, List.getElem?_range hlt] at h2
    simpa using h2
   generalize qs[k] = r at *
   obtain ⟨rA, rn, rcap, rxs⟩ := r
   dsimp only at hqk hqe
   subst hqe
   obtain ⟨hro, hrn⟩ := hqk
   simp only [LQ.val] at hcell hro
   have hp := HLP.out k
   have hl1 := HLL.out k
   have hbd := HBD.out k
   have hrp : 0 < rn := by omega
   have hrpi : (0 : Int) < rn := by omega
   obtain ⟨b2, off2, hz2, rfl, hb2, hc0, hc1⟩ := (Rd.of_own hro).elRT hrp
   have hfl : firstL wn k cs = (leastQ wn k cs)[0].l := head_get RT.l _ hz2
   have hfc : leastC wn k cs = (leastQ wn k cs)[0].c := head_get RT.c _ hz2
   have HXC : Hid (∀ hl : 0 < (leastQ wn k cs).length, (leastQ wn k cs)[0].c = leastC wn k cs) := Lib.hid (fun _ => hfc.symm)
   have hb0 := hbd _ (List.getElem_mem hz2)
   have hTM : textM wn cs (k + 1) = textM wn cs k * rn := by rw [textM, hrn]
   have htl : textLs wn cs (k + 1) = textLs wn cs k ++ [firstL wn k cs] := by unfold textLs; rw [List.range_succ, List.map_append]; rfl
   have htc : textCs wn cs (k + 1) = textCs wn cs k ++ [leastC wn k cs] := by unfold textCs; rw [List.range_succ, List.map_append]; rfl
   rw [hfl] at htl
   rw [hfc] at htc
   obtain ⟨c', hc'⟩ : ∃ c', c' = leastC wn k cs := ⟨_, rfl⟩
   rw [← hc'] at HXC
   rw [← hfc, ← hc'] at htc
   have hcx := hfc
   rw [← hc'] at hcx
   generalize (leastQ wn k cs)[0] = x at hc0 hc1 hb0 htl hcx
   obtain ⟨l, c⟩ := x
   simp only [RT.cells, List.getElem_cons_zero, List.getElem_cons_succ, Nat.zero_mul, Nat.add_zero, Nat.zero_add] at hc0 hc1
   dsimp only at htl hb0 hcx
   subst hcx
   have HCL := Lib.hid hc'
   clear hc'
   have hpm := HTM.out k (by omega)
   obtain ⟨P, hP⟩ : ∃ P, P = textM wn cs k := ⟨_, rfl⟩
   rw [← hP] at hpm hTM ⊢
   have hPM : P * rn ≤ 214358881 * 121 := Nat.mul_le_mul hpm (by omega)
   have hcast : (P : Int) * (rn : Int) = ((P * rn : Nat) : Int) := (Int.natCast_mul P rn).symm
   have hwr : wrap64 ((P : Int) * (rn : Int)) = ((P * rn : Nat) : Int) := by
    rw [hcast]; generalize P * rn = z at *; exact IntWalk.wrap64_in _ (by omega)
   have HRN := Lib.hid hrn; have HTM1 := Lib.hid hTM; have HWR := Lib.hid hwr; have HTL := Lib.hid htl; have HTC := Lib.hid htc
   have hwd := words_any l wr (by omega)
   clear hTM hwr hPM hcast hpm htl htc hfl hfc hbd hP hz2 hl1 hrn
   obtain ⟨ys, hys⟩ : ∃ ys, ys = rs.map RI.val := ⟨_, rfl⟩
   obtain ⟨zs, hzs⟩ : ∃ zs, zs = (textCs wn cs k).map (Value.int .i64) := ⟨_, rfl⟩
   rw [← hys] at hown
   rw [← hzs] at hown7
   have HYS := Lib.hid hys; have HZS := Lib.hid hzs; clear hys hzs
   go_wp2_with (first
     | (go_at_call 94; refine hwd.mono ?_; rintro e w1 ⟨vr, rfl, hownr, hnr, hb1⟩; obtain ⟨ra, rc, rfl⟩ := own_slice hownr; clear hwd; clear hc0 hc1)
     | (at_builtin; refine wpList_append_any _ rfl _ _ 46 rfl w.heap.size 25 i25 (.slice none 0 0) 1 24 Tryz.underlying46 hi hz0 hz1' hz2' rfl (by decide) (.slice va k vc) k ys rfl ((ownsRow_below' hown hb1).alloc (.cells #[.slice ra l.size rc] 25)) (w1.heap.size + 1) (some ⟨w1.heap.size, 0, none⟩) 1 1 [.slice ra l.size rc] rfl (Rd.blkN (Blk.new w1 25 #[.slice ra l.size rc]) rfl (by omega)).reads (by simp [Value.oneCell']) (by unfold maxLen; omega) (by omega) (by have := hb1.size; have := hB.size; rw [World.size_alloc]; omega) (fun v' w2 hown' hgrow hob => ?_); have hq2 := (ownsRow_below' hro hb1).alloc (.cells #[.slice ra l.size rc] 25); have hr2 := hq2.kept hgrow (own_ne hq2 ((ownsRow_below' hown hb1).alloc (.cells #[.slice ra l.size rc] 25)) (by decide)); have hc2 := own_cell1 hr2 hrp HXC.out)
     | (at_builtin; refine wpList_append_any _ rfl _ _ 25 rfl w.heap.size 3 i3 (.int .i64 0) 1 8 Tryz.underlying25 hj hy0 hy1' hy2' rfl (by decide) (.slice ua k uc) k zs rfl ((((ownsRow_below' hown7 hb1).alloc (.cells #[.slice ra l.size rc] 25)).kept hgrow (own_ne ((ownsRow_below' hown7 hb1).alloc (.cells #[.slice ra l.size rc] 25)) ((ownsRow_below' hown hb1).alloc (.cells #[.slice ra l.size rc] 25)) (by decide))).alloc (.cells #[.int .i64 c'] 3)) (w2.heap.size + 1) (some ⟨w2.heap.size, 0, none⟩) 1 1 [.int .i64 c'] rfl (Rd.blkN (Blk.new w2 3 #[.int .i64 c']) rfl (by omega)).reads (by simp [Value.oneCell']) (by unfold maxLen; omega) (by omega) (by have := hgrow.size; have := hb1.size; have := hB.size; rw [World.size_alloc] at *; omega) (fun v7 w3 hown7' hgrow7 hob7 => ?_)))
   have ho7 := (((ownsRow_below' hown7 hb1).alloc (.cells #[.slice ra l.size rc] 25)).kept hgrow (own_ne ((ownsRow_below' hown7 hb1).alloc (.cells #[.slice ra l.size rc] 25)) ((ownsRow_below' hown hb1).alloc (.cells #[.slice ra l.size rc] 25)) (by decide))).alloc (.cells #[.int .i64 c'] 3)
   have ho6 := (ownsRow_below' hown hb1).alloc (.cells #[.slice ra l.size rc] 25)
   have hBa := (hB.trans (hb1.mono hB.size)).alloc (by have := hb1.size; have := hB.size; omega) (.cells #[.slice ra l.size rc] 25)
   have hB2 := (hBa.grown hgrow hBa.size (fun g hg => (ho6.lt g hg).1)).alloc (by have := hgrow.size; have := hBa.size; omega) (.cells #[.int .i64 c'] 3)
   have hB3 := hB2.grown hgrow7 hB2.size (fun g hg => (ho7.lt g hg).1)
   have hnw := ((own_more hownr hB.size).alloc (.cells #[.slice ra l.size rc] 25)).kept hgrow (own_ne ((own_more hownr hB.size).alloc (.cells #[.slice ra l.size rc] 25)) ho6 (by decide))
   have hsw : wr.heap.size ≤ w2.heap.size := by have := hgrow.size; have := hb1.size; rw [World.size_alloc] at *; omega
   have hnf : ∀ g, (Value.slice ra l.size rc).ownBlock = some g → wr.heap.size ≤ g ∧ g < w2.heap.size := fun g hg => ⟨(hownr.lt g hg).1, (hnw.lt g hg).2⟩
   have hr2 : Rows (w2.alloc (.cells #[.int .i64 c'] 3)) w.heap.size (rs ++ [⟨ra, l.size, rc, nwL l⟩]) (textLs wn cs (k + 1)) := by
    refine ⟨by rw [List.map_append, hrows.out.1, HTL.out, List.map_append]; rfl, fun r hr => ?_⟩
    rcases List.mem_append.1 hr with h | h
    ·obtain ⟨h1, h2⟩ := hrows.out.2 r h
     have h1' := (ownsRow_below' h1 hb1).alloc (.cells #[.slice ra l.size rc] 25)
     exact ⟨(h1'.kept hgrow (own_ne h1' ho6 (by decide))).alloc _, h2⟩
    ·obtain rfl := List.mem_singleton.1 h
     exact ⟨hnw.alloc _, hnr⟩
   have hap2 : ∀ r ∈ rs ++ [(⟨ra, l.size, rc, nwL l⟩ : RI)], ∀ g, r.val.ownBlock = some g → (Value.slice ua k uc).ownBlock ≠ some g ∧ g < w2.heap.size := fun r hr g hg => by
    rcases List.mem_append.1 hr with h | h
    ·refine ⟨hap.out r h g hg, ?_⟩
     have := ((hrows.out.2 r h).1.lt g hg).2
     omega
    ·obtain rfl := List.mem_singleton.1 h
     refine ⟨fun e => ?_, (hnf g hg).2⟩
     have := (hown7.lt g e).2
     have := (hnf g hg).1
     omega
   have hr3 := hr2.kept hgrow7 (fun r hr g hg => (hap2 r hr g hg).1)
   have hap3 : ∀ r ∈ rs ++ [(⟨ra, l.size, rc, nwL l⟩ : RI)], ∀ g, r.val.ownBlock = some g → v7.ownBlock ≠ some g := fun r hr g hg e => by
    rcases hob7 with h1 | h1
    ·exact (hap2 r hr g hg).1 (by rw [← h1, e])
    ·rw [h1] at e
     injection e with e
     have := (hap2 r hr g hg).2
     rw [World.size_alloc] at e
     omega
   have hrow2 := (((ownsRow_below' hrow hb1).alloc (.cells #[.slice ra l.size rc] 25)).kept hgrow (own_ne ((ownsRow_below' hrow hb1).alloc (.cells #[.slice ra l.size rc] 25)) ho6 (by decide))).alloc (.cells #[.int .i64 c'] 3)
   have hrow3 := hrow2.kept hgrow7 (own_ne hrow2 ho7 (by decide))
   have hqs3 := ((((hqs.out.below hb1).below ((Below.refl _ _).alloc (Nat.le_refl _) (.cells #[.slice ra l.size rc] 25))).kept ho6 (by decide) hgrow).below ((Below.refl _ _).alloc (Nat.le_refl _) (.cells #[.int .i64 c'] 3))).kept ho7 (by decide) hgrow7
   have ho63 := (hown'.alloc (.cells #[.int .i64 c'] 3)).kept hgrow7 (own_ne (hown'.alloc (.cells #[.int .i64 c'] 3)) ho7 (by decide))
   go_roundg (L - (k + 1))
   case measure => rw [HG.out]; omega
   case rel => exact ⟨k + 1, v', v7, rs ++ [⟨ra, l.size, rc, nwL l⟩], rfl, by omega, rfl, rfl, by rw [HTM1.out, HWR.out], by go_num, by rw [List.map_append, ← HYS.out]; exact ho63, Lib.hid hr3, by rw [HTC.out, List.map_append, ← HZS.out]; exact hown7', Lib.hid hap3, hrow3, Lib.hid hqs3, hB3⟩
  ·obtain rfl : k = L := by omega
   have hge : ¬ (k : Int) < k := by omega
   have hsm := sum_any ua k uc (textCs wn cs k) wr (by omega) (fun x hx => by
     obtain ⟨q, hq, rfl⟩ := List.mem_map.1 hx
     have hp := HLP.out q
     unfold leastC
     cases h : leastQ wn q cs with
     | nil => simp
     | cons y ys => have := HBD.out q y (by rw [h]; simp); simp; omega) (Rd.of_own hown7)
   have HSM := Lib.hid hsm; clear hsm
   go_wp2_with (go_at_call 98; refine HSM.out.mono ?_; rintro e w1 ⟨rfl, rfl⟩)
   refine bodyPost_ret (v := .tuple #[.slice va k vc, .int .i64 (textM wn cs k : Nat), .int .i64 (sumI (textCs wn cs k)), .int .i64 0]) (by simp [results, Tryz.results51, go_sem]) rfl ?_
   exact ⟨_, rfl, rs, hown, hrows.out, hB⟩
end
section
open Go.RowKit Go.Lib
theorem Rd.elQU {w : World} {B : Nat} {A : Option Addr} {n k : Nat} {l : List QU} (h : Rd w B 3 A n (l.flatMap QU.cells)) (hk : k < n) : ∃ b off, ∃ hz : k < l.length, A = some ⟨b, off, none⟩ ∧ b < B ∧ w.cell? ⟨b, off + k * 3, none⟩ = some ((QU.cells l[k])[0]'(by simp [QU.cells])) ∧ w.cell? ⟨b, off + k * 3 + 1, none⟩ = some ((QU.cells l[k])[1]'(by simp [QU.cells])) ∧ w.cell? ⟨b, off + k * 3 + 2, none⟩ = some ((QU.cells l[k])[2]'(by simp [QU.cells])) := by
 have hl := h.lenQ
 obtain ⟨b, off, rfl, hb, hc⟩ := h.2 (by omega)
 refine ⟨b, off, by omega, rfl, hb, ?_, ?_, ?_⟩
 ·exact hc (k * 3) _ (by have := flatQ l k 0 (by omega) (by omega); rw [Nat.add_zero] at this; rw [this]; rfl)
 ·exact hc (k * 3 + 1) _ (by rw [flatQ l k 1 (by omega) (by omega)]; rfl)
 ·exact hc (k * 3 + 2) _ (by rw [flatQ l k 2 (by omega) (by omega)]; rfl)
def zcQU : Array Value := #[.int .i64 0, .int .i64 0, .int .i64 0]
def acQU (o : Option QU) : Array Value := match o with | some x => (match x with | ⟨cp, ln, lf⟩ => #[.int .i64 cp, .int .i64 ln, .int .i64 lf]) | none => zcQU
def anQU (o : Option QU) : Int := match o with | some x => QU.left x | none => 0
def brQU (o : Option QU) : Ending := .returned (.tuple #[.agg (acQU o), .bool o.isSome])
theorem cost_QU (cp ln lf : Int) (w : World) : Calls Tryz.prog 108 #[.agg #[.int .i64 cp, .int .i64 ln, .int .i64 lf]] w fun e w' => e = .returned (.int .i64 lf) ∧ Below w.heap.size w w' := by
 have hX := Blk.new w 152 #[.int .i64 cp, .int .i64 ln, .int .i64 lf]
 have qX := fun i => hX.cell i
 have hB : Below w.heap.size w (w.alloc (.cells #[.int .i64 cp, .int .i64 ln, .int .i64 lf] 152)) := (Below.refl _ _).alloc (Nat.le_refl _) _
 go_enter Tryz.func108, Tryz.ntmps108
 go_wp2_with fail
 go_ret
 exact ⟨rfl, hB⟩
theorem best_QU (A : Option Addr) (n cap : Nat) (ms : List QU) (w : World) (hn : n ≤ 1000000) (hr : Rd w w.heap.size 3 A n (ms.flatMap QU.cells)) :
  Calls Tryz.prog 106 #[.slice A n cap, .func (.func 108) #[] #[]] w fun e w' => e = brQU (bestI QU.left ms) ∧ Below w.heap.size w w' := by
 have hcf : ∀ (a : Array Value) (w : World), Sem.run Tryz.prog (callFunc 108 a) w = .ok (Next.enter 108 a) w := fun _ _ => rfl
 have hlen := hr.lenQ
 have hB : Below w.heap.size w ((w.alloc (.cells #[.int .i64 0, .int .i64 0, .int .i64 0] 152)).alloc (.cells #[.int .i64 0, .int .i64 0, .int .i64 0] 152)) := ((Below.refl _ _).alloc (Nat.le_refl _) _).alloc (by simp only [World.size_alloc]; omega) _
 have h4 : Blk ((w.alloc (.cells #[.int .i64 0, .int .i64 0, .int .i64 0] 152)).alloc (.cells #[.int .i64 0, .int .i64 0, .int .i64 0] 152)) w.heap.size 152 #[.int .i64 0, .int .i64 0, .int .i64 0] := blk2_0 w _ 152 _
 have h6 : Blk ((w.alloc (.cells #[.int .i64 0, .int .i64 0, .int .i64 0] 152)).alloc (.cells #[.int .i64 0, .int .i64 0, .int .i64 0] 152)) (w.heap.size + 1) 152 #[.int .i64 0, .int .i64 0, .int .i64 0] := blk2_1 w _ 152 _
 have HLEN := Lib.hid hlen; clear hlen
 go_enter Tryz.func106, Tryz.ntmps106
 go_wp2_with fail
 generalize ((w.alloc (.cells #[.int .i64 0, .int .i64 0, .int .i64 0] 152)).alloc (.cells #[.int .i64 0, .int .i64 0, .int .i64 0] 152)) = W0 at *
 go_loopg [7, 13] n (fun g l i wr => ∃ (k : Nat) (acc : Option QU) (z : Int), g = n - k ∧ k ≤ n ∧ i = .int .i64 k ∧ l = .int .i64 z ∧ Hid (acc = bestI QU.left (ms.take k)) ∧ Hid (z = anQU acc) ∧ Blk wr w.heap.size 152 #[.int .i64 0, .int .i64 0, .int .i64 0] ∧ (∃ x0 x1 x2, Hid (acQU acc = #[x0, x1, x2]) ∧ Blk wr (w.heap.size + 1) 152 #[x0, x1, x2]) ∧ Below w.heap.size w wr)
 case atStart => exact ⟨0, none, 0, rfl, Nat.zero_le _, rfl, rfl, Lib.hid rfl, Lib.hid rfl, h4, ⟨_, _, _, Lib.hid rfl, h6⟩, hB⟩
 case round =>
  clear h4 h6 hB
  obtain ⟨k, acc, z, hg, hk, rfl, rfl, hacc, hz, h4, ⟨x0, x1, x2, hxx, h6⟩, hB⟩ := hrel
  have HG := Lib.hid hg; clear hg
  rename World => wr
  by_cases hlt : k < n
  ·have hlti : (k : Int) < n := by omega
   obtain ⟨gb, off, hzl, rfl, hgb, hc0, hc1, hc2⟩ := (hr.below hB).elQU hlt
   have htk : ms.take (k + 1) = ms.take k ++ [ms[k]] := List.take_succ_eq_append_getElem hzl
   generalize ms[k] = m at *
   have HTK := Lib.hid htk; clear htk hzl
   obtain ⟨cp, ln, lf⟩ := m
   simp only [QU.cells, List.getElem_cons_zero, List.getElem_cons_succ] at hc0 hc1 hc2
   have hl4 := h4.lt; have hl6 := h6.lt; have hs := hB.size
   by_cases hk0 : k = 0
   ·have hk0b : ((k : Int) == 0) = true := by rw [beq_iff_eq]; omega
    have hac : acc = none := by rw [hacc.out, hk0]; rfl
    have HAC := Lib.hid hac; clear hac hk0
    go_wp2_with (go_at_call 108; refine (cost_QU cp ln lf _).mono ?_; rintro e w1 ⟨rfl, hb1⟩; have hX := (Blk.new wr 152 #[.int .i64 cp, .int .i64 ln, .int .i64 lf]).below hb1 (by simp only [World.size_alloc]; omega); replace h4 := (h4.alloc (.cells #[.int .i64 cp, .int .i64 ln, .int .i64 lf] 152)).below hb1 (by simp only [World.size_alloc]; omega); replace h6 := (h6.alloc (.cells #[.int .i64 cp, .int .i64 ln, .int .i64 lf] 152)).below hb1 (by simp only [World.size_alloc]; omega); replace hB := (hB.alloc hB.size (.cells #[.int .i64 cp, .int .i64 ln, .int .i64 lf] 152)).trans (hb1.mono (by have := hB.size; simp only [World.size_alloc]; omega)); have qX := fun i => hX.cell i; have q6 := fun i => h6.cell i; have f6 := fun i => h6.frozen i; have l6 := h6.lt; clear hb1)
    clear qX q6 f6 l6
    replace h6 := h6.set_ 0 (.int .i64 cp); replace h4 := h4.far (p := ⟨w.heap.size + 1, 0, none⟩) (show w.heap.size ≠ w.heap.size + 1 by omega) (.int .i64 cp); replace hB := hB.setCell (p := ⟨w.heap.size + 1, 0, none⟩) (Nat.le_succ _) (.int .i64 cp)
    replace h6 := h6.set_ 1 (.int .i64 ln); replace h4 := h4.far (p := ⟨w.heap.size + 1, 1, none⟩) (show w.heap.size ≠ w.heap.size + 1 by omega) (.int .i64 ln); replace hB := hB.setCell (p := ⟨w.heap.size + 1, 1, none⟩) (Nat.le_succ _) (.int .i64 ln)
    replace h6 := h6.set_ 2 (.int .i64 lf); replace h4 := h4.far (p := ⟨w.heap.size + 1, 2, none⟩) (show w.heap.size ≠ w.heap.size + 1 by omega) (.int .i64 lf); replace hB := hB.setCell (p := ⟨w.heap.size + 1, 2, none⟩) (Nat.le_succ _) (.int .i64 lf)
    go_roundg (n - (k + 1))
    case measure => rw [HG.out]; omega
    case rel => exact ⟨k + 1, some ⟨cp, ln, lf⟩, lf, rfl, by omega, by go_num, rfl, Lib.hid (by rw [HTK.out, bestI_snoc, ← hacc.out]; rw [HAC.out]), Lib.hid rfl, h4, ⟨_, _, _, Lib.hid rfl, h6⟩, hB⟩
   ·have hk0b : ((k : Int) == 0) = false := by rw [beq_eq_false_iff_ne]; omega
    have hne : ms.take k ≠ [] := fun e => by have := congrArg List.length e; rw [List.length_take, List.length_nil, HLEN.out] at this; omega
    obtain ⟨am, hac⟩ := bestI_some QU.left hne
    rw [← hacc.out] at hac
    have hzc : z = QU.left am := by rw [hz.out, hac]; rfl
    have HAC := Lib.hid hac; have HZC := Lib.hid hzc; clear hac hne hk0 hzc
    by_cases hcl : lf < z
    ·have HNL := Lib.hid (show QU.left ⟨cp, ln, lf⟩ < QU.left am from by rw [← HZC.out]; exact hcl)
     go_wp2_with (go_at_call 108; refine (cost_QU cp ln lf _).mono ?_; rintro e w1 ⟨rfl, hb1⟩; have hX := (Blk.new wr 152 #[.int .i64 cp, .int .i64 ln, .int .i64 lf]).below hb1 (by simp only [World.size_alloc]; omega); replace h4 := (h4.alloc (.cells #[.int .i64 cp, .int .i64 ln, .int .i64 lf] 152)).below hb1 (by simp only [World.size_alloc]; omega); replace h6 := (h6.alloc (.cells #[.int .i64 cp, .int .i64 ln, .int .i64 lf] 152)).below hb1 (by simp only [World.size_alloc]; omega); replace hB := (hB.alloc hB.size (.cells #[.int .i64 cp, .int .i64 ln, .int .i64 lf] 152)).trans (hb1.mono (by have := hB.size; simp only [World.size_alloc]; omega)); have qX := fun i => hX.cell i; have q6 := fun i => h6.cell i; have f6 := fun i => h6.frozen i; have l6 := h6.lt; clear hb1)
     clear qX q6 f6 l6
     replace h6 := h6.set_ 0 (.int .i64 cp); replace h4 := h4.far (p := ⟨w.heap.size + 1, 0, none⟩) (show w.heap.size ≠ w.heap.size + 1 by omega) (.int .i64 cp); replace hB := hB.setCell (p := ⟨w.heap.size + 1, 0, none⟩) (Nat.le_succ _) (.int .i64 cp)
     replace h6 := h6.set_ 1 (.int .i64 ln); replace h4 := h4.far (p := ⟨w.heap.size + 1, 1, none⟩) (show w.heap.size ≠ w.heap.size + 1 by omega) (.int .i64 ln); replace hB := hB.setCell (p := ⟨w.heap.size + 1, 1, none⟩) (Nat.le_succ _) (.int .i64 ln)
     replace h6 := h6.set_ 2 (.int .i64 lf); replace h4 := h4.far (p := ⟨w.heap.size + 1, 2, none⟩) (show w.heap.size ≠ w.heap.size + 1 by omega) (.int .i64 lf); replace hB := hB.setCell (p := ⟨w.heap.size + 1, 2, none⟩) (Nat.le_succ _) (.int .i64 lf)
     go_roundg (n - (k + 1))
     case measure => rw [HG.out]; omega
     case rel => exact ⟨k + 1, some ⟨cp, ln, lf⟩, lf, rfl, by omega, by go_num, rfl, Lib.hid (by rw [HTK.out, bestI_snoc, ← hacc.out]; rw [HAC.out]; simp only; rw [if_pos (by have := HNL.out; omega)]), Lib.hid rfl, h4, ⟨_, _, _, Lib.hid rfl, h6⟩, hB⟩
    ·have HNL := Lib.hid (show ¬ QU.left ⟨cp, ln, lf⟩ < QU.left am from by rw [← HZC.out]; exact hcl)
     go_wp2_with (go_at_call 108; refine (cost_QU cp ln lf _).mono ?_; rintro e w1 ⟨rfl, hb1⟩; have hX := (Blk.new wr 152 #[.int .i64 cp, .int .i64 ln, .int .i64 lf]).below hb1 (by simp only [World.size_alloc]; omega); replace h4 := (h4.alloc (.cells #[.int .i64 cp, .int .i64 ln, .int .i64 lf] 152)).below hb1 (by simp only [World.size_alloc]; omega); replace h6 := (h6.alloc (.cells #[.int .i64 cp, .int .i64 ln, .int .i64 lf] 152)).below hb1 (by simp only [World.size_alloc]; omega); replace hB := (hB.alloc hB.size (.cells #[.int .i64 cp, .int .i64 ln, .int .i64 lf] 152)).trans (hb1.mono (by have := hB.size; simp only [World.size_alloc]; omega)); have qX := fun i => hX.cell i; have q6 := fun i => h6.cell i; have f6 := fun i => h6.frozen i; have l6 := h6.lt; clear hb1)
     clear qX q6 f6 l6
     go_roundg (n - (k + 1))
     case measure => rw [HG.out]; omega
     case rel => exact ⟨k + 1, acc, z, rfl, by omega, by go_num, rfl, Lib.hid (by rw [HTK.out, bestI_snoc, ← hacc.out, HAC.out]; simp only; rw [if_neg (by have := HNL.out; omega)]), hz, h4, ⟨_, _, _, hxx, h6⟩, hB⟩
  ·obtain rfl : k = n := by omega
   have htk : ms.take k = ms := List.take_of_length_le (by have := HLEN.out; omega)
   have hfin : acc = bestI QU.left ms := by rw [hacc.out, htk]
   have HFIN := Lib.hid hfin; clear hfin htk
   cases acc with
   | none =>
    have hk0 : k = 0 := by
     have h1 : ms = [] := (bestI_none QU.left ms).1 HFIN.out.symm
     have := HLEN.out
     rw [h1] at this
     exact this.symm
    have h := hxx.out
    simp only [acQU, zcQU, Array.mk.injEq, List.cons.injEq, and_true] at h
    obtain ⟨rfl, rfl, rfl⟩ := h
    have hk0i : ¬ (0 : Int) < k := by omega
    have HK0 := Lib.hid hk0; clear hk0
    have q6 := fun i => h6.cell i
    have q4 := fun i => h4.cell i; have f4 := fun i => h4.frozen i; have l4 := h4.lt
    go_wp2_with fail
    clear q6 q4 f4 l4
    replace h4 := h4.set_ 0 (.int .i64 0); replace hB := hB.setCell (p := ⟨w.heap.size, 0, none⟩) (Nat.le_refl _) (.int .i64 0)
    replace h4 := h4.set_ 1 (.int .i64 0); replace hB := hB.setCell (p := ⟨w.heap.size, 1, none⟩) (Nat.le_refl _) (.int .i64 0)
    replace h4 := h4.set_ 2 (.int .i64 0); replace hB := hB.setCell (p := ⟨w.heap.size, 2, none⟩) (Nat.le_refl _) (.int .i64 0)
    replace h4 : Blk ((((((wr).setCell ⟨w.heap.size, 0, none⟩ (.int .i64 0))).setCell ⟨w.heap.size, 1, none⟩ (.int .i64 0))).setCell ⟨w.heap.size, 2, none⟩ (.int .i64 0)) w.heap.size 152 #[.int .i64 0, .int .i64 0, .int .i64 0] := h4
    generalize ((((((wr).setCell ⟨w.heap.size, 0, none⟩ (.int .i64 0))).setCell ⟨w.heap.size, 1, none⟩ (.int .i64 0))).setCell ⟨w.heap.size, 2, none⟩ (.int .i64 0)) = w9 at *
    have hq9 := fun i => h4.cell i
    refine bodyPost_ret (v := .tuple #[.agg #[.int .i64 0, .int .i64 0, .int .i64 0], .bool false]) ?_ rfl ⟨by rw [← HFIN.out]; rfl, hB⟩
    simp [results, Tryz.results106, go_sem, hq9, HK0.out]
   | some m =>
    obtain ⟨cp, ln, lf⟩ := m
    have hk0 : 0 < k := by
     rcases Nat.eq_zero_or_pos k with h | h
     ·have h1 : ms = [] := List.length_eq_zero_iff.1 (by have := HLEN.out; omega)
      have h2 := HFIN.out
      rw [h1] at h2
      cases h2
     ·exact h
    have h := hxx.out
    simp only [acQU, Array.mk.injEq, List.cons.injEq, and_true] at h
    obtain ⟨rfl, rfl, rfl⟩ := h
    have hk0i : (0 : Int) < k := by omega
    have q6 := fun i => h6.cell i
    have q4 := fun i => h4.cell i; have f4 := fun i => h4.frozen i; have l4 := h4.lt
    go_wp2_with fail
    clear q6 q4 f4 l4
    replace h4 := h4.set_ 0 (.int .i64 cp); replace hB := hB.setCell (p := ⟨w.heap.size, 0, none⟩) (Nat.le_refl _) (.int .i64 cp)
    replace h4 := h4.set_ 1 (.int .i64 ln); replace hB := hB.setCell (p := ⟨w.heap.size, 1, none⟩) (Nat.le_refl _) (.int .i64 ln)
    replace h4 := h4.set_ 2 (.int .i64 lf); replace hB := hB.setCell (p := ⟨w.heap.size, 2, none⟩) (Nat.le_refl _) (.int .i64 lf)
    replace h4 : Blk ((((((wr).setCell ⟨w.heap.size, 0, none⟩ (.int .i64 cp))).setCell ⟨w.heap.size, 1, none⟩ (.int .i64 ln))).setCell ⟨w.heap.size, 2, none⟩ (.int .i64 lf)) w.heap.size 152 #[.int .i64 cp, .int .i64 ln, .int .i64 lf] := h4
    generalize ((((((wr).setCell ⟨w.heap.size, 0, none⟩ (.int .i64 cp))).setCell ⟨w.heap.size, 1, none⟩ (.int .i64 ln))).setCell ⟨w.heap.size, 2, none⟩ (.int .i64 lf)) = w9 at *
    have hq9 := fun i => h4.cell i
    refine bodyPost_ret (v := .tuple #[.agg #[.int .i64 cp, .int .i64 ln, .int .i64 lf], .bool true]) ?_ rfl ⟨by rw [← HFIN.out]; rfl, hB⟩
    simp [results, Tryz.results106, go_sem, hq9]
end
end Go.Proofs.YtekmnelpkogppaaGreatDoor
