import Derived.Test.YtekmnelpkogppaaGreatDoorProg
import Derived.Test.YtekmnelpkogppaaGreatDoorKy0
import Derived.WalkKit
import Derived.WalkSpells
import Derived.WalkLawsBesides
import Derived.BigQuiet
import Derived.Deep.QuietTactic
import Derived.Deep.DeepFit
import Derived.Deep.DeepMust
import Derived.Maps.AppendAt
import Derived.Deep.AppendLies
import Derived.RegionTactic
import Derived.OwnWalk
import Derived.Lib.Hide
import Derived.Laws.EntriesVeiled
import Derived.OrdersHeld
import Derived.Deep.LoopGhost
import Derived.Deep.DeepCutAuto
import Derived.Deep.CutBlock
import Derived.Deep.RegionHeld3
import Derived.OneCell
import Derived.Laws.BytesArg
import Derived.Laws.RangeAny
import Derived.Laws.Runes
import Derived.LoopTactic
import Derived.WalkMore
import Derived.Maps.OwnOps
import Derived.Maps.OwnSet
import Derived.Laws.MakeOwn
import Derived.RangeFuncNested
import Derived.RangeFuncBound
import Derived.RangeFuncCalls
import Derived.RangeFuncLeaves
import Derived.Shelf.Abstract
import Derived.OwnWalkIn
import Derived.TacticsInMore
import Derived.LoopNIn
import Derived.LoopIn
import Derived.Sort.LoopGhostIn
import Derived.Recover
import Derived.Laws.OwnMore
import Derived.Lib.OwnBridge
import Derived.Sort.Walk7a
import Derived.Lib.ItoaNum
import Derived.Laws.Bits64b
import Derived.Laws.IdiomStrings
import Derived.ProofKit
import Derived.Carry
import Derived.HandedShaped
import Derived.Deep.Strs
import Derived.Deep.Fields
import Derived.OpenShut
import Derived.Deep.Slices
import Derived.Lib.LaidTab
import Derived.Lib.SplitLaws
import Derived.MakeChecks
import Derived.Lib.ConvBytes
import Derived.Lib.Repeat
import Derived.Lib.Join
import Derived.Lib.SlicesS
import Derived.Shelf.SlicesE.Kit
set_option linter.unusedVariables false
set_option linter.unusedSimpArgs false
set_option maxRecDepth 100000
set_option maxHeartbeats 40000000
namespace Go.Proofs.YtekmnelpkogppaaGreatDoor
section
open Go.RowKit Go.Lib
theorem DZ_size (x : Int) (h0 : 0 ≤ x) (h1 : x < 1000) : (DZ x).size ≤ 3 := dS_size x.toNat (by omega)
theorem textOf_end (n : Nat) (hn : n < 1000) (m : Int) (w : World) (h : Env m w) :
  Calls Tryz.prog 158 #[.iface 258 (.agg #[.int .i64 n])] w fun e w' => e = .returned (.string (jnS [wEnd, dgt3 n] ⟨#[32]⟩)) ∧ Below w.heap.size w w' := by
 obtain ⟨i9, hi, hz0, hz1', hz2'⟩ := info_parts info9
 have ha0 : ∀ w, (Instr.typeAssert (.iface 258 (.agg #[.int .i64 n])) 219 251 true).run Tryz.prog w = .ok (.tuple #[.agg #[.int .i64 0], .bool false]) w := fun _ => by kernel_rfl
 have ha1 : ∀ w, (Instr.typeAssert (.iface 258 (.agg #[.int .i64 n])) 219 255 true).run Tryz.prog w = .ok (.tuple #[.agg #[.slice none 0 0], .bool false]) w := fun _ => by kernel_rfl
 have ha2 : ∀ w, (Instr.typeAssert (.iface 258 (.agg #[.int .i64 n])) 219 258 true).run Tryz.prog w = .ok (.tuple #[.agg #[.int .i64 n], .bool true]) w := fun _ => by kernel_rfl
 have hm : ∀ w, (method 425 258 (.agg #[.int .i64 n]) "kelir/version.first").run Tryz.prog w = .ok (260, .agg #[.int .i64 n]) w := fun _ => by kernel_rfl
 have hI := fun wx hx => itoa_any n (by omega) m wx hx
 have hj := fun (A : Option Addr) (c : Nat) (wx : World) hc hr => jn_any A 2 c [wEnd, dgt3 n] ⟨#[32]⟩ wx (by omega) (by omega) hc (fun x hx => by
   rcases (by simpa using hx : x = wEnd ∨ x = dgt3 n) with rfl | rfl
   · decide
   · exact (show 3 ≤ 100000 by omega)) (by decide) hr
 have HJ := Lib.hid hj; clear hj
 have hword := word_end
 generalize wEnd = wd at *
 have hB := Below.refl w.heap.size w
 rcases (show n < 10 ∨ (¬ n < 10 ∧ n < 100) ∨ 100 ≤ n by omega) with h1 | ⟨h1, h2⟩ | h1
 ·have hd : (decDigits n).toArray = #[dgt n] := by rw [decDigits_one h1]; rfl
  have hr : (⟨(repeatL [48] 2).toArray⟩ : ByteArray) ++ ⟨#[dgt n]⟩ = dgt3 n := by
   rw [ba_cons]; unfold dgt3
   rw [show n / 100 = 0 by omega, show n / 10 % 10 = 0 by omega, show n % 10 = n by omega]; rfl
  rw [hd] at hI
  have hsz : ByteArray.size ⟨#[dgt n]⟩ = 1 := rfl
  obtain ⟨dd, hdd⟩ : ∃ dd : ByteArray, dd = ⟨#[dgt n]⟩ := ⟨_, rfl⟩
  rw [← hdd] at hI hr hsz
  obtain ⟨rr, hrr⟩ : ∃ rr : ByteArray, rr = ⟨(repeatL [48] 2).toArray⟩ := ⟨_, rfl⟩
  have hrp : ∀ wx : World, Calls Tryz.prog 192 #[.string ⟨#[48]⟩, .int .i64 2] wx fun e w' => e = .returned (.string rr) ∧ Below wx.heap.size wx w' := fun wx => by rw [hrr]; exact Tryz.strings_Repeat ⟨#[48]⟩ 2 _ (by omega) (by decide)
  rw [← hrr] at hr
  have hrs : rr.size = 2 := by rw [hrr]; rfl
  have HI := Lib.hid hI; have HR := Lib.hid hr; have HRP := Lib.hid hrp; clear hI hr hd hrp hdd hrr
  go_enter Tryz.func158, Tryz.ntmps158
  go_upto_region 15 with (first
  | (go_at_call 260; refine (first_end _ _).mono ?_; rintro e w1 ⟨rfl, hb⟩; replace hB := hB.trans (hb.mono hB.size); clear hb)
  | (go_at_call 190; refine (hword _).mono ?_; rintro e w2 ⟨rfl, rfl⟩; (have hown : (w1.alloc (.cells #[.string wd] 9)).ownsRow w.heap.size 9 1 (.slice (some ⟨w1.heap.size, 0, none⟩) 1 1) 1 [.string wd] := World.ownsRow_lit (base := w.heap.size) (e := 9) (size := 1) w1 #[.string wd] 1 hB.size (by unfold maxLen; omega) rfl); replace hB := hB.alloc hB.size (.cells #[.string wd] 9)))
  replace hown := hown.alloc (.cells #[.int .i64 n] 258)
  replace hB := hB.alloc hB.size (.cells #[.int .i64 n] 258)
  have hS := Blk.new (w1.alloc (.cells #[.string wd] 9)) 258 #[.int .i64 n]
  obtain ⟨g, hg⟩ : ∃ g, g = w1.heap.size := ⟨_, rfl⟩
  simp only [World.size_alloc] at hS
  rw [← hg] at hown hS ⊢
  clear hg
  generalize ((w1.alloc (.cells #[.string wd] 9)).alloc (.cells #[.int .i64 n] 258)) = W1 at *
  have qS := fun i => hS.cell i
  go_upto_region 17 with (first
    | (go_at_call 191; refine (HI.out _ (h.below hB)).mono ?_; rintro e w3 ⟨rfl, hb⟩; replace hown := ownsRow_below' hown hb; replace hB := hB.trans (hb.mono hB.size); clear hb qS hS)
    | (go_at_call 192; refine (HRP.out _).mono ?_; rintro e w4 ⟨rfl, hb⟩; replace hown := ownsRow_below' hown hb; replace hB := hB.trans (hb.mono hB.size); clear hb)
    | (at_builtin; refine wpList_append_any _ rfl _ _ 173 rfl w.heap.size 9 i9 (.string ByteArray.empty) 1 16 Tryz.underlying173 hi hz0 hz1' hz2' rfl (by decide) (.slice (some ⟨g, 0, none⟩) 1 1) 1 [.string wd] rfl (hown.alloc _) (w4.heap.size + 1) (some ⟨w4.heap.size, 0, none⟩) 1 1 [.string (rr ++ dd)] rfl (Rd.blkN (Blk.new w4 9 #[.string (rr ++ dd)]) rfl (Nat.lt_succ_self _)).reads (by simp [Value.oneCell']) (by unfold maxLen; omega) (by omega) (by have := hB.size; simp only [World.size_alloc]; omega) (fun v' w' hown' hgrow hob => ?_)))
  have hB2 := (hB.alloc hB.size (.cells #[.string (rr ++ dd)] 9)).grown hgrow (by have := hB.size; simp only [World.size_alloc]; omega) (fun g hg => ((hown.alloc (.cells #[.string (rr ++ dd)] 9)).lt g hg).1)
  obtain ⟨va, vc, rfl⟩ := own_slice hown'
  rw [HR.out] at hown'
  go_wp2_with (first
    | (go_at_call 159; refine (HJ.out va vc _ (own_le0 hown') (Rd.of_own hown')).mono ?_; rintro e w5 ⟨rfl, hb⟩; replace hB2 := hB2.trans (hb.mono hB2.size)))
  go_ret
  exact ⟨rfl, hB2⟩
 ·have hd : (decDigits n).toArray = #[dgt (n / 10), dgt (n % 10)] := by rw [decDigits_two h1 h2]; rfl
  have hr : (⟨(repeatL [48] 1).toArray⟩ : ByteArray) ++ ⟨#[dgt (n / 10), dgt (n % 10)]⟩ = dgt3 n := by
   rw [ba_cons]; unfold dgt3
   rw [show n / 100 = 0 by omega, show n / 10 % 10 = n / 10 by omega]; rfl
  rw [hd] at hI
  have hsz : ByteArray.size ⟨#[dgt (n / 10), dgt (n % 10)]⟩ = 2 := rfl
  obtain ⟨dd, hdd⟩ : ∃ dd : ByteArray, dd = ⟨#[dgt (n / 10), dgt (n % 10)]⟩ := ⟨_, rfl⟩
  rw [← hdd] at hI hr hsz
  obtain ⟨rr, hrr⟩ : ∃ rr : ByteArray, rr = ⟨(repeatL [48] 1).toArray⟩ := ⟨_, rfl⟩
  have hrp : ∀ wx : World, Calls Tryz.prog 192 #[.string ⟨#[48]⟩, .int .i64 1] wx fun e w' => e = .returned (.string rr) ∧ Below wx.heap.size wx w' := fun wx => by rw [hrr]; exact Tryz.strings_Repeat ⟨#[48]⟩ 1 _ (by omega) (by decide)
  rw [← hrr] at hr
  have hrs : rr.size = 1 := by rw [hrr]; rfl
  have HI := Lib.hid hI; have HR := Lib.hid hr; have HRP := Lib.hid hrp; clear hI hr hd hrp hdd hrr
  go_enter Tryz.func158, Tryz.ntmps158
  go_upto_region 15 with (first
  | (go_at_call 260; refine (first_end _ _).mono ?_; rintro e w1 ⟨rfl, hb⟩; replace hB := hB.trans (hb.mono hB.size); clear hb)
  | (go_at_call 190; refine (hword _).mono ?_; rintro e w2 ⟨rfl, rfl⟩; (have hown : (w1.alloc (.cells #[.string wd] 9)).ownsRow w.heap.size 9 1 (.slice (some ⟨w1.heap.size, 0, none⟩) 1 1) 1 [.string wd] := World.ownsRow_lit (base := w.heap.size) (e := 9) (size := 1) w1 #[.string wd] 1 hB.size (by unfold maxLen; omega) rfl); replace hB := hB.alloc hB.size (.cells #[.string wd] 9)))
  replace hown := hown.alloc (.cells #[.int .i64 n] 258)
  replace hB := hB.alloc hB.size (.cells #[.int .i64 n] 258)
  have hS := Blk.new (w1.alloc (.cells #[.string wd] 9)) 258 #[.int .i64 n]
  obtain ⟨g, hg⟩ : ∃ g, g = w1.heap.size := ⟨_, rfl⟩
  simp only [World.size_alloc] at hS
  rw [← hg] at hown hS ⊢
  clear hg
  generalize ((w1.alloc (.cells #[.string wd] 9)).alloc (.cells #[.int .i64 n] 258)) = W1 at *
  have qS := fun i => hS.cell i
  go_upto_region 17 with (first
    | (go_at_call 191; refine (HI.out _ (h.below hB)).mono ?_; rintro e w3 ⟨rfl, hb⟩; replace hown := ownsRow_below' hown hb; replace hB := hB.trans (hb.mono hB.size); clear hb qS hS)
    | (go_at_call 192; refine (HRP.out _).mono ?_; rintro e w4 ⟨rfl, hb⟩; replace hown := ownsRow_below' hown hb; replace hB := hB.trans (hb.mono hB.size); clear hb)
    | (at_builtin; refine wpList_append_any _ rfl _ _ 173 rfl w.heap.size 9 i9 (.string ByteArray.empty) 1 16 Tryz.underlying173 hi hz0 hz1' hz2' rfl (by decide) (.slice (some ⟨g, 0, none⟩) 1 1) 1 [.string wd] rfl (hown.alloc _) (w4.heap.size + 1) (some ⟨w4.heap.size, 0, none⟩) 1 1 [.string (rr ++ dd)] rfl (Rd.blkN (Blk.new w4 9 #[.string (rr ++ dd)]) rfl (Nat.lt_succ_self _)).reads (by simp [Value.oneCell']) (by unfold maxLen; omega) (by omega) (by have := hB.size; simp only [World.size_alloc]; omega) (fun v' w' hown' hgrow hob => ?_)))
  have hB2 := (hB.alloc hB.size (.cells #[.string (rr ++ dd)] 9)).grown hgrow (by have := hB.size; simp only [World.size_alloc]; omega) (fun g hg => ((hown.alloc (.cells #[.string (rr ++ dd)] 9)).lt g hg).1)
  obtain ⟨va, vc, rfl⟩ := own_slice hown'
  rw [HR.out] at hown'
  go_wp2_with (first
    | (go_at_call 159; refine (HJ.out va vc _ (own_le0 hown') (Rd.of_own hown')).mono ?_; rintro e w5 ⟨rfl, hb⟩; replace hB2 := hB2.trans (hb.mono hB2.size)))
  go_ret
  exact ⟨rfl, hB2⟩
 ·have hd : (decDigits n).toArray = #[dgt (n / 100), dgt (n / 10 % 10), dgt (n % 10)] := by rw [dec_three h1 hn]; rfl
  have hr : (⟨(repeatL [48] 0).toArray⟩ : ByteArray) ++ ⟨#[dgt (n / 100), dgt (n / 10 % 10), dgt (n % 10)]⟩ = dgt3 n := by
   rw [ba_cons]; unfold dgt3
   rfl
  rw [hd] at hI
  have hsz : ByteArray.size ⟨#[dgt (n / 100), dgt (n / 10 % 10), dgt (n % 10)]⟩ = 3 := rfl
  obtain ⟨dd, hdd⟩ : ∃ dd : ByteArray, dd = ⟨#[dgt (n / 100), dgt (n / 10 % 10), dgt (n % 10)]⟩ := ⟨_, rfl⟩
  rw [← hdd] at hI hr hsz
  obtain ⟨rr, hrr⟩ : ∃ rr : ByteArray, rr = ⟨(repeatL [48] 0).toArray⟩ := ⟨_, rfl⟩
  have hrp : ∀ wx : World, Calls Tryz.prog 192 #[.string ⟨#[48]⟩, .int .i64 0] wx fun e w' => e = .returned (.string rr) ∧ Below wx.heap.size wx w' := fun wx => by rw [hrr]; exact Tryz.strings_Repeat ⟨#[48]⟩ 0 _ (by omega) (by decide)
  rw [← hrr] at hr
  have hrs : rr.size = 0 := by rw [hrr]; rfl
  have HI := Lib.hid hI; have HR := Lib.hid hr; have HRP := Lib.hid hrp; clear hI hr hd hrp hdd hrr
  go_enter Tryz.func158, Tryz.ntmps158
  go_upto_region 15 with (first
  | (go_at_call 260; refine (first_end _ _).mono ?_; rintro e w1 ⟨rfl, hb⟩; replace hB := hB.trans (hb.mono hB.size); clear hb)
  | (go_at_call 190; refine (hword _).mono ?_; rintro e w2 ⟨rfl, rfl⟩; (have hown : (w1.alloc (.cells #[.string wd] 9)).ownsRow w.heap.size 9 1 (.slice (some ⟨w1.heap.size, 0, none⟩) 1 1) 1 [.string wd] := World.ownsRow_lit (base := w.heap.size) (e := 9) (size := 1) w1 #[.string wd] 1 hB.size (by unfold maxLen; omega) rfl); replace hB := hB.alloc hB.size (.cells #[.string wd] 9)))
  replace hown := hown.alloc (.cells #[.int .i64 n] 258)
  replace hB := hB.alloc hB.size (.cells #[.int .i64 n] 258)
  have hS := Blk.new (w1.alloc (.cells #[.string wd] 9)) 258 #[.int .i64 n]
  obtain ⟨g, hg⟩ : ∃ g, g = w1.heap.size := ⟨_, rfl⟩
  simp only [World.size_alloc] at hS
  rw [← hg] at hown hS ⊢
  clear hg
  generalize ((w1.alloc (.cells #[.string wd] 9)).alloc (.cells #[.int .i64 n] 258)) = W1 at *
  have qS := fun i => hS.cell i
  go_upto_region 17 with (first
    | (go_at_call 191; refine (HI.out _ (h.below hB)).mono ?_; rintro e w3 ⟨rfl, hb⟩; replace hown := ownsRow_below' hown hb; replace hB := hB.trans (hb.mono hB.size); clear hb qS hS)
    | (go_at_call 192; refine (HRP.out _).mono ?_; rintro e w4 ⟨rfl, hb⟩; replace hown := ownsRow_below' hown hb; replace hB := hB.trans (hb.mono hB.size); clear hb)
    | (at_builtin; refine wpList_append_any _ rfl _ _ 173 rfl w.heap.size 9 i9 (.string ByteArray.empty) 1 16 Tryz.underlying173 hi hz0 hz1' hz2' rfl (by decide) (.slice (some ⟨g, 0, none⟩) 1 1) 1 [.string wd] rfl (hown.alloc _) (w4.heap.size + 1) (some ⟨w4.heap.size, 0, none⟩) 1 1 [.string (rr ++ dd)] rfl (Rd.blkN (Blk.new w4 9 #[.string (rr ++ dd)]) rfl (Nat.lt_succ_self _)).reads (by simp [Value.oneCell']) (by unfold maxLen; omega) (by omega) (by have := hB.size; simp only [World.size_alloc]; omega) (fun v' w' hown' hgrow hob => ?_)))
  have hB2 := (hB.alloc hB.size (.cells #[.string (rr ++ dd)] 9)).grown hgrow (by have := hB.size; simp only [World.size_alloc]; omega) (fun g hg => ((hown.alloc (.cells #[.string (rr ++ dd)] 9)).lt g hg).1)
  obtain ⟨va, vc, rfl⟩ := own_slice hown'
  rw [HR.out] at hown'
  go_wp2_with (first
    | (go_at_call 159; refine (HJ.out va vc _ (own_le0 hown') (Rd.of_own hown')).mono ?_; rintro e w5 ⟨rfl, hb⟩; replace hB2 := hB2.trans (hb.mono hB2.size)))
  go_ret
  exact ⟨rfl, hB2⟩
end
section
open Go.RowKit Go.Lib
theorem sumOf_any (A : Option Addr) (n cap : Nat) (rs : List ByteArray) (w : World) (hn : n ≤ 100000) (hs : ∀ r ∈ rs, r.size ≤ 100000) (hr : Rd w w.heap.size 1 A n (rs.map Value.string)) :
  Calls Tryz.prog 196 #[.slice A n cap] w fun e w' => e = .returned (.int .i64 (sumA rs 0 0)) ∧ w = w' := by
 have hlen := hr.len
 have HLEN := Lib.hid hlen; clear hlen
 go_enter Tryz.func196, Tryz.ntmps196
 go_wp2
 go_loop [3, 9] (fun s i => ∃ (k : Nat) (acc : Int), k ≤ n ∧ i = .int .i64 k ∧ s = .int .i64 acc ∧ sumA (rs.drop k) k acc = sumA rs 0 0) (fun _ i => n - (intOf i).toNat)
 case atStart => exact ⟨0, 0, Nat.zero_le _, rfl, rfl, rfl⟩
 case round =>
  obtain ⟨k, acc, hk, rfl, rfl, hacc⟩ := hrel
  by_cases hlt : k < n
  ·obtain ⟨cb, coff, hz, rfl, hcb, hcc⟩ := hr.atm hlt
   rw [sumA_drop _ _ _ hz] at hacc
   have hsz := hs _ (List.getElem_mem hz)
   generalize rs[k] = r at *
   have HACC := Lib.hid hacc; clear hacc
   go_wp2
   go_loop [3, 16] (fun s i => ∃ (q : Nat) (ac : Int), q ≤ r.size ∧ i = .int .i64 q ∧ s = .int .i64 ac ∧ sumB k (r.data.toList.drop q) q ac = sumB k r.data.toList 0 acc) (fun _ i => r.size - (intOf i).toNat)
   case atStart => exact ⟨0, acc, Nat.zero_le _, rfl, rfl, rfl⟩
   case round =>
    obtain ⟨q, ac, hq, rfl, rfl, hqc⟩ := hrel
    by_cases hqt : q < r.size
    ·have hql : q < r.data.toList.length := by rw [Array.length_toList]; exact hqt
     rw [sumB_drop _ _ _ _ hql] at hqc
     have hby : r.data.toList[q] = r[q] := Array.getElem_toList ..
     rw [hby] at hqc
     have HQC := Lib.hid hqc; clear hqc
     go_wp2
     go_round
     case rel => exact ⟨q + 1, _, by omega, by go_num, rfl, HQC.out⟩
     case measure => simp [intOf]; omega
    ·have hd : r.data.toList.drop q = [] := List.drop_of_length_le (by rw [Array.length_toList]; exact Nat.le_of_not_lt hqt)
     rw [hd, sumB] at hqc
     have HQC := Lib.hid hqc; clear hqc
     go_wp2
     go_round
     case rel => exact ⟨k + 1, ac, by omega, by go_num, rfl, by rw [HQC.out]; exact HACC.out⟩
     case measure => simp [intOf]; omega
  ·have hkn : k = n := by omega
   have hd : rs.drop k = [] := List.drop_of_length_le (by have := HLEN.out; omega)
   rw [hd, sumA] at hacc
   subst hacc
   go_wp2
   go_ret
   exact ⟨rfl, rfl⟩
theorem endOf_any (A : Option Addr) (n cap : Nat) (rs : List ByteArray) (s : Nat) (m : Int) (w : World) (hn : n ≤ 100000) (hs : ∀ r ∈ rs, r.size ≤ 100000) (hr : Rd w w.heap.size 1 A n (rs.map Value.string)) (hsum : sumA rs 0 0 = s) (h : Env m w) :
  Calls Tryz.prog 160 #[.slice A n cap] w fun e w' => e = .returned (.string (jnS [wEnd, dgt3 (s % 197)] ⟨#[32]⟩)) ∧ Below w.heap.size w w' := by
 have hmod : (s : Int).tmod 197 = ((s % 197 : Nat) : Int) := rfl
 have hlt : s % 197 < 1000 := by have := Nat.mod_lt s (show 0 < 197 by omega); omega
 have hS := fun wx hx => sumOf_any A n cap rs wx hn hs hx
 rw [hsum] at hS
 have HS := Lib.hid hS; clear hS hsum
 generalize s % 197 = q at *
 go_enter Tryz.func160, Tryz.ntmps160
 go_wp2_with (first
   | (go_at_call 196; refine (HS.out _ hr).mono ?_; rintro e w1 ⟨rfl, rfl⟩)
   | (go_at_call 158; refine (textOf_end q hlt m _ h).mono ?_; rintro e w1 ⟨rfl, hb1⟩))
 go_ret
 exact ⟨rfl, hb1⟩
end
section
open Go.RowKit Go.Lib
def lnT (l : VL) : ByteArray := if l.lost then wLost else jnS (wLine :: l.ws.map DZ) ⟨#[32]⟩
def copyB (c : VC) : List ByteArray := wCopy :: c.ls.map lnT
def linesB (wn : Nat) (cs : List VC) : List ByteArray := jnS [wBook, dS wn] ⟨#[32]⟩ :: cs.flatMap copyB
def endB (s : Nat) : ByteArray := jnS [wEnd, dgt3 (s % 197)] ⟨#[32]⟩
def txtB (L : List ByteArray) (s : Nat) : ByteArray := jnS (L ++ [endB s]) ⟨#[10]⟩ ++ ⟨#[10]⟩
end
section
open Go.RowKit Go.Lib
structure Off (O : Nat → Prop) (A B : World) : Prop where
 os : B.os = A.os
 tape : B.tape = A.tape
 output : B.output = A.output
 size : A.heap.size ≤ B.heap.size
 block : ∀ k, k < A.heap.size → ¬ O k → B.heap[k]? = A.heap[k]?
structure Held (O : Nat → Prop) (A B : World) : Prop where
 size : A.heap.size ≤ B.heap.size
 block : ∀ k, k < A.heap.size → O k → B.heap[k]? = A.heap[k]?
theorem Off.refl (O : Nat → Prop) (A : World) : Off O A A := ⟨rfl, rfl, rfl, Nat.le_refl _, fun _ _ _ => rfl⟩
theorem Held.refl (O : Nat → Prop) (A : World) : Held O A A := ⟨Nat.le_refl _, fun _ _ _ => rfl⟩
theorem Off.trans {O : Nat → Prop} {A B C : World} (h : Off O A B) (k : Off O B C) : Off O A C :=
 ⟨k.os.trans h.os, k.tape.trans h.tape, k.output.trans h.output, Nat.le_trans h.size k.size, fun i hi ho => (k.block i (Nat.lt_of_lt_of_le hi h.size) ho).trans (h.block i hi ho)⟩
theorem Held.trans {O : Nat → Prop} {A B C : World} (h : Held O A B) (k : Held O B C) : Held O A C :=
 ⟨Nat.le_trans h.size k.size, fun i hi ho => (k.block i (Nat.lt_of_lt_of_le hi h.size) ho).trans (h.block i hi ho)⟩
theorem Off.wide {O O' : Nat → Prop} {A B : World} (h : Off O A B) (ho : ∀ k, O k → O' k) : Off O' A B := ⟨h.os, h.tape, h.output, h.size, fun k hk hn => h.block k hk (fun hk' => hn (ho k hk'))⟩
theorem Held.slim {O O' : Nat → Prop} {A B : World} (h : Held O A B) (ho : ∀ k, O' k → O k) : Held O' A B := ⟨h.size, fun k hk hn => h.block k hk (ho k hn)⟩
theorem Off.alloc (O : Nat → Prop) (A : World) (o : Obj) : Off O A (A.alloc o) := ⟨rfl, rfl, rfl, by simp, fun k hk _ => Below.heap_alloc A o k hk⟩
theorem Held.alloc (O : Nat → Prop) (A : World) (o : Obj) : Held O A (A.alloc o) := ⟨by simp, fun k hk _ => Below.heap_alloc A o k hk⟩
theorem Off.of_grown {O : Nat → Prop} {A B : World} {row : Option Nat} (h : A.grownBy B row) (hr : ∀ k, row = some k → O k) : Off O A B :=
 ⟨h.os, h.tape, h.output, h.size, fun k hk hn => h.block k hk (fun e => hn (hr k e.symm))⟩
theorem Held.of_grown {O : Nat → Prop} {A B : World} {row : Option Nat} (h : A.grownBy B row) (hr : ∀ k, row = some k → ¬ O k) : Held O A B :=
 ⟨h.size, fun k hk hn => h.block k hk (fun e => hr k e.symm hn)⟩
theorem Off.of_below {O : Nat → Prop} {A B : World} (h : Below A.heap.size A B) : Off O A B := ⟨h.os, h.tape, h.output, h.size, fun k hk _ => h.block k hk⟩
theorem Held.of_below {O : Nat → Prop} {A B : World} (h : Below A.heap.size A B) : Held O A B := ⟨h.size, fun k hk _ => h.block k hk⟩
theorem Off.drew (O : Nat → Prop) (A : World) : Off O A A.drew := ⟨rfl, rfl, rfl, Nat.le_refl _, fun _ _ _ => rfl⟩
theorem Held.drew (O : Nat → Prop) (A : World) : Held O A A.drew := ⟨Nat.le_refl _, fun _ _ _ => rfl⟩
theorem Off.putObj {O : Nat → Prop} {A : World} {l : Nat} (hl : O l) (o : Obj) : Off O A (A.putObj l o) :=
 ⟨rfl, rfl, rfl, by simp, fun k _ hn => World.putObj_heap_other (fun e => hn (by rw [e]; exact hl))⟩
theorem Held.putObj {O : Nat → Prop} {A : World} {l : Nat} (hl : ¬ O l) (o : Obj) : Held O A (A.putObj l o) :=
 ⟨by simp, fun k _ hn => World.putObj_heap_other (fun e => hl (by rw [← e]; exact hn))⟩
theorem Held.setCell {O : Nat → Prop} {A : World} {p : Addr} (hl : ¬ O p.block) (u : Value) : Held O A (A.setCell p u) :=
 ⟨(KeepsWalks.setCell A p u).size, fun k _ hn => Below.heap_setCell A p u k (fun e => hl (by rw [← e]; exact hn))⟩
theorem Off.setCell {O : Nat → Prop} {A : World} {p : Addr} (hl : O p.block) (u : Value) : Off O A (A.setCell p u) :=
 ⟨rfl, rfl, rfl, (KeepsWalks.setCell A p u).size, fun k _ hn => Below.heap_setCell A p u k (fun e => hn (by rw [e]; exact hl))⟩
theorem Off.below {O : Nat → Prop} {A B : World} {m : Nat} (h : Off O A B) (hm : ∀ k, O k → m ≤ k) (hs : m ≤ A.heap.size) : Below m A B :=
 ⟨h.os, h.tape, h.output, h.size, fun k hk => h.block k (Nat.lt_of_lt_of_le hk hs) (fun ho => by have := hm k ho; omega)⟩
theorem Off.blk {O : Nat → Prop} {A B : World} {g : Nat} {t : TypeId} {cs : Array Value} (h : Off O A B) (hb : Blk A g t cs) (hg : ¬ O g) : Blk B g t cs := (h.block g hb.lt hg).trans hb
theorem Held.blk {O : Nat → Prop} {A B : World} {g : Nat} {t : TypeId} {cs : Array Value} (h : Held O A B) (hb : Blk A g t cs) (hg : O g) : Blk B g t cs := (h.block g hb.lt hg).trans hb
theorem ownsRow_at {A B : World} {base : Nat} {e : TypeId} {size n : Nat} {v : Value} {xs : List Value} (h : A.ownsRow base e size v n xs) (hk : ∀ g, v.ownBlock = some g → B.heap[g]? = A.heap[g]?) : B.ownsRow base e size v n xs := by
 refine ⟨h.1, h.2.imp id ?_⟩
 rintro ⟨g, cap, cur, hv, hb, hg, hr⟩
 exact ⟨g, cap, cur, hv, hb, (hk g (by rw [hv]; rfl)).trans hg, hr⟩
theorem Off.own {O : Nat → Prop} {A B : World} {base : Nat} {e : TypeId} {size n : Nat} {v : Value} {xs : List Value} (h : Off O A B) (ho : A.ownsRow base e size v n xs) (hn : ∀ g, v.ownBlock = some g → ¬ O g) : B.ownsRow base e size v n xs :=
 ownsRow_at ho (fun g hg => h.block g (ho.lt g hg).2 (hn g hg))
theorem Held.own {O : Nat → Prop} {A B : World} {base : Nat} {e : TypeId} {size n : Nat} {v : Value} {xs : List Value} (h : Held O A B) (ho : A.ownsRow base e size v n xs) (hn : ∀ g, v.ownBlock = some g → O g) : B.ownsRow base e size v n xs :=
 ownsRow_at ho (fun g hg => h.block g (ho.lt g hg).2 (hn g hg))
def SeqO {α : Type} (F : Fence) (n : Nat) (P : Program) (g : Nat) (lb : Array Value) (encs : α → Array Value) (Good : α → Nat → World → Prop) (Pre S : List α → Prop) (O0 : Nat → Prop) (w : World) : Prop :=
 ∀ (l : Nat) (J Jx : List α → (Nat → Prop) → World → Prop) (W : World), Below w.heap.size w W →
  (∀ s O O' A B, J s O A → Off O A B → (∀ k, O' k → O k ∨ (A.heap.size ≤ k ∧ k < B.heap.size)) → J s O' B) →
  (∀ s O O' A B, Jx s O A → Off O A B → (∀ k, O' k → O k ∨ (A.heap.size ≤ k ∧ k < B.heap.size)) → Jx s O' B) →
  (∀ pre x O W0 W1, J pre O W0 → Off O W0 W1 → Good x W0.heap.size W1 → Pre (pre ++ [x]) → YieldAt F (n - 1) P l (encs x) W1 fun e W' =>
    (e = .returned (.bool true) ∧ J (pre ++ [x]) O W' ∧ Held O W1 W') ∨ (e = .returned (.bool false) ∧ Jx (pre ++ [x]) O W' ∧ Held O W1 W')) →
  J [] O0 W →
  CallsIn F n P g (#[.func (.yield l) #[] #[]] ++ lb) W fun e W' => (∃ v, e = .returned v) ∧ ((∃ ys O, S ys ∧ J ys O W') ∨ (∃ pre O, Jx pre O W'))
def postO {α : Type} (I : List α → (Nat → Prop) → World → Prop) (Ix : Code → List α → (Nat → Prop) → World → Prop) (O : Nat → Prop) (xs : List α) (W : World) : Exit → Act → World → Prop
 | .normal, _, W' => Held O W W' ∧ I xs O W'
 | .ret, _, W' => Held O W W' ∧ Ix .ret xs O W'
 | .exit id, _, W' => Held O W W' ∧ Ix (.exit id) xs O W'
 | .goto t, _, W' => Held O W W' ∧ Ix (.goto t) xs O W'
 | .panic _, _, _ => False
 | .outgrown, _, _ => False
variable {F : Fence} {n : Nat} {P : Program}
theorem wpIn_rangeO {α : Type} {g : Operand} {ps : Array Tmp} {assign body : Code} {Q : Exit → Act → World → Prop} {a : Act} {w : World}
  (hro : F.round = none) (h1 : 1 ≤ n) {gf : Nat} {lb : Array Value} (hg : a.eval g = .func (.func gf) #[] lb) (hFg : F.fn gf) (eg : ∀ args w, (callFunc gf args).run P w = .ok (.enter gf args) w)
  {encs : α → Array Value} {Good : α → Nat → World → Prop} {Pre S : List α → Prop} {w0 : World} {O0 : Nat → Prop} (hO0 : ∀ k, O0 k → k < w.heap.size) (hseq : SeqO F (n - 1) P gf lb encs Good Pre S O0 w0) (hb0 : Below w0.heap.size w0 w) (hps : ∀ x, (encs x).size = ps.size)
  (I : List α → (Nat → Prop) → World → Prop) (Ix : Code → List α → (Nat → Prop) → World → Prop)
  (hI : ∀ s O O' A B, I s O A → Off O A B → (∀ k, O' k → O k ∨ (A.heap.size ≤ k ∧ k < B.heap.size)) → I s O' B)
  (hIx : ∀ c s O O' A B, Ix c s O A → Off O A B → (∀ k, O' k → O k ∨ (A.heap.size ≤ k ∧ k < B.heap.size)) → Ix c s O' B)
  (h0 : ∀ W1, Below w.heap.size w W1 → W1.heap.size = w.heap.size + 1 + 1 → I [] (fun k => O0 k ∨ k = w.heap.size ∨ k = w.heap.size + 1) W1)
  (hround : ∀ (l : Nat) (pre : List α) (x : α) (O : Nat → Prop) (W0 W1 : World) (K : Act → World → Prop), O l → I pre O W0 → Off O W0 W1 → Good x W0.heap.size W1 → Pre (pre ++ [x]) →
    (∀ a' W', Held O W1 W' → (∀ W2, Off O W' W2 → W2.heap.size = W'.heap.size → body.wpIn (F.inRound l) (n - 1 - 1) P (postO I Ix O (pre ++ [x]) W2) a' W2) → K a' W') →
    assign.wpIn (F.inRound l) (n - 1 - 1) P (Exit.then K (fun _ _ _ => False)) { tmps := (ps.zip (encs x)).foldl (fun t (p, v) => t.setIfInBounds p v) a.tmps, defers := [] } W1)
  (hdone : ∀ (D : Nat) (xs : List α) (O : Nat → Prop) (W : World), w.heap.size ≤ D → O D → S xs → I xs O W → W.heap[D]? = some (.deferred (some [])) → Q .normal { a with defers := { target := .collected D, args := #[] } :: a.defers } W)
  (hstop : ∀ (D : Nat) (c : Code) (pre : List α) (O : Nat → Prop) (W : World), w.heap.size ≤ D → O D → Ix c pre O W → W.heap[D]? = some (.deferred (some [])) → c.wpIn F n P Q { a with defers := { target := .collected D, args := #[] } :: a.defers } W) :
  (Code.rangeFunc g ps assign body).wpIn F n P Q a w := by
 refine wpIn_rangeFunc ?_
 intro fn hfn
 rw [hro]
 obtain ⟨rec, hrec⟩ : ∃ rec : LoopState → Option Code → Loop, rec = fun st pe => { state := st, pending := pe, fn, tmps := a.tmps, params := ps, assign, body, defers := w.heap.size } := ⟨_, rfl⟩
 obtain ⟨d, hd⟩ : ∃ d, d = w.heap.size := ⟨_, rfl⟩
 obtain ⟨W1, hW1⟩ : ∃ W1, (w.alloc (.deferred (some []))).alloc (.loop (rec .ready none)) = W1 := ⟨_, rfl⟩
 have hL1 : W1.heap[d + 1]? = some (.loop (rec .ready none)) := by
  rw [← hW1, hd]; have := World.alloc_heap_new (w.alloc (.deferred (some []))) (.loop (rec .ready none)); rwa [World.size_alloc] at this
 have hK1 : W1.heap[d]? = some (.deferred (some [])) := by
  rw [← hW1, hd]; exact (Below.heap_alloc _ _ _ (by simp)).trans (World.alloc_heap_new w _)
 have hsz1 : W1.heap.size = d + 1 + 1 := by rw [← hW1, hd]; simp only [World.size_alloc]
 have hI1 : I [] (fun k => O0 k ∨ k = d ∨ k = d + 1) W1 := by
  rw [hd]
  exact h0 W1 (by rw [← hW1]; exact (((Below.refl _ w).alloc (Nat.le_refl _) _).alloc (by simp) _)) (by rw [hsz1, hd])
 have hb1 : Below w0.heap.size w0 W1 := by
  rw [← hW1]; exact hb0.trans ((((Below.refl _ w).alloc (Nat.le_refl _) _).alloc (by simp) _).mono hb0.size)
 refine ⟨d + 1, [{ target := .collected d, args := #[] }], W1, { target := .fn (.func gf) lb, args := #[.func (.yield (d + 1)) #[] #[]] }, W1, gf,
   #[.func (.yield (d + 1)) #[] #[]] ++ lb, W1, ?_, ?_, ?_, ?_, fun _ => h1, ?_⟩
 ·rw [← hW1, hrec, hd]; exact run_enterLoop_outer _ _ _ _ _
 ·simp only [resolve, hg]
  simp [go_sem]
 ·intro f' hf'; simp [Target.leads] at hf'; subst hf'; exact hFg
 ·simp [invoke, go_sem, eg]
 ·have hgrow : ∀ (O : Nat → Prop) (k : Nat), O k → (O k ∨ k = d ∨ k = d + 1) := fun O k h => .inl h
  refine (hseq (d + 1)
    (fun pre O W => I pre (fun k => O k ∨ k = d ∨ k = d + 1) W ∧ W.heap[d + 1]? = some (.loop (rec .ready none)) ∧ W.heap[d]? = some (.deferred (some [])) ∧ ¬ O d ∧ ¬ O (d + 1))
    (fun pre O W => ∃ c, Ix c pre (fun k => O k ∨ k = d ∨ k = d + 1) W ∧ W.heap[d + 1]? = some (.loop (rec .done (some c))) ∧ W.heap[d]? = some (.deferred (some [])) ∧ ¬ O d ∧ ¬ O (d + 1))
    W1 hb1 ?_ ?_ ?_ ⟨hI1, hL1, hK1, fun h => by have := hO0 _ h; omega, fun h => by have := hO0 _ h; omega⟩).mono ?_
  ·rintro s O O' A B ⟨hi, hl, hk, n1, n2⟩ ho hO'
   have lk := (Array.getElem?_eq_some_iff.1 hl).1
   refine ⟨hI _ _ _ _ _ hi (ho.wide (fun k h => .inl h)) ?_, (ho.block _ lk n2).trans hl, (ho.block _ (by omega) n1).trans hk, ?_, ?_⟩
   ·rintro k (h | h)
    ·exact (hO' k h).imp .inl id
    ·exact .inl (.inr h)
   ·intro h; rcases hO' _ h with h | h
    ·exact n1 h
    ·omega
   ·intro h; rcases hO' _ h with h | h
    ·exact n2 h
    ·omega
  ·rintro s O O' A B ⟨c, hi, hl, hk, n1, n2⟩ ho hO'
   have lk := (Array.getElem?_eq_some_iff.1 hl).1
   refine ⟨c, hIx _ _ _ _ _ _ hi (ho.wide (fun k h => .inl h)) ?_, (ho.block _ lk n2).trans hl, (ho.block _ (by omega) n1).trans hk, ?_, ?_⟩
   ·rintro k (h | h)
    ·exact (hO' k h).imp .inl id
    ·exact .inl (.inr h)
   ·intro h; rcases hO' _ h with h | h
    ·exact n1 h
    ·omega
   ·intro h; rcases hO' _ h with h | h
    ·exact n2 h
    ·omega
  · -- ONE ROUND
   rintro pre x O Wz W ⟨hi, hlz, hkz, n1, n2⟩ hoff hgood hpre
   have lkz := (Array.getElem?_eq_some_iff.1 hlz).1
   have hl := (hoff.block _ lkz n2).trans hlz
   have hk := (hoff.block _ (by omega) n1).trans hkz
   have hy := run_yield (P := P) (args := encs x) hl (by rw [hrec]; exact hps x)
   rw [hrec] at hy
   refine ⟨fn, _, assign, body, hy, roundIn_of_wpIn hfn (hround (d + 1) pre x (fun k => O k ∨ k = d ∨ k = d + 1) Wz W _ (.inr (.inr rfl)) hi (hoff.wide (fun k h => .inl h)) ?_ hpre ?_)⟩
   ·exact hgood
   clear hy
   intro a' Wa hkfa hbody
   have hl' := (hkfa.block _ (Array.getElem?_eq_some_iff.1 hl).1 (.inr (.inr rfl))).trans hl
   have hk' := (hkfa.block _ (Array.getElem?_eq_some_iff.1 hk).1 (.inr (.inl rfl))).trans hk
   have hlt := (Array.getElem?_eq_some_iff.1 hl').1
   refine ⟨_, run_beginRound hl' (by rw [hrec]), ?_⟩
   have hl2 : (Wa.putObj (d + 1) (.loop { rec .ready none with state := .busy })).heap[d + 1]? = some (.loop { rec .ready none with state := .busy }) := World.putObj_heap_same hlt
   have hk2 : (Wa.putObj (d + 1) (.loop { rec .ready none with state := .busy })).heap[d]? = some (.deferred (some [])) := (World.putObj_heap_other (by omega)).trans hk'
   have hH1 : Held O W Wa := hkfa.slim (fun k h => .inl h)
   have hH2 : Held O Wa (Wa.putObj (d + 1) (.loop { rec .ready none with state := .busy })) := Held.putObj n2 _
   refine wpIn_mono (hbody (Wa.putObj (d + 1) (.loop { rec .ready none with state := .busy })) (Off.putObj (.inr (.inr rfl)) _) (by simp)) ?_
   have fin : ∀ (jump : Option Code) (W3 : World), Held (fun k => O k ∨ k = d ∨ k = d + 1) (Wa.putObj (d + 1) (.loop { rec .ready none with state := .busy })) W3 →
     (Instr.endRound (d + 1) jump).run P W3 = .ok (.bool jump.isNone) (W3.putObj (d + 1) (.loop (rec (if jump.isNone then .ready else .done) jump))) ∧
     Held O W (W3.putObj (d + 1) (.loop (rec (if jump.isNone then .ready else .done) jump))) ∧ Off (fun k => O k ∨ k = d ∨ k = d + 1) W3 (W3.putObj (d + 1) (.loop (rec (if jump.isNone then .ready else .done) jump))) ∧
     (W3.putObj (d + 1) (.loop (rec (if jump.isNone then .ready else .done) jump))).heap[d + 1]? = some (.loop (rec (if jump.isNone then .ready else .done) jump)) ∧
     (W3.putObj (d + 1) (.loop (rec (if jump.isNone then .ready else .done) jump))).heap[d]? = some (.deferred (some [])) := fun jump W3 hk3 => by
    have hl3 := (hk3.block _ (Array.getElem?_eq_some_iff.1 hl2).1 (.inr (.inr rfl))).trans hl2
    have := run_endRound (P := P) jump hl3
    rw [hrec] at this ⊢
    exact ⟨this, ((hH1.trans hH2).trans (hk3.slim (fun k h => .inl h))).trans (Held.putObj n2 _), Off.putObj (.inr (.inr rfl)) _, World.putObj_heap_same (Array.getElem?_eq_some_iff.1 hl3).1, (World.putObj_heap_other (by omega)).trans ((hk3.block _ (Array.getElem?_eq_some_iff.1 hk2).1 (.inr (.inl rfl))).trans hk2)⟩
   rintro e a3 W3 hp
   cases e with
   | normal =>
    obtain ⟨hk3, hi3⟩ := hp
    obtain ⟨hr, hh, ho3, hl4, hk4⟩ := fin none W3 hk3
    exact ⟨_, _, hr, .inl ⟨rfl, ⟨hI _ _ _ _ _ hi3 ho3 (fun k h => .inl h), hl4, hk4, n1, n2⟩, hh⟩⟩
   | ret =>
    obtain ⟨hk3, hi3⟩ := hp
    obtain ⟨hr, hh, ho3, hl4, hk4⟩ := fin (some .ret) W3 hk3
    exact ⟨_, _, hr, .inr ⟨rfl, ⟨.ret, hIx _ _ _ _ _ _ hi3 ho3 (fun k h => .inl h), hl4, hk4, n1, n2⟩, hh⟩⟩
   | exit id =>
    obtain ⟨hk3, hi3⟩ := hp
    obtain ⟨hr, hh, ho3, hl4, hk4⟩ := fin (some (.exit id)) W3 hk3
    exact ⟨_, _, hr, .inr ⟨rfl, ⟨.exit id, hIx _ _ _ _ _ _ hi3 ho3 (fun k h => .inl h), hl4, hk4, n1, n2⟩, hh⟩⟩
   | goto t =>
    obtain ⟨hk3, hi3⟩ := hp
    obtain ⟨hr, hh, ho3, hl4, hk4⟩ := fin (some (.goto t)) W3 hk3
    exact ⟨_, _, hr, .inr ⟨rfl, ⟨.goto t, hIx _ _ _ _ _ _ hi3 ho3 (fun k h => .inl h), hl4, hk4, n1, n2⟩, hh⟩⟩
   | panic ch => exact hp.elim
   | outgrown => exact hp.elim
  · -- BEHIND THE ITERATOR
   rintro e W2 ⟨⟨v, rfl⟩, (⟨xs, O, hS, hi, hl, hk, n1, n2⟩ | ⟨pre, O, c, hi, hl, hk, n1, n2⟩)⟩
   ·exact ⟨none, _, by have := run_endLoop (P := P) hl (by rw [hrec]; simp); rw [hrec] at this; exact this, hdone d xs (fun k => O k ∨ k = d ∨ k = d + 1) _ (by omega) (.inr (.inl rfl)) hS (hI _ _ _ _ _ hi (Off.putObj (.inr (.inr rfl)) _) (fun k h => .inl h)) ((World.putObj_heap_other (by omega)).trans hk)⟩
   ·exact ⟨some c, _, by have := run_endLoop (P := P) hl (by rw [hrec]; simp); rw [hrec] at this; exact this, hstop d c pre (fun k => O k ∨ k = d ∨ k = d + 1) _ (by omega) (.inr (.inl rfl)) (hIx _ _ _ _ _ _ hi (Off.putObj (.inr (.inr rfl)) _) (fun k h => .inl h)) ((World.putObj_heap_other (by omega)).trans hk)⟩
end
section
open Go.RowKit Go.Lib
section
variable {F : Fence} {n : Nat} {P : Program} {ops : Array Oper} {md : Region.Mode} {Q : Exit → Act → World → Prop} {T : World → Prop} {L : Nat}
theorem yieldsIf_opR {i : Nat} {o : Oper} {v : Value} {a : Act} (hF : ∀ f, F.fn f) (hd : ∀ c, o.op ≠ .defer c) (hi : ops[i]? = some o) (hy : YieldsIf P ops T o v a)
  {K : Act → World → Prop} {w : World} (hS : T w) (h : K (a.put o.dst v) w) : wpOpIn F n P ops Q i K a w := by
 unfold Go.wpOpIn
 simp only [hi]
 rcases hy with ⟨hw, hv⟩ | ⟨hw, rfl⟩
 ·simp only [hw, if_true, Oper.wpIn, Oper.semAt_eq _ _ _ hd, hv w hS, Oper.uponIn]; exact ⟨fun f _ => hF f, h⟩
 ·simp only [hw, Bool.false_eq_true, if_false]; exact ⟨fun f _ => hF f, h⟩
theorem wpOpIn_putR {j : Nat} {oi oj : Oper} {v : Value} (hF : ∀ f, F.fn f) (hd : ∀ c, oj.op ≠ .defer c) (hj : ops[j]? = some oj) (hap : oi.apart ops oj = true)
  (hsi : ∀ cs b, oi.op ≠ .select cs b) (hsj : ∀ cs b, oj.op ≠ .select cs b)
  (hQ : ∀ c a w, Q (.panic c) (a.put oi.dst v) w → Q (.panic c) a w) {K : Act → World → Prop} {a : Act} {w : World}
  (hy : YieldsIf P ops T oi v a) (h : wpOpIn F n P ops Q j K (a.put oi.dst v) w) :
  wpOpIn F n P ops Q j (fun a' w' => YieldsIf P ops T oi v a' ∧ K (a'.put oi.dst v) w') a w := by
 obtain ⟨h1, h2, h3⟩ := Oper.apart_spec hap
 have keep : ∀ (a : Act), YieldsIf P ops T oi v a → ∀ u, YieldsIf P ops T oi v (a.put oj.dst u) := fun a hy u =>
  hy.of_same (execOp_put oi hsi a oj.dst u h3) (wanted_put oi a oj.dst u h3)
 have keepD : ∀ d, YieldsIf P ops T oi v { a with defers := d :: a.defers } := fun d => hy.of_same rfl rfl
 unfold wpOpIn at *
 simp only [hj] at *
 rw [wanted_put oj a oi.dst v h1] at h
 by_cases hw : Region.wanted oj (yielded ops a.tmps) = true
 ·simp only [hw, if_true] at h ⊢
  unfold Oper.wpIn at *
  refine ⟨fun f _ => hF f, ?_⟩
  have h := h.2
  rw [Oper.semAt_eq _ _ _ hd] at h ⊢
  rw [execOp_put oj hsj a oi.dst v h1] at h
  generalize (execOp a.eval oj).run P w = r at *
  cases r with
  | ok x w' =>
   cases x <;> simp only [Oper.uponIn] at h ⊢
   case value u => exact ⟨keep a hy u, by rw [← Act.put_comm a v u h2]; exact h⟩
   case skip => exact ⟨keep a hy _, by rw [← Act.put_comm a v undef h2]; exact h⟩
   case defer d => exact ⟨keep _ (keepD d) _, by rw [← Act.put_comm _ v undef h2, ← Act.put_defers]; exact h⟩
   case enter f args =>
    exact ⟨h.1, CallsIn.mono h.2 fun e w'' he => by
      cases e with
      | returned u => exact ⟨keep a hy u, by rw [← Act.put_comm a v u h2]; exact he⟩
      | panicked c => exact hQ _ _ _ he
      | outgrown => exact he⟩
   case row row args => exact ⟨h.1, RowsIn.mono h.2 fun u w'' he => ⟨keep a hy u, by rw [← Act.put_comm a v u h2]; exact he⟩⟩
   case round l f tmps assign body =>
    exact ⟨h.1, RoundIn.mono h.2 fun e w'' he => by
      cases e with
      | returned u => exact ⟨keep a hy u, by rw [← Act.put_comm a v u h2]; exact he⟩
      | panicked c => exact hQ _ _ _ he
      | outgrown => exact he⟩
  | halt x w' =>
   cases x <;> simp only [Oper.uponIn] at h ⊢
   case panic u => exact hQ _ _ _ h
 ·simp only [hw, Bool.false_eq_true, if_false] at h ⊢
  exact ⟨fun f _ => hF f, keep a hy _, by rw [← Act.put_comm a v undef h2]; exact h.2⟩
def wpR (F : Fence) (n : Nat) (P : Program) (md : Region.Mode) (ops : Array Oper) (Q : Exit → Act → World → Prop) (T : World → Prop) (L : Nat) : Nat → Array Bool → Act → World → Prop
 | 0, listed, a, w => Region.ready md ops listed = [] ∧ Q .normal a w
 | fuel + 1, listed, a, w =>
  (Region.ready md ops listed = [] → Q .normal a w) ∧
  ∀ i ∈ Region.ready md ops listed, wpOpIn F n P ops Q i (fun a' w' => (i = L ∨ T w') ∧ wpR F n P md ops Q T L fuel (listed.setIfInBounds i true) a' w') a w
theorem wpAnyIn_of_wpR : ∀ (fuel : Nat) (listed : Array Bool) (a : Act) (w : World), wpR F n P md ops Q T L fuel listed a w → wpAnyIn F n P md ops Q fuel listed a w
 | 0, _, _, _, h => h
 | fuel + 1, _, _, _, h => ⟨h.1, fun i hi => wpOpIn_mono (fun a' w' h' => wpAnyIn_of_wpR fuel _ a' w' h'.2) (h.2 i hi)⟩
theorem wpR_first {i : Nat} {oi : Oper} {v : Value} (hF : ∀ f, F.fn f) (hd : noDefer ops = true) (hi : ops[i]? = some oi) (hsel : ∀ (j : Nat) (o : Oper) cs b, ops[j]? = some o → o.op ≠ .select cs b)
  (hLw : ∀ (listed : Array Bool) (j : Nat) (oj : Oper), i ∈ Region.ready md ops listed → ops[j]? = some oj → (∀ e ∈ oj.after, Region.binds md e = true → e.on ≠ i) → j ≠ L)
  (hQ : ∀ c a w, Q (.panic c) (a.put oi.dst v) w → Q (.panic c) a w) :
  ∀ (fuel : Nat) (listed : Array Bool) (a : Act) (w : World),
   (∀ j oj, ops[j]? = some oj → j ≠ i → listed.getD j true = false → (∀ e ∈ oj.after, Region.binds md e = true → e.on ≠ i) → oi.apart ops oj = true) →
   i ∈ Region.ready md ops listed → YieldsIf P ops T oi v a → T w →
   wpR F n P md ops Q T L fuel (listed.setIfInBounds i true) (a.put oi.dst v) w → wpR F n P md ops Q T L (fuel + 1) listed a w := by
 intro fuel
 induction fuel with
 | zero =>
  intro listed a w _ hr hy hS H
  refine ⟨fun h => (by rw [h] at hr; cases hr), fun j hj => ?_⟩
  by_cases hji : j = i
  ·subst hji; exact yieldsIf_opR hF (noDefer_spec hd hi) hi hy hS ⟨.inr hS, H⟩
  ·have := ready_mono hj hji
   rw [H.1] at this
   cases this
 | succ fuel ih =>
  intro listed a w hfree hr hy hS H
  refine ⟨fun h => (by rw [h] at hr; cases hr), fun j hj => ?_⟩
  by_cases hji : j = i
  ·subst hji; exact yieldsIf_opR hF (noDefer_spec hd hi) hi hy hS ⟨.inr hS, H⟩
  ·have h1 := H.2 j (ready_mono hj hji)
   obtain ⟨hjun, oj, hoj, hall⟩ := mem_ready.1 hj
   have hnot : ∀ e ∈ oj.after, Region.binds md e = true → e.on ≠ i := fun e he hb heq => by
    have h1 := hall e he hb
    have h0 := (mem_ready.1 hr).1
    rw [heq] at h1
    rcases Nat.lt_or_ge i listed.size with h' | h'
    ·simp [h'] at h0 h1; rw [h0] at h1; cases h1
    ·simp [Array.getElem?_eq_none h'] at h1
   have hjL : j ≠ L := hLw listed j oj hr hoj hnot
   have h2 := wpOpIn_putR hF (noDefer_spec hd hoj) hoj (hfree j oj hoj hji hjun hnot) (fun cs b => hsel i oi cs b hi) (fun cs b => hsel j oj cs b hoj) hQ hy h1
   have hfree' : ∀ k ok, ops[k]? = some ok → k ≠ i → (listed.setIfInBounds j true).getD k true = false →
     (∀ e ∈ ok.after, Region.binds md e = true → e.on ≠ i) → oi.apart ops ok = true := fun k ok hk hki hun hno => by
    refine hfree k ok hk hki ?_ hno
    by_cases hjk : j = k
    ·subst hjk; exact hjun
    ·rw [getD_set_ne true hjk] at hun; exact hun
   refine wpOpIn_mono (fun a' w' h3 => ?_) h2
   have hT : T w' := h3.2.1.resolve_left hjL
   refine ⟨.inr hT, ih (listed.setIfInBounds j true) a' w' hfree' (ready_mono hr (Ne.symm hji)) h3.1 hT ?_⟩
   rw [Array.setIfInBounds_comm _ _ hji]
   exact h3.2.2
theorem wpR_take {i : Nat} {oi : Oper} {v : Value} {fuel : Nat} {listed : Array Bool} {a : Act} {w : World} (hF : ∀ f, F.fn f) (hd : noDefer ops = true) (hi : ops[i]? = some oi)
  (hs : Region.noSelect ops = true) (hf : Region.free md ops listed i = true) (hr : (Region.ready md ops listed).contains i = true) (hoL : ops[L]? = none)
  (hQ : ∀ c a w, Q (.panic c) (a.put oi.dst v) w → Q (.panic c) a w) (hy : YieldsIf P ops T oi v a) (hS : T w)
  (h : wpR F n P md ops Q T L fuel (listed.setIfInBounds i true) (a.put oi.dst v) w) : wpR F n P md ops Q T L (fuel + 1) listed a w :=
 wpR_first hF hd hi (Region.noSelect_spec hs) (fun _ j oj _ hoj _ e => by subst e; rw [hoj] at hoL; cases hoL) hQ fuel listed a w (Region.free_spec hi hf) (by simpa using hr) hy hS h
theorem wpR_takeL {i : Nat} {oi : Oper} {v : Value} {fuel : Nat} {listed : Array Bool} {a : Act} {w : World} (hF : ∀ f, F.fn f) (hd : noDefer ops = true) (hi : ops[i]? = some oi)
  (hs : Region.noSelect ops = true) (hf : Region.free md ops listed i = true) (hr : (Region.ready md ops listed).contains i = true) (hl : lastWaits md ops L i = true)
  (hQ : ∀ c a w, Q (.panic c) (a.put oi.dst v) w → Q (.panic c) a w) (hy : YieldsIf P ops T oi v a) (hS : T w)
  (h : wpR F n P md ops Q T L fuel (listed.setIfInBounds i true) (a.put oi.dst v) w) : wpR F n P md ops Q T L (fuel + 1) listed a w := by
 obtain ⟨oL, hoL, e, he, hb, hon⟩ := lastWaits_spec hl
 exact wpR_first hF hd hi (Region.noSelect_spec hs) (fun _ j oj _ hoj hno e' => by subst e'; rw [hoj] at hoL; injection hoL with hoL; subst hoL; exact hno e he hb hon) hQ fuel listed a w (Region.free_spec hi hf) (by simpa using hr) hy hS h
theorem wpR_one {i : Nat} {o : Oper} {fuel : Nat} {listed : Array Bool} {a : Act} {w : World} (hF : ∀ f, F.fn f) (hi : ops[i]? = some o) (hr : Region.ready md ops listed = [i])
  (h : ∀ K : Act → World → Prop, (∀ a w, (i = L ∨ T w) → wpR F n P md ops Q T L fuel (listed.setIfInBounds i true) a w → K a w) → if Region.wanted o (yielded ops a.tmps) = true then Oper.wpIn F n P o a w K Q else K (a.put o.dst undef) w) :
  wpR F n P md ops Q T L (fuel + 1) listed a w := by
 refine ⟨fun h0 => (by rw [hr] at h0; cases h0), fun j hj => ?_⟩
 rw [hr] at hj
 obtain rfl : j = i := by simpa using hj
 unfold wpOpIn
 simp only [hi]
 have h1 := h (fun a' w' => (j = L ∨ T w') ∧ wpR F n P md ops Q T L fuel (listed.setIfInBounds j true) a' w') (fun a w x y => ⟨x, y⟩)
 split
 ·rename_i hw; simpa only [hw, if_true] using h1
 ·rename_i hw; simp only [hw, if_false, Bool.false_eq_true] at h1; exact ⟨fun f _ => hF f, h1⟩
theorem wpR_done {listed : Array Bool} {a : Act} {w : World} (hr : Region.ready md ops listed = []) (h : Q .normal a w) : ∀ fuel, wpR F n P md ops Q T L fuel listed a w
 | 0 => ⟨hr, h⟩
 | _ + 1 => ⟨fun _ => h, by rw [hr]; simp⟩
theorem wpIn_region_R {id : Nat} {a : Act} {w : World} (T : World → Prop) (L : Nat) (hm : P.follows .mixedOrders = true)
  (h : wpR F n P .any ops Q T L ops.size (Array.replicate ops.size false) a w.drew) : (Code.region id ops true).wpIn F n P Q a w :=
 wpIn_region_any hm (wpAnyIn_of_wpR _ _ _ _ h)
end
end
section
open Go.RowKit Go.Lib
section
variable {F : Fence} {fn : Nat} {P : Program}
theorem run_append_keep (w : World) (base : Nat) (t ty e : TypeId) (i : TypeInfo) (z : Value) (bytes : Nat) (ht : P.underlying t = some (.slice e)) (hi : P.info? e = some i) (hz : i.zero = some z)
  (hsize : i.size = 1) (hby : i.bytes = bytes) (hzs : z.cells.size = 1)
  (v : Value) (n : Nat) (xs : List Value) (hown : w.ownsRow base e 1 v n xs)
  (a : Addr) (c : Nat) (x : Value) (hnews : ∀ j u, [x][j]? = some u → w.cell? (a.add j) = some u) (h1 : ∀ u ∈ [x], u.oneCell' = true)
  (h63 : n + 1 ≤ maxLen) (hbytes : (n + 1) * bytes ≤ 140737488355328) (hbase : base ≤ w.heap.size) :
  ∃ v' w', (Builtin.append_ #[t, t] ty #[v, .slice (some a) 1 c]).run P w = .ok v' w' ∧ w'.ownsRow base e 1 v' (n + 1) (xs ++ [x]) ∧ w'.ownsRow base e 1 v n xs ∧ w.grownBy w' v.ownBlock ∧
   (v'.ownBlock = v.ownBlock ∨ v'.ownBlock = some w.heap.size) := by
 obtain ⟨v', w', hrun, h2, h3, _, h5⟩ := run_append_own_at (P := P) w base t ty e i z 1 bytes ht hi hz hsize hby hzs (by decide) v n xs hown a 1 c [x] rfl hnews h1 h63 hbytes hbase
 refine ⟨v', w', hrun, h2, ?_, h3, h5⟩
 rcases hown.2 with ⟨rfl, rfl⟩ | ⟨g, cap, cur, rfl, hbg, hg, hnc, hcm, hcs, htake⟩
 ·have hx : xs = [] := List.eq_nil_of_length_eq_zero (by simpa using hown.1)
  subst hx
  exact World.ownsRow_nil _ _ _ _
 ·by_cases hroom : n + 1 ≤ cap
  ·have hr := run_append_room (P := P) w t ty e i ht hi g n cap cur hg a 1 c [x] (by rw [hsize]; rfl) hnews h1 hroom (by rw [hsize]; simp only [List.length_singleton]; omega)
   rw [hrun] at hr
   injection hr with _ hw
   refine ⟨hown.1, .inr ⟨g, cap, _, rfl, hbg, by rw [hw]; exact setRow_heap w g cur _ e _ hg, hnc, hcm, ?_, ?_⟩⟩
   ·simp only [hsize, Nat.mul_one] at *
    simp only [List.size_toArray, List.length_append, List.length_take, List.length_drop, Array.length_toList, List.length_singleton]
    omega
   ·simp only [hsize, Nat.mul_one] at *
    rw [htake]
    have hl := hown.1
    rw [Nat.mul_one] at hl
    simp [List.append_assoc, List.take_append_of_le_length (show n ≤ xs.length by omega), List.take_of_length_le (show xs.length ≤ n by omega)]
  ·have holds : ∀ j u, xs[j]? = some u → w.cell? ((⟨g, 0, none⟩ : Addr).add j) = some u := hown.cells (g := g) rfl
   have hr := run_append_grow (P := P) w t ty e i z ht hi hz ⟨g, 0, none⟩ n cap xs (by rw [hsize]; exact hown.1) holds a 1 c [x] (by rw [hsize]; rfl) hnews (by omega) (by unfold maxLen at h63; omega) (growslice_fits (by omega) (by rw [hby]; exact hbytes))
   rw [hrun] at hr
   injection hr with _ hw
   rw [hw]
   exact World.ownsRow.alloc (w := w.drew) hown _
theorem wpIn_append_keep {o : Oper} {ac : Act} {K : Act → World → Prop} {Q : Exit → Act → World → Prop} (hF : ∀ f, F.fn f) (s xo : Operand) (t : TypeId)
  (ho : o.op = .call { callee := .builtin .append, args := #[s, xo], argTypes := #[t, t] })
  (w : World) (base : Nat) (e : TypeId) (i : TypeInfo) (z : Value) (bytes : Nat) (ht : P.underlying t = some (.slice e)) (hi : P.info? e = some i) (hz : i.zero = some z)
  (hsize : i.size = 1) (hby : i.bytes = bytes) (hzs : z.cells.size = 1)
  (v : Value) (n : Nat) (xs : List Value) (hs : ac.eval s = v) (hown : w.ownsRow base e 1 v n xs)
  (a : Addr) (c : Nat) (x : Value) (hx : ac.eval xo = .slice (some a) 1 c) (hnews : ∀ j u, [x][j]? = some u → w.cell? (a.add j) = some u) (h1 : ∀ u ∈ [x], u.oneCell' = true)
  (h63 : n + 1 ≤ maxLen) (hbytes : (n + 1) * bytes ≤ 140737488355328) (hbase : base ≤ w.heap.size)
  (h : ∀ v' w', w'.ownsRow base e 1 v' (n + 1) (xs ++ [x]) → w'.ownsRow base e 1 v n xs → w.grownBy w' v.ownBlock → (v'.ownBlock = v.ownBlock ∨ v'.ownBlock = some w.heap.size) → K (ac.put o.dst v') w') : o.wpIn F fn P ac w K Q := by
 obtain ⟨v', w', hrun, h2, h3, h4, h5⟩ := run_append_keep (P := P) w base t o.type e i z bytes ht hi hz hsize hby hzs v n xs hown a c x hnews h1 h63 hbytes hbase
 refine ⟨fun f _ => hF f, ?_⟩
 rw [Oper.semAt_eq _ _ _ (by rw [ho]; intro c h; cases h)]
 unfold execOp
 simp only [ho, resolve, invoke, builtin, Sem.run_bind, Sem.run_pure, Result.andThen_ok, List.map_toArray, List.map_cons, List.map_nil, hs, hx, hrun]
 exact h v' w' h2 h3 h4 h5
end
theorem own_back {A B : World} {base n : Nat} {e : TypeId} {v v' : Value} {xs : List Value} {x : Value} (hv : A.ownsRow base e 1 v n xs) (hv' : A.ownsRow base e 1 v' (n + 1) (xs ++ [x])) (hb : v'.ownBlock = v.ownBlock)
  (h : B.ownsRow base e 1 v' (n + 1) (xs ++ [x])) : B.ownsRow base e 1 v n xs := by
 rcases hv.2 with ⟨rfl, rfl⟩ | ⟨g, cap, cur, rfl, hbg, hg, hnc, hcm, hcs, htake⟩
 ·have hx : xs = [] := List.eq_nil_of_length_eq_zero (by simpa using hv.1)
  subst hx
  exact World.ownsRow_nil _ _ _ _
 ·rcases hv'.2 with ⟨rfl, h0⟩ | ⟨g', cap', cur', rfl, _, hg', _, _, hcs', _⟩
  ·cases h0
  ·have hgg : g' = g := by simpa [Value.ownBlock] using hb
   subst hgg
   rw [hg] at hg'
   injection hg' with hg'
   injection hg' with hg' _
   subst hg'
   have hcc : cap' = cap := by omega
   subst hcc
   exact own_pop h
end
section
open Go.RowKit Go.Lib
def bestI {α : Type} (cost : α → Int) : List α → Option α
 | [] => none
 | x :: xs => some (xs.foldl (fun acc y => if cost y < cost acc then y else acc) x)
theorem bestI_snoc {α : Type} (cost : α → Int) (l : List α) (y : α) : bestI cost (l ++ [y]) = match bestI cost l with | none => some y | some a => some (if cost y < cost a then y else a) := by
 cases l with
 | nil => rfl
 | cons x xs => simp [bestI, List.foldl_append]
theorem bestI_none {α : Type} (cost : α → Int) (l : List α) : bestI cost l = none ↔ l = [] := by cases l <;> simp [bestI]
theorem bestI_some {α : Type} (cost : α → Int) {l : List α} (h : l ≠ []) : ∃ a, bestI cost l = some a := by
 cases l with
 | nil => exact absurd rfl h
 | cons x xs => exact ⟨_, rfl⟩
structure RT where
 l : ByteArray
 c : Int
def RT.cells (x : RT) : List Value := [.string x.l, .int .i64 x.c]
structure GT where
 A : Option Addr
 n : Nat
 cap : Nat
 c : Int
def GT.cells (x : GT) : List Value := [.slice x.A x.n x.cap, .int .i64 x.c]
structure MX where
 one : Int
 other : Int
 lines : Int
 c : Int
def MX.cells (x : MX) : List Value := [.int .i64 x.one, .int .i64 x.other, .int .i64 x.lines, .int .i64 x.c]
theorem flatRT : ∀ (l : List RT) (k j : Nat) (hk : k < l.length), j < 2 → (l.flatMap RT.cells)[k * 2 + j]? = (RT.cells l[k])[j]?
 | x :: l, 0, j, _, hj => by
  simp only [List.flatMap_cons, List.getElem_cons_zero, Nat.zero_mul, Nat.zero_add]
  rw [List.getElem?_append_left (by simp [RT.cells]; omega)]
 | x :: l, k + 1, j, hk, hj => by
  simp only [List.flatMap_cons, List.getElem_cons_succ]
  rw [List.getElem?_append_right (by simp [RT.cells]; omega), show (k + 1) * 2 + j - (RT.cells x).length = k * 2 + j by simp [RT.cells]; omega]
  exact flatRT l k j (by simpa using hk) hj
theorem flatRT_len : ∀ l : List RT, (l.flatMap RT.cells).length = l.length * 2
 | [] => rfl
 | x :: l => by rw [List.flatMap_cons, List.length_append, flatRT_len l]; simp [RT.cells]; omega
theorem Rd.lenRT {w : World} {B : Nat} {A : Option Addr} {n : Nat} {l : List RT} (h : Rd w B 2 A n (l.flatMap RT.cells)) : l.length = n := by have := h.1; rw [flatRT_len] at this; omega
theorem Rd.elRT {w : World} {B : Nat} {A : Option Addr} {n k : Nat} {l : List RT} (h : Rd w B 2 A n (l.flatMap RT.cells)) (hk : k < n) : ∃ b off, ∃ hz : k < l.length, A = some ⟨b, off, none⟩ ∧ b < B ∧ w.cell? ⟨b, off + k * 2, none⟩ = some ((RT.cells l[k])[0]'(by simp [RT.cells])) ∧ w.cell? ⟨b, off + k * 2 + 1, none⟩ = some ((RT.cells l[k])[1]'(by simp [RT.cells])) := by
 have hl := h.lenRT
 obtain ⟨b, off, rfl, hb, hc⟩ := h.2 (by omega)
 refine ⟨b, off, by omega, rfl, hb, ?_, ?_⟩
 ·exact hc (k * 2) _ (by have := flatRT l k 0 (by omega) (by omega); rw [Nat.add_zero] at this; rw [this]; rfl)
 ·exact hc (k * 2 + 1) _ (by rw [flatRT l k 1 (by omega) (by omega)]; rfl)
def zcRT : Array Value := #[.string ⟨#[]⟩, .int .i64 0]
def acRT (o : Option RT) : Array Value := match o with | some x => (match x with | ⟨l, c⟩ => #[.string l, .int .i64 c]) | none => zcRT
def anRT (o : Option RT) : Int := match o with | some x => RT.c x | none => 0
def brRT (o : Option RT) : Ending := .returned (.tuple #[.agg (acRT o), .bool o.isSome])
theorem cost_RT (l : ByteArray) (c : Int) (w : World) : Calls Tryz.prog 177 #[.agg #[.string l, .int .i64 c]] w fun e w' => e = .returned (.int .i64 c) ∧ Below w.heap.size w w' := by
 have hX := Blk.new w 136 #[.string l, .int .i64 c]
 have qX := fun i => hX.cell i
 have hB : Below w.heap.size w (w.alloc (.cells #[.string l, .int .i64 c] 136)) := (Below.refl _ _).alloc (Nat.le_refl _) _
 go_enter Tryz.func177, Tryz.ntmps177
 go_wp2_with fail
 go_ret
 exact ⟨rfl, hB⟩
theorem best_RT (A : Option Addr) (n cap : Nat) (ms : List RT) (w : World) (hn : n ≤ 1000000) (hr : Rd w w.heap.size 2 A n (ms.flatMap RT.cells)) :
  Calls Tryz.prog 176 #[.slice A n cap, .func (.func 177) #[] #[]] w fun e w' => e = brRT (bestI RT.c ms) ∧ Below w.heap.size w w' := by
 have hcf : ∀ (a : Array Value) (w : World), Sem.run Tryz.prog (callFunc 177 a) w = .ok (Next.enter 177 a) w := fun _ _ => rfl
 have hlen := hr.lenRT
 have hB : Below w.heap.size w ((w.alloc (.cells #[.string ⟨#[]⟩, .int .i64 0] 136)).alloc (.cells #[.string ⟨#[]⟩, .int .i64 0] 136)) := ((Below.refl _ _).alloc (Nat.le_refl _) _).alloc (by simp only [World.size_alloc]; omega) _
 have h4 : Blk ((w.alloc (.cells #[.string ⟨#[]⟩, .int .i64 0] 136)).alloc (.cells #[.string ⟨#[]⟩, .int .i64 0] 136)) w.heap.size 136 #[.string ⟨#[]⟩, .int .i64 0] := blk2_0 w _ 136 _
 have h6 : Blk ((w.alloc (.cells #[.string ⟨#[]⟩, .int .i64 0] 136)).alloc (.cells #[.string ⟨#[]⟩, .int .i64 0] 136)) (w.heap.size + 1) 136 #[.string ⟨#[]⟩, .int .i64 0] := blk2_1 w _ 136 _
 have HLEN := Lib.hid hlen; clear hlen
 go_enter Tryz.func176, Tryz.ntmps176
 go_wp2_with fail
 generalize ((w.alloc (.cells #[.string ⟨#[]⟩, .int .i64 0] 136)).alloc (.cells #[.string ⟨#[]⟩, .int .i64 0] 136)) = W0 at *
 go_loopg [7, 13] n (fun g l i wr => ∃ (k : Nat) (acc : Option RT) (z : Int), g = n - k ∧ k ≤ n ∧ i = .int .i64 k ∧ l = .int .i64 z ∧ Hid (acc = bestI RT.c (ms.take k)) ∧ Hid (z = anRT acc) ∧ Blk wr w.heap.size 136 #[.string ⟨#[]⟩, .int .i64 0] ∧ (∃ x0 x1, Hid (acRT acc = #[x0, x1]) ∧ Blk wr (w.heap.size + 1) 136 #[x0, x1]) ∧ Below w.heap.size w wr)
 case atStart => exact ⟨0, none, 0, rfl, Nat.zero_le _, rfl, rfl, Lib.hid rfl, Lib.hid rfl, h4, ⟨_, _, Lib.hid rfl, h6⟩, hB⟩
 case round =>
  clear h4 h6 hB
  obtain ⟨k, acc, z, hg, hk, rfl, rfl, hacc, hz, h4, ⟨x0, x1, hxx, h6⟩, hB⟩ := hrel
  have HG := Lib.hid hg; clear hg
  rename World => wr
  by_cases hlt : k < n
  ·have hlti : (k : Int) < n := by omega
   obtain ⟨gb, off, hzl, rfl, hgb, hc0, hc1⟩ := (hr.below hB).elRT hlt
   have htk : ms.take (k + 1) = ms.take k ++ [ms[k]] := List.take_succ_eq_append_getElem hzl
   generalize ms[k] = m at *
   have HTK := Lib.hid htk; clear htk hzl
   obtain ⟨l, c⟩ := m
   simp only [RT.cells, List.getElem_cons_zero, List.getElem_cons_succ] at hc0 hc1
   have hl4 := h4.lt; have hl6 := h6.lt; have hs := hB.size
   by_cases hk0 : k = 0
   ·have hk0b : ((k : Int) == 0) = true := by rw [beq_iff_eq]; omega
    have hac : acc = none := by rw [hacc.out, hk0]; rfl
    have HAC := Lib.hid hac; clear hac hk0
    go_wp2_with (go_at_call 177; refine (cost_RT l c _).mono ?_; rintro e w1 ⟨rfl, hb1⟩; have hX := (Blk.new wr 136 #[.string l, .int .i64 c]).below hb1 (by simp only [World.size_alloc]; omega); replace h4 := (h4.alloc (.cells #[.string l, .int .i64 c] 136)).below hb1 (by simp only [World.size_alloc]; omega); replace h6 := (h6.alloc (.cells #[.string l, .int .i64 c] 136)).below hb1 (by simp only [World.size_alloc]; omega); replace hB := (hB.alloc hB.size (.cells #[.string l, .int .i64 c] 136)).trans (hb1.mono (by have := hB.size; simp only [World.size_alloc]; omega)); have qX := fun i => hX.cell i; have q6 := fun i => h6.cell i; have f6 := fun i => h6.frozen i; have l6 := h6.lt; clear hb1)
    clear qX q6 f6 l6
    replace h6 := h6.set_ 0 (.string l); replace h4 := h4.far (p := ⟨w.heap.size + 1, 0, none⟩) (show w.heap.size ≠ w.heap.size + 1 by omega) (.string l); replace hB := hB.setCell (p := ⟨w.heap.size + 1, 0, none⟩) (Nat.le_succ _) (.string l)
    replace h6 := h6.set_ 1 (.int .i64 c); replace h4 := h4.far (p := ⟨w.heap.size + 1, 1, none⟩) (show w.heap.size ≠ w.heap.size + 1 by omega) (.int .i64 c); replace hB := hB.setCell (p := ⟨w.heap.size + 1, 1, none⟩) (Nat.le_succ _) (.int .i64 c)
    go_roundg (n - (k + 1))
    case measure => rw [HG.out]; omega
    case rel => exact ⟨k + 1, some ⟨l, c⟩, c, rfl, by omega, by go_num, rfl, Lib.hid (by rw [HTK.out, bestI_snoc, ← hacc.out]; rw [HAC.out]), Lib.hid rfl, h4, ⟨_, _, Lib.hid rfl, h6⟩, hB⟩
   ·have hk0b : ((k : Int) == 0) = false := by rw [beq_eq_false_iff_ne]; omega
    have hne : ms.take k ≠ [] := fun e => by have := congrArg List.length e; rw [List.length_take, List.length_nil, HLEN.out] at this; omega
    obtain ⟨am, hac⟩ := bestI_some RT.c hne
    rw [← hacc.out] at hac
    have hzc : z = RT.c am := by rw [hz.out, hac]; rfl
    have HAC := Lib.hid hac; have HZC := Lib.hid hzc; clear hac hne hk0 hzc
    by_cases hcl : c < z
    ·have HNL := Lib.hid (show RT.c ⟨l, c⟩ < RT.c am from by rw [← HZC.out]; exact hcl)
     go_wp2_with (go_at_call 177; refine (cost_RT l c _).mono ?_; rintro e w1 ⟨rfl, hb1⟩; have hX := (Blk.new wr 136 #[.string l, .int .i64 c]).below hb1 (by simp only [World.size_alloc]; omega); replace h4 := (h4.alloc (.cells #[.string l, .int .i64 c] 136)).below hb1 (by simp only [World.size_alloc]; omega); replace h6 := (h6.alloc (.cells #[.string l, .int .i64 c] 136)).below hb1 (by simp only [World.size_alloc]; omega); replace hB := (hB.alloc hB.size (.cells #[.string l, .int .i64 c] 136)).trans (hb1.mono (by have := hB.size; simp only [World.size_alloc]; omega)); have qX := fun i => hX.cell i; have q6 := fun i => h6.cell i; have f6 := fun i => h6.frozen i; have l6 := h6.lt; clear hb1)
     clear qX q6 f6 l6
     replace h6 := h6.set_ 0 (.string l); replace h4 := h4.far (p := ⟨w.heap.size + 1, 0, none⟩) (show w.heap.size ≠ w.heap.size + 1 by omega) (.string l); replace hB := hB.setCell (p := ⟨w.heap.size + 1, 0, none⟩) (Nat.le_succ _) (.string l)
     replace h6 := h6.set_ 1 (.int .i64 c); replace h4 := h4.far (p := ⟨w.heap.size + 1, 1, none⟩) (show w.heap.size ≠ w.heap.size + 1 by omega) (.int .i64 c); replace hB := hB.setCell (p := ⟨w.heap.size + 1, 1, none⟩) (Nat.le_succ _) (.int .i64 c)
     go_roundg (n - (k + 1))
     case measure => rw [HG.out]; omega
     case rel => exact ⟨k + 1, some ⟨l, c⟩, c, rfl, by omega, by go_num, rfl, Lib.hid (by rw [HTK.out, bestI_snoc, ← hacc.out]; rw [HAC.out]; simp only; rw [if_pos (by have := HNL.out; omega)]), Lib.hid rfl, h4, ⟨_, _, Lib.hid rfl, h6⟩, hB⟩
    ·have HNL := Lib.hid (show ¬ RT.c ⟨l, c⟩ < RT.c am from by rw [← HZC.out]; exact hcl)
     go_wp2_with (go_at_call 177; refine (cost_RT l c _).mono ?_; rintro e w1 ⟨rfl, hb1⟩; have hX := (Blk.new wr 136 #[.string l, .int .i64 c]).below hb1 (by simp only [World.size_alloc]; omega); replace h4 := (h4.alloc (.cells #[.string l, .int .i64 c] 136)).below hb1 (by simp only [World.size_alloc]; omega); replace h6 := (h6.alloc (.cells #[.string l, .int .i64 c] 136)).below hb1 (by simp only [World.size_alloc]; omega); replace hB := (hB.alloc hB.size (.cells #[.string l, .int .i64 c] 136)).trans (hb1.mono (by have := hB.size; simp only [World.size_alloc]; omega)); have qX := fun i => hX.cell i; have q6 := fun i => h6.cell i; have f6 := fun i => h6.frozen i; have l6 := h6.lt; clear hb1)
     clear qX q6 f6 l6
     go_roundg (n - (k + 1))
     case measure => rw [HG.out]; omega
     case rel => exact ⟨k + 1, acc, z, rfl, by omega, by go_num, rfl, Lib.hid (by rw [HTK.out, bestI_snoc, ← hacc.out, HAC.out]; simp only; rw [if_neg (by have := HNL.out; omega)]), hz, h4, ⟨_, _, hxx, h6⟩, hB⟩
  ·obtain rfl : k = n := by omega
   have htk : ms.take k = ms := List.take_of_length_le (by have := HLEN.out; omega)
   have hfin : acc = bestI RT.c ms := by rw [hacc.out, htk]
   have HFIN := Lib.hid hfin; clear hfin htk
   cases acc with
   | none =>
    have hk0 : k = 0 := by
     have h1 : ms = [] := (bestI_none RT.c ms).1 HFIN.out.symm
     have := HLEN.out
     rw [h1] at this
     exact this.symm
    have h := hxx.out
    simp only [acRT, zcRT, Array.mk.injEq, List.cons.injEq, and_true] at h
    obtain ⟨rfl, rfl⟩ := h
    have hk0i : ¬ (0 : Int) < k := by omega
    have HK0 := Lib.hid hk0; clear hk0
    have q6 := fun i => h6.cell i
    have q4 := fun i => h4.cell i; have f4 := fun i => h4.frozen i; have l4 := h4.lt
    go_wp2_with fail
    clear q6 q4 f4 l4
    replace h4 := h4.set_ 0 (.string ⟨#[]⟩); replace hB := hB.setCell (p := ⟨w.heap.size, 0, none⟩) (Nat.le_refl _) (.string ⟨#[]⟩)
    replace h4 := h4.set_ 1 (.int .i64 0); replace hB := hB.setCell (p := ⟨w.heap.size, 1, none⟩) (Nat.le_refl _) (.int .i64 0)
    replace h4 : Blk ((((wr).setCell ⟨w.heap.size, 0, none⟩ (.string ⟨#[]⟩))).setCell ⟨w.heap.size, 1, none⟩ (.int .i64 0)) w.heap.size 136 #[.string ⟨#[]⟩, .int .i64 0] := h4
    generalize ((((wr).setCell ⟨w.heap.size, 0, none⟩ (.string ⟨#[]⟩))).setCell ⟨w.heap.size, 1, none⟩ (.int .i64 0)) = w9 at *
    have hq9 := fun i => h4.cell i
    refine bodyPost_ret (v := .tuple #[.agg #[.string ⟨#[]⟩, .int .i64 0], .bool false]) ?_ rfl ⟨by rw [← HFIN.out]; rfl, hB⟩
    simp [results, Tryz.results176, go_sem, hq9, HK0.out]
   | some m =>
    obtain ⟨l, c⟩ := m
    have hk0 : 0 < k := by
     rcases Nat.eq_zero_or_pos k with h | h
     ·have h1 : ms = [] := List.length_eq_zero_iff.1 (by have := HLEN.out; omega)
      have h2 := HFIN.out
      rw [h1] at h2
      cases h2
     ·exact h
    have h := hxx.out
    simp only [acRT, Array.mk.injEq, List.cons.injEq, and_true] at h
    obtain ⟨rfl, rfl⟩ := h
    have hk0i : (0 : Int) < k := by omega
    have q6 := fun i => h6.cell i
    have q4 := fun i => h4.cell i; have f4 := fun i => h4.frozen i; have l4 := h4.lt
    go_wp2_with fail
    clear q6 q4 f4 l4
    replace h4 := h4.set_ 0 (.string l); replace hB := hB.setCell (p := ⟨w.heap.size, 0, none⟩) (Nat.le_refl _) (.string l)
    replace h4 := h4.set_ 1 (.int .i64 c); replace hB := hB.setCell (p := ⟨w.heap.size, 1, none⟩) (Nat.le_refl _) (.int .i64 c)
    replace h4 : Blk ((((wr).setCell ⟨w.heap.size, 0, none⟩ (.string l))).setCell ⟨w.heap.size, 1, none⟩ (.int .i64 c)) w.heap.size 136 #[.string l, .int .i64 c] := h4
    generalize ((((wr).setCell ⟨w.heap.size, 0, none⟩ (.string l))).setCell ⟨w.heap.size, 1, none⟩ (.int .i64 c)) = w9 at *
    have hq9 := fun i => h4.cell i
    refine bodyPost_ret (v := .tuple #[.agg #[.string l, .int .i64 c], .bool true]) ?_ rfl ⟨by rw [← HFIN.out]; rfl, hB⟩
    simp [results, Tryz.results176, go_sem, hq9]
end
section
open Go.RowKit Go.Lib
theorem info121 : (Tryz.prog.info? 121).map (fun i => (i.zero, i.size, i.bytes)) = some (some (.string ⟨#[]⟩), 1, 16) := by kernel_rfl
theorem info136 : (Tryz.prog.info? 136).map (fun i => (i.zero, i.size, i.bytes)) = some (some (.agg #[.string ⟨#[]⟩, .int .i64 0]), 2, 24) := by kernel_rfl
theorem linesOf_any (A : Option Addr) (n cap : Nat) (rs : List RT) (w : World) (hn : n ≤ 1000000) (hr : Rd w w.heap.size 2 A n (rs.flatMap RT.cells)) :
  Calls Tryz.prog 92 #[.slice A n cap] w fun e w' => ∃ v, e = .returned v ∧ w'.ownsRow w.heap.size 121 1 v n (rs.map fun x => .string x.l) ∧ NilIf n v ∧ Below w.heap.size w w' := by
 obtain ⟨i121, hi, hz0, hz1', hz2'⟩ := info_parts info121
 have hlen := hr.lenRT
 have HL := Lib.hid hlen; clear hlen
 go_enter Tryz.func92, Tryz.ntmps92
 go_wp2_with fail
 go_loopg [3, 8] n (fun g v i wr => ∃ (k : Nat) (v0 : Value), g = n - k ∧ k ≤ n ∧ v = v0 ∧ i = .int .i64 k ∧ wr.ownsRow w.heap.size 121 1 v0 k ((rs.take k).map fun x => .string x.l) ∧ Hid (k = 0 → v0 = .slice none 0 0) ∧ Below w.heap.size w wr)
 case atStart => exact ⟨0, _, rfl, Nat.zero_le _, rfl, rfl, World.ownsRow_nil _ _ _ _, Lib.hid (fun _ => rfl), Below.refl _ _⟩
 case round =>
  obtain ⟨k, v0, hg, hk, rfl, rfl, hown, hnil, hB⟩ := hrel
  rename World => wr
  obtain ⟨va, vc, rfl⟩ := own_slice hown
  have HG := Lib.hid hg; clear hg
  by_cases hlt : k < n
  ·have hlti : (k : Int) < n := by omega
   obtain ⟨b, off, hz, rfl, hb, hc0, hc1⟩ := (hr.below hB).elRT hlt
   have htk : rs.take (k + 1) = rs.take k ++ [rs[k]] := List.take_succ_eq_append_getElem hz
   have hap : ((rs.take (k + 1)).map fun x => Value.string x.l) = ((rs.take k).map fun x => Value.string x.l) ++ [.string rs[k].l] := by rw [htk, List.map_append]; rfl
   have HAP := Lib.hid hap; clear hap htk
   generalize rs[k] = x at *
   obtain ⟨l, c⟩ := x
   simp only [RT.cells, List.getElem_cons_zero, List.getElem_cons_succ] at hc0 hc1
   generalize ((rs.take k).map fun x => Value.string x.l) = ys at *
   have hX := Blk.new wr 136 #[.string l, .int .i64 c]
   have hX2 := hX.alloc (.cells #[.string l] 121)
   have qX := fun i => hX.cell i
   go_wp2_with (at_builtin; refine wpList_append_any _ rfl _ _ 128 rfl w.heap.size 121 i121 (.string ⟨#[]⟩) 1 16 Tryz.underlying128 hi hz0 hz1' hz2' rfl (by decide) (.slice va k vc) k ys rfl ((hown.alloc (.cells #[.string l, .int .i64 c] 136)).alloc (.cells #[.string l] 121)) (wr.heap.size + 1 + 1) (some ⟨wr.heap.size + 1, 0, none⟩) 1 1 [.string l] rfl (Rd.blkN (blk2_1 wr _ 121 #[.string l]) rfl (by omega)).reads (by simp [Value.oneCell']) (by unfold maxLen; omega) (by omega) (by have := hB.size; simp only [World.size_alloc]; omega) (fun v' w' hown' hgrow hob => ?_))
   have hB2 := ((hB.alloc hB.size (.cells #[.string l, .int .i64 c] 136)).alloc (by have := hB.size; simp only [World.size_alloc]; omega) (.cells #[.string l] 121)).grown hgrow (by have := hB.size; simp only [World.size_alloc]; omega) (fun g hg => (((hown.alloc (.cells #[.string l, .int .i64 c] 136)).alloc (.cells #[.string l] 121)).lt g hg).1)
   go_roundg (n - (k + 1))
   case measure => rw [HG.out]; omega
   case rel => exact ⟨k + 1, v', rfl, by omega, rfl, by go_num, by rw [HAP.out]; exact hown', Lib.hid (fun h => absurd h (by omega)), hB2⟩
  ·obtain rfl : k = n := by omega
   have hge : ¬ (k : Int) < k := by omega
   have htk : rs.take k = rs := List.take_of_length_le (by rw [HL.out]; exact Nat.le_refl _)
   rw [htk] at hown
   clear htk
   go_wp2_with fail
   go_ret
   exact ⟨_, rfl, hown, hnil.out, hB⟩
end
section
open Go.RowKit Go.Lib
theorem index_rt (g : Nat) (c : Value) (p : RT → Bool) (A : Option Addr) (n cap : Nat) (xs : List RT) (w : World) (hn : n ≤ maxLen) (hr : Rd w w.heap.size 2 A n (xs.flatMap RT.cells))
  (hcf : ∀ (a : Array Value) (w : World), Sem.run Tryz.prog (callFunc g a) w = .ok (Next.enter g a) w) (hp : Hid (∀ x ∈ xs, ∀ wx : World, Below w.heap.size w wx → Calls Tryz.prog g #[.agg #[.string x.l, .int .i64 x.c], c] wx fun e w' => e = .returned (.bool (p x)) ∧ Below wx.heap.size wx w')) :
  Calls Tryz.prog 202 #[.slice A n cap, .func (.func g) #[] #[c]] w fun e w' => (∃ r : Int, e = .returned (.int .i64 r) ∧ Hid ((r = -1 ∧ ∀ x ∈ xs, p x = false) ∨ ∃ k : Nat, r = k ∧ k < n ∧ (∀ x ∈ xs.take k, p x = false) ∧ ∃ x, xs[k]? = some x ∧ p x = true)) ∧ Below w.heap.size w w' := by
 have hlen : xs.length = n := hr.lenRT
 have HL := Lib.hid hlen; clear hlen
 unfold maxLen at hn
 go_enter Tryz.func202, Tryz.ntmps202
 go_wp2_with fail
 go_loopg [8] n (fun g i wr => ∃ k : Nat, g = n - k ∧ k ≤ n ∧ i = .int .i64 k ∧ Hid (∀ x ∈ xs.take k, p x = false) ∧ Below w.heap.size w wr)
 case atStart => exact ⟨0, rfl, Nat.zero_le _, rfl, Lib.hid (fun x h => by simp at h), Below.refl _ _⟩
 case round =>
  obtain ⟨k, hg, hk, rfl, hno, hB⟩ := hrel
  have HG := Lib.hid hg; clear hg
  by_cases hlt : k < n
  ·obtain ⟨b, off, hz, rfl, hb, hc, hc1⟩ := (hr.below hB).elRT hlt
   have hin := List.getElem_mem hz
   have htk : xs.take (k + 1) = xs.take k ++ [xs[k]] := List.take_succ_eq_append_getElem hz
   have hxe : xs[k]? = some xs[k] := List.getElem?_eq_getElem hz
   generalize xs[k] = x at *
   obtain ⟨l, cc⟩ := x
   simp only [RT.cells, List.getElem_cons_zero, List.getElem_cons_succ] at hc hc1
   have HIN := Lib.hid hin; have HTK := Lib.hid htk; have HXE := Lib.hid hxe; clear hin htk hxe
   clear hz
   have hBw := hB
   cases hpx : p ⟨l, cc⟩
   ·have HPX := Lib.hid hpx; clear hpx
    go_wp2_with (refine (hp.out ⟨l, cc⟩ HIN.out _ hBw).mono ?_; rintro e w1 ⟨rfl, hb1⟩; rw [HPX.out]; replace hB := hB.trans (hb1.mono hB.size); clear hb1)
    go_roundg (n - (k + 1))
    case measure => rw [HG.out]; omega
    case rel =>
     refine ⟨k + 1, rfl, by omega, by go_num, Lib.hid (fun x h => ?_), hB⟩
     rw [HTK.out] at h
     rcases List.mem_append.1 h with h | h
     ·exact hno.out x h
     ·rw [List.mem_singleton.1 h]; exact HPX.out
   ·have HPX := Lib.hid hpx; clear hpx
    go_wp2_with (refine (hp.out ⟨l, cc⟩ HIN.out _ hBw).mono ?_; rintro e w1 ⟨rfl, hb1⟩; rw [HPX.out]; replace hB := hB.trans (hb1.mono hB.size); clear hb1)
    go_ret
    exact ⟨⟨k, rfl, Lib.hid (.inr ⟨k, rfl, hlt, hno.out, _, HXE.out, HPX.out⟩)⟩, hB⟩
  ·have hge : ¬ (k : Int) < n := by omega
   go_wp2_with fail
   go_ret
   refine ⟨⟨-1, rfl, Lib.hid (.inl ⟨rfl, ?_⟩)⟩, hB⟩
   have h := hno.out
   rwa [List.take_of_length_le (by have := HL.out; omega)] at h
theorem more_any (l l0 : ByteArray) (c c0 : Int) (b : Nat) (w : World) (h : Blk w b 136 #[.string l0, .int .i64 c0]) :
  Calls Tryz.prog 178 #[.agg #[.string l, .int .i64 c], .pointer (some ⟨b, 0, none⟩)] w fun e w' => e = .returned (.bool (decide (c0 < c))) ∧ Below w.heap.size w w' := by
 have hX := Blk.new w 136 #[.string l, .int .i64 c]
 have h2 := h.alloc (.cells #[.string l, .int .i64 c] 136)
 have qX := fun i => hX.cell i
 have q2 := fun i => h2.cell i
 have hB : Below w.heap.size w (w.alloc (.cells #[.string l, .int .i64 c] 136)) := (Below.refl _ _).alloc (Nat.le_refl _) _
 have hl := h.lt
 by_cases hc : c0 < c
 all_goals
  go_enter Tryz.func178, Tryz.ntmps178
  go_wp2_with fail
  go_ret
  exact ⟨by simp [hc], hB⟩
theorem clone_rt (A : Option Addr) (n cap : Nat) (xs : List RT) (w : World) (hn : n ≤ 1000000) (h0 : 0 < n) (hr : Rd w w.heap.size 2 A n (xs.flatMap RT.cells)) :
  Calls Tryz.prog 180 #[.slice A n cap] w fun e w' => ∃ v, e = .returned v ∧ w'.ownsRow w.heap.size 136 2 v n (xs.flatMap RT.cells) ∧ Below w.heap.size w w' := by
 obtain ⟨i136, hi, hz0, hz1', hz2'⟩ := info_parts info136
 obtain ⟨b, off, rfl, hb, hcell⟩ := hr.2 (by omega)
 have hone : ∀ u ∈ xs.flatMap RT.cells, u.oneCell' = true := fun u hu => by
  obtain ⟨x, _, hx⟩ := List.mem_flatMap.1 hu
  simp only [RT.cells, List.mem_cons, List.not_mem_nil, or_false] at hx
  rcases hx with rfl | rfl <;> rfl
 have HO := Lib.hid hone; clear hone
 have HC := Lib.hid hcell; clear hcell
 have q130 : ∀ (w : World) (a : Option Addr) (n c n' c' : Nat), (binOp .eql 130 (.slice a n c) (.slice none n' c')).run Tryz.prog w = .ok (.bool a.isNone) w := fun w a n c n' c' => Lib.run_eql_slice_nil w _ _ a n c n' c' Tryz.underlying130
 go_enter Tryz.func180, Tryz.ntmps180
 go_wp2_with (at_builtin; refine wpList_append_any _ rfl _ _ 130 rfl w.heap.size 136 i136 (.agg #[.string ⟨#[]⟩, .int .i64 0]) 2 24 Tryz.underlying130 hi hz0 hz1' hz2' rfl (by decide) _ 0 [] rfl (World.ownsRow_made w #[] 0 (Nat.le_refl _) (Nat.zero_le _) (by simp)) w.heap.size (some ⟨b, off, none⟩) n cap (xs.flatMap RT.cells) rfl ((hr.alloc (Nat.le_refl _) _).reads) HO.out (by unfold maxLen; omega) (by omega) (by simp) (fun v' w' hown' hgrow hob => ?_))
 go_wp2_with fail
 go_ret
 refine ⟨v', rfl, by simpa using hown', ?_⟩
 exact ((Below.refl _ w).alloc (Nat.le_refl _) _).grown hgrow (by simp) (by intro k hk; exact ((World.ownsRow_made (e := 136) (size := 2) w #[] 0 (Nat.le_refl _) (Nat.zero_le _) (by simp)).lt k hk).1)
end
section
open Go.RowKit Go.Lib
theorem blk_setCells {g : Nat} {t : TypeId} : ∀ (vs : List Value) (o : Nat) (w : World) (cur : Array Value), Blk w g t cur → ∃ cur', Blk (w.setCells g o vs) g t cur' ∧ cur'.size = cur.size ∧ ∀ i, i < o → cur'[i]? = cur[i]?
 | [], o, w, cur, h => ⟨cur, h, rfl, fun _ _ => rfl⟩
 | v :: vs, o, w, cur, h => by
  obtain ⟨c', h1, h2, h3⟩ := blk_setCells vs (o + 1) (w.setCell ⟨g, o, none⟩ v) _ (h.set_ o v)
  refine ⟨c', h1, by rw [h2, Array.size_setIfInBounds], fun i hi => ?_⟩
  rw [h3 i (by omega), Array.getElem?_setIfInBounds_ne (by omega)]
theorem belowSC {B g : Nat} {a : World} (hg : B ≤ g) : ∀ (vs : List Value) (o : Nat) (w : World), Below B a w → Below B a (w.setCells g o vs)
 | [], _, _, h => h
 | v :: vs, o, w, h => belowSC hg vs (o + 1) _ (h.setCell (p := ⟨g, o, none⟩) hg v)
theorem zero136 : ∀ w, (zeroValue 136).run Tryz.prog w = .ok (.agg #[.string ⟨#[]⟩, .int .i64 0]) w := fun w => by kernel_rfl
theorem zc_one (n : Nat) : ∀ v ∈ (Builtin.zeroCells (Value.agg #[.string ⟨#[]⟩, .int .i64 0]).cells n).toList, v.oneCell' = true := by
 intro v hv
 rw [show (Value.agg #[.string ⟨#[]⟩, .int .i64 0]).cells = #[.string ⟨#[]⟩, .int .i64 0] from rfl] at hv
 unfold Builtin.zeroCells at hv
 obtain ⟨i, _, rfl⟩ := Array.mem_map.1 (Array.mem_toList_iff.1 hv)
 have : i % 2 = 0 ∨ i % 2 = 1 := by omega
 rcases this with h | h <;> simp [h, Value.oneCell']
theorem zc_len (n : Nat) : (Builtin.zeroCells (Value.agg #[.string ⟨#[]⟩, .int .i64 0]).cells n).toList.length = n * 2 := by
 rw [show (Value.agg #[.string ⟨#[]⟩, .int .i64 0]).cells = #[.string ⟨#[]⟩, .int .i64 0] from rfl]
 simp [Builtin.zeroCells]
theorem run_clear_rt (w : World) (g o n c : Nat) (cur : Array Value) (h : Blk w g 136 cur) (hn : 0 < n) (hs : o + n * 2 ≤ cur.size) :
  ∃ vs, ∀ ty, (Builtin.clear_ #[130] ty #[.slice (some ⟨g, o, none⟩) n c]).run Tryz.prog w = .ok (.tuple #[]) (w.setCells g o vs) := by
 have hst := run_storeCells_cells (P := Tryz.prog) g o (Builtin.zeroCells (Value.agg #[.string ⟨#[]⟩, .int .i64 0]).cells n).toList 0 w (fun j hj => by
   rw [zc_len] at hj
   rw [Nat.add_zero, h.cell, Array.getElem?_eq_getElem (by omega)]; rfl) (fun j hj => by exact h.frozen _) (zc_one n)
 simp only [Nat.add_zero] at hst
 obtain ⟨m, rfl⟩ : ∃ m, n = m + 1 := ⟨n - 1, by omega⟩
 exact ⟨_, fun ty => by simp only [Builtin.clear_]; simp [run_underlying Tryz.underlying130, zero136, hst]; rfl⟩
theorem first_of {α : Type} (p : α → Bool) : ∀ xs : List α, ¬ (∀ x ∈ xs, p x = false) → ∃ (k : Nat) (x : α), k < xs.length ∧ (∀ y ∈ xs.take k, p y = false) ∧ xs[k]? = some x ∧ p x = true
 | [], h => absurd (fun x hx => absurd hx List.not_mem_nil) h
 | x :: xs, h => by
  cases hx : p x
  ·have h2 : ¬ (∀ x ∈ xs, p x = false) := fun h' => h (fun y hy => by
     rcases List.mem_cons.1 hy with rfl | hy
     · exact hx
     · exact h' y hy)
   obtain ⟨k, y, h3, h4, h5, h6⟩ := first_of p xs h2
   refine ⟨k + 1, y, by simpa using h3, fun z hz => ?_, by simpa using h5, h6⟩
   rw [List.take_succ_cons] at hz
   rcases List.mem_cons.1 hz with rfl | hz
   ·exact hx
   ·exact h4 z hz
  ·exact ⟨0, x, by simp, fun y hy => by simp at hy, rfl, hx⟩
theorem mem_take_of {α : Type} {xs : List α} {k m : Nat} {x : α} (h : xs[k]? = some x) (hm : k < m) : x ∈ xs.take m := by
 have : (xs.take m)[k]? = some x := by rw [List.getElem?_take_of_lt hm]; exact h
 exact List.mem_of_getElem? this
def keepR (c0 : Int) (xs : List RT) : List RT := xs.filter fun x => decide (x.c ≤ c0)
theorem keepR_snoc (c0 : Int) (xs : List RT) (x : RT) : keepR c0 (xs ++ [x]) = if x.c ≤ c0 then keepR c0 xs ++ [x] else keepR c0 xs := by
 unfold keepR
 rw [List.filter_append]
 by_cases h : x.c ≤ c0 <;> simp [h]
theorem keepR_all {c0 : Int} {xs : List RT} (h : ∀ x ∈ xs, decide (c0 < x.c) = false) : keepR c0 xs = xs := by
 unfold keepR
 exact List.filter_eq_self.2 (fun x hx => by have := h x hx; rw [decide_eq_false_iff_not] at this; rw [decide_eq_true_eq]; omega)
theorem delete_x1 (g n cap pb base : Nat) (xs : List RT) (l0 : ByteArray) (c0 : Int) (w : World) (hn : n ≤ 1000000) (hown : w.ownsRow base 136 2 (.slice (some ⟨g, 0, none⟩) n cap) n (xs.flatMap RT.cells)) (hP : Blk w pb 136 #[.string l0, .int .i64 c0]) (hbs : base ≤ w.heap.size)
  (hall : ∀ x ∈ xs, decide (c0 < x.c) = false) :
  Calls Tryz.prog 179 #[.slice (some ⟨g, 0, none⟩) n cap, .func (.func 178) #[] #[.pointer (some ⟨pb, 0, none⟩)]] w fun e w' => ∃ m, e = .returned (.slice (some ⟨g, 0, none⟩) m cap) ∧ w'.ownsRow base 136 2 (.slice (some ⟨g, 0, none⟩) m cap) m ((keepR c0 xs).flatMap RT.cells) ∧ Below base w w' := by
 have hix := (index_rt 178 (.pointer (some ⟨pb, 0, none⟩)) (fun x => decide (c0 < x.c)) _ n cap xs w (by unfold maxLen; omega) (Rd.of_own hown) (fun _ _ => rfl) (Lib.hid fun x _ wx hx => (more_any x.l l0 x.c c0 pb wx (hP.below hx hP.lt)))).mono (R' := fun e w' => e = .returned (.int .i64 (-1)) ∧ Below w.heap.size w w') (by
   rintro e w' ⟨⟨r, rfl, hr⟩, hb⟩
   rcases hr.out with ⟨rfl, _⟩ | ⟨k, rfl, _, _, x, hx, hp⟩
   · exact ⟨rfl, hb⟩
   · have := hall x (List.mem_of_getElem? hx)
     rw [this] at hp
     cases hp)
 rw [keepR_all hall]
 have HIX := Lib.hid hix; clear hix hall
 go_enter Tryz.func179, Tryz.ntmps179
 go_wp2_with (go_at_call 202; refine HIX.out.mono ?_; rintro e w1 ⟨rfl, hb⟩)
 go_ret
 exact ⟨n, rfl, ownsRow_below' hown hb, hb.mono hbs⟩
theorem size136 : ∀ w, (sizeOf 136).run Tryz.prog w = .ok 2 w := fun w => by kernel_rfl
theorem delete_x2 (g n cap pb base : Nat) (xs : List RT) (l0 : ByteArray) (c0 : Int) (w : World) (hn : n ≤ 1000000) (hown : w.ownsRow base 136 2 (.slice (some ⟨g, 0, none⟩) n cap) n (xs.flatMap RT.cells)) (hP : Blk w pb 136 #[.string l0, .int .i64 c0]) (hpb : pb < base) (hbs : base ≤ w.heap.size)
  (hall : ¬ ∀ x ∈ xs, decide (c0 < x.c) = false) :
  Calls Tryz.prog 179 #[.slice (some ⟨g, 0, none⟩) n cap, .func (.func 178) #[] #[.pointer (some ⟨pb, 0, none⟩)]] w fun e w' => ∃ m, e = .returned (.slice (some ⟨g, 0, none⟩) m cap) ∧ w'.ownsRow base 136 2 (.slice (some ⟨g, 0, none⟩) m cap) m ((keepR c0 xs).flatMap RT.cells) ∧ Below base w w' := by
 have hcf : ∀ (a : Array Value) (w : World), Sem.run Tryz.prog (callFunc 178 a) w = .ok (Next.enter 178 a) w := fun _ _ => rfl
 obtain ⟨k0, x0, hk0, hpre, hx0, hp0⟩ := first_of _ xs hall
 have hix := (index_rt 178 (.pointer (some ⟨pb, 0, none⟩)) (fun x => decide (c0 < x.c)) _ n cap xs w (by unfold maxLen; omega) (Rd.of_own hown) (fun _ _ => rfl) (Lib.hid fun x _ wx hx => (more_any x.l l0 x.c c0 pb wx (hP.below hx hP.lt)))).mono (R' := fun e w' => e = .returned (.int .i64 (k0 : Int)) ∧ Below w.heap.size w w') (by
   rintro e w' ⟨⟨r, rfl, hr⟩, hb⟩
   rcases hr.out with ⟨rfl, h⟩ | ⟨k, rfl, _, h, x, hx, hp⟩
   · have := h x0 (List.mem_of_getElem? hx0)
     rw [this] at hp0
     cases hp0
   · refine ⟨?_, hb⟩
     have : k = k0 := by
       rcases Nat.lt_trichotomy k k0 with h' | h' | h'
       · have := hpre x (mem_take_of hx h'); rw [this] at hp; cases hp
       · exact h'
       · have := h x0 (mem_take_of hx0 h'); rw [this] at hp0; cases hp0
     rw [this])
 have hlen := (Rd.of_own hown).lenRT
 have hc0 := (Rd.of_own hown)
 obtain ⟨ho1, ho2⟩ := hown
 rcases ho2 with ⟨h, _⟩ | ⟨g', cap', cur, h, hbg, hY, hnc, hcm, hcs, htake⟩
 ·cases h
 cases h
 have hY : Blk w g 136 cur := hY
 have hq0 : ∀ j (hj : j < xs.length), cur[j * 2]? = some (.string xs[j].l) ∧ cur[j * 2 + 1]? = some (.int .i64 xs[j].c) := fun j hj => by
  obtain ⟨b, off, hz, e, _, h1, h2⟩ := hc0.elRT (show j < n by omega)
  cases e
  rw [hY.cell] at h1 h2
  simp only [Nat.zero_add] at h1 h2
  exact ⟨h1, h2⟩
 have hkx : keepR c0 (xs.take (k0 + 1)) = xs.take k0 := by
  have hkl : k0 < xs.length := hk0
  rw [List.take_succ_eq_append_getElem hkl, keepR_snoc, keepR_all hpre]
  have e : xs[k0] = x0 := by rw [List.getElem?_eq_getElem hkl] at hx0; injection hx0
  rw [e, if_neg (by have := of_decide_eq_true hp0; omega)]
 have hk0n : k0 < n := by omega
 have hyl : (xs.take k0).length = k0 := by rw [List.length_take]; omega
 have HIX := Lib.hid hix; have HL := Lib.hid hlen; have HKX := Lib.hid hkx; have HQ0 := Lib.hid hq0; have HPRE := Lib.hid hpre; have HYL := Lib.hid hyl; have HSL := Lib.hid hcs
 clear hix hlen hkx hq0 hc0 hpre hall hx0 hp0 hyl ho1 htake
 have hki : ((k0 : Int) == -1) = false := by rw [beq_eq_false_iff_ne]; omega
 go_enter Tryz.func179, Tryz.ntmps179
 go_wp2_with (go_at_call 202; refine HIX.out.mono ?_; rintro e w1 ⟨rfl, hb⟩; replace hY := hY.below hb hY.lt; replace hP := hP.below hb hP.lt; have hB := hb.mono hbs; clear hb)
 go_loopg [5, 6] (n - (k0 + 1)) (fun gk mv kv wr => ∃ (k m : Nat) (cu : Array Value), gk = n - k ∧ k ≤ n ∧ m < k ∧ mv = .int .i64 m ∧ kv = .int .i64 k ∧ Hid (m = (keepR c0 (xs.take k)).length) ∧ Hid (cu.size = cap * 2) ∧ Hid ((∀ j (hj : j < (keepR c0 (xs.take k)).length), cu[j * 2]? = some (.string (keepR c0 (xs.take k))[j].l) ∧ cu[j * 2 + 1]? = some (.int .i64 (keepR c0 (xs.take k))[j].c)) ∧ ∀ j (hj : j < xs.length), k ≤ j → cu[j * 2]? = some (.string xs[j].l) ∧ cu[j * 2 + 1]? = some (.int .i64 xs[j].c)) ∧ Blk wr g 136 cu ∧ Blk wr pb 136 #[.string l0, .int .i64 c0] ∧ Below base w wr)
 case atStart =>
  refine ⟨k0 + 1, k0, cur, rfl, hk0n, Nat.lt_succ_self _, rfl, by go_num, Lib.hid (by rw [HKX.out, HYL.out]), HSL, Lib.hid ⟨fun j hj => ?_, fun j hj _ => HQ0.out j hj⟩, hY, hP, hB⟩
  have hj2 : j < k0 := by rw [HKX.out, HYL.out] at hj; exact hj
  have e : (keepR c0 (xs.take (k0 + 1)))[j] = xs[j]'(by have := HL.out; omega) := by
   rw [List.getElem_of_eq HKX.out, List.getElem_take]
  rw [e]
  exact HQ0.out j _
 case round =>
  clear hY hP hB
  obtain ⟨k, m, cu, hg, hk, hmk, rfl, rfl, hm, hcs, hcu, hY, hP, hB⟩ := hrel
  rename World => wr
  have HG := Lib.hid hg; clear hg
  have qY := fun i => hY.cell i
  have fY := fun i => hY.frozen i
  have hYl := hY.lt
  by_cases hlt : k < n
  ·have hlti : (k : Int) < n := by omega
   have hkx : k < xs.length := by rw [HL.out]; exact hlt
   have htk : xs.take (k + 1) = xs.take k ++ [xs[k]] := List.take_succ_eq_append_getElem hkx
   have hks := keepR_snoc c0 (xs.take k) xs[k]
   rw [← htk] at hks
   obtain ⟨hq, hq2⟩ := hcu.out.2 k hkx (Nat.le_refl _)
   generalize xs[k] = x at *
   obtain ⟨l, c⟩ := x
   dsimp only at hq hq2 hks
   have HKS := Lib.hid hks; clear hks htk hkx
   have hmr := fun wx (hx : Blk wx pb 136 #[.string l0, .int .i64 c0]) => more_any l l0 c c0 pb wx hx
   have hX := Blk.new wr 136 #[.string l, .int .i64 c]
   have qX := fun i => hX.cell i
   by_cases hcc : c0 < c
   ·simp only [hcc, decide_true] at hmr
    have HMR := Lib.hid hmr; clear hmr
    have HKS2 : Hid (keepR c0 (xs.take (k + 1)) = keepR c0 (xs.take k)) := Lib.hid (by rw [HKS.out, if_neg (by omega)])
    clear hcc
    go_wp2_with (refine (HMR.out _ (hP.alloc _)).mono ?_; rintro e w1 ⟨rfl, hb1⟩; have hY' := (hY.alloc (.cells #[.string l, .int .i64 c] 136)).below hb1 (by have := hY.lt; simp only [World.size_alloc]; omega); have hP' := (hP.alloc (.cells #[.string l, .int .i64 c] 136)).below hb1 (by have := hP.lt; simp only [World.size_alloc]; omega); have hB' := (hB.alloc (by have := hB.size; omega) (.cells #[.string l, .int .i64 c] 136)).trans (hb1.mono (by have := hB.size; simp only [World.size_alloc]; omega)); clear hb1)
    go_roundg (n - (k + 1))
    case measure => rw [HG.out]; omega
    case rel => exact ⟨k + 1, m, cu, rfl, by omega, by omega, rfl, by go_num, Lib.hid (by rw [HKS2.out]; exact hm.out), hcs, Lib.hid (by rw [HKS2.out]; exact ⟨hcu.out.1, fun j hj h => hcu.out.2 j hj (by omega)⟩), hY', hP', hB'⟩
   ·simp only [hcc, decide_false] at hmr
    have HMR := Lib.hid hmr; clear hmr
    have HKS2 : Hid (keepR c0 (xs.take (k + 1)) = keepR c0 (xs.take k) ++ [⟨l, c⟩]) := Lib.hid (by rw [HKS.out, if_pos (by omega)])
    clear hcc
    have hmi : (m : Int) < n := by omega
    obtain ⟨u0, hu0⟩ : ∃ u, cu[m * 2]? = some u := ⟨_, Array.getElem?_eq_getElem (by have := hcs.out; omega)⟩
    obtain ⟨u1, hu1⟩ : ∃ u, cu[m * 2 + 1]? = some u := ⟨_, Array.getElem?_eq_getElem (by have := hcs.out; omega)⟩
    go_wp2_with (refine (HMR.out _ (hP.alloc _)).mono ?_; rintro e w1 ⟨rfl, hb1⟩; have hY' := (hY.alloc (.cells #[.string l, .int .i64 c] 136)).below hb1 (by have := hY.lt; simp only [World.size_alloc]; omega); have hP' := (hP.alloc (.cells #[.string l, .int .i64 c] 136)).below hb1 (by have := hP.lt; simp only [World.size_alloc]; omega); have hB' := (hB.alloc (by have := hB.size; omega) (.cells #[.string l, .int .i64 c] 136)).trans (hb1.mono (by have := hB.size; simp only [World.size_alloc]; omega)); have hX' := hX.below hb1 (by simp only [World.size_alloc]; omega); have qX' := fun i => hX'.cell i; have qY' := fun i => hY'.cell i; have fY' := fun i => hY'.frozen i; have lY' := hY'.lt; clear hb1)
    go_roundg (n - (k + 1))
    case measure => rw [HG.out]; omega
    case rel =>
     refine ⟨k + 1, m + 1, _, rfl, by omega, by omega, by go_num, by go_num, Lib.hid (by rw [HKS2.out, List.length_append, ← hm.out]; rfl), ?_, ?_, (hY'.set_ (m * 2) (.string l)).set_ (m * 2 + 1) (.int .i64 c), (hP'.far (p := ⟨g, m * 2, none⟩) (show pb ≠ g by omega) (.string l)).far (p := ⟨g, m * 2 + 1, none⟩) (show pb ≠ g by omega) (.int .i64 c), (hB'.setCell (p := ⟨g, m * 2, none⟩) hbg (.string l)).setCell (p := ⟨g, m * 2 + 1, none⟩) hbg (.int .i64 c)⟩
     ·exact Lib.hid (by simp only [Array.size_setIfInBounds]; exact hcs.out)
     ·have hsz := hcs.out
      have hml := hm.out
      refine Lib.hid ⟨fun j hj => ?_, fun j hj h => ?_⟩
      ·rw [HKS2.out, List.length_append, ← hml, List.length_singleton] at hj
       have e1 := List.getElem_of_eq HKS2.out (show j < (keepR c0 (xs.take (k + 1))).length by rw [HKS2.out, List.length_append, ← hml, List.length_singleton]; exact hj)
       rw [e1]
       by_cases hjm : j = m
       ·subst hjm
        rw [List.getElem_append_right (by omega)]
        simp only [← hml, Nat.sub_self, List.getElem_cons_zero]
        refine ⟨?_, ?_⟩
        ·rw [Array.getElem?_setIfInBounds_ne (by omega), Array.getElem?_setIfInBounds_self_of_lt (by omega)]
        ·rw [Array.getElem?_setIfInBounds_self_of_lt (by simp only [Array.size_setIfInBounds]; omega)]
       ·rw [List.getElem_append_left (by omega)]
        have := hcu.out.1 j (by omega)
        refine ⟨?_, ?_⟩
        ·rw [Array.getElem?_setIfInBounds_ne (by omega), Array.getElem?_setIfInBounds_ne (by omega)]; exact this.1
        ·rw [Array.getElem?_setIfInBounds_ne (by omega), Array.getElem?_setIfInBounds_ne (by omega)]; exact this.2
      ·have := hcu.out.2 j hj (by omega)
       refine ⟨?_, ?_⟩
       ·rw [Array.getElem?_setIfInBounds_ne (by omega), Array.getElem?_setIfInBounds_ne (by omega)]; exact this.1
       ·rw [Array.getElem?_setIfInBounds_ne (by omega), Array.getElem?_setIfInBounds_ne (by omega)]; exact this.2
  ·obtain rfl : k = n := by omega
   have hge : ¬ (k : Int) < k := by omega
   have htk : xs.take k = xs := List.take_of_length_le (by rw [HL.out]; exact Nat.le_refl _)
   rw [htk] at hm hcu
   have hcap : 0 < cap := by omega
   have hsl := fun wx => run_slice_lo (P := Tryz.prog) 130 136 2 Tryz.underlying130 size136 (some ⟨g, 0, none⟩) k cap .i64 m (by omega) hnc wx
   have hcut : cutA (some ⟨g, 0, none⟩) cap m 2 = some ⟨g, m * 2, none⟩ := by
    unfold cutA
    by_cases h : m = 0
    ·subst h; simp [Addr.add]
    ·have : ¬ cap = m := by omega
     have h3 : ¬ m * 2 = 0 := by omega
     simp [Addr.add, h, this, h3]
   rw [hcut] at hsl
   have hsh := fun wx => run_slice_hi (P := Tryz.prog) 130 136 2 Tryz.underlying130 size136 g k cap .i64 m (by omega) hcap wx
   obtain ⟨vs, hclr⟩ := run_clear_rt wr g (m * 2) (k - m) (cap - m) cu hY (by omega) (by rw [hcs.out]; omega)
   obtain ⟨cu', hY', hs', hpre'⟩ := blk_setCells vs (m * 2) wr cu hY
   have hB2 := belowSC hbg vs (m * 2) wr hB
   clear hcut htk
   go_wp2_with fail
   go_ret
   refine ⟨m, rfl, ⟨by rw [flatRT_len, ← hm.out], .inr ⟨g, cap, cu', rfl, hbg, hY', by omega, hcm, by rw [hs', hcs.out], ?_⟩⟩, hB2⟩
   apply List.ext_getElem?
   intro i
   by_cases hi : i < m * 2
   ·rw [List.getElem?_take_of_lt hi, Array.getElem?_toList, hpre' i hi]
    have hj : i / 2 < (keepR c0 xs).length := by rw [← hm.out]; omega
    have hc := hcu.out.1 (i / 2) hj
    have hf := flatRT (keepR c0 xs) (i / 2) (i % 2) hj (by omega)
    have he : i / 2 * 2 + i % 2 = i := by omega
    rw [he] at hf
    rw [hf]
    have : i % 2 = 0 ∨ i % 2 = 1 := by omega
    rcases this with h | h
    ·rw [h]; rw [show i / 2 * 2 = i by omega] at hc; exact hc.1
    ·rw [h]; rw [show i / 2 * 2 + 1 = i by omega] at hc; exact hc.2
   ·rw [List.getElem?_eq_none (by rw [List.length_take]; omega), List.getElem?_eq_none (by rw [flatRT_len, ← hm.out]; omega)]
theorem deleteFunc_rt (g n cap pb base : Nat) (xs : List RT) (l0 : ByteArray) (c0 : Int) (w : World) (hn : n ≤ 1000000) (hown : w.ownsRow base 136 2 (.slice (some ⟨g, 0, none⟩) n cap) n (xs.flatMap RT.cells)) (hP : Blk w pb 136 #[.string l0, .int .i64 c0]) (hpb : pb < base) (hbs : base ≤ w.heap.size) :
  Calls Tryz.prog 179 #[.slice (some ⟨g, 0, none⟩) n cap, .func (.func 178) #[] #[.pointer (some ⟨pb, 0, none⟩)]] w fun e w' => ∃ m, e = .returned (.slice (some ⟨g, 0, none⟩) m cap) ∧ w'.ownsRow base 136 2 (.slice (some ⟨g, 0, none⟩) m cap) m ((keepR c0 xs).flatMap RT.cells) ∧ Below base w w' := by
 by_cases h : ∀ x ∈ xs, decide (c0 < x.c) = false
 ·exact delete_x1 g n cap pb base xs l0 c0 w hn hown hP hbs h
 ·exact delete_x2 g n cap pb base xs l0 c0 w hn hown hP hpb hbs h
end
section
open Go.RowKit Go.Lib
def leastR (xs : List RT) : List RT := match bestI RT.c xs with | some b => keepR b.c xs | none => []
theorem least_rt (A : Option Addr) (n cap : Nat) (xs : List RT) (w : World) (hn : n ≤ 1000000) (h0 : 0 < n) (hr : Rd w w.heap.size 2 A n (xs.flatMap RT.cells)) :
  Calls Tryz.prog 135 #[.slice A n cap] w fun e w' => ∃ v m, e = .returned v ∧ w'.ownsRow w.heap.size 136 2 v m ((leastR xs).flatMap RT.cells) ∧ Below w.heap.size w w' := by
 have hmf : ∀ (fn : Fn) (first cap : Array Value) (w : World), (Instr.makeFunc fn first cap).run Tryz.prog w = .ok (.func fn first cap) w := fun _ _ _ _ => rfl
 have hlen := hr.lenRT
 obtain ⟨b, hb⟩ := bestI_some RT.c (l := xs) (fun e => by rw [e] at hlen; simp at hlen; omega)
 have hlr : leastR xs = keepR b.c xs := by unfold leastR; rw [hb]
 have hbe := best_RT A n cap xs w hn hr
 rw [hb] at hbe
 obtain ⟨l0, c0⟩ := b
 simp only [brRT, acRT, Option.isSome_some] at hbe
 rw [hlr]
 dsimp only
 have HBE := Lib.hid hbe; clear hbe hb hlr hlen
 have hcl := fun wx (hx : Below w.heap.size w wx) => clone_rt A n cap xs wx hn h0 ((hr.below hx).more hx.size)
 have HCL := Lib.hid hcl; clear hcl
 have HDL : Hid (∀ (g cp pb base : Nat) (wx : World), wx.ownsRow base 136 2 (.slice (some ⟨g, 0, none⟩) n cp) n (xs.flatMap RT.cells) → Blk wx pb 136 #[.string l0, .int .i64 c0] → pb < base → base ≤ wx.heap.size → Calls Tryz.prog 179 #[.slice (some ⟨g, 0, none⟩) n cp, .func (.func 178) #[] #[.pointer (some ⟨pb, 0, none⟩)]] wx fun e w' => ∃ m, e = .returned (.slice (some ⟨g, 0, none⟩) m cp) ∧ w'.ownsRow base 136 2 (.slice (some ⟨g, 0, none⟩) m cp) m ((keepR c0 xs).flatMap RT.cells) ∧ Below base wx w') :=
  Lib.hid fun g cp pb base wx h1 h2 h3 h4 => deleteFunc_rt g n cp pb base xs l0 c0 wx hn h1 h2 h3 h4
 go_enter Tryz.func135, Tryz.ntmps135
 go_wp2_with (first
   | (go_at_call 176; refine HBE.out.mono ?_; rintro e w1 ⟨rfl, hb⟩; have hB := hb; have hP := Blk.new w1 136 #[.string l0, .int .i64 c0]; replace hB := hB.alloc hB.size (.cells #[.string l0, .int .i64 c0] 136); have hs1 := hB.size; clear hb)
   | (go_at_call 180; refine (HCL.out _ hB).mono ?_; rintro e w2 ⟨v, rfl, hrow, hb⟩; replace hP := hP.below hb hP.lt; replace hB := hB.trans (hb.mono hB.size); obtain ⟨g, cp, e2, hg1, hg2⟩ := hrow.form h0; subst e2; have hs2 := hb.size; clear hb)
   | (go_at_call 179; refine (HDL.out g cp _ _ _ hrow hP (by simp only [World.size_alloc]; omega) hs2).mono ?_; rintro e w3 ⟨m, rfl, hrow3, hb⟩; replace hB := hB.trans (hb.mono hs1)))
 go_ret
 exact ⟨_, m, rfl, own_mono hrow3 hs1, hB⟩
end
section
open Go.RowKit Go.Lib
theorem badWords_any (W : Int) (BA : Option Addr) (bn bc : Nat) (r : RI) (g : Nat) (w : World) (h1 : 1 ≤ W) (h2 : W ≤ 3) (hb : Blk w g 24 #[.int .i64 W, .slice BA bn bc]) (hr : r.ok w w.heap.size) :
  Calls Tryz.prog 145 #[.slice r.A r.n r.cap, .pointer (some ⟨g, 0, none⟩)] w fun e w' => e = .returned (.bool (!lnB W r.ws)) ∧ Below w.heap.size w w' := by
 obtain ⟨A, n, cap, ws⟩ := r
 obtain ⟨r1, r2, r3⟩ := hr
 dsimp only at r1 r2 r3 ⊢
 have qX := fun i => hb.cell i
 have hgl := goodLine_any W BA bn bc A n cap ws w h1 h2 (by omega) r3
 have HGL := Lib.hid hgl; clear hgl
 go_enter Tryz.func145, Tryz.ntmps145
 go_wp2_with (go_at_call 82; refine HGL.out.mono ?_; rintro e w1 ⟨rfl, hb1⟩)
 go_ret
 exact ⟨rfl, hb1⟩
def textB (W : Int) (h : Nat) (ts : List RI) : Bool := decide ((ts.length : Int) = h) && ts.all fun r => lnB W r.ws
theorem goodText_any (W : Int) (A : Option Addr) (n cap : Nat) (cs : List VC) (tA : Option Addr) (tn tc : Nat) (ts : List RI) (w : World) (h1 : 1 ≤ W) (h2 : W ≤ 3) (hn : 1 ≤ n) (hr : Rd w w.heap.size 1 A n (cs.map VC.val)) (hc : ∀ c ∈ cs, c.ok w w.heap.size) (htn : tn ≤ maxLen) (htr : Rd w w.heap.size 1 tA tn (ts.map RI.val)) (ht : ∀ r ∈ ts, r.ok w w.heap.size) :
  Calls Tryz.prog 102 #[.agg #[.int .i64 W, .slice A n cap], .slice tA tn tc] w fun e w' => e = .returned (.bool (textB W (headN cs) ts)) ∧ Below w.heap.size w w' := by
 have hmf : ∀ (fn : Fn) (first cap : Array Value) (w : World), (Instr.makeFunc fn first cap).run Tryz.prog w = .ok (.func fn first cap) w := fun _ _ _ _ => rfl
 have hlen : ts.length = tn := by simpa using htr.len
 have hB : Below w.heap.size w (w.alloc (.cells #[.int .i64 W, .slice A n cap] 24)) := (Below.refl _ w).alloc (Nat.le_refl _) _
 have hX := Blk.new w 24 #[.int .i64 W, .slice A n cap]
 have q0 := fun i => hX.cell i
 have hlc := fun wx (hx : Below w.heap.size w wx) => lineCount_any W A n cap cs wx hn (rdB hr hx) (fun c hcc => okB (hc c hcc) hx)
 have hct := fun wx (hX : Blk wx w.heap.size 24 #[.int .i64 W, .slice A n cap]) (hB : Below w.heap.size w wx) => contains_row 145 (.pointer (some ⟨w.heap.size, 0, none⟩)) (fun r => !lnB W r.ws) tA tn tc ts wx htn (rdB htr hB) (fun _ _ => rfl) (Lib.hid fun r hr' wy hy => badWords_any W A n cap r w.heap.size wy h1 h2 (hX.below hy hX.lt) ((((ht r hr').below hB).more hB.size).below hy |>.more hy.size))
 have he : textB W (headN cs) ts = (decide ((tn : Int) = headN cs) && !(ts.any fun r => !lnB W r.ws)) := by unfold textB; rw [hlen, List.all_eq_not_any_not]
 rw [he]
 generalize headN cs = h at *
 generalize (ts.any fun r => !lnB W r.ws) = bad at *
 have HLC := Lib.hid hlc; have HCT := Lib.hid hct; clear hlc hct he hlen
 by_cases hh : (tn : Int) = h
 ·have hb : ((tn : Int) == h) = true := by rw [beq_iff_eq]; exact hh
  rw [decide_eq_true hh]
  clear hh
  cases bad
  all_goals
   go_enter Tryz.func102, Tryz.ntmps102
   go_wp2_with (first
     | (go_at_call 126; refine (HLC.out _ hB).mono ?_; rintro e w1 ⟨rfl, hb1⟩; replace hB := hB.trans (hb1.mono hB.size); replace hX := hX.below hb1 hX.lt; clear q0 hb1; have q0 := fun i => hX.cell i)
     | (go_at_call 146; refine (HCT.out _ hX hB).mono ?_; rintro e w2 ⟨rfl, hb2⟩; replace hB := hB.trans (hb2.mono hB.size); clear hb2))
   go_ret
   exact ⟨rfl, hB⟩
 ·have hb : ((tn : Int) == h) = false := by rw [beq_eq_false_iff_ne]; exact hh
  rw [decide_eq_false hh]
  clear hh
  go_enter Tryz.func102, Tryz.ntmps102
  go_wp2_with (first
    | (go_at_call 126; refine (HLC.out _ hB).mono ?_; rintro e w1 ⟨rfl, hb1⟩; replace hB := hB.trans (hb1.mono hB.size); replace hX := hX.below hb1 hX.lt; clear q0 hb1; have q0 := fun i => hX.cell i))
  go_ret
  exact ⟨rfl, hB⟩
theorem sameLine_any (q : QU) (k : Int) (b : Nat) (w : World) (h : Blk w b 3 #[.int .i64 k]) :
  Calls Tryz.prog 152 #[.agg #[.int .i64 q.copy, .int .i64 q.line, .int .i64 q.left], .pointer (some ⟨b, 0, none⟩)] w fun e w' => e = .returned (.bool (q.line == k)) ∧ Below w.heap.size w w' := by
 obtain ⟨c, l, f⟩ := q
 dsimp only
 have hX := Blk.new w 152 #[.int .i64 c, .int .i64 l, .int .i64 f]
 have h2 := h.alloc (.cells #[.int .i64 c, .int .i64 l, .int .i64 f] 152)
 have qX := fun i => hX.cell i
 have q2 := fun i => h2.cell i
 have hB : Below w.heap.size w (w.alloc (.cells #[.int .i64 c, .int .i64 l, .int .i64 f] 152)) := (Below.refl _ _).alloc (Nat.le_refl _) _
 have hl := h.lt
 go_enter Tryz.func152, Tryz.ntmps152
 go_wp2_with fail
 go_ret
 exact ⟨rfl, hB⟩
theorem clone_int (A : Option Addr) (n cap : Nat) (xs : List Int) (w : World) (hn : n ≤ 1000000) (hA : A = none → n = 0) (hr : Rd w w.heap.size 1 A n (xs.map (Value.int .i64))) :
  Calls Tryz.prog 184 #[.slice A n cap] w fun e w' => ∃ v, e = .returned v ∧ w'.ownsRow w.heap.size 3 1 v n (xs.map (Value.int .i64)) ∧ Below w.heap.size w w' := by
 obtain ⟨i3, hi, hz0, hz1', hz2'⟩ := info_parts info3
 have hone : ∀ u ∈ xs.map (Value.int .i64), u.oneCell' = true := fun u hu => by
  obtain ⟨x, _, rfl⟩ := List.mem_map.1 hu
  rfl
 have hlen : xs.length = n := by simpa using hr.len
 have HO := Lib.hid hone; have HL := Lib.hid hlen; clear hone hlen
 have q25 : ∀ (w : World) (a : Option Addr) (n c n' c' : Nat), (binOp .eql 25 (.slice a n c) (.slice none n' c')).run Tryz.prog w = .ok (.bool a.isNone) w := fun w a n c n' c' => Lib.run_eql_slice_nil w _ _ a n c n' c' Tryz.underlying25
 cases A with
 | none =>
  obtain rfl := hA rfl
  have hxs : xs = [] := List.length_eq_zero_iff.1 HL.out
  subst hxs
  go_enter Tryz.func184, Tryz.ntmps184
  go_wp2_with fail
  go_ret
  exact ⟨_, rfl, World.ownsRow_nil _ _ _ _, Below.refl _ _⟩
 | some ad =>
  clear hA
  go_enter Tryz.func184, Tryz.ntmps184
  go_wp2_with (at_builtin; refine wpList_append_any _ rfl _ _ 25 rfl w.heap.size 3 i3 (.int .i64 0) 1 8 Tryz.underlying25 hi hz0 hz1' hz2' rfl (by decide) _ 0 [] rfl (World.ownsRow_made w #[] 0 (Nat.le_refl _) (Nat.zero_le _) (by simp)) w.heap.size (some ad) n cap (xs.map (Value.int .i64)) rfl ((hr.alloc (Nat.le_refl _) _).reads) HO.out (by unfold maxLen; omega) (by omega) (by simp) (fun v' w' hown' hgrow hob => ?_))
  go_wp2_with fail
  go_ret
  refine ⟨v', rfl, by simpa using hown', ?_⟩
  exact ((Below.refl _ w).alloc (Nat.le_refl _) _).grown hgrow (by simp) (by intro k hk; exact ((World.ownsRow_made (e := 3) (size := 1) w #[] 0 (Nat.le_refl _) (Nat.zero_le _) (by simp)).lt k hk).1)
end
section
open Go.RowKit Go.Lib
theorem linesText_any (W : Int) (A : Option Addr) (n cap : Nat) (cs : List VC) (tA : Option Addr) (tn tc mb : Nat) (ts : List RI) (w : World) (hn : 1 ≤ n) (hn2 : n ≤ 1000) (hr : Rd w w.heap.size 1 A n (cs.map VC.val)) (hc : ∀ c ∈ cs, c.ok w w.heap.size) (hh : headN cs ≤ 100) (htr : Rd w w.heap.size 1 tA tn (ts.map RI.val)) (ht : ∀ r ∈ ts, r.ok w w.heap.size) (htw : ∀ r ∈ ts, r.n ≤ 1000 ∧ ∀ x ∈ r.ws, 0 ≤ x ∧ x ≤ 255) (hsl : ts.length = headN cs) :
  Calls Tryz.prog 151 #[.agg #[.int .i64 W, .slice A n cap, .slice tA tn tc, .map (some mb)], .int .i64 (-1)] w fun e w' => ∃ v, e = .returned v ∧ w'.ownsRow w.heap.size 121 1 v (headN cs) (ts.map fun r => .string (lbS r.ws)) ∧ Below w.heap.size w w' := by
 obtain ⟨i121, hi, hz0, hz1', hz2'⟩ := info_parts info121
 have htn : ts.length = tn := by simpa using htr.len
 have HTN := Lib.hid htn; clear htn
 have hB : Below w.heap.size w (w.alloc (.cells #[.int .i64 W, .slice A n cap, .slice tA tn tc, .map (some mb)] 149)) := (Below.refl _ w).alloc (Nat.le_refl _) _
 have hX := Blk.new w 149 #[.int .i64 W, .slice A n cap, .slice tA tn tc, .map (some mb)]
 have qX := fun i => hX.cell i
 have hlc := fun wx (hx : Below w.heap.size w wx) => lineCount_any W A n cap cs wx hn (rdB hr hx) (fun c hcc => okB (hc c hcc) hx)
 obtain ⟨L, hL⟩ : ∃ L, L = headN cs := ⟨_, rfl⟩
 rw [← hL] at hh hlc hsl ⊢
 have HLC := Lib.hid hlc; have HSL := Lib.hid hsl; clear hlc hL hsl
 go_enter Tryz.func151, Tryz.ntmps151
 go_wp2_with (go_at_call 126; refine (HLC.out _ hB).mono ?_; rintro e w1 ⟨rfl, hb1⟩; replace hB := hB.trans (hb1.mono hB.size); replace hX := hX.below hb1 hX.lt; clear qX hb1)
 go_loopg [5, 10] L (fun g v i wr => ∃ (k : Nat) (v0 : Value), g = L - k ∧ k ≤ L ∧ v = v0 ∧ i = .int .i64 k ∧ wr.ownsRow w.heap.size 121 1 v0 k ((ts.take k).map fun r => .string (lbS r.ws)) ∧ Blk wr w.heap.size 149 #[.int .i64 W, .slice A n cap, .slice tA tn tc, .map (some mb)] ∧ Below w.heap.size w wr)
 case atStart => exact ⟨0, _, rfl, Nat.zero_le _, rfl, rfl, World.ownsRow_nil _ _ _ _, hX, hB⟩
 case round =>
  clear hX hB
  obtain ⟨k, v0, hg, hk, rfl, rfl, hown, hX, hB⟩ := hrel
  rename World => wr
  obtain ⟨va, vc, rfl⟩ := own_slice hown
  have HG := Lib.hid hg; clear hg
  have qX := fun i => hX.cell i
  by_cases hlt : k < L
  ·have hlti : (k : Int) < L := by omega
   obtain ⟨tb, toff, hz, rfl, hb, hcell⟩ := (htr.below hB).atm (show k < tn by have := HSL.out; have := HTN.out; omega)
   have hkt : (k : Int) < tn := by have := HSL.out; have := HTN.out; omega
   have htk : ts.take (k + 1) = ts.take k ++ [ts[k]] := List.take_succ_eq_append_getElem hz
   have hin := List.getElem_mem hz
   generalize ts[k] = r at *
   obtain ⟨hrw0, hrw⟩ := htw r hin
   have hrd := (((ht r hin).2.2).below hB).more hB.size
   obtain ⟨rA, rn, rc, rw⟩ := r
   simp only [RI.val] at hcell
   dsimp only at hrw0 hrw hrd
   clear hin hz
   have hap : ((ts.take (k + 1)).map fun r => Value.string (lbS r.ws)) = ((ts.take k).map fun r => Value.string (lbS r.ws)) ++ [.string (lbS rw)] := by rw [htk, List.map_append]; rfl
   have HAP := Lib.hid hap; clear hap htk
   have hlo := lineOf_any rA rn rc rw wr (by omega) hrw hrd
   have HLO := Lib.hid hlo; clear hlo
   have hBs := hB.size
   generalize ((ts.take k).map fun r => Value.string (lbS r.ws)) = ys at *
   go_wp2_with (first
     | (go_at_call 84; refine HLO.out.mono ?_; rintro e w1 ⟨rfl, hb1⟩)
     | (at_builtin; refine wpList_append_any _ rfl _ _ 128 rfl w.heap.size 121 i121 (.string ⟨#[]⟩) 1 16 Tryz.underlying128 hi hz0 hz1' hz2' rfl (by decide) (.slice va k vc) k ys rfl ((ownsRow_below' hown hb1).alloc (.cells #[.string (lbS rw)] 121)) (w1.heap.size + 1) (some ⟨w1.heap.size, 0, none⟩) 1 1 [.string (lbS rw)] rfl (Rd.blkN (Blk.new w1 121 #[.string (lbS rw)]) rfl (Nat.lt_succ_self _)).reads (by simp [Value.oneCell']) (by unfold maxLen; omega) (by omega) (by have := hb1.size; simp only [World.size_alloc]; omega) (fun v' w' hown' hgrow hob => ?_)))
   have hB2 := ((hB.trans (hb1.mono hBs)).alloc (by have := hb1.size; omega) (.cells #[.string (lbS rw)] 121)).grown hgrow (by have := hb1.size; simp only [World.size_alloc]; omega) (fun g hg => (((ownsRow_below' hown hb1).alloc (.cells #[.string (lbS rw)] 121)).lt g hg).1)
   have hX2 := ((hX.below hb1 hX.lt).alloc (.cells #[.string (lbS rw)] 121)).kept_own ((ownsRow_below' hown hb1).alloc (.cells #[.string (lbS rw)] 121)) (by decide) hgrow
   go_roundg (L - (k + 1))
   case measure => rw [HG.out]; omega
   case rel => exact ⟨k + 1, v', rfl, by omega, rfl, by go_num, by rw [HAP.out]; exact hown', hX2, hB2⟩
  ·obtain rfl : k = L := by omega
   have hge : ¬ (k : Int) < k := by omega
   have htk : ts.take k = ts := List.take_of_length_le (by rw [HSL.out]; exact Nat.le_refl _)
   rw [htk] at hown
   clear htk
   go_wp2_with fail
   go_ret
   exact ⟨_, rfl, hown, hB⟩
theorem linesCopy_any (W : Int) (A : Option Addr) (n cap : Nat) (cs : List VC) (tA : Option Addr) (tn tc mb : Nat) (q : Nat) (c : VC) (w : World) (hn : 1 ≤ n) (hn2 : n ≤ 1000) (hr : Rd w w.heap.size 1 A n (cs.map VC.val)) (hc : ∀ c ∈ cs, c.ok w w.heap.size) (hh : headN cs ≤ 100) (hqn : q < n) (hq : cs[q]? = some c) (htw : ∀ r ∈ c.ls, r.n ≤ 1000 ∧ ∀ x ∈ r.ws, 0 ≤ x ∧ x ≤ 255) (hsl : c.ls.length = headN cs) :
  Calls Tryz.prog 151 #[.agg #[.int .i64 W, .slice A n cap, .slice tA tn tc, .map (some mb)], .int .i64 (q : Int)] w fun e w' => ∃ v, e = .returned v ∧ w'.ownsRow w.heap.size 121 1 v (headN cs) (c.ls.map fun r => .string (lbS r.ws)) ∧ Below w.heap.size w w' := by
 obtain ⟨i121, hi, hz0, hz1', hz2'⟩ := info_parts info121
 have hcn : c.ls.length = c.n := (hc c (List.mem_of_getElem? hq)).2.2.2.len2
 have hqi : ((q : Int) == -1) = false := by rw [beq_eq_false_iff_ne]; omega
 have hqi2 : (q : Int) < n := by omega
 have HQ := Lib.hid hq; clear hq
 have hB : Below w.heap.size w (w.alloc (.cells #[.int .i64 W, .slice A n cap, .slice tA tn tc, .map (some mb)] 149)) := (Below.refl _ w).alloc (Nat.le_refl _) _
 have hX := Blk.new w 149 #[.int .i64 W, .slice A n cap, .slice tA tn tc, .map (some mb)]
 have qX := fun i => hX.cell i
 have hlc := fun wx (hx : Below w.heap.size w wx) => lineCount_any W A n cap cs wx hn (rdB hr hx) (fun c hcc => okB (hc c hcc) hx)
 obtain ⟨L, hL⟩ : ∃ L, L = headN cs := ⟨_, rfl⟩
 rw [← hL] at hh hlc hsl ⊢
 have HLC := Lib.hid hlc; have HSL := Lib.hid hsl; clear hlc hL hsl
 go_enter Tryz.func151, Tryz.ntmps151
 go_wp2_with (go_at_call 126; refine (HLC.out _ hB).mono ?_; rintro e w1 ⟨rfl, hb1⟩; replace hB := hB.trans (hb1.mono hB.size); replace hX := hX.below hb1 hX.lt; clear qX hb1)
 go_loopg [5, 10] L (fun g v i wr => ∃ (k : Nat) (v0 : Value), g = L - k ∧ k ≤ L ∧ v = v0 ∧ i = .int .i64 k ∧ wr.ownsRow w.heap.size 121 1 v0 k ((c.ls.take k).map fun r => .string (lbS r.ws)) ∧ Blk wr w.heap.size 149 #[.int .i64 W, .slice A n cap, .slice tA tn tc, .map (some mb)] ∧ Below w.heap.size w wr)
 case atStart => exact ⟨0, _, rfl, Nat.zero_le _, rfl, rfl, World.ownsRow_nil _ _ _ _, hX, hB⟩
 case round =>
  clear hX hB
  obtain ⟨k, v0, hg, hk, rfl, rfl, hown, hX, hB⟩ := hrel
  rename World => wr
  obtain ⟨va, vc, rfl⟩ := own_slice hown
  have HG := Lib.hid hg; clear hg
  have qX := fun i => hX.cell i
  by_cases hlt : k < L
  ·have hlti : (k : Int) < L := by omega
   obtain ⟨cb, coff, hzc, rfl, hbc, hccell⟩ := (hr.below hB).atm hqn
   have hce : cs[q] = c := by have := HQ.out; rw [List.getElem?_eq_getElem hzc] at this; injection this
   rw [hce] at hccell
   obtain ⟨_, _, hcl, hcr⟩ := okB (hc c (List.mem_of_getElem? HQ.out)) hB
   obtain ⟨tb, toff, hz, hcA, hb, hcell0, hcell⟩ := hcr.at2 (show k < c.n by have := HSL.out; omega)
   have hkt : (k : Int) < c.n := by have := HSL.out; omega
   have htk : c.ls.take (k + 1) = c.ls.take k ++ [c.ls[k]] := List.take_succ_eq_append_getElem hz
   have hin := List.getElem_mem hz
   generalize c.ls[k] = r at *
   obtain ⟨hrw0, hrw⟩ := htw r hin
   obtain ⟨_, _, hrd⟩ := hcl r hin
   obtain ⟨lost, rA, rn, rc, rw⟩ := r
   simp only [VC.val] at hccell
   rw [hcA] at hccell
   dsimp only at hrw0 hrw hrd hcell
   clear hin hz hce hcr
   have hap : ((c.ls.take (k + 1)).map fun r => Value.string (lbS r.ws)) = ((c.ls.take k).map fun r => Value.string (lbS r.ws)) ++ [.string (lbS rw)] := by rw [htk, List.map_append]; rfl
   have HAP := Lib.hid hap; clear hap htk
   have hlo := lineOf_any rA rn rc rw wr (by omega) hrw hrd
   have HLO := Lib.hid hlo; clear hlo
   have hBs := hB.size
   generalize ((c.ls.take k).map fun r => Value.string (lbS r.ws)) = ys at *
   go_wp2_with (first
     | (go_at_call 84; refine HLO.out.mono ?_; rintro e w1 ⟨rfl, hb1⟩)
     | (at_builtin; refine wpList_append_any _ rfl _ _ 128 rfl w.heap.size 121 i121 (.string ⟨#[]⟩) 1 16 Tryz.underlying128 hi hz0 hz1' hz2' rfl (by decide) (.slice va k vc) k ys rfl ((ownsRow_below' hown hb1).alloc (.cells #[.string (lbS rw)] 121)) (w1.heap.size + 1) (some ⟨w1.heap.size, 0, none⟩) 1 1 [.string (lbS rw)] rfl (Rd.blkN (Blk.new w1 121 #[.string (lbS rw)]) rfl (Nat.lt_succ_self _)).reads (by simp [Value.oneCell']) (by unfold maxLen; omega) (by omega) (by have := hb1.size; simp only [World.size_alloc]; omega) (fun v' w' hown' hgrow hob => ?_)))
   have hB2 := ((hB.trans (hb1.mono hBs)).alloc (by have := hb1.size; omega) (.cells #[.string (lbS rw)] 121)).grown hgrow (by have := hb1.size; simp only [World.size_alloc]; omega) (fun g hg => (((ownsRow_below' hown hb1).alloc (.cells #[.string (lbS rw)] 121)).lt g hg).1)
   have hX2 := ((hX.below hb1 hX.lt).alloc (.cells #[.string (lbS rw)] 121)).kept_own ((ownsRow_below' hown hb1).alloc (.cells #[.string (lbS rw)] 121)) (by decide) hgrow
   go_roundg (L - (k + 1))
   case measure => rw [HG.out]; omega
   case rel => exact ⟨k + 1, v', rfl, by omega, rfl, by go_num, by rw [HAP.out]; exact hown', hX2, hB2⟩
  ·obtain rfl : k = L := by omega
   have hge : ¬ (k : Int) < k := by omega
   have htk : c.ls.take k = c.ls := List.take_of_length_le (by rw [HSL.out]; exact Nat.le_refl _)
   rw [htk] at hown
   clear htk
   go_wp2_with fail
   go_ret
   exact ⟨_, rfl, hown, hB⟩
end
end Go.Proofs.YtekmnelpkogppaaGreatDoor
