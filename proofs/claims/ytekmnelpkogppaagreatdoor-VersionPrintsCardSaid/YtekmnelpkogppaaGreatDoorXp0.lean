import Derived.Test.YtekmnelpkogppaaGreatDoorKx11
set_option linter.unusedVariables false
set_option linter.unusedSimpArgs false
set_option maxRecDepth 100000
set_option maxHeartbeats 40000000
namespace Go.Proofs.YtekmnelpkogppaaGreatDoor
section
set_option linter.unusedVariables false
set_option linter.unusedSimpArgs false
section -- WkV2
open Go.RowKit Go.Lib
theorem jnS_size (xs : List ByteArray) (sep : ByteArray) (M : Nat) (h : ∀ x ∈ xs, x.size ≤ M) : (jnS xs sep).size ≤ xs.length * (M + sep.size) := by
 have h1 := join_len sep.data.toList M (xs.map (·.data.toList)) (fun y hy => by obtain ⟨x, hx, rfl⟩ := List.mem_map.1 hy; rw [size_list]; exact h x hx)
 rw [List.length_map, size_list] at h1
 show (List.toArray (join (xs.map (·.data.toList)) sep.data.toList)).size ≤ _
 rw [List.size_toArray]
 exact h1
end
section -- WkV5
open Go.RowKit Go.Lib
theorem cutL_end (c : UInt8) : ∀ x : List UInt8, c ∉ x → cutL c x = [x]
 | [], _ => rfl
 | b :: x, h => by
  have h1 : b ≠ c := fun e => h (by simp [e])
  rw [cutL, if_neg h1, cutL_end c x (fun hx => h (by simp [hx]))]
  rfl
theorem cutL_app (c : UInt8) (t : List UInt8) : ∀ x : List UInt8, c ∉ x → cutL c (x ++ c :: t) = x :: cutL c t
 | [], _ => by rw [List.nil_append, cutL, if_pos rfl]
 | b :: x, h => by
  have h1 : b ≠ c := fun e => h (by simp [e])
  rw [List.cons_append, cutL, if_neg h1, cutL_app c t x (fun hx => h (by simp [hx]))]
  rfl
theorem cutL_join (c : UInt8) : ∀ (x : List UInt8) (r : List (List UInt8)), c ∉ x → (∀ y ∈ r, c ∉ y) → cutL c (join (x :: r) [c]) = x :: r
 | x, [], hx, _ => by rw [join_one]; exact cutL_end c x hx
 | x, y :: r, hx, hr => by
  have ih := cutL_join c y r (hr y (by simp)) (fun z hz => hr z (by simp [hz]))
  have e : join (x :: y :: r) [c] = x ++ c :: join (y :: r) [c] := by
   rw [join_cons, join_cons]
   simp [joinTail]
  rw [e, cutL_app c _ x hx, ih]
theorem map_data_inj : ∀ {a b : List ByteArray}, a.map (·.data.toList) = b.map (·.data.toList) → a = b
 | [], [], _ => rfl
 | [], _ :: _, h => by simp at h
 | _ :: _, [], h => by simp at h
 | x :: a, y :: b, h => by
  simp only [List.map_cons, List.cons.injEq] at h
  rw [ba_list h.1, map_data_inj h.2]
theorem splitB_join (c : UInt8) (x : ByteArray) (r : List ByteArray) (hx : c ∉ x.data.toList) (hr : ∀ y ∈ r, c ∉ y.data.toList) : splitB ⟨#[c]⟩ 0 (countB (jnS (x :: r) ⟨#[c]⟩) ⟨#[c]⟩) (jnS (x :: r) ⟨#[c]⟩) = x :: r := by
 apply map_data_inj
 rw [splitB_cut]
 show cutL c (join ((x :: r).map (·.data.toList)) [c]).toArray.toList = _
 rw [List.map_cons]
 exact cutL_join c _ _ hx (fun y hy => by obtain ⟨z, hz, rfl⟩ := List.mem_map.1 hy; exact hr z hz)
end
section -- WkVc
open Go.RowKit Go.Lib
theorem not_mem_tail {c : UInt8} {sep : List UInt8} (h1 : c ∉ sep) : ∀ r : List (List UInt8), (∀ x ∈ r, c ∉ x) → c ∉ joinTail sep r
 | [], _ => by simp [joinTail]
 | x :: r, h => by
  have e : joinTail sep (x :: r) = sep ++ x ++ joinTail sep r := by simp [joinTail]
  rw [e, List.mem_append, List.mem_append]
  rintro ((h2 | h2) | h2)
  ·exact h1 h2
  ·exact h x (by simp) h2
  ·exact not_mem_tail h1 r (fun y hy => h y (by simp [hy])) h2
theorem not_mem_join {c : UInt8} {sep : List UInt8} (h1 : c ∉ sep) (r : List (List UInt8)) (h : ∀ x ∈ r, c ∉ x) : c ∉ join r sep := by
 cases r with
 | nil => simp [join_nil]
 | cons x r =>
  rw [join_cons, List.mem_append]
  rintro (h2 | h2)
  ·exact h x (by simp) h2
  ·exact not_mem_tail h1 r (fun y hy => h y (by simp [hy])) h2
end
section -- WkYb
open Go.RowKit Go.Lib
theorem dS_list (a : Nat) (h : a < 100) : (a < 10 ∧ (dS a).data.toList = [UInt8.ofNat (48 + a)]) ∨ (10 ≤ a ∧ (dS a).data.toList = [UInt8.ofNat (48 + a / 10), UInt8.ofNat (48 + a % 10)]) := by
 by_cases h1 : a < 10
 ·exact .inl ⟨h1, by unfold dS; rw [decDigits_one h1]⟩
 ·exact .inr ⟨by omega, by unfold dS; rw [decDigits_two h1 h]⟩
end
end
section
open Go.RowKit Go.Lib
theorem jnS_one (x sep : ByteArray) : jnS [x] sep = x := by
 apply ba_list
 show join [x.data.toList] sep.data.toList = _
 rw [join_one]
theorem textOf_copy (w : World) :
  Calls Tryz.prog 158 #[.iface 252 (.agg #[])] w fun e w' => e = .returned (.string wCopy) ∧ Below w.heap.size w w' := by
 have ha0 : ∀ w, (Instr.typeAssert (.iface 252 (.agg #[])) 219 251 true).run Tryz.prog w = .ok (.tuple #[.agg #[.int .i64 0], .bool false]) w := fun _ => by kernel_rfl
 have ha1 : ∀ w, (Instr.typeAssert (.iface 252 (.agg #[])) 219 255 true).run Tryz.prog w = .ok (.tuple #[.agg #[.slice none 0 0], .bool false]) w := fun _ => by kernel_rfl
 have ha2 : ∀ w, (Instr.typeAssert (.iface 252 (.agg #[])) 219 258 true).run Tryz.prog w = .ok (.tuple #[.agg #[.int .i64 0], .bool false]) w := fun _ => by kernel_rfl
 have hm : ∀ w, (method 425 252 (.agg #[]) "kelir/version.first").run Tryz.prog w = .ok (257, .agg #[]) w := fun _ => by kernel_rfl
 have hj := fun (A : Option Addr) (c : Nat) (wx : World) hc hr => jn_any A 1 c [wCopy] ⟨#[32]⟩ wx (by omega) (by omega) hc (fun x hx => by obtain rfl : x = wCopy := (by simpa using hx); decide) (by decide) hr
 rw [jnS_one] at hj
 have HJ := Lib.hid hj; clear hj
 obtain ⟨wd, hwd⟩ : ∃ wd, wd = wCopy := ⟨_, rfl⟩
 have hword := word_copy
 rw [← hwd] at hword HJ ⊢
 clear hwd
 have hB := Below.refl w.heap.size w
 go_enter Tryz.func158, Tryz.ntmps158
 go_wp2_with (first
   | (go_at_call 257; refine (first_copy _).mono ?_; rintro e w1 ⟨rfl, hb⟩; replace hB := hB.trans (hb.mono hB.size); clear hb)
   | (go_at_call 190; refine (hword _).mono ?_; rintro e w2 ⟨rfl, rfl⟩; (have hown := World.ownsRow_lit (base := w.heap.size) (e := 9) (size := 1) w1 #[.string wd] 1 hB.size (by unfold maxLen; omega) rfl); replace hB := hB.alloc hB.size (.cells #[.string wd] 9))
   | (go_at_call 159; refine (HJ.out _ _ _ (own_le0 hown) (Rd.of_own hown)).mono ?_; rintro e w3 ⟨rfl, hb⟩; replace hB := hB.trans (hb.mono hB.size)))
 go_ret
 exact ⟨rfl, hB⟩
theorem textOf_lost (w : World) :
  Calls Tryz.prog 158 #[.iface 253 (.agg #[])] w fun e w' => e = .returned (.string wLost) ∧ Below w.heap.size w w' := by
 have ha0 : ∀ w, (Instr.typeAssert (.iface 253 (.agg #[])) 219 251 true).run Tryz.prog w = .ok (.tuple #[.agg #[.int .i64 0], .bool false]) w := fun _ => by kernel_rfl
 have ha1 : ∀ w, (Instr.typeAssert (.iface 253 (.agg #[])) 219 255 true).run Tryz.prog w = .ok (.tuple #[.agg #[.slice none 0 0], .bool false]) w := fun _ => by kernel_rfl
 have ha2 : ∀ w, (Instr.typeAssert (.iface 253 (.agg #[])) 219 258 true).run Tryz.prog w = .ok (.tuple #[.agg #[.int .i64 0], .bool false]) w := fun _ => by kernel_rfl
 have hm : ∀ w, (method 425 253 (.agg #[]) "kelir/version.first").run Tryz.prog w = .ok (258, .agg #[]) w := fun _ => by kernel_rfl
 have hj := fun (A : Option Addr) (c : Nat) (wx : World) hc hr => jn_any A 1 c [wLost] ⟨#[32]⟩ wx (by omega) (by omega) hc (fun x hx => by obtain rfl : x = wLost := (by simpa using hx); decide) (by decide) hr
 rw [jnS_one] at hj
 have HJ := Lib.hid hj; clear hj
 obtain ⟨wd, hwd⟩ : ∃ wd, wd = wLost := ⟨_, rfl⟩
 have hword := word_lost
 rw [← hwd] at hword HJ ⊢
 clear hwd
 have hB := Below.refl w.heap.size w
 go_enter Tryz.func158, Tryz.ntmps158
 go_wp2_with (first
   | (go_at_call 258; refine (first_lost _).mono ?_; rintro e w1 ⟨rfl, hb⟩; replace hB := hB.trans (hb.mono hB.size); clear hb)
   | (go_at_call 190; refine (hword _).mono ?_; rintro e w2 ⟨rfl, rfl⟩; (have hown := World.ownsRow_lit (base := w.heap.size) (e := 9) (size := 1) w1 #[.string wd] 1 hB.size (by unfold maxLen; omega) rfl); replace hB := hB.alloc hB.size (.cells #[.string wd] 9))
   | (go_at_call 159; refine (HJ.out _ _ _ (own_le0 hown) (Rd.of_own hown)).mono ?_; rintro e w3 ⟨rfl, hb⟩; replace hB := hB.trans (hb.mono hB.size)))
 go_ret
 exact ⟨rfl, hB⟩
end
section
open Go.RowKit Go.Lib
theorem textOf_book (n : Nat) (hn : n < 1000) (m : Int) (w : World) (h : Env m w) :
  Calls Tryz.prog 158 #[.iface 251 (.agg #[.int .i64 n])] w fun e w' => e = .returned (.string (jnS [wBook, dS n] ⟨#[32]⟩)) ∧ Below w.heap.size w w' := by
 obtain ⟨i9, hi, hz0, hz1', hz2'⟩ := info_parts info9
 have ha0 : ∀ w, (Instr.typeAssert (.iface 251 (.agg #[.int .i64 n])) 219 251 true).run Tryz.prog w = .ok (.tuple #[.agg #[.int .i64 n], .bool true]) w := fun _ => by kernel_rfl
 have hm : ∀ w, (method 425 251 (.agg #[.int .i64 n]) "kelir/version.first").run Tryz.prog w = .ok (256, .agg #[.int .i64 n]) w := fun _ => by kernel_rfl
 have hds := dS_size n hn
 have hj := fun (A : Option Addr) (c : Nat) (wx : World) hc hr => jn_any A 2 c [wBook, dS n] ⟨#[32]⟩ wx (by omega) (by omega) hc (fun x hx => by
   rcases (by simpa using hx : x = wBook ∨ x = dS n) with rfl | rfl
   · decide
   · omega) (by decide) hr
 have hit := fun wx hx => itoa_any n (by omega) m wx hx
 have hdd : (⟨(decDigits n).toArray⟩ : ByteArray) = dS n := rfl
 simp only [hdd] at hit
 have HJ := Lib.hid hj; have HI := Lib.hid hit; clear hj hit hdd hds
 generalize dS n = d at *
 have hword := word_book
 generalize wBook = wd at *
 have hB := Below.refl w.heap.size w
 go_enter Tryz.func158, Tryz.ntmps158
 go_upto_region 5 with (first
   | (go_at_call 256; refine (first_book _ _).mono ?_; rintro e w1 ⟨rfl, hb⟩; replace hB := hB.trans (hb.mono hB.size); clear hb)
   | (go_at_call 190; refine (hword _).mono ?_; rintro e w2 ⟨rfl, rfl⟩; (have hown : (w1.alloc (.cells #[.string wd] 9)).ownsRow w.heap.size 9 1 (.slice (some ⟨w1.heap.size, 0, none⟩) 1 1) 1 [.string wd] := World.ownsRow_lit (base := w.heap.size) (e := 9) (size := 1) w1 #[.string wd] 1 hB.size (by unfold maxLen; omega) rfl); replace hB := hB.alloc hB.size (.cells #[.string wd] 9)))
 replace hown := hown.alloc (.cells #[.int .i64 n] 251)
 replace hB := hB.alloc hB.size (.cells #[.int .i64 n] 251)
 have hS := Blk.new (w1.alloc (.cells #[.string wd] 9)) 251 #[.int .i64 n]
 obtain ⟨g, hg⟩ : ∃ g, g = w1.heap.size := ⟨_, rfl⟩
 simp only [World.size_alloc] at hS
 rw [← hg] at hown hS ⊢
 clear hg
 generalize ((w1.alloc (.cells #[.string wd] 9)).alloc (.cells #[.int .i64 n] 251)) = W1 at *
 have qS := fun i => hS.cell i
 go_wp2_with (first
   | (go_at_call 191; refine (HI.out _ (h.below hB)).mono ?_; rintro e w3 ⟨rfl, hb⟩; replace hown := ownsRow_below' hown hb; replace hB := hB.trans (hb.mono hB.size); clear hb qS hS)
   | (at_builtin; refine wpList_append_any _ rfl _ _ 173 rfl w.heap.size 9 i9 (.string ByteArray.empty) 1 16 Tryz.underlying173 hi hz0 hz1' hz2' rfl (by decide) (.slice (some ⟨g, 0, none⟩) 1 1) 1 [.string wd] rfl (hown.alloc _) (w3.heap.size + 1) (some ⟨w3.heap.size, 0, none⟩) 1 1 [.string d] rfl (Rd.blkN (Blk.new w3 9 #[.string d]) rfl (Nat.lt_succ_self _)).reads (by simp [Value.oneCell']) (by unfold maxLen; omega) (by omega) (by have := hB.size; simp only [World.size_alloc]; omega) (fun v' w' hown' hgrow hob => ?_))
   | (go_at_call 159; (have hB2 := (hB.alloc hB.size (.cells #[.string d] 9)).grown hgrow (by have := hB.size; simp only [World.size_alloc]; omega) (fun g hg => ((hown.alloc (.cells #[.string d] 9)).lt g hg).1)); obtain ⟨va, vc, rfl⟩ := own_slice hown'; refine (HJ.out va vc _ (own_le0 hown') (Rd.of_own hown')).mono ?_; rintro e w5 ⟨rfl, hb⟩; replace hB2 := hB2.trans (hb.mono hB2.size)))
 go_ret
 exact ⟨rfl, hB2⟩
theorem itoa_int (x : Int) (h0 : 0 ≤ x) (h1 : x < 1000) (m : Int) (w : World) (h : Env m w) : Calls Tryz.prog 191 #[.int .i64 x] w fun e w' => e = .returned (.string (DZ x)) ∧ Below w.heap.size w w' := by
 have e : x = (x.toNat : Int) := by omega
 have h2 := itoa_any x.toNat (by omega) m w h
 rw [← e] at h2
 exact h2
theorem textOf_line (A : Option Addr) (n cap : Nat) (ws : List Int) (m : Int) (w : World) (h : Env m w) (hn : n ≤ 500) (hw : ∀ x ∈ ws, 0 ≤ x ∧ x < 1000) (hr : Rd w w.heap.size 1 A n (ws.map (Value.int .i64))) :
  Calls Tryz.prog 158 #[.iface 255 (.agg #[.slice A n cap])] w fun e w' => e = .returned (.string (jnS (wLine :: ws.map DZ) ⟨#[32]⟩)) ∧ Below w.heap.size w w' := by
 obtain ⟨i9, hi, hz0, hz1', hz2'⟩ := info_parts info9
 have ha0 : ∀ w, (Instr.typeAssert (.iface 255 (.agg #[.slice A n cap])) 219 251 true).run Tryz.prog w = .ok (.tuple #[.agg #[.int .i64 0], .bool false]) w := fun _ => by kernel_rfl
 have ha1 : ∀ w, (Instr.typeAssert (.iface 255 (.agg #[.slice A n cap])) 219 255 true).run Tryz.prog w = .ok (.tuple #[.agg #[.slice A n cap], .bool true]) w := fun _ => by kernel_rfl
 have hm : ∀ w, (method 425 255 (.agg #[.slice A n cap]) "kelir/version.first").run Tryz.prog w = .ok (259, .agg #[.slice A n cap]) w := fun _ => by kernel_rfl
 have hlen : ws.length = n := by simpa using hr.len
 have hj := fun (A : Option Addr) (c : Nat) (wx : World) hc hr => jn_any A (n + 1) c (wLine :: ws.map DZ) ⟨#[32]⟩ wx (by omega) (by omega) hc (fun x hx => by
   rcases List.mem_cons.1 hx with rfl | hx
   · decide
   · obtain ⟨y, hy, rfl⟩ := List.mem_map.1 hx
     have := hw y hy
     have := DZ_size y this.1 this.2
     omega) (by decide) hr
 have hword := word_line
 have HJ := Lib.hid hj; have HL := Lib.hid hlen; have HW := Lib.hid hw; clear hj hlen hw
 generalize wLine = wd at *
 have hB := Below.refl w.heap.size w
 go_enter Tryz.func158, Tryz.ntmps158
 go_upto_region 8 with (first
   | (go_at_call 259; refine (first_line _ _).mono ?_; rintro e w1 ⟨rfl, hb⟩; replace hB := hB.trans (hb.mono hB.size); clear hb)
   | (go_at_call 190; refine (hword _).mono ?_; rintro e w2 ⟨rfl, rfl⟩; (have hown : (w1.alloc (.cells #[.string wd] 9)).ownsRow w.heap.size 9 1 (.slice (some ⟨w1.heap.size, 0, none⟩) 1 1) 1 [.string wd] := World.ownsRow_lit (base := w.heap.size) (e := 9) (size := 1) w1 #[.string wd] 1 hB.size (by unfold maxLen; omega) rfl); replace hB := hB.alloc hB.size (.cells #[.string wd] 9)))
 replace hown := hown.alloc (.cells #[.slice A n cap] 255)
 replace hB := hB.alloc hB.size (.cells #[.slice A n cap] 255)
 have hS := Blk.new (w1.alloc (.cells #[.string wd] 9)) 255 #[.slice A n cap]
 obtain ⟨g, hg⟩ : ∃ g, g = w1.heap.size := ⟨_, rfl⟩
 simp only [World.size_alloc] at hS
 rw [← hg] at hown hS ⊢
 clear hg
 generalize ((w1.alloc (.cells #[.string wd] 9)).alloc (.cells #[.slice A n cap] 255)) = W1 at *
 have qS := fun i => hS.cell i
 go_wp2_with (fail)
 clear qS hS
 go_loopg [3, 30] n (fun g v i wr => ∃ (k : Nat) (v0 : Value), g = n - k ∧ k ≤ n ∧ v = v0 ∧ i = .int .i64 k ∧ wr.ownsRow w.heap.size 9 1 v0 (k + 1) ((wd :: (ws.take k).map DZ).map Value.string) ∧ Below w.heap.size w wr)
 case atStart => exact ⟨0, _, rfl, Nat.zero_le _, rfl, rfl, hown, hB⟩
 case round =>
  clear hown hB
  obtain ⟨k, v0, hg, hk, rfl, rfl, hown, hB⟩ := hrel
  obtain ⟨va, vc, rfl⟩ := own_slice hown
  have HG := Lib.hid hg; clear hg
  rename World => W2
  by_cases hlt : k < n
  ·have hlti : (k : Int) < n := by omega
   obtain ⟨b, off, hz, rfl, hbw, hcell⟩ := (hr.below hB).atm hlt
   have hts : (ws.take (k + 1)).map DZ = (ws.take k).map DZ ++ [DZ ws[k]] := by rw [List.take_succ_eq_append_getElem hz, List.map_append]; rfl
   have hx := HW.out _ (List.getElem_mem hz)
   have hit := fun wx hx2 => itoa_int ws[k] hx.1 hx.2 m wx hx2
   generalize ws[k] = x at *
   generalize DZ x = d at *
   obtain ⟨ys, hys⟩ : ∃ ys, ys = (wd :: (ws.take k).map DZ).map Value.string := ⟨_, rfl⟩
   rw [← hys] at hown
   have HTS := Lib.hid hts; have HYS := Lib.hid hys; have HI := Lib.hid hit; clear hts hys hit hz hx
   go_wp2_with (first
     | (go_at_call 191; refine (HI.out _ (h.below hB)).mono ?_; rintro e w3 ⟨rfl, hb⟩; replace hown := ownsRow_below' hown hb; replace hB := hB.trans (hb.mono hB.size); clear hb hcell)
     | (at_builtin; refine wpList_append_any _ rfl _ _ 173 rfl w.heap.size 9 i9 (.string ByteArray.empty) 1 16 Tryz.underlying173 hi hz0 hz1' hz2' rfl (by decide) (.slice va (k + 1) vc) (k + 1) ys rfl (hown.alloc _) (w3.heap.size + 1) (some ⟨w3.heap.size, 0, none⟩) 1 1 [.string d] rfl (Rd.blkN (Blk.new w3 9 #[.string d]) rfl (Nat.lt_succ_self _)).reads (by simp [Value.oneCell']) (by unfold maxLen; omega) (by omega) (by have := hB.size; simp only [World.size_alloc]; omega) (fun v' w' hown' hgrow hob => ?_)))
   have hB2 := (hB.alloc hB.size (.cells #[.string d] 9)).grown hgrow (by have := hB.size; simp only [World.size_alloc]; omega) (fun g hg => ((hown.alloc (.cells #[.string d] 9)).lt g hg).1)
   go_roundg (n - (k + 1))
   case measure => rw [HG.out]; omega
   case rel => exact ⟨k + 1, _, rfl, by omega, rfl, by go_num, by rw [HTS.out, ← List.cons_append, List.map_append, ← HYS.out]; exact hown', hB2⟩
  ·obtain rfl : k = n := by omega
   have hge : ¬ (k : Int) < k := by omega
   have htk : ws.take k = ws := List.take_of_length_le (by have := HL.out; omega)
   rw [htk] at hown
   have hcp := own_le0 hown
   have hrd := Rd.of_own hown
   have HRD := Lib.hid hrd
   clear htk hown hrd
   go_wp2_with (first
     | (go_at_call 159; refine (HJ.out va vc _ hcp HRD.out).mono ?_; rintro e w5 ⟨rfl, hb⟩; replace hB := hB.trans (hb.mono hB.size)))
   go_ret
   exact ⟨rfl, hB⟩
end
section
open Go.RowKit Go.Lib
theorem info219 : (Tryz.prog.info? 219).map (fun i => (i.zero, i.size, i.bytes)) = some (some .nilIface, 1, 16) := by kernel_rfl
def lineT (l : VL) : Value := if l.lost then .iface 253 (.agg #[]) else .iface 255 (.agg #[.slice l.A l.n l.cap])
def copyT (c : VC) : List Value := .iface 252 (.agg #[]) :: c.ls.map lineT
def toldV (wn : Int) (cs : List VC) : List Value := .iface 251 (.agg #[.int .i64 wn]) :: cs.flatMap copyT
theorem toldOf_any (wn : Int) (A : Option Addr) (n cap : Nat) (cs : List VC) (w : World) (hn : n ≤ 1000) (hr : Rd w w.heap.size 1 A n (cs.map VC.val)) (hc : ∀ c ∈ cs, c.ok w w.heap.size) (hh : ∀ c ∈ cs, c.n ≤ 1000) :
  Calls Tryz.prog 157 #[.agg #[.int .i64 wn, .slice A n cap]] w fun e w' => ∃ v, e = .returned v ∧ w'.ownsRow w.heap.size 219 1 v (toldV wn cs).length (toldV wn cs) ∧ Below w.heap.size w w' := by
 obtain ⟨i9, hi, hz0, hz1', hz2'⟩ := info_parts info219
 have hlen : cs.length = n := by simpa using hr.len
 have hB : Below w.heap.size w (w.alloc (.cells #[.int .i64 wn, .slice A n cap] 24)) := (Below.refl _ w).alloc (Nat.le_refl _) _
 have hX := Blk.new w 24 #[.int .i64 wn, .slice A n cap]
 have hlX := hX.lt
 have qX := fun i => hX.cell i
 have HL := Lib.hid hlen; have HH := Lib.hid hh; clear hlen hh
 go_enter Tryz.func157, Tryz.ntmps157
 go_upto_region 1 with (fail)
 generalize w.alloc (.cells #[.int .i64 wn, .slice A n cap] 24) = W0 at *
 go_upto_region 2 with (fail)
 have hown : (W0.alloc (.cells #[.iface 251 (.agg #[.int .i64 wn])] 219)).ownsRow w.heap.size 219 1 (.slice (some ⟨W0.heap.size, 0, none⟩) 1 1) 1 [.iface 251 (.agg #[.int .i64 wn])] := World.ownsRow_lit (base := w.heap.size) (e := 219) (size := 1) W0 #[.iface 251 (.agg #[.int .i64 wn])] 1 hB.size (by unfold maxLen; omega) rfl
 replace hB := hB.alloc hB.size (.cells #[.iface 251 (.agg #[.int .i64 wn])] 219)
 replace hX := hX.alloc (.cells #[.iface 251 (.agg #[.int .i64 wn])] 219)
 generalize (W0.alloc (.cells #[.iface 251 (.agg #[.int .i64 wn])] 219)) = W1 at *
 clear qX hlX
 have qX := fun i => hX.cell i
 obtain ⟨b0, hb0⟩ : ∃ b0, b0 = Value.iface 251 (.agg #[.int .i64 wn]) := ⟨_, rfl⟩
 rw [← hb0] at hown
 go_wp2_with (fail)
 clear qX hX
 go_loopg [3, 16] n (fun g v i wr => ∃ (k m : Nat) (v0 : Value) (ys : List Value), g = n - k ∧ k ≤ n ∧ v = v0 ∧ i = .int .i64 k ∧ wr.ownsRow w.heap.size 219 1 v0 m ys ∧ Hid (ys = b0 :: (cs.take k).flatMap copyT) ∧ m ≤ 1 + k * 1001 ∧ Below w.heap.size w wr)
 case atStart => exact ⟨0, 1, _, _, rfl, Nat.zero_le _, rfl, rfl, hown, Lib.hid rfl, by omega, hB⟩
 case round =>
  clear hown hB
  obtain ⟨k, m, v0, ys, hg, hk, rfl, rfl, hown, hys, hm, hB⟩ := hrel
  obtain ⟨va, vc, rfl⟩ := own_slice hown
  have HG := Lib.hid hg; clear hg
  rename World => W2
  by_cases hlt : k < n
  ·have hlti : (k : Int) < n := by omega
   obtain ⟨b, off, hzk, rfl, hbw, hcell⟩ := (hr.below hB).atm (show k < n by omega)
   have hco := hc _ (List.getElem_mem hzk)
   have hcn := HH.out _ (List.getElem_mem hzk)
   have hts : (cs.take (k + 1)).flatMap copyT = (cs.take k).flatMap copyT ++ copyT cs[k] := by rw [List.take_succ_eq_append_getElem hzk, List.flatMap_append]; simp
   have hcT : copyT cs[k] = .iface 252 (.agg #[]) :: cs[k].ls.map lineT := rfl
   generalize cs[k] = c at *
   obtain ⟨cA, cn, ccap, cls⟩ := c
   obtain ⟨c1, c2, c3, c4⟩ := hco
   simp only [VC.val] at hcell c1 c2 c3 c4 hcn hcT
   have HTS := Lib.hid hts; have HCT := Lib.hid hcT; have HYS := hys; clear hts hcT hys hzk
   go_upto_region 7 with (first
     | (at_builtin; refine wpList_append_any _ rfl _ _ 216 rfl w.heap.size 219 i9 .nilIface 1 16 Tryz.underlying216 hi hz0 hz1' hz2' rfl (by decide) (.slice va m vc) m ys rfl (hown.alloc _) (W2.heap.size + 1) (some ⟨W2.heap.size, 0, none⟩) 1 1 [.iface 252 (.agg #[])] rfl (Rd.blkN (Blk.new W2 219 #[.iface 252 (.agg #[])]) rfl (Nat.lt_succ_self _)).reads (by simp [Value.oneCell']) (by unfold maxLen; omega) (by omega) (by have := hB.size; simp only [World.size_alloc]; omega) (fun v' w' hown' hgrow hob => ?_)))
   replace hB := (hB.alloc hB.size (.cells #[.iface 252 (.agg #[])] 219)).grown hgrow (by have := hB.size; simp only [World.size_alloc]; omega) (fun g hg => ((hown.alloc (.cells #[.iface 252 (.agg #[])] 219)).lt g hg).1)
   replace hown := hown'
   clear hgrow hob hown' hcell
   obtain ⟨va', vc', rfl⟩ := own_slice hown
   rename_i W3
   have hll : cls.length = cn := c4.len2
   have HLL := Lib.hid hll; clear hll
   go_loopg [3, 27] cn (fun g v i wr => ∃ (q m2 : Nat) (v0 : Value) (zs : List Value), g = cn - q ∧ q ≤ cn ∧ v = v0 ∧ i = .int .i64 q ∧ wr.ownsRow w.heap.size 219 1 v0 m2 zs ∧ Hid (zs = ys ++ .iface 252 (.agg #[]) :: (cls.take q).map lineT) ∧ m2 ≤ m + 1 + q ∧ Below w.heap.size w wr)
   case atStart => exact ⟨0, m + 1, _, _, rfl, Nat.zero_le _, rfl, rfl, hown, Lib.hid rfl, by omega, hB⟩
   case round =>
    clear hown hB
    obtain ⟨q, m2, v0, zs, hg, hq, rfl, rfl, hown, hzs, hm2, hB⟩ := hrel
    obtain ⟨ua, uc, rfl⟩ := own_slice hown
    have HG2 := Lib.hid hg; clear hg
    rename World => W4
    by_cases hqt : q < cn
    ·have hlti : (q : Int) < cn := by omega
     obtain ⟨b2, off2, hz2, rfl, hb2, hv0, hv1⟩ := (c4.below hB).at2 hqt
     have hts : (cls.take (q + 1)).map lineT = (cls.take q).map lineT ++ [lineT cls[q]] := by rw [List.take_succ_eq_append_getElem hz2, List.map_append]; rfl
     have hlT : lineT cls[q] = if cls[q].lost then .iface 253 (.agg #[]) else .iface 255 (.agg #[.slice cls[q].A cls[q].n cls[q].cap]) := rfl
     generalize cls[q] = l at *
     obtain ⟨lost, lA, ln, lcap, lws⟩ := l
     simp only at hv0 hv1 hlT
     have HTS2 := Lib.hid hts; have HLT := Lib.hid hlT; clear hts hlT hz2
     have hX := Blk.new W4 76 #[.bool lost, .slice lA ln lcap]
     have hlX := hX.lt
     have qX := fun i => hX.cell i
     cases lost with
     | true =>
      go_upto_region 10 with (fail)
      replace hown := hown.alloc (.cells #[.bool true, .slice lA ln lcap] 76)
      replace hB := hB.alloc hB.size (.cells #[.bool true, .slice lA ln lcap] 76)
      clear qX hlX hX hv0 hv1
      generalize W4.alloc (.cells #[.bool true, .slice lA ln lcap] 76) = W5 at *
      go_wp2_with (first
        | (at_builtin; refine wpList_append_any _ rfl _ _ 216 rfl w.heap.size 219 i9 .nilIface 1 16 Tryz.underlying216 hi hz0 hz1' hz2' rfl (by decide) (.slice ua m2 uc) m2 zs rfl (hown.alloc _) (W5.heap.size + 1) (some ⟨W5.heap.size, 0, none⟩) 1 1 [.iface 253 (.agg #[])] rfl (Rd.blkN (Blk.new W5 219 #[.iface 253 (.agg #[])]) rfl (Nat.lt_succ_self _)).reads (by simp [Value.oneCell']) (by unfold maxLen; omega) (by omega) (by have := hB.size; simp only [World.size_alloc]; omega) (fun v' w' hown' hgrow hob => ?_)))
      replace hB := (hB.alloc hB.size (.cells #[.iface 253 (.agg #[])] 219)).grown hgrow (by have := hB.size; simp only [World.size_alloc]; omega) (fun g hg => ((hown.alloc (.cells #[.iface 253 (.agg #[])] 219)).lt g hg).1)
      go_roundg (cn - (q + 1))
      case measure => rw [HG2.out]; omega
      case rel => exact ⟨q + 1, m2 + 1, _, _, rfl, by omega, rfl, by go_num, hown', Lib.hid (by rw [hzs.out, HTS2.out, HLT.out]; simp), by omega, hB⟩
     | false =>
      go_upto_region 11 with (fail)
      replace hown := hown.alloc (.cells #[.bool false, .slice lA ln lcap] 76)
      replace hB := hB.alloc hB.size (.cells #[.bool false, .slice lA ln lcap] 76)
      obtain ⟨g5, hg5⟩ : ∃ g5, g5 = W4.heap.size := ⟨_, rfl⟩
      rw [← hg5] at hX qX ⊢
      clear hlX hv0 hv1 hg5
      generalize W4.alloc (.cells #[.bool false, .slice lA ln lcap] 76) = W5 at *
      go_wp2_with (first
        | (at_builtin; refine wpList_append_any _ rfl _ _ 216 rfl w.heap.size 219 i9 .nilIface 1 16 Tryz.underlying216 hi hz0 hz1' hz2' rfl (by decide) (.slice ua m2 uc) m2 zs rfl (hown.alloc _) (W5.heap.size + 1) (some ⟨W5.heap.size, 0, none⟩) 1 1 [.iface 255 (.agg #[.slice lA ln lcap])] rfl (Rd.blkN (Blk.new W5 219 #[.iface 255 (.agg #[.slice lA ln lcap])]) rfl (Nat.lt_succ_self _)).reads (by simp [Value.oneCell']) (by unfold maxLen; omega) (by omega) (by have := hB.size; simp only [World.size_alloc]; omega) (fun v' w' hown' hgrow hob => ?_)))
      replace hB := (hB.alloc hB.size (.cells #[.iface 255 (.agg #[.slice lA ln lcap])] 219)).grown hgrow (by have := hB.size; simp only [World.size_alloc]; omega) (fun g hg => ((hown.alloc (.cells #[.iface 255 (.agg #[.slice lA ln lcap])] 219)).lt g hg).1)
      go_roundg (cn - (q + 1))
      case measure => rw [HG2.out]; omega
      case rel => exact ⟨q + 1, m2 + 1, _, _, rfl, by omega, rfl, by go_num, hown', Lib.hid (by rw [hzs.out, HTS2.out, HLT.out]; simp), by omega, hB⟩
    ·obtain rfl : q = cn := by omega
     have htk : cls.take q = cls := List.take_of_length_le (by have := HLL.out; omega)
     have hge : ¬ (q : Int) < q := by omega
     have hZ := hzs.out
     rw [htk, ← HCT.out] at hZ
     have HZ := Lib.hid hZ
     clear htk hzs hZ
     go_wp2_with (fail)
     go_roundg (n - (k + 1))
     case measure => rw [HG.out]; omega
     case rel => exact ⟨k + 1, m2, _, _, rfl, by omega, rfl, by go_num, hown, Lib.hid (by rw [HZ.out, HYS.out, HTS.out]; simp), by omega, hB⟩
  ·obtain rfl : k = n := by omega
   have hge : ¬ (k : Int) < k := by omega
   have htk : cs.take k = cs := List.take_of_length_le (by have := HL.out; omega)
   have hY := hys.out
   rw [htk, hb0] at hY
   have HY := Lib.hid hY
   clear hys hY htk
   go_wp2_with (fail)
   go_ret
   have e : toldV wn cs = ys := HY.out.symm
   have e2 : ys.length = m := by simpa using hown.1
   exact ⟨_, rfl, by rw [e, e2]; exact hown, hB⟩
end
section
open Go.RowKit Go.Lib
def bookP (wn : Nat) (cs : List VC) : List (Value × ByteArray) := (.iface 251 (.agg #[.int .i64 wn]), jnS [wBook, dS wn] ⟨#[32]⟩) :: cs.flatMap fun c => (.iface 252 (.agg #[]), wCopy) :: c.ls.map fun l => (lineT l, lnT l)
theorem bookP_fst (wn : Nat) (cs : List VC) : (bookP wn cs).map Prod.fst = toldV wn cs := by
 unfold bookP toldV copyT
 simp [List.map_flatMap, Function.comp_def]
theorem bookP_snd (wn : Nat) (cs : List VC) : (bookP wn cs).map Prod.snd = linesB wn cs := by
 unfold bookP linesB copyB
 simp [List.map_flatMap, Function.comp_def]
theorem endB_size (s : Nat) : (endB s).size ≤ 7 := by
 have h := jnS_size [wEnd, dgt3 (s % 197)] ⟨#[32]⟩ 3 (fun x hx => by
   rcases (by simpa using hx : x = wEnd ∨ x = dgt3 (s % 197)) with rfl | rfl
   · decide
   · exact Nat.le_refl 3)
 have e : endB s = wEnd ++ ⟨#[32]⟩ ++ dgt3 (s % 197) := by
  unfold endB
  have h2 := lineS_jn1 wEnd [dgt3 (s % 197)] (by simp)
  rw [← h2]; unfold lineS; rw [jnS_one]
 rw [e, size_app, size_app]
 exact (show 3 + 1 + 3 ≤ 7 by omega)
theorem write_of (wn : Int) (A : Option Addr) (n cap : Nat) (ps : List (Value × ByteArray)) (s : Nat) (m : Int) (w : World) (hE : Env m w) (hl : ps.length ≤ 900)
  (hto : ∀ wx, Below w.heap.size w wx → Calls Tryz.prog 157 #[.agg #[.int .i64 wn, .slice A n cap]] wx fun e w' => ∃ v, e = .returned v ∧ w'.ownsRow wx.heap.size 219 1 v ps.length (ps.map Prod.fst) ∧ Below wx.heap.size wx w')
  (htx : ∀ p ∈ ps, ∀ wx, Below w.heap.size w wx → Calls Tryz.prog 158 #[p.1] wx fun e w' => e = .returned (.string p.2) ∧ Below wx.heap.size wx w')
  (hsz : ∀ p ∈ ps, p.2.size ≤ 100000) (hsum : sumA (ps.map Prod.snd) 0 0 = s) :
  Calls Tryz.prog 119 #[.agg #[.int .i64 wn, .slice A n cap]] w fun e w' => e = .returned (.string (txtB (ps.map Prod.snd) s)) ∧ Below w.heap.size w w' := by
 obtain ⟨i9, hi, hz0, hz1', hz2'⟩ := info_parts info9
 have hB : Below w.heap.size w (w.alloc (.cells #[.int .i64 wn, .slice A n cap] 24)) := (Below.refl _ w).alloc (Nat.le_refl _) _
 have hX := Blk.new w 24 #[.int .i64 wn, .slice A n cap]
 have qX := fun i => hX.cell i
 obtain ⟨N, hN⟩ : ∃ N, N = ps.length := ⟨_, rfl⟩
 rw [← hN] at hto hl
 have hall : ∀ x ∈ ps.map Prod.snd, x.size ≤ 100000 := fun x hx => by obtain ⟨p, hp, rfl⟩ := List.mem_map.1 hx; exact hsz p hp
 have HTO := Lib.hid hto; have HTX := Lib.hid htx; have HN := Lib.hid hN; have HSZ := Lib.hid hsz; have HSUM := Lib.hid hsum; have HALL := Lib.hid hall
 clear hto htx hN hsz hsum hall
 go_enter Tryz.func119, Tryz.ntmps119
 go_upto_region 1 with (fail)
 generalize w.alloc (.cells #[.int .i64 wn, .slice A n cap] 24) = W0 at *
 go_wp2_with (first
   | (go_at_call 157; refine (HTO.out _ hB).mono ?_; rintro e w1 ⟨v, rfl, hot, hb⟩; obtain ⟨ta, tc, rfl⟩ := own_slice hot; have hrt := Rd.of_own hot; replace hB := hB.trans (hb.mono hB.size); clear hb hot qX))
 have hBt := Below.refl w1.heap.size w1
 go_loopg [3, 9] N (fun g v i wr => ∃ (k : Nat) (v0 : Value), g = N - k ∧ k ≤ N ∧ v = v0 ∧ i = .int .i64 k ∧ wr.ownsRow w1.heap.size 9 1 v0 k (((ps.map Prod.snd).take k).map Value.string) ∧ Below w1.heap.size w1 wr)
 case atStart => exact ⟨0, _, rfl, Nat.zero_le _, rfl, rfl, World.ownsRow_nil _ _ _ _, hBt⟩
 case round =>
  clear hBt
  obtain ⟨k, v0, hg, hk, rfl, rfl, hown, hBt⟩ := hrel
  obtain ⟨va, vc, rfl⟩ := own_slice hown
  have HG := Lib.hid hg; clear hg
  rename World => W2
  have hB2 := hB.trans (hBt.mono hB.size)
  have hw1 := hB.size
  by_cases hlt : k < N
  ·have hlti : (k : Int) < N := by omega
   obtain ⟨b, off, hz, rfl, hbw, hcell⟩ := (hrt.below hBt).atm hlt
   have hz2 : k < (ps.map Prod.snd).length := by rw [List.length_map]; exact hz
   have hts : (ps.map Prod.snd).take (k + 1) = (ps.map Prod.snd).take k ++ [ps[k].2] := by rw [List.take_succ_eq_append_getElem hz2]; simp
   have htx := HTX.out _ (List.getElem_mem hz)
   generalize ps[k] = p at *
   obtain ⟨pv, pb⟩ := p
   simp only at hcell htx hts
   obtain ⟨ys, hys⟩ : ∃ ys, ys = ((ps.map Prod.snd).take k).map Value.string := ⟨_, rfl⟩
   rw [← hys] at hown
   have HTS := Lib.hid hts; have HYS := Lib.hid hys; have HT := Lib.hid htx; clear hts hys htx hz hz2
   go_wp2_with (first
     | (go_at_call 158; refine (HT.out _ hB2).mono ?_; rintro e w3 ⟨rfl, hb⟩; replace hown := ownsRow_below' hown hb; replace hBt := hBt.trans (hb.mono hBt.size); clear hb hcell)
     | (at_builtin; refine wpList_append_any _ rfl _ _ 173 rfl w1.heap.size 9 i9 (.string ByteArray.empty) 1 16 Tryz.underlying173 hi hz0 hz1' hz2' rfl (by decide) (.slice va k vc) k ys rfl (hown.alloc _) (w3.heap.size + 1) (some ⟨w3.heap.size, 0, none⟩) 1 1 [.string pb] rfl (Rd.blkN (Blk.new w3 9 #[.string pb]) rfl (Nat.lt_succ_self _)).reads (by simp [Value.oneCell']) (by unfold maxLen; omega) (by omega) (by have := hBt.size; simp only [World.size_alloc]; omega) (fun v' w' hown' hgrow hob => ?_)))
   replace hBt := (hBt.alloc hBt.size (.cells #[.string pb] 9)).grown hgrow (by have := hBt.size; simp only [World.size_alloc]; omega) (fun g hg => ((hown.alloc (.cells #[.string pb] 9)).lt g hg).1)
   go_roundg (N - (k + 1))
   case measure => rw [HG.out]; omega
   case rel => exact ⟨k + 1, _, rfl, by omega, rfl, by go_num, by rw [HTS.out, List.map_append, ← HYS.out]; exact hown', hBt⟩
  ·obtain rfl : k = N := by omega
   have hge : ¬ (k : Int) < k := by omega
   have htk : (ps.map Prod.snd).take k = ps.map Prod.snd := List.take_of_length_le (by rw [List.length_map]; have := HN.out; omega)
   rw [htk] at hown
   have hLl : (ps.map Prod.snd).length = k := by rw [List.length_map]; exact HN.out.symm
   have hall := HALL.out; have hsum := HSUM.out
   obtain ⟨L, hL⟩ : ∃ L, L = ps.map Prod.snd := ⟨_, rfl⟩
   rw [← hL] at hown hLl hall hsum
   have hend := fun wx hx hy => endOf_any va k vc L s m wx (by omega) hall hx hsum hy
   have hee : jnS [wEnd, dgt3 (s % 197)] ⟨#[32]⟩ = endB s := rfl
   rw [hee] at hend
   have hes := endB_size s
   have hall2 : ∀ x ∈ L ++ [endB s], x.size ≤ 100000 := fun x hx => by
    rcases List.mem_append.1 hx with h | h
    ·exact hall x h
    ·obtain rfl : x = endB s := (by simpa using h)
     omega
   have hj : (jnS (L ++ [endB s]) ⟨#[10]⟩).size ≤ 100000000 := by
    have h1 := jnS_size (L ++ [endB s]) ⟨#[10]⟩ 100000 hall2
    have h2 : (L ++ [endB s]).length = k + 1 := by rw [List.length_append, hLl]; rfl
    have h3 : (L ++ [endB s]).length * (100000 + ByteArray.size ⟨#[10]⟩) ≤ 901 * 100001 := Nat.mul_le_mul (by omega) (Nat.le_refl _)
    omega
   have hjoin := fun (A : Option Addr) (c : Nat) (wx : World) hc hr => jn_any A (k + 1) c (L ++ [endB s]) ⟨#[10]⟩ wx (by omega) (by omega) hc hall2 (by decide) hr
   have hT : txtB (ps.map Prod.snd) s = jnS (L ++ [endB s]) ⟨#[10]⟩ ++ ⟨#[10]⟩ := by rw [hL]; rfl
   have hmap : (L ++ [endB s]).map Value.string = L.map Value.string ++ [.string (endB s)] := by simp
   rw [hmap] at hjoin
   have HE := Lib.hid hend; have HJ := Lib.hid hjoin; have HT := Lib.hid hT; clear hend hjoin hT hL hall hall2 hsum htk hee hmap hes hLl
   generalize jnS (L ++ [endB s]) ⟨#[10]⟩ = JJ at *
   generalize endB s = EE at *
   have hEn := (hE.below hB2)
   have hrL := Rd.of_own hown
   have hno1 : ¬ 9223372036854775807 < JJ.size + 1 := by omega
   generalize L.map Value.string = ys at *
   have HRL := Lib.hid hrL; clear hrL
   go_wp2_with (first
     | (go_at_call 160; refine (HE.out _ HRL.out hEn).mono ?_; rintro e w3 ⟨rfl, hb⟩; replace hown := ownsRow_below' hown hb; replace hBt := hBt.trans (hb.mono hBt.size); clear hb)
     | (at_builtin; refine wpList_append_any _ rfl _ _ 173 rfl w1.heap.size 9 i9 (.string ByteArray.empty) 1 16 Tryz.underlying173 hi hz0 hz1' hz2' rfl (by decide) (.slice va k vc) k ys rfl (hown.alloc _) (w3.heap.size + 1) (some ⟨w3.heap.size, 0, none⟩) 1 1 [.string EE] rfl (Rd.blkN (Blk.new w3 9 #[.string EE]) rfl (Nat.lt_succ_self _)).reads (by simp [Value.oneCell']) (by unfold maxLen; omega) (by omega) (by have := hBt.size; simp only [World.size_alloc]; omega) (fun v' w' hown' hgrow hob => ?_))
     | (go_at_call 159; (replace hBt := (hBt.alloc hBt.size (.cells #[.string EE] 9)).grown hgrow (by have := hBt.size; simp only [World.size_alloc]; omega) (fun g hg => ((hown.alloc (.cells #[.string EE] 9)).lt g hg).1)); obtain ⟨ua, uc, rfl⟩ := own_slice hown'; refine (HJ.out ua uc _ (own_le0 hown') (Rd.of_own hown')).mono ?_; rintro e w5 ⟨rfl, hb⟩; replace hBt := hBt.trans (hb.mono hBt.size)))
   go_ret
   exact ⟨by rw [HT.out]; rfl, hB.trans (hBt.mono hB.size)⟩
end
section
open Go.RowKit Go.Lib
theorem bookP_mem {wn : Nat} {cs : List VC} {p : Value × ByteArray} (h : p ∈ bookP wn cs) : p = (.iface 251 (.agg #[.int .i64 wn]), jnS [wBook, dS wn] ⟨#[32]⟩) ∨ p = (.iface 252 (.agg #[]), wCopy) ∨ ∃ c ∈ cs, ∃ l ∈ c.ls, p = (lineT l, lnT l) := by
 unfold bookP at h
 rcases List.mem_cons.1 h with h | h
 ·exact .inl h
 ·obtain ⟨c, hc, h⟩ := List.mem_flatMap.1 h
  rcases List.mem_cons.1 h with h | h
  ·exact .inr (.inl h)
  ·obtain ⟨l, hl, rfl⟩ := List.mem_map.1 h
   exact .inr (.inr ⟨c, hc, l, hl, rfl⟩)
theorem flat_len {α β : Type} (f : α → List β) (M : Nat) : ∀ l : List α, (∀ x ∈ l, (f x).length ≤ M) → (l.flatMap f).length ≤ l.length * M
 | [], _ => by simp
 | x :: l, h => by
  have h1 := flat_len f M l (fun y hy => h y (by simp [hy]))
  have h2 := h x (by simp)
  rw [List.flatMap_cons, List.length_append, List.length_cons, Nat.add_mul]
  omega
theorem book_size (n : Nat) (hn : n < 1000) : (jnS [wBook, dS n] ⟨#[32]⟩).size ≤ 20 := by
 have h := jnS_size [wBook, dS n] ⟨#[32]⟩ 4 (fun x hx => by
   rcases (by simpa using hx : x = wBook ∨ x = dS n) with rfl | rfl
   · decide
   · have := dS_size n hn; omega)
 exact Nat.le_trans h (show 2 * (4 + 1) ≤ 20 by omega)
theorem lnT_size (l : VL) (h1 : l.ws.length ≤ 100) (h2 : ∀ x ∈ l.ws, 0 ≤ x ∧ x < 1000) : (lnT l).size ≤ 505 := by
 unfold lnT
 split
 ·decide
 ·have h := jnS_size (wLine :: l.ws.map DZ) ⟨#[32]⟩ 4 (fun x hx => by
    rcases List.mem_cons.1 hx with rfl | hx
    · decide
    · obtain ⟨y, hy, rfl⟩ := List.mem_map.1 hx
      have := DZ_size y (h2 y hy).1 (h2 y hy).2
      omega)
  rw [List.length_cons, List.length_map] at h
  have e : ByteArray.size ⟨#[32]⟩ = 1 := rfl
  rw [e] at h
  omega
section
variable {wn : Nat} {A : Option Addr} {n : Nat} {cs : List VC} {w : World} {B : Nat}
theorem BkG.words (h : BkG wn A n cs w B) {c : VC} (hc : c ∈ cs) {l : VL} (hl : l ∈ c.ls) : l.n ≤ 4 ∧ l.ws.length ≤ 4 ∧ ∀ x ∈ l.ws, 0 ≤ x ∧ x < 1000 := by
 obtain ⟨h1, h2, h3⟩ := h.2.2.2.2.2.2 c hc l hl
 exact ⟨h1, h2, fun x hx => by have := h3 x hx; omega⟩
theorem bookP_len (h : BkG wn A n cs w B) : (bookP wn cs).length ≤ 30 := by
 unfold bookP
 have h1 := flat_len (fun c : VC => ((.iface 252 (.agg #[]), wCopy) : Value × ByteArray) :: c.ls.map fun l => (lineT l, lnT l)) 5 cs (fun c hc => by
   have := h.2.2.2.2.2.1 c hc
   have := h.2.2.1
   simp only [List.length_cons, List.length_map]
   omega)
 have h2 := h.len
 have h3 := h.2.1
 rw [List.length_cons]
 have h4 : cs.length * 5 ≤ 5 * 5 := Nat.mul_le_mul (by omega) (Nat.le_refl _)
 omega
theorem bookP_size (h : BkG wn A n cs w B) : ∀ p ∈ bookP wn cs, p.2.size ≤ 505 := fun p hp => by
 rcases bookP_mem hp with rfl | rfl | ⟨c, hc, l, hl, rfl⟩
 ·have := book_size wn (by have := h.1; omega)
  show (jnS [wBook, dS wn] ⟨#[32]⟩).size ≤ 505
  omega
 ·decide
 ·obtain ⟨h1, h2, h3⟩ := h.words hc hl
  exact lnT_size l (by omega) h3
theorem sB_ok (h : BkG wn A n cs w B) : sumA (linesB wn cs) 0 0 = (sB (linesB wn cs) : Nat) := by
 have hl : (linesB wn cs).length ≤ 30 := by rw [← bookP_snd, List.length_map]; exact bookP_len h
 have hs : ∀ x ∈ linesB wn cs, x.size ≤ 900 := fun x hx => by
  rw [← bookP_snd] at hx
  obtain ⟨p, hp, rfl⟩ := List.mem_map.1 hx
  have := bookP_size h p hp
  omega
 have h0 := sumA_ok (linesB wn cs) 0 0 (Int.le_refl _) (by omega) hs (Int.le_refl _) (by omega)
 unfold sB
 omega
theorem textOf_pair (h : BkG wn A n cs w w.heap.size) (m : Int) (hE : Env m w) : ∀ p ∈ bookP wn cs, ∀ wx, Below w.heap.size w wx → Calls Tryz.prog 158 #[p.1] wx fun e w' => e = .returned (.string p.2) ∧ Below wx.heap.size wx w' := fun p hp wx hx => by
 rcases bookP_mem hp with rfl | rfl | ⟨c, hc, l, hl, rfl⟩
 ·exact textOf_book wn (by have := h.1; omega) m wx (hE.below hx)
 ·exact textOf_copy wx
 ·obtain ⟨h1, h2, h3⟩ := h.words hc hl
  have hok := ((h.2.2.2.2.1 c hc).2.2.1 l hl)
  unfold lineT lnT
  cases hlost : l.lost with
  | true => exact textOf_lost wx
  | false => exact textOf_line l.A l.n l.cap l.ws m wx (hE.below hx) (by omega) h3 ((hok.2.2.below hx).more hx.size)
theorem write_any (cap : Nat) (h : BkG wn A n cs w w.heap.size) (m : Int) (hE : Env m w) :
  Calls Tryz.prog 119 #[.agg #[.int .i64 wn, .slice A n cap]] w fun e w' => e = .returned (.string (bookT wn cs)) ∧ Below w.heap.size w w' := by
 have h1 := write_of (wn : Int) A n cap (bookP wn cs) (sB (linesB wn cs)) m w hE (by have := bookP_len h; omega)
  (fun wx hx => by
    have hx2 := h.toW hx
    have h3 := toldOf_any (wn : Int) A n cap cs wx (by have := h.2.1; omega) hx2.2.2.2.1 hx2.2.2.2.2.1 (fun c hc => by have := h.2.2.2.2.2.1 c hc; have := h.2.2.1; omega)
    have e : (bookP wn cs).length = (toldV (wn : Int) cs).length := by rw [← bookP_fst, List.length_map]
    rw [bookP_fst, e]
    exact h3) (textOf_pair h m hE) (fun p hp => by have := bookP_size h p hp; omega) (by rw [bookP_snd]; exact sB_ok h)
 rw [bookP_snd] at h1
 exact h1
end
theorem Print_yes {wn : Nat} {A : Option Addr} {n : Nat} (cap : Nat) {cs : List VC} {w : World} (m : Int) (hE : Env m w) (hb : BkG wn A n cs w w.heap.size) (h1 : bookB (wn : Int) cs = true) :
  Calls Tryz.prog 74 #[.agg #[.int .i64 (wn : Int), .slice A n cap]] w fun e w' => e = .returned (.tuple #[.string (bookT wn cs), .int .i64 0]) ∧ Below w.heap.size w w' := by
 have hX := Blk.new w 24 #[.int .i64 (wn : Int), .slice A n cap]
 have hB : Below w.heap.size w (w.alloc (.cells #[.int .i64 (wn : Int), .slice A n cap] 24)) := (Below.refl _ w).alloc (Nat.le_refl _) _
 have qX := fun i => hX.cell i
 have hgb := fun (wx : World) (hx : Below w.heap.size w wx) => goodBook_any (wn : Int) A n cap cs wx (by have := hb.2.1.2; unfold maxLen; omega) (rdB hb.2.2.2.1 hx) (fun c h => okB (hb.2.2.2.2.1 c h) hx)
 simp only [h1] at hgb
 have hwr := fun (wx : World) (hx : Below w.heap.size w wx) => write_any cap (hb.toW hx) m (hE.below hx)
 have HGB := Lib.hid hgb; have HW := Lib.hid hwr; clear hgb h1 hwr
 go_enter Tryz.func74, Tryz.ntmps74
 go_wp2_with (first
   | (go_at_call 81; refine (HGB.out _ hB).mono ?_; rintro e w1 ⟨rfl, hb⟩; replace hX := hX.below hb hX.lt; replace hB := hB.trans (hb.mono hB.size); clear hb qX; have qX := fun i => hX.cell i)
   | (go_at_call 119; refine (HW.out _ hB).mono ?_; rintro e w1 ⟨rfl, hb⟩; replace hB := hB.trans (hb.mono hB.size); clear hb))
 go_ret2
 exact ⟨rfl, hB⟩
theorem Print_no (W : Int) (A : Option Addr) (n cap : Nat) (cs : List VC) (w : World) (hn : n ≤ maxLen) (hr : Rd w w.heap.size 1 A n (cs.map VC.val)) (hc : ∀ c ∈ cs, c.ok w w.heap.size) (h1 : bookB W cs = false) :
  Calls Tryz.prog 74 #[.agg #[.int .i64 W, .slice A n cap]] w fun e w' => e = .returned (.tuple #[.string ⟨#[]⟩, .int .i64 2]) ∧ Below w.heap.size w w' := by
 have hX := Blk.new w 24 #[.int .i64 W, .slice A n cap]
 have hB : Below w.heap.size w (w.alloc (.cells #[.int .i64 W, .slice A n cap] 24)) := (Below.refl _ w).alloc (Nat.le_refl _) _
 have qX := fun i => hX.cell i
 have hgb := fun (wx : World) (hx : Below w.heap.size w wx) => goodBook_any W A n cap cs wx hn (rdB hr hx) (fun c h => okB (hc c h) hx)
 simp only [h1] at hgb
 have HGB := Lib.hid hgb; clear hgb h1
 go_enter Tryz.func74, Tryz.ntmps74
 go_wp2_with (first
   | (go_at_call 81; refine (HGB.out _ hB).mono ?_; rintro e w1 ⟨rfl, hb⟩; replace hX := hX.below hb hX.lt; replace hB := hB.trans (hb.mono hB.size); clear hb qX; have qX := fun i => hX.cell i))
 go_ret2
 exact ⟨rfl, hB⟩
end
section
open Go.RowKit Go.Lib
theorem dS_inj {a b : Nat} (ha : a < 100) (hb : b < 100) (h : dS a = dS b) : a = b := by
 have h2 : (dS a).data.toList = (dS b).data.toList := by rw [h]
 rcases dS_list a ha with ⟨h3, h4⟩ | ⟨h3, h4⟩ <;> rcases dS_list b hb with ⟨h5, h6⟩ | ⟨h5, h6⟩ <;> rw [h4, h6] at h2
 ·have h7 := congrArg UInt8.toNat (List.head_eq_of_cons_eq h2)
  simp only [UInt8.toNat_ofNat'] at h7
  omega
 ·simp at h2
 ·simp at h2
 ·have h7 := congrArg UInt8.toNat (List.head_eq_of_cons_eq h2)
  have h8 := congrArg UInt8.toNat (List.head_eq_of_cons_eq (List.tail_eq_of_cons_eq h2))
  simp only [UInt8.toNat_ofNat'] at h7 h8
  omega
theorem numO_dS (a : Nat) (ha : a < 100) : numO (dS a) = some a := by
 cases h : numO (dS a) with
 | none => exact absurd rfl (numO_none h a ha)
 | some b => rw [dS_inj ha (numO_some h).1 (numO_some h).2]
theorem numsO_dS : ∀ (ns : List Nat), (∀ a ∈ ns, a < 100) → numsO (ns.map dS) = some ns
 | [], _ => rfl
 | a :: ns, h => by rw [List.map_cons, numsO, numO_dS a (h a (by simp)), numsO_dS ns (fun x hx => h x (by simp [hx]))]; rfl
end
section
open Go.RowKit Go.Lib
theorem book_W {W : Int} {cs : List VC} (h : bookB W cs = true) : 1 ≤ W ∧ W ≤ 3 := by
 unfold bookB at h
 simp only [Bool.and_eq_true] at h
 simpa [inB] using h.1.1.1
end
section
open Go.RowKit Go.Lib
def noB (b : UInt8) (s : ByteArray) : Prop := b ∉ s.data.toList
theorem noB_jn {b : UInt8} {xs : List ByteArray} {sep : ByteArray} (h : ∀ x ∈ xs, noB b x) (hs : noB b sep) : noB b (jnS xs sep) := by
 show b ∉ join (xs.map (·.data.toList)) sep.data.toList
 exact not_mem_join hs _ fun x hx => by obtain ⟨z, hz, rfl⟩ := List.mem_map.1 hx; exact h z hz
theorem noB_dS {a : Nat} (h : a < 100) : noB 10 (dS a) ∧ noB 32 (dS a) := by
 have h2 : ((List.range 100).all fun a => !((dS a).data.toList.contains 10) && !((dS a).data.toList.contains 32)) = true := by kernel_rfl
 have h3 := List.all_eq_true.1 h2 a (List.mem_range.2 h)
 simp only [Bool.and_eq_true, Bool.not_eq_true', List.contains_eq_mem, decide_eq_false_iff_not] at h3
 exact h3
theorem noB_end (s : Nat) : noB 10 (endB s) := by
 have h2 : ((List.range 197).all fun a => !((jnS [wEnd, dgt3 a] ⟨#[32]⟩).data.toList.contains 10)) = true := by kernel_rfl
 have h3 := List.all_eq_true.1 h2 (s % 197) (List.mem_range.2 (by omega))
 simp only [Bool.not_eq_true', List.contains_eq_mem, decide_eq_false_iff_not] at h3
 exact h3
theorem noB_lit {b : UInt8} {s : ByteArray} (h : s.data.toList.contains b = false) : noB b s := by
 intro h2
 rw [List.contains_eq_mem, decide_eq_true h2] at h
 cases h
theorem DZ_nat {x : Int} (h : 0 ≤ x ∧ x < 100) : DZ x = dS x.toNat ∧ x.toNat < 100 := ⟨rfl, by omega⟩
def smallW (cs : List VC) : Prop := ∀ c ∈ cs, ∀ l ∈ c.ls, (l.lost = true → l.ws = []) ∧ ∀ x ∈ l.ws, 0 ≤ x ∧ x < 100
theorem lnT_no10 {l : VL} (h : ∀ x ∈ l.ws, 0 ≤ x ∧ x < 100) : noB 10 (lnT l) := by
 unfold lnT
 split
 ·exact noB_lit (by kernel_rfl)
 ·refine noB_jn (fun x hx => ?_) (noB_lit (by kernel_rfl))
  rcases List.mem_cons.1 hx with rfl | hx
  ·exact noB_lit (by kernel_rfl)
  ·obtain ⟨z, hz, rfl⟩ := List.mem_map.1 hx
   exact (noB_dS (DZ_nat (h z hz)).2).1
theorem linesB_no10 {wn : Nat} {cs : List VC} (hw : wn < 100) (h : smallW cs) : ∀ x ∈ linesB wn cs, noB 10 x := fun x hx => by
 unfold linesB at hx
 rcases List.mem_cons.1 hx with rfl | hx
 ·refine noB_jn (fun x hx => ?_) (noB_lit (by kernel_rfl))
  rcases List.mem_cons.1 hx with rfl | hx
  ·exact noB_lit (by kernel_rfl)
  ·rw [List.mem_singleton.1 hx]; exact (noB_dS hw).1
 ·obtain ⟨c, hc, hx⟩ := List.mem_flatMap.1 hx
  unfold copyB at hx
  rcases List.mem_cons.1 hx with rfl | hx
  ·exact noB_lit (by kernel_rfl)
  ·obtain ⟨l, hl, rfl⟩ := List.mem_map.1 hx
   exact lnT_no10 (h c hc l hl).2
theorem cut_jn {c : UInt8} {x : ByteArray} {r : List ByteArray} (h : ∀ y ∈ x :: r, noB c y) : cutB c (jnS (x :: r) ⟨#[c]⟩) = x :: r :=
 splitB_join c x r (h x (by simp)) (fun y hy => h y (by simp [hy]))
theorem line_book {wn : Nat} (hw : wn < 100) : lineO (jnS [wBook, dS wn] ⟨#[32]⟩) = some (.book wn) := by
 unfold lineO
 rw [cut_jn (fun y hy => by
   rcases List.mem_cons.1 hy with rfl | hy
   · exact noB_lit (by kernel_rfl)
   · rw [List.mem_singleton.1 hy]; exact (noB_dS hw).2)]
 show (numsO ([wn].map dS)).bind (tellO wBook) = _
 rw [numsO_dS [wn] (fun a ha => by rw [List.mem_singleton.1 ha]; exact hw)]
 rfl
theorem line_copy : lineO wCopy = some .copy := by
 unfold lineO
 rw [show wCopy = jnS [wCopy] ⟨#[32]⟩ from (jnS_one _ _).symm, cut_jn (fun y hy => by rw [List.mem_singleton.1 hy]; exact noB_lit (by kernel_rfl))]
 show (some []).bind (tellO wCopy) = _
 exact (by kernel_rfl : tellO wCopy [] = some .copy)
theorem line_lost : lineO wLost = some .lost := by
 unfold lineO
 rw [show wLost = jnS [wLost] ⟨#[32]⟩ from (jnS_one _ _).symm, cut_jn (fun y hy => by rw [List.mem_singleton.1 hy]; exact noB_lit (by kernel_rfl))]
 show (some []).bind (tellO wLost) = _
 exact (by kernel_rfl : tellO wLost [] = some .lost)
def natW (l : VL) : Bool × List Nat := (l.lost, l.ws.map Int.toNat)
theorem line_ln {l : VL} (h : ∀ x ∈ l.ws, 0 ≤ x ∧ x < 100) (hl : l.lost = true → l.ws = []) : lineO (lnT l) = some (if l.lost then .lost else .line (l.ws.map Int.toNat)) := by
 unfold lnT
 cases hlo : l.lost
 ·rw [if_neg (by decide), if_neg (by decide)]
  unfold lineO
  rw [cut_jn (fun y hy => by
    rcases List.mem_cons.1 hy with rfl | hy
    · exact noB_lit (by kernel_rfl)
    · obtain ⟨z, hz, rfl⟩ := List.mem_map.1 hy
      exact (noB_dS (DZ_nat (h z hz)).2).2)]
  have e : l.ws.map DZ = (l.ws.map Int.toNat).map dS := by rw [List.map_map]; rfl
  show (numsO (l.ws.map DZ)).bind (tellO wLine) = _
  rw [e, numsO_dS _ (fun a ha => by obtain ⟨z, hz, rfl⟩ := List.mem_map.1 ha; exact (DZ_nat (h z hz)).2)]
  show tellO wLine _ = _
  unfold tellO
  rw [if_neg (by exact of_decide_eq_true (by kernel_rfl)), if_neg (by exact of_decide_eq_true (by kernel_rfl)), if_pos rfl]
 ·rw [if_pos rfl, if_pos rfl]
  exact line_lost
theorem foldO_app : ∀ (xs ys : List ByteArray) (i : Nat) (b : BkT), foldO i b (xs ++ ys) = (foldO i b xs).bind fun b' => foldO (i + xs.length) b' ys
 | [], ys, i, b => rfl
 | x :: xs, ys, i, b => by
  rw [List.cons_append, foldO, foldO]
  cases lineO x with
  | none => rfl
  | some t =>
   simp only [Option.bind_some]
   cases stepO i b t with
   | none => rfl
   | some b' =>
    simp only [Option.bind_some]
    rw [foldO_app xs ys (i + 1) b', List.length_cons]
    congr 1
    funext b2
    rw [show i + 1 + xs.length = i + (xs.length + 1) by omega]
theorem fold_lines : ∀ (ls : List VL) (i wn : Nat) (done : List (List (Bool × List Nat))) (acc : List (Bool × List Nat)), 1 ≤ i → (∀ l ∈ ls, (l.lost = true → l.ws = []) ∧ ∀ x ∈ l.ws, 0 ≤ x ∧ x < 100) →
  foldO i (wn, done ++ [acc]) (ls.map lnT) = some (wn, done ++ [acc ++ ls.map natW])
 | [], i, wn, done, acc, _, _ => by simp [foldO]
 | l :: ls, i, wn, done, acc, hi, h => by
  have h1 := h l (by simp)
  have ih := fold_lines ls (i + 1) wn done (acc ++ [natW l]) (by omega) (fun x hx => h x (by simp [hx]))
  rw [List.map_cons, foldO, line_ln h1.2 h1.1]
  have hst : stepO i (wn, done ++ [acc]) (if l.lost then .lost else .line (l.ws.map Int.toNat)) = some (wn, done ++ [acc ++ [natW l]]) := by
   unfold natW
   cases hlo : l.lost
   ·rw [if_neg (by decide)]
    show (if i = 0 then none else if done ++ [acc] = [] then none else some (wn, addL (done ++ [acc]) (false, l.ws.map Int.toNat))) = _
    rw [if_neg (by omega), if_neg (by simp), addL_snoc]
   ·rw [if_pos rfl]
    show (if i = 0 then none else if done ++ [acc] = [] then none else some (wn, addL (done ++ [acc]) (true, []))) = _
    rw [if_neg (by omega), if_neg (by simp), addL_snoc, h1.1 hlo]; rfl
  simp only [Option.bind_some, hst]
  rw [ih, List.map_cons, List.append_assoc]; rfl
theorem fold_copies : ∀ (cs : List VC) (i wn : Nat) (done : List (List (Bool × List Nat))), 1 ≤ i → smallW cs → foldO i (wn, done) (cs.flatMap copyB) = some (wn, done ++ cs.map fun c => c.ls.map natW)
 | [], i, wn, done, _, _ => by simp [foldO]
 | c :: cs, i, wn, done, hi, h => by
  rw [List.flatMap_cons, foldO_app]
  have h1 : foldO i (wn, done) (copyB c) = some (wn, done ++ [c.ls.map natW]) := by
   unfold copyB
   rw [foldO, line_copy]
   have hst : stepO i (wn, done) .copy = some (wn, done ++ [[]]) := by
    show (if i = 0 then none else some (wn, done ++ [[]])) = _
    rw [if_neg (by omega)]
   simp only [Option.bind_some, hst]
   rw [fold_lines c.ls (i + 1) wn done [] (by omega) (h c (by simp))]; rfl
  rw [h1, Option.bind_some, fold_copies cs _ wn _ (by omega) (fun x hx => h x (by simp [hx])), List.map_cons, List.append_assoc]; rfl
theorem trimB_end (t : ByteArray) : hasSuffix (t ++ ⟨#[10]⟩).data.toList [10] = true ∧ trimB (t ++ ⟨#[10]⟩) = t := by
 have e : (t ++ ⟨#[10]⟩ : ByteArray).data.toList = t.data.toList ++ [10] := by simp [ByteArray.toList_eq]
 have h1 : hasSuffix (t ++ ⟨#[10]⟩).data.toList [10] = true := by
  unfold hasSuffix
  rw [e, List.isSuffixOf_iff_suffix]
  exact List.suffix_append _ _
 refine ⟨h1, ?_⟩
 unfold trimB trimSuffix
 rw [if_pos h1, e]
 apply ba_list
 simp
theorem parse_book {wn : Nat} {cs : List VC} (hw : wn < 100) (h : smallW cs) : parseO (bookT wn cs) = some (wn, cs.map fun c => c.ls.map natW) := by
 obtain ⟨L, hL⟩ : ∃ L, L = linesB wn cs := ⟨_, rfl⟩
 obtain ⟨t, ht⟩ : ∃ t, t = jnS (L ++ [endB (sB L)]) ⟨#[10]⟩ := ⟨_, rfl⟩
 have hT : bookT wn cs = t ++ ⟨#[10]⟩ := by unfold bookT txtB; rw [← hL, ht]
 obtain ⟨h1, h2⟩ := trimB_end t
 have hcut : cutB 10 t = L ++ [endB (sB L)] := by
  have hno : ∀ y ∈ L ++ [endB (sB L)], noB 10 y := fun y hy => by
   rcases List.mem_append.1 hy with hy | hy
   ·rw [hL] at hy; exact linesB_no10 hw h y hy
   ·rw [List.mem_singleton.1 hy]; exact noB_end _
  rw [ht]
  have hne : ∃ x r, L ++ [endB (sB L)] = x :: r := by rw [hL]; exact ⟨_, _, rfl⟩
  obtain ⟨x, r, e⟩ := hne
  rw [e] at hno ⊢
  exact cut_jn hno
 unfold parseO
 rw [hT, if_pos h1, h2, hcut, if_pos (by rw [List.length_append, hL]; unfold linesB; simp), List.dropLast_concat, List.getLast?_concat]
 have hf : foldO 0 (0, []) L = some (wn, cs.map fun c => c.ls.map natW) := by
  rw [hL]
  unfold linesB
  rw [foldO, line_book hw]
  have hst : stepO 0 (0, []) (.book wn) = some (wn, []) := rfl
  simp only [Option.bind_some, hst]
  rw [fold_copies cs 1 wn [] (by omega) h]; rfl
 rw [hf, Option.bind_some, if_pos rfl]
theorem book_smallW {W : Int} {cs : List VC} (h : bookB W cs = true) : smallW cs := fun c hc l hl => by
 have hW := book_W h
 unfold bookB at h
 simp only [Bool.and_eq_true, List.all_eq_true] at h
 have h2 := (h.2 c hc).2 l hl
 unfold vlB at h2
 rw [Bool.and_eq_true] at h2
 obtain ⟨h3, h4⟩ := h2
 refine ⟨fun hlo => ?_, fun x hx => ?_⟩
 ·rw [hlo] at h4
  cases hws : l.ws with
  | nil => rfl
  | cons a b => rw [hws] at h4; simp at h4
 ·have := (ln_small hW h3).2 x hx; omega
theorem toI_nat {cs : List VC} (h : smallW cs) : toI (cs.map fun c => c.ls.map natW) = plain cs := by
 unfold toI plain
 rw [List.map_map]
 refine List.map_congr_left fun c hc => ?_
 show (c.ls.map natW).map _ = _
 rw [List.map_map]
 refine List.map_congr_left fun l hl => ?_
 show (l.lost, (l.ws.map Int.toNat).map fun a : Nat => (a : Int)) = _
 rw [List.map_map]
 congr 1
 conv => rhs; rw [← List.map_id l.ws]
 refine List.map_congr_left fun x hx => ?_
 have := (h c hc l hl).2 x hx
 show ((x.toNat : Nat) : Int) = x
 omega
end
section
open Go.RowKit Go.Lib Go.Maps
theorem book_small {wn : Nat} {cs : List VC} (h : bookB (wn : Int) cs = true) : ∀ c ∈ cs, ∀ v ∈ c.ls, ∀ x ∈ v.ws, 0 ≤ x ∧ x ≤ 2 := fun c hc v hv => by
 have hW := book_W h
 unfold bookB at h
 simp only [Bool.and_eq_true, List.all_eq_true] at h
 have h2 := (h.2 c hc).2 v hv
 unfold vlB at h2
 rw [Bool.and_eq_true] at h2
 exact (ln_small hW h2.1).2
end
section
open Go.RowKit Go.Lib
theorem sameBooks_any (W : Int) (A : Option Addr) (n cap : Nat) (cs : List VC) (A2 : Option Addr) (cap2 : Nat) (cs2 : List VC) (w : World) (h1 : BkI w A n cap cs) (h2 : BkI w A2 n cap2 cs2) (hp : plain cs = plain cs2) (hw : ∀ c ∈ cs, ∀ l ∈ c.ls, l.ws.length ≤ 1000) (hc : ∀ c ∈ cs, c.ls.length ≤ 1000) (hn : n ≤ 1000) :
  Calls Tryz.prog 77 #[.agg #[.int .i64 W, .slice A n cap], .agg #[.int .i64 W, .slice A2 n cap2]] w fun e w' => e = .returned (.bool true) ∧ Below w.heap.size w w' := by
 have hX := (Blk.new w 24 #[.int .i64 W, .slice A n cap]).alloc (.cells #[.int .i64 W, .slice A2 n cap2] 24)
 have hY := blk2_1 w (.cells #[.int .i64 W, .slice A n cap] 24) 24 #[.int .i64 W, .slice A2 n cap2]
 have hB : Below w.heap.size w ((w.alloc (.cells #[.int .i64 W, .slice A n cap] 24)).alloc (.cells #[.int .i64 W, .slice A2 n cap2] 24)) := ((Below.refl _ w).alloc (Nat.le_refl _) _).alloc (by simp only [World.size_alloc]; omega) _
 have H1 := Lib.hid h1; have H2 := Lib.hid h2; have HP := Lib.hid hp; have HW := Lib.hid hw; have HC := Lib.hid hc; clear h1 h2 hp hw hc
 have hWW : (W != W) = false := by simp
 have hnn : ((n : Int) != (n : Int)) = false := by simp
 have qX := fun i => hX.cell i; have qY := fun i => hY.cell i
 go_enter Tryz.func77, Tryz.ntmps77
 go_wp2_with fail
 clear qX qY
 generalize (w.alloc (.cells #[.int .i64 W, .slice A n cap] 24)).alloc (.cells #[.int .i64 W, .slice A2 n cap2] 24) = W0 at *
 go_loopg [5] n (fun g i wr => ∃ k : Nat, g = n - k ∧ k ≤ n ∧ i = .int .i64 k ∧ Below w.heap.size w wr ∧ Blk wr w.heap.size 24 #[.int .i64 W, .slice A n cap] ∧ Blk wr (w.heap.size + 1) 24 #[.int .i64 W, .slice A2 n cap2])
 case atStart => exact ⟨0, rfl, Nat.zero_le _, rfl, hB, hX, hY⟩
 case round =>
  clear hX hB hY
  obtain ⟨k, hg, hk, rfl, hB, hX, hY⟩ := hrel
  rename World => wr
  have HG := Lib.hid hg; clear hg
  have qX := fun i => hX.cell i; have qY := fun i => hY.cell i
  by_cases hlt : k < n
  ·have hlti : (k : Int) < n := by omega
   obtain ⟨b, off, hz, rfl, hbw, hcell⟩ := H1.out.2.2.1.atm hlt
   obtain ⟨b2, off2, hz2, rfl, hbw2, hcell2⟩ := H2.out.2.2.1.atm hlt
   have hpk : (cs[k]).ls.map (fun l => (l.lost, l.ws)) = (cs2[k]).ls.map (fun l => (l.lost, l.ws)) := by
    have h9 := congrArg (fun x : List (List (Bool × List Int)) => x[k]?) HP.out
    unfold plain at h9
    simp only [List.getElem?_map, List.getElem?_eq_getElem hz, List.getElem?_eq_getElem hz2, Option.map_some] at h9
    exact Option.some.inj h9
   have hco := H1.out.2.2.2 _ (List.getElem_mem hz); have hco2 := H2.out.2.2.2 _ (List.getElem_mem hz2)
   have hwk := HW.out _ (List.getElem_mem hz); have hck := HC.out _ (List.getElem_mem hz)
   generalize cs[k] = c at *
   generalize cs2[k] = d at *
   obtain ⟨cA, cn, ccap, cls⟩ := c
   obtain ⟨dA, dn, dcap, dls⟩ := d
   obtain ⟨k1, k2, k3, k4⟩ := hco
   obtain ⟨m1, m2, m3, m4⟩ := hco2
   dsimp only at k1 k2 k3 k4 m1 m2 m3 m4 hpk hwk hck
   simp only [VC.val] at hcell hcell2
   have e1 := k4.len2; have e2 := m4.len2
   have e3 : cls.length = dls.length := by have := congrArg List.length hpk; simpa using this
   have hdn : cn = dn := by omega
   subst hdn
   have hcn : cn ≤ 1000 := by omega
   have HPK := Lib.hid hpk; have HK3 := Lib.hid k3; have HK4 := Lib.hid k4; have HM3 := Lib.hid m3; have HM4 := Lib.hid m4; have HWK := Lib.hid hwk
   clear hpk k3 k4 m3 m4 hwk hck e1 e2 e3 hz hz2
   have hc1 := (hB.cell (p := ⟨b, off + k, none⟩) hbw).trans hcell
   have hc2 := (hB.cell (p := ⟨b2, off2 + k, none⟩) hbw2).trans hcell2
   have hq1 := fun (z : Blw wr.heap.size wr) => ((Blw.h z).cell (p := ⟨b, off + k, none⟩) (Nat.lt_of_lt_of_le hbw hB.size)).trans hc1
   have hq2 := fun (z : Blw wr.heap.size wr) => ((Blw.h z).cell (p := ⟨b2, off2 + k, none⟩) (Nat.lt_of_lt_of_le hbw2 hB.size)).trans hc2
   have hq3 := fun (z : Blw wr.heap.size wr) j => blw_blk hX z j
   have hq4 := fun (z : Blw wr.heap.size wr) j => blw_blk hY z j
   have hlX := hX.lt; have hlY := hY.lt
   have hcc : ((cn : Int) != (cn : Int)) = false := by simp
   go_upto_region 6 with (fail)
   refine wp_region_blw (by kernel_rfl) (by kernel_rfl) ?_
   repeat (go_big_quiet_step (fail))
   refine wpQuiet_nil ?_
   rintro W3 ⟨⟨_, hb3⟩, rfl⟩
   clear hq1 hq2 hq3 hq4 hlX hlY qX qY hc1 hc2
   replace hX := hX.below hb3 hX.lt; replace hY := hY.below hb3 hY.lt; replace hB := hB.trans (hb3.mono hB.size)
   clear hb3
   go_wp2_with fail
   go_loopg [6] cn (fun g i wr => ∃ q : Nat, g = cn - q ∧ q ≤ cn ∧ i = .int .i64 q ∧ Below w.heap.size w wr ∧ Blk wr w.heap.size 24 #[.int .i64 W, .slice (some ⟨b, off, none⟩) n cap] ∧ Blk wr (w.heap.size + 1) 24 #[.int .i64 W, .slice (some ⟨b2, off2, none⟩) n cap2])
   case atStart => exact ⟨0, rfl, Nat.zero_le _, rfl, hB, hX, hY⟩
   case round =>
    clear hX hB hY
    obtain ⟨q, hg, hq, rfl, hB, hX, hY⟩ := hrel
    rename World => wx
    have HG2 := Lib.hid hg; clear hg
    have qX := fun i => hX.cell i; have qY := fun i => hY.cell i
    have hc1 := (hB.cell (p := ⟨b, off + k, none⟩) hbw).trans hcell
    have hc2 := (hB.cell (p := ⟨b2, off2 + k, none⟩) hbw2).trans hcell2
    by_cases hqt : q < cn
    ·have hqti : (q : Int) < cn := by omega
     obtain ⟨b5, off5, z5, rfl, hb5, hv0, hv1⟩ := HK4.out.at2 hqt
     obtain ⟨b6, off6, z6, rfl, hb6, hu0, hu1⟩ := HM4.out.at2 hqt
     have hpq : (cls[q].lost, cls[q].ws) = (dls[q].lost, dls[q].ws) := by
      have h9 := congrArg (fun x : List (Bool × List Int) => x[q]?) HPK.out
      simp only [List.getElem?_map, List.getElem?_eq_getElem z5, List.getElem?_eq_getElem z6, Option.map_some] at h9
      exact Option.some.inj h9
     have hvo := HK3.out _ (List.getElem_mem z5); have huo := HM3.out _ (List.getElem_mem z6); have hww := HWK.out _ (List.getElem_mem z5)
     generalize cls[q] = v at *
     generalize dls[q] = u at *
     obtain ⟨lo, vA, vn, vc, vws⟩ := v
     obtain ⟨lo2, uA, un, uc, uws⟩ := u
     dsimp only at hpq hv0 hv1 hu0 hu1 hww hvo huo
     injection hpq with hp1 hp2
     subst hp1
     subst hp2
     obtain ⟨v1, v2, v3⟩ := hvo
     obtain ⟨u1, u2, u3⟩ := huo
     dsimp only at v1 v2 v3 u1 u2 u3
     have hvn : vws.length = vn := by simpa using v3.len
     have hun : vws.length = un := by simpa using u3.len
     have hsm := fun (z : Blw wx.heap.size wx) => same_any vA vn vc vws uA un uc vws z.toW (by omega) (by omega) (rdB v3 (hB.trans (z.h.mono hB.size))) (rdB u3 (hB.trans (z.h.mono hB.size)))
     simp only [decide_true] at hsm
     have HSM := Lib.hid hsm; clear hsm v3 u3
     have hlo : (lo != lo) = false := by simp
     have d1 := (hB.cell (p := ⟨b5, off5 + q * 2, none⟩) hb5).trans hv0
     have d2 := (hB.cell (p := ⟨b5, off5 + q * 2 + 1, none⟩) hb5).trans hv1
     have d3 := (hB.cell (p := ⟨b6, off6 + q * 2, none⟩) hb6).trans hu0
     have d4 := (hB.cell (p := ⟨b6, off6 + q * 2 + 1, none⟩) hb6).trans hu1
     have hq1 := fun (z : Blw wx.heap.size wx) => ((Blw.h z).cell (p := ⟨b, off + k, none⟩) (Nat.lt_of_lt_of_le hbw hB.size)).trans hc1
     have hq2 := fun (z : Blw wx.heap.size wx) => ((Blw.h z).cell (p := ⟨b2, off2 + k, none⟩) (Nat.lt_of_lt_of_le hbw2 hB.size)).trans hc2
     have hq3 := fun (z : Blw wx.heap.size wx) j => blw_blk hX z j
     have hq4 := fun (z : Blw wx.heap.size wx) j => blw_blk hY z j
     have hq5 := fun (z : Blw wx.heap.size wx) => ((Blw.h z).cell (p := ⟨b5, off5 + q * 2, none⟩) (Nat.lt_of_lt_of_le hb5 hB.size)).trans d1
     have hq6 := fun (z : Blw wx.heap.size wx) => ((Blw.h z).cell (p := ⟨b5, off5 + q * 2 + 1, none⟩) (Nat.lt_of_lt_of_le hb5 hB.size)).trans d2
     have hq7 := fun (z : Blw wx.heap.size wx) => ((Blw.h z).cell (p := ⟨b6, off6 + q * 2, none⟩) (Nat.lt_of_lt_of_le hb6 hB.size)).trans d3
     have hq8 := fun (z : Blw wx.heap.size wx) => ((Blw.h z).cell (p := ⟨b6, off6 + q * 2 + 1, none⟩) (Nat.lt_of_lt_of_le hb6 hB.size)).trans d4
     have hlX := hX.lt; have hlY := hY.lt
     clear d1 d2 d3 d4 hv0 hv1 hu0 hu1 z5 z6
     go_upto_region 11 with (fail)
     refine wp_region_blw (by kernel_rfl) (by kernel_rfl) ?_
     repeat (go_big_quiet_step (fail))
     go_big_quiet_step ((go_at_call 31; exact Calls.blw_of _ (HSM.out _)))
     repeat (go_big_quiet_step (fail))
     refine wpQuiet_nil ?_
     rintro W3 ⟨⟨_, hb3⟩, rfl⟩
     clear hq1 hq2 hq3 hq4 hq5 hq6 hq7 hq8 hlX hlY HSM qX qY
     go_wp2_with fail
     go_roundg (cn - (q + 1))
     case measure => rw [HG2.out]; omega
     case rel => exact ⟨q + 1, rfl, by omega, by go_num, hB.trans (hb3.mono hB.size), hX.below hb3 hX.lt, hY.below hb3 hY.lt⟩
    ·obtain rfl : q = cn := by omega
     have hge : ¬ (q : Int) < q := by omega
     go_wp2_with fail
     go_roundg (n - (k + 1))
     case measure => rw [HG.out]; omega
     case rel => exact ⟨k + 1, rfl, by omega, by go_num, hB, hX, hY⟩
  ·obtain rfl : k = n := by omega
   have hge : ¬ (k : Int) < k := by omega
   go_wp2_with fail
   go_ret
   exact ⟨rfl, hB⟩
def szS (xs : List ByteArray) : Nat := (xs.map fun x => x.size + 1).sum
theorem jn_len (x sep : ByteArray) (h1 : sep.size = 1) (r : List ByteArray) : (jnS (x :: r) sep).size + 1 = szS (x :: r) := by
 have h2 : sep.data.toList.length = 1 := h1
 have ht : ∀ r : List (List UInt8), (joinTail sep.data.toList r).length = (r.map fun y => y.length + 1).sum := by
  intro r
  induction r with
  | nil => rfl
  | cons y r ih =>
   have e : joinTail sep.data.toList (y :: r) = (sep.data.toList ++ y) ++ joinTail sep.data.toList r := rfl
   rw [e, List.length_append, List.length_append, ih, List.map_cons, List.sum_cons, h2]; omega
 have e : (jnS (x :: r) sep).size = (join ((x :: r).map (·.data.toList)) sep.data.toList).length := rfl
 rw [e, List.map_cons, join_cons, List.length_append, ht]
 unfold szS
 simp only [List.map_cons, List.sum_cons, List.map_map]
 show x.size + _ + 1 = x.size + 1 + _
 have : ((fun y : List UInt8 => y.length + 1) ∘ fun x : ByteArray => x.data.toList) = fun x => x.size + 1 := rfl
 rw [this]; omega
theorem dS_small {a : Nat} (h : a ≤ 3) : (dS a).size = 1 := by
 have h2 : ((List.range 4).all fun a => decide ((dS a).size = 1)) = true := by kernel_rfl
 exact of_decide_eq_true (List.all_eq_true.1 h2 a (List.mem_range.2 (by omega)))
theorem sum_le {α : Type} (f : α → Nat) (M : Nat) : ∀ l : List α, (∀ x ∈ l, f x ≤ M) → (l.map f).sum ≤ l.length * M
 | [], _ => by simp
 | a :: l, h => by
  have h1 := h a (by simp)
  have h2 := sum_le f M l (fun x hx => h x (by simp [hx]))
  rw [List.map_cons, List.sum_cons, List.length_cons, Nat.add_mul]; omega
theorem szS_app (a b : List ByteArray) : szS (a ++ b) = szS a + szS b := by unfold szS; simp
theorem ln_len {l : VL} (h1 : l.ws.length ≤ 4) (h2 : ∀ x ∈ l.ws, 0 ≤ x ∧ x ≤ 2) : (lnT l).size + 1 ≤ 13 := by
 unfold lnT
 split
 ·exact of_decide_eq_true (by kernel_rfl)
 ·rw [jn_len _ _ rfl]
  have e : szS (wLine :: l.ws.map DZ) = 5 + szS (l.ws.map DZ) := by unfold szS; rw [List.map_cons, List.sum_cons]; rfl
  have h3 : szS (l.ws.map DZ) ≤ l.ws.length * 2 := by
   unfold szS
   rw [List.map_map]
   refine sum_le _ 2 _ fun x hx => ?_
   have := h2 x hx
   show (dS x.toNat).size + 1 ≤ 2
   rw [dS_small (by omega)]
   exact Nat.le_refl _
  omega
theorem flat_sz (f : VC → List ByteArray) (M : Nat) : ∀ cs : List VC, (∀ c ∈ cs, szS (f c) ≤ M) → szS (cs.flatMap f) ≤ cs.length * M
 | [], _ => by simp [szS]
 | c :: cs, h => by
  have h1 := h c (by simp)
  have h2 := flat_sz f M cs (fun x hx => h x (by simp [hx]))
  rw [List.flatMap_cons, szS_app, List.length_cons, Nat.add_mul]; omega
theorem bookT_size {wn : Nat} {A : Option Addr} {n : Nat} {cs : List VC} {w : World} {B : Nat} (h : BkG wn A n cs w B) (hk : bookB (wn : Int) cs = true) : (bookT wn cs).size ≤ 400 := by
 have hs := book_small hk
 have hn := h.len
 have h5 := h.2.1; have h4 := h.2.2.1
 have hc : ∀ c ∈ cs, szS (copyB c) ≤ 57 := fun c hc => by
  have hl := h.2.2.2.2.2.1 c hc
  have e : szS (copyB c) = 5 + szS (c.ls.map lnT) := by unfold szS copyB; rw [List.map_cons, List.sum_cons]; rfl
  have h3 : szS (c.ls.map lnT) ≤ c.ls.length * 13 := by
   unfold szS
   rw [List.map_map]
   exact sum_le _ 13 _ fun l hl2 => ln_len (h.2.2.2.2.2.2 c hc l hl2).2.1 (hs c hc l hl2)
  omega
 have hf := flat_sz copyB 57 cs hc
 have e0 : (jnS [wBook, dS wn] ⟨#[32]⟩).size + 1 = 7 := by
  rw [jn_len _ _ rfl]
  unfold szS
  simp only [List.map_cons, List.map_nil, List.sum_cons, List.sum_nil, dS_small h.1.2]
  rfl
 have e1 : szS (linesB wn cs) ≤ 7 + 5 * 57 := by
  have : szS (linesB wn cs) = 7 + szS (cs.flatMap copyB) := by
   unfold linesB
   show ((_ :: _ : List ByteArray).map _).sum = _
   rw [List.map_cons, List.sum_cons, e0]; rfl
  have : cs.length * 57 ≤ 5 * 57 := Nat.mul_le_mul_right _ (by omega)
  omega
 have e2 : (endB (sB (linesB wn cs))).size + 1 ≤ 8 := by have := endB_size (sB (linesB wn cs)); omega
 have e3 : ∃ x r, linesB wn cs ++ [endB (sB (linesB wn cs))] = x :: r := ⟨_, _, rfl⟩
 obtain ⟨x, r, e3⟩ := e3
 have e4 : (jnS (linesB wn cs ++ [endB (sB (linesB wn cs))]) ⟨#[10]⟩).size + 1 ≤ 400 := by
  rw [e3, jn_len _ _ rfl, ← e3, szS_app]
  have : szS [endB (sB (linesB wn cs))] = (endB (sB (linesB wn cs))).size + 1 := by unfold szS; simp
  omega
 unfold bookT txtB
 rw [ByteArray.size_append]
 show _ + 1 ≤ 400
 exact e4
end
section
open Go.RowKit Go.Lib
theorem Read_book {wn : Nat} {A : Option Addr} {n : Nat} {cs : List VC} {w0 : World} {B : Nat} (h : BkG wn A n cs w0 B) (hk : bookB (wn : Int) cs = true) (m : Int) (w : World) (hE : Env m w) :
  Calls Tryz.prog 75 #[.string (bookT wn cs)] w fun e w' => (∃ A' cap' cs', BkI w' A' n cap' cs' ∧ plain cs' = plain cs ∧ e = .returned (.tuple #[.agg #[.int .i64 (wn : Int), .slice A' n cap'], .int .i64 0])) ∧ Below w.heap.size w w' := by
 have hsm := book_smallW hk
 refine (Read_short (bookT wn cs) m w hE (bookT_size h hk)).mono ?_
 rintro e w' ⟨hb, hp⟩
 rw [parse_book (by have := h.1.2; omega) hsm] at hp
 obtain ⟨A', n', cap', cs', i1, i2, i3, i4, i5, i6, rfl⟩ := hp
 dsimp only at i6
 rw [toI_nat hsm] at i6
 have hn : n' = n := by
  have e1 := congrArg List.length i6
  have e2 : cs'.length = n' := by simpa using i4.len
  have e3 := h.len
  unfold plain at e1
  simp only [List.length_map] at e1
  omega
 subst hn
 have hk2 : bookB (wn : Int) cs' = true := by rw [bookB_plain, i6, ← bookB_plain]; exact hk
 exact ⟨⟨A', cap', cs', ⟨i1, i2, i4, i5⟩, i6, by dsimp only; rw [if_pos hk2]⟩, hb⟩
theorem refPrint_book {wn : Nat} {A : Option Addr} {n : Nat} (cap : Nat) {cs : List VC} {w : World} (h : BkG wn A n cs w w.heap.size) (hk : bookB (wn : Int) cs = true) :
  Calls Tryz.prog 76 #[.agg #[.int .i64 (wn : Int), .slice A n cap]] w fun e w' => e = .returned (.string (bookT wn cs)) ∧ Below w.heap.size w w' := by
 have hs := book_small hk
 have h5 := h.2.1; have h4 := h.2.2.1
 refine refPrint_any wn A n cap cs w (by have := h.1.2; omega) (by omega) h.2.2.2.1 h.2.2.2.2.1 (fun c hc => ?_) ?_ (fun x hx => ?_)
 ·have h1 := h.2.2.2.2.2.1 c hc
  exact ⟨by omega, fun l hl => ⟨by have := (h.2.2.2.2.2.2 c hc l hl).1; omega, fun x hx => by have := hs c hc l hl x hx; omega⟩⟩
 ·have h2 := bookP_len h
  rw [← bookP_snd wn cs, List.length_map]; omega
 ·rw [← bookP_snd wn cs] at hx
  obtain ⟨p, hp, rfl⟩ := List.mem_map.1 hx
  have := bookP_size h p hp; omega
theorem prints_law (W : Int) (A : Option Addr) (n cap : Nat) (cs : List VC)  (m : Int) (w : World) (hE : Env m w) (h : BkI w A n cap cs)  :
  Calls Tryz.prog 20 #[.agg #[.int .i64 W, .slice A n cap]] w fun e w' => e = .returned (.bool true) ∧ Below w.heap.size w w' := by
 have hX := Blk.new w 24 #[.int .i64 W, .slice A n cap]
 have hB : Below w.heap.size w (w.alloc (.cells #[.int .i64 W, .slice A n cap] 24)) := (Below.refl _ w).alloc (Nat.le_refl _) _
 have qX := fun i => hX.cell i
 go_enter Tryz.func20, Tryz.ntmps20
 go_wp2_with fail
 refine (short_any W A n cap cs _ (h.toW hB)).mono ?_; rintro e wc ⟨⟨b, rfl⟩, hb⟩
 replace hB := hB.trans (hb.mono hB.size); replace hX := hX.below hb hX.lt; clear hb qX; have qX := fun i => hX.cell i
 cases b with
 | false =>
  go_wp2_with fail
  refine (known_true m _ (hE.below hB)).mono ?_; rintro e wc ⟨rfl, hb⟩
  replace hB := hB.trans (hb.mono hB.size); clear hb
  go_wp2_with fail
  go_ret
  exact ⟨rfl, hB⟩
 | true =>
  have hrb := fun wx hx => refBook_any W A n cap cs wx (h.toW hx)
  cases hbk : bookB W cs with
  | false =>
   have hc1 := fun wx hx => Print_no W A n cap cs wx h.max (h.toW hx).2.2.1 (h.toW hx).2.2.2 hbk
   simp only [hbk] at hrb
   have HC1 := Lib.hid hc1; have HRB := Lib.hid hrb; clear hc1 hrb hbk h
   go_wp2_with fail
   refine (HC1.out _ hB).mono ?_; rintro e wc ⟨rfl, hb⟩
   replace hB := hB.trans (hb.mono hB.size); replace hX := hX.below hb hX.lt; clear hb qX; have qX := fun i => hX.cell i
   go_wp2_with fail
   refine (HRB.out _ hB).mono ?_; rintro e wc ⟨rfl, hb⟩
   replace hB := hB.trans (hb.mono hB.size); replace hX := hX.below hb hX.lt; clear hb qX; have qX := fun i => hX.cell i
   go_wp2_with fail
   refine (known_true m _ (hE.below hB)).mono ?_; rintro e wc ⟨rfl, hb⟩
   replace hB := hB.trans (hb.mono hB.size); clear hb
   go_wp2_with fail
   go_ret
   exact ⟨rfl, hB⟩
  | true =>
   obtain ⟨wn, rfl, hG⟩ := BkG.of_book hbk h.2.2.1 h.2.2.2
   simp only [hbk] at hrb
   have hc1 := fun (wx : World) (hx : Below w.heap.size w wx) => Print_yes cap m (hE.below hx) (hG.toW hx) hbk
   have hrd := fun (wx : World) (hx : Below w.heap.size w wx) => Read_book hG hbk m wx (hE.below hx)
   have hrp := fun (wx : World) (hx : Below w.heap.size w wx) => refPrint_book cap (hG.toW hx) hbk
   have hln := hG.len
   have hn5 := hG.2.1; have hL4 := hG.2.2.1
   have hsb := fun (wx : World) (hx : Below w.heap.size w wx) (A' : Option Addr) (cap' : Nat) (cs' : List VC) (h' : BkI wx A' n cap' cs') (hp' : plain cs' = plain cs) => sameBooks_any (wn : Int) A' n cap' cs' A cap cs wx h' (h.toW hx) hp' (fun c hc l hl => by
     have hm : (c.ls.map fun l => (l.lost, l.ws)) ∈ plain cs := by rw [← hp']; exact List.mem_map_of_mem hc
     obtain ⟨d, hd, e⟩ := List.mem_map.1 hm
     have hm2 : (l.lost, l.ws) ∈ d.ls.map fun l => (l.lost, l.ws) := by rw [e]; exact List.mem_map_of_mem hl
     obtain ⟨u, hu, e2⟩ := List.mem_map.1 hm2
     have h9 := (hG.2.2.2.2.2.2 d hd u hu).2.1
     injection e2 with _ e3
     rw [← e3]; omega) (fun c hc => by
     have hm : (c.ls.map fun l => (l.lost, l.ws)) ∈ plain cs := by rw [← hp']; exact List.mem_map_of_mem hc
     obtain ⟨d, hd, e⟩ := List.mem_map.1 hm
     have h9 := (hG.2.2.2.2.2.1 d hd).2
     have h8 := congrArg List.length e
     simp only [List.length_map] at h8
     omega) (by omega)
   generalize bookT wn cs = TT at *
   have HC1 := Lib.hid hc1; have HRB := Lib.hid hrb; have HRD := Lib.hid hrd; have HRP := Lib.hid hrp; have HSB := Lib.hid hsb; clear hc1 hrb hrd hrp hsb hbk h hG hln
   go_wp2_with fail
   refine (HC1.out _ hB).mono ?_; rintro e wc ⟨rfl, hb⟩
   replace hB := hB.trans (hb.mono hB.size); replace hX := hX.below hb hX.lt; clear hb qX; have qX := fun i => hX.cell i
   go_wp2_with fail
   refine (HRB.out _ hB).mono ?_; rintro e wc ⟨rfl, hb⟩
   replace hB := hB.trans (hb.mono hB.size); replace hX := hX.below hb hX.lt; clear hb qX; have qX := fun i => hX.cell i
   go_wp2_with fail
   refine (HRD.out _ hB).mono ?_; rintro e wc ⟨⟨A2, cap2, cs2, hbk2, hpl, rfl⟩, hb⟩
   replace hB := hB.trans (hb.mono hB.size); replace hX := hX.below hb hX.lt; clear hb qX
   have hZ0 := Blk.new wc 24 #[.int .i64 0, .slice none 0 0]; have q93 := fun i => hZ0.cell i; have f93 := fun i => hZ0.frozen i; have l93 := hZ0.lt
   go_upto_region 7 with (fail)
   have hS := Blk.new wc 24 #[.int .i64 (wn : Int), .slice A2 n cap2]
   have hKeep : Below wc.heap.size wc (wc.alloc (.cells #[.int .i64 (wn : Int), .slice A2 n cap2] 24)) := (Below.refl _ wc).alloc (Nat.le_refl _) _
   replace hB := hB.trans (hKeep.mono hB.size); replace hX := hX.below hKeep hX.lt; replace hbk2 := hbk2.toW hKeep
   clear hKeep hZ0 q93 f93 l93
   generalize wc.alloc (.cells #[.int .i64 (wn : Int), .slice A2 n cap2] 24) = W5 at *
   generalize wc.heap.size = sS at hS ⊢
   have qX := fun i => hX.cell i; have qS := fun i => hS.cell i
   go_wp2_with fail
   refine (HRP.out _ hB).mono ?_; rintro e wc ⟨rfl, hb⟩
   replace hB := hB.trans (hb.mono hB.size); replace hX := hX.below hb hX.lt; replace hS := hS.below hb hS.lt; replace hbk2 := hbk2.toW hb; clear hb qX qS
   have qX := fun i => hX.cell i; have qS := fun i => hS.cell i
   go_wp2_with fail
   refine (HSB.out _ hB _ _ _ hbk2 hpl).mono ?_; rintro e wc ⟨rfl, hb⟩
   replace hB := hB.trans (hb.mono hB.size); clear hb qX qS
   go_wp2_with fail
   refine (known_true m _ (hE.below hB)).mono ?_; rintro e wc ⟨rfl, hb⟩
   replace hB := hB.trans (hb.mono hB.size); clear hb
   go_wp2_with fail
   go_ret
   exact ⟨rfl, hB⟩
end
section
open Go.ChangeShapes Go.WideShapes Go.ChangeAt Go.RowKit Go.Deep Go.Lib
set_option maxRecDepth 100000
section
variable {H : Type} {enc : TypeId × Value → H} {P : Program} {w : World} {base : Nat} {spare : Nat → Bool} {held : Bool}
theorem law_one {s0 : TypeId} {args : Array Value} {ds : List (DataW H)} {ps : List MemPlace} (h : DataW.TrodAll enc P w base spare held [s0] args.toList ds ps) :
  ∃ v0 d0 p0, args = #[v0] ∧ ds = [d0] ∧ DataW.Trod enc P w base spare held s0 v0 d0 p0 := by
 obtain ⟨v0, r0, d0, e0, p0, q0, hargs, rfl, rfl, t0, h0⟩ := trodAll_cons h
 obtain ⟨rfl, rfl, rfl⟩ := trodAll_nil h0
 exact ⟨v0, d0, p0, by cases args; simp_all, rfl, t0⟩
end
end
end Go.Proofs.YtekmnelpkogppaaGreatDoor
