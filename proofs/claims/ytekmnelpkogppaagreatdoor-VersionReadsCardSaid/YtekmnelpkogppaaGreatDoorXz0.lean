import Derived.Test.YtekmnelpkogppaaGreatDoorKy11
set_option linter.unusedVariables false
set_option linter.unusedSimpArgs false
set_option maxRecDepth 100000
set_option maxHeartbeats 40000000
namespace Go.Proofs.YtekmnelpkogppaaGreatDoor
section
set_option linter.unusedVariables false
set_option linter.unusedSimpArgs false
section -- WkV2
open Go.RowKit Go.Lib
theorem jnS_size (xs : List ByteArray) (sep : ByteArray) (M : Nat) (h : ∀ x ∈ xs, x.size ≤ M) : (jnS xs sep).size ≤ xs.length * (M + sep.size) := by
 have h1 := join_len sep.data.toList M (xs.map (·.data.toList)) (fun y hy => by obtain ⟨x, hx, rfl⟩ := List.mem_map.1 hy; rw [size_list]; exact h x hx)
 rw [List.length_map, size_list] at h1
 show (List.toArray (join (xs.map (·.data.toList)) sep.data.toList)).size ≤ _
 rw [List.size_toArray]
 exact h1
end
section -- WkV5
open Go.RowKit Go.Lib
theorem cutL_end (c : UInt8) : ∀ x : List UInt8, c ∉ x → cutL c x = [x]
 | [], _ => rfl
 | b :: x, h => by
  have h1 : b ≠ c := fun e => h (by simp [e])
  rw [cutL, if_neg h1, cutL_end c x (fun hx => h (by simp [hx]))]
  rfl
theorem cutL_app (c : UInt8) (t : List UInt8) : ∀ x : List UInt8, c ∉ x → cutL c (x ++ c :: t) = x :: cutL c t
 | [], _ => by rw [List.nil_append, cutL, if_pos rfl]
 | b :: x, h => by
  have h1 : b ≠ c := fun e => h (by simp [e])
  rw [List.cons_append, cutL, if_neg h1, cutL_app c t x (fun hx => h (by simp [hx]))]
  rfl
theorem cutL_join (c : UInt8) : ∀ (x : List UInt8) (r : List (List UInt8)), c ∉ x → (∀ y ∈ r, c ∉ y) → cutL c (join (x :: r) [c]) = x :: r
 | x, [], hx, _ => by rw [join_one]; exact cutL_end c x hx
 | x, y :: r, hx, hr => by
  have ih := cutL_join c y r (hr y (by simp)) (fun z hz => hr z (by simp [hz]))
  have e : join (x :: y :: r) [c] = x ++ c :: join (y :: r) [c] := by
   rw [join_cons, join_cons]
   simp [joinTail]
  rw [e, cutL_app c _ x hx, ih]
theorem map_data_inj : ∀ {a b : List ByteArray}, a.map (·.data.toList) = b.map (·.data.toList) → a = b
 | [], [], _ => rfl
 | [], _ :: _, h => by simp at h
 | _ :: _, [], h => by simp at h
 | x :: a, y :: b, h => by
  simp only [List.map_cons, List.cons.injEq] at h
  rw [ba_list h.1, map_data_inj h.2]
theorem splitB_join (c : UInt8) (x : ByteArray) (r : List ByteArray) (hx : c ∉ x.data.toList) (hr : ∀ y ∈ r, c ∉ y.data.toList) : splitB ⟨#[c]⟩ 0 (countB (jnS (x :: r) ⟨#[c]⟩) ⟨#[c]⟩) (jnS (x :: r) ⟨#[c]⟩) = x :: r := by
 apply map_data_inj
 rw [splitB_cut]
 show cutL c (join ((x :: r).map (·.data.toList)) [c]).toArray.toList = _
 rw [List.map_cons]
 exact cutL_join c _ _ hx (fun y hy => by obtain ⟨z, hz, rfl⟩ := List.mem_map.1 hy; exact hr z hz)
end
section -- WkVc
open Go.RowKit Go.Lib
theorem not_mem_tail {c : UInt8} {sep : List UInt8} (h1 : c ∉ sep) : ∀ r : List (List UInt8), (∀ x ∈ r, c ∉ x) → c ∉ joinTail sep r
 | [], _ => by simp [joinTail]
 | x :: r, h => by
  have e : joinTail sep (x :: r) = sep ++ x ++ joinTail sep r := by simp [joinTail]
  rw [e, List.mem_append, List.mem_append]
  rintro ((h2 | h2) | h2)
  ·exact h1 h2
  ·exact h x (by simp) h2
  ·exact not_mem_tail h1 r (fun y hy => h y (by simp [hy])) h2
theorem not_mem_join {c : UInt8} {sep : List UInt8} (h1 : c ∉ sep) (r : List (List UInt8)) (h : ∀ x ∈ r, c ∉ x) : c ∉ join r sep := by
 cases r with
 | nil => simp [join_nil]
 | cons x r =>
  rw [join_cons, List.mem_append]
  rintro (h2 | h2)
  ·exact h x (by simp) h2
  ·exact not_mem_tail h1 r (fun y hy => h y (by simp [hy])) h2
end
section -- WkYa
open Go.RowKit Go.Lib
theorem cut_here (c : UInt8) (S : List UInt8) (bg k : Nat) (hk : bg ≤ k) (hc : S[k]? = some c) (hno : ∀ q, bg ≤ q → q < k → S[q]? ≠ some c) : cutL c (S.drop bg) = (S.drop bg).take (k - bg) :: cutL c (S.drop (k + 1)) := by
 obtain ⟨hkl, hkc⟩ := List.getElem?_eq_some_iff.1 hc
 have e1 : S.drop bg = (S.drop bg).take (k - bg) ++ c :: S.drop (k + 1) := by
  have h1 : S.drop k = c :: S.drop (k + 1) := by rw [List.drop_eq_getElem_cons hkl, hkc]
  have h2 : (S.drop bg).drop (k - bg) = S.drop k := by rw [List.drop_drop]; congr 1; omega
  rw [← h1, ← h2, List.take_append_drop]
 have e2 : c ∉ (S.drop bg).take (k - bg) := by
  intro h
  obtain ⟨q, hq⟩ := List.mem_iff_getElem?.1 h
  have hql : q < k - bg := by
   have := (List.getElem?_eq_some_iff.1 hq).1
   rw [List.length_take] at this
   omega
  rw [List.getElem?_take_of_lt hql, List.getElem?_drop] at hq
  exact hno (bg + q) (by omega) (by omega) hq
 generalize (S.drop bg).take (k - bg) = x at *
 rw [e1]
 exact cutL_app c _ x e2
theorem cut_last (c : UInt8) (S : List UInt8) (bg : Nat) (hno : ∀ q, bg ≤ q → q < S.length → S[q]? ≠ some c) : cutL c (S.drop bg) = [S.drop bg] := by
 refine cutL_end c _ (fun h => ?_)
 obtain ⟨q, hq⟩ := List.mem_iff_getElem?.1 h
 rw [List.getElem?_drop] at hq
 have := (List.getElem?_eq_some_iff.1 hq).1
 exact hno (bg + q) (by omega) this hq
end
section -- WkYb
open Go.RowKit Go.Lib
theorem dS_list (a : Nat) (h : a < 100) : (a < 10 ∧ (dS a).data.toList = [UInt8.ofNat (48 + a)]) ∨ (10 ≤ a ∧ (dS a).data.toList = [UInt8.ofNat (48 + a / 10), UInt8.ofNat (48 + a % 10)]) := by
 by_cases h1 : a < 10
 ·exact .inl ⟨h1, by unfold dS; rw [decDigits_one h1]⟩
 ·exact .inr ⟨by omega, by unfold dS; rw [decDigits_two h1 h]⟩
theorem dS_digit (a : Nat) (h : a < 100) (q : Nat) (b : UInt8) (hb : (dS a).data.toList[q]? = some b) : 48 ≤ b.toNat ∧ b.toNat ≤ 57 := by
 rcases dS_list a h with ⟨h1, e⟩ | ⟨h1, e⟩ <;> rw [e] at hb
 ·match q, hb with
  | 0, hb => cases hb; rw [UInt8.toNat_ofNat']; omega
  | q + 1, hb => simp at hb
 ·match q, hb with
  | 0, hb => cases hb; rw [UInt8.toNat_ofNat']; omega
  | 1, hb => cases hb; rw [UInt8.toNat_ofNat']; omega
  | q + 2, hb => simp at hb
def NumIs (l : List UInt8) (k a : Nat) : Prop := (∀ q b, q < k → l[q]? = some b → 48 ≤ b.toNat ∧ b.toNat ≤ 57) ∧ (k = 1 → ∀ b, l[0]? = some b → b.toNat = 48 + a) ∧ (k = 2 → ∀ b c, l[0]? = some b → l[1]? = some c → a + 528 = 10 * b.toNat + c.toNat) ∧ (k = 0 → a = 0)
theorem NumIs.succ {l : List UInt8} {k a d : Nat} {b : UInt8} (h : NumIs l k a) (hk : k ≤ 1) (hb : l[k]? = some b) (hd : b.toNat = 48 + d) (hd9 : d ≤ 9) : NumIs l (k + 1) (10 * a + d) := by
 obtain ⟨h1, h2, h3, h4⟩ := h
 refine ⟨fun q c hq hc => ?_, fun hk1 c hc => ?_, fun hk2 c e hc he => ?_, fun h0 => absurd h0 (by omega)⟩
 ·by_cases hqk : q < k
  ·exact h1 q c hqk hc
  ·obtain rfl : q = k := by omega
   rw [hb] at hc; cases hc
   omega
 ·obtain rfl : k = 0 := by omega
  rw [hb] at hc; cases hc
  have := h4 rfl
  omega
 ·obtain rfl : k = 1 := by omega
  rw [hb] at he; cases he
  have := h2 rfl c hc
  omega
theorem NumIs.eq {s : ByteArray} {a c : Nat} (h : NumIs s.data.toList s.size a) (hc : c < 100) (e : s = dS c) : a = c := by
 obtain ⟨h1, h2, h3, h4⟩ := h
 have hl : s.data.toList.length = s.size := size_list s
 rcases dS_list c hc with ⟨h5, e5⟩ | ⟨h5, e5⟩ <;> rw [← e] at e5 <;> rw [e5] at hl h2 h3
 ·have := h2 hl.symm _ rfl
  rw [UInt8.toNat_ofNat'] at this
  omega
 ·have := h3 hl.symm _ _ rfl rfl
  rw [UInt8.toNat_ofNat', UInt8.toNat_ofNat'] at this
  omega
section
variable (s : ByteArray) (w : World)
theorem dS_len (a : Nat) (h : a < 100) : (dS a).size = 1 ∨ (dS a).size = 2 := by
 rw [← size_list]
 rcases dS_list a h with ⟨h1, e⟩ | ⟨h1, e⟩ <;> rw [e] <;> simp
end
end
section -- WkYe
open Go.RowKit Go.Lib
theorem join_put (c b : UInt8) : ∀ (M : List (List UInt8)), M ≠ [] → join (putHead b M) [c] = b :: join M [c]
 | [], h => absurd rfl h
 | [x], _ => by rw [putHead, join_one, join_one]
 | x :: y :: r, _ => by rw [putHead, join_cons, join_cons]; rfl
theorem join_cut (c : UInt8) : ∀ l : List UInt8, join (cutL c l) [c] = l
 | [] => by rw [cutL, join_one]
 | b :: l => by
  have ih := join_cut c l
  rw [cutL]
  split
  ·rename_i h
   subst h
   cases hM : cutL b l with
   | nil => exact absurd hM (cutL_ne b l)
   | cons x r =>
    rw [hM, join_cons] at ih
    rw [join_cons]
    simp only [joinTail, List.map_cons, List.flatten_cons, List.nil_append, List.cons_append] at ih ⊢
    rw [ih]
  ·rw [join_put c b _ (cutL_ne c l), ih]
theorem cutB_ne (c : UInt8) (s : ByteArray) : cutB c s ≠ [] := fun e => by
 have h := cutB_data c s
 rw [e] at h
 exact cutL_ne c _ h.symm
theorem cutL_snoc (c : UInt8) : ∀ l : List UInt8, cutL c (l ++ [c]) = cutL c l ++ [[]]
 | [] => by simp [cutL]
 | b :: l => by
  rw [List.cons_append, cutL, cutL, cutL_snoc c l]
  split
  ·rfl
  ·cases hM : cutL c l with
   | nil => exact absurd hM (cutL_ne c l)
   | cons x r => rfl
theorem cutB_end (t : ByteArray) : cutB 10 (t ++ ⟨#[10]⟩) = cutB 10 t ++ [⟨#[]⟩] := by
 apply map_data_inj
 rw [cutB_data, List.map_append, cutB_data, ByteArray.data_append, Array.toList_append]
 exact cutL_snoc 10 t.data.toList
end
section -- WkYf
open Go.RowKit Go.Lib
theorem cutB_pos (c : UInt8) (s : ByteArray) : 1 ≤ (cutB c s).length := by
 have := cutB_ne c s
 cases h : cutB c s with
 | nil => exact absurd h this
 | cons x r => simp
end
end
section
open Go.RowKit Go.Lib
theorem jnS_one (x sep : ByteArray) : jnS [x] sep = x := by
 apply ba_list
 show join [x.data.toList] sep.data.toList = _
 rw [join_one]
theorem textOf_copy (w : World) :
  Calls Tryz.prog 158 #[.iface 252 (.agg #[])] w fun e w' => e = .returned (.string wCopy) ∧ Below w.heap.size w w' := by
 have ha0 : ∀ w, (Instr.typeAssert (.iface 252 (.agg #[])) 219 251 true).run Tryz.prog w = .ok (.tuple #[.agg #[.int .i64 0], .bool false]) w := fun _ => by kernel_rfl
 have ha1 : ∀ w, (Instr.typeAssert (.iface 252 (.agg #[])) 219 255 true).run Tryz.prog w = .ok (.tuple #[.agg #[.slice none 0 0], .bool false]) w := fun _ => by kernel_rfl
 have ha2 : ∀ w, (Instr.typeAssert (.iface 252 (.agg #[])) 219 258 true).run Tryz.prog w = .ok (.tuple #[.agg #[.int .i64 0], .bool false]) w := fun _ => by kernel_rfl
 have hm : ∀ w, (method 425 252 (.agg #[]) "kelir/version.first").run Tryz.prog w = .ok (257, .agg #[]) w := fun _ => by kernel_rfl
 have hj := fun (A : Option Addr) (c : Nat) (wx : World) hc hr => jn_any A 1 c [wCopy] ⟨#[32]⟩ wx (by omega) (by omega) hc (fun x hx => by obtain rfl : x = wCopy := (by simpa using hx); decide) (by decide) hr
 rw [jnS_one] at hj
 have HJ := Lib.hid hj; clear hj
 obtain ⟨wd, hwd⟩ : ∃ wd, wd = wCopy := ⟨_, rfl⟩
 have hword := word_copy
 rw [← hwd] at hword HJ ⊢
 clear hwd
 have hB := Below.refl w.heap.size w
 go_enter Tryz.func158, Tryz.ntmps158
 go_wp2_with (first
   | (go_at_call 257; refine (first_copy _).mono ?_; rintro e w1 ⟨rfl, hb⟩; replace hB := hB.trans (hb.mono hB.size); clear hb)
   | (go_at_call 190; refine (hword _).mono ?_; rintro e w2 ⟨rfl, rfl⟩; (have hown := World.ownsRow_lit (base := w.heap.size) (e := 9) (size := 1) w1 #[.string wd] 1 hB.size (by unfold maxLen; omega) rfl); replace hB := hB.alloc hB.size (.cells #[.string wd] 9))
   | (go_at_call 159; refine (HJ.out _ _ _ (own_le0 hown) (Rd.of_own hown)).mono ?_; rintro e w3 ⟨rfl, hb⟩; replace hB := hB.trans (hb.mono hB.size)))
 go_ret
 exact ⟨rfl, hB⟩
theorem textOf_lost (w : World) :
  Calls Tryz.prog 158 #[.iface 253 (.agg #[])] w fun e w' => e = .returned (.string wLost) ∧ Below w.heap.size w w' := by
 have ha0 : ∀ w, (Instr.typeAssert (.iface 253 (.agg #[])) 219 251 true).run Tryz.prog w = .ok (.tuple #[.agg #[.int .i64 0], .bool false]) w := fun _ => by kernel_rfl
 have ha1 : ∀ w, (Instr.typeAssert (.iface 253 (.agg #[])) 219 255 true).run Tryz.prog w = .ok (.tuple #[.agg #[.slice none 0 0], .bool false]) w := fun _ => by kernel_rfl
 have ha2 : ∀ w, (Instr.typeAssert (.iface 253 (.agg #[])) 219 258 true).run Tryz.prog w = .ok (.tuple #[.agg #[.int .i64 0], .bool false]) w := fun _ => by kernel_rfl
 have hm : ∀ w, (method 425 253 (.agg #[]) "kelir/version.first").run Tryz.prog w = .ok (258, .agg #[]) w := fun _ => by kernel_rfl
 have hj := fun (A : Option Addr) (c : Nat) (wx : World) hc hr => jn_any A 1 c [wLost] ⟨#[32]⟩ wx (by omega) (by omega) hc (fun x hx => by obtain rfl : x = wLost := (by simpa using hx); decide) (by decide) hr
 rw [jnS_one] at hj
 have HJ := Lib.hid hj; clear hj
 obtain ⟨wd, hwd⟩ : ∃ wd, wd = wLost := ⟨_, rfl⟩
 have hword := word_lost
 rw [← hwd] at hword HJ ⊢
 clear hwd
 have hB := Below.refl w.heap.size w
 go_enter Tryz.func158, Tryz.ntmps158
 go_wp2_with (first
   | (go_at_call 258; refine (first_lost _).mono ?_; rintro e w1 ⟨rfl, hb⟩; replace hB := hB.trans (hb.mono hB.size); clear hb)
   | (go_at_call 190; refine (hword _).mono ?_; rintro e w2 ⟨rfl, rfl⟩; (have hown := World.ownsRow_lit (base := w.heap.size) (e := 9) (size := 1) w1 #[.string wd] 1 hB.size (by unfold maxLen; omega) rfl); replace hB := hB.alloc hB.size (.cells #[.string wd] 9))
   | (go_at_call 159; refine (HJ.out _ _ _ (own_le0 hown) (Rd.of_own hown)).mono ?_; rintro e w3 ⟨rfl, hb⟩; replace hB := hB.trans (hb.mono hB.size)))
 go_ret
 exact ⟨rfl, hB⟩
end
section
open Go.RowKit Go.Lib
theorem textOf_book (n : Nat) (hn : n < 1000) (m : Int) (w : World) (h : Env m w) :
  Calls Tryz.prog 158 #[.iface 251 (.agg #[.int .i64 n])] w fun e w' => e = .returned (.string (jnS [wBook, dS n] ⟨#[32]⟩)) ∧ Below w.heap.size w w' := by
 obtain ⟨i9, hi, hz0, hz1', hz2'⟩ := info_parts info9
 have ha0 : ∀ w, (Instr.typeAssert (.iface 251 (.agg #[.int .i64 n])) 219 251 true).run Tryz.prog w = .ok (.tuple #[.agg #[.int .i64 n], .bool true]) w := fun _ => by kernel_rfl
 have hm : ∀ w, (method 425 251 (.agg #[.int .i64 n]) "kelir/version.first").run Tryz.prog w = .ok (256, .agg #[.int .i64 n]) w := fun _ => by kernel_rfl
 have hds := dS_size n hn
 have hj := fun (A : Option Addr) (c : Nat) (wx : World) hc hr => jn_any A 2 c [wBook, dS n] ⟨#[32]⟩ wx (by omega) (by omega) hc (fun x hx => by
   rcases (by simpa using hx : x = wBook ∨ x = dS n) with rfl | rfl
   · decide
   · omega) (by decide) hr
 have hit := fun wx hx => itoa_any n (by omega) m wx hx
 have hdd : (⟨(decDigits n).toArray⟩ : ByteArray) = dS n := rfl
 simp only [hdd] at hit
 have HJ := Lib.hid hj; have HI := Lib.hid hit; clear hj hit hdd hds
 generalize dS n = d at *
 have hword := word_book
 generalize wBook = wd at *
 have hB := Below.refl w.heap.size w
 go_enter Tryz.func158, Tryz.ntmps158
 go_upto_region 5 with (first
   | (go_at_call 256; refine (first_book _ _).mono ?_; rintro e w1 ⟨rfl, hb⟩; replace hB := hB.trans (hb.mono hB.size); clear hb)
   | (go_at_call 190; refine (hword _).mono ?_; rintro e w2 ⟨rfl, rfl⟩; (have hown : (w1.alloc (.cells #[.string wd] 9)).ownsRow w.heap.size 9 1 (.slice (some ⟨w1.heap.size, 0, none⟩) 1 1) 1 [.string wd] := World.ownsRow_lit (base := w.heap.size) (e := 9) (size := 1) w1 #[.string wd] 1 hB.size (by unfold maxLen; omega) rfl); replace hB := hB.alloc hB.size (.cells #[.string wd] 9)))
 replace hown := hown.alloc (.cells #[.int .i64 n] 251)
 replace hB := hB.alloc hB.size (.cells #[.int .i64 n] 251)
 have hS := Blk.new (w1.alloc (.cells #[.string wd] 9)) 251 #[.int .i64 n]
 obtain ⟨g, hg⟩ : ∃ g, g = w1.heap.size := ⟨_, rfl⟩
 simp only [World.size_alloc] at hS
 rw [← hg] at hown hS ⊢
 clear hg
 generalize ((w1.alloc (.cells #[.string wd] 9)).alloc (.cells #[.int .i64 n] 251)) = W1 at *
 have qS := fun i => hS.cell i
 go_wp2_with (first
   | (go_at_call 191; refine (HI.out _ (h.below hB)).mono ?_; rintro e w3 ⟨rfl, hb⟩; replace hown := ownsRow_below' hown hb; replace hB := hB.trans (hb.mono hB.size); clear hb qS hS)
   | (at_builtin; refine wpList_append_any _ rfl _ _ 173 rfl w.heap.size 9 i9 (.string ByteArray.empty) 1 16 Tryz.underlying173 hi hz0 hz1' hz2' rfl (by decide) (.slice (some ⟨g, 0, none⟩) 1 1) 1 [.string wd] rfl (hown.alloc _) (w3.heap.size + 1) (some ⟨w3.heap.size, 0, none⟩) 1 1 [.string d] rfl (Rd.blkN (Blk.new w3 9 #[.string d]) rfl (Nat.lt_succ_self _)).reads (by simp [Value.oneCell']) (by unfold maxLen; omega) (by omega) (by have := hB.size; simp only [World.size_alloc]; omega) (fun v' w' hown' hgrow hob => ?_))
   | (go_at_call 159; (have hB2 := (hB.alloc hB.size (.cells #[.string d] 9)).grown hgrow (by have := hB.size; simp only [World.size_alloc]; omega) (fun g hg => ((hown.alloc (.cells #[.string d] 9)).lt g hg).1)); obtain ⟨va, vc, rfl⟩ := own_slice hown'; refine (HJ.out va vc _ (own_le0 hown') (Rd.of_own hown')).mono ?_; rintro e w5 ⟨rfl, hb⟩; replace hB2 := hB2.trans (hb.mono hB2.size)))
 go_ret
 exact ⟨rfl, hB2⟩
theorem itoa_int (x : Int) (h0 : 0 ≤ x) (h1 : x < 1000) (m : Int) (w : World) (h : Env m w) : Calls Tryz.prog 191 #[.int .i64 x] w fun e w' => e = .returned (.string (DZ x)) ∧ Below w.heap.size w w' := by
 have e : x = (x.toNat : Int) := by omega
 have h2 := itoa_any x.toNat (by omega) m w h
 rw [← e] at h2
 exact h2
theorem textOf_line (A : Option Addr) (n cap : Nat) (ws : List Int) (m : Int) (w : World) (h : Env m w) (hn : n ≤ 500) (hw : ∀ x ∈ ws, 0 ≤ x ∧ x < 1000) (hr : Rd w w.heap.size 1 A n (ws.map (Value.int .i64))) :
  Calls Tryz.prog 158 #[.iface 255 (.agg #[.slice A n cap])] w fun e w' => e = .returned (.string (jnS (wLine :: ws.map DZ) ⟨#[32]⟩)) ∧ Below w.heap.size w w' := by
 obtain ⟨i9, hi, hz0, hz1', hz2'⟩ := info_parts info9
 have ha0 : ∀ w, (Instr.typeAssert (.iface 255 (.agg #[.slice A n cap])) 219 251 true).run Tryz.prog w = .ok (.tuple #[.agg #[.int .i64 0], .bool false]) w := fun _ => by kernel_rfl
 have ha1 : ∀ w, (Instr.typeAssert (.iface 255 (.agg #[.slice A n cap])) 219 255 true).run Tryz.prog w = .ok (.tuple #[.agg #[.slice A n cap], .bool true]) w := fun _ => by kernel_rfl
 have hm : ∀ w, (method 425 255 (.agg #[.slice A n cap]) "kelir/version.first").run Tryz.prog w = .ok (259, .agg #[.slice A n cap]) w := fun _ => by kernel_rfl
 have hlen : ws.length = n := by simpa using hr.len
 have hj := fun (A : Option Addr) (c : Nat) (wx : World) hc hr => jn_any A (n + 1) c (wLine :: ws.map DZ) ⟨#[32]⟩ wx (by omega) (by omega) hc (fun x hx => by
   rcases List.mem_cons.1 hx with rfl | hx
   · decide
   · obtain ⟨y, hy, rfl⟩ := List.mem_map.1 hx
     have := hw y hy
     have := DZ_size y this.1 this.2
     omega) (by decide) hr
 have hword := word_line
 have HJ := Lib.hid hj; have HL := Lib.hid hlen; have HW := Lib.hid hw; clear hj hlen hw
 generalize wLine = wd at *
 have hB := Below.refl w.heap.size w
 go_enter Tryz.func158, Tryz.ntmps158
 go_upto_region 8 with (first
   | (go_at_call 259; refine (first_line _ _).mono ?_; rintro e w1 ⟨rfl, hb⟩; replace hB := hB.trans (hb.mono hB.size); clear hb)
   | (go_at_call 190; refine (hword _).mono ?_; rintro e w2 ⟨rfl, rfl⟩; (have hown : (w1.alloc (.cells #[.string wd] 9)).ownsRow w.heap.size 9 1 (.slice (some ⟨w1.heap.size, 0, none⟩) 1 1) 1 [.string wd] := World.ownsRow_lit (base := w.heap.size) (e := 9) (size := 1) w1 #[.string wd] 1 hB.size (by unfold maxLen; omega) rfl); replace hB := hB.alloc hB.size (.cells #[.string wd] 9)))
 replace hown := hown.alloc (.cells #[.slice A n cap] 255)
 replace hB := hB.alloc hB.size (.cells #[.slice A n cap] 255)
 have hS := Blk.new (w1.alloc (.cells #[.string wd] 9)) 255 #[.slice A n cap]
 obtain ⟨g, hg⟩ : ∃ g, g = w1.heap.size := ⟨_, rfl⟩
 simp only [World.size_alloc] at hS
 rw [← hg] at hown hS ⊢
 clear hg
 generalize ((w1.alloc (.cells #[.string wd] 9)).alloc (.cells #[.slice A n cap] 255)) = W1 at *
 have qS := fun i => hS.cell i
 go_wp2_with fail
 clear qS hS
 go_loopg [3, 30] n (fun g v i wr => ∃ (k : Nat) (v0 : Value), g = n - k ∧ k ≤ n ∧ v = v0 ∧ i = .int .i64 k ∧ wr.ownsRow w.heap.size 9 1 v0 (k + 1) ((wd :: (ws.take k).map DZ).map Value.string) ∧ Below w.heap.size w wr)
 case atStart => exact ⟨0, _, rfl, Nat.zero_le _, rfl, rfl, hown, hB⟩
 case round =>
  clear hown hB
  obtain ⟨k, v0, hg, hk, rfl, rfl, hown, hB⟩ := hrel
  obtain ⟨va, vc, rfl⟩ := own_slice hown
  have HG := Lib.hid hg; clear hg
  rename World => W2
  by_cases hlt : k < n
  ·have hlti : (k : Int) < n := by omega
   obtain ⟨b, off, hz, rfl, hbw, hcell⟩ := (hr.below hB).atm hlt
   have hts : (ws.take (k + 1)).map DZ = (ws.take k).map DZ ++ [DZ ws[k]] := by rw [List.take_succ_eq_append_getElem hz, List.map_append]; rfl
   have hx := HW.out _ (List.getElem_mem hz)
   have hit := fun wx hx2 => itoa_int ws[k] hx.1 hx.2 m wx hx2
   generalize ws[k] = x at *
   generalize DZ x = d at *
   obtain ⟨ys, hys⟩ : ∃ ys, ys = (wd :: (ws.take k).map DZ).map Value.string := ⟨_, rfl⟩
   rw [← hys] at hown
   have HTS := Lib.hid hts; have HYS := Lib.hid hys; have HI := Lib.hid hit; clear hts hys hit hz hx
   go_wp2_with (first
     | (go_at_call 191; refine (HI.out _ (h.below hB)).mono ?_; rintro e w3 ⟨rfl, hb⟩; replace hown := ownsRow_below' hown hb; replace hB := hB.trans (hb.mono hB.size); clear hb hcell)
     | (at_builtin; refine wpList_append_any _ rfl _ _ 173 rfl w.heap.size 9 i9 (.string ByteArray.empty) 1 16 Tryz.underlying173 hi hz0 hz1' hz2' rfl (by decide) (.slice va (k + 1) vc) (k + 1) ys rfl (hown.alloc _) (w3.heap.size + 1) (some ⟨w3.heap.size, 0, none⟩) 1 1 [.string d] rfl (Rd.blkN (Blk.new w3 9 #[.string d]) rfl (Nat.lt_succ_self _)).reads (by simp [Value.oneCell']) (by unfold maxLen; omega) (by omega) (by have := hB.size; simp only [World.size_alloc]; omega) (fun v' w' hown' hgrow hob => ?_)))
   have hB2 := (hB.alloc hB.size (.cells #[.string d] 9)).grown hgrow (by have := hB.size; simp only [World.size_alloc]; omega) (fun g hg => ((hown.alloc (.cells #[.string d] 9)).lt g hg).1)
   go_roundg (n - (k + 1))
   case measure => rw [HG.out]; omega
   case rel => exact ⟨k + 1, _, rfl, by omega, rfl, by go_num, by rw [HTS.out, ← List.cons_append, List.map_append, ← HYS.out]; exact hown', hB2⟩
  ·obtain rfl : k = n := by omega
   have hge : ¬ (k : Int) < k := by omega
   have htk : ws.take k = ws := List.take_of_length_le (by have := HL.out; omega)
   rw [htk] at hown
   have hcp := own_le0 hown
   have hrd := Rd.of_own hown
   have HRD := Lib.hid hrd
   clear htk hown hrd
   go_wp2_with (first
     | (go_at_call 159; refine (HJ.out va vc _ hcp HRD.out).mono ?_; rintro e w5 ⟨rfl, hb⟩; replace hB := hB.trans (hb.mono hB.size)))
   go_ret
   exact ⟨rfl, hB⟩
end
section
open Go.RowKit Go.Lib
theorem info219 : (Tryz.prog.info? 219).map (fun i => (i.zero, i.size, i.bytes)) = some (some .nilIface, 1, 16) := by kernel_rfl
def lineT (l : VL) : Value := if l.lost then .iface 253 (.agg #[]) else .iface 255 (.agg #[.slice l.A l.n l.cap])
def copyT (c : VC) : List Value := .iface 252 (.agg #[]) :: c.ls.map lineT
def toldV (wn : Int) (cs : List VC) : List Value := .iface 251 (.agg #[.int .i64 wn]) :: cs.flatMap copyT
theorem toldOf_any (wn : Int) (A : Option Addr) (n cap : Nat) (cs : List VC) (w : World) (hn : n ≤ 1000) (hr : Rd w w.heap.size 1 A n (cs.map VC.val)) (hc : ∀ c ∈ cs, c.ok w w.heap.size) (hh : ∀ c ∈ cs, c.n ≤ 1000) :
  Calls Tryz.prog 157 #[.agg #[.int .i64 wn, .slice A n cap]] w fun e w' => ∃ v, e = .returned v ∧ w'.ownsRow w.heap.size 219 1 v (toldV wn cs).length (toldV wn cs) ∧ Below w.heap.size w w' := by
 obtain ⟨i9, hi, hz0, hz1', hz2'⟩ := info_parts info219
 have hlen : cs.length = n := by simpa using hr.len
 have hB : Below w.heap.size w (w.alloc (.cells #[.int .i64 wn, .slice A n cap] 24)) := (Below.refl _ w).alloc (Nat.le_refl _) _
 have hX := Blk.new w 24 #[.int .i64 wn, .slice A n cap]
 have hlX := hX.lt
 have qX := fun i => hX.cell i
 have HL := Lib.hid hlen; have HH := Lib.hid hh; clear hlen hh
 go_enter Tryz.func157, Tryz.ntmps157
 go_upto_region 1 with fail
 generalize w.alloc (.cells #[.int .i64 wn, .slice A n cap] 24) = W0 at *
 go_upto_region 2 with fail
 have hown : (W0.alloc (.cells #[.iface 251 (.agg #[.int .i64 wn])] 219)).ownsRow w.heap.size 219 1 (.slice (some ⟨W0.heap.size, 0, none⟩) 1 1) 1 [.iface 251 (.agg #[.int .i64 wn])] := World.ownsRow_lit (base := w.heap.size) (e := 219) (size := 1) W0 #[.iface 251 (.agg #[.int .i64 wn])] 1 hB.size (by unfold maxLen; omega) rfl
 replace hB := hB.alloc hB.size (.cells #[.iface 251 (.agg #[.int .i64 wn])] 219)
 replace hX := hX.alloc (.cells #[.iface 251 (.agg #[.int .i64 wn])] 219)
 generalize (W0.alloc (.cells #[.iface 251 (.agg #[.int .i64 wn])] 219)) = W1 at *
 clear qX hlX
 have qX := fun i => hX.cell i
 obtain ⟨b0, hb0⟩ : ∃ b0, b0 = Value.iface 251 (.agg #[.int .i64 wn]) := ⟨_, rfl⟩
 rw [← hb0] at hown
 go_wp2_with fail
 clear qX hX
 go_loopg [3, 16] n (fun g v i wr => ∃ (k m : Nat) (v0 : Value) (ys : List Value), g = n - k ∧ k ≤ n ∧ v = v0 ∧ i = .int .i64 k ∧ wr.ownsRow w.heap.size 219 1 v0 m ys ∧ Hid (ys = b0 :: (cs.take k).flatMap copyT) ∧ m ≤ 1 + k * 1001 ∧ Below w.heap.size w wr)
 case atStart => exact ⟨0, 1, _, _, rfl, Nat.zero_le _, rfl, rfl, hown, Lib.hid rfl, by omega, hB⟩
 case round =>
  clear hown hB
  obtain ⟨k, m, v0, ys, hg, hk, rfl, rfl, hown, hys, hm, hB⟩ := hrel
  obtain ⟨va, vc, rfl⟩ := own_slice hown
  have HG := Lib.hid hg; clear hg
  rename World => W2
  by_cases hlt : k < n
  ·have hlti : (k : Int) < n := by omega
   obtain ⟨b, off, hzk, rfl, hbw, hcell⟩ := (hr.below hB).atm (show k < n by omega)
   have hco := hc _ (List.getElem_mem hzk)
   have hcn := HH.out _ (List.getElem_mem hzk)
   have hts : (cs.take (k + 1)).flatMap copyT = (cs.take k).flatMap copyT ++ copyT cs[k] := by rw [List.take_succ_eq_append_getElem hzk, List.flatMap_append]; simp
   have hcT : copyT cs[k] = .iface 252 (.agg #[]) :: cs[k].ls.map lineT := rfl
   generalize cs[k] = c at *
   obtain ⟨cA, cn, ccap, cls⟩ := c
   obtain ⟨c1, c2, c3, c4⟩ := hco
   simp only [VC.val] at hcell c1 c2 c3 c4 hcn hcT
   have HTS := Lib.hid hts; have HCT := Lib.hid hcT; have HYS := hys; clear hts hcT hys hzk
   go_upto_region 7 with (first
     | (at_builtin; refine wpList_append_any _ rfl _ _ 216 rfl w.heap.size 219 i9 .nilIface 1 16 Tryz.underlying216 hi hz0 hz1' hz2' rfl (by decide) (.slice va m vc) m ys rfl (hown.alloc _) (W2.heap.size + 1) (some ⟨W2.heap.size, 0, none⟩) 1 1 [.iface 252 (.agg #[])] rfl (Rd.blkN (Blk.new W2 219 #[.iface 252 (.agg #[])]) rfl (Nat.lt_succ_self _)).reads (by simp [Value.oneCell']) (by unfold maxLen; omega) (by omega) (by have := hB.size; simp only [World.size_alloc]; omega) (fun v' w' hown' hgrow hob => ?_)))
   replace hB := (hB.alloc hB.size (.cells #[.iface 252 (.agg #[])] 219)).grown hgrow (by have := hB.size; simp only [World.size_alloc]; omega) (fun g hg => ((hown.alloc (.cells #[.iface 252 (.agg #[])] 219)).lt g hg).1)
   replace hown := hown'
   clear hgrow hob hown' hcell
   obtain ⟨va', vc', rfl⟩ := own_slice hown
   rename_i W3
   have hll : cls.length = cn := c4.len2
   have HLL := Lib.hid hll; clear hll
   go_loopg [3, 27] cn (fun g v i wr => ∃ (q m2 : Nat) (v0 : Value) (zs : List Value), g = cn - q ∧ q ≤ cn ∧ v = v0 ∧ i = .int .i64 q ∧ wr.ownsRow w.heap.size 219 1 v0 m2 zs ∧ Hid (zs = ys ++ .iface 252 (.agg #[]) :: (cls.take q).map lineT) ∧ m2 ≤ m + 1 + q ∧ Below w.heap.size w wr)
   case atStart => exact ⟨0, m + 1, _, _, rfl, Nat.zero_le _, rfl, rfl, hown, Lib.hid rfl, by omega, hB⟩
   case round =>
    clear hown hB
    obtain ⟨q, m2, v0, zs, hg, hq, rfl, rfl, hown, hzs, hm2, hB⟩ := hrel
    obtain ⟨ua, uc, rfl⟩ := own_slice hown
    have HG2 := Lib.hid hg; clear hg
    rename World => W4
    by_cases hqt : q < cn
    ·have hlti : (q : Int) < cn := by omega
     obtain ⟨b2, off2, hz2, rfl, hb2, hv0, hv1⟩ := (c4.below hB).at2 hqt
     have hts : (cls.take (q + 1)).map lineT = (cls.take q).map lineT ++ [lineT cls[q]] := by rw [List.take_succ_eq_append_getElem hz2, List.map_append]; rfl
     have hlT : lineT cls[q] = if cls[q].lost then .iface 253 (.agg #[]) else .iface 255 (.agg #[.slice cls[q].A cls[q].n cls[q].cap]) := rfl
     generalize cls[q] = l at *
     obtain ⟨lost, lA, ln, lcap, lws⟩ := l
     simp only at hv0 hv1 hlT
     have HTS2 := Lib.hid hts; have HLT := Lib.hid hlT; clear hts hlT hz2
     have hX := Blk.new W4 76 #[.bool lost, .slice lA ln lcap]
     have hlX := hX.lt
     have qX := fun i => hX.cell i
     cases lost with
     | true =>
      go_upto_region 10 with fail
      replace hown := hown.alloc (.cells #[.bool true, .slice lA ln lcap] 76)
      replace hB := hB.alloc hB.size (.cells #[.bool true, .slice lA ln lcap] 76)
      clear qX hlX hX hv0 hv1
      generalize W4.alloc (.cells #[.bool true, .slice lA ln lcap] 76) = W5 at *
      go_wp2_with (first
        | (at_builtin; refine wpList_append_any _ rfl _ _ 216 rfl w.heap.size 219 i9 .nilIface 1 16 Tryz.underlying216 hi hz0 hz1' hz2' rfl (by decide) (.slice ua m2 uc) m2 zs rfl (hown.alloc _) (W5.heap.size + 1) (some ⟨W5.heap.size, 0, none⟩) 1 1 [.iface 253 (.agg #[])] rfl (Rd.blkN (Blk.new W5 219 #[.iface 253 (.agg #[])]) rfl (Nat.lt_succ_self _)).reads (by simp [Value.oneCell']) (by unfold maxLen; omega) (by omega) (by have := hB.size; simp only [World.size_alloc]; omega) (fun v' w' hown' hgrow hob => ?_)))
      replace hB := (hB.alloc hB.size (.cells #[.iface 253 (.agg #[])] 219)).grown hgrow (by have := hB.size; simp only [World.size_alloc]; omega) (fun g hg => ((hown.alloc (.cells #[.iface 253 (.agg #[])] 219)).lt g hg).1)
      go_roundg (cn - (q + 1))
      case measure => rw [HG2.out]; omega
      case rel => exact ⟨q + 1, m2 + 1, _, _, rfl, by omega, rfl, by go_num, hown', Lib.hid (by rw [hzs.out, HTS2.out, HLT.out]; simp), by omega, hB⟩
     | false =>
      go_upto_region 11 with fail
      replace hown := hown.alloc (.cells #[.bool false, .slice lA ln lcap] 76)
      replace hB := hB.alloc hB.size (.cells #[.bool false, .slice lA ln lcap] 76)
      obtain ⟨g5, hg5⟩ : ∃ g5, g5 = W4.heap.size := ⟨_, rfl⟩
      rw [← hg5] at hX qX ⊢
      clear hlX hv0 hv1 hg5
      generalize W4.alloc (.cells #[.bool false, .slice lA ln lcap] 76) = W5 at *
      go_wp2_with (first
        | (at_builtin; refine wpList_append_any _ rfl _ _ 216 rfl w.heap.size 219 i9 .nilIface 1 16 Tryz.underlying216 hi hz0 hz1' hz2' rfl (by decide) (.slice ua m2 uc) m2 zs rfl (hown.alloc _) (W5.heap.size + 1) (some ⟨W5.heap.size, 0, none⟩) 1 1 [.iface 255 (.agg #[.slice lA ln lcap])] rfl (Rd.blkN (Blk.new W5 219 #[.iface 255 (.agg #[.slice lA ln lcap])]) rfl (Nat.lt_succ_self _)).reads (by simp [Value.oneCell']) (by unfold maxLen; omega) (by omega) (by have := hB.size; simp only [World.size_alloc]; omega) (fun v' w' hown' hgrow hob => ?_)))
      replace hB := (hB.alloc hB.size (.cells #[.iface 255 (.agg #[.slice lA ln lcap])] 219)).grown hgrow (by have := hB.size; simp only [World.size_alloc]; omega) (fun g hg => ((hown.alloc (.cells #[.iface 255 (.agg #[.slice lA ln lcap])] 219)).lt g hg).1)
      go_roundg (cn - (q + 1))
      case measure => rw [HG2.out]; omega
      case rel => exact ⟨q + 1, m2 + 1, _, _, rfl, by omega, rfl, by go_num, hown', Lib.hid (by rw [hzs.out, HTS2.out, HLT.out]; simp), by omega, hB⟩
    ·obtain rfl : q = cn := by omega
     have htk : cls.take q = cls := List.take_of_length_le (by have := HLL.out; omega)
     have hge : ¬ (q : Int) < q := by omega
     have hZ := hzs.out
     rw [htk, ← HCT.out] at hZ
     have HZ := Lib.hid hZ
     clear htk hzs hZ
     go_wp2_with fail
     go_roundg (n - (k + 1))
     case measure => rw [HG.out]; omega
     case rel => exact ⟨k + 1, m2, _, _, rfl, by omega, rfl, by go_num, hown, Lib.hid (by rw [HZ.out, HYS.out, HTS.out]; simp), by omega, hB⟩
  ·obtain rfl : k = n := by omega
   have hge : ¬ (k : Int) < k := by omega
   have htk : cs.take k = cs := List.take_of_length_le (by have := HL.out; omega)
   have hY := hys.out
   rw [htk, hb0] at hY
   have HY := Lib.hid hY
   clear hys hY htk
   go_wp2_with fail
   go_ret
   have e : toldV wn cs = ys := HY.out.symm
   have e2 : ys.length = m := by simpa using hown.1
   exact ⟨_, rfl, by rw [e, e2]; exact hown, hB⟩
end
section
open Go.RowKit Go.Lib
def bookP (wn : Nat) (cs : List VC) : List (Value × ByteArray) := (.iface 251 (.agg #[.int .i64 wn]), jnS [wBook, dS wn] ⟨#[32]⟩) :: cs.flatMap fun c => (.iface 252 (.agg #[]), wCopy) :: c.ls.map fun l => (lineT l, lnT l)
theorem bookP_fst (wn : Nat) (cs : List VC) : (bookP wn cs).map Prod.fst = toldV wn cs := by
 unfold bookP toldV copyT
 simp [List.map_flatMap, Function.comp_def]
theorem bookP_snd (wn : Nat) (cs : List VC) : (bookP wn cs).map Prod.snd = linesB wn cs := by
 unfold bookP linesB copyB
 simp [List.map_flatMap, Function.comp_def]
theorem endB_size (s : Nat) : (endB s).size ≤ 7 := by
 have h := jnS_size [wEnd, dgt3 (s % 197)] ⟨#[32]⟩ 3 (fun x hx => by
   rcases (by simpa using hx : x = wEnd ∨ x = dgt3 (s % 197)) with rfl | rfl
   · decide
   · exact Nat.le_refl 3)
 have e : endB s = wEnd ++ ⟨#[32]⟩ ++ dgt3 (s % 197) := by
  unfold endB
  have h2 := lineS_jn1 wEnd [dgt3 (s % 197)] (by simp)
  rw [← h2]; unfold lineS; rw [jnS_one]
 rw [e, size_app, size_app]
 exact (show 3 + 1 + 3 ≤ 7 by omega)
theorem write_of (wn : Int) (A : Option Addr) (n cap : Nat) (ps : List (Value × ByteArray)) (s : Nat) (m : Int) (w : World) (hE : Env m w) (hl : ps.length ≤ 900)
  (hto : ∀ wx, Below w.heap.size w wx → Calls Tryz.prog 157 #[.agg #[.int .i64 wn, .slice A n cap]] wx fun e w' => ∃ v, e = .returned v ∧ w'.ownsRow wx.heap.size 219 1 v ps.length (ps.map Prod.fst) ∧ Below wx.heap.size wx w')
  (htx : ∀ p ∈ ps, ∀ wx, Below w.heap.size w wx → Calls Tryz.prog 158 #[p.1] wx fun e w' => e = .returned (.string p.2) ∧ Below wx.heap.size wx w')
  (hsz : ∀ p ∈ ps, p.2.size ≤ 100000) (hsum : sumA (ps.map Prod.snd) 0 0 = s) :
  Calls Tryz.prog 119 #[.agg #[.int .i64 wn, .slice A n cap]] w fun e w' => e = .returned (.string (txtB (ps.map Prod.snd) s)) ∧ Below w.heap.size w w' := by
 obtain ⟨i9, hi, hz0, hz1', hz2'⟩ := info_parts info9
 have hB : Below w.heap.size w (w.alloc (.cells #[.int .i64 wn, .slice A n cap] 24)) := (Below.refl _ w).alloc (Nat.le_refl _) _
 have hX := Blk.new w 24 #[.int .i64 wn, .slice A n cap]
 have qX := fun i => hX.cell i
 obtain ⟨N, hN⟩ : ∃ N, N = ps.length := ⟨_, rfl⟩
 rw [← hN] at hto hl
 have hall : ∀ x ∈ ps.map Prod.snd, x.size ≤ 100000 := fun x hx => by obtain ⟨p, hp, rfl⟩ := List.mem_map.1 hx; exact hsz p hp
 have HTO := Lib.hid hto; have HTX := Lib.hid htx; have HN := Lib.hid hN; have HSZ := Lib.hid hsz; have HSUM := Lib.hid hsum; have HALL := Lib.hid hall
 clear hto htx hN hsz hsum hall
 go_enter Tryz.func119, Tryz.ntmps119
 go_upto_region 1 with fail
 generalize w.alloc (.cells #[.int .i64 wn, .slice A n cap] 24) = W0 at *
 go_wp2_with (first
   | (go_at_call 157; refine (HTO.out _ hB).mono ?_; rintro e w1 ⟨v, rfl, hot, hb⟩; obtain ⟨ta, tc, rfl⟩ := own_slice hot; have hrt := Rd.of_own hot; replace hB := hB.trans (hb.mono hB.size); clear hb hot qX))
 have hBt := Below.refl w1.heap.size w1
 go_loopg [3, 9] N (fun g v i wr => ∃ (k : Nat) (v0 : Value), g = N - k ∧ k ≤ N ∧ v = v0 ∧ i = .int .i64 k ∧ wr.ownsRow w1.heap.size 9 1 v0 k (((ps.map Prod.snd).take k).map Value.string) ∧ Below w1.heap.size w1 wr)
 case atStart => exact ⟨0, _, rfl, Nat.zero_le _, rfl, rfl, World.ownsRow_nil _ _ _ _, hBt⟩
 case round =>
  clear hBt
  obtain ⟨k, v0, hg, hk, rfl, rfl, hown, hBt⟩ := hrel
  obtain ⟨va, vc, rfl⟩ := own_slice hown
  have HG := Lib.hid hg; clear hg
  rename World => W2
  have hB2 := hB.trans (hBt.mono hB.size)
  have hw1 := hB.size
  by_cases hlt : k < N
  ·have hlti : (k : Int) < N := by omega
   obtain ⟨b, off, hz, rfl, hbw, hcell⟩ := (hrt.below hBt).atm hlt
   have hz2 : k < (ps.map Prod.snd).length := by rw [List.length_map]; exact hz
   have hts : (ps.map Prod.snd).take (k + 1) = (ps.map Prod.snd).take k ++ [ps[k].2] := by rw [List.take_succ_eq_append_getElem hz2]; simp
   have htx := HTX.out _ (List.getElem_mem hz)
   generalize ps[k] = p at *
   obtain ⟨pv, pb⟩ := p
   simp only at hcell htx hts
   obtain ⟨ys, hys⟩ : ∃ ys, ys = ((ps.map Prod.snd).take k).map Value.string := ⟨_, rfl⟩
   rw [← hys] at hown
   have HTS := Lib.hid hts; have HYS := Lib.hid hys; have HT := Lib.hid htx; clear hts hys htx hz hz2
   go_wp2_with (first
     | (go_at_call 158; refine (HT.out _ hB2).mono ?_; rintro e w3 ⟨rfl, hb⟩; replace hown := ownsRow_below' hown hb; replace hBt := hBt.trans (hb.mono hBt.size); clear hb hcell)
     | (at_builtin; refine wpList_append_any _ rfl _ _ 173 rfl w1.heap.size 9 i9 (.string ByteArray.empty) 1 16 Tryz.underlying173 hi hz0 hz1' hz2' rfl (by decide) (.slice va k vc) k ys rfl (hown.alloc _) (w3.heap.size + 1) (some ⟨w3.heap.size, 0, none⟩) 1 1 [.string pb] rfl (Rd.blkN (Blk.new w3 9 #[.string pb]) rfl (Nat.lt_succ_self _)).reads (by simp [Value.oneCell']) (by unfold maxLen; omega) (by omega) (by have := hBt.size; simp only [World.size_alloc]; omega) (fun v' w' hown' hgrow hob => ?_)))
   replace hBt := (hBt.alloc hBt.size (.cells #[.string pb] 9)).grown hgrow (by have := hBt.size; simp only [World.size_alloc]; omega) (fun g hg => ((hown.alloc (.cells #[.string pb] 9)).lt g hg).1)
   go_roundg (N - (k + 1))
   case measure => rw [HG.out]; omega
   case rel => exact ⟨k + 1, _, rfl, by omega, rfl, by go_num, by rw [HTS.out, List.map_append, ← HYS.out]; exact hown', hBt⟩
  ·obtain rfl : k = N := by omega
   have hge : ¬ (k : Int) < k := by omega
   have htk : (ps.map Prod.snd).take k = ps.map Prod.snd := List.take_of_length_le (by rw [List.length_map]; have := HN.out; omega)
   rw [htk] at hown
   have hLl : (ps.map Prod.snd).length = k := by rw [List.length_map]; exact HN.out.symm
   have hall := HALL.out; have hsum := HSUM.out
   obtain ⟨L, hL⟩ : ∃ L, L = ps.map Prod.snd := ⟨_, rfl⟩
   rw [← hL] at hown hLl hall hsum
   have hend := fun wx hx hy => endOf_any va k vc L s m wx (by omega) hall hx hsum hy
   have hee : jnS [wEnd, dgt3 (s % 197)] ⟨#[32]⟩ = endB s := rfl
   rw [hee] at hend
   have hes := endB_size s
   have hall2 : ∀ x ∈ L ++ [endB s], x.size ≤ 100000 := fun x hx => by
    rcases List.mem_append.1 hx with h | h
    ·exact hall x h
    ·obtain rfl : x = endB s := (by simpa using h)
     omega
   have hj : (jnS (L ++ [endB s]) ⟨#[10]⟩).size ≤ 100000000 := by
    have h1 := jnS_size (L ++ [endB s]) ⟨#[10]⟩ 100000 hall2
    have h2 : (L ++ [endB s]).length = k + 1 := by rw [List.length_append, hLl]; rfl
    have h3 : (L ++ [endB s]).length * (100000 + ByteArray.size ⟨#[10]⟩) ≤ 901 * 100001 := Nat.mul_le_mul (by omega) (Nat.le_refl _)
    omega
   have hjoin := fun (A : Option Addr) (c : Nat) (wx : World) hc hr => jn_any A (k + 1) c (L ++ [endB s]) ⟨#[10]⟩ wx (by omega) (by omega) hc hall2 (by decide) hr
   have hT : txtB (ps.map Prod.snd) s = jnS (L ++ [endB s]) ⟨#[10]⟩ ++ ⟨#[10]⟩ := by rw [hL]; rfl
   have hmap : (L ++ [endB s]).map Value.string = L.map Value.string ++ [.string (endB s)] := by simp
   rw [hmap] at hjoin
   have HE := Lib.hid hend; have HJ := Lib.hid hjoin; have HT := Lib.hid hT; clear hend hjoin hT hL hall hall2 hsum htk hee hmap hes hLl
   generalize jnS (L ++ [endB s]) ⟨#[10]⟩ = JJ at *
   generalize endB s = EE at *
   have hEn := (hE.below hB2)
   have hrL := Rd.of_own hown
   have hno1 : ¬ 9223372036854775807 < JJ.size + 1 := by omega
   generalize L.map Value.string = ys at *
   have HRL := Lib.hid hrL; clear hrL
   go_wp2_with (first
     | (go_at_call 160; refine (HE.out _ HRL.out hEn).mono ?_; rintro e w3 ⟨rfl, hb⟩; replace hown := ownsRow_below' hown hb; replace hBt := hBt.trans (hb.mono hBt.size); clear hb)
     | (at_builtin; refine wpList_append_any _ rfl _ _ 173 rfl w1.heap.size 9 i9 (.string ByteArray.empty) 1 16 Tryz.underlying173 hi hz0 hz1' hz2' rfl (by decide) (.slice va k vc) k ys rfl (hown.alloc _) (w3.heap.size + 1) (some ⟨w3.heap.size, 0, none⟩) 1 1 [.string EE] rfl (Rd.blkN (Blk.new w3 9 #[.string EE]) rfl (Nat.lt_succ_self _)).reads (by simp [Value.oneCell']) (by unfold maxLen; omega) (by omega) (by have := hBt.size; simp only [World.size_alloc]; omega) (fun v' w' hown' hgrow hob => ?_))
     | (go_at_call 159; (replace hBt := (hBt.alloc hBt.size (.cells #[.string EE] 9)).grown hgrow (by have := hBt.size; simp only [World.size_alloc]; omega) (fun g hg => ((hown.alloc (.cells #[.string EE] 9)).lt g hg).1)); obtain ⟨ua, uc, rfl⟩ := own_slice hown'; refine (HJ.out ua uc _ (own_le0 hown') (Rd.of_own hown')).mono ?_; rintro e w5 ⟨rfl, hb⟩; replace hBt := hBt.trans (hb.mono hBt.size)))
   go_ret
   exact ⟨by rw [HT.out]; rfl, hB.trans (hBt.mono hB.size)⟩
end
section
open Go.RowKit Go.Lib
theorem bookP_mem {wn : Nat} {cs : List VC} {p : Value × ByteArray} (h : p ∈ bookP wn cs) : p = (.iface 251 (.agg #[.int .i64 wn]), jnS [wBook, dS wn] ⟨#[32]⟩) ∨ p = (.iface 252 (.agg #[]), wCopy) ∨ ∃ c ∈ cs, ∃ l ∈ c.ls, p = (lineT l, lnT l) := by
 unfold bookP at h
 rcases List.mem_cons.1 h with h | h
 ·exact .inl h
 ·obtain ⟨c, hc, h⟩ := List.mem_flatMap.1 h
  rcases List.mem_cons.1 h with h | h
  ·exact .inr (.inl h)
  ·obtain ⟨l, hl, rfl⟩ := List.mem_map.1 h
   exact .inr (.inr ⟨c, hc, l, hl, rfl⟩)
theorem flat_len {α β : Type} (f : α → List β) (M : Nat) : ∀ l : List α, (∀ x ∈ l, (f x).length ≤ M) → (l.flatMap f).length ≤ l.length * M
 | [], _ => by simp
 | x :: l, h => by
  have h1 := flat_len f M l (fun y hy => h y (by simp [hy]))
  have h2 := h x (by simp)
  rw [List.flatMap_cons, List.length_append, List.length_cons, Nat.add_mul]
  omega
theorem book_size (n : Nat) (hn : n < 1000) : (jnS [wBook, dS n] ⟨#[32]⟩).size ≤ 20 := by
 have h := jnS_size [wBook, dS n] ⟨#[32]⟩ 4 (fun x hx => by
   rcases (by simpa using hx : x = wBook ∨ x = dS n) with rfl | rfl
   · decide
   · have := dS_size n hn; omega)
 exact Nat.le_trans h (show 2 * (4 + 1) ≤ 20 by omega)
theorem lnT_size (l : VL) (h1 : l.ws.length ≤ 100) (h2 : ∀ x ∈ l.ws, 0 ≤ x ∧ x < 1000) : (lnT l).size ≤ 505 := by
 unfold lnT
 split
 ·decide
 ·have h := jnS_size (wLine :: l.ws.map DZ) ⟨#[32]⟩ 4 (fun x hx => by
    rcases List.mem_cons.1 hx with rfl | hx
    · decide
    · obtain ⟨y, hy, rfl⟩ := List.mem_map.1 hx
      have := DZ_size y (h2 y hy).1 (h2 y hy).2
      omega)
  rw [List.length_cons, List.length_map] at h
  have e : ByteArray.size ⟨#[32]⟩ = 1 := rfl
  rw [e] at h
  omega
section
variable {wn : Nat} {A : Option Addr} {n : Nat} {cs : List VC} {w : World} {B : Nat}
theorem BkG.words (h : BkG wn A n cs w B) {c : VC} (hc : c ∈ cs) {l : VL} (hl : l ∈ c.ls) : l.n ≤ 4 ∧ l.ws.length ≤ 4 ∧ ∀ x ∈ l.ws, 0 ≤ x ∧ x < 1000 := by
 obtain ⟨h1, h2, h3⟩ := h.2.2.2.2.2.2 c hc l hl
 exact ⟨h1, h2, fun x hx => by have := h3 x hx; omega⟩
theorem bookP_len (h : BkG wn A n cs w B) : (bookP wn cs).length ≤ 30 := by
 unfold bookP
 have h1 := flat_len (fun c : VC => ((.iface 252 (.agg #[]), wCopy) : Value × ByteArray) :: c.ls.map fun l => (lineT l, lnT l)) 5 cs (fun c hc => by
   have := h.2.2.2.2.2.1 c hc
   have := h.2.2.1
   simp only [List.length_cons, List.length_map]
   omega)
 have h2 := h.len
 have h3 := h.2.1
 rw [List.length_cons]
 have h4 : cs.length * 5 ≤ 5 * 5 := Nat.mul_le_mul (by omega) (Nat.le_refl _)
 omega
theorem bookP_size (h : BkG wn A n cs w B) : ∀ p ∈ bookP wn cs, p.2.size ≤ 505 := fun p hp => by
 rcases bookP_mem hp with rfl | rfl | ⟨c, hc, l, hl, rfl⟩
 ·have := book_size wn (by have := h.1; omega)
  show (jnS [wBook, dS wn] ⟨#[32]⟩).size ≤ 505
  omega
 ·decide
 ·obtain ⟨h1, h2, h3⟩ := h.words hc hl
  exact lnT_size l (by omega) h3
theorem sB_ok (h : BkG wn A n cs w B) : sumA (linesB wn cs) 0 0 = (sB (linesB wn cs) : Nat) := by
 have hl : (linesB wn cs).length ≤ 30 := by rw [← bookP_snd, List.length_map]; exact bookP_len h
 have hs : ∀ x ∈ linesB wn cs, x.size ≤ 900 := fun x hx => by
  rw [← bookP_snd] at hx
  obtain ⟨p, hp, rfl⟩ := List.mem_map.1 hx
  have := bookP_size h p hp
  omega
 have h0 := sumA_ok (linesB wn cs) 0 0 (Int.le_refl _) (by omega) hs (Int.le_refl _) (by omega)
 unfold sB
 omega
theorem textOf_pair (h : BkG wn A n cs w w.heap.size) (m : Int) (hE : Env m w) : ∀ p ∈ bookP wn cs, ∀ wx, Below w.heap.size w wx → Calls Tryz.prog 158 #[p.1] wx fun e w' => e = .returned (.string p.2) ∧ Below wx.heap.size wx w' := fun p hp wx hx => by
 rcases bookP_mem hp with rfl | rfl | ⟨c, hc, l, hl, rfl⟩
 ·exact textOf_book wn (by have := h.1; omega) m wx (hE.below hx)
 ·exact textOf_copy wx
 ·obtain ⟨h1, h2, h3⟩ := h.words hc hl
  have hok := ((h.2.2.2.2.1 c hc).2.2.1 l hl)
  unfold lineT lnT
  cases hlost : l.lost with
  | true => exact textOf_lost wx
  | false => exact textOf_line l.A l.n l.cap l.ws m wx (hE.below hx) (by omega) h3 ((hok.2.2.below hx).more hx.size)
theorem write_any (cap : Nat) (h : BkG wn A n cs w w.heap.size) (m : Int) (hE : Env m w) :
  Calls Tryz.prog 119 #[.agg #[.int .i64 wn, .slice A n cap]] w fun e w' => e = .returned (.string (bookT wn cs)) ∧ Below w.heap.size w w' := by
 have h1 := write_of (wn : Int) A n cap (bookP wn cs) (sB (linesB wn cs)) m w hE (by have := bookP_len h; omega)
  (fun wx hx => by
    have hx2 := h.toW hx
    have h3 := toldOf_any (wn : Int) A n cap cs wx (by have := h.2.1; omega) hx2.2.2.2.1 hx2.2.2.2.2.1 (fun c hc => by have := h.2.2.2.2.2.1 c hc; have := h.2.2.1; omega)
    have e : (bookP wn cs).length = (toldV (wn : Int) cs).length := by rw [← bookP_fst, List.length_map]
    rw [bookP_fst, e]
    exact h3) (textOf_pair h m hE) (fun p hp => by have := bookP_size h p hp; omega) (by rw [bookP_snd]; exact sB_ok h)
 rw [bookP_snd] at h1
 exact h1
end
theorem Print_yes {wn : Nat} {A : Option Addr} {n : Nat} (cap : Nat) {cs : List VC} {w : World} (m : Int) (hE : Env m w) (hb : BkG wn A n cs w w.heap.size) (h1 : bookB (wn : Int) cs = true) :
  Calls Tryz.prog 74 #[.agg #[.int .i64 (wn : Int), .slice A n cap]] w fun e w' => e = .returned (.tuple #[.string (bookT wn cs), .int .i64 0]) ∧ Below w.heap.size w w' := by
 have hX := Blk.new w 24 #[.int .i64 (wn : Int), .slice A n cap]
 have hB : Below w.heap.size w (w.alloc (.cells #[.int .i64 (wn : Int), .slice A n cap] 24)) := (Below.refl _ w).alloc (Nat.le_refl _) _
 have qX := fun i => hX.cell i
 have hgb := fun (wx : World) (hx : Below w.heap.size w wx) => goodBook_any (wn : Int) A n cap cs wx (by have := hb.2.1.2; unfold maxLen; omega) (rdB hb.2.2.2.1 hx) (fun c h => okB (hb.2.2.2.2.1 c h) hx)
 simp only [h1] at hgb
 have hwr := fun (wx : World) (hx : Below w.heap.size w wx) => write_any cap (hb.toW hx) m (hE.below hx)
 have HGB := Lib.hid hgb; have HW := Lib.hid hwr; clear hgb h1 hwr
 go_enter Tryz.func74, Tryz.ntmps74
 go_wp2_with (first
   | (go_at_call 81; refine (HGB.out _ hB).mono ?_; rintro e w1 ⟨rfl, hb⟩; replace hX := hX.below hb hX.lt; replace hB := hB.trans (hb.mono hB.size); clear hb qX; have qX := fun i => hX.cell i)
   | (go_at_call 119; refine (HW.out _ hB).mono ?_; rintro e w1 ⟨rfl, hb⟩; replace hB := hB.trans (hb.mono hB.size); clear hb))
 go_ret2
 exact ⟨rfl, hB⟩
end
section
open Go.RowKit Go.Lib
theorem dS_inj {a b : Nat} (ha : a < 100) (hb : b < 100) (h : dS a = dS b) : a = b := by
 have h2 : (dS a).data.toList = (dS b).data.toList := by rw [h]
 rcases dS_list a ha with ⟨h3, h4⟩ | ⟨h3, h4⟩ <;> rcases dS_list b hb with ⟨h5, h6⟩ | ⟨h5, h6⟩ <;> rw [h4, h6] at h2
 ·have h7 := congrArg UInt8.toNat (List.head_eq_of_cons_eq h2)
  simp only [UInt8.toNat_ofNat'] at h7
  omega
 ·simp at h2
 ·simp at h2
 ·have h7 := congrArg UInt8.toNat (List.head_eq_of_cons_eq h2)
  have h8 := congrArg UInt8.toNat (List.head_eq_of_cons_eq (List.tail_eq_of_cons_eq h2))
  simp only [UInt8.toNat_ofNat'] at h7 h8
  omega
theorem numO_dS (a : Nat) (ha : a < 100) : numO (dS a) = some a := by
 cases h : numO (dS a) with
 | none => exact absurd rfl (numO_none h a ha)
 | some b => rw [dS_inj ha (numO_some h).1 (numO_some h).2]
theorem numsO_dS : ∀ (ns : List Nat), (∀ a ∈ ns, a < 100) → numsO (ns.map dS) = some ns
 | [], _ => rfl
 | a :: ns, h => by rw [List.map_cons, numsO, numO_dS a (h a (by simp)), numsO_dS ns (fun x hx => h x (by simp [hx]))]; rfl
end
section
open Go.RowKit Go.Lib
def LONGv : Ending := .returned (.tuple #[.agg #[.int .i64 0, .slice none 0 0], .int .i64 3])
theorem Read_long (s : ByteArray) (w : World) (hs : 400 < s.size) : Calls Tryz.prog 75 #[.string s] w fun e w' => e = LONGv ∧ Below w.heap.size w w' := by
 have hX := Blk.new w 24 #[.int .i64 0, .slice none 0 0]
 have hB : Below w.heap.size w (w.alloc (.cells #[.int .i64 0, .slice none 0 0] 24)) := (Below.refl _ w).alloc (Nat.le_refl _) _
 have qX := fun i => hX.cell i; have fX := fun i => hX.frozen i; have lX := hX.lt
 have hgt : (400 : Int) < (s.size : Int) := by omega
 go_enter Tryz.func75, Tryz.ntmps75
 go_wp2_with fail
 exact bodyPost_ret (v := .tuple #[.agg #[.int .i64 0, .slice none 0 0], .int .i64 3]) (by simp [results, Tryz.results75, go_sem, qX]) rfl ⟨rfl, hB⟩
end
section
open Go.RowKit Go.Lib
def noB (b : UInt8) (s : ByteArray) : Prop := b ∉ s.data.toList
theorem noB_jn {b : UInt8} {xs : List ByteArray} {sep : ByteArray} (h : ∀ x ∈ xs, noB b x) (hs : noB b sep) : noB b (jnS xs sep) := by
 show b ∉ join (xs.map (·.data.toList)) sep.data.toList
 exact not_mem_join hs _ fun x hx => by obtain ⟨z, hz, rfl⟩ := List.mem_map.1 hx; exact h z hz
theorem noB_dS {a : Nat} (h : a < 100) : noB 10 (dS a) ∧ noB 32 (dS a) := by
 have h2 : ((List.range 100).all fun a => !((dS a).data.toList.contains 10) && !((dS a).data.toList.contains 32)) = true := by kernel_rfl
 have h3 := List.all_eq_true.1 h2 a (List.mem_range.2 h)
 simp only [Bool.and_eq_true, Bool.not_eq_true', List.contains_eq_mem, decide_eq_false_iff_not] at h3
 exact h3
theorem noB_end (s : Nat) : noB 10 (endB s) := by
 have h2 : ((List.range 197).all fun a => !((jnS [wEnd, dgt3 a] ⟨#[32]⟩).data.toList.contains 10)) = true := by kernel_rfl
 have h3 := List.all_eq_true.1 h2 (s % 197) (List.mem_range.2 (by omega))
 simp only [Bool.not_eq_true', List.contains_eq_mem, decide_eq_false_iff_not] at h3
 exact h3
theorem noB_lit {b : UInt8} {s : ByteArray} (h : s.data.toList.contains b = false) : noB b s := by
 intro h2
 rw [List.contains_eq_mem, decide_eq_true h2] at h
 cases h
theorem DZ_nat {x : Int} (h : 0 ≤ x ∧ x < 100) : DZ x = dS x.toNat ∧ x.toNat < 100 := ⟨rfl, by omega⟩
def smallW (cs : List VC) : Prop := ∀ c ∈ cs, ∀ l ∈ c.ls, (l.lost = true → l.ws = []) ∧ ∀ x ∈ l.ws, 0 ≤ x ∧ x < 100
theorem lnT_no10 {l : VL} (h : ∀ x ∈ l.ws, 0 ≤ x ∧ x < 100) : noB 10 (lnT l) := by
 unfold lnT
 split
 ·exact noB_lit (by kernel_rfl)
 ·refine noB_jn (fun x hx => ?_) (noB_lit (by kernel_rfl))
  rcases List.mem_cons.1 hx with rfl | hx
  ·exact noB_lit (by kernel_rfl)
  ·obtain ⟨z, hz, rfl⟩ := List.mem_map.1 hx
   exact (noB_dS (DZ_nat (h z hz)).2).1
theorem linesB_no10 {wn : Nat} {cs : List VC} (hw : wn < 100) (h : smallW cs) : ∀ x ∈ linesB wn cs, noB 10 x := fun x hx => by
 unfold linesB at hx
 rcases List.mem_cons.1 hx with rfl | hx
 ·refine noB_jn (fun x hx => ?_) (noB_lit (by kernel_rfl))
  rcases List.mem_cons.1 hx with rfl | hx
  ·exact noB_lit (by kernel_rfl)
  ·rw [List.mem_singleton.1 hx]; exact (noB_dS hw).1
 ·obtain ⟨c, hc, hx⟩ := List.mem_flatMap.1 hx
  unfold copyB at hx
  rcases List.mem_cons.1 hx with rfl | hx
  ·exact noB_lit (by kernel_rfl)
  ·obtain ⟨l, hl, rfl⟩ := List.mem_map.1 hx
   exact lnT_no10 (h c hc l hl).2
theorem cut_jn {c : UInt8} {x : ByteArray} {r : List ByteArray} (h : ∀ y ∈ x :: r, noB c y) : cutB c (jnS (x :: r) ⟨#[c]⟩) = x :: r :=
 splitB_join c x r (h x (by simp)) (fun y hy => h y (by simp [hy]))
theorem line_book {wn : Nat} (hw : wn < 100) : lineO (jnS [wBook, dS wn] ⟨#[32]⟩) = some (.book wn) := by
 unfold lineO
 rw [cut_jn (fun y hy => by
   rcases List.mem_cons.1 hy with rfl | hy
   · exact noB_lit (by kernel_rfl)
   · rw [List.mem_singleton.1 hy]; exact (noB_dS hw).2)]
 show (numsO ([wn].map dS)).bind (tellO wBook) = _
 rw [numsO_dS [wn] (fun a ha => by rw [List.mem_singleton.1 ha]; exact hw)]
 rfl
theorem line_copy : lineO wCopy = some .copy := by
 unfold lineO
 rw [show wCopy = jnS [wCopy] ⟨#[32]⟩ from (jnS_one _ _).symm, cut_jn (fun y hy => by rw [List.mem_singleton.1 hy]; exact noB_lit (by kernel_rfl))]
 show (some []).bind (tellO wCopy) = _
 exact (by kernel_rfl : tellO wCopy [] = some .copy)
theorem line_lost : lineO wLost = some .lost := by
 unfold lineO
 rw [show wLost = jnS [wLost] ⟨#[32]⟩ from (jnS_one _ _).symm, cut_jn (fun y hy => by rw [List.mem_singleton.1 hy]; exact noB_lit (by kernel_rfl))]
 show (some []).bind (tellO wLost) = _
 exact (by kernel_rfl : tellO wLost [] = some .lost)
def natW (l : VL) : Bool × List Nat := (l.lost, l.ws.map Int.toNat)
theorem line_ln {l : VL} (h : ∀ x ∈ l.ws, 0 ≤ x ∧ x < 100) (hl : l.lost = true → l.ws = []) : lineO (lnT l) = some (if l.lost then .lost else .line (l.ws.map Int.toNat)) := by
 unfold lnT
 cases hlo : l.lost
 ·rw [if_neg (by decide), if_neg (by decide)]
  unfold lineO
  rw [cut_jn (fun y hy => by
    rcases List.mem_cons.1 hy with rfl | hy
    · exact noB_lit (by kernel_rfl)
    · obtain ⟨z, hz, rfl⟩ := List.mem_map.1 hy
      exact (noB_dS (DZ_nat (h z hz)).2).2)]
  have e : l.ws.map DZ = (l.ws.map Int.toNat).map dS := by rw [List.map_map]; rfl
  show (numsO (l.ws.map DZ)).bind (tellO wLine) = _
  rw [e, numsO_dS _ (fun a ha => by obtain ⟨z, hz, rfl⟩ := List.mem_map.1 ha; exact (DZ_nat (h z hz)).2)]
  show tellO wLine _ = _
  unfold tellO
  rw [if_neg (by exact of_decide_eq_true (by kernel_rfl)), if_neg (by exact of_decide_eq_true (by kernel_rfl)), if_pos rfl]
 ·rw [if_pos rfl, if_pos rfl]
  exact line_lost
theorem foldO_app : ∀ (xs ys : List ByteArray) (i : Nat) (b : BkT), foldO i b (xs ++ ys) = (foldO i b xs).bind fun b' => foldO (i + xs.length) b' ys
 | [], ys, i, b => rfl
 | x :: xs, ys, i, b => by
  rw [List.cons_append, foldO, foldO]
  cases lineO x with
  | none => rfl
  | some t =>
   simp only [Option.bind_some]
   cases stepO i b t with
   | none => rfl
   | some b' =>
    simp only [Option.bind_some]
    rw [foldO_app xs ys (i + 1) b', List.length_cons]
    congr 1
    funext b2
    rw [show i + 1 + xs.length = i + (xs.length + 1) by omega]
theorem fold_lines : ∀ (ls : List VL) (i wn : Nat) (done : List (List (Bool × List Nat))) (acc : List (Bool × List Nat)), 1 ≤ i → (∀ l ∈ ls, (l.lost = true → l.ws = []) ∧ ∀ x ∈ l.ws, 0 ≤ x ∧ x < 100) →
  foldO i (wn, done ++ [acc]) (ls.map lnT) = some (wn, done ++ [acc ++ ls.map natW])
 | [], i, wn, done, acc, _, _ => by simp [foldO]
 | l :: ls, i, wn, done, acc, hi, h => by
  have h1 := h l (by simp)
  have ih := fold_lines ls (i + 1) wn done (acc ++ [natW l]) (by omega) (fun x hx => h x (by simp [hx]))
  rw [List.map_cons, foldO, line_ln h1.2 h1.1]
  have hst : stepO i (wn, done ++ [acc]) (if l.lost then .lost else .line (l.ws.map Int.toNat)) = some (wn, done ++ [acc ++ [natW l]]) := by
   unfold natW
   cases hlo : l.lost
   ·rw [if_neg (by decide)]
    show (if i = 0 then none else if done ++ [acc] = [] then none else some (wn, addL (done ++ [acc]) (false, l.ws.map Int.toNat))) = _
    rw [if_neg (by omega), if_neg (by simp), addL_snoc]
   ·rw [if_pos rfl]
    show (if i = 0 then none else if done ++ [acc] = [] then none else some (wn, addL (done ++ [acc]) (true, []))) = _
    rw [if_neg (by omega), if_neg (by simp), addL_snoc, h1.1 hlo]; rfl
  simp only [Option.bind_some, hst]
  rw [ih, List.map_cons, List.append_assoc]; rfl
theorem fold_copies : ∀ (cs : List VC) (i wn : Nat) (done : List (List (Bool × List Nat))), 1 ≤ i → smallW cs → foldO i (wn, done) (cs.flatMap copyB) = some (wn, done ++ cs.map fun c => c.ls.map natW)
 | [], i, wn, done, _, _ => by simp [foldO]
 | c :: cs, i, wn, done, hi, h => by
  rw [List.flatMap_cons, foldO_app]
  have h1 : foldO i (wn, done) (copyB c) = some (wn, done ++ [c.ls.map natW]) := by
   unfold copyB
   rw [foldO, line_copy]
   have hst : stepO i (wn, done) .copy = some (wn, done ++ [[]]) := by
    show (if i = 0 then none else some (wn, done ++ [[]])) = _
    rw [if_neg (by omega)]
   simp only [Option.bind_some, hst]
   rw [fold_lines c.ls (i + 1) wn done [] (by omega) (h c (by simp))]; rfl
  rw [h1, Option.bind_some, fold_copies cs _ wn _ (by omega) (fun x hx => h x (by simp [hx])), List.map_cons, List.append_assoc]; rfl
theorem trimB_end (t : ByteArray) : hasSuffix (t ++ ⟨#[10]⟩).data.toList [10] = true ∧ trimB (t ++ ⟨#[10]⟩) = t := by
 have e : (t ++ ⟨#[10]⟩ : ByteArray).data.toList = t.data.toList ++ [10] := by simp [ByteArray.toList_eq]
 have h1 : hasSuffix (t ++ ⟨#[10]⟩).data.toList [10] = true := by
  unfold hasSuffix
  rw [e, List.isSuffixOf_iff_suffix]
  exact List.suffix_append _ _
 refine ⟨h1, ?_⟩
 unfold trimB trimSuffix
 rw [if_pos h1, e]
 apply ba_list
 simp
theorem parse_book {wn : Nat} {cs : List VC} (hw : wn < 100) (h : smallW cs) : parseO (bookT wn cs) = some (wn, cs.map fun c => c.ls.map natW) := by
 obtain ⟨L, hL⟩ : ∃ L, L = linesB wn cs := ⟨_, rfl⟩
 obtain ⟨t, ht⟩ : ∃ t, t = jnS (L ++ [endB (sB L)]) ⟨#[10]⟩ := ⟨_, rfl⟩
 have hT : bookT wn cs = t ++ ⟨#[10]⟩ := by unfold bookT txtB; rw [← hL, ht]
 obtain ⟨h1, h2⟩ := trimB_end t
 have hcut : cutB 10 t = L ++ [endB (sB L)] := by
  have hno : ∀ y ∈ L ++ [endB (sB L)], noB 10 y := fun y hy => by
   rcases List.mem_append.1 hy with hy | hy
   ·rw [hL] at hy; exact linesB_no10 hw h y hy
   ·rw [List.mem_singleton.1 hy]; exact noB_end _
  rw [ht]
  have hne : ∃ x r, L ++ [endB (sB L)] = x :: r := by rw [hL]; exact ⟨_, _, rfl⟩
  obtain ⟨x, r, e⟩ := hne
  rw [e] at hno ⊢
  exact cut_jn hno
 unfold parseO
 rw [hT, if_pos h1, h2, hcut, if_pos (by rw [List.length_append, hL]; unfold linesB; simp), List.dropLast_concat, List.getLast?_concat]
 have hf : foldO 0 (0, []) L = some (wn, cs.map fun c => c.ls.map natW) := by
  rw [hL]
  unfold linesB
  rw [foldO, line_book hw]
  have hst : stepO 0 (0, []) (.book wn) = some (wn, []) := rfl
  simp only [Option.bind_some, hst]
  rw [fold_copies cs 1 wn [] (by omega) h]; rfl
 rw [hf, Option.bind_some, if_pos rfl]
end
section
open Go.RowKit Go.Lib
theorem refSplit_any (s : ByteArray) (c : UInt8) (w : World) (hs : s.size ≤ 1000) : Calls Tryz.prog 123 #[.string s, .int .u8 c.toNat] w fun e w' => ∃ v, e = .returned v ∧ w'.ownsRow w.heap.size 9 1 v (cutB c s).length ((cutB c s).map Value.string) ∧ Below w.heap.size w w' := by
 obtain ⟨i9, hi, hz0, hz1', hz2'⟩ := info_parts info9
 have hcut := cutB_data c s
 have HC := Lib.hid hcut; clear hcut
 go_enter Tryz.func123, Tryz.ntmps123
 go_wp2_with fail
 go_loopg [5, 6, 7] s.size (fun g v b i wr => ∃ (k bg : Nat) (v0 : Value) (ps : List ByteArray), g = s.size - k ∧ bg ≤ k ∧ k ≤ s.size ∧ v = v0 ∧ b = .int .i64 bg ∧ i = .int .i64 k ∧ ps.length ≤ k ∧ wr.ownsRow w.heap.size 9 1 v0 ps.length (ps.map Value.string) ∧ ps.map (·.data.toList) ++ cutL c (s.data.toList.drop bg) = cutL c s.data.toList ∧ (∀ q, bg ≤ q → q < k → s.data.toList[q]? ≠ some c) ∧ Below w.heap.size w wr)
 case atStart => exact ⟨0, 0, _, [], rfl, Nat.le_refl _, Nat.zero_le _, rfl, rfl, rfl, Nat.le_refl _, World.ownsRow_nil _ _ _ _, rfl, fun q _ h => absurd h (Nat.not_lt_zero _), Below.refl _ _⟩
 case round =>
  obtain ⟨k, bg, v0, ps, hg, hbk, hk, rfl, rfl, rfl, hpl, hown, hcc, hno, hB⟩ := hrel
  obtain ⟨va, vc, rfl⟩ := own_slice hown
  have HG := Lib.hid hg; have HNO := Lib.hid hno; have HCC := Lib.hid hcc; clear hg hno hcc
  by_cases hlt : k < s.size
  ·have hlti : (k : Int) < s.size := by omega
   have hsk : s.data.toList[k]? = some (s[k]'hlt) := by
    rw [List.getElem?_eq_getElem (by rw [size_list]; exact hlt)]
    congr 1
   by_cases hbc : s[k]'hlt = c
   ·have hbt : (s[k]'hlt).toNat = c.toNat := by rw [hbc]
    have HBC := Lib.hid hbc; have HSK := Lib.hid hsk; clear hbc hsk
    have hbki : (bg : Int) ≤ k := by omega
    have h0b : (0 : Int) ≤ bg := by omega
    have hkle : (k : Int) ≤ s.size := by omega
    obtain ⟨ys, hys⟩ : ∃ ys, ys = ps.map Value.string := ⟨_, rfl⟩
    rw [← hys] at hown
    have HYS := Lib.hid hys; clear hys
    go_wp2_with (first
      | (at_builtin; refine wpList_append_any _ rfl _ _ 173 rfl w.heap.size 9 i9 (.string ByteArray.empty) 1 16 Tryz.underlying173 hi hz0 hz1' hz2' rfl (by decide) (.slice va ps.length vc) ps.length ys rfl (hown.alloc _) (wr.heap.size + 1) (some ⟨wr.heap.size, 0, none⟩) 1 1 [.string (s.extract bg k)] rfl (Rd.blkN (Blk.new wr 9 #[.string (s.extract bg k)]) rfl (Nat.lt_succ_self _)).reads (by simp [Value.oneCell']) (by unfold maxLen; omega) (by omega) (by have := hB.size; simp only [World.size_alloc]; omega) (fun v' w' hown' hgrow hob => ?_)))
    have hB2 := (hB.alloc hB.size (.cells #[.string (s.extract bg k)] 9)).grown hgrow (by have := hB.size; simp only [World.size_alloc]; omega) (fun g hg => ((hown.alloc (.cells #[.string (s.extract bg k)] 9)).lt g hg).1)
    go_roundg (s.size - (k + 1))
    case measure => rw [HG.out]; omega
    case rel =>
     refine ⟨k + 1, k + 1, v', ps ++ [s.extract bg k], rfl, Nat.le_refl _, by omega, rfl, by go_num, by go_num, by simp; omega, ?_, ?_, fun q h1 h2 => absurd h2 (by omega), hB2⟩
     ·rw [List.map_append, ← HYS.out, List.length_append]; exact hown'
     ·have h1 := cut_here c s.data.toList bg k hbk (by rw [HSK.out, HBC.out]) HNO.out
      rw [← HCC.out, h1, List.map_append, List.append_assoc]
      simp only [List.map_cons, List.map_nil, List.cons_append, List.nil_append, extract_list]
   ·have hbt : ¬ ((s[k]'hlt).toNat : Int) = c.toNat := fun e => hbc (UInt8.toNat_inj.1 (by omega))
    have hbq : (((s[k]'hlt).toNat : Int) == c.toNat) = false := by rw [beq_eq_false_iff_ne]; exact hbt
    have HSK := Lib.hid hsk; have HBC := Lib.hid hbc; clear hsk hbc
    go_wp2_with fail
    go_roundg (s.size - (k + 1))
    case measure => rw [HG.out]; omega
    case rel =>
     refine ⟨k + 1, bg, _, ps, rfl, by omega, by omega, rfl, rfl, by go_num, by omega, hown, HCC.out, fun q h1 h2 => ?_, hB⟩
     by_cases hq : q < k
     ·exact HNO.out q h1 hq
     ·obtain rfl : q = k := by omega
      rw [HSK.out]
      exact fun e => HBC.out (Option.some.inj e)
  ·obtain rfl : k = s.size := by omega
   have hbki : (bg : Int) ≤ s.size := by omega
   have h0b : (0 : Int) ≤ bg := by omega
   obtain ⟨ys, hys⟩ : ∃ ys, ys = ps.map Value.string := ⟨_, rfl⟩
   rw [← hys] at hown
   have HYS := Lib.hid hys; clear hys
   go_wp2_with (first
     | (at_builtin; refine wpList_append_any _ rfl _ _ 173 rfl w.heap.size 9 i9 (.string ByteArray.empty) 1 16 Tryz.underlying173 hi hz0 hz1' hz2' rfl (by decide) (.slice va ps.length vc) ps.length ys rfl (hown.alloc _) (wr.heap.size + 1) (some ⟨wr.heap.size, 0, none⟩) 1 1 [.string (s.extract bg s.size)] rfl (Rd.blkN (Blk.new wr 9 #[.string (s.extract bg s.size)]) rfl (Nat.lt_succ_self _)).reads (by simp [Value.oneCell']) (by unfold maxLen; omega) (by omega) (by have := hB.size; simp only [World.size_alloc]; omega) (fun v' w' hown' hgrow hob => ?_)))
   have hB2 := (hB.alloc hB.size (.cells #[.string (s.extract bg s.size)] 9)).grown hgrow (by have := hB.size; simp only [World.size_alloc]; omega) (fun g hg => ((hown.alloc (.cells #[.string (s.extract bg s.size)] 9)).lt g hg).1)
   have key : cutB c s = ps ++ [s.extract bg s.size] := by
    apply map_data_inj
    have h1 := cut_last c s.data.toList bg (fun q h1 h2 => HNO.out q h1 (by rw [size_list] at h2; exact h2))
    rw [HC.out, ← HCC.out, h1, List.map_append]
    simp only [List.map_cons, List.map_nil, extract_list]
    rw [List.take_of_length_le]
    rw [List.length_drop, size_list]
    exact Nat.le_refl _
   go_ret
   refine ⟨_, rfl, ?_, hB2⟩
   rw [key, List.map_append, ← HYS.out, List.length_append]
   exact hown'
end
section
open Go.RowKit Go.Lib
theorem decimal_neg1 (n : Int) (w : World) (h0 : -10 < n) (h1 : n < 0) :
  Calls Tryz.prog 167 #[.int .i64 n] w fun e w' => e = .returned (.string (⟨#[45]⟩ ++ strOfNums [48 - n])) ∧ Below w.heap.size w w' := by
 have kc := run_convert_bytes_arg (P := Tryz.prog) (w.alloc (.cells #[.int .u8 (48 - n)] 5)) 111 5 Tryz.underlying111 Tryz.underlying5 w.heap.size 0 1 1 [48 - n] rfl (fun i hi => by
   obtain rfl : i = 0 := by omega
   simp) 9 Tryz.underlying9
 have hw3 : IntKind.i64.wrap (48 - n) = 48 - n := IntWalk.i64_in _ (by omega)
 have hw4 : IntKind.u8.wrap (48 - n) = 48 - n := by simp only [IntKind.wrap, IntKind.signed, IntKind.bits]; simp; omega
 have hsz1 : (strOfNums [48 - n]).size = 1 := rfl
 go_enter Tryz.func167, Tryz.ntmps167
 go_wp2
 go_ret
 exact ⟨rfl, (Below.refl _ w).alloc (Nat.le_refl _) _⟩
theorem decimal_neg2 (n : Int) (w : World) (h0 : -100 < n) (h1 : n ≤ -10) :
  Calls Tryz.prog 167 #[.int .i64 n] w fun e w' => (∃ t, e = .returned (.string t)) ∧ Below w.heap.size w w' := by
 obtain ⟨q1, ed⟩ : ∃ q1, n.tdiv 10 = q1 := ⟨_, rfl⟩
 obtain ⟨r1, em⟩ : ∃ r1, n.tmod 10 = r1 := ⟨_, rfl⟩
 have hq : -10 < q1 ∧ q1 < 0 := by
  obtain ⟨m, rfl⟩ : ∃ m : Nat, n = -(m : Int) := ⟨n.natAbs, by omega⟩
  rw [Int.neg_tdiv, show (m : Int).tdiv 10 = ((m / 10 : Nat) : Int) from rfl] at ed
  omega
 have hr : -10 < r1 ∧ r1 ≤ 0 := by
  obtain ⟨m, rfl⟩ : ∃ m : Nat, n = -(m : Int) := ⟨n.natAbs, by omega⟩
  rw [Int.neg_tmod, show (m : Int).tmod 10 = ((m % 10 : Nat) : Int) from rfl] at em
  omega
 have hD := fun wx => decimal_neg1 q1 wx hq.1 hq.2
 have a1 : n < 0 := by omega
 have a2 : ¬ (-10 : Int) < n := by omega
 obtain ⟨b1, b1'⟩ := hq
 obtain ⟨b2, b2'⟩ := hr
 have hw1 := i64_ok q1 (by omega)
 have hw2 := i64_ok r1 (by omega)
 have hw3 := i64_ok (48 - r1) (by omega)
 have hw4 : IntKind.u8.wrap (48 - r1) = 48 - r1 := by simp only [IntKind.wrap, IntKind.signed, IntKind.bits]; simp; omega
 have hsz1 : (strOfNums [48 - q1]).size = 1 := rfl
 have hsz2 : (strOfNums [48 - r1]).size = 1 := rfl
 have hsz3 : ((⟨#[45]⟩ : ByteArray) ++ strOfNums [48 - q1]).size = 2 := rfl
 have HD := Lib.hid hD; clear hD
 go_enter Tryz.func167, Tryz.ntmps167
 go_upto_region 4 with fail
 refine wp_region_G (fun w' => Below w.drew.heap.size w.drew w') 10 (by kernel_rfl) ?_
 have hB0 : Below w.heap.size w w.drew := Below.drew (Below.refl w.heap.size w)
 generalize w.drew = WD at *
 have hTT : Below WD.heap.size WD WD := Below.refl _ _
 refine tk 0 (v := ?_) rfl (Or.inl ⟨by rfl, ?h⟩) hTT ?_
 case h => intro wq hSw; go_simp <;> with_reducible rfl
 simp only [LS, Act.put]
 refine tk 1 (v := ?_) rfl (Or.inl ⟨by rfl, ?h⟩) hTT ?_
 case h => intro wq hSw; go_simp <;> with_reducible rfl
 simp only [LS, Act.put]
 refine tk 3 (v := ?_) rfl (Or.inl ⟨by rfl, ?h⟩) hTT ?_
 case h => intro wq hSw; go_simp <;> with_reducible rfl
 simp only [LS, Act.put]
 refine tk 4 (v := ?_) rfl (Or.inl ⟨by rfl, ?h⟩) hTT ?_
 case h => intro wq hSw; go_simp <;> with_reducible rfl
 simp only [LS, Act.put]
 refine tk 5 (v := ?_) rfl (Or.inl ⟨by rfl, ?h⟩) hTT ?_
 case h => intro wq hSw; go_simp <;> with_reducible rfl
 simp only [LS, Act.put]
 refine tk 6 (v := ?_) rfl (Or.inl ⟨by rfl, ?h⟩) hTT ?_
 case h => intro wq hSw; go_simp <;> with_reducible rfl
 simp only [LS, Act.put]
 refine wpG_two (i := 2) (j := 7) rfl rfl (by kernel_rfl) (fun K hK => ?_) (fun K hK => ?_)
 ·go_simp
  refine (HD.out _).mono ?_; rintro e w1 ⟨rfl, hb⟩
  replace hTT := hTT.trans (hb.mono hTT.size); (try replace hBk := hBk.below hb hBk.lt); clear hb; dsimp only
  refine hK _ _ (.inr hTT) ?_
  clear hK K
  try simp only [LS, Act.put]
  refine o1 7 rfl fun K hK => ?_
  go_simp
  rename World => WB
  have hBk := Blk.new WB 5 #[.int .u8 (48 - r1)]
  obtain ⟨g, hg⟩ : ∃ g, g = WB.heap.size := ⟨_, rfl⟩
  rw [← hg] at hBk ⊢
  replace hTT := hTT.alloc hTT.size (.cells #[.int .u8 (48 - r1)] 5)
  refine hK _ _ (.inr hTT) ?_
  clear hK K hg
  generalize WB.alloc (.cells #[.int .u8 (48 - r1)] 5) = WC at *
  try simp only [LS, Act.put]
  refine o1 8 rfl fun K hK => ?_
  have kc := run_convert_bytes_arg (P := Tryz.prog) _ 111 5 Tryz.underlying111 Tryz.underlying5 g 0 1 1 [48 - r1] rfl (fun i hi => by obtain rfl : i = 0 := (by omega); rw [hBk.cell]; rfl) 9 Tryz.underlying9
  go_simp
  refine hK _ _ (.inr hTT) ?_
  clear hK K kc
  try simp only [LS, Act.put]
  refine tk 9 (v := ?_) rfl (Or.inl ⟨by rfl, ?h⟩) hTT ?_
  case h => intro wq hSw; go_simp <;> with_reducible rfl
  simp only [LS, Act.put]
  refine o1 10 rfl fun K hK => ?_
  go_simp
  refine hK _ _ (.inl rfl) ?_
  clear hK K
  try simp only [LS, Act.put]
  refine wpG_done (by kernel_rfl) ?_ _
  go_wp2_with fail
  go_ret
  exact ⟨⟨_, rfl⟩, hB0.trans (hTT.mono hB0.size)⟩
 ·go_simp
  rename World => WB
  have hBk := Blk.new WB 5 #[.int .u8 (48 - r1)]
  obtain ⟨g, hg⟩ : ∃ g, g = WB.heap.size := ⟨_, rfl⟩
  rw [← hg] at hBk ⊢
  replace hTT := hTT.alloc hTT.size (.cells #[.int .u8 (48 - r1)] 5)
  refine hK _ _ (.inr hTT) ?_
  clear hK K hg
  generalize WB.alloc (.cells #[.int .u8 (48 - r1)] 5) = WC at *
  try simp only [LS, Act.put]
  refine wpG_two (i := 2) (j := 8) rfl rfl (by kernel_rfl) (fun K hK => ?_) (fun K hK => ?_)
  ·go_simp
   refine (HD.out _).mono ?_; rintro e w1 ⟨rfl, hb⟩
   replace hTT := hTT.trans (hb.mono hTT.size); (try replace hBk := hBk.below hb hBk.lt); clear hb; dsimp only
   refine hK _ _ (.inr hTT) ?_
   clear hK K
   try simp only [LS, Act.put]
   refine o1 8 rfl fun K hK => ?_
   have kc := run_convert_bytes_arg (P := Tryz.prog) _ 111 5 Tryz.underlying111 Tryz.underlying5 g 0 1 1 [48 - r1] rfl (fun i hi => by obtain rfl : i = 0 := (by omega); rw [hBk.cell]; rfl) 9 Tryz.underlying9
   go_simp
   refine hK _ _ (.inr hTT) ?_
   clear hK K kc
   try simp only [LS, Act.put]
   refine tk 9 (v := ?_) rfl (Or.inl ⟨by rfl, ?h⟩) hTT ?_
   case h => intro wq hSw; go_simp <;> with_reducible rfl
   simp only [LS, Act.put]
   refine o1 10 rfl fun K hK => ?_
   go_simp
   refine hK _ _ (.inl rfl) ?_
   clear hK K
   try simp only [LS, Act.put]
   refine wpG_done (by kernel_rfl) ?_ _
   go_wp2_with fail
   go_ret
   exact ⟨⟨_, rfl⟩, hB0.trans (hTT.mono hB0.size)⟩
  ·have kc := run_convert_bytes_arg (P := Tryz.prog) _ 111 5 Tryz.underlying111 Tryz.underlying5 g 0 1 1 [48 - r1] rfl (fun i hi => by obtain rfl : i = 0 := (by omega); rw [hBk.cell]; rfl) 9 Tryz.underlying9
   go_simp
   refine hK _ _ (.inr hTT) ?_
   clear hK K kc
   try simp only [LS, Act.put]
   refine o1 2 rfl fun K hK => ?_
   go_simp
   refine (HD.out _).mono ?_; rintro e w1 ⟨rfl, hb⟩
   replace hTT := hTT.trans (hb.mono hTT.size); (try replace hBk := hBk.below hb hBk.lt); clear hb; dsimp only
   refine hK _ _ (.inr hTT) ?_
   clear hK K
   try simp only [LS, Act.put]
   refine tk 9 (v := ?_) rfl (Or.inl ⟨by rfl, ?h⟩) hTT ?_
   case h => intro wq hSw; go_simp <;> with_reducible rfl
   simp only [LS, Act.put]
   refine o1 10 rfl fun K hK => ?_
   go_simp
   refine hK _ _ (.inl rfl) ?_
   clear hK K
   try simp only [LS, Act.put]
   refine wpG_done (by kernel_rfl) ?_ _
   go_wp2_with fail
   go_ret
   exact ⟨⟨_, rfl⟩, hB0.trans (hTT.mono hB0.size)⟩
theorem decimal_neg (n : Int) (w : World) (h0 : -100 < n) (h1 : n < 0) : Calls Tryz.prog 167 #[.int .i64 n] w fun e w' => (∃ t, e = .returned (.string t)) ∧ Below w.heap.size w w' := by
 by_cases h : -10 < n
 ·exact (decimal_neg1 n w h h1).mono fun e w' ⟨h1, h2⟩ => ⟨⟨_, h1⟩, h2⟩
 ·exact decimal_neg2 n w h0 (by omega)
end
section
open Go.RowKit Go.Lib
def NumA (s : ByteArray) (e : Ending) : Prop := (∃ a : Nat, a < 100 ∧ s = dS a ∧ e = .returned (.tuple #[.int .i64 a, .bool true])) ∨ ((∀ a, a < 100 → s ≠ dS a) ∧ ∃ (z : Int) (b : Bool), e = .returned (.tuple #[.int .i64 z, .bool b]) ∧ (b = true → z < 0))
theorem refNum_any (s : ByteArray) (w : World) (hs : s.size ≤ 1000) : Calls Tryz.prog 168 #[.string s, .int .i64 2] w fun e w' => NumA s e ∧ Below w.heap.size w w' := by
 have hBW := Below.refl w.heap.size w
 go_enter Tryz.func168, Tryz.ntmps168
 by_cases h0 : 0 < s.size
 ·have h0i : (0 : Int) < s.size := by omega
  have hs0 : s.data.toList[0]? = some (s[0]'h0) := by
   rw [List.getElem?_eq_getElem (by rw [size_list]; exact h0)]
   congr 1
  by_cases hm : (s[0]'h0).toNat = 45
  ·have hbq : (((s[0]'h0).toNat : Int) == 45) = true := by rw [hm]; rfl
   have hnon : ∀ a, a < 100 → s ≠ dS a := fun a ha e => by
    obtain ⟨b, hbb⟩ : ∃ b, b = s[0]'h0 := ⟨_, rfl⟩
    rw [← hbb] at hs0 hm
    rw [e] at hs0
    have := dS_digit a ha 0 b hs0
    omega
   have HNON := Lib.hid hnon; clear hnon hs0
   have h1s : (1 : Int) ≤ s.size := by omega
   go_upto_region 3 with fail
   rename World => WR
   refine wp_region_G (fun w' => True) 3 (by kernel_rfl) ?_
   replace hBW := hBW.drew
   generalize WR.drew = WD at *
   have hTT : True := trivial
   refine tk 0 (v := ?_) rfl (Or.inl ⟨by rfl, ?h⟩) hTT ?_
   case h => intro wq hSw; go_simp <;> with_reducible rfl
   simp only [LS, Act.put]
   refine tk 1 (v := ?_) rfl (Or.inl ⟨by rfl, ?h⟩) hTT ?_
   case h => intro wq hSw; go_simp <;> with_reducible rfl
   simp only [LS, Act.put]
   refine tk 2 (v := ?_) rfl (Or.inl ⟨by rfl, ?h⟩) hTT ?_
   case h => intro wq hSw; go_simp <;> with_reducible rfl
   simp only [LS, Act.put]
   refine o1 3 rfl fun K hK => ?_
   go_simp
   refine hK _ _ (.inl rfl) ?_
   clear hK K
   try simp only [LS, Act.put]
   refine wpG_done (by kernel_rfl) ?_ _
   clear hTT
   obtain ⟨s1, hs1⟩ : ∃ s1, s1 = s.extract 1 s.size := ⟨_, rfl⟩
   rw [← hs1]
   have hs1l : s1.size ≤ 1000 := by rw [hs1, ByteArray.size_extract]; omega
   clear hs1 hm hbq
   by_cases hz0 : s1.size = 0
   ·have h1 : (s1.size : Int) < 1 := by omega
    skip
    go_wp2_with fail
    exact bodyPost_ret (v := .tuple #[.int .i64 0, .bool false]) (by simp [results, Tryz.results168, go_sem]) rfl ⟨.inr ⟨HNON.out, _, _, rfl, fun h => by cases h⟩, hBW⟩
   by_cases hz2 : 2 < s1.size
   ·have h1 : ¬ (s1.size : Int) < 1 := by omega
    have h2 : (2 : Int) < s1.size := by omega
    skip
    go_wp2_with fail
    exact bodyPost_ret (v := .tuple #[.int .i64 0, .bool false]) (by simp [results, Tryz.results168, go_sem]) rfl ⟨.inr ⟨HNON.out, _, _, rfl, fun h => by cases h⟩, hBW⟩
   have h1 : ¬ (s1.size : Int) < 1 := by omega
   have h2 : ¬ (2 : Int) < s1.size := by omega
   go_wp2_with fail
   rename World => WB
   go_loopg [8, 9] s1.size (fun g v i wr => ∃ k a : Nat, g = s1.size - k ∧ k ≤ s1.size ∧ i = .int .i64 k ∧ v = .int .i64 a ∧ (k ≤ 1 → a < 10) ∧ a < 100 ∧ NumIs s1.data.toList k a ∧ wr = WB)
   case atStart => exact ⟨0, 0, rfl, Nat.zero_le _, rfl, rfl, fun _ => by omega, by omega, ⟨fun q _ h => absurd h (Nat.not_lt_zero _), fun h => absurd h (by omega), fun h => absurd h (by omega), fun _ => rfl⟩, rfl⟩
   case round =>
    obtain ⟨k, a, hg, hk, rfl, rfl, ha1, ha2, hdg, rfl⟩ := hrel
    have HG := Lib.hid hg; have HDG := Lib.hid hdg; clear hg hdg
    by_cases hlt : k < s1.size
    ·have hlti : (k : Int) < s1.size := by omega
     have hsk : s1.data.toList[k]? = some (s1[k]'hlt) := by
      rw [List.getElem?_eq_getElem (by rw [size_list]; exact hlt)]
      congr 1
     have HSK := Lib.hid hsk; clear hsk
     skip
     by_cases hb1 : (s1[k]'hlt).toNat < 48
     ·have hb1' : ((s1[k]'hlt).toNat : Int) < 48 := by omega
      skip
      clear hb1
      skip
      go_wp2_with fail
      exact bodyPost_ret (v := .tuple #[.int .i64 0, .bool false]) (by simp [results, Tryz.results168, go_sem]) rfl ⟨.inr ⟨HNON.out, _, _, rfl, fun h => by cases h⟩, hBW⟩
     ·by_cases hb2 : 57 < (s1[k]'hlt).toNat
      ·have hb1' : ¬ ((s1[k]'hlt).toNat : Int) < 48 := by omega
       have hb2' : (57 : Int) < (s1[k]'hlt).toNat := by omega
       skip
       clear hb1 hb2
       skip
       go_wp2_with fail
       exact bodyPost_ret (v := .tuple #[.int .i64 0, .bool false]) (by simp [results, Tryz.results168, go_sem]) rfl ⟨.inr ⟨HNON.out, _, _, rfl, fun h => by cases h⟩, hBW⟩
      ·obtain ⟨d, hb⟩ : ∃ d, (s1[k]'hlt).toNat = 48 + d := ⟨(s1[k]'hlt).toNat - 48, by omega⟩
       have hd9 : d ≤ 9 := by omega
       have hc1 : ¬ (48 : Int) + (d : Int) < 48 := by omega
       have hc2 : ¬ (57 : Int) < (48 : Int) + (d : Int) := by omega
       have hw8 : IntKind.u8.wrap (d : Int) = d := by simp only [IntKind.wrap, IntKind.signed, IntKind.bits]; simp; omega
       have hw64 := i64_ok (d : Int) (by omega)
       have hs0 : (48 : Int) + (d : Int) - 48 = d := by omega
       have ha10 : a < 10 := ha1 (by omega)
       have hw5 := i64_ok (10 * (a : Int)) (by omega)
       have hw6 := i64_ok (10 * (a : Int) + (d : Int)) (by omega)
       have hsucc := HDG.out.succ (by omega) HSK.out hb hd9
       have HSU := Lib.hid hsucc; clear hsucc HSK
       clear hb1 hb2
       go_wp2_with fail
       go_roundg (s1.size - (k + 1))
       case measure => rw [HG.out]; omega
       case rel => exact ⟨k + 1, 10 * a + d, rfl, by omega, by go_num, by go_num, fun hk1 => by have := HDG.out.2.2.2 (by omega); omega, by omega, HSU.out, rfl⟩
    ·obtain rfl : k = s1.size := by omega
     have hge : ¬ (s1.size : Int) < s1.size := by omega
     have hw7 := i64_ok (-(a : Int)) (by omega)
     have hw9 := i64_ok (-1 * (a : Int)) (by omega)
     have hdec : ∀ wx : World, Calls Tryz.prog 167 #[.int .i64 (-(a : Int))] wx fun e w' => (∃ t, e = .returned (.string t) ∧ ((t.toList == s.toList) = true → -(a : Int) < 0)) ∧ Below wx.heap.size wx w' := fun wx => by
      by_cases ha0 : a = 0
      ·subst ha0
       refine (decimal_any 0 wx (by omega)).mono ?_
       rintro e w' ⟨rfl, hb⟩
       refine ⟨⟨_, rfl, fun h => ?_⟩, hb⟩
       have e0 : dS 0 = s := by
        have h2 := eq_of_beq h
        rw [ByteArray.toList_eq, ByteArray.toList_eq] at h2
        exact ByteArray.ext (Array.toList_inj.1 h2)
       exact absurd e0.symm (HNON.out 0 (by omega))
      ·refine (decimal_neg (-(a : Int)) wx (by omega) (by omega)).mono ?_
       rintro e w' ⟨⟨t, rfl⟩, hb⟩
       exact ⟨⟨t, rfl, fun _ => by omega⟩, hb⟩
     have HDEC := Lib.hid hdec; clear hdec
     go_wp2_with (go_at_call 167; refine (HDEC.out _).mono ?_; rintro e w1 ⟨⟨t, rfl, htt⟩, hb⟩)
     have HTT := Lib.hid htt; clear htt
     exact bodyPost_ret (v := .tuple #[.int .i64 (-(a : Int)), .bool (t.toList == s.toList)]) (by simp [results, Tryz.results168, go_sem]) rfl ⟨.inr ⟨HNON.out, _, _, rfl, HTT.out⟩, hBW.trans (hb.mono hBW.size)⟩
  ·have hbq : (((s[0]'h0).toNat : Int) == 45) = false := beq_false_of_ne (by omega)
   have hmi : ¬ ((s[0]'h0).toNat : Int) = 45 := by omega
   clear hs0
   by_cases hz0 : s.size = 0
   ·have h1 : (s.size : Int) < 1 := by omega
    have hn : ∀ a, a < 100 → s ≠ dS a := fun a ha e => by have := dS_len a ha; rw [← e] at this; omega
    have HN := Lib.hid hn; clear hn
    go_wp2_with fail
    exact bodyPost_ret (v := .tuple #[.int .i64 0, .bool false]) (by simp [results, Tryz.results168, go_sem]) rfl ⟨.inr ⟨HN.out, _, _, rfl, fun h => by cases h⟩, hBW⟩
   by_cases hz2 : 2 < s.size
   ·have h1 : ¬ (s.size : Int) < 1 := by omega
    have h2 : (2 : Int) < s.size := by omega
    have hn : ∀ a, a < 100 → s ≠ dS a := fun a ha e => by have := dS_len a ha; rw [← e] at this; omega
    have HN := Lib.hid hn; clear hn
    go_wp2_with fail
    exact bodyPost_ret (v := .tuple #[.int .i64 0, .bool false]) (by simp [results, Tryz.results168, go_sem]) rfl ⟨.inr ⟨HN.out, _, _, rfl, fun h => by cases h⟩, hBW⟩
   have h1 : ¬ (s.size : Int) < 1 := by omega
   have h2 : ¬ (2 : Int) < s.size := by omega
   go_wp2_with fail
   rename World => WB
   go_loopg [8, 9] s.size (fun g v i wr => ∃ k a : Nat, g = s.size - k ∧ k ≤ s.size ∧ i = .int .i64 k ∧ v = .int .i64 a ∧ (k ≤ 1 → a < 10) ∧ a < 100 ∧ NumIs s.data.toList k a ∧ wr = WB)
   case atStart => exact ⟨0, 0, rfl, Nat.zero_le _, rfl, rfl, fun _ => by omega, by omega, ⟨fun q _ h => absurd h (Nat.not_lt_zero _), fun h => absurd h (by omega), fun h => absurd h (by omega), fun _ => rfl⟩, rfl⟩
   case round =>
    obtain ⟨k, a, hg, hk, rfl, rfl, ha1, ha2, hdg, rfl⟩ := hrel
    have HG := Lib.hid hg; have HDG := Lib.hid hdg; clear hg hdg
    by_cases hlt : k < s.size
    ·have hlti : (k : Int) < s.size := by omega
     have hsk : s.data.toList[k]? = some (s[k]'hlt) := by
      rw [List.getElem?_eq_getElem (by rw [size_list]; exact hlt)]
      congr 1
     have HSK := Lib.hid hsk; clear hsk
     have hno : ¬ (48 ≤ (s[k]'hlt).toNat ∧ (s[k]'hlt).toNat ≤ 57) → ∀ a, a < 100 → s ≠ dS a := fun hn a ha e => by
      have hd := HSK.out
      obtain ⟨b, hbb⟩ : ∃ b, b = s[k]'hlt := ⟨_, rfl⟩
      rw [← hbb] at hd hn
      rw [e] at hd
      exact hn (dS_digit a ha k b hd)
     have HNO := Lib.hid hno; clear hno
     by_cases hb1 : (s[k]'hlt).toNat < 48
     ·have hb1' : ((s[k]'hlt).toNat : Int) < 48 := by omega
      have hn := HNO.out (by omega)
      clear hb1
      have HN := Lib.hid hn; clear hn HNO
      go_wp2_with fail
      exact bodyPost_ret (v := .tuple #[.int .i64 0, .bool false]) (by simp [results, Tryz.results168, go_sem]) rfl ⟨.inr ⟨HN.out, _, _, rfl, fun h => by cases h⟩, hBW⟩
     ·by_cases hb2 : 57 < (s[k]'hlt).toNat
      ·have hb1' : ¬ ((s[k]'hlt).toNat : Int) < 48 := by omega
       have hb2' : (57 : Int) < (s[k]'hlt).toNat := by omega
       have hn := HNO.out (by omega)
       clear hb1 hb2
       have HN := Lib.hid hn; clear hn HNO
       go_wp2_with fail
       exact bodyPost_ret (v := .tuple #[.int .i64 0, .bool false]) (by simp [results, Tryz.results168, go_sem]) rfl ⟨.inr ⟨HN.out, _, _, rfl, fun h => by cases h⟩, hBW⟩
      ·obtain ⟨d, hb⟩ : ∃ d, (s[k]'hlt).toNat = 48 + d := ⟨(s[k]'hlt).toNat - 48, by omega⟩
       have hd9 : d ≤ 9 := by omega
       have hc1 : ¬ (48 : Int) + (d : Int) < 48 := by omega
       have hc2 : ¬ (57 : Int) < (48 : Int) + (d : Int) := by omega
       have hw8 : IntKind.u8.wrap (d : Int) = d := by simp only [IntKind.wrap, IntKind.signed, IntKind.bits]; simp; omega
       have hw64 := i64_ok (d : Int) (by omega)
       have hs0 : (48 : Int) + (d : Int) - 48 = d := by omega
       have ha10 : a < 10 := ha1 (by omega)
       have hw5 := i64_ok (10 * (a : Int)) (by omega)
       have hw6 := i64_ok (10 * (a : Int) + (d : Int)) (by omega)
       have hsucc := HDG.out.succ (by omega) HSK.out hb hd9
       have HSU := Lib.hid hsucc; clear hsucc HSK HNO
       clear hb1 hb2
       go_wp2_with fail
       go_roundg (s.size - (k + 1))
       case measure => rw [HG.out]; omega
       case rel => exact ⟨k + 1, 10 * a + d, rfl, by omega, by go_num, by go_num, fun hk1 => by have := HDG.out.2.2.2 (by omega); omega, by omega, HSU.out, rfl⟩
    ·obtain rfl : k = s.size := by omega
     have hw7 := i64_ok (a : Int) (by omega)
     have hge : ¬ (s.size : Int) < s.size := by omega
     obtain ⟨t, ht⟩ : ∃ t, t = dS a := ⟨_, rfl⟩
     have hdec := fun wx => decimal_any a wx ha2
     rw [← ht] at hdec
     by_cases hs : t = s
     ·have hbq : (t.toList == s.toList) = true := by rw [hs]; simp
      have HS := Lib.hid hs; have HT := Lib.hid ht; clear hs ht
      go_wp2_with (go_at_call 167; refine (hdec _).mono ?_; rintro e w1 ⟨rfl, hb⟩)
      exact bodyPost_ret (v := .tuple #[.int .i64 a, .bool true]) (by simp [results, Tryz.results168, go_sem, hbq]) rfl ⟨.inl ⟨a, ha2, by rw [← HS.out, HT.out], rfl⟩, hBW.trans (hb.mono hBW.size)⟩
     ·have hbq : (t.toList == s.toList) = false := by
       rw [beq_eq_false_iff_ne, ByteArray.toList_eq, ByteArray.toList_eq]
       exact fun e => hs (ByteArray.ext (Array.toList_inj.1 e))
      have hn : ∀ c, c < 100 → s ≠ dS c := fun c hc e => by
       have := HDG.out.eq hc e
       rw [← this, ← ht] at e
       exact hs e.symm
      have HN := Lib.hid hn; clear hs ht hn
      go_wp2_with (go_at_call 167; refine (hdec _).mono ?_; rintro e w1 ⟨rfl, hb⟩)
      exact bodyPost_ret (v := .tuple #[.int .i64 a, .bool false]) (by simp [results, Tryz.results168, go_sem, hbq]) rfl ⟨.inr ⟨HN.out, _, _, rfl, fun h => by cases h⟩, hBW.trans (hb.mono hBW.size)⟩
 ·have h0i : ¬ (0 : Int) < s.size := by omega
  have hse : s.size = 0 := by omega
  have h1 : (s.size : Int) < 1 := by omega
  have hn : ∀ a, a < 100 → s ≠ dS a := fun a ha e => by have := dS_len a ha; rw [← e] at this; omega
  have HN := Lib.hid hn; clear hn
  go_wp2_with fail
  exact bodyPost_ret (v := .tuple #[.int .i64 0, .bool false]) (by simp [results, Tryz.results168, go_sem]) rfl ⟨.inr ⟨HN.out, _, _, rfl, fun h => by cases h⟩, hBW⟩
end
section
open Go.RowKit Go.Lib
def WZ (s : ByteArray) (z : Int) : Prop := (∃ a : Nat, a < 100 ∧ s = dS a ∧ z = a) ∨ ((∀ a, a < 100 → s ≠ dS a) ∧ z < 0)
def WZs (ws : List ByteArray) (zs : List Int) : Prop := ∀ (i : Nat) (s : ByteArray) (z : Int), ws[i]? = some s → zs[i]? = some z → WZ s z
theorem WZs.snoc {ws : List ByteArray} {zs : List Int} {k : Nat} (h : WZs ws zs) (hl : zs.length = k) {s : ByteArray} (hs : ws[k]? = some s) {z : Int} (hz : WZ s z) : WZs ws (zs ++ [z]) := fun i s' z' h1 h2 => by
 by_cases hi : i < zs.length
 ·rw [List.getElem?_append_left hi] at h2; exact h i s' z' h1 h2
 ·rw [List.getElem?_append_right (by omega)] at h2
  have : i - zs.length = 0 := by
   by_cases e : i - zs.length = 0
   ·exact e
   ·rw [List.getElem?_eq_none (by simp; omega)] at h2; cases h2
  rw [this] at h2
  obtain rfl : z = z' := by simpa using h2
  obtain rfl : i = k := by omega
  rw [hs] at h1; cases h1; exact hz
def NumsA (B : Nat) (ws : List ByteArray) (e : Ending) (w' : World) : Prop :=
 (∃ (zs : List Int) (v : Value), zs.length = ws.length ∧ WZs ws zs ∧ e = .returned (.tuple #[v, .bool true]) ∧ w'.ownsRow B 3 1 v zs.length (zs.map (Value.int .i64))) ∨ ((∃ s ∈ ws, ∀ a, a < 100 → s ≠ dS a) ∧ e = .returned (.tuple #[.slice none 0 0, .bool false]))
theorem refNumbers_any (A : Option Addr) (n cap : Nat) (ws : List ByteArray) (w : World) (hn : n ≤ 1000) (hsz : ∀ s ∈ ws, s.size ≤ 1000) (hr : Rd w w.heap.size 1 A n (ws.map Value.string)) : Calls Tryz.prog 124 #[.slice A n cap, .int .i64 2] w fun e w' => NumsA w.heap.size ws e w' ∧ Below w.heap.size w w' := by
 obtain ⟨i3, hi, hz0, hz1', hz2'⟩ := info_parts info3
 have hlen : ws.length = n := by simpa using hr.len
 have HL := Lib.hid hlen; have HSZ := Lib.hid hsz; clear hlen hsz
 go_enter Tryz.func124, Tryz.ntmps124
 go_wp2_with fail
 go_loopg [6, 7] n (fun g v i wr => ∃ (k : Nat) (zs : List Int) (v0 : Value), g = n - k ∧ k ≤ n ∧ v = v0 ∧ i = .int .i64 k ∧ zs.length = k ∧ WZs ws zs ∧ wr.ownsRow w.heap.size 3 1 v0 k (zs.map (Value.int .i64)) ∧ Below w.heap.size w wr)
 case atStart => exact ⟨0, [], _, rfl, Nat.zero_le _, rfl, rfl, rfl, fun i s z _ h2 => (by simp at h2), World.ownsRow_nil _ _ _ _, Below.refl _ _⟩
 case round =>
  obtain ⟨k, zs, v0, hg, hk, rfl, rfl, hnl, hall, hown, hB⟩ := hrel
  obtain ⟨va, vc, rfl⟩ := own_slice hown
  have HG := Lib.hid hg; have HA := Lib.hid hall; have HNL := Lib.hid hnl; clear hg hall hnl
  by_cases hlt : k < n
  ·have hlti : (k : Int) < n := by omega
   obtain ⟨cb, coff, hz, rfl, hcb, hcc⟩ := (hr.below hB).atm hlt
   have hkl : k < ws.length := by have := HL.out; omega
   replace hcc : wr.cell? ⟨cb, coff + k, none⟩ = some (.string ws[k]) := by
    rw [hcc]
   have hmem : ws[k] ∈ ws := List.getElem_mem hkl
   have hget : ws[k]? = some ws[k] := List.getElem?_eq_getElem hkl
   have hsz := HSZ.out _ hmem
   generalize ws[k] = s at *
   have HM := Lib.hid hmem; have HGET := Lib.hid hget; clear hmem hget hz
   have hcall := fun wx => refNum_any s wx hsz
   have HC := Lib.hid hcall; clear hcall
   go_wp2_with fail
   refine (HC.out _).mono ?_; rintro e w3 ⟨hans, hb⟩
   replace hown := ownsRow_below' hown hb; replace hB := hB.trans (hb.mono hB.size); clear hb hcc HC
   have hBs := hB.size
   obtain ⟨z, b, rfl, hzb⟩ : ∃ (z : Int) (b : Bool), e = .returned (.tuple #[.int .i64 z, .bool b]) ∧ ((b = true → WZ s z) ∧ (b = false → ∀ a, a < 100 → s ≠ dS a)) := by
    rcases hans with ⟨a, ha, hs, rfl⟩ | ⟨hn, z, b, rfl, hb⟩
    ·exact ⟨_, _, rfl, fun _ => .inl ⟨a, ha, hs, rfl⟩, fun h => by cases h⟩
    ·exact ⟨_, _, rfl, fun h => .inr ⟨hn, hb h⟩, fun _ => hn⟩
   clear hans
   have HZB := Lib.hid hzb; clear hzb
   cases b
   ·go_wp2_with fail
    exact bodyPost_ret (v := .tuple #[.slice none 0 0, .bool false]) (by simp [results, Tryz.results124, go_sem]) rfl ⟨.inr ⟨⟨s, HM.out, HZB.out.2 (by first | trivial | rfl)⟩, rfl⟩, hB⟩
   ·obtain ⟨ys, hys⟩ : ∃ ys, ys = zs.map (Value.int .i64) := ⟨_, rfl⟩
    rw [← hys] at hown
    have HYS := Lib.hid hys; clear hys
    have ho9 := hown.alloc (.cells #[.int .i64 z] 3)
    go_wp2_with (at_builtin; refine wpList_append_any _ rfl _ _ 25 rfl w.heap.size 3 i3 (.int .i64 0) 1 8 Tryz.underlying25 hi hz0 hz1' hz2' rfl (by decide) (.slice va k vc) k ys rfl ho9 (w3.heap.size + 1) (some ⟨w3.heap.size, 0, none⟩) 1 1 [.int .i64 z] rfl (Rd.blkN (Blk.new w3 3 #[.int .i64 z]) rfl (Nat.lt_succ_self _)).reads (by simp [Value.oneCell']) (by unfold maxLen; omega) (by omega) (by simp only [World.size_alloc]; omega) (fun v' w' hown' hgrow hob => ?_))
    have hB2 := (hB.alloc hBs (.cells #[.int .i64 z] 3)).grown hgrow (by simp only [World.size_alloc]; omega) (fun g hg => (ho9.lt g hg).1)
    go_roundg (n - (k + 1))
    case measure => rw [HG.out]; omega
    case rel => exact ⟨k + 1, zs ++ [z], v', rfl, by omega, rfl, by go_num, by rw [List.length_append, HNL.out]; rfl, HA.out.snoc HNL.out HGET.out (HZB.out.1 (by first | trivial | rfl)), by rw [List.map_append, ← HYS.out]; exact hown', hB2⟩
  ·obtain rfl : k = n := by omega
   go_wp2_with fail
   refine bodyPost_ret (v := .tuple #[.slice va k vc, .bool true]) (by simp [results, Tryz.results124, go_sem]) rfl ⟨.inl ⟨zs, _, by rw [HNL.out, HL.out], HA.out, rfl, ?_⟩, hB⟩
   rw [HNL.out]; exact hown
theorem WZs.nums {ws : List ByteArray} {zs : List Int} (h : WZs ws zs) (hl : zs.length = ws.length) (h0 : ∀ z ∈ zs, 0 ≤ z) : (∀ z ∈ zs, z.toNat < 100 ∧ 0 ≤ z) ∧ ws = zs.map fun z => dS z.toNat := by
 have key : ∀ (i : Nat) (s : ByteArray) (z : Int), ws[i]? = some s → zs[i]? = some z → z.toNat < 100 ∧ s = dS z.toNat := fun i s z h1 h2 => by
  rcases h i s z h1 h2 with ⟨a, ha, rfl, rfl⟩ | ⟨_, hz⟩
  ·exact ⟨ha, rfl⟩
  ·have := h0 z (List.mem_of_getElem? h2); omega
 refine ⟨fun z hz => ?_, List.ext_getElem? fun i => ?_⟩
 ·obtain ⟨i, hi, rfl⟩ := List.mem_iff_getElem.1 hz
  exact ⟨(key i _ _ (List.getElem?_eq_getElem (by omega)) (List.getElem?_eq_getElem hi)).1, h0 _ hz⟩
 ·rw [List.getElem?_map]
  by_cases hi : i < ws.length
  ·have h1 := List.getElem?_eq_getElem hi
   have h2 := List.getElem?_eq_getElem (show i < zs.length by omega)
   rw [h1, h2, (key i _ _ h1 h2).2]; rfl
  ·rw [List.getElem?_eq_none (by omega), List.getElem?_eq_none (show zs.length ≤ i by omega)]; rfl
end
section
open Go.RowKit Go.Lib
def looseL (i : Nat) (b : BkT) (x : ByteArray) : Option BkT :=
 match cutB 32 x with
 | [] => none
 | w0 :: r => (numsO r).bind fun ns =>
  if i = 0 then (match ns with | [n] => some (n, b.2) | _ => none)
  else if w0 = wCopy then some (b.1, b.2 ++ [[]])
  else if b.2 = [] then some b
  else some (b.1, addL b.2 (decide (w0 = wLost), ns))
def looseF : Nat → BkT → List ByteArray → Option BkT
 | _, b, [] => some b
 | i, b, x :: r => (looseL i b x).bind fun b' => looseF (i + 1) b' r
def rowsO (s : ByteArray) : List ByteArray := (cutB 10 s).take ((cutB 10 s).length - 2)
def txtO (b : BkT) : ByteArray := bookTP b.1 (toI b.2)
def readO (s : ByteArray) : Option BkT := (looseF 0 (0, []) (rowsO s)).bind fun b => if txtO b = s then some b else none
theorem lit_ne : wCopy ≠ wBook ∧ wLine ≠ wBook ∧ wLost ≠ wBook ∧ wLine ≠ wCopy ∧ wLost ≠ wCopy ∧ wLost ≠ wLine := by decide
theorem loose_step {i : Nat} {b b' : BkT} {x : ByteArray} {t : TL} (h : lineO x = some t) (h2 : stepO i b t = some b') : looseL i b x = some b' := by
 obtain ⟨l1, l2, l3, l4, l5, l6⟩ := lit_ne
 unfold lineO at h
 unfold looseL
 cases hc : cutB 32 x with
 | nil => rw [hc] at h; cases h
 | cons w0 r =>
  rw [hc] at h
  simp only at h ⊢
  cases hn : numsO r with
  | none => rw [hn] at h; cases h
  | some ns =>
   rw [hn, Option.bind_some] at h
   rw [Option.bind_some]
   unfold tellO at h
   by_cases e1 : w0 = wBook
   ·rw [if_pos e1] at h
    match ns, h with
    | [n], h =>
     injection h with h; subst h
     simp only [stepO] at h2
     by_cases e : i = 0
     ·rw [if_pos e] at h2 ⊢; exact h2
     ·rw [if_neg e] at h2; cases h2
    | [], h => cases h
    | _ :: _ :: _, h => cases h
   ·rw [if_neg e1] at h
    by_cases e2 : w0 = wCopy
    ·rw [if_pos e2] at h
     by_cases e3 : ns = []
     ·rw [if_pos e3] at h; injection h with h; subst h
      simp only [stepO] at h2
      by_cases e : i = 0
      ·rw [if_pos e] at h2; cases h2
      ·rw [if_neg e] at h2 ⊢; rw [if_pos e2]; exact h2
     ·rw [if_neg e3] at h; cases h
    ·rw [if_neg e2] at h
     by_cases e3 : w0 = wLine
     ·rw [if_pos e3] at h; injection h with h; subst h
      simp only [stepO] at h2
      by_cases e : i = 0
      ·rw [if_pos e] at h2; cases h2
      ·rw [if_neg e] at h2 ⊢; rw [if_neg e2]
       by_cases e4 : b.2 = []
       ·rw [if_pos e4] at h2; cases h2
       ·rw [if_neg e4] at h2 ⊢
        rw [decide_eq_false (show ¬ w0 = wLost from fun e5 => l6 (e5.symm.trans e3))]; exact h2
     ·rw [if_neg e3] at h
      by_cases e5 : w0 = wLost
      ·rw [if_pos e5] at h
       by_cases e6 : ns = []
       ·rw [if_pos e6] at h; injection h with h; subst h; subst e6
        simp only [stepO] at h2
        by_cases e : i = 0
        ·rw [if_pos e] at h2; cases h2
        ·rw [if_neg e] at h2 ⊢; rw [if_neg e2]
         by_cases e4 : b.2 = []
         ·rw [if_pos e4] at h2; cases h2
         ·rw [if_neg e4] at h2 ⊢
          rw [decide_eq_true e5]; exact h2
       ·rw [if_neg e6] at h; cases h
      ·rw [if_neg e5] at h; cases h
theorem loose_fold : ∀ (M : List ByteArray) (i : Nat) (b b' : BkT), foldO i b M = some b' → looseF i b M = some b'
 | [], _, _, _, h => h
 | x :: r, i, b, b', h => by
  simp only [foldO] at h
  rw [looseF]
  cases hl : lineO x with
  | none => rw [hl] at h; cases h
  | some t =>
   rw [hl, Option.bind_some] at h
   cases hs : stepO i b t with
   | none => rw [hs] at h; cases h
   | some b1 =>
    rw [hs, Option.bind_some] at h
    rw [loose_step hl hs, Option.bind_some]
    exact loose_fold r _ _ _ h
theorem numsO_map : ∀ {r : List ByteArray} {ns : List Nat}, numsO r = some ns → r = ns.map dS
 | [], ns, h => by rw [numsO] at h; injection h with h; subst h; rfl
 | x :: r, ns, h => by
  rw [numsO] at h
  cases hx : numO x with
  | none => rw [hx] at h; cases h
  | some a =>
   rw [hx] at h
   simp only at h
   cases hr : numsO r with
   | none => rw [hr] at h; cases h
   | some ms =>
    rw [hr, Option.map_some] at h
    injection h with h; subst h
    rw [List.map_cons, ← numsO_map hr, ← (numO_some hx).2]
theorem cut_join (c : UInt8) (s : ByteArray) : jnS (cutB c s) ⟨#[c]⟩ = s := by
 apply ba_list
 rw [jnS_list, cutB_data]
 exact join_cut c s.data.toList
def rowT : TL → ByteArray
 | .book n => jnS [wBook, dS n] ⟨#[32]⟩
 | .copy => wCopy
 | .line ws => jnS (wLine :: ws.map dS) ⟨#[32]⟩
 | .lost => wLost
theorem jn_one (x sep : ByteArray) : jnS [x] sep = x := by
 apply ba_list; rw [jnS_list]; exact join_one _ _
theorem row_text {x : ByteArray} {t : TL} (h : lineO x = some t) : x = rowT t := by
 have hj := cut_join 32 x
 unfold lineO at h
 cases hc : cutB 32 x with
 | nil => rw [hc] at h; cases h
 | cons w0 r =>
  rw [hc] at h hj
  simp only at h
  cases hn : numsO r with
  | none => rw [hn] at h; cases h
  | some ns =>
   rw [hn, Option.bind_some] at h
   have hr := numsO_map hn
   rw [hr] at hj
   unfold tellO at h
   by_cases e1 : w0 = wBook
   ·rw [if_pos e1] at h
    match ns, h with
    | [n], h => injection h with h; subst h; rw [← hj, e1]; rfl
    | [], h => cases h
    | _ :: _ :: _, h => cases h
   ·rw [if_neg e1] at h
    by_cases e2 : w0 = wCopy
    ·rw [if_pos e2] at h
     by_cases e3 : ns = []
     ·rw [if_pos e3] at h; injection h with h; subst h; rw [e3, List.map_nil, jn_one] at hj; rw [← hj, e2]; rfl
     ·rw [if_neg e3] at h; cases h
    ·rw [if_neg e2] at h
     by_cases e3 : w0 = wLine
     ·rw [if_pos e3] at h; injection h with h; subst h; rw [← hj, e3]; rfl
     ·rw [if_neg e3] at h
      by_cases e5 : w0 = wLost
      ·rw [if_pos e5] at h
       by_cases e6 : ns = []
       ·rw [if_pos e6] at h; injection h with h; subst h; rw [e6, List.map_nil, jn_one] at hj; rw [← hj, e5]; rfl
       ·rw [if_neg e6] at h; cases h
      ·rw [if_neg e5] at h; cases h
def lnP (l : Bool × List Int) : ByteArray := if l.1 then wLost else jnS (wLine :: l.2.map DZ) ⟨#[32]⟩
def plP (p : PB) : List ByteArray := p.flatMap fun c => wCopy :: c.map lnP
theorem linesP_pl (wn : Nat) (p : PB) : linesP wn p = jnS [wBook, dS wn] ⟨#[32]⟩ :: plP p := rfl
theorem DZ_map (ws : List Nat) : (ws.map fun a : Nat => (a : Int)).map DZ = ws.map dS := by
 rw [List.map_map]; rfl
theorem fold_text : ∀ (M : List ByteArray) (i : Nat) (b b' : BkT), 1 ≤ i → foldO i b M = some b' → b'.1 = b.1 ∧ plP (toI b'.2) = plP (toI b.2) ++ M
 | [], _, b, b', _, h => by rw [foldO] at h; injection h with h; subst h; exact ⟨rfl, by rw [List.append_nil]⟩
 | x :: r, i, b, b', hi, h => by
  simp only [foldO] at h
  cases hl : lineO x with
  | none => rw [hl] at h; cases h
  | some t =>
   rw [hl, Option.bind_some] at h
   cases hs : stepO i b t with
   | none => rw [hs] at h; cases h
   | some b1 =>
    rw [hs, Option.bind_some] at h
    obtain ⟨g1, g2⟩ := fold_text r (i + 1) b1 b' (by omega) h
    have key : b1.1 = b.1 ∧ plP (toI b1.2) = plP (toI b.2) ++ [x] := by
     rw [row_text hl]
     have hadd : ∀ (l : Bool × List Nat), ¬ b.2 = [] → plP (toI (addL b.2 l)) = plP (toI b.2) ++ [lnP (l.1, l.2.map fun a : Nat => (a : Int))] := fun l hne => by
      obtain ⟨us, c, e⟩ : ∃ us c, b.2 = us ++ [c] := ⟨_, _, (List.dropLast_concat_getLast hne).symm⟩
      rw [e, addL_snoc]
      unfold toI plP
      simp
     cases t with
     | book n => simp only [stepO] at hs; rw [if_neg (by omega)] at hs; cases hs
     | copy =>
      simp only [stepO] at hs; rw [if_neg (by omega)] at hs; injection hs with hs; subst hs
      refine ⟨rfl, ?_⟩
      unfold toI plP rowT; simp
     | line ws =>
      simp only [stepO] at hs; rw [if_neg (by omega)] at hs
      by_cases e : b.2 = []
      ·rw [if_pos e] at hs; cases hs
      ·rw [if_neg e] at hs; injection hs with hs; subst hs
       refine ⟨rfl, ?_⟩
       dsimp only
       rw [hadd _ e]; unfold lnP rowT; dsimp only; rw [DZ_map]; rfl
     | lost =>
      simp only [stepO] at hs; rw [if_neg (by omega)] at hs
      by_cases e : b.2 = []
      ·rw [if_pos e] at hs; cases hs
      ·rw [if_neg e] at hs; injection hs with hs; subst hs
       refine ⟨rfl, ?_⟩
       dsimp only
       rw [hadd _ e]; rfl
    exact ⟨g1.trans key.1, by rw [g2, key.2, List.append_assoc]; rfl⟩
theorem fold_lines0 {M : List ByteArray} {b : BkT} (h : foldO 0 (0, []) M = some b) (hne : M ≠ []) : linesP b.1 (toI b.2) = M := by
 cases M with
 | nil => exact absurd rfl hne
 | cons x r =>
  simp only [foldO] at h
  cases hl : lineO x with
  | none => rw [hl] at h; cases h
  | some t =>
   rw [hl, Option.bind_some] at h
   cases hs : stepO 0 (0, []) t with
   | none => rw [hs] at h; cases h
   | some b1 =>
    rw [hs, Option.bind_some] at h
    obtain ⟨g1, g2⟩ := fold_text r 1 b1 b (Nat.le_refl _) h
    rw [linesP_pl, g2, g1, row_text hl]
    cases t with
    | book n => simp only [stepO] at hs; rw [if_pos trivial] at hs; injection hs with hs; subst hs; rfl
    | copy => simp only [stepO] at hs; cases hs
    | line ws => simp only [stepO] at hs; cases hs
    | lost => simp only [stepO] at hs; cases hs
theorem parse_text {s : ByteArray} {b : BkT} (h : parseO s = some b) : txtO b = s ∧ readO s = some b := by
 unfold parseO at h
 by_cases h1 : hasSuffix s.data.toList [10] = true
 ·rw [if_pos h1] at h
  by_cases h2 : 2 ≤ (cutB 10 (trimB s)).length
  ·rw [if_pos h2] at h
   cases hf : foldO 0 (0, []) (cutB 10 (trimB s)).dropLast with
   | none => rw [hf] at h; cases h
   | some b0 =>
    rw [hf, Option.bind_some] at h
    by_cases h3 : (cutB 10 (trimB s)).getLast? = some (endB (sB (cutB 10 (trimB s)).dropLast))
    ·rw [if_pos h3] at h
     injection h with h; subst h
     have htr : s = trimB s ++ ⟨#[10]⟩ := trim_end s h1
     generalize hT : trimB s = T at *
     have hne : cutB 10 T ≠ [] := fun e => by rw [e] at h2; cases h2
     obtain ⟨M, z, hL⟩ : ∃ M z, cutB 10 T = M ++ [z] := ⟨_, _, (List.dropLast_concat_getLast hne).symm⟩
     rw [hL, List.dropLast_concat] at hf h3
     rw [List.getLast?_append, List.getLast?_singleton] at h3
     have h3' : z = endB (sB M) := by simpa using h3
     rw [hL, List.length_append, List.length_singleton] at h2
     have hM : M ≠ [] := fun e => by rw [e] at h2; simp at h2
     have hlp := fold_lines0 hf hM
     have htx : txtO b0 = s := by
      unfold txtO bookTP txtB
      rw [hlp, ← h3', ← hL, cut_join, ← htr]
     refine ⟨htx, ?_⟩
     have hrows : rowsO s = M := by
      unfold rowsO
      rw [htr, cutB_end, hL]
      simp
     unfold readO
     rw [hrows, loose_fold _ _ _ _ hf, Option.bind_some, if_pos htx]
    ·rw [if_neg h3] at h; cases h
  ·rw [if_neg h2] at h; cases h
 ·rw [if_neg h1] at h; cases h
def clr (b : BkT) : BkT := (b.1, b.2.map fun c => c.map fun l => (l.1, if l.1 then [] else l.2))
theorem clr_txt (b : BkT) : txtO (clr b) = txtO b := by
 have e : plP (toI (clr b).2) = plP (toI b.2) := by
  unfold plP toI clr
  simp only [List.map_map, List.flatMap_map]
  congr 1
  funext c
  simp only [Function.comp_apply, List.map_map]
  congr 1
  refine List.map_congr_left fun l _ => ?_
  obtain ⟨lost, ws⟩ := l
  cases lost <;> rfl
 unfold txtO bookTP
 rw [linesP_pl, linesP_pl, e]; rfl
def okB_ (b : BkT) : Prop := b.1 < 100 ∧ ∀ c ∈ b.2, ∀ l ∈ c, ∀ a ∈ l.2, a < 100
theorem loose_ok : ∀ (M : List ByteArray) (i : Nat) (b b' : BkT), okB_ b → looseF i b M = some b' → okB_ b'
 | [], _, _, _, h, e => by rw [looseF] at e; injection e with e; subst e; exact h
 | x :: r, i, b, b', h, e => by
  rw [looseF] at e
  cases hl : looseL i b x with
  | none => rw [hl] at e; cases e
  | some b1 =>
   rw [hl, Option.bind_some] at e
   refine loose_ok r _ _ _ ?_ e
   unfold looseL at hl
   cases hc : cutB 32 x with
   | nil => rw [hc] at hl; cases hl
   | cons w0 rr =>
    rw [hc] at hl
    simp only at hl
    cases hn : numsO rr with
    | none => rw [hn] at hl; cases hl
    | some ns =>
     rw [hn, Option.bind_some] at hl
     have hns := (numsO_len _ _ hn).2
     by_cases e0 : i = 0
     ·rw [if_pos e0] at hl
      match ns, hl, hns with
      | [n], hl, hns => injection hl with hl; subst hl; exact ⟨hns n (by simp), h.2⟩
      | [], hl, _ => cases hl
      | _ :: _ :: _, hl, _ => cases hl
     ·rw [if_neg e0] at hl
      by_cases e1 : w0 = wCopy
      ·rw [if_pos e1] at hl; injection hl with hl; subst hl
       refine ⟨h.1, fun c hc l hl a ha => ?_⟩
       rcases List.mem_append.1 hc with hc | hc
       ·exact h.2 c hc l hl a ha
       ·rw [List.mem_singleton.1 hc] at hl; cases hl
      ·rw [if_neg e1] at hl
       by_cases e2 : b.2 = []
       ·rw [if_pos e2] at hl; injection hl with hl; subst hl; exact h
       ·rw [if_neg e2] at hl; injection hl with hl; subst hl
        obtain ⟨us, c, e⟩ : ∃ us c, b.2 = us ++ [c] := ⟨_, _, (List.dropLast_concat_getLast e2).symm⟩
        have h2 := h.2
        rw [e] at h2
        refine ⟨h.1, fun c' hc' l hl a ha => ?_⟩
        dsimp only at hc'
        rw [e, addL_snoc] at hc'
        rcases List.mem_append.1 hc' with hc' | hc'
        ·exact h2 c' (List.mem_append_left _ hc') l hl a ha
        ·rw [List.mem_singleton.1 hc'] at hl
         rcases List.mem_append.1 hl with hl | hl
         ·exact h2 c (by simp) l hl a ha
         ·rw [List.mem_singleton.1 hl] at ha; exact hns a ha
def mkCs (p : List (List (Bool × List Nat))) : List VC := p.map fun c => ⟨none, 0, 0, c.map fun l => ⟨l.1, none, 0, 0, l.2.map fun a : Nat => (a : Int)⟩⟩
theorem mkCs_plain (p : List (List (Bool × List Nat))) : plain (mkCs p) = toI p := by
 unfold plain mkCs toI; simp [Function.comp_def]
theorem mkCs_nat (p : List (List (Bool × List Nat))) : ((mkCs p).map fun c => c.ls.map natW) = p := by
 unfold mkCs
 rw [List.map_map]
 conv => rhs; rw [← List.map_id p]
 refine List.map_congr_left fun c _ => ?_
 simp only [Function.comp_apply, List.map_map, id]
 conv => rhs; rw [← List.map_id c]
 refine List.map_congr_left fun l _ => ?_
 simp only [Function.comp_apply, natW, List.map_map, id]
 obtain ⟨lost, ws⟩ := l
 congr 1
 conv => rhs; rw [← List.map_id ws]
 exact List.map_congr_left fun a _ => by simp
theorem read_parse (s : ByteArray) : readO s = parseO s := by
 cases hr : readO s with
 | none =>
  cases hp : parseO s with
  | none => rfl
  | some b => rw [(parse_text hp).2] at hr; cases hr
 | some b =>
  have hr0 := hr
  unfold readO at hr
  cases hf : looseF 0 (0, []) (rowsO s) with
  | none => rw [hf] at hr; cases hr
  | some b0 =>
   rw [hf, Option.bind_some] at hr
   by_cases ht : txtO b0 = s
   ·rw [if_pos ht] at hr
    injection hr with hr; subst hr
    have hok := loose_ok _ _ _ _ (⟨by decide, fun c hc => (by cases hc)⟩ : okB_ (0, [])) hf
    have hcl : parseO s = some (clr b0) := by
     rw [← ht, ← clr_txt]
     have h9 := parse_book (wn := (clr b0).1) (cs := mkCs (clr b0).2) hok.1 (fun c hc l hl => by
       unfold mkCs clr at hc
       obtain ⟨c1, hc1, rfl⟩ := List.mem_map.1 hc
       obtain ⟨c2, hc2, rfl⟩ := List.mem_map.1 hc1
       obtain ⟨l1, hl1, rfl⟩ := List.mem_map.1 hl
       obtain ⟨l2, hl2, rfl⟩ := List.mem_map.1 hl1
       obtain ⟨lost, ws⟩ := l2
       have h8 := hok.2 c2 hc2 _ hl2
       dsimp only at h8 ⊢
       cases lost
       · refine ⟨fun h => (by cases h), fun x hx => ?_⟩
         obtain ⟨a, ha, rfl⟩ := List.mem_map.1 hx
         have := h8 a ha; omega
       · exact ⟨fun _ => rfl, fun x hx => (by cases hx)⟩)
     rw [bookT_plain, mkCs_plain, mkCs_nat] at h9
     exact h9
    have h2 := (parse_text hcl).2
    rw [hr0] at h2
    injection h2 with h2
    rw [hcl, ← h2]
   ·rw [if_neg ht] at hr; cases hr
end
section
open Go.RowKit Go.Lib
theorem sameBooks_any (W : Int) (A : Option Addr) (n cap : Nat) (cs : List VC) (A2 : Option Addr) (cap2 : Nat) (cs2 : List VC) (w : World) (h1 : BkI w A n cap cs) (h2 : BkI w A2 n cap2 cs2) (hp : plain cs = plain cs2) (hw : ∀ c ∈ cs, ∀ l ∈ c.ls, l.ws.length ≤ 1000) (hc : ∀ c ∈ cs, c.ls.length ≤ 1000) (hn : n ≤ 1000) :
  Calls Tryz.prog 77 #[.agg #[.int .i64 W, .slice A n cap], .agg #[.int .i64 W, .slice A2 n cap2]] w fun e w' => e = .returned (.bool true) ∧ Below w.heap.size w w' := by
 have hX := (Blk.new w 24 #[.int .i64 W, .slice A n cap]).alloc (.cells #[.int .i64 W, .slice A2 n cap2] 24)
 have hY := blk2_1 w (.cells #[.int .i64 W, .slice A n cap] 24) 24 #[.int .i64 W, .slice A2 n cap2]
 have hB : Below w.heap.size w ((w.alloc (.cells #[.int .i64 W, .slice A n cap] 24)).alloc (.cells #[.int .i64 W, .slice A2 n cap2] 24)) := ((Below.refl _ w).alloc (Nat.le_refl _) _).alloc (by simp only [World.size_alloc]; omega) _
 have H1 := Lib.hid h1; have H2 := Lib.hid h2; have HP := Lib.hid hp; have HW := Lib.hid hw; have HC := Lib.hid hc; clear h1 h2 hp hw hc
 have hWW : (W != W) = false := by simp
 have hnn : ((n : Int) != (n : Int)) = false := by simp
 have qX := fun i => hX.cell i; have qY := fun i => hY.cell i
 go_enter Tryz.func77, Tryz.ntmps77
 go_wp2_with fail
 clear qX qY
 generalize (w.alloc (.cells #[.int .i64 W, .slice A n cap] 24)).alloc (.cells #[.int .i64 W, .slice A2 n cap2] 24) = W0 at *
 go_loopg [5] n (fun g i wr => ∃ k : Nat, g = n - k ∧ k ≤ n ∧ i = .int .i64 k ∧ Below w.heap.size w wr ∧ Blk wr w.heap.size 24 #[.int .i64 W, .slice A n cap] ∧ Blk wr (w.heap.size + 1) 24 #[.int .i64 W, .slice A2 n cap2])
 case atStart => exact ⟨0, rfl, Nat.zero_le _, rfl, hB, hX, hY⟩
 case round =>
  clear hX hB hY
  obtain ⟨k, hg, hk, rfl, hB, hX, hY⟩ := hrel
  rename World => wr
  have HG := Lib.hid hg; clear hg
  have qX := fun i => hX.cell i; have qY := fun i => hY.cell i
  by_cases hlt : k < n
  ·have hlti : (k : Int) < n := by omega
   obtain ⟨b, off, hz, rfl, hbw, hcell⟩ := H1.out.2.2.1.atm hlt
   obtain ⟨b2, off2, hz2, rfl, hbw2, hcell2⟩ := H2.out.2.2.1.atm hlt
   have hpk : (cs[k]).ls.map (fun l => (l.lost, l.ws)) = (cs2[k]).ls.map (fun l => (l.lost, l.ws)) := by
    have h9 := congrArg (fun x : List (List (Bool × List Int)) => x[k]?) HP.out
    unfold plain at h9
    simp only [List.getElem?_map, List.getElem?_eq_getElem hz, List.getElem?_eq_getElem hz2, Option.map_some] at h9
    exact Option.some.inj h9
   have hco := H1.out.2.2.2 _ (List.getElem_mem hz); have hco2 := H2.out.2.2.2 _ (List.getElem_mem hz2)
   have hwk := HW.out _ (List.getElem_mem hz); have hck := HC.out _ (List.getElem_mem hz)
   generalize cs[k] = c at *
   generalize cs2[k] = d at *
   obtain ⟨cA, cn, ccap, cls⟩ := c
   obtain ⟨dA, dn, dcap, dls⟩ := d
   obtain ⟨k1, k2, k3, k4⟩ := hco
   obtain ⟨m1, m2, m3, m4⟩ := hco2
   dsimp only at k1 k2 k3 k4 m1 m2 m3 m4 hpk hwk hck
   simp only [VC.val] at hcell hcell2
   have e1 := k4.len2; have e2 := m4.len2
   have e3 : cls.length = dls.length := by have := congrArg List.length hpk; simpa using this
   have hdn : cn = dn := by omega
   subst hdn
   have hcn : cn ≤ 1000 := by omega
   have HPK := Lib.hid hpk; have HK3 := Lib.hid k3; have HK4 := Lib.hid k4; have HM3 := Lib.hid m3; have HM4 := Lib.hid m4; have HWK := Lib.hid hwk
   clear hpk k3 k4 m3 m4 hwk hck e1 e2 e3 hz hz2
   have hc1 := (hB.cell (p := ⟨b, off + k, none⟩) hbw).trans hcell
   have hc2 := (hB.cell (p := ⟨b2, off2 + k, none⟩) hbw2).trans hcell2
   have hq1 := fun (z : Blw wr.heap.size wr) => ((Blw.h z).cell (p := ⟨b, off + k, none⟩) (Nat.lt_of_lt_of_le hbw hB.size)).trans hc1
   have hq2 := fun (z : Blw wr.heap.size wr) => ((Blw.h z).cell (p := ⟨b2, off2 + k, none⟩) (Nat.lt_of_lt_of_le hbw2 hB.size)).trans hc2
   have hq3 := fun (z : Blw wr.heap.size wr) j => blw_blk hX z j
   have hq4 := fun (z : Blw wr.heap.size wr) j => blw_blk hY z j
   have hlX := hX.lt; have hlY := hY.lt
   have hcc : ((cn : Int) != (cn : Int)) = false := by simp
   go_upto_region 6 with fail
   refine wp_region_blw (by kernel_rfl) (by kernel_rfl) ?_
   repeat (go_big_quiet_step (fail))
   refine wpQuiet_nil ?_
   rintro W3 ⟨⟨_, hb3⟩, rfl⟩
   clear hq1 hq2 hq3 hq4 hlX hlY qX qY hc1 hc2
   replace hX := hX.below hb3 hX.lt; replace hY := hY.below hb3 hY.lt; replace hB := hB.trans (hb3.mono hB.size)
   clear hb3
   go_wp2_with fail
   go_loopg [6] cn (fun g i wr => ∃ q : Nat, g = cn - q ∧ q ≤ cn ∧ i = .int .i64 q ∧ Below w.heap.size w wr ∧ Blk wr w.heap.size 24 #[.int .i64 W, .slice (some ⟨b, off, none⟩) n cap] ∧ Blk wr (w.heap.size + 1) 24 #[.int .i64 W, .slice (some ⟨b2, off2, none⟩) n cap2])
   case atStart => exact ⟨0, rfl, Nat.zero_le _, rfl, hB, hX, hY⟩
   case round =>
    clear hX hB hY
    obtain ⟨q, hg, hq, rfl, hB, hX, hY⟩ := hrel
    rename World => wx
    have HG2 := Lib.hid hg; clear hg
    have qX := fun i => hX.cell i; have qY := fun i => hY.cell i
    have hc1 := (hB.cell (p := ⟨b, off + k, none⟩) hbw).trans hcell
    have hc2 := (hB.cell (p := ⟨b2, off2 + k, none⟩) hbw2).trans hcell2
    by_cases hqt : q < cn
    ·have hqti : (q : Int) < cn := by omega
     obtain ⟨b5, off5, z5, rfl, hb5, hv0, hv1⟩ := HK4.out.at2 hqt
     obtain ⟨b6, off6, z6, rfl, hb6, hu0, hu1⟩ := HM4.out.at2 hqt
     have hpq : (cls[q].lost, cls[q].ws) = (dls[q].lost, dls[q].ws) := by
      have h9 := congrArg (fun x : List (Bool × List Int) => x[q]?) HPK.out
      simp only [List.getElem?_map, List.getElem?_eq_getElem z5, List.getElem?_eq_getElem z6, Option.map_some] at h9
      exact Option.some.inj h9
     have hvo := HK3.out _ (List.getElem_mem z5); have huo := HM3.out _ (List.getElem_mem z6); have hww := HWK.out _ (List.getElem_mem z5)
     generalize cls[q] = v at *
     generalize dls[q] = u at *
     obtain ⟨lo, vA, vn, vc, vws⟩ := v
     obtain ⟨lo2, uA, un, uc, uws⟩ := u
     dsimp only at hpq hv0 hv1 hu0 hu1 hww hvo huo
     injection hpq with hp1 hp2
     subst hp1
     subst hp2
     obtain ⟨v1, v2, v3⟩ := hvo
     obtain ⟨u1, u2, u3⟩ := huo
     dsimp only at v1 v2 v3 u1 u2 u3
     have hvn : vws.length = vn := by simpa using v3.len
     have hun : vws.length = un := by simpa using u3.len
     have hsm := fun (z : Blw wx.heap.size wx) => same_any vA vn vc vws uA un uc vws z.toW (by omega) (by omega) (rdB v3 (hB.trans (z.h.mono hB.size))) (rdB u3 (hB.trans (z.h.mono hB.size)))
     simp only [decide_true] at hsm
     have HSM := Lib.hid hsm; clear hsm v3 u3
     have hlo : (lo != lo) = false := by simp
     have d1 := (hB.cell (p := ⟨b5, off5 + q * 2, none⟩) hb5).trans hv0
     have d2 := (hB.cell (p := ⟨b5, off5 + q * 2 + 1, none⟩) hb5).trans hv1
     have d3 := (hB.cell (p := ⟨b6, off6 + q * 2, none⟩) hb6).trans hu0
     have d4 := (hB.cell (p := ⟨b6, off6 + q * 2 + 1, none⟩) hb6).trans hu1
     have hq1 := fun (z : Blw wx.heap.size wx) => ((Blw.h z).cell (p := ⟨b, off + k, none⟩) (Nat.lt_of_lt_of_le hbw hB.size)).trans hc1
     have hq2 := fun (z : Blw wx.heap.size wx) => ((Blw.h z).cell (p := ⟨b2, off2 + k, none⟩) (Nat.lt_of_lt_of_le hbw2 hB.size)).trans hc2
     have hq3 := fun (z : Blw wx.heap.size wx) j => blw_blk hX z j
     have hq4 := fun (z : Blw wx.heap.size wx) j => blw_blk hY z j
     have hq5 := fun (z : Blw wx.heap.size wx) => ((Blw.h z).cell (p := ⟨b5, off5 + q * 2, none⟩) (Nat.lt_of_lt_of_le hb5 hB.size)).trans d1
     have hq6 := fun (z : Blw wx.heap.size wx) => ((Blw.h z).cell (p := ⟨b5, off5 + q * 2 + 1, none⟩) (Nat.lt_of_lt_of_le hb5 hB.size)).trans d2
     have hq7 := fun (z : Blw wx.heap.size wx) => ((Blw.h z).cell (p := ⟨b6, off6 + q * 2, none⟩) (Nat.lt_of_lt_of_le hb6 hB.size)).trans d3
     have hq8 := fun (z : Blw wx.heap.size wx) => ((Blw.h z).cell (p := ⟨b6, off6 + q * 2 + 1, none⟩) (Nat.lt_of_lt_of_le hb6 hB.size)).trans d4
     have hlX := hX.lt; have hlY := hY.lt
     clear d1 d2 d3 d4 hv0 hv1 hu0 hu1 z5 z6
     go_upto_region 11 with fail
     refine wp_region_blw (by kernel_rfl) (by kernel_rfl) ?_
     repeat (go_big_quiet_step (fail))
     go_big_quiet_step ((go_at_call 31; exact Calls.blw_of _ (HSM.out _)))
     repeat (go_big_quiet_step (fail))
     refine wpQuiet_nil ?_
     rintro W3 ⟨⟨_, hb3⟩, rfl⟩
     clear hq1 hq2 hq3 hq4 hq5 hq6 hq7 hq8 hlX hlY HSM qX qY
     go_wp2_with fail
     go_roundg (cn - (q + 1))
     case measure => rw [HG2.out]; omega
     case rel => exact ⟨q + 1, rfl, by omega, by go_num, hB.trans (hb3.mono hB.size), hX.below hb3 hX.lt, hY.below hb3 hY.lt⟩
    ·obtain rfl : q = cn := by omega
     have hge : ¬ (q : Int) < q := by omega
     go_wp2_with fail
     go_roundg (n - (k + 1))
     case measure => rw [HG.out]; omega
     case rel => exact ⟨k + 1, rfl, by omega, by go_num, hB, hX, hY⟩
  ·obtain rfl : k = n := by omega
   have hge : ¬ (k : Int) < k := by omega
   go_wp2_with fail
   go_ret
   exact ⟨rfl, hB⟩
def szS (xs : List ByteArray) : Nat := (xs.map fun x => x.size + 1).sum
theorem jn_len (x sep : ByteArray) (h1 : sep.size = 1) (r : List ByteArray) : (jnS (x :: r) sep).size + 1 = szS (x :: r) := by
 have h2 : sep.data.toList.length = 1 := h1
 have ht : ∀ r : List (List UInt8), (joinTail sep.data.toList r).length = (r.map fun y => y.length + 1).sum := by
  intro r
  induction r with
  | nil => rfl
  | cons y r ih =>
   have e : joinTail sep.data.toList (y :: r) = (sep.data.toList ++ y) ++ joinTail sep.data.toList r := rfl
   rw [e, List.length_append, List.length_append, ih, List.map_cons, List.sum_cons, h2]; omega
 have e : (jnS (x :: r) sep).size = (join ((x :: r).map (·.data.toList)) sep.data.toList).length := rfl
 rw [e, List.map_cons, join_cons, List.length_append, ht]
 unfold szS
 simp only [List.map_cons, List.sum_cons, List.map_map]
 show x.size + _ + 1 = x.size + 1 + _
 have : ((fun y : List UInt8 => y.length + 1) ∘ fun x : ByteArray => x.data.toList) = fun x => x.size + 1 := rfl
 rw [this]; omega
end
section
open Go.RowKit Go.Lib
theorem Rd.tl {w : World} {B g R c : Nat} {v : Value} {r : List Value} (h : Rd w B 1 (some ⟨g, 0, none⟩) (R + 1) (v :: r)) (hc : R + 1 ≤ c) : Rd w B 1 (cutA (some ⟨g, 0, none⟩) c 1 1) R r := by
 obtain ⟨h1, h2⟩ := h
 refine ⟨by simp at h1 ⊢; omega, fun hR => ?_⟩
 obtain ⟨b, off, e, hb, hq⟩ := h2 (by omega)
 injection e with e; injection e with e1 e2
 subst e1 e2
 refine ⟨g, 1, by unfold cutA; rw [if_neg (by omega)]; rfl, hb, fun j u hu => ?_⟩
 have := hq (j + 1) u (by simpa using hu)
 rw [Nat.zero_add, Nat.add_comm j 1] at this
 exact this
theorem loose_none {i : Nat} {b : BkT} {x w0 : ByteArray} {r : List ByteArray} (hc : cutB 32 x = w0 :: r) (hn : numsO r = none) : looseL i b x = none := by
 unfold looseL; rw [hc]; simp only [hn]; rfl
theorem loose_some {i : Nat} {b : BkT} {x w0 : ByteArray} {r : List ByteArray} {ns : List Nat} (hc : cutB 32 x = w0 :: r) (hn : numsO r = some ns) : looseL i b x = if i = 0 then (match ns with | [n] => some (n, b.2) | _ => none) else if w0 = wCopy then some (b.1, b.2 ++ [[]]) else if b.2 = [] then some b else some (b.1, addL b.2 (decide (w0 = wLost), ns)) := by
 unfold looseL; rw [hc]; simp only [hn]; rfl
theorem plP_copy (b : List (List (Bool × List Nat))) : plP (toI (b ++ [[]])) = plP (toI b) ++ [wCopy] := by unfold toI plP; simp
theorem plP_line {b : List (List (Bool × List Nat))} (l : Bool × List Nat) (hne : ¬ b = []) : plP (toI (addL b l)) = plP (toI b) ++ [lnP (l.1, l.2.map fun a : Nat => (a : Int))] := by
 obtain ⟨us, c, e⟩ : ∃ us c, b = us ++ [c] := ⟨_, _, (List.dropLast_concat_getLast hne).symm⟩
 rw [e, addL_snoc]
 unfold toI plP
 simp
theorem lnP_size {x w0 : ByteArray} {ns : List Nat} (hc : cutB 32 x = w0 :: ns.map dS) (hx : x.size ≤ 500) (f : Bool) : (lnP (f, ns.map fun a : Nat => (a : Int))).size ≤ 600 := by
 have hj := cut_join 32 x
 rw [hc] at hj
 unfold lnP
 cases f
 ·simp only [Bool.false_eq_true, if_false]
  rw [DZ_map]
  have e1 := jn_len wLine ⟨#[32]⟩ rfl (ns.map dS)
  have e2 := jn_len w0 ⟨#[32]⟩ rfl (ns.map dS)
  rw [hj] at e2
  unfold szS at e1 e2
  simp only [List.map_cons, List.sum_cons] at e1 e2
  have : wLine.size = 4 := by decide
  omega
 ·simp only [if_true]
  have : wLost.size = 4 := by decide
  omega
theorem zs_yes {ws : List ByteArray} {zs : List Int} (h : WZs ws zs) (hl : zs.length = ws.length) (ha : (zs.all fun z => decide (0 ≤ z)) = true) : ∃ ns : List Nat, numsO ws = some ns ∧ zs = ns.map fun a : Nat => (a : Int) := by
 rw [List.all_eq_true] at ha
 obtain ⟨h1, h2⟩ := h.nums hl fun z hz => by simpa using ha z hz
 refine ⟨zs.map Int.toNat, ?_, ?_⟩
 ·have := numsO_dS (zs.map Int.toNat) fun a ha => by obtain ⟨z, hz, rfl⟩ := List.mem_map.1 ha; exact (h1 z hz).1
  rw [List.map_map] at this
  rw [h2]; exact this
 ·rw [List.map_map]
  conv => lhs; rw [← List.map_id zs]
  exact List.map_congr_left fun z hz => by have := (h1 z hz).2; simp only [id, Function.comp_apply]; omega
theorem zs_no {ws : List ByteArray} {zs : List Int} (h : WZs ws zs) (hl : zs.length = ws.length) (ha : (zs.all fun z => decide (0 ≤ z)) = false) : numsO ws = none := by
 cases hn : numsO ws with
 | none => rfl
 | some ns =>
  exfalso
  have hm := numsO_map hn
  have h100 := (numsO_len _ _ hn).2
  have : (zs.all fun z => decide (0 ≤ z)) = true := by
   rw [List.all_eq_true]
   intro z hz
   obtain ⟨i, hi, rfl⟩ := List.mem_iff_getElem.1 hz
   have hw : i < ws.length := by omega
   have hs := List.getElem?_eq_getElem hw
   rcases h i _ _ hs (List.getElem?_eq_getElem hi) with ⟨a, _, _, e⟩ | ⟨hno, _⟩
   ·rw [e]; simp
   ·exfalso
    have hmem := List.getElem_mem hw
    generalize ws[i] = y at *
    rw [hm] at hmem
    obtain ⟨a, ha, e⟩ := List.mem_map.1 hmem
    exact hno a (h100 a ha) e.symm
  rw [this] at ha; cases ha
theorem bad_no {ws : List ByteArray} (h : ∃ s ∈ ws, ∀ a, a < 100 → s ≠ dS a) : numsO ws = none := by
 cases hn : numsO ws with
 | none => rfl
 | some ns =>
  obtain ⟨s, hs, hno⟩ := h
  rw [numsO_map hn] at hs
  obtain ⟨a, ha, e⟩ := List.mem_map.1 hs
  exact absurd e.symm (hno a ((numsO_len _ _ hn).2 a ha))
def BD (k Wn : Nat) (cps : Cps) : Prop := StOk cps k ∧ Wn < 100 ∧ (plP (toI (content cps))).length ≤ k ∧ ∀ p ∈ plP (toI (content cps)), p.size ≤ 600
theorem BD.up {k Wn : Nat} {cps : Cps} (h : BD k Wn cps) : BD (k + 1) Wn cps := ⟨h.1.up, h.2.1, by have := h.2.2.1; omega, h.2.2.2⟩
theorem BD.word {k Wn a : Nat} {cps : Cps} (h : BD k Wn cps) (ha : a < 100) : BD (k + 1) a cps := ⟨h.1.up, ha, by have := h.2.2.1; omega, h.2.2.2⟩
theorem BD.copy {k Wn : Nat} {cps : Cps} (h : BD k Wn cps) : BD (k + 1) Wn (cps ++ [(.slice none 0 0, [])]) := by
 refine ⟨h.1.copy, h.2.1, ?_, fun p hp => ?_⟩
 ·rw [content_copy, plP_copy, List.length_append]; have := h.2.2.1; simp; omega
 ·rw [content_copy, plP_copy] at hp
  rcases List.mem_append.1 hp with hp | hp
  ·exact h.2.2.2 p hp
  ·rw [List.mem_singleton.1 hp]; decide
theorem BD.line {k Wn : Nat} {us : Cps} {lv lv' : Value} {ls : List CL} {l : CL} (h : BD k Wn (us ++ [(lv, ls)])) (hl : l.ws.length ≤ 1000 ∧ ∀ a ∈ l.ws, a < 100) (hs : (lnP (l.lost, l.ws.map fun a : Nat => (a : Int))).size ≤ 600) : BD (k + 1) Wn (us ++ [(lv', ls ++ [l])]) := by
 have hne : ¬ content (us ++ [(lv, ls)]) = [] := by rw [content_nil]; simp
 refine ⟨h.1.line hl, h.2.1, ?_, fun p hp => ?_⟩
 ·rw [content_line us lv lv', plP_line _ hne, List.length_append]; have := h.2.2.1; simp; omega
 ·rw [content_line us lv lv', plP_line _ hne] at hp
  rcases List.mem_append.1 hp with hp | hp
  ·exact h.2.2.2 p hp
  ·rw [List.mem_singleton.1 hp]; exact hs
theorem BD.mono {k j Wn : Nat} {cps : Cps} (h : BD k Wn cps) (hj : k ≤ j) : BD j Wn cps := ⟨⟨by have := h.1.1; omega, fun c hc => ⟨by have := (h.1.2 c hc).1; omega, (h.1.2 c hc).2⟩⟩, h.2.1, by have := h.2.2.1; omega, h.2.2.2⟩
theorem copy_list : wCopy.toList = [99, 111, 112, 121] := by rw [ByteArray.toList_eq]; rfl
theorem lost_list : wLost.toList = [108, 111, 115, 116] := by rw [ByteArray.toList_eq]; rfl
def NO8 : Ending := .returned (.tuple #[.agg #[.int .i64 0, .slice none 0 0], .bool false])
def R78 (s : ByteArray) (w : World) (e : Ending) (w' : World) : Prop := Below w.heap.size w w' ∧ match readO s with
 | some b => ∃ v cps, e = .returned (.tuple #[.agg #[.int .i64 (b.1 : Int), v], .bool true]) ∧ CpsOk w' w.heap.size v cps ∧ content cps = b.2 ∧ BD 1000 b.1 cps
 | none => e = NO8
theorem refRead_any (s : ByteArray) (w : World) (hs : s.size ≤ 500) : Calls Tryz.prog 78 #[.string s] w fun e w' => R78 s w e w' := by
 obtain ⟨i77, fi, fz0, fz1, fz2⟩ := info_parts info77
 obtain ⟨i76, gi, gz0, gz1, gz2⟩ := info_parts info76
 have hsp := fun (x : ByteArray) (hx : x.size ≤ 500) (wx : World) => refSplit_any x 32 wx (by omega)
 have hsp0 := fun (wx : World) => refSplit_any s 10 wx (by omega)
 obtain ⟨hc1, hc2⟩ := cutB_size 10 s
 obtain ⟨rows, hrows⟩ : ∃ r, r = cutB 10 s := ⟨_, rfl⟩
 obtain ⟨M, hM⟩ : ∃ M, M = rowsO s := ⟨_, rfl⟩
 have hMr : M = rows.take (rows.length - 2) := by rw [hM, hrows]; rfl
 have hro : readO s = (looseF 0 (0, []) M).bind fun b => if txtO b = s then some b else none := by rw [hM]; rfl
 rw [← hrows] at hc1 hc2 hsp0
 have hrl : 1 ≤ rows.length := by rw [hrows]; exact cutB_pos 10 s
 obtain ⟨N, hN⟩ : ∃ N, N = rows.length - 2 := ⟨_, rfl⟩
 obtain ⟨rn, hrn⟩ : ∃ rn, rn = rows.length := ⟨_, rfl⟩
 rw [← hrn] at hsp0 hc1 hrl hN
 have hMl : M.length = N := by rw [hMr, List.length_take]; omega
 have hMk : ∀ k, k < N → ∃ x, rows[k]? = some x ∧ M[k]? = some x ∧ x.size ≤ 500 := fun k hk => by
  have h1 : k < rows.length := by omega
  refine ⟨rows[k], List.getElem?_eq_getElem h1, ?_, by have := hc2 _ (List.getElem_mem h1); omega⟩
  rw [hMr, List.getElem?_take_of_lt (by omega), List.getElem?_eq_getElem h1]
 obtain ⟨RP, hRP⟩ : ∃ RP : Ending → World → Prop, RP = R78 s w := ⟨_, rfl⟩
 have hno : ∀ w', Below w.heap.size w w' → readO s = none → RP (.returned (.tuple #[.agg #[.int .i64 0, .slice none 0 0], .bool false])) w' := fun w' h1 h2 => by rw [hRP]; exact ⟨h1, by rw [h2]; rfl⟩
 have hyes : ∀ w' v cps b, Below w.heap.size w w' → readO s = some b → CpsOk w' w.heap.size v cps → content cps = b.2 → BD 1000 b.1 cps → RP (.returned (.tuple #[.agg #[.int .i64 (b.1 : Int), v], .bool true])) w' := fun w' v cps b h1 h2 h3 h4 h5 => by rw [hRP]; exact ⟨h1, by rw [h2]; exact ⟨v, cps, rfl, h3, h4, h5⟩⟩
 rw [← hRP]
 have HNO := Lib.hid hno; have HYES := Lib.hid hyes; have HMK := Lib.hid hMk; have HRO := Lib.hid hro; have HML := Lib.hid hMl; have HSP0 := Lib.hid hsp0; have HSP := Lib.hid hsp; have HRN0 := Lib.hid hrn; have HNN := Lib.hid hN
 clear hno hyes hMk hro hMl hsp0 hsp hMr hM hrows hRP hc2
 have gT := (Blk.new w 24 #[.int .i64 0, .slice none 0 0]).alloc (.cells #[.int .i64 0, .slice none 0 0] 24)
 have gU := blk2_1 w (.cells #[.int .i64 0, .slice none 0 0] 24) 24 #[.int .i64 0, .slice none 0 0]
 have hB : Below w.heap.size w ((w.alloc (.cells #[.int .i64 0, .slice none 0 0] 24)).alloc (.cells #[.int .i64 0, .slice none 0 0] 24)) := ((Below.refl _ w).alloc (Nat.le_refl _) _).alloc (by simp only [World.size_alloc]; omega) _
 have hSZ : (((w.alloc (.cells #[.int .i64 0, .slice none 0 0] 24)).alloc (.cells #[.int .i64 0, .slice none 0 0] 24))).heap.size = w.heap.size + 1 + 1 := by simp only [World.size_alloc]
 go_enter Tryz.func78, Tryz.ntmps78
 go_wp2_with fail
 generalize ((w.alloc (.cells #[.int .i64 0, .slice none 0 0] 24)).alloc (.cells #[.int .i64 0, .slice none 0 0] 24)) = W0 at *
 refine (HSP0.out _).mono ?_; rintro e w1 ⟨v5, rfl, hrow, hb⟩
 obtain ⟨ra, rc, rfl⟩ := own_slice hrow
 obtain ⟨g5, rfl⟩ := own_ad hrow (by omega)
 replace gT := gT.below hb gT.lt; replace gU := gU.below hb gU.lt; replace hB := hB.trans (hb.mono hB.size); clear hb
 have hcells : ∀ k x, rows[k]? = some x → w1.cell? ⟨g5, k, none⟩ = some (.string x) := fun k x hx => by
  have hk : k < rn := by rw [HRN0.out]; exact (List.getElem?_eq_some_iff.1 hx).1
  obtain ⟨b, off, _, e, _, hc⟩ := (Rd.of_own hrow).atm hk
  cases e
  obtain ⟨hk2, hx2⟩ := List.getElem?_eq_some_iff.1 hx
  rw [Nat.zero_add] at hc
  rw [hc]; simp [hx2]
 have hg5 := (hrow.lt g5 rfl).2
 have hg5b := (hrow.lt g5 rfl).1
 have HCELLS := Lib.hid hcells; clear hcells hrow
 obtain ⟨SS, hSS⟩ : ∃ z, z = w1.heap.size := ⟨_, rfl⟩
 have hS0 : SS ≤ w1.heap.size := by omega
 have hS1 : w.heap.size + 1 < SS := by have := gU.lt; omega
 have hcp : CpsOk w1 SS (.slice none 0 0) [] := CpsOk.nil _ _
 have hg5S : g5 < SS := by omega
 have hbd0 : BD 0 0 [] := ⟨⟨Nat.le_refl _, fun c h => (by cases h)⟩, by decide, by decide, fun p hp => by cases hp⟩
 have hgf : ∀ k x, rows[k]? = some x → w1.cell? ⟨g5, k, none⟩ = some (.string x) := HCELLS.out
 go_wp2_with fail
 go_loopg [6] N (fun g i wr => ∃ (k Wn : Nat) (v : Value) (cps : Cps), g = N - k ∧ k ≤ N ∧ i = .int .i64 k ∧ Hid (looseF 0 (0, []) M = looseF k (Wn, content cps) (M.drop k)) ∧ Hid (BD k Wn cps) ∧ CpsOk wr SS v cps ∧ Blk wr w.heap.size 24 #[.int .i64 0, .slice none 0 0] ∧ Blk wr (w.heap.size + 1) 24 #[.int .i64 (Wn : Int), v] ∧ Hid (∀ k x, rows[k]? = some x → wr.cell? ⟨g5, k, none⟩ = some (.string x)) ∧ Below w.heap.size w wr ∧ SS ≤ wr.heap.size)
 case atStart => exact ⟨0, 0, _, [], rfl, Nat.zero_le _, rfl, Lib.hid rfl, Lib.hid hbd0, hcp, gT, gU, Lib.hid hgf, hB, hS0⟩
 case round =>
  clear hcp gT gU hB hS0 hgf hbd0 HCELLS
  obtain ⟨k, Wn, v, cps, hg, hk, rfl, hf, hbd, hcp, gT, gU, hgr, hB, hS0⟩ := hrel
  have HG := Lib.hid hg; clear hg
  rename World => wr
  obtain ⟨va, vc, rfl⟩ := own_slice hcp.1
  have hk1000 : k ≤ 501 := by have := HNN.out; omega
  by_cases hlt : k < N
  ·have hlti : (k : Int) < (rn : Int) - 2 := by have := HNN.out; omega
   have hkr : (k : Int) < rn := by omega
   obtain ⟨x, hx1, hx2, hxs⟩ := HMK.out k hlt
   have hck := hgr.out k x hx1
   have hzk : k < M.length := by rw [HML.out]; exact hlt
   have hxe : M[k] = x := by rw [List.getElem?_eq_getElem hzk] at hx2; exact Option.some.inj hx2
   have hdr : M.drop k = x :: M.drop (k + 1) := by rw [List.drop_eq_getElem_cons hzk, hxe]
   have hf2 : looseF 0 (0, []) M = (looseL k (Wn, content cps) x).bind fun b' => looseF (k + 1) b' (M.drop (k + 1)) := by rw [hf.out, hdr]; rfl
   have hsplit := HSP.out x hxs
   obtain ⟨w0, r, hwr⟩ : ∃ w0 r, cutB 32 x = w0 :: r := by
    cases hc : cutB 32 x with
    | nil => have := cutB_pos 32 x; rw [hc] at this; cases this
    | cons a b => exact ⟨a, b, rfl⟩
   have hrs : ∀ y ∈ r, y.size ≤ 1000 := fun y hy => by
    have := (cutB_size 32 x).2 y (by rw [hwr]; exact List.mem_cons_of_mem _ hy); omega
   have hrlen : r.length ≤ 501 := by
    have := (cutB_size 32 x).1; rw [hwr] at this; simp at this; omega
   obtain ⟨R, hR⟩ : ∃ R, R = r.length := ⟨_, rfl⟩
   rw [hwr, List.length_cons, ← hR] at hsplit
   have HF := Lib.hid hf2; have HS := Lib.hid hsplit; have HWR := Lib.hid hwr; have HRS := Lib.hid hrs; have HR := Lib.hid hR
   rw [← hR] at hrlen
   clear hf2 hsplit hwr hrs hR hxe hdr hx1 hx2 hzk hf
   go_wp2_with fail
   refine (HS.out _).mono ?_; rintro e w2 ⟨v7, rfl, hw7, hb⟩
   have hgr2 : ∀ k x, rows[k]? = some x → w2.cell? ⟨g5, k, none⟩ = some (.string x) := fun j y hy => (hb.cell (p := ⟨g5, j, none⟩) (Nat.lt_of_lt_of_le hg5S hS0)).trans (hgr.out j y hy)
   have HGR := Lib.hid hgr2; clear hgr2 hgr
   obtain ⟨a7, c7, rfl⟩ := own_slice hw7
   obtain ⟨g7, rfl⟩ := own_ad hw7 (by omega)
   have hr7c := own_le0 hw7
   have hw7b := (hw7.lt g7 rfl).1; have hw7l := (hw7.lt g7 rfl).2
   replace gT := gT.below hb gT.lt; replace gU := gU.below hb gU.lt; replace hcp := hcp.of_gb hb; replace hS0 := Nat.le_trans hS0 hb.size; replace hB := hB.trans (hb.mono hB.size); clear hb hck
   have hrd7 := Rd.of_own hw7
   have hw0c : w2.cell? ⟨g7, 0, none⟩ = some (.string w0) := by
    obtain ⟨b, off, _, e, _, hc⟩ := hrd7.atm (show 0 < R + 1 by omega)
    cases e
    exact hc
   have hrr : Rd w2 w2.heap.size 1 (cutA (some ⟨g7, 0, none⟩) c7 1 1) R (r.map Value.string) := by
    rw [List.map_cons] at hrd7
    exact hrd7.tl hr7c
   obtain ⟨ca, hca⟩ : ∃ ca, ca = cutA (some ⟨g7, 0, none⟩) c7 1 1 := ⟨_, rfl⟩
   have hsl : ∀ wx : World, (Instr.slice 173 (.slice (some ⟨g7, 0, none⟩) (R + 1) c7) (some (.int .i64 1)) none none).run Tryz.prog wx = .ok (.slice ca R (c7 - 1)) wx := fun wx => by
    have h := run_slice_lo (P := Tryz.prog) 173 9 1 Tryz.underlying173 (fun _ => by kernel_rfl) (some ⟨g7, 0, none⟩) (R + 1) c7 .i64 1 (by omega) hr7c wx
    rw [show R + 1 - 1 = R by omega, ← hca] at h
    exact h
   rw [← hca] at hrr
   have hnum := refNumbers_any ca R (c7 - 1) r w2 (by omega) HRS.out hrr
   have HNUM := Lib.hid hnum; have HRD7 := Lib.hid hw0c
   clear hnum hrr hrd7 hca hw0c
   go_wp2_with fail
   refine HNUM.out.mono ?_; rintro e w3 ⟨hans, hb⟩
   have hw0c : w3.cell? ⟨g7, 0, none⟩ = some (.string w0) := (hb.cell (p := ⟨g7, 0, none⟩) hw7l).trans HRD7.out
   have hgr3 : ∀ k x, rows[k]? = some x → w3.cell? ⟨g5, k, none⟩ = some (.string x) := fun j y hy => (hb.cell (p := ⟨g5, j, none⟩) (Nat.lt_of_lt_of_le hg5S hS0)).trans (HGR.out j y hy)
   have HGR3 := Lib.hid hgr3; have HW0 := Lib.hid hw0c
   replace hw7 := ownsRow_below' hw7 hb
   have HW7 := Lib.hid hw7; clear hw7
   have hw2s := hS0
   replace gT := gT.below hb gT.lt; replace gU := gU.below hb gU.lt; replace hcp := hcp.of_gb hb; replace hS0 := Nat.le_trans hS0 hb.size; replace hB := hB.trans (hb.mono hB.size); clear hb hgr3 HGR HNUM HRD7 hw0c
   have hnone : looseL k (Wn, content cps) x = none → readO s = none := fun h => by rw [HRO.out, HF.out, h]; rfl
   have HNONE := Lib.hid hnone; clear hnone
   rcases hans with ⟨zs, v8, hzl, hzw, rfl, hzo⟩ | ⟨hbad, rfl⟩
   rotate_left
   ·have HRN : Hid (readO s = none) := Lib.hid (HNONE.out (loose_none HWR.out (bad_no hbad)))
    clear hbad
    go_wp2_with fail
    go_loopg [9, 10] 0 (fun g b j wr => g = 0 ∧ b = .bool false ∧ j = .int .i64 0 ∧ wr = w3)
    case atStart => exact ⟨rfl, rfl, rfl, rfl⟩
    case round =>
     obtain ⟨hg2, rfl, rfl, rfl⟩ := hrel
     clear hg2
     rename World => w3
     have qT := fun i => gT.cell i; have fT := fun i => gT.frozen i; have lT := gT.lt
     go_wp2_with fail
     have G : Blk ((w3.setCell ⟨w.heap.size, 0, none⟩ (.int .i64 0)).setCell ⟨w.heap.size, 1, none⟩ (.slice none 0 0)) w.heap.size 24 #[.int .i64 0, .slice none 0 0] := by simpa using ((gT.set_ 0 (.int .i64 0)).set_ 1 (.slice none 0 0))
     have qG := fun i => G.cell i
     exact bodyPost_ret (v := .tuple #[.agg #[.int .i64 0, .slice none 0 0], .bool false]) (by simp [results, Tryz.results78, go_sem, qG]) rfl (HNO.out _ ((hB.setCell (p := ⟨w.heap.size, 0, none⟩) (Nat.le_refl _) (.int .i64 0)).setCell (p := ⟨w.heap.size, 1, none⟩) (Nat.le_refl _) (.slice none 0 0)) HRN.out)
   ·obtain ⟨m, hm⟩ : ∃ m, m = zs.length := ⟨_, rfl⟩
    rw [← hm] at hzo
    obtain ⟨a8, c8, rfl⟩ := own_slice hzo
    have hmR : m = R := by rw [hm, hzl, HR.out]
    have hzc : ∀ q, q < m → ∃ b8 o8 z, a8 = some ⟨b8, o8, none⟩ ∧ zs[q]? = some z ∧ w3.cell? ⟨b8, o8 + q, none⟩ = some (.int .i64 z) := fun q hq => by
     obtain ⟨b, off, hz9, e, _, hc⟩ := (Rd.of_own hzo).atm hq
     have hq2 : q < zs.length := by omega
     refine ⟨b, off, zs[q], e, List.getElem?_eq_getElem hq2, ?_⟩
     rw [hc]
    have HZC := Lib.hid hzc; have HZL := Lib.hid hzl; have HZW := Lib.hid hzw; have HM := Lib.hid hm
    clear hzc hzl hzw hm
    have hm501 : m ≤ 501 := by omega
    clear hmR
    go_wp2_with fail
    go_loopg [9, 10] m (fun g b j wr => ∃ (q : Nat) (bb : Bool), g = m - q ∧ q ≤ m ∧ b = .bool bb ∧ j = .int .i64 q ∧ Hid (bb = (zs.take q).all fun z => decide (0 ≤ z)) ∧ wr = w3)
    case atStart => exact ⟨0, true, rfl, Nat.zero_le _, rfl, rfl, Lib.hid rfl, rfl⟩
    case round =>
     obtain ⟨q, bb, hg2, hq, rfl, rfl, hbb, rfl⟩ := hrel
     rename World => w3
     have HG2 := Lib.hid hg2; clear hg2
     by_cases hqt : q < m
     ·have hqti : (q : Int) < m := by omega
      obtain ⟨b8, o8, z, rfl, hz, hzc⟩ := HZC.out q hqt
      have htk : (zs.take (q + 1)).all (fun z => decide (0 ≤ z)) = (bb && decide (0 ≤ z)) := by
       rw [List.take_add_one, hz, List.all_append, ← hbb.out]; simp
      have HTK := Lib.hid htk; clear htk hz hbb
      cases bb
      ·go_wp2_with fail
       go_roundg (m - (q + 1))
       case measure => rw [HG2.out]; omega
       case rel => exact ⟨q + 1, false, rfl, by omega, rfl, by go_num, Lib.hid (by rw [HTK.out]; rfl), rfl⟩
      ·go_wp2_with fail
       go_roundg (m - (q + 1))
       case measure => rw [HG2.out]; omega
       case rel => exact ⟨q + 1, decide (0 ≤ z), rfl, by omega, rfl, by go_num, Lib.hid (by rw [HTK.out]; simp), rfl⟩
     ·have hqge : ¬ (q : Int) < m := by omega
      obtain rfl : q = m := by omega
      have hb2 := hbb.out
      rw [List.take_of_length_le (by rw [HM.out]; exact Nat.le_refl _)] at hb2
      cases bb
      ·have HRN : Hid (readO s = none) := Lib.hid (HNONE.out (loose_none HWR.out (zs_no HZW.out HZL.out hb2.symm)))
       clear hbb hb2
       have qT := fun i => gT.cell i; have fT := fun i => gT.frozen i; have lT := gT.lt
       go_wp2_with fail
       have G : Blk ((w3.setCell ⟨w.heap.size, 0, none⟩ (.int .i64 0)).setCell ⟨w.heap.size, 1, none⟩ (.slice none 0 0)) w.heap.size 24 #[.int .i64 0, .slice none 0 0] := by simpa using ((gT.set_ 0 (.int .i64 0)).set_ 1 (.slice none 0 0))
       have qG := fun i => G.cell i
       exact bodyPost_ret (v := .tuple #[.agg #[.int .i64 0, .slice none 0 0], .bool false]) (by simp [results, Tryz.results78, go_sem, qG]) rfl (HNO.out _ ((hB.setCell (p := ⟨w.heap.size, 0, none⟩) (Nat.le_refl _) (.int .i64 0)).setCell (p := ⟨w.heap.size, 1, none⟩) (Nat.le_refl _) (.slice none 0 0)) HRN.out)
      ·obtain ⟨ns, hns, hzn⟩ := zs_yes HZW.out HZL.out hb2.symm
       have hls := loose_some (i := k) (b := (Wn, content cps)) HWR.out hns
       have hnl : ns.length = q := by rw [HM.out, hzn, List.length_map]
       have hn100 := (numsO_len _ _ hns).2
       have hrm := numsO_map hns
       have hzo2 : w3.ownsRow w2.heap.size 3 1 (.slice a8 q c8) ns.length (natsV ns) := by
        rw [hzn, List.map_map] at hzo
        rw [hnl]; exact hzo
       have HLS := Lib.hid hls; have HNL := Lib.hid hnl; have HN100 := Lib.hid hn100; have HRM := Lib.hid hrm; have HZN := Lib.hid hzn
       clear hbb hb2 hls hns hnl hn100 hrm hzn hzo
       have qU := fun i => gU.cell i; have fU := fun i => gU.frozen i; have lU := gU.lt
       by_cases hk0 : k = 0
       ·subst hk0
        by_cases hm1 : q = 1
        ·subst hm1
         obtain ⟨b8, o8, z, rfl, hz, hzc⟩ := HZC.out 0 (by omega)
         obtain ⟨a, hna⟩ : ∃ a, ns = [a] := by
          have h9 := HNL.out
          match ns, h9 with
          | [a], _ => exact ⟨a, rfl⟩
         have hza : z = (a : Int) := by rw [HZN.out, hna] at hz; simpa using hz.symm
         have ha100 := HN100.out a (by rw [hna]; simp)
         subst hza
         have hf3 : Hid (looseF 0 (0, []) M = looseF (0 + 1) (a, content cps) (M.drop (0 + 1))) := Lib.hid (by rw [HF.out, HLS.out, if_pos rfl, hna]; rfl)
         clear hz hna
         rw [Nat.add_zero] at hzc
         go_upto_region 5 with fail
         replace gU : Blk (w3.setCell ⟨w.heap.size + 1, 0, none⟩ (.int .i64 (a : Int))) (w.heap.size + 1) 24 #[.int .i64 (a : Int), .slice va cps.length vc] := by simpa using gU.set_ 0 (.int .i64 (a : Int))
         replace gT := gT.far (p := ⟨w.heap.size + 1, 0, none⟩) (show w.heap.size ≠ w.heap.size + 1 by omega) (.int .i64 (a : Int))
         replace hcp := hcp.set (a := ⟨w.heap.size + 1, 0, none⟩) hS1 (.int .i64 (a : Int))
         replace hB := hB.setCell (p := ⟨w.heap.size + 1, 0, none⟩) (show w.heap.size ≤ w.heap.size + 1 by omega) (.int .i64 (a : Int))
         have hgr9 : ∀ k x, rows[k]? = some x → (w3.setCell ⟨w.heap.size + 1, 0, none⟩ (.int .i64 (a : Int))).cell? ⟨g5, k, none⟩ = some (.string x) := fun j y hy => (grown_set w3 ⟨w.heap.size + 1, 0, none⟩ (.int .i64 (a : Int))).cell (HGR3.out j y hy) (fun e => by injection e with e; have e2 : g5 = w.heap.size + 1 := e; omega)
         have hS9 : SS ≤ (w3.setCell ⟨w.heap.size + 1, 0, none⟩ (.int .i64 (a : Int))).heap.size := by simpa using hS0
         have HGR9 := Lib.hid hgr9; clear hgr9
         generalize (w3.setCell ⟨w.heap.size + 1, 0, none⟩ (.int .i64 (a : Int))) = WN at *
         clear qU fU lU
         go_wp2_with fail
         go_roundg (N - (0 + 1))
         case measure => rw [HG.out]; omega
         case rel => exact ⟨0 + 1, a, .slice va cps.length vc, cps, rfl, by omega, by go_num, hf3, Lib.hid (hbd.out.word ha100), hcp, gT, gU, HGR9, hB, hS9⟩
        ·have hmi : ((q : Int) != 1) = true := by simp; omega
         have HRN : Hid (readO s = none) := Lib.hid (HNONE.out (by
           rw [HLS.out, if_pos rfl]
           have h9 := HNL.out
           match ns, h9 with
           | [], _ => rfl
           | [a], h9 => exact absurd h9.symm (by simpa using hm1)
           | _ :: _ :: _, _ => rfl))
         clear qU fU lU
         have qT := fun i => gT.cell i; have fT := fun i => gT.frozen i; have lT := gT.lt
         go_wp2_with fail
         have G : Blk ((w3.setCell ⟨w.heap.size, 0, none⟩ (.int .i64 0)).setCell ⟨w.heap.size, 1, none⟩ (.slice none 0 0)) w.heap.size 24 #[.int .i64 0, .slice none 0 0] := by simpa using ((gT.set_ 0 (.int .i64 0)).set_ 1 (.slice none 0 0))
         have qG := fun i => G.cell i
         exact bodyPost_ret (v := .tuple #[.agg #[.int .i64 0, .slice none 0 0], .bool false]) (by simp [results, Tryz.results78, go_sem, qG]) rfl (HNO.out _ ((hB.setCell (p := ⟨w.heap.size, 0, none⟩) (Nat.le_refl _) (.int .i64 0)).setCell (p := ⟨w.heap.size, 1, none⟩) (Nat.le_refl _) (.slice none 0 0)) HRN.out)
       ·have hki : ((k : Int) == 0) = false := beq_false_of_ne (by omega)
        have hw0r := HW0.out
        by_cases hcopy : w0 = wCopy
        ·skip
         have hbq : (w0.toList == [99, 111, 112, 121]) = true := by rw [hcopy, copy_list]; rfl
         have hf3 : Hid (looseF 0 (0, []) M = looseF (k + 1) (Wn, content (cps ++ [(.slice none 0 0, [])])) (M.drop (k + 1))) := Lib.hid (by rw [HF.out, HLS.out, if_neg hk0, if_pos hcopy, content_copy]; rfl)
         have hcl : cps.length ≤ 501 := by have := hbd.out.1.1; omega
         clear hcopy
         have ho9 := hcp.1.alloc (.cells #[.slice none 0 0] 77)
         go_upto_region 5 with (at_builtin; refine wpList_append_any _ rfl _ _ 22 rfl SS 77 i77 (.slice none 0 0) 1 24 Tryz.underlying22 fi fz0 fz1 fz2 rfl (by decide) (.slice va cps.length vc) cps.length (cps.map Prod.fst) rfl ho9 (w3.heap.size + 1) (some ⟨w3.heap.size, 0, none⟩) 1 1 [.slice none 0 0] rfl (Rd.blkN (Blk.new w3 77 #[.slice none 0 0]) rfl (Nat.lt_succ_self _)).reads (by simp [Value.oneCell']) (by unfold maxLen; omega) (by omega) (by simp only [World.size_alloc]; omega) (fun v9 w9 hown9 hg9 hob9 => ?_); (obtain ⟨na, nc, rfl⟩ := own_slice hown9); (have gU9 := (gU.alloc (.cells #[.slice none 0 0] 77)).kept_own ho9 (by decide) hg9); (have qU9 := fun i => gU9.cell i); (have fU9 := fun i => gU9.frozen i); (have lU9 := gU9.lt))
         have hgb : Gb2 (Value.slice va cps.length vc).ownBlock none w3 w9 := ((Gb2.of_below (Below.refl _ w3)).alloc (.cells #[.slice none 0 0] 77)).grown hg9 (.inl rfl)
         have hB9 := (hB.alloc hB.size (.cells #[.slice none 0 0] 77)).grown hg9 (by simp only [World.size_alloc]; have := hB.size; omega) (fun g hg => by have := (ho9.lt g hg).1; omega)
         have gT9 := (gT.alloc (.cells #[.slice none 0 0] 77)).kept_own ho9 (by decide) hg9
         have hgr4 : ∀ k x, rows[k]? = some x → w9.cell? ⟨g5, k, none⟩ = some (.string x) := fun j y hy => hg9.cell ((World.cell?_alloc_lt w3 (.cells #[.slice none 0 0] 77) ⟨g5, j, none⟩ (Nat.lt_of_lt_of_le hg5S hS0)).trans (HGR3.out j y hy)) (fun e => by have h9 : SS ≤ g5 := (ho9.lt _ e.symm).1; omega)
         have hS4 : SS ≤ w9.heap.size := Nat.le_trans hS0 hgb.size
         replace hcp := hcp.copy hown9 hgb
         clear gU qU fU lU hB gT hS0 hgb ho9 hown9 hg9 qU9 fU9 lU9
         have gU := gU9; have hB := hB9; have gT := gT9; have hS0 := hS4
         clear gU9 hB9 gT9 hS4
         replace gU : Blk (w9.setCell ⟨w.heap.size + 1, 1, none⟩ (.slice na (cps.length + 1) nc)) (w.heap.size + 1) 24 #[.int .i64 (Wn : Int), .slice na (cps.length + 1) nc] := by simpa using gU.set_ 1 (.slice na (cps.length + 1) nc)
         replace gT := gT.far (p := ⟨w.heap.size + 1, 1, none⟩) (show w.heap.size ≠ w.heap.size + 1 by omega) (.slice na (cps.length + 1) nc)
         replace hcp := hcp.set (a := ⟨w.heap.size + 1, 1, none⟩) hS1 (.slice na (cps.length + 1) nc)
         replace hB := hB.setCell (p := ⟨w.heap.size + 1, 1, none⟩) (show w.heap.size ≤ w.heap.size + 1 by omega) (.slice na (cps.length + 1) nc)
         have hgr9 : ∀ k x, rows[k]? = some x → (w9.setCell ⟨w.heap.size + 1, 1, none⟩ (.slice na (cps.length + 1) nc)).cell? ⟨g5, k, none⟩ = some (.string x) := fun j y hy => (grown_set w9 ⟨w.heap.size + 1, 1, none⟩ (.slice na (cps.length + 1) nc)).cell (hgr4 j y hy) (fun e => by injection e with e; have e2 : g5 = w.heap.size + 1 := e; omega)
         have hS9 : SS ≤ (w9.setCell ⟨w.heap.size + 1, 1, none⟩ (.slice na (cps.length + 1) nc)).heap.size := by simpa using hS0
         have HGR9 := Lib.hid hgr9; clear hgr9
         generalize (w9.setCell ⟨w.heap.size + 1, 1, none⟩ (.slice na (cps.length + 1) nc)) = WN at *
         clear hgr4
         go_wp2_with fail
         go_roundg (N - (k + 1))
         case measure => rw [HG.out]; omega
         case rel => exact ⟨k + 1, Wn, .slice na (cps.length + 1) nc, cps ++ [(.slice none 0 0, [])], rfl, by omega, by go_num, hf3, Lib.hid hbd.out.copy, hcp, gT, gU, HGR9, hB, hS9⟩
        ·by_cases hcn : cps = []
         ·skip
          subst hcn
          have hbq : (w0.toList == [99, 111, 112, 121]) = false := by have h9 := ne_list hcopy; rw [copy_list] at h9; exact h9
          have hf3 : Hid (looseF 0 (0, []) M = looseF (k + 1) (Wn, content []) (M.drop (k + 1))) := Lib.hid (by rw [HF.out, HLS.out, if_neg hk0, if_neg hcopy, if_pos (show content [] = [] from rfl)]; rfl)
          clear hcopy
          go_wp2_with fail
          go_roundg (N - (k + 1))
          case measure => rw [HG.out]; omega
          case rel => exact ⟨k + 1, Wn, _, [], rfl, by omega, by go_num, hf3, Lib.hid hbd.out.up, hcp, gT, gU, HGR3, hB, hS0⟩
         ·skip
          obtain ⟨us, ⟨lv, ls⟩, rfl⟩ : ∃ us c, cps = us ++ [c] := ⟨_, _, (List.dropLast_concat_getLast hcn).symm⟩
          have hlen : (us ++ [(lv, ls)]).length = us.length + 1 := by simp
          rw [hlen] at gU hcp
          have hmapf : (us ++ [(lv, ls)]).map Prod.fst = us.map Prod.fst ++ [lv] := by simp
          have hbq : (w0.toList == [99, 111, 112, 121]) = false := by have h9 := ne_list hcopy; rw [copy_list] at h9; exact h9
          obtain ⟨lb, hlb⟩ : ∃ lb, lb = decide (w0 = wLost) := ⟨_, rfl⟩
          have hbl : (w0.toList == [108, 111, 115, 116]) = lb := by
           rw [hlb, ← lost_list]
           by_cases h9 : w0 = wLost
           ·rw [h9, decide_eq_true rfl]; exact beq_self_eq_true _
           ·rw [ne_list h9, decide_eq_false h9]
          have hne : ¬ content (us ++ [(lv, ls)]) = [] := by rw [content_nil]; simp
          have hf3 : ∀ lv', Hid (looseF 0 (0, []) M = looseF (k + 1) (Wn, content (us ++ [(lv', ls ++ [⟨lb, .slice a8 q c8, ns⟩])])) (M.drop (k + 1))) := fun lv' => Lib.hid (by rw [HF.out, HLS.out, if_neg hk0, if_neg hcopy, if_neg hne, content_line us lv lv', ← hlb]; rfl)
          have hbd2 : ∀ lv', BD (k + 1) Wn (us ++ [(lv', ls ++ [⟨lb, .slice a8 q c8, ns⟩])]) := fun lv' => hbd.out.line ⟨by rw [HNL.out]; omega, HN100.out⟩ (lnP_size (by rw [HWR.out, HRM.out]) hxs lb)
          have HF3 := Lib.hid hf3; have HBD2 := Lib.hid hbd2
          have hll : ls.length ≤ 501 := by have := (hbd.out.1.2 (lv, ls) (by simp)).1; dsimp only at this; omega
          have hul : us.length ≤ 501 := by have := hbd.out.1.1; rw [hlen] at this; omega
          have hcp0 := hcp
          have hcp1 := hcp.1
          rw [hlen, hmapf] at hcp1
          obtain ⟨ga, rfl⟩ := own_ad hcp1 (by omega)
          have hlv := (hcp.2.1 (lv, ls) (by simp)).1
          dsimp only at hlv
          have hlc : w3.cell? ⟨ga, us.length, none⟩ = some lv := by
           obtain ⟨b, off, e, _, hc⟩ := (Rd.of_own hcp1).2 (by omega)
           injection e with e; injection e with e1 e2
           subst e1 e2
           have h9 := hc us.length lv (by rw [List.getElem?_append_right (by simp)]; simp)
           rw [Nat.zero_add] at h9; exact h9
          have hgal := (hcp1.lt ga rfl).2; have hgaS := (hcp1.lt ga rfl).1
          have hzo3 := own_mono hzo2 hw2s
          have hg7lv : lv.ownBlock = none ∨ lv.ownBlock ≠ some g7 := own_ne hlv HW7.out (by decide)
          have HCP := Lib.hid hcp0; have hlv0 := hlv; have gU0 := gU
          clear hcn hmapf hf3 hbd2 hcopy hne hcp hcp0 qU fU lU hlb
          have qU := fun i => gU.cell i
          have hui : (us.length : Int) < (us.length : Int) + 1 := by omega
          go_upto_region 20 with fail
          clear qU
          skip
          refine wp_region_G (fun w' => Blk w' (w.heap.size + 1) 24 #[.int .i64 (Wn : Int), .slice (some ⟨ga, 0, none⟩) (us.length + 1) vc] ∧ w'.cell? ⟨ga, us.length, none⟩ = some lv ∧ w'.cell? ⟨g7, 0, none⟩ = some (.string w0)) 17 (by kernel_rfl) ?_
          have hgb : Gb2 (some ga) lv.ownBlock w3 w3.drew := (Gb2.of_below (Below.refl _ w3)).drew
          have hgaD : ga < w3.drew.heap.size := hgal; have hg7D : g7 < w3.drew.heap.size := (HW7.out.lt g7 rfl).2; have hS0D : SS ≤ w3.drew.heap.size := hS0
          replace gU := gU.drew; replace hlv := hlv.drew; replace hcp1 := hcp1.drew; replace hlc : w3.drew.cell? ⟨ga, us.length, none⟩ = some lv := hlc; replace hw0r : w3.drew.cell? ⟨g7, 0, none⟩ = some (.string w0) := hw0r
          generalize w3.drew = WD at *
          have hTT : Blk WD (w.heap.size + 1) 24 #[.int .i64 (Wn : Int), .slice (some ⟨ga, 0, none⟩) (us.length + 1) vc] ∧ WD.cell? ⟨ga, us.length, none⟩ = some lv ∧ WD.cell? ⟨g7, 0, none⟩ = some (.string w0) := ⟨gU, hlc, hw0r⟩
          refine tk 0 (v := ?_) rfl (Or.inl ⟨by rfl, ?h⟩) hTT ?_
          case h => intro wq hSw; have q0 := fun i => hSw.1.cell i; have q1 := hSw.2.1; have q2 := hSw.2.2; go_simp <;> with_reducible rfl
          simp only [LS, Act.put]
          refine tk 1 (v := ?_) rfl (Or.inl ⟨by rfl, ?h⟩) hTT ?_
          case h => intro wq hSw; have q0 := fun i => hSw.1.cell i; have q1 := hSw.2.1; have q2 := hSw.2.2; go_simp <;> with_reducible rfl
          simp only [LS, Act.put]
          refine tk 2 (v := ?_) rfl (Or.inl ⟨by rfl, ?h⟩) hTT ?_
          case h => intro wq hSw; have q0 := fun i => hSw.1.cell i; have q1 := hSw.2.1; have q2 := hSw.2.2; go_simp <;> with_reducible rfl
          simp only [LS, Act.put]
          refine tk 3 (v := ?_) rfl (Or.inl ⟨by rfl, ?h⟩) hTT ?_
          case h => intro wq hSw; have q0 := fun i => hSw.1.cell i; have q1 := hSw.2.1; have q2 := hSw.2.2; go_simp <;> with_reducible rfl
          simp only [LS, Act.put]
          refine tk 4 (v := ?_) rfl (Or.inl ⟨by rfl, ?h⟩) hTT ?_
          case h => intro wq hSw; have q0 := fun i => hSw.1.cell i; have q1 := hSw.2.1; have q2 := hSw.2.2; go_simp <;> with_reducible rfl
          simp only [LS, Act.put]
          refine tk 5 (v := ?_) rfl (Or.inl ⟨by rfl, ?h⟩) hTT ?_
          case h => intro wq hSw; have q0 := fun i => hSw.1.cell i; have q1 := hSw.2.1; have q2 := hSw.2.2; go_simp <;> with_reducible rfl
          simp only [LS, Act.put]
          refine tk 6 (v := ?_) rfl (Or.inl ⟨by rfl, ?h⟩) hTT ?_
          case h => intro wq hSw; have q0 := fun i => hSw.1.cell i; have q1 := hSw.2.1; have q2 := hSw.2.2; go_simp <;> with_reducible rfl
          simp only [LS, Act.put]
          refine tk 7 (v := ?_) rfl (Or.inl ⟨by rfl, ?h⟩) hTT ?_
          case h => intro wq hSw; have q0 := fun i => hSw.1.cell i; have q1 := hSw.2.1; have q2 := hSw.2.2; go_simp <;> with_reducible rfl
          simp only [LS, Act.put]
          refine tk 8 (v := ?_) rfl (Or.inl ⟨by rfl, ?h⟩) hTT ?_
          case h => intro wq hSw; have q0 := fun i => hSw.1.cell i; have q1 := hSw.2.1; have q2 := hSw.2.2; go_simp <;> with_reducible rfl
          simp only [LS, Act.put]
          refine tk 9 (v := ?_) rfl (Or.inl ⟨by rfl, ?h⟩) hTT ?_
          case h => intro wq hSw; have q0 := fun i => hSw.1.cell i; have q1 := hSw.2.1; have q2 := hSw.2.2; go_simp <;> with_reducible rfl
          simp only [LS, Act.put]
          refine tk 10 (v := ?_) rfl (Or.inl ⟨by rfl, ?h⟩) hTT ?_
          case h => intro wq hSw; have q0 := fun i => hSw.1.cell i; have q1 := hSw.2.1; have q2 := hSw.2.2; go_simp <;> with_reducible rfl
          simp only [LS, Act.put]
          refine tk 11 (v := ?_) rfl (Or.inl ⟨by rfl, ?h⟩) hTT ?_
          case h => intro wq hSw; have q0 := fun i => hSw.1.cell i; have q1 := hSw.2.1; have q2 := hSw.2.2; go_simp <;> with_reducible rfl
          simp only [LS, Act.put]
          refine tk 12 (v := ?_) rfl (Or.inl ⟨by rfl, ?h⟩) hTT ?_
          case h => intro wq hSw; have q0 := fun i => hSw.1.cell i; have q1 := hSw.2.1; have q2 := hSw.2.2; go_simp <;> with_reducible rfl
          simp only [LS, Act.put]
          refine tk 13 (v := ?_) rfl (Or.inl ⟨by rfl, ?h⟩) hTT ?_
          case h => intro wq hSw; have q0 := fun i => hSw.1.cell i; have q1 := hSw.2.1; have q2 := hSw.2.2; go_simp <;> with_reducible rfl
          simp only [LS, Act.put]
          refine o1 14 rfl fun K hK => ?_
          go_simp
          replace gU := gU.alloc (.cells #[.bool lb, .slice a8 q c8] 76); replace hlv := hlv.alloc (.cells #[.bool lb, .slice a8 q c8] 76); replace hcp1 := hcp1.alloc (.cells #[.bool lb, .slice a8 q c8] 76); replace hgb := hgb.alloc (.cells #[.bool lb, .slice a8 q c8] 76)
          replace hlc := (World.cell?_alloc_lt WD (.cells #[.bool lb, .slice a8 q c8] 76) ⟨ga, us.length, none⟩ hgaD).trans hlc
          replace hw0r := (World.cell?_alloc_lt WD (.cells #[.bool lb, .slice a8 q c8] 76) ⟨g7, 0, none⟩ hg7D).trans hw0r
          replace hTT := And.intro gU (And.intro hlc hw0r)
          refine hK _ _ (.inr hTT) ?_
          clear hK K
          try simp only [LS, Act.put]
          refine o1 15 rfl fun K hK => ?_
          rw [if_pos (by rfl)]
          refine wp_append_any _ _ _ 77 rfl SS 76 i76 (.agg #[.bool false, .slice none 0 0]) 2 32 Tryz.underlying77 gi gz0 gz1 gz2 rfl (by decide) lv ls.length (ls.flatMap CL.cells) rfl hlv (WD.heap.size + 1) (some ⟨WD.heap.size, 0, none⟩) 1 1 [.bool lb, .slice a8 q c8] rfl (Rd.blkN (Blk.new WD 76 #[.bool lb, .slice a8 q c8]) rfl (Nat.lt_succ_self _)).reads (fun u hu => by rcases (by simpa using hu : u = .bool lb ∨ u = .slice a8 q c8) with rfl | rfl <;> rfl) (by unfold maxLen; omega) (by omega) (by simp only [World.size_alloc]; omega) (fun v9 w9 hown9 hg9 hob9 => ?_)
          obtain ⟨na, nc, rfl⟩ := own_slice hown9
          have hgbs := hgb.size
          have hne1 : some (w.heap.size + 1) ≠ lv.ownBlock := fun e => by have := (hlv.lt _ e.symm).1; omega
          have hne2 : some ga ≠ lv.ownBlock := fun e => by rcases own_ne hlv hcp1 (by decide) with h9 | h9; rw [h9] at e; cases e; exact h9 e.symm
          have hne3 : some g7 ≠ lv.ownBlock := fun e => by rcases hg7lv with h9 | h9; rw [h9] at e; cases e; exact h9 e.symm
          replace gU := gU.grown hg9 hne1
          replace hlc := hg9.cell hlc hne2
          replace hw0r := hg9.cell hw0r hne3
          have hcp9 := hcp1.kept hg9 (.inr hne2)
          replace hgb := hgb.grown hg9 (.inr (.inl rfl))
          replace hTT := And.intro gU (And.intro hlc hw0r)
          have hbg : ∃ cur, Blk w9 ga 77 cur := by
           rcases hcp9.2 with ⟨e, _⟩ | ⟨g2, cap2, cur, e, _, hgg, _⟩
           ·cases e
           ·cases e; exact ⟨cur, hgg⟩
          obtain ⟨cur, hbg⟩ := hbg
          have hfz := hbg.frozen us.length; have hlg := hbg.lt
          refine hK _ _ (.inr hTT) ?_
          clear hK K
          try simp only [LS, Act.put]
          refine tk 16 (v := ?_) rfl (Or.inl ⟨by rfl, ?h⟩) hTT ?_
          case h => intro wq hSw; have q0 := fun i => hSw.1.cell i; have q1 := hSw.2.1; have q2 := hSw.2.2; go_simp <;> with_reducible rfl
          simp only [LS, Act.put]
          refine o1 17 rfl fun K hK => ?_
          go_simp
          refine hK _ _ (.inl rfl) ?_
          clear hK K
          try simp only [LS, Act.put]
          refine wpG_done (by kernel_rfl) ?_ _
          clear hTT
          have hput := own_putL hcp9 us.length (by omega) (.slice na (ls.length + 1) nc)
          rw [set_last (by simp)] at hput
          have hn9 := own_ne hown9 hcp9 (by decide)
          have hv9 := hown9.kept (grown_set w9 ⟨ga, us.length, none⟩ (.slice na (ls.length + 1) nc)) hn9
          have hgb9 := hgb.set (p := ⟨ga, us.length, none⟩) (.slice na (ls.length + 1) nc) (.inl rfl)
          have hBS := hgb9.to_below (Below.refl SS w3) hS0 (fun z e => by injection e with e; omega) (fun z e => (hlv0.lt z e).1)
          have hcpN := (HCP.out).line (l := ⟨lb, .slice a8 q c8, ns⟩) hzo3 hput hv9 hgb9 (by rcases hob9 with h9 | h9; exact .inl h9; exact .inr fun z hz => by rw [h9] at hz; cases hz; have := hgbs; omega)
          have gT9 := gT.below hBS (by omega)
          have gU9 := gU0.below hBS (by omega)
          have hB9 := hB.trans (hBS.mono (by omega))
          have hgr4 : ∀ k x, rows[k]? = some x → (w9.setCell ⟨ga, us.length, none⟩ (.slice na (ls.length + 1) nc)).cell? ⟨g5, k, none⟩ = some (.string x) := fun j y hy => (hBS.cell (p := ⟨g5, j, none⟩) hg5S).trans (HGR3.out j y hy)
          have hS9 : SS ≤ (w9.setCell ⟨ga, us.length, none⟩ (.slice na (ls.length + 1) nc)).heap.size := Nat.le_trans hS0 hBS.size
          have HGR9 := Lib.hid hgr4
          clear hgr4 gU hlc hw0r hcp9 hbg hfz hlg hown9 hg9 hob9 hgb hput hv9 hBS gT hB
          generalize w9.setCell ⟨ga, us.length, none⟩ (.slice na (ls.length + 1) nc) = WN at *
          go_wp2_with fail
          go_roundg (N - (k + 1))
          case measure => rw [HG.out]; omega
          case rel => exact ⟨k + 1, Wn, .slice (some ⟨ga, 0, none⟩) (us.length + 1) vc, us ++ [(.slice na (ls.length + 1) nc, ls ++ [⟨lb, .slice a8 q c8, ns⟩])], rfl, by omega, by go_num, HF3.out _, Lib.hid (HBD2.out _), hcpN, gT9, gU9, HGR9, hB9, hS9⟩
  ·have hge : ¬ (k : Int) < (rn : Int) - 2 := by have := HNN.out; omega
   obtain rfl : k = N := by omega
   have hb9 := read_opened hcp rfl
   have hst := hbd.out
   have hcl : cps.length ≤ 501 := by have := hst.1.1; omega
   have hlb : linesB Wn (cps.map cVC) = jnS [wBook, dS Wn] ⟨#[32]⟩ :: plP (toI (content cps)) := by rw [linesB_plain, plain_of, linesP_pl]
   have hprint := refPrint_any Wn va cps.length vc (cps.map cVC) wr hst.2.1 (by omega) hb9.2.2.1 hb9.2.2.2 (fun c hc => by
       obtain ⟨d, hd, rfl⟩ := List.mem_map.1 hc
       obtain ⟨e1, e2⟩ := hst.1.2 d hd
       refine ⟨by show d.2.length ≤ 1000; omega, fun l hl => ?_⟩
       obtain ⟨l1, hl1, rfl⟩ := List.mem_map.1 hl
       obtain ⟨e3, e4⟩ := e2 l1 hl1
       refine ⟨e3, fun z hz => ?_⟩
       obtain ⟨a, ha, rfl⟩ := List.mem_map.1 hz
       have := e4 a ha
       omega) (by rw [hlb, List.length_cons]; have := hst.2.2.1; omega) (fun p hp => by
       rw [hlb] at hp
       rcases List.mem_cons.1 hp with rfl | hp
       · have := book_size Wn (by have := hst.2.1; omega); omega
       · have := hst.2.2.2 p hp; omega)
   have htx : bookT Wn (cps.map cVC) = txtO (Wn, content cps) := by rw [bookT_plain, plain_of]; rfl
   rw [htx] at hprint
   have hfin : looseF 0 (0, []) M = some (Wn, content cps) := by rw [hf.out, List.drop_of_length_le (by rw [HML.out]; exact Nat.le_refl _)]; rfl
   have HFIN := Lib.hid hfin; have HPR := Lib.hid hprint; have HST := Lib.hid hst
   clear hb9 hst hlb hprint htx hfin hf hbd
   obtain ⟨T, hT⟩ : ∃ T, T = txtO (Wn, content cps) := ⟨_, rfl⟩
   rw [← hT] at HPR
   have HT := Lib.hid hT; clear hT
   have qU := fun i => gU.cell i
   go_wp2_with fail
   refine HPR.out.mono ?_; rintro e w3 ⟨rfl, hb⟩
   clear qU
   replace gT := gT.below hb gT.lt; replace gU := gU.below hb gU.lt; replace hcp := hcp.of_gb hb; replace hB := hB.trans (hb.mono hB.size); clear hb
   by_cases hts : T = s
   ·have hbq : (T.toList == s.toList) = true := by rw [hts]; simp
    have hrd : readO s = some (Wn, content cps) := by rw [HRO.out, HFIN.out, Option.bind_some, if_pos (by rw [← HT.out, hts])]
    have HRD := Lib.hid hrd; clear hrd hts
    have qT := fun i => gT.cell i; have fT := fun i => gT.frozen i; have lT := gT.lt
    have qU := fun i => gU.cell i
    go_wp2_with fail
    have G : Blk ((w3.setCell ⟨w.heap.size, 0, none⟩ (.int .i64 (Wn : Int))).setCell ⟨w.heap.size, 1, none⟩ (.slice va cps.length vc)) w.heap.size 24 #[.int .i64 (Wn : Int), .slice va cps.length vc] := by simpa using ((gT.set_ 0 (.int .i64 (Wn : Int))).set_ 1 (.slice va cps.length vc))
    have qG := fun i => G.cell i
    have hc9 := (hcp.set (a := ⟨w.heap.size, 0, none⟩) (show w.heap.size < SS by omega) (.int .i64 (Wn : Int))).set (a := ⟨w.heap.size, 1, none⟩) (show w.heap.size < SS by omega) (.slice va cps.length vc)
    exact bodyPost_ret (v := .tuple #[.agg #[.int .i64 (Wn : Int), .slice va cps.length vc], .bool true]) (by simp [results, Tryz.results78, go_sem, qG]) rfl (HYES.out _ _ cps (Wn, content cps) ((hB.setCell (p := ⟨w.heap.size, 0, none⟩) (Nat.le_refl _) (.int .i64 (Wn : Int))).setCell (p := ⟨w.heap.size, 1, none⟩) (Nat.le_refl _) (.slice va cps.length vc)) HRD.out (hc9.mono (by omega)) rfl (HST.out.mono (by omega)))
   ·have hbq : (T.toList == s.toList) = false := ne_list hts
    have HRN : Hid (readO s = none) := Lib.hid (by rw [HRO.out, HFIN.out, Option.bind_some, if_neg (by rw [← HT.out]; exact hts)])
    clear hts
    have qT := fun i => gT.cell i; have fT := fun i => gT.frozen i; have lT := gT.lt
    go_wp2_with fail
    have G : Blk ((w3.setCell ⟨w.heap.size, 0, none⟩ (.int .i64 0)).setCell ⟨w.heap.size, 1, none⟩ (.slice none 0 0)) w.heap.size 24 #[.int .i64 0, .slice none 0 0] := by simpa using ((gT.set_ 0 (.int .i64 0)).set_ 1 (.slice none 0 0))
    have qG := fun i => G.cell i
    exact bodyPost_ret (v := .tuple #[.agg #[.int .i64 0, .slice none 0 0], .bool false]) (by simp [results, Tryz.results78, go_sem, qG]) rfl (HNO.out _ ((hB.setCell (p := ⟨w.heap.size, 0, none⟩) (Nat.le_refl _) (.int .i64 0)).setCell (p := ⟨w.heap.size, 1, none⟩) (Nat.le_refl _) (.slice none 0 0)) HRN.out)
end
end Go.Proofs.YtekmnelpkogppaaGreatDoor
