import Derived.Test.YtekmnelpkogppaaGreatDoorKx11
set_option linter.unusedVariables false
set_option linter.unusedSimpArgs false
set_option maxRecDepth 100000
set_option maxHeartbeats 40000000
namespace Go.Proofs.YtekmnelpkogppaaGreatDoor
section
set_option linter.unusedVariables false
set_option linter.unusedSimpArgs false
section -- WkV2
open Go.RowKit Go.Lib
theorem jnS_size (xs : List ByteArray) (sep : ByteArray) (M : Nat) (h : ∀ x ∈ xs, x.size ≤ M) : (jnS xs sep).size ≤ xs.length * (M + sep.size) := by
 have h1 := join_len sep.data.toList M (xs.map (·.data.toList)) (fun y hy => by obtain ⟨x, hx, rfl⟩ := List.mem_map.1 hy; rw [size_list]; exact h x hx)
 rw [List.length_map, size_list] at h1
 show (List.toArray (join (xs.map (·.data.toList)) sep.data.toList)).size ≤ _
 rw [List.size_toArray]
 exact h1
end
section -- WkV5
open Go.RowKit Go.Lib
theorem cutL_end (c : UInt8) : ∀ x : List UInt8, c ∉ x → cutL c x = [x]
 | [], _ => rfl
 | b :: x, h => by
  have h1 : b ≠ c := fun e => h (by simp [e])
  rw [cutL, if_neg h1, cutL_end c x (fun hx => h (by simp [hx]))]
  rfl
theorem cutL_app (c : UInt8) (t : List UInt8) : ∀ x : List UInt8, c ∉ x → cutL c (x ++ c :: t) = x :: cutL c t
 | [], _ => by rw [List.nil_append, cutL, if_pos rfl]
 | b :: x, h => by
  have h1 : b ≠ c := fun e => h (by simp [e])
  rw [List.cons_append, cutL, if_neg h1, cutL_app c t x (fun hx => h (by simp [hx]))]
  rfl
theorem cutL_join (c : UInt8) : ∀ (x : List UInt8) (r : List (List UInt8)), c ∉ x → (∀ y ∈ r, c ∉ y) → cutL c (join (x :: r) [c]) = x :: r
 | x, [], hx, _ => by rw [join_one]; exact cutL_end c x hx
 | x, y :: r, hx, hr => by
  have ih := cutL_join c y r (hr y (by simp)) (fun z hz => hr z (by simp [hz]))
  have e : join (x :: y :: r) [c] = x ++ c :: join (y :: r) [c] := by
   rw [join_cons, join_cons]
   simp [joinTail]
  rw [e, cutL_app c _ x hx, ih]
theorem map_data_inj : ∀ {a b : List ByteArray}, a.map (·.data.toList) = b.map (·.data.toList) → a = b
 | [], [], _ => rfl
 | [], _ :: _, h => by simp at h
 | _ :: _, [], h => by simp at h
 | x :: a, y :: b, h => by
  simp only [List.map_cons, List.cons.injEq] at h
  rw [ba_list h.1, map_data_inj h.2]
theorem splitB_join (c : UInt8) (x : ByteArray) (r : List ByteArray) (hx : c ∉ x.data.toList) (hr : ∀ y ∈ r, c ∉ y.data.toList) : splitB ⟨#[c]⟩ 0 (countB (jnS (x :: r) ⟨#[c]⟩) ⟨#[c]⟩) (jnS (x :: r) ⟨#[c]⟩) = x :: r := by
 apply map_data_inj
 rw [splitB_cut]
 show cutL c (join ((x :: r).map (·.data.toList)) [c]).toArray.toList = _
 rw [List.map_cons]
 exact cutL_join c _ _ hx (fun y hy => by obtain ⟨z, hz, rfl⟩ := List.mem_map.1 hy; exact hr z hz)
end
section -- WkVc
open Go.RowKit Go.Lib
theorem not_mem_tail {c : UInt8} {sep : List UInt8} (h1 : c ∉ sep) : ∀ r : List (List UInt8), (∀ x ∈ r, c ∉ x) → c ∉ joinTail sep r
 | [], _ => by simp [joinTail]
 | x :: r, h => by
  have e : joinTail sep (x :: r) = sep ++ x ++ joinTail sep r := by simp [joinTail]
  rw [e, List.mem_append, List.mem_append]
  rintro ((h2 | h2) | h2)
  ·exact h1 h2
  ·exact h x (by simp) h2
  ·exact not_mem_tail h1 r (fun y hy => h y (by simp [hy])) h2
theorem not_mem_join {c : UInt8} {sep : List UInt8} (h1 : c ∉ sep) (r : List (List UInt8)) (h : ∀ x ∈ r, c ∉ x) : c ∉ join r sep := by
 cases r with
 | nil => simp [join_nil]
 | cons x r =>
  rw [join_cons, List.mem_append]
  rintro (h2 | h2)
  ·exact h x (by simp) h2
  ·exact not_mem_tail h1 r (fun y hy => h y (by simp [hy])) h2
end
section -- WkXf
open Go.RowKit Go.Lib
def textL (M : List (List UInt8)) : List UInt8 := M.flatMap (· ++ [10])
theorem textL_cons (x : List UInt8) (M : List (List UInt8)) : textL (x :: M) = x ++ 10 :: textL M := by simp [textL]
theorem join_text : ∀ (x : List UInt8) (r : List (List UInt8)), join (x :: r) [10] ++ [10] = textL (x :: r)
 | x, [] => by rw [join_one, textL_cons]; rfl
 | x, y :: r => by
  have e : join (x :: y :: r) [10] = x ++ 10 :: join (y :: r) [10] := by
   rw [join_cons, join_cons]; simp [joinTail]
  rw [e, textL_cons, ← join_text y r]
  simp
theorem set_text (d : UInt8) : ∀ (M : List (List UInt8)) (i : Nat) (c : UInt8), (textL M)[i]? = some c → c ≠ 10 → ∃ j p l, M[j]? = some l ∧ l[p]? = some c ∧ (textL M).set i d = textL (M.set j (l.set p d))
 | [], i, c, h, _ => by simp [textL] at h
 | x :: M, i, c, h, hc => by
  rw [textL_cons] at h ⊢
  rcases Nat.lt_trichotomy i x.length with h1 | h1 | h1
  ·rw [List.getElem?_append_left h1] at h
   refine ⟨0, i, x, rfl, h, ?_⟩
   rw [List.set_append_left _ _ h1, List.set_cons_zero, textL_cons]
  ·subst h1
   rw [List.getElem?_append_right (Nat.le_refl _)] at h
   simp at h
   exact absurd h.symm hc
  ·obtain ⟨k, rfl⟩ : ∃ k, i = x.length + (k + 1) := ⟨i - x.length - 1, by omega⟩
   rw [List.getElem?_append_right (by omega), show x.length + (k + 1) - x.length = k + 1 by omega, List.getElem?_cons_succ] at h
   obtain ⟨j, p, l, e1, e2, e3⟩ := set_text d M k c h hc
   refine ⟨j + 1, p, l, by simpa using e1, e2, ?_⟩
   rw [List.set_append_right _ _ (by omega), show x.length + (k + 1) - x.length = k + 1 by omega, List.set_cons_succ, e3, List.set_cons_succ, textL_cons]
def nB (i : Nat) : List UInt8 → Nat → Nat
 | [], _ => 0
 | c :: l, p => c.toNat * (p + 1) * (i + 1) + nB i l (p + 1)
def nA : List ByteArray → Nat → Nat
 | [], _ => 0
 | r :: rs, i => nB i r.data.toList 0 + nA rs (i + 1)
theorem sumB_n (i : Nat) (hi : i ≤ 1000) : ∀ (l : List UInt8) (p : Nat) (acc : Int), p + l.length ≤ 1000 → 0 ≤ acc → acc + l.length * 300000000 ≤ 4000000000000000000 → sumB i l p acc = acc + nB i l p ∧ (nB i l p : Int) ≤ l.length * 300000000
 | [], _, acc, _, _, _ => by simp [sumB, nB]
 | c :: l, p, acc, hl, h0, h1 => by
  rw [List.length_cons] at hl h1
  have hc : (c.toNat : Int) ≤ 255 := by have := c.toNat_lt; omega
  obtain ⟨_, m1⟩ := mulB (x := (c.toNat : Int)) (y := (p : Int) + 1) (a := 255) (b := 1000) (by omega) (by omega) (by omega) (by omega)
  have m0 : 0 ≤ (c.toNat : Int) * ((p : Int) + 1) := Int.mul_nonneg (by omega) (by omega)
  obtain ⟨x, hx⟩ : ∃ x, x = (c.toNat : Int) * ((p : Int) + 1) := ⟨_, rfl⟩
  rw [← hx] at m0 m1
  obtain ⟨_, n1⟩ := mulB (x := x) (y := (i : Int) + 1) (a := 255000) (b := 1001) (by omega) (by omega) (by omega) (by omega)
  have n0 : 0 ≤ x * ((i : Int) + 1) := Int.mul_nonneg m0 (by omega)
  have e : sumB i (c :: l) p acc = sumB i l ((p : Int) + 1) (acc + x * ((i : Int) + 1)) := by
   rw [sumB, w64 (c.toNat : Int) (by omega), ← hx, w64 x (by omega), w64 (x * ((i : Int) + 1)) (by omega), w64 (acc + x * ((i : Int) + 1)) (by omega)]
  rw [e, List.length_cons, nB]
  have hy2 : ((c.toNat * (p + 1) * (i + 1) : Nat) : Int) = x * ((i : Int) + 1) := by rw [hx]; push_cast; rfl
  obtain ⟨y, hy⟩ : ∃ y, y = x * ((i : Int) + 1) := ⟨_, rfl⟩
  rw [← hy] at n0 n1 hy2 ⊢
  obtain ⟨r1, r2⟩ := sumB_n i hi l (p + 1) (acc + y) (by omega) (by omega) (by omega)
  rw [show ((p : Int) + 1) = ((p + 1 : Nat) : Int) by omega, r1]
  constructor <;> omega
theorem sumA_n : ∀ (rs : List ByteArray) (i : Nat) (acc : Int), i + rs.length ≤ 1000 → (∀ r ∈ rs, r.size ≤ 900) → 0 ≤ acc → acc + rs.length * 300000000000 ≤ 4000000000000000000 → sumA rs i acc = acc + nA rs i
 | [], _, acc, _, _, _, _ => by simp [sumA, nA]
 | r :: rs, i, acc, hl, hs, h0, h1 => by
  rw [List.length_cons] at hl h1
  have hr := hs r (by simp)
  have hrl : r.data.toList.length ≤ 900 := by rw [size_list]; exact hr
  obtain ⟨b1, b2⟩ := sumB_n i (by omega) r.data.toList 0 acc (by omega) h0 (by omega)
  rw [sumA, show ((i : Int) + 1) = ((i + 1 : Nat) : Int) by omega, show (0 : Int) = ((0 : Nat) : Int) from rfl, b1, sumA_n rs (i + 1) _ (by omega) (fun x hx => hs x (by simp [hx])) (by omega) (by omega), nA]
  omega
theorem nB_set (i : Nat) (c d : UInt8) : ∀ (l : List UInt8) (q p : Nat), l[p]? = some c → nB i (l.set p d) q + c.toNat * (q + p + 1) * (i + 1) = nB i l q + d.toNat * (q + p + 1) * (i + 1)
 | [], q, p, h => by simp at h
 | x :: l, q, 0, h => by
  have e : x = c := by simpa using h
  subst e
  rw [List.set_cons_zero, nB, nB]
  simp only [Nat.add_zero]
  omega
 | x :: l, q, p + 1, h => by
  rw [List.set_cons_succ, nB, nB]
  have ih := nB_set i c d l (q + 1) p (by simpa using h)
  rw [show q + 1 + p + 1 = q + (p + 1) + 1 by omega] at ih
  omega
theorem nA_set (c d : UInt8) (p : Nat) (l l' : ByteArray) (hl : l.data.toList[p]? = some c) (hl' : l'.data.toList = l.data.toList.set p d) : ∀ (rs : List ByteArray) (i j : Nat), rs[j]? = some l → nA (rs.set j l') i + c.toNat * (p + 1) * (i + j + 1) = nA rs i + d.toNat * (p + 1) * (i + j + 1)
 | [], i, j, h => by simp at h
 | x :: rs, i, 0, h => by
  have e : x = l := by simpa using h
  subst e
  have := nB_set i c d x.data.toList 0 p hl
  rw [List.set_cons_zero, nA, nA, hl']
  simp only [Nat.zero_add, Nat.add_zero] at this ⊢
  omega
 | x :: rs, i, j + 1, h => by
  rw [List.set_cons_succ, nA, nA]
  have ih := nA_set c d p l l' hl hl' rs (i + 1) j (by simpa using h)
  rw [show i + 1 + j + 1 = i + (j + 1) + 1 by omega] at ih
  omega
theorem dgt_inj {a b : Nat} (ha : a < 10) (hb : b < 10) (h : dgt a = dgt b) : a = b := by
 have := congrArg UInt8.toNat h
 unfold dgt at this
 rw [UInt8.toNat_ofNat', UInt8.toNat_ofNat'] at this
 omega
theorem dgt3_inj {a b : Nat} (ha : a < 1000) (hb : b < 1000) (h : dgt3 a = dgt3 b) : a = b := by
 unfold dgt3 at h
 have e := congrArg (fun x : ByteArray => x.data.toList) h
 simp only [List.cons.injEq, and_true] at e
 obtain ⟨e1, e2, e3⟩ := e
 have h1 := dgt_inj (by omega) (by omega) e1
 have h2 := dgt_inj (by omega) (by omega) e2
 have h3 := dgt_inj (by omega) (by omega) e3
 omega
end
section -- WkXg
open Go.RowKit Go.Lib
theorem set_map (M : List ByteArray) (j : Nat) (l' : ByteArray) : (M.set j l').map (·.data.toList) = (M.map (·.data.toList)).set j l'.data.toList := by rw [List.map_set]
theorem textL_jn (M : List ByteArray) (h : M ≠ []) : (jnS M ⟨#[10]⟩ ++ ⟨#[10]⟩).data.toList = textL (M.map (·.data.toList)) := by
 cases M with
 | nil => exact absurd rfl h
 | cons x r =>
  rw [ByteArray.data_append, Array.toList_append, List.map_cons, ← join_text]
  rfl
end
section -- WkXi
open Go.RowKit Go.Lib
theorem bytes_below (w : World) (e : TypeId) (s : ByteArray) : Below w.heap.size w (bytesWorld w e s) :=
 ⟨rfl, rfl, rfl, by rw [bytesWorld_size]; omega, fun k hk => bytesWorld_at_old w e s k hk⟩
theorem bytes_frozen (w : World) (e : TypeId) (s : ByteArray) (j : Nat) (hj : j < s.size) : (bytesWorld w e s).frozen? ⟨w.heap.size, j, none⟩ = false := by
 have h : s.size ≤ (bytesCells w e s).size := by simp [bytesCells]
 simp [World.frozen?, bytesWorld_at_new]
 omega
end
end
section
open Go.RowKit Go.Lib
theorem jnS_one (x sep : ByteArray) : jnS [x] sep = x := by
 apply ba_list
 show join [x.data.toList] sep.data.toList = _
 rw [join_one]
theorem textOf_copy (w : World) :
  Calls Tryz.prog 158 #[.iface 252 (.agg #[])] w fun e w' => e = .returned (.string wCopy) ∧ Below w.heap.size w w' := by
 have ha0 : ∀ w, (Instr.typeAssert (.iface 252 (.agg #[])) 219 251 true).run Tryz.prog w = .ok (.tuple #[.agg #[.int .i64 0], .bool false]) w := fun _ => by kernel_rfl
 have ha1 : ∀ w, (Instr.typeAssert (.iface 252 (.agg #[])) 219 255 true).run Tryz.prog w = .ok (.tuple #[.agg #[.slice none 0 0], .bool false]) w := fun _ => by kernel_rfl
 have ha2 : ∀ w, (Instr.typeAssert (.iface 252 (.agg #[])) 219 258 true).run Tryz.prog w = .ok (.tuple #[.agg #[.int .i64 0], .bool false]) w := fun _ => by kernel_rfl
 have hm : ∀ w, (method 425 252 (.agg #[]) "kelir/version.first").run Tryz.prog w = .ok (257, .agg #[]) w := fun _ => by kernel_rfl
 have hj := fun (A : Option Addr) (c : Nat) (wx : World) hc hr => jn_any A 1 c [wCopy] ⟨#[32]⟩ wx (by omega) (by omega) hc (fun x hx => by obtain rfl : x = wCopy := (by simpa using hx); decide) (by decide) hr
 rw [jnS_one] at hj
 have HJ := Lib.hid hj; clear hj
 obtain ⟨wd, hwd⟩ : ∃ wd, wd = wCopy := ⟨_, rfl⟩
 have hword := word_copy
 rw [← hwd] at hword HJ ⊢
 clear hwd
 have hB := Below.refl w.heap.size w
 go_enter Tryz.func158, Tryz.ntmps158
 go_wp2_with (first
   | (go_at_call 257; refine (first_copy _).mono ?_; rintro e w1 ⟨rfl, hb⟩; replace hB := hB.trans (hb.mono hB.size); clear hb)
   | (go_at_call 190; refine (hword _).mono ?_; rintro e w2 ⟨rfl, rfl⟩; (have hown := World.ownsRow_lit (base := w.heap.size) (e := 9) (size := 1) w1 #[.string wd] 1 hB.size (by unfold maxLen; omega) rfl); replace hB := hB.alloc hB.size (.cells #[.string wd] 9))
   | (go_at_call 159; refine (HJ.out _ _ _ (own_le0 hown) (Rd.of_own hown)).mono ?_; rintro e w3 ⟨rfl, hb⟩; replace hB := hB.trans (hb.mono hB.size)))
 go_ret
 exact ⟨rfl, hB⟩
theorem textOf_lost (w : World) :
  Calls Tryz.prog 158 #[.iface 253 (.agg #[])] w fun e w' => e = .returned (.string wLost) ∧ Below w.heap.size w w' := by
 have ha0 : ∀ w, (Instr.typeAssert (.iface 253 (.agg #[])) 219 251 true).run Tryz.prog w = .ok (.tuple #[.agg #[.int .i64 0], .bool false]) w := fun _ => by kernel_rfl
 have ha1 : ∀ w, (Instr.typeAssert (.iface 253 (.agg #[])) 219 255 true).run Tryz.prog w = .ok (.tuple #[.agg #[.slice none 0 0], .bool false]) w := fun _ => by kernel_rfl
 have ha2 : ∀ w, (Instr.typeAssert (.iface 253 (.agg #[])) 219 258 true).run Tryz.prog w = .ok (.tuple #[.agg #[.int .i64 0], .bool false]) w := fun _ => by kernel_rfl
 have hm : ∀ w, (method 425 253 (.agg #[]) "kelir/version.first").run Tryz.prog w = .ok (258, .agg #[]) w := fun _ => by kernel_rfl
 have hj := fun (A : Option Addr) (c : Nat) (wx : World) hc hr => jn_any A 1 c [wLost] ⟨#[32]⟩ wx (by omega) (by omega) hc (fun x hx => by obtain rfl : x = wLost := (by simpa using hx); decide) (by decide) hr
 rw [jnS_one] at hj
 have HJ := Lib.hid hj; clear hj
 obtain ⟨wd, hwd⟩ : ∃ wd, wd = wLost := ⟨_, rfl⟩
 have hword := word_lost
 rw [← hwd] at hword HJ ⊢
 clear hwd
 have hB := Below.refl w.heap.size w
 go_enter Tryz.func158, Tryz.ntmps158
 go_wp2_with (first
   | (go_at_call 258; refine (first_lost _).mono ?_; rintro e w1 ⟨rfl, hb⟩; replace hB := hB.trans (hb.mono hB.size); clear hb)
   | (go_at_call 190; refine (hword _).mono ?_; rintro e w2 ⟨rfl, rfl⟩; (have hown := World.ownsRow_lit (base := w.heap.size) (e := 9) (size := 1) w1 #[.string wd] 1 hB.size (by unfold maxLen; omega) rfl); replace hB := hB.alloc hB.size (.cells #[.string wd] 9))
   | (go_at_call 159; refine (HJ.out _ _ _ (own_le0 hown) (Rd.of_own hown)).mono ?_; rintro e w3 ⟨rfl, hb⟩; replace hB := hB.trans (hb.mono hB.size)))
 go_ret
 exact ⟨rfl, hB⟩
end
section
open Go.RowKit Go.Lib
theorem textOf_book (n : Nat) (hn : n < 1000) (m : Int) (w : World) (h : Env m w) :
  Calls Tryz.prog 158 #[.iface 251 (.agg #[.int .i64 n])] w fun e w' => e = .returned (.string (jnS [wBook, dS n] ⟨#[32]⟩)) ∧ Below w.heap.size w w' := by
 obtain ⟨i9, hi, hz0, hz1', hz2'⟩ := info_parts info9
 have ha0 : ∀ w, (Instr.typeAssert (.iface 251 (.agg #[.int .i64 n])) 219 251 true).run Tryz.prog w = .ok (.tuple #[.agg #[.int .i64 n], .bool true]) w := fun _ => by kernel_rfl
 have hm : ∀ w, (method 425 251 (.agg #[.int .i64 n]) "kelir/version.first").run Tryz.prog w = .ok (256, .agg #[.int .i64 n]) w := fun _ => by kernel_rfl
 have hds := dS_size n hn
 have hj := fun (A : Option Addr) (c : Nat) (wx : World) hc hr => jn_any A 2 c [wBook, dS n] ⟨#[32]⟩ wx (by omega) (by omega) hc (fun x hx => by
   rcases (by simpa using hx : x = wBook ∨ x = dS n) with rfl | rfl
   · decide
   · omega) (by decide) hr
 have hit := fun wx hx => itoa_any n (by omega) m wx hx
 have hdd : (⟨(decDigits n).toArray⟩ : ByteArray) = dS n := rfl
 simp only [hdd] at hit
 have HJ := Lib.hid hj; have HI := Lib.hid hit; clear hj hit hdd hds
 generalize dS n = d at *
 have hword := word_book
 generalize wBook = wd at *
 have hB := Below.refl w.heap.size w
 go_enter Tryz.func158, Tryz.ntmps158
 go_upto_region 5 with (first
   | (go_at_call 256; refine (first_book _ _).mono ?_; rintro e w1 ⟨rfl, hb⟩; replace hB := hB.trans (hb.mono hB.size); clear hb)
   | (go_at_call 190; refine (hword _).mono ?_; rintro e w2 ⟨rfl, rfl⟩; (have hown : (w1.alloc (.cells #[.string wd] 9)).ownsRow w.heap.size 9 1 (.slice (some ⟨w1.heap.size, 0, none⟩) 1 1) 1 [.string wd] := World.ownsRow_lit (base := w.heap.size) (e := 9) (size := 1) w1 #[.string wd] 1 hB.size (by unfold maxLen; omega) rfl); replace hB := hB.alloc hB.size (.cells #[.string wd] 9)))
 replace hown := hown.alloc (.cells #[.int .i64 n] 251)
 replace hB := hB.alloc hB.size (.cells #[.int .i64 n] 251)
 have hS := Blk.new (w1.alloc (.cells #[.string wd] 9)) 251 #[.int .i64 n]
 obtain ⟨g, hg⟩ : ∃ g, g = w1.heap.size := ⟨_, rfl⟩
 simp only [World.size_alloc] at hS
 rw [← hg] at hown hS ⊢
 clear hg
 generalize ((w1.alloc (.cells #[.string wd] 9)).alloc (.cells #[.int .i64 n] 251)) = W1 at *
 have qS := fun i => hS.cell i
 go_wp2_with (first
   | (go_at_call 191; refine (HI.out _ (h.below hB)).mono ?_; rintro e w3 ⟨rfl, hb⟩; replace hown := ownsRow_below' hown hb; replace hB := hB.trans (hb.mono hB.size); clear hb qS hS)
   | (at_builtin; refine wpList_append_any _ rfl _ _ 173 rfl w.heap.size 9 i9 (.string ByteArray.empty) 1 16 Tryz.underlying173 hi hz0 hz1' hz2' rfl (by decide) (.slice (some ⟨g, 0, none⟩) 1 1) 1 [.string wd] rfl (hown.alloc _) (w3.heap.size + 1) (some ⟨w3.heap.size, 0, none⟩) 1 1 [.string d] rfl (Rd.blkN (Blk.new w3 9 #[.string d]) rfl (Nat.lt_succ_self _)).reads (by simp [Value.oneCell']) (by unfold maxLen; omega) (by omega) (by have := hB.size; simp only [World.size_alloc]; omega) (fun v' w' hown' hgrow hob => ?_))
   | (go_at_call 159; (have hB2 := (hB.alloc hB.size (.cells #[.string d] 9)).grown hgrow (by have := hB.size; simp only [World.size_alloc]; omega) (fun g hg => ((hown.alloc (.cells #[.string d] 9)).lt g hg).1)); obtain ⟨va, vc, rfl⟩ := own_slice hown'; refine (HJ.out va vc _ (own_le0 hown') (Rd.of_own hown')).mono ?_; rintro e w5 ⟨rfl, hb⟩; replace hB2 := hB2.trans (hb.mono hB2.size)))
 go_ret
 exact ⟨rfl, hB2⟩
theorem itoa_int (x : Int) (h0 : 0 ≤ x) (h1 : x < 1000) (m : Int) (w : World) (h : Env m w) : Calls Tryz.prog 191 #[.int .i64 x] w fun e w' => e = .returned (.string (DZ x)) ∧ Below w.heap.size w w' := by
 have e : x = (x.toNat : Int) := by omega
 have h2 := itoa_any x.toNat (by omega) m w h
 rw [← e] at h2
 exact h2
theorem textOf_line (A : Option Addr) (n cap : Nat) (ws : List Int) (m : Int) (w : World) (h : Env m w) (hn : n ≤ 500) (hw : ∀ x ∈ ws, 0 ≤ x ∧ x < 1000) (hr : Rd w w.heap.size 1 A n (ws.map (Value.int .i64))) :
  Calls Tryz.prog 158 #[.iface 255 (.agg #[.slice A n cap])] w fun e w' => e = .returned (.string (jnS (wLine :: ws.map DZ) ⟨#[32]⟩)) ∧ Below w.heap.size w w' := by
 obtain ⟨i9, hi, hz0, hz1', hz2'⟩ := info_parts info9
 have ha0 : ∀ w, (Instr.typeAssert (.iface 255 (.agg #[.slice A n cap])) 219 251 true).run Tryz.prog w = .ok (.tuple #[.agg #[.int .i64 0], .bool false]) w := fun _ => by kernel_rfl
 have ha1 : ∀ w, (Instr.typeAssert (.iface 255 (.agg #[.slice A n cap])) 219 255 true).run Tryz.prog w = .ok (.tuple #[.agg #[.slice A n cap], .bool true]) w := fun _ => by kernel_rfl
 have hm : ∀ w, (method 425 255 (.agg #[.slice A n cap]) "kelir/version.first").run Tryz.prog w = .ok (259, .agg #[.slice A n cap]) w := fun _ => by kernel_rfl
 have hlen : ws.length = n := by simpa using hr.len
 have hj := fun (A : Option Addr) (c : Nat) (wx : World) hc hr => jn_any A (n + 1) c (wLine :: ws.map DZ) ⟨#[32]⟩ wx (by omega) (by omega) hc (fun x hx => by
   rcases List.mem_cons.1 hx with rfl | hx
   · decide
   · obtain ⟨y, hy, rfl⟩ := List.mem_map.1 hx
     have := hw y hy
     have := DZ_size y this.1 this.2
     omega) (by decide) hr
 have hword := word_line
 have HJ := Lib.hid hj; have HL := Lib.hid hlen; have HW := Lib.hid hw; clear hj hlen hw
 generalize wLine = wd at *
 have hB := Below.refl w.heap.size w
 go_enter Tryz.func158, Tryz.ntmps158
 go_upto_region 8 with (first
   | (go_at_call 259; refine (first_line _ _).mono ?_; rintro e w1 ⟨rfl, hb⟩; replace hB := hB.trans (hb.mono hB.size); clear hb)
   | (go_at_call 190; refine (hword _).mono ?_; rintro e w2 ⟨rfl, rfl⟩; (have hown : (w1.alloc (.cells #[.string wd] 9)).ownsRow w.heap.size 9 1 (.slice (some ⟨w1.heap.size, 0, none⟩) 1 1) 1 [.string wd] := World.ownsRow_lit (base := w.heap.size) (e := 9) (size := 1) w1 #[.string wd] 1 hB.size (by unfold maxLen; omega) rfl); replace hB := hB.alloc hB.size (.cells #[.string wd] 9)))
 replace hown := hown.alloc (.cells #[.slice A n cap] 255)
 replace hB := hB.alloc hB.size (.cells #[.slice A n cap] 255)
 have hS := Blk.new (w1.alloc (.cells #[.string wd] 9)) 255 #[.slice A n cap]
 obtain ⟨g, hg⟩ : ∃ g, g = w1.heap.size := ⟨_, rfl⟩
 simp only [World.size_alloc] at hS
 rw [← hg] at hown hS ⊢
 clear hg
 generalize ((w1.alloc (.cells #[.string wd] 9)).alloc (.cells #[.slice A n cap] 255)) = W1 at *
 have qS := fun i => hS.cell i
 go_wp2_with (fail)
 clear qS hS
 go_loopg [3, 30] n (fun g v i wr => ∃ (k : Nat) (v0 : Value), g = n - k ∧ k ≤ n ∧ v = v0 ∧ i = .int .i64 k ∧ wr.ownsRow w.heap.size 9 1 v0 (k + 1) ((wd :: (ws.take k).map DZ).map Value.string) ∧ Below w.heap.size w wr)
 case atStart => exact ⟨0, _, rfl, Nat.zero_le _, rfl, rfl, hown, hB⟩
 case round =>
  clear hown hB
  obtain ⟨k, v0, hg, hk, rfl, rfl, hown, hB⟩ := hrel
  obtain ⟨va, vc, rfl⟩ := own_slice hown
  have HG := Lib.hid hg; clear hg
  rename World => W2
  by_cases hlt : k < n
  ·have hlti : (k : Int) < n := by omega
   obtain ⟨b, off, hz, rfl, hbw, hcell⟩ := (hr.below hB).atm hlt
   have hts : (ws.take (k + 1)).map DZ = (ws.take k).map DZ ++ [DZ ws[k]] := by rw [List.take_succ_eq_append_getElem hz, List.map_append]; rfl
   have hx := HW.out _ (List.getElem_mem hz)
   have hit := fun wx hx2 => itoa_int ws[k] hx.1 hx.2 m wx hx2
   generalize ws[k] = x at *
   generalize DZ x = d at *
   obtain ⟨ys, hys⟩ : ∃ ys, ys = (wd :: (ws.take k).map DZ).map Value.string := ⟨_, rfl⟩
   rw [← hys] at hown
   have HTS := Lib.hid hts; have HYS := Lib.hid hys; have HI := Lib.hid hit; clear hts hys hit hz hx
   go_wp2_with (first
     | (go_at_call 191; refine (HI.out _ (h.below hB)).mono ?_; rintro e w3 ⟨rfl, hb⟩; replace hown := ownsRow_below' hown hb; replace hB := hB.trans (hb.mono hB.size); clear hb hcell)
     | (at_builtin; refine wpList_append_any _ rfl _ _ 173 rfl w.heap.size 9 i9 (.string ByteArray.empty) 1 16 Tryz.underlying173 hi hz0 hz1' hz2' rfl (by decide) (.slice va (k + 1) vc) (k + 1) ys rfl (hown.alloc _) (w3.heap.size + 1) (some ⟨w3.heap.size, 0, none⟩) 1 1 [.string d] rfl (Rd.blkN (Blk.new w3 9 #[.string d]) rfl (Nat.lt_succ_self _)).reads (by simp [Value.oneCell']) (by unfold maxLen; omega) (by omega) (by have := hB.size; simp only [World.size_alloc]; omega) (fun v' w' hown' hgrow hob => ?_)))
   have hB2 := (hB.alloc hB.size (.cells #[.string d] 9)).grown hgrow (by have := hB.size; simp only [World.size_alloc]; omega) (fun g hg => ((hown.alloc (.cells #[.string d] 9)).lt g hg).1)
   go_roundg (n - (k + 1))
   case measure => rw [HG.out]; omega
   case rel => exact ⟨k + 1, _, rfl, by omega, rfl, by go_num, by rw [HTS.out, ← List.cons_append, List.map_append, ← HYS.out]; exact hown', hB2⟩
  ·obtain rfl : k = n := by omega
   have hge : ¬ (k : Int) < k := by omega
   have htk : ws.take k = ws := List.take_of_length_le (by have := HL.out; omega)
   rw [htk] at hown
   have hcp := own_le0 hown
   have hrd := Rd.of_own hown
   have HRD := Lib.hid hrd
   clear htk hown hrd
   go_wp2_with (first
     | (go_at_call 159; refine (HJ.out va vc _ hcp HRD.out).mono ?_; rintro e w5 ⟨rfl, hb⟩; replace hB := hB.trans (hb.mono hB.size)))
   go_ret
   exact ⟨rfl, hB⟩
end
section
open Go.RowKit Go.Lib
theorem info219 : (Tryz.prog.info? 219).map (fun i => (i.zero, i.size, i.bytes)) = some (some .nilIface, 1, 16) := by kernel_rfl
def lineT (l : VL) : Value := if l.lost then .iface 253 (.agg #[]) else .iface 255 (.agg #[.slice l.A l.n l.cap])
def copyT (c : VC) : List Value := .iface 252 (.agg #[]) :: c.ls.map lineT
def toldV (wn : Int) (cs : List VC) : List Value := .iface 251 (.agg #[.int .i64 wn]) :: cs.flatMap copyT
theorem toldOf_any (wn : Int) (A : Option Addr) (n cap : Nat) (cs : List VC) (w : World) (hn : n ≤ 1000) (hr : Rd w w.heap.size 1 A n (cs.map VC.val)) (hc : ∀ c ∈ cs, c.ok w w.heap.size) (hh : ∀ c ∈ cs, c.n ≤ 1000) :
  Calls Tryz.prog 157 #[.agg #[.int .i64 wn, .slice A n cap]] w fun e w' => ∃ v, e = .returned v ∧ w'.ownsRow w.heap.size 219 1 v (toldV wn cs).length (toldV wn cs) ∧ Below w.heap.size w w' := by
 obtain ⟨i9, hi, hz0, hz1', hz2'⟩ := info_parts info219
 have hlen : cs.length = n := by simpa using hr.len
 have hB : Below w.heap.size w (w.alloc (.cells #[.int .i64 wn, .slice A n cap] 24)) := (Below.refl _ w).alloc (Nat.le_refl _) _
 have hX := Blk.new w 24 #[.int .i64 wn, .slice A n cap]
 have hlX := hX.lt
 have qX := fun i => hX.cell i
 have HL := Lib.hid hlen; have HH := Lib.hid hh; clear hlen hh
 go_enter Tryz.func157, Tryz.ntmps157
 go_upto_region 1 with (fail)
 generalize w.alloc (.cells #[.int .i64 wn, .slice A n cap] 24) = W0 at *
 go_upto_region 2 with (fail)
 have hown : (W0.alloc (.cells #[.iface 251 (.agg #[.int .i64 wn])] 219)).ownsRow w.heap.size 219 1 (.slice (some ⟨W0.heap.size, 0, none⟩) 1 1) 1 [.iface 251 (.agg #[.int .i64 wn])] := World.ownsRow_lit (base := w.heap.size) (e := 219) (size := 1) W0 #[.iface 251 (.agg #[.int .i64 wn])] 1 hB.size (by unfold maxLen; omega) rfl
 replace hB := hB.alloc hB.size (.cells #[.iface 251 (.agg #[.int .i64 wn])] 219)
 replace hX := hX.alloc (.cells #[.iface 251 (.agg #[.int .i64 wn])] 219)
 generalize (W0.alloc (.cells #[.iface 251 (.agg #[.int .i64 wn])] 219)) = W1 at *
 clear qX hlX
 have qX := fun i => hX.cell i
 obtain ⟨b0, hb0⟩ : ∃ b0, b0 = Value.iface 251 (.agg #[.int .i64 wn]) := ⟨_, rfl⟩
 rw [← hb0] at hown
 go_wp2_with (fail)
 clear qX hX
 go_loopg [3, 16] n (fun g v i wr => ∃ (k m : Nat) (v0 : Value) (ys : List Value), g = n - k ∧ k ≤ n ∧ v = v0 ∧ i = .int .i64 k ∧ wr.ownsRow w.heap.size 219 1 v0 m ys ∧ Hid (ys = b0 :: (cs.take k).flatMap copyT) ∧ m ≤ 1 + k * 1001 ∧ Below w.heap.size w wr)
 case atStart => exact ⟨0, 1, _, _, rfl, Nat.zero_le _, rfl, rfl, hown, Lib.hid rfl, by omega, hB⟩
 case round =>
  clear hown hB
  obtain ⟨k, m, v0, ys, hg, hk, rfl, rfl, hown, hys, hm, hB⟩ := hrel
  obtain ⟨va, vc, rfl⟩ := own_slice hown
  have HG := Lib.hid hg; clear hg
  rename World => W2
  by_cases hlt : k < n
  ·have hlti : (k : Int) < n := by omega
   obtain ⟨b, off, hzk, rfl, hbw, hcell⟩ := (hr.below hB).atm (show k < n by omega)
   have hco := hc _ (List.getElem_mem hzk)
   have hcn := HH.out _ (List.getElem_mem hzk)
   have hts : (cs.take (k + 1)).flatMap copyT = (cs.take k).flatMap copyT ++ copyT cs[k] := by rw [List.take_succ_eq_append_getElem hzk, List.flatMap_append]; simp
   have hcT : copyT cs[k] = .iface 252 (.agg #[]) :: cs[k].ls.map lineT := rfl
   generalize cs[k] = c at *
   obtain ⟨cA, cn, ccap, cls⟩ := c
   obtain ⟨c1, c2, c3, c4⟩ := hco
   simp only [VC.val] at hcell c1 c2 c3 c4 hcn hcT
   have HTS := Lib.hid hts; have HCT := Lib.hid hcT; have HYS := hys; clear hts hcT hys hzk
   go_upto_region 7 with (first
     | (at_builtin; refine wpList_append_any _ rfl _ _ 216 rfl w.heap.size 219 i9 .nilIface 1 16 Tryz.underlying216 hi hz0 hz1' hz2' rfl (by decide) (.slice va m vc) m ys rfl (hown.alloc _) (W2.heap.size + 1) (some ⟨W2.heap.size, 0, none⟩) 1 1 [.iface 252 (.agg #[])] rfl (Rd.blkN (Blk.new W2 219 #[.iface 252 (.agg #[])]) rfl (Nat.lt_succ_self _)).reads (by simp [Value.oneCell']) (by unfold maxLen; omega) (by omega) (by have := hB.size; simp only [World.size_alloc]; omega) (fun v' w' hown' hgrow hob => ?_)))
   replace hB := (hB.alloc hB.size (.cells #[.iface 252 (.agg #[])] 219)).grown hgrow (by have := hB.size; simp only [World.size_alloc]; omega) (fun g hg => ((hown.alloc (.cells #[.iface 252 (.agg #[])] 219)).lt g hg).1)
   replace hown := hown'
   clear hgrow hob hown' hcell
   obtain ⟨va', vc', rfl⟩ := own_slice hown
   rename_i W3
   have hll : cls.length = cn := c4.len2
   have HLL := Lib.hid hll; clear hll
   go_loopg [3, 27] cn (fun g v i wr => ∃ (q m2 : Nat) (v0 : Value) (zs : List Value), g = cn - q ∧ q ≤ cn ∧ v = v0 ∧ i = .int .i64 q ∧ wr.ownsRow w.heap.size 219 1 v0 m2 zs ∧ Hid (zs = ys ++ .iface 252 (.agg #[]) :: (cls.take q).map lineT) ∧ m2 ≤ m + 1 + q ∧ Below w.heap.size w wr)
   case atStart => exact ⟨0, m + 1, _, _, rfl, Nat.zero_le _, rfl, rfl, hown, Lib.hid rfl, by omega, hB⟩
   case round =>
    clear hown hB
    obtain ⟨q, m2, v0, zs, hg, hq, rfl, rfl, hown, hzs, hm2, hB⟩ := hrel
    obtain ⟨ua, uc, rfl⟩ := own_slice hown
    have HG2 := Lib.hid hg; clear hg
    rename World => W4
    by_cases hqt : q < cn
    ·have hlti : (q : Int) < cn := by omega
     obtain ⟨b2, off2, hz2, rfl, hb2, hv0, hv1⟩ := (c4.below hB).at2 hqt
     have hts : (cls.take (q + 1)).map lineT = (cls.take q).map lineT ++ [lineT cls[q]] := by rw [List.take_succ_eq_append_getElem hz2, List.map_append]; rfl
     have hlT : lineT cls[q] = if cls[q].lost then .iface 253 (.agg #[]) else .iface 255 (.agg #[.slice cls[q].A cls[q].n cls[q].cap]) := rfl
     generalize cls[q] = l at *
     obtain ⟨lost, lA, ln, lcap, lws⟩ := l
     simp only at hv0 hv1 hlT
     have HTS2 := Lib.hid hts; have HLT := Lib.hid hlT; clear hts hlT hz2
     have hX := Blk.new W4 76 #[.bool lost, .slice lA ln lcap]
     have hlX := hX.lt
     have qX := fun i => hX.cell i
     cases lost with
     | true =>
      go_upto_region 10 with (fail)
      replace hown := hown.alloc (.cells #[.bool true, .slice lA ln lcap] 76)
      replace hB := hB.alloc hB.size (.cells #[.bool true, .slice lA ln lcap] 76)
      clear qX hlX hX hv0 hv1
      generalize W4.alloc (.cells #[.bool true, .slice lA ln lcap] 76) = W5 at *
      go_wp2_with (first
        | (at_builtin; refine wpList_append_any _ rfl _ _ 216 rfl w.heap.size 219 i9 .nilIface 1 16 Tryz.underlying216 hi hz0 hz1' hz2' rfl (by decide) (.slice ua m2 uc) m2 zs rfl (hown.alloc _) (W5.heap.size + 1) (some ⟨W5.heap.size, 0, none⟩) 1 1 [.iface 253 (.agg #[])] rfl (Rd.blkN (Blk.new W5 219 #[.iface 253 (.agg #[])]) rfl (Nat.lt_succ_self _)).reads (by simp [Value.oneCell']) (by unfold maxLen; omega) (by omega) (by have := hB.size; simp only [World.size_alloc]; omega) (fun v' w' hown' hgrow hob => ?_)))
      replace hB := (hB.alloc hB.size (.cells #[.iface 253 (.agg #[])] 219)).grown hgrow (by have := hB.size; simp only [World.size_alloc]; omega) (fun g hg => ((hown.alloc (.cells #[.iface 253 (.agg #[])] 219)).lt g hg).1)
      go_roundg (cn - (q + 1))
      case measure => rw [HG2.out]; omega
      case rel => exact ⟨q + 1, m2 + 1, _, _, rfl, by omega, rfl, by go_num, hown', Lib.hid (by rw [hzs.out, HTS2.out, HLT.out]; simp), by omega, hB⟩
     | false =>
      go_upto_region 11 with (fail)
      replace hown := hown.alloc (.cells #[.bool false, .slice lA ln lcap] 76)
      replace hB := hB.alloc hB.size (.cells #[.bool false, .slice lA ln lcap] 76)
      obtain ⟨g5, hg5⟩ : ∃ g5, g5 = W4.heap.size := ⟨_, rfl⟩
      rw [← hg5] at hX qX ⊢
      clear hlX hv0 hv1 hg5
      generalize W4.alloc (.cells #[.bool false, .slice lA ln lcap] 76) = W5 at *
      go_wp2_with (first
        | (at_builtin; refine wpList_append_any _ rfl _ _ 216 rfl w.heap.size 219 i9 .nilIface 1 16 Tryz.underlying216 hi hz0 hz1' hz2' rfl (by decide) (.slice ua m2 uc) m2 zs rfl (hown.alloc _) (W5.heap.size + 1) (some ⟨W5.heap.size, 0, none⟩) 1 1 [.iface 255 (.agg #[.slice lA ln lcap])] rfl (Rd.blkN (Blk.new W5 219 #[.iface 255 (.agg #[.slice lA ln lcap])]) rfl (Nat.lt_succ_self _)).reads (by simp [Value.oneCell']) (by unfold maxLen; omega) (by omega) (by have := hB.size; simp only [World.size_alloc]; omega) (fun v' w' hown' hgrow hob => ?_)))
      replace hB := (hB.alloc hB.size (.cells #[.iface 255 (.agg #[.slice lA ln lcap])] 219)).grown hgrow (by have := hB.size; simp only [World.size_alloc]; omega) (fun g hg => ((hown.alloc (.cells #[.iface 255 (.agg #[.slice lA ln lcap])] 219)).lt g hg).1)
      go_roundg (cn - (q + 1))
      case measure => rw [HG2.out]; omega
      case rel => exact ⟨q + 1, m2 + 1, _, _, rfl, by omega, rfl, by go_num, hown', Lib.hid (by rw [hzs.out, HTS2.out, HLT.out]; simp), by omega, hB⟩
    ·obtain rfl : q = cn := by omega
     have htk : cls.take q = cls := List.take_of_length_le (by have := HLL.out; omega)
     have hge : ¬ (q : Int) < q := by omega
     have hZ := hzs.out
     rw [htk, ← HCT.out] at hZ
     have HZ := Lib.hid hZ
     clear htk hzs hZ
     go_wp2_with (fail)
     go_roundg (n - (k + 1))
     case measure => rw [HG.out]; omega
     case rel => exact ⟨k + 1, m2, _, _, rfl, by omega, rfl, by go_num, hown, Lib.hid (by rw [HZ.out, HYS.out, HTS.out]; simp), by omega, hB⟩
  ·obtain rfl : k = n := by omega
   have hge : ¬ (k : Int) < k := by omega
   have htk : cs.take k = cs := List.take_of_length_le (by have := HL.out; omega)
   have hY := hys.out
   rw [htk, hb0] at hY
   have HY := Lib.hid hY
   clear hys hY htk
   go_wp2_with (fail)
   go_ret
   have e : toldV wn cs = ys := HY.out.symm
   have e2 : ys.length = m := by simpa using hown.1
   exact ⟨_, rfl, by rw [e, e2]; exact hown, hB⟩
end
section
open Go.RowKit Go.Lib
def bookP (wn : Nat) (cs : List VC) : List (Value × ByteArray) := (.iface 251 (.agg #[.int .i64 wn]), jnS [wBook, dS wn] ⟨#[32]⟩) :: cs.flatMap fun c => (.iface 252 (.agg #[]), wCopy) :: c.ls.map fun l => (lineT l, lnT l)
theorem bookP_fst (wn : Nat) (cs : List VC) : (bookP wn cs).map Prod.fst = toldV wn cs := by
 unfold bookP toldV copyT
 simp [List.map_flatMap, Function.comp_def]
theorem bookP_snd (wn : Nat) (cs : List VC) : (bookP wn cs).map Prod.snd = linesB wn cs := by
 unfold bookP linesB copyB
 simp [List.map_flatMap, Function.comp_def]
theorem endB_size (s : Nat) : (endB s).size ≤ 7 := by
 have h := jnS_size [wEnd, dgt3 (s % 197)] ⟨#[32]⟩ 3 (fun x hx => by
   rcases (by simpa using hx : x = wEnd ∨ x = dgt3 (s % 197)) with rfl | rfl
   · decide
   · exact Nat.le_refl 3)
 have e : endB s = wEnd ++ ⟨#[32]⟩ ++ dgt3 (s % 197) := by
  unfold endB
  have h2 := lineS_jn1 wEnd [dgt3 (s % 197)] (by simp)
  rw [← h2]; unfold lineS; rw [jnS_one]
 rw [e, size_app, size_app]
 exact (show 3 + 1 + 3 ≤ 7 by omega)
theorem write_of (wn : Int) (A : Option Addr) (n cap : Nat) (ps : List (Value × ByteArray)) (s : Nat) (m : Int) (w : World) (hE : Env m w) (hl : ps.length ≤ 900)
  (hto : ∀ wx, Below w.heap.size w wx → Calls Tryz.prog 157 #[.agg #[.int .i64 wn, .slice A n cap]] wx fun e w' => ∃ v, e = .returned v ∧ w'.ownsRow wx.heap.size 219 1 v ps.length (ps.map Prod.fst) ∧ Below wx.heap.size wx w')
  (htx : ∀ p ∈ ps, ∀ wx, Below w.heap.size w wx → Calls Tryz.prog 158 #[p.1] wx fun e w' => e = .returned (.string p.2) ∧ Below wx.heap.size wx w')
  (hsz : ∀ p ∈ ps, p.2.size ≤ 100000) (hsum : sumA (ps.map Prod.snd) 0 0 = s) :
  Calls Tryz.prog 119 #[.agg #[.int .i64 wn, .slice A n cap]] w fun e w' => e = .returned (.string (txtB (ps.map Prod.snd) s)) ∧ Below w.heap.size w w' := by
 obtain ⟨i9, hi, hz0, hz1', hz2'⟩ := info_parts info9
 have hB : Below w.heap.size w (w.alloc (.cells #[.int .i64 wn, .slice A n cap] 24)) := (Below.refl _ w).alloc (Nat.le_refl _) _
 have hX := Blk.new w 24 #[.int .i64 wn, .slice A n cap]
 have qX := fun i => hX.cell i
 obtain ⟨N, hN⟩ : ∃ N, N = ps.length := ⟨_, rfl⟩
 rw [← hN] at hto hl
 have hall : ∀ x ∈ ps.map Prod.snd, x.size ≤ 100000 := fun x hx => by obtain ⟨p, hp, rfl⟩ := List.mem_map.1 hx; exact hsz p hp
 have HTO := Lib.hid hto; have HTX := Lib.hid htx; have HN := Lib.hid hN; have HSZ := Lib.hid hsz; have HSUM := Lib.hid hsum; have HALL := Lib.hid hall
 clear hto htx hN hsz hsum hall
 go_enter Tryz.func119, Tryz.ntmps119
 go_upto_region 1 with (fail)
 generalize w.alloc (.cells #[.int .i64 wn, .slice A n cap] 24) = W0 at *
 go_wp2_with (first
   | (go_at_call 157; refine (HTO.out _ hB).mono ?_; rintro e w1 ⟨v, rfl, hot, hb⟩; obtain ⟨ta, tc, rfl⟩ := own_slice hot; have hrt := Rd.of_own hot; replace hB := hB.trans (hb.mono hB.size); clear hb hot qX))
 have hBt := Below.refl w1.heap.size w1
 go_loopg [3, 9] N (fun g v i wr => ∃ (k : Nat) (v0 : Value), g = N - k ∧ k ≤ N ∧ v = v0 ∧ i = .int .i64 k ∧ wr.ownsRow w1.heap.size 9 1 v0 k (((ps.map Prod.snd).take k).map Value.string) ∧ Below w1.heap.size w1 wr)
 case atStart => exact ⟨0, _, rfl, Nat.zero_le _, rfl, rfl, World.ownsRow_nil _ _ _ _, hBt⟩
 case round =>
  clear hBt
  obtain ⟨k, v0, hg, hk, rfl, rfl, hown, hBt⟩ := hrel
  obtain ⟨va, vc, rfl⟩ := own_slice hown
  have HG := Lib.hid hg; clear hg
  rename World => W2
  have hB2 := hB.trans (hBt.mono hB.size)
  have hw1 := hB.size
  by_cases hlt : k < N
  ·have hlti : (k : Int) < N := by omega
   obtain ⟨b, off, hz, rfl, hbw, hcell⟩ := (hrt.below hBt).atm hlt
   have hz2 : k < (ps.map Prod.snd).length := by rw [List.length_map]; exact hz
   have hts : (ps.map Prod.snd).take (k + 1) = (ps.map Prod.snd).take k ++ [ps[k].2] := by rw [List.take_succ_eq_append_getElem hz2]; simp
   have htx := HTX.out _ (List.getElem_mem hz)
   generalize ps[k] = p at *
   obtain ⟨pv, pb⟩ := p
   simp only at hcell htx hts
   obtain ⟨ys, hys⟩ : ∃ ys, ys = ((ps.map Prod.snd).take k).map Value.string := ⟨_, rfl⟩
   rw [← hys] at hown
   have HTS := Lib.hid hts; have HYS := Lib.hid hys; have HT := Lib.hid htx; clear hts hys htx hz hz2
   go_wp2_with (first
     | (go_at_call 158; refine (HT.out _ hB2).mono ?_; rintro e w3 ⟨rfl, hb⟩; replace hown := ownsRow_below' hown hb; replace hBt := hBt.trans (hb.mono hBt.size); clear hb hcell)
     | (at_builtin; refine wpList_append_any _ rfl _ _ 173 rfl w1.heap.size 9 i9 (.string ByteArray.empty) 1 16 Tryz.underlying173 hi hz0 hz1' hz2' rfl (by decide) (.slice va k vc) k ys rfl (hown.alloc _) (w3.heap.size + 1) (some ⟨w3.heap.size, 0, none⟩) 1 1 [.string pb] rfl (Rd.blkN (Blk.new w3 9 #[.string pb]) rfl (Nat.lt_succ_self _)).reads (by simp [Value.oneCell']) (by unfold maxLen; omega) (by omega) (by have := hBt.size; simp only [World.size_alloc]; omega) (fun v' w' hown' hgrow hob => ?_)))
   replace hBt := (hBt.alloc hBt.size (.cells #[.string pb] 9)).grown hgrow (by have := hBt.size; simp only [World.size_alloc]; omega) (fun g hg => ((hown.alloc (.cells #[.string pb] 9)).lt g hg).1)
   go_roundg (N - (k + 1))
   case measure => rw [HG.out]; omega
   case rel => exact ⟨k + 1, _, rfl, by omega, rfl, by go_num, by rw [HTS.out, List.map_append, ← HYS.out]; exact hown', hBt⟩
  ·obtain rfl : k = N := by omega
   have hge : ¬ (k : Int) < k := by omega
   have htk : (ps.map Prod.snd).take k = ps.map Prod.snd := List.take_of_length_le (by rw [List.length_map]; have := HN.out; omega)
   rw [htk] at hown
   have hLl : (ps.map Prod.snd).length = k := by rw [List.length_map]; exact HN.out.symm
   have hall := HALL.out; have hsum := HSUM.out
   obtain ⟨L, hL⟩ : ∃ L, L = ps.map Prod.snd := ⟨_, rfl⟩
   rw [← hL] at hown hLl hall hsum
   have hend := fun wx hx hy => endOf_any va k vc L s m wx (by omega) hall hx hsum hy
   have hee : jnS [wEnd, dgt3 (s % 197)] ⟨#[32]⟩ = endB s := rfl
   rw [hee] at hend
   have hes := endB_size s
   have hall2 : ∀ x ∈ L ++ [endB s], x.size ≤ 100000 := fun x hx => by
    rcases List.mem_append.1 hx with h | h
    ·exact hall x h
    ·obtain rfl : x = endB s := (by simpa using h)
     omega
   have hj : (jnS (L ++ [endB s]) ⟨#[10]⟩).size ≤ 100000000 := by
    have h1 := jnS_size (L ++ [endB s]) ⟨#[10]⟩ 100000 hall2
    have h2 : (L ++ [endB s]).length = k + 1 := by rw [List.length_append, hLl]; rfl
    have h3 : (L ++ [endB s]).length * (100000 + ByteArray.size ⟨#[10]⟩) ≤ 901 * 100001 := Nat.mul_le_mul (by omega) (Nat.le_refl _)
    omega
   have hjoin := fun (A : Option Addr) (c : Nat) (wx : World) hc hr => jn_any A (k + 1) c (L ++ [endB s]) ⟨#[10]⟩ wx (by omega) (by omega) hc hall2 (by decide) hr
   have hT : txtB (ps.map Prod.snd) s = jnS (L ++ [endB s]) ⟨#[10]⟩ ++ ⟨#[10]⟩ := by rw [hL]; rfl
   have hmap : (L ++ [endB s]).map Value.string = L.map Value.string ++ [.string (endB s)] := by simp
   rw [hmap] at hjoin
   have HE := Lib.hid hend; have HJ := Lib.hid hjoin; have HT := Lib.hid hT; clear hend hjoin hT hL hall hall2 hsum htk hee hmap hes hLl
   generalize jnS (L ++ [endB s]) ⟨#[10]⟩ = JJ at *
   generalize endB s = EE at *
   have hEn := (hE.below hB2)
   have hrL := Rd.of_own hown
   have hno1 : ¬ 9223372036854775807 < JJ.size + 1 := by omega
   generalize L.map Value.string = ys at *
   have HRL := Lib.hid hrL; clear hrL
   go_wp2_with (first
     | (go_at_call 160; refine (HE.out _ HRL.out hEn).mono ?_; rintro e w3 ⟨rfl, hb⟩; replace hown := ownsRow_below' hown hb; replace hBt := hBt.trans (hb.mono hBt.size); clear hb)
     | (at_builtin; refine wpList_append_any _ rfl _ _ 173 rfl w1.heap.size 9 i9 (.string ByteArray.empty) 1 16 Tryz.underlying173 hi hz0 hz1' hz2' rfl (by decide) (.slice va k vc) k ys rfl (hown.alloc _) (w3.heap.size + 1) (some ⟨w3.heap.size, 0, none⟩) 1 1 [.string EE] rfl (Rd.blkN (Blk.new w3 9 #[.string EE]) rfl (Nat.lt_succ_self _)).reads (by simp [Value.oneCell']) (by unfold maxLen; omega) (by omega) (by have := hBt.size; simp only [World.size_alloc]; omega) (fun v' w' hown' hgrow hob => ?_))
     | (go_at_call 159; (replace hBt := (hBt.alloc hBt.size (.cells #[.string EE] 9)).grown hgrow (by have := hBt.size; simp only [World.size_alloc]; omega) (fun g hg => ((hown.alloc (.cells #[.string EE] 9)).lt g hg).1)); obtain ⟨ua, uc, rfl⟩ := own_slice hown'; refine (HJ.out ua uc _ (own_le0 hown') (Rd.of_own hown')).mono ?_; rintro e w5 ⟨rfl, hb⟩; replace hBt := hBt.trans (hb.mono hBt.size)))
   go_ret
   exact ⟨by rw [HT.out]; rfl, hB.trans (hBt.mono hB.size)⟩
end
section
open Go.RowKit Go.Lib
theorem bookP_mem {wn : Nat} {cs : List VC} {p : Value × ByteArray} (h : p ∈ bookP wn cs) : p = (.iface 251 (.agg #[.int .i64 wn]), jnS [wBook, dS wn] ⟨#[32]⟩) ∨ p = (.iface 252 (.agg #[]), wCopy) ∨ ∃ c ∈ cs, ∃ l ∈ c.ls, p = (lineT l, lnT l) := by
 unfold bookP at h
 rcases List.mem_cons.1 h with h | h
 ·exact .inl h
 ·obtain ⟨c, hc, h⟩ := List.mem_flatMap.1 h
  rcases List.mem_cons.1 h with h | h
  ·exact .inr (.inl h)
  ·obtain ⟨l, hl, rfl⟩ := List.mem_map.1 h
   exact .inr (.inr ⟨c, hc, l, hl, rfl⟩)
theorem flat_len {α β : Type} (f : α → List β) (M : Nat) : ∀ l : List α, (∀ x ∈ l, (f x).length ≤ M) → (l.flatMap f).length ≤ l.length * M
 | [], _ => by simp
 | x :: l, h => by
  have h1 := flat_len f M l (fun y hy => h y (by simp [hy]))
  have h2 := h x (by simp)
  rw [List.flatMap_cons, List.length_append, List.length_cons, Nat.add_mul]
  omega
theorem book_size (n : Nat) (hn : n < 1000) : (jnS [wBook, dS n] ⟨#[32]⟩).size ≤ 20 := by
 have h := jnS_size [wBook, dS n] ⟨#[32]⟩ 4 (fun x hx => by
   rcases (by simpa using hx : x = wBook ∨ x = dS n) with rfl | rfl
   · decide
   · have := dS_size n hn; omega)
 exact Nat.le_trans h (show 2 * (4 + 1) ≤ 20 by omega)
theorem lnT_size (l : VL) (h1 : l.ws.length ≤ 100) (h2 : ∀ x ∈ l.ws, 0 ≤ x ∧ x < 1000) : (lnT l).size ≤ 505 := by
 unfold lnT
 split
 ·decide
 ·have h := jnS_size (wLine :: l.ws.map DZ) ⟨#[32]⟩ 4 (fun x hx => by
    rcases List.mem_cons.1 hx with rfl | hx
    · decide
    · obtain ⟨y, hy, rfl⟩ := List.mem_map.1 hx
      have := DZ_size y (h2 y hy).1 (h2 y hy).2
      omega)
  rw [List.length_cons, List.length_map] at h
  have e : ByteArray.size ⟨#[32]⟩ = 1 := rfl
  rw [e] at h
  omega
section
variable {wn : Nat} {A : Option Addr} {n : Nat} {cs : List VC} {w : World} {B : Nat}
theorem BkG.words (h : BkG wn A n cs w B) {c : VC} (hc : c ∈ cs) {l : VL} (hl : l ∈ c.ls) : l.n ≤ 4 ∧ l.ws.length ≤ 4 ∧ ∀ x ∈ l.ws, 0 ≤ x ∧ x < 1000 := by
 obtain ⟨h1, h2, h3⟩ := h.2.2.2.2.2.2 c hc l hl
 exact ⟨h1, h2, fun x hx => by have := h3 x hx; omega⟩
theorem bookP_len (h : BkG wn A n cs w B) : (bookP wn cs).length ≤ 30 := by
 unfold bookP
 have h1 := flat_len (fun c : VC => ((.iface 252 (.agg #[]), wCopy) : Value × ByteArray) :: c.ls.map fun l => (lineT l, lnT l)) 5 cs (fun c hc => by
   have := h.2.2.2.2.2.1 c hc
   have := h.2.2.1
   simp only [List.length_cons, List.length_map]
   omega)
 have h2 := h.len
 have h3 := h.2.1
 rw [List.length_cons]
 have h4 : cs.length * 5 ≤ 5 * 5 := Nat.mul_le_mul (by omega) (Nat.le_refl _)
 omega
theorem bookP_size (h : BkG wn A n cs w B) : ∀ p ∈ bookP wn cs, p.2.size ≤ 505 := fun p hp => by
 rcases bookP_mem hp with rfl | rfl | ⟨c, hc, l, hl, rfl⟩
 ·have := book_size wn (by have := h.1; omega)
  show (jnS [wBook, dS wn] ⟨#[32]⟩).size ≤ 505
  omega
 ·decide
 ·obtain ⟨h1, h2, h3⟩ := h.words hc hl
  exact lnT_size l (by omega) h3
theorem sB_ok (h : BkG wn A n cs w B) : sumA (linesB wn cs) 0 0 = (sB (linesB wn cs) : Nat) := by
 have hl : (linesB wn cs).length ≤ 30 := by rw [← bookP_snd, List.length_map]; exact bookP_len h
 have hs : ∀ x ∈ linesB wn cs, x.size ≤ 900 := fun x hx => by
  rw [← bookP_snd] at hx
  obtain ⟨p, hp, rfl⟩ := List.mem_map.1 hx
  have := bookP_size h p hp
  omega
 have h0 := sumA_ok (linesB wn cs) 0 0 (Int.le_refl _) (by omega) hs (Int.le_refl _) (by omega)
 unfold sB
 omega
theorem textOf_pair (h : BkG wn A n cs w w.heap.size) (m : Int) (hE : Env m w) : ∀ p ∈ bookP wn cs, ∀ wx, Below w.heap.size w wx → Calls Tryz.prog 158 #[p.1] wx fun e w' => e = .returned (.string p.2) ∧ Below wx.heap.size wx w' := fun p hp wx hx => by
 rcases bookP_mem hp with rfl | rfl | ⟨c, hc, l, hl, rfl⟩
 ·exact textOf_book wn (by have := h.1; omega) m wx (hE.below hx)
 ·exact textOf_copy wx
 ·obtain ⟨h1, h2, h3⟩ := h.words hc hl
  have hok := ((h.2.2.2.2.1 c hc).2.2.1 l hl)
  unfold lineT lnT
  cases hlost : l.lost with
  | true => exact textOf_lost wx
  | false => exact textOf_line l.A l.n l.cap l.ws m wx (hE.below hx) (by omega) h3 ((hok.2.2.below hx).more hx.size)
theorem write_any (cap : Nat) (h : BkG wn A n cs w w.heap.size) (m : Int) (hE : Env m w) :
  Calls Tryz.prog 119 #[.agg #[.int .i64 wn, .slice A n cap]] w fun e w' => e = .returned (.string (bookT wn cs)) ∧ Below w.heap.size w w' := by
 have h1 := write_of (wn : Int) A n cap (bookP wn cs) (sB (linesB wn cs)) m w hE (by have := bookP_len h; omega)
  (fun wx hx => by
    have hx2 := h.toW hx
    have h3 := toldOf_any (wn : Int) A n cap cs wx (by have := h.2.1; omega) hx2.2.2.2.1 hx2.2.2.2.2.1 (fun c hc => by have := h.2.2.2.2.2.1 c hc; have := h.2.2.1; omega)
    have e : (bookP wn cs).length = (toldV (wn : Int) cs).length := by rw [← bookP_fst, List.length_map]
    rw [bookP_fst, e]
    exact h3) (textOf_pair h m hE) (fun p hp => by have := bookP_size h p hp; omega) (by rw [bookP_snd]; exact sB_ok h)
 rw [bookP_snd] at h1
 exact h1
end
theorem Print_yes {wn : Nat} {A : Option Addr} {n : Nat} (cap : Nat) {cs : List VC} {w : World} (m : Int) (hE : Env m w) (hb : BkG wn A n cs w w.heap.size) (h1 : bookB (wn : Int) cs = true) :
  Calls Tryz.prog 74 #[.agg #[.int .i64 (wn : Int), .slice A n cap]] w fun e w' => e = .returned (.tuple #[.string (bookT wn cs), .int .i64 0]) ∧ Below w.heap.size w w' := by
 have hX := Blk.new w 24 #[.int .i64 (wn : Int), .slice A n cap]
 have hB : Below w.heap.size w (w.alloc (.cells #[.int .i64 (wn : Int), .slice A n cap] 24)) := (Below.refl _ w).alloc (Nat.le_refl _) _
 have qX := fun i => hX.cell i
 have hgb := fun (wx : World) (hx : Below w.heap.size w wx) => goodBook_any (wn : Int) A n cap cs wx (by have := hb.2.1.2; unfold maxLen; omega) (rdB hb.2.2.2.1 hx) (fun c h => okB (hb.2.2.2.2.1 c h) hx)
 simp only [h1] at hgb
 have hwr := fun (wx : World) (hx : Below w.heap.size w wx) => write_any cap (hb.toW hx) m (hE.below hx)
 have HGB := Lib.hid hgb; have HW := Lib.hid hwr; clear hgb h1 hwr
 go_enter Tryz.func74, Tryz.ntmps74
 go_wp2_with (first
   | (go_at_call 81; refine (HGB.out _ hB).mono ?_; rintro e w1 ⟨rfl, hb⟩; replace hX := hX.below hb hX.lt; replace hB := hB.trans (hb.mono hB.size); clear hb qX; have qX := fun i => hX.cell i)
   | (go_at_call 119; refine (HW.out _ hB).mono ?_; rintro e w1 ⟨rfl, hb⟩; replace hB := hB.trans (hb.mono hB.size); clear hb))
 go_ret2
 exact ⟨rfl, hB⟩
end
section
open Go.RowKit Go.Lib
theorem book_W {W : Int} {cs : List VC} (h : bookB W cs = true) : 1 ≤ W ∧ W ≤ 3 := by
 unfold bookB at h
 simp only [Bool.and_eq_true] at h
 simpa [inB] using h.1.1.1
end
section
open Go.RowKit Go.Lib
def noB (b : UInt8) (s : ByteArray) : Prop := b ∉ s.data.toList
theorem noB_jn {b : UInt8} {xs : List ByteArray} {sep : ByteArray} (h : ∀ x ∈ xs, noB b x) (hs : noB b sep) : noB b (jnS xs sep) := by
 show b ∉ join (xs.map (·.data.toList)) sep.data.toList
 exact not_mem_join hs _ fun x hx => by obtain ⟨z, hz, rfl⟩ := List.mem_map.1 hx; exact h z hz
theorem noB_dS {a : Nat} (h : a < 100) : noB 10 (dS a) ∧ noB 32 (dS a) := by
 have h2 : ((List.range 100).all fun a => !((dS a).data.toList.contains 10) && !((dS a).data.toList.contains 32)) = true := by kernel_rfl
 have h3 := List.all_eq_true.1 h2 a (List.mem_range.2 h)
 simp only [Bool.and_eq_true, Bool.not_eq_true', List.contains_eq_mem, decide_eq_false_iff_not] at h3
 exact h3
theorem noB_end (s : Nat) : noB 10 (endB s) := by
 have h2 : ((List.range 197).all fun a => !((jnS [wEnd, dgt3 a] ⟨#[32]⟩).data.toList.contains 10)) = true := by kernel_rfl
 have h3 := List.all_eq_true.1 h2 (s % 197) (List.mem_range.2 (by omega))
 simp only [Bool.not_eq_true', List.contains_eq_mem, decide_eq_false_iff_not] at h3
 exact h3
theorem noB_lit {b : UInt8} {s : ByteArray} (h : s.data.toList.contains b = false) : noB b s := by
 intro h2
 rw [List.contains_eq_mem, decide_eq_true h2] at h
 cases h
theorem DZ_nat {x : Int} (h : 0 ≤ x ∧ x < 100) : DZ x = dS x.toNat ∧ x.toNat < 100 := ⟨rfl, by omega⟩
def smallW (cs : List VC) : Prop := ∀ c ∈ cs, ∀ l ∈ c.ls, (l.lost = true → l.ws = []) ∧ ∀ x ∈ l.ws, 0 ≤ x ∧ x < 100
theorem lnT_no10 {l : VL} (h : ∀ x ∈ l.ws, 0 ≤ x ∧ x < 100) : noB 10 (lnT l) := by
 unfold lnT
 split
 ·exact noB_lit (by kernel_rfl)
 ·refine noB_jn (fun x hx => ?_) (noB_lit (by kernel_rfl))
  rcases List.mem_cons.1 hx with rfl | hx
  ·exact noB_lit (by kernel_rfl)
  ·obtain ⟨z, hz, rfl⟩ := List.mem_map.1 hx
   exact (noB_dS (DZ_nat (h z hz)).2).1
theorem linesB_no10 {wn : Nat} {cs : List VC} (hw : wn < 100) (h : smallW cs) : ∀ x ∈ linesB wn cs, noB 10 x := fun x hx => by
 unfold linesB at hx
 rcases List.mem_cons.1 hx with rfl | hx
 ·refine noB_jn (fun x hx => ?_) (noB_lit (by kernel_rfl))
  rcases List.mem_cons.1 hx with rfl | hx
  ·exact noB_lit (by kernel_rfl)
  ·rw [List.mem_singleton.1 hx]; exact (noB_dS hw).1
 ·obtain ⟨c, hc, hx⟩ := List.mem_flatMap.1 hx
  unfold copyB at hx
  rcases List.mem_cons.1 hx with rfl | hx
  ·exact noB_lit (by kernel_rfl)
  ·obtain ⟨l, hl, rfl⟩ := List.mem_map.1 hx
   exact lnT_no10 (h c hc l hl).2
theorem cut_jn {c : UInt8} {x : ByteArray} {r : List ByteArray} (h : ∀ y ∈ x :: r, noB c y) : cutB c (jnS (x :: r) ⟨#[c]⟩) = x :: r :=
 splitB_join c x r (h x (by simp)) (fun y hy => h y (by simp [hy]))
theorem trimB_end (t : ByteArray) : hasSuffix (t ++ ⟨#[10]⟩).data.toList [10] = true ∧ trimB (t ++ ⟨#[10]⟩) = t := by
 have e : (t ++ ⟨#[10]⟩ : ByteArray).data.toList = t.data.toList ++ [10] := by simp [ByteArray.toList_eq]
 have h1 : hasSuffix (t ++ ⟨#[10]⟩).data.toList [10] = true := by
  unfold hasSuffix
  rw [e, List.isSuffixOf_iff_suffix]
  exact List.suffix_append _ _
 refine ⟨h1, ?_⟩
 unfold trimB trimSuffix
 rw [if_pos h1, e]
 apply ba_list
 simp
theorem book_smallW {W : Int} {cs : List VC} (h : bookB W cs = true) : smallW cs := fun c hc l hl => by
 have hW := book_W h
 unfold bookB at h
 simp only [Bool.and_eq_true, List.all_eq_true] at h
 have h2 := (h.2 c hc).2 l hl
 unfold vlB at h2
 rw [Bool.and_eq_true] at h2
 obtain ⟨h3, h4⟩ := h2
 refine ⟨fun hlo => ?_, fun x hx => ?_⟩
 ·rw [hlo] at h4
  cases hws : l.ws with
  | nil => rfl
  | cons a b => rw [hws] at h4; simp at h4
 ·have := (ln_small hW h3).2 x hx; omega
end
section
open Go.RowKit Go.Lib Go.Maps
theorem book_small {wn : Nat} {cs : List VC} (h : bookB (wn : Int) cs = true) : ∀ c ∈ cs, ∀ v ∈ c.ls, ∀ x ∈ v.ws, 0 ≤ x ∧ x ≤ 2 := fun c hc v hv => by
 have hW := book_W h
 unfold bookB at h
 simp only [Bool.and_eq_true, List.all_eq_true] at h
 have h2 := (h.2 c hc).2 v hv
 unfold vlB at h2
 rw [Bool.and_eq_true] at h2
 exact (ln_small hW h2.1).2
end
section
open Go.RowKit Go.Lib
theorem sameBooks_any (W : Int) (A : Option Addr) (n cap : Nat) (cs : List VC) (A2 : Option Addr) (cap2 : Nat) (cs2 : List VC) (w : World) (h1 : BkI w A n cap cs) (h2 : BkI w A2 n cap2 cs2) (hp : plain cs = plain cs2) (hw : ∀ c ∈ cs, ∀ l ∈ c.ls, l.ws.length ≤ 1000) (hc : ∀ c ∈ cs, c.ls.length ≤ 1000) (hn : n ≤ 1000) :
  Calls Tryz.prog 77 #[.agg #[.int .i64 W, .slice A n cap], .agg #[.int .i64 W, .slice A2 n cap2]] w fun e w' => e = .returned (.bool true) ∧ Below w.heap.size w w' := by
 have hX := (Blk.new w 24 #[.int .i64 W, .slice A n cap]).alloc (.cells #[.int .i64 W, .slice A2 n cap2] 24)
 have hY := blk2_1 w (.cells #[.int .i64 W, .slice A n cap] 24) 24 #[.int .i64 W, .slice A2 n cap2]
 have hB : Below w.heap.size w ((w.alloc (.cells #[.int .i64 W, .slice A n cap] 24)).alloc (.cells #[.int .i64 W, .slice A2 n cap2] 24)) := ((Below.refl _ w).alloc (Nat.le_refl _) _).alloc (by simp only [World.size_alloc]; omega) _
 have H1 := Lib.hid h1; have H2 := Lib.hid h2; have HP := Lib.hid hp; have HW := Lib.hid hw; have HC := Lib.hid hc; clear h1 h2 hp hw hc
 have hWW : (W != W) = false := by simp
 have hnn : ((n : Int) != (n : Int)) = false := by simp
 have qX := fun i => hX.cell i; have qY := fun i => hY.cell i
 go_enter Tryz.func77, Tryz.ntmps77
 go_wp2_with fail
 clear qX qY
 generalize (w.alloc (.cells #[.int .i64 W, .slice A n cap] 24)).alloc (.cells #[.int .i64 W, .slice A2 n cap2] 24) = W0 at *
 go_loopg [5] n (fun g i wr => ∃ k : Nat, g = n - k ∧ k ≤ n ∧ i = .int .i64 k ∧ Below w.heap.size w wr ∧ Blk wr w.heap.size 24 #[.int .i64 W, .slice A n cap] ∧ Blk wr (w.heap.size + 1) 24 #[.int .i64 W, .slice A2 n cap2])
 case atStart => exact ⟨0, rfl, Nat.zero_le _, rfl, hB, hX, hY⟩
 case round =>
  clear hX hB hY
  obtain ⟨k, hg, hk, rfl, hB, hX, hY⟩ := hrel
  rename World => wr
  have HG := Lib.hid hg; clear hg
  have qX := fun i => hX.cell i; have qY := fun i => hY.cell i
  by_cases hlt : k < n
  ·have hlti : (k : Int) < n := by omega
   obtain ⟨b, off, hz, rfl, hbw, hcell⟩ := H1.out.2.2.1.atm hlt
   obtain ⟨b2, off2, hz2, rfl, hbw2, hcell2⟩ := H2.out.2.2.1.atm hlt
   have hpk : (cs[k]).ls.map (fun l => (l.lost, l.ws)) = (cs2[k]).ls.map (fun l => (l.lost, l.ws)) := by
    have h9 := congrArg (fun x : List (List (Bool × List Int)) => x[k]?) HP.out
    unfold plain at h9
    simp only [List.getElem?_map, List.getElem?_eq_getElem hz, List.getElem?_eq_getElem hz2, Option.map_some] at h9
    exact Option.some.inj h9
   have hco := H1.out.2.2.2 _ (List.getElem_mem hz); have hco2 := H2.out.2.2.2 _ (List.getElem_mem hz2)
   have hwk := HW.out _ (List.getElem_mem hz); have hck := HC.out _ (List.getElem_mem hz)
   generalize cs[k] = c at *
   generalize cs2[k] = d at *
   obtain ⟨cA, cn, ccap, cls⟩ := c
   obtain ⟨dA, dn, dcap, dls⟩ := d
   obtain ⟨k1, k2, k3, k4⟩ := hco
   obtain ⟨m1, m2, m3, m4⟩ := hco2
   dsimp only at k1 k2 k3 k4 m1 m2 m3 m4 hpk hwk hck
   simp only [VC.val] at hcell hcell2
   have e1 := k4.len2; have e2 := m4.len2
   have e3 : cls.length = dls.length := by have := congrArg List.length hpk; simpa using this
   have hdn : cn = dn := by omega
   subst hdn
   have hcn : cn ≤ 1000 := by omega
   have HPK := Lib.hid hpk; have HK3 := Lib.hid k3; have HK4 := Lib.hid k4; have HM3 := Lib.hid m3; have HM4 := Lib.hid m4; have HWK := Lib.hid hwk
   clear hpk k3 k4 m3 m4 hwk hck e1 e2 e3 hz hz2
   have hc1 := (hB.cell (p := ⟨b, off + k, none⟩) hbw).trans hcell
   have hc2 := (hB.cell (p := ⟨b2, off2 + k, none⟩) hbw2).trans hcell2
   have hq1 := fun (z : Blw wr.heap.size wr) => ((Blw.h z).cell (p := ⟨b, off + k, none⟩) (Nat.lt_of_lt_of_le hbw hB.size)).trans hc1
   have hq2 := fun (z : Blw wr.heap.size wr) => ((Blw.h z).cell (p := ⟨b2, off2 + k, none⟩) (Nat.lt_of_lt_of_le hbw2 hB.size)).trans hc2
   have hq3 := fun (z : Blw wr.heap.size wr) j => blw_blk hX z j
   have hq4 := fun (z : Blw wr.heap.size wr) j => blw_blk hY z j
   have hlX := hX.lt; have hlY := hY.lt
   have hcc : ((cn : Int) != (cn : Int)) = false := by simp
   go_upto_region 6 with (fail)
   refine wp_region_blw (by kernel_rfl) (by kernel_rfl) ?_
   repeat (go_big_quiet_step (fail))
   refine wpQuiet_nil ?_
   rintro W3 ⟨⟨_, hb3⟩, rfl⟩
   clear hq1 hq2 hq3 hq4 hlX hlY qX qY hc1 hc2
   replace hX := hX.below hb3 hX.lt; replace hY := hY.below hb3 hY.lt; replace hB := hB.trans (hb3.mono hB.size)
   clear hb3
   go_wp2_with fail
   go_loopg [6] cn (fun g i wr => ∃ q : Nat, g = cn - q ∧ q ≤ cn ∧ i = .int .i64 q ∧ Below w.heap.size w wr ∧ Blk wr w.heap.size 24 #[.int .i64 W, .slice (some ⟨b, off, none⟩) n cap] ∧ Blk wr (w.heap.size + 1) 24 #[.int .i64 W, .slice (some ⟨b2, off2, none⟩) n cap2])
   case atStart => exact ⟨0, rfl, Nat.zero_le _, rfl, hB, hX, hY⟩
   case round =>
    clear hX hB hY
    obtain ⟨q, hg, hq, rfl, hB, hX, hY⟩ := hrel
    rename World => wx
    have HG2 := Lib.hid hg; clear hg
    have qX := fun i => hX.cell i; have qY := fun i => hY.cell i
    have hc1 := (hB.cell (p := ⟨b, off + k, none⟩) hbw).trans hcell
    have hc2 := (hB.cell (p := ⟨b2, off2 + k, none⟩) hbw2).trans hcell2
    by_cases hqt : q < cn
    ·have hqti : (q : Int) < cn := by omega
     obtain ⟨b5, off5, z5, rfl, hb5, hv0, hv1⟩ := HK4.out.at2 hqt
     obtain ⟨b6, off6, z6, rfl, hb6, hu0, hu1⟩ := HM4.out.at2 hqt
     have hpq : (cls[q].lost, cls[q].ws) = (dls[q].lost, dls[q].ws) := by
      have h9 := congrArg (fun x : List (Bool × List Int) => x[q]?) HPK.out
      simp only [List.getElem?_map, List.getElem?_eq_getElem z5, List.getElem?_eq_getElem z6, Option.map_some] at h9
      exact Option.some.inj h9
     have hvo := HK3.out _ (List.getElem_mem z5); have huo := HM3.out _ (List.getElem_mem z6); have hww := HWK.out _ (List.getElem_mem z5)
     generalize cls[q] = v at *
     generalize dls[q] = u at *
     obtain ⟨lo, vA, vn, vc, vws⟩ := v
     obtain ⟨lo2, uA, un, uc, uws⟩ := u
     dsimp only at hpq hv0 hv1 hu0 hu1 hww hvo huo
     injection hpq with hp1 hp2
     subst hp1
     subst hp2
     obtain ⟨v1, v2, v3⟩ := hvo
     obtain ⟨u1, u2, u3⟩ := huo
     dsimp only at v1 v2 v3 u1 u2 u3
     have hvn : vws.length = vn := by simpa using v3.len
     have hun : vws.length = un := by simpa using u3.len
     have hsm := fun (z : Blw wx.heap.size wx) => same_any vA vn vc vws uA un uc vws z.toW (by omega) (by omega) (rdB v3 (hB.trans (z.h.mono hB.size))) (rdB u3 (hB.trans (z.h.mono hB.size)))
     simp only [decide_true] at hsm
     have HSM := Lib.hid hsm; clear hsm v3 u3
     have hlo : (lo != lo) = false := by simp
     have d1 := (hB.cell (p := ⟨b5, off5 + q * 2, none⟩) hb5).trans hv0
     have d2 := (hB.cell (p := ⟨b5, off5 + q * 2 + 1, none⟩) hb5).trans hv1
     have d3 := (hB.cell (p := ⟨b6, off6 + q * 2, none⟩) hb6).trans hu0
     have d4 := (hB.cell (p := ⟨b6, off6 + q * 2 + 1, none⟩) hb6).trans hu1
     have hq1 := fun (z : Blw wx.heap.size wx) => ((Blw.h z).cell (p := ⟨b, off + k, none⟩) (Nat.lt_of_lt_of_le hbw hB.size)).trans hc1
     have hq2 := fun (z : Blw wx.heap.size wx) => ((Blw.h z).cell (p := ⟨b2, off2 + k, none⟩) (Nat.lt_of_lt_of_le hbw2 hB.size)).trans hc2
     have hq3 := fun (z : Blw wx.heap.size wx) j => blw_blk hX z j
     have hq4 := fun (z : Blw wx.heap.size wx) j => blw_blk hY z j
     have hq5 := fun (z : Blw wx.heap.size wx) => ((Blw.h z).cell (p := ⟨b5, off5 + q * 2, none⟩) (Nat.lt_of_lt_of_le hb5 hB.size)).trans d1
     have hq6 := fun (z : Blw wx.heap.size wx) => ((Blw.h z).cell (p := ⟨b5, off5 + q * 2 + 1, none⟩) (Nat.lt_of_lt_of_le hb5 hB.size)).trans d2
     have hq7 := fun (z : Blw wx.heap.size wx) => ((Blw.h z).cell (p := ⟨b6, off6 + q * 2, none⟩) (Nat.lt_of_lt_of_le hb6 hB.size)).trans d3
     have hq8 := fun (z : Blw wx.heap.size wx) => ((Blw.h z).cell (p := ⟨b6, off6 + q * 2 + 1, none⟩) (Nat.lt_of_lt_of_le hb6 hB.size)).trans d4
     have hlX := hX.lt; have hlY := hY.lt
     clear d1 d2 d3 d4 hv0 hv1 hu0 hu1 z5 z6
     go_upto_region 11 with (fail)
     refine wp_region_blw (by kernel_rfl) (by kernel_rfl) ?_
     repeat (go_big_quiet_step (fail))
     go_big_quiet_step ((go_at_call 31; exact Calls.blw_of _ (HSM.out _)))
     repeat (go_big_quiet_step (fail))
     refine wpQuiet_nil ?_
     rintro W3 ⟨⟨_, hb3⟩, rfl⟩
     clear hq1 hq2 hq3 hq4 hq5 hq6 hq7 hq8 hlX hlY HSM qX qY
     go_wp2_with fail
     go_roundg (cn - (q + 1))
     case measure => rw [HG2.out]; omega
     case rel => exact ⟨q + 1, rfl, by omega, by go_num, hB.trans (hb3.mono hB.size), hX.below hb3 hX.lt, hY.below hb3 hY.lt⟩
    ·obtain rfl : q = cn := by omega
     have hge : ¬ (q : Int) < q := by omega
     go_wp2_with fail
     go_roundg (n - (k + 1))
     case measure => rw [HG.out]; omega
     case rel => exact ⟨k + 1, rfl, by omega, by go_num, hB, hX, hY⟩
  ·obtain rfl : k = n := by omega
   have hge : ¬ (k : Int) < k := by omega
   go_wp2_with fail
   go_ret
   exact ⟨rfl, hB⟩
def szS (xs : List ByteArray) : Nat := (xs.map fun x => x.size + 1).sum
theorem jn_len (x sep : ByteArray) (h1 : sep.size = 1) (r : List ByteArray) : (jnS (x :: r) sep).size + 1 = szS (x :: r) := by
 have h2 : sep.data.toList.length = 1 := h1
 have ht : ∀ r : List (List UInt8), (joinTail sep.data.toList r).length = (r.map fun y => y.length + 1).sum := by
  intro r
  induction r with
  | nil => rfl
  | cons y r ih =>
   have e : joinTail sep.data.toList (y :: r) = (sep.data.toList ++ y) ++ joinTail sep.data.toList r := rfl
   rw [e, List.length_append, List.length_append, ih, List.map_cons, List.sum_cons, h2]; omega
 have e : (jnS (x :: r) sep).size = (join ((x :: r).map (·.data.toList)) sep.data.toList).length := rfl
 rw [e, List.map_cons, join_cons, List.length_append, ht]
 unfold szS
 simp only [List.map_cons, List.sum_cons, List.map_map]
 show x.size + _ + 1 = x.size + 1 + _
 have : ((fun y : List UInt8 => y.length + 1) ∘ fun x : ByteArray => x.data.toList) = fun x => x.size + 1 := rfl
 rw [this]; omega
theorem dS_small {a : Nat} (h : a ≤ 3) : (dS a).size = 1 := by
 have h2 : ((List.range 4).all fun a => decide ((dS a).size = 1)) = true := by kernel_rfl
 exact of_decide_eq_true (List.all_eq_true.1 h2 a (List.mem_range.2 (by omega)))
theorem sum_le {α : Type} (f : α → Nat) (M : Nat) : ∀ l : List α, (∀ x ∈ l, f x ≤ M) → (l.map f).sum ≤ l.length * M
 | [], _ => by simp
 | a :: l, h => by
  have h1 := h a (by simp)
  have h2 := sum_le f M l (fun x hx => h x (by simp [hx]))
  rw [List.map_cons, List.sum_cons, List.length_cons, Nat.add_mul]; omega
theorem szS_app (a b : List ByteArray) : szS (a ++ b) = szS a + szS b := by unfold szS; simp
theorem ln_len {l : VL} (h1 : l.ws.length ≤ 4) (h2 : ∀ x ∈ l.ws, 0 ≤ x ∧ x ≤ 2) : (lnT l).size + 1 ≤ 13 := by
 unfold lnT
 split
 ·exact of_decide_eq_true (by kernel_rfl)
 ·rw [jn_len _ _ rfl]
  have e : szS (wLine :: l.ws.map DZ) = 5 + szS (l.ws.map DZ) := by unfold szS; rw [List.map_cons, List.sum_cons]; rfl
  have h3 : szS (l.ws.map DZ) ≤ l.ws.length * 2 := by
   unfold szS
   rw [List.map_map]
   refine sum_le _ 2 _ fun x hx => ?_
   have := h2 x hx
   show (dS x.toNat).size + 1 ≤ 2
   rw [dS_small (by omega)]
   exact Nat.le_refl _
  omega
theorem flat_sz (f : VC → List ByteArray) (M : Nat) : ∀ cs : List VC, (∀ c ∈ cs, szS (f c) ≤ M) → szS (cs.flatMap f) ≤ cs.length * M
 | [], _ => by simp [szS]
 | c :: cs, h => by
  have h1 := h c (by simp)
  have h2 := flat_sz f M cs (fun x hx => h x (by simp [hx]))
  rw [List.flatMap_cons, szS_app, List.length_cons, Nat.add_mul]; omega
theorem bookT_size {wn : Nat} {A : Option Addr} {n : Nat} {cs : List VC} {w : World} {B : Nat} (h : BkG wn A n cs w B) (hk : bookB (wn : Int) cs = true) : (bookT wn cs).size ≤ 400 := by
 have hs := book_small hk
 have hn := h.len
 have h5 := h.2.1; have h4 := h.2.2.1
 have hc : ∀ c ∈ cs, szS (copyB c) ≤ 57 := fun c hc => by
  have hl := h.2.2.2.2.2.1 c hc
  have e : szS (copyB c) = 5 + szS (c.ls.map lnT) := by unfold szS copyB; rw [List.map_cons, List.sum_cons]; rfl
  have h3 : szS (c.ls.map lnT) ≤ c.ls.length * 13 := by
   unfold szS
   rw [List.map_map]
   exact sum_le _ 13 _ fun l hl2 => ln_len (h.2.2.2.2.2.2 c hc l hl2).2.1 (hs c hc l hl2)
  omega
 have hf := flat_sz copyB 57 cs hc
 have e0 : (jnS [wBook, dS wn] ⟨#[32]⟩).size + 1 = 7 := by
  rw [jn_len _ _ rfl]
  unfold szS
  simp only [List.map_cons, List.map_nil, List.sum_cons, List.sum_nil, dS_small h.1.2]
  rfl
 have e1 : szS (linesB wn cs) ≤ 7 + 5 * 57 := by
  have : szS (linesB wn cs) = 7 + szS (cs.flatMap copyB) := by
   unfold linesB
   show ((_ :: _ : List ByteArray).map _).sum = _
   rw [List.map_cons, List.sum_cons, e0]; rfl
  have : cs.length * 57 ≤ 5 * 57 := Nat.mul_le_mul_right _ (by omega)
  omega
 have e2 : (endB (sB (linesB wn cs))).size + 1 ≤ 8 := by have := endB_size (sB (linesB wn cs)); omega
 have e3 : ∃ x r, linesB wn cs ++ [endB (sB (linesB wn cs))] = x :: r := ⟨_, _, rfl⟩
 obtain ⟨x, r, e3⟩ := e3
 have e4 : (jnS (linesB wn cs ++ [endB (sB (linesB wn cs))]) ⟨#[10]⟩).size + 1 ≤ 400 := by
  rw [e3, jn_len _ _ rfl, ← e3, szS_app]
  have : szS [endB (sB (linesB wn cs))] = (endB (sB (linesB wn cs))).size + 1 := by unfold szS; simp
  omega
 unfold bookT txtB
 rw [ByteArray.size_append]
 show _ + 1 ≤ 400
 exact e4
end
section
open Go.RowKit Go.Lib
theorem weights7 : ∀ p < 49, ∀ j < 30, ∀ e < 10, e ≠ 0 → (e * (p + 1) * (j + 1)) % 197 ≠ 0 := by decide +kernel
theorem weight7_ne {S T c d p j : Nat} (hp : p < 49) (hj : j < 30) (hc : 48 ≤ c ∧ c ≤ 57) (hd : 48 ≤ d ∧ d ≤ 57) (hne : c ≠ d) (h : T + c * (p + 1) * (j + 1) = S + d * (p + 1) * (j + 1)) : S % 197 ≠ T % 197 := by
 intro hm
 rcases Nat.lt_or_gt_of_ne hne with h1 | h1
 ·obtain ⟨e, rfl⟩ : ∃ e, d = c + e := ⟨d - c, by omega⟩
  have w := weights7 p hp j hj e (by omega) (by omega)
  have x : (c + e) * (p + 1) * (j + 1) = c * (p + 1) * (j + 1) + e * (p + 1) * (j + 1) := by rw [Nat.add_mul, Nat.add_mul]
  rw [x] at h
  generalize e * (p + 1) * (j + 1) = z at *
  omega
 ·obtain ⟨e, rfl⟩ : ∃ e, c = d + e := ⟨c - d, by omega⟩
  have w := weights7 p hp j hj e (by omega) (by omega)
  have x : (d + e) * (p + 1) * (j + 1) = d * (p + 1) * (j + 1) + e * (p + 1) * (j + 1) := by rw [Nat.add_mul, Nat.add_mul]
  rw [x] at h
  generalize e * (p + 1) * (j + 1) = z at *
  omega
theorem endB_inj {a b : Nat} (h : endB a = endB b) : a % 197 = b % 197 := by
 have e : ∀ s, endB s = wEnd ++ ⟨#[32]⟩ ++ dgt3 (s % 197) := fun s => by
  unfold endB
  rw [show ([wEnd, dgt3 (s % 197)] : List ByteArray) = [wEnd] ++ [dgt3 (s % 197)] from rfl, ← jnS_snoc _ _ _ (by simp), jnS_one]
 rw [e, e] at h
 have h2 := congrArg (fun x : ByteArray => x.data.toList) h
 simp only [ByteArray.data_append, Array.toList_append] at h2
 have h3 := List.append_cancel_left h2
 exact dgt3_inj (by omega) (by omega) (ba_list h3)
theorem spoilt7_none (L : List ByteArray) (h1 : 1 ≤ L.length) (h7 : L.length ≤ 30) (hL : ∀ l ∈ L, noB 10 l ∧ l.size ≤ 49) (hS : sumA L 0 0 = (sB L : Nat)) (i : Nat) (c d : UInt8) (hi : (txtB L (sB L)).data.toList[i]? = some c)
  (hc : 48 ≤ c.toNat ∧ c.toNat ≤ 57) (hd : 48 ≤ d.toNat ∧ d.toNat ≤ 57) (hne : c ≠ d) (s : ByteArray) (hs : s.data.toList = (txtB L (sB L)).data.toList.set i d) : parseO s = none := by
 obtain ⟨le, hle⟩ : ∃ le, le = endB (sB L) := ⟨_, rfl⟩
 have hM : ∀ l ∈ L ++ [le], noB 10 l ∧ l.size ≤ 49 := fun l hl => by
  rcases List.mem_append.1 hl with h | h
  ·exact hL l h
  ·obtain rfl : l = le := by simpa using h
   rw [hle]
   exact ⟨noB_end _, by have := endB_size (sB L); omega⟩
 have etl : (txtB L (sB L)).data.toList = textL ((L ++ [le]).map (·.data.toList)) := by unfold txtB; rw [← hle]; exact textL_jn _ (by simp)
 rw [etl] at hi hs
 have hc10 : c ≠ 10 := fun e => by rw [e] at hc; revert hc; decide
 have hd10 : d ≠ 10 := fun e => by rw [e] at hd; revert hd; decide
 obtain ⟨j, p, b, e1, e2, e3⟩ := set_text d _ i c hi hc10
 rw [e3] at hs
 obtain ⟨l, hl, rfl⟩ : ∃ l, (L ++ [le])[j]? = some l ∧ l.data.toList = b := by
  rw [List.getElem?_map] at e1
  exact Option.map_eq_some_iff.1 e1
 obtain ⟨l', hl'⟩ : ∃ l' : ByteArray, l'.data.toList = l.data.toList.set p d := ⟨⟨(l.data.toList.set p d).toArray⟩, rfl⟩
 rw [← hl', ← set_map] at hs
 have hlm := List.mem_of_getElem? hl
 have hp : p < l.data.toList.length := (List.getElem?_eq_some_iff.1 e2).1
 have hjl : j < L.length + 1 := by
  have := (List.getElem?_eq_some_iff.1 hl).1
  simpa using this
 have hl's : l'.size ≤ 49 := by
  rw [← size_list, hl', List.length_set, size_list]; exact (hM l hlm).2
 have hl'0 : noB 10 l' := by
  unfold noB
  rw [hl']
  intro h
  rcases List.mem_or_eq_of_mem_set h with h | h
  ·exact (hM l hlm).1 h
  ·exact hd10 h.symm
 have hM' : ∀ x ∈ (L ++ [le]).set j l', noB 10 x := fun x hx => by
  rcases List.mem_or_eq_of_mem_set hx with h | h
  ·exact (hM x h).1
  ·rw [h]; exact hl'0
 have hlen : ((L ++ [le]).set j l').length = L.length + 1 := by simp
 have hsj : s = jnS ((L ++ [le]).set j l') ⟨#[10]⟩ ++ ⟨#[10]⟩ := by
  apply ba_list
  rw [hs, textL_jn]
  intro e
  rw [e] at hlen
  simp at hlen
 have hpl : p < 49 := by
  have := (hM l hlm).2
  rw [size_list] at hp
  omega
 have key : ∃ (L' : List ByteArray) (le' : ByteArray), (L ++ [le]).set j l' = L' ++ [le'] ∧ L'.length = L.length ∧ le' ≠ endB (sB L') := by
  by_cases hj : j = L.length
  ·subst hj
   refine ⟨L, l', by rw [List.set_append_right _ _ (Nat.le_refl _)]; simp, rfl, ?_⟩
   rw [← hle]
   have hll : l = le := by
    rw [List.getElem?_append_right (Nat.le_refl _)] at hl
    simpa using hl.symm
   intro e
   rw [hll, ← e] at hl' e2
   have h := congrArg (fun x : List UInt8 => x[p]?) hl'
   rw [e2, List.getElem?_set_self (by rw [hll, ← e] at hp; exact hp)] at h
   exact hne (Option.some.inj h)
  ·have hj2 : j < L.length := by omega
   have hlL : L[j]? = some l := by rwa [List.getElem?_append_left hj2] at hl
   have hset : (L ++ [le]).set j l' = L.set j l' ++ [le] := List.set_append_left _ _ hj2
   have n1 := sumA_n L 0 0 (by omega) (fun r hr => by have := (hL r hr).2; omega) (Int.le_refl _) (by omega)
   have hL' : ∀ r ∈ L.set j l', r.size ≤ 900 := fun r hr => by
    rcases List.mem_or_eq_of_mem_set hr with h | h
    ·have := (hL r h).2; omega
    ·rw [h]; omega
   have n2 := sumA_n (L.set j l') 0 0 (by rw [List.length_set]; omega) hL' (Int.le_refl _) (by rw [List.length_set]; omega)
   have n3 := nA_set c d p l l' e2 hl' L 0 j hlL
   refine ⟨L.set j l', le, hset, by simp, ?_⟩
   rw [hle]
   intro e
   have e9 := endB_inj e
   have hSn : sB L = nA L 0 := by
    have : sumA L 0 0 = (nA L 0 : Int) := by simpa using n1
    omega
   have hSn' : sB (L.set j l') = nA (L.set j l') 0 := by
    have n2' : sumA (L.set j l') 0 0 = (nA (L.set j l') 0 : Int) := by simpa using n2
    unfold sB
    rw [n2']; omega
   rw [hSn, hSn'] at e9
   rw [Nat.zero_add] at n3
   exact weight7_ne hpl (by omega) hc hd (fun h => hne (UInt8.toNat_inj.1 h)) n3 e9
 obtain ⟨L', le', k1, k2, k3⟩ := key
 rw [k1] at hsj hM'
 obtain ⟨t1, t2⟩ := trimB_end (jnS (L' ++ [le']) ⟨#[10]⟩)
 have hcut : cutB 10 (jnS (L' ++ [le']) ⟨#[10]⟩) = L' ++ [le'] := by
  have hne : ∃ x r, L' ++ [le'] = x :: r := by
   cases L' with
   | nil => exact ⟨_, _, rfl⟩
   | cons a b => exact ⟨_, _, rfl⟩
  obtain ⟨x, r, e⟩ := hne
  rw [e] at hM' ⊢
  exact cut_jn hM'
 unfold parseO
 rw [hsj, if_pos t1, t2, hcut]
 split
 ·rw [List.dropLast_concat, List.getLast?_concat]
  have hno : ¬ (some le' = some (endB (sB L'))) := fun h => k3 (Option.some.inj h)
  cases foldO 0 (0, []) L' with
  | none => rfl
  | some b => rw [Option.bind_some, if_neg hno]
 ·rfl
theorem spoilt_book {wn : Nat} {A : Option Addr} {n : Nat} {cs : List VC} {w : World} {B : Nat} (h : BkG wn A n cs w B) (hk : bookB (wn : Int) cs = true) (i : Nat) (c d : UInt8) (hi : (bookT wn cs).data.toList[i]? = some c)
  (hc : 48 ≤ c.toNat ∧ c.toNat ≤ 57) (hd : 48 ≤ d.toNat ∧ d.toNat ≤ 57) (hne : c ≠ d) (s : ByteArray) (hs : s.data.toList = (bookT wn cs).data.toList.set i d) : parseO s = none := by
 have hl : (linesB wn cs).length ≤ 30 := by rw [← bookP_snd, List.length_map]; exact bookP_len h
 refine spoilt7_none (linesB wn cs) (by unfold linesB; simp) hl (fun l hl => ⟨linesB_no10 (by have := h.1.2; omega) (book_smallW hk) l hl, ?_⟩) (sB_ok h) i c d hi hc hd hne s hs
 have hs2 := book_small hk
 unfold linesB at hl
 rcases List.mem_cons.1 hl with rfl | hl
 ·have := jn_len wBook ⟨#[32]⟩ rfl [dS wn]
  have e : szS [wBook, dS wn] = 7 := by unfold szS; simp only [List.map_cons, List.map_nil, List.sum_cons, List.sum_nil, dS_small h.1.2]; rfl
  omega
 ·obtain ⟨x, hx, hl⟩ := List.mem_flatMap.1 hl
  unfold copyB at hl
  rcases List.mem_cons.1 hl with rfl | hl
  ·exact of_decide_eq_true (by kernel_rfl)
  ·obtain ⟨v, hv, rfl⟩ := List.mem_map.1 hl
   have := ln_len (h.2.2.2.2.2.2 x hx v hv).2.1 (hs2 x hx v hv)
   omega
end
section
open Go.RowKit Go.Lib
theorem Read_none {s : ByteArray} (hs : s.size ≤ 400) (hp : parseO s = none) (m : Int) (w : World) (hE : Env m w) : Calls Tryz.prog 75 #[.string s] w fun e w' => e = .returned (.tuple #[.agg #[.int .i64 0, .slice none 0 0], .int .i64 4]) ∧ Below w.heap.size w w' := by
 refine (Read_short s m w hE hs).mono ?_
 rintro e w' ⟨hb, h⟩
 rw [hp] at h
 exact ⟨h, hb⟩
theorem sameBooks_nil (w : World) : Calls Tryz.prog 77 #[.agg #[.int .i64 0, .slice none 0 0], .agg #[.int .i64 0, .slice none 0 0]] w fun e w' => e = .returned (.bool true) ∧ Below w.heap.size w w' :=
 sameBooks_any 0 none 0 0 [] none 0 [] w ⟨Nat.le_refl _, Nat.zero_le _, Rd.nil .., fun c h => by cases h⟩ ⟨Nat.le_refl _, Nat.zero_le _, Rd.nil .., fun c h => by cases h⟩ rfl (fun c h => by cases h) (fun c h => by cases h) (by omega)
theorem spoilt_law (W : Int) (A : Option Addr) (n cap : Nat) (cs : List VC) (at_ d : Int) (m : Int) (w : World) (hE : Env m w) (h : BkI w A n cap cs) (hq1 : -9223372036854775808 ≤ at_) (hq2 : at_ ≤ 9223372036854775807) (hr1 : -9223372036854775808 ≤ d) (hr2 : d ≤ 9223372036854775807) :
  Calls Tryz.prog 22 #[.agg #[.int .i64 W, .slice A n cap], .int .i64 at_, .int .i64 d] w fun e w' => e = .returned (.bool true) ∧ Below w.heap.size w w' := by
 have hX := Blk.new w 24 #[.int .i64 W, .slice A n cap]
 have hB : Below w.heap.size w (w.alloc (.cells #[.int .i64 W, .slice A n cap] 24)) := (Below.refl _ w).alloc (Nat.le_refl _) _
 have qX := fun i => hX.cell i
 go_enter Tryz.func22, Tryz.ntmps22
 go_wp2_with fail
 refine (short_any W A n cap cs _ (h.toW hB)).mono ?_; rintro e wc ⟨⟨b, rfl⟩, hb⟩
 replace hB := hB.trans (hb.mono hB.size); replace hX := hX.below hb hX.lt; clear hb qX; have qX := fun i => hX.cell i
 cases b with
 | false =>
  go_wp2_with fail
  refine (known_true m _ (hE.below hB)).mono ?_; rintro e wc ⟨rfl, hb⟩
  replace hB := hB.trans (hb.mono hB.size); clear hb
  go_wp2_with fail
  go_ret
  exact ⟨rfl, hB⟩
 | true =>
  have hrb := fun wx hx => refBook_any W A n cap cs wx (h.toW hx)
  cases hbk : bookB W cs with
  | false =>
   simp only [hbk] at hrb
   have HRB := Lib.hid hrb; clear hrb hbk h
   go_wp2_with fail
   refine (HRB.out _ hB).mono ?_; rintro e wc ⟨rfl, hb⟩
   replace hB := hB.trans (hb.mono hB.size); replace hX := hX.below hb hX.lt; clear hb qX; have qX := fun i => hX.cell i
   go_wp2_with fail
   refine (known_true m _ (hE.below hB)).mono ?_; rintro e wc ⟨rfl, hb⟩
   replace hB := hB.trans (hb.mono hB.size); clear hb
   go_wp2_with fail
   go_ret
   exact ⟨rfl, hB⟩
  | true =>
   simp only [hbk] at hrb
   have HRB := Lib.hid hrb; clear hrb
   by_cases hd0 : d < 0
   ·clear hbk h
    go_wp2_with fail
    refine (HRB.out _ hB).mono ?_; rintro e wc ⟨rfl, hb⟩
    replace hB := hB.trans (hb.mono hB.size); replace hX := hX.below hb hX.lt; clear hb qX; have qX := fun i => hX.cell i
    go_wp2_with fail
    refine (known_true m _ (hE.below hB)).mono ?_; rintro e wc ⟨rfl, hb⟩
    replace hB := hB.trans (hb.mono hB.size); clear hb
    go_wp2_with fail
    go_ret
    exact ⟨rfl, hB⟩
   ·by_cases hd9 : 9 < d
    ·clear hbk h
     go_wp2_with fail
     refine (HRB.out _ hB).mono ?_; rintro e wc ⟨rfl, hb⟩
     replace hB := hB.trans (hb.mono hB.size); replace hX := hX.below hb hX.lt; clear hb qX; have qX := fun i => hX.cell i
     go_wp2_with fail
     refine (known_true m _ (hE.below hB)).mono ?_; rintro e wc ⟨rfl, hb⟩
     replace hB := hB.trans (hb.mono hB.size); clear hb
     go_wp2_with fail
     go_ret
     exact ⟨rfl, hB⟩
    ·obtain ⟨wn, rfl, hG⟩ := BkG.of_book hbk h.2.2.1 h.2.2.2
     have hc1 := fun (wx : World) (hx : Below w.heap.size w wx) => Print_yes cap m (hE.below hx) (hG.toW hx) hbk
     have hno := fun (i : Nat) (c e : UInt8) (hi : (bookT wn cs).data.toList[i]? = some c) (hc : 48 ≤ c.toNat ∧ c.toNat ≤ 57) (he : 48 ≤ e.toNat ∧ e.toNat ≤ 57) (hne : c ≠ e) (s : ByteArray) (hs : s.data.toList = (bookT wn cs).data.toList.set i e) => spoilt_book hG hbk i c e hi hc he hne s hs
     have hsz := bookT_size hG hbk
     generalize bookT wn cs = T at *
     have HC1 := Lib.hid hc1; have HNO := Lib.hid hno; clear hc1 hno hbk h hG
     go_wp2_with fail
     refine (HRB.out _ hB).mono ?_; rintro e wc ⟨rfl, hb⟩
     replace hB := hB.trans (hb.mono hB.size); replace hX := hX.below hb hX.lt; clear hb qX; have qX := fun i => hX.cell i
     go_wp2_with fail
     refine (HC1.out _ hB).mono ?_; rintro e wc ⟨rfl, hb⟩
     replace hB := hB.trans (hb.mono hB.size); replace hX := hX.below hb hX.lt; clear hb qX; have qX := fun i => hX.cell i
     by_cases ha0 : at_ < 0
     ·skip
      go_wp2_with fail
      refine (known_true m _ (hE.below hB)).mono ?_; rintro e wc ⟨rfl, hb⟩
      replace hB := hB.trans (hb.mono hB.size); clear hb
      go_wp2_with fail
      go_ret
      exact ⟨rfl, hB⟩
     ·by_cases has : (T.size : Int) ≤ at_
      ·skip
       go_wp2_with fail
       refine (known_true m _ (hE.below hB)).mono ?_; rintro e wc ⟨rfl, hb⟩
       replace hB := hB.trans (hb.mono hB.size); clear hb
       go_wp2_with fail
       go_ret
       exact ⟨rfl, hB⟩
      ·obtain ⟨i, rfl⟩ : ∃ i : Nat, at_ = i := ⟨at_.toNat, by omega⟩
       obtain ⟨dd, rfl⟩ : ∃ dd : Nat, d = dd := ⟨d.toNat, by omega⟩
       have hik : i < T.size := by omega
       obtain ⟨cc, hcc⟩ : ∃ cc : Nat, (T[i]'hik).toNat = cc := ⟨_, rfl⟩
       have hii : (i : Int) < T.size := by omega
       have h0i : (0 : Int) ≤ i := by omega
       by_cases h48 : (cc : Int) < 48
       ·skip
        go_wp2_with fail
        refine (known_true m _ (hE.below hB)).mono ?_; rintro e wc ⟨rfl, hb⟩
        replace hB := hB.trans (hb.mono hB.size); clear hb
        go_wp2_with fail
        go_ret
        exact ⟨rfl, hB⟩
       ·by_cases h57 : 57 < (cc : Int)
        ·skip
         go_wp2_with fail
         refine (known_true m _ (hE.below hB)).mono ?_; rintro e wc ⟨rfl, hb⟩
         replace hB := hB.trans (hb.mono hB.size); clear hb
         go_wp2_with fail
         go_ret
         exact ⟨rfl, hB⟩
        ·obtain ⟨c, rfl⟩ : ∃ c : Nat, cc = 48 + c := ⟨cc - 48, by omega⟩
         have hw8 : IntKind.u8.wrap (c : Int) = c := by simp only [IntKind.wrap, IntKind.signed, IntKind.bits]; simp; omega
         have hw64 := i64_ok (c : Int) (by omega)
         have hs0 : (48 : Int) + (c : Int) - 48 = c := by omega
         have h1c : ¬ (48 : Int) + (c : Int) < 48 := by omega
         have h2c : ¬ (57 : Int) < (48 : Int) + (c : Int) := by omega
         by_cases hcd : c = dd
         ·subst hcd
          have hcd2 : ((c : Int) == (c : Int)) = true := by simp
          go_wp2_with fail
          refine (known_true m _ (hE.below hB)).mono ?_; rintro e wc ⟨rfl, hb⟩
          replace hB := hB.trans (hb.mono hB.size); clear hb
          go_wp2_with fail
          go_ret
          exact ⟨rfl, hB⟩
         ·have hcd2 : ((c : Int) == dd) = false := by rw [beq_eq_false_iff_ne]; omega
          have hcd3 : ¬ (c : Int) = dd := by omega
          have hw65 := i64_ok (48 + (dd : Int)) (by omega)
          have hw9 : IntKind.u8.wrap (48 + (dd : Int)) = 48 + (dd : Int) := by simp only [IntKind.wrap, IntKind.signed, IntKind.bits]; simp; omega
          have hcv : ∀ w : World, (convert 9 111 (.string T)).run Tryz.prog w = .ok (.slice (some ⟨w.heap.size, 0, none⟩) T.size (grownCap w T.size 0 5)) (bytesWorld w 5 T) := fun w => Lib.run_convert_string_bytes w 9 111 5 T Tryz.underlying9 Tryz.underlying111 Tryz.underlying5
          obtain ⟨l, hl⟩ : ∃ l, l = T.data.toList.set i (UInt8.ofNat (48 + dd)) := ⟨_, rfl⟩
          have hll : l.length = T.size := by rw [hl, List.length_set, size_list]
          have hTi : T.data.toList[i]? = some (T[i]'hik) := by rw [List.getElem?_eq_getElem (by rw [size_list]; exact hik)]; rfl
          have hpn : parseO ⟨l.toArray⟩ = none := HNO.out i (T[i]'hik) (UInt8.ofNat (48 + dd)) hTi (by omega) (by rw [UInt8.toNat_ofNat']; omega) (fun e => by
            have := congrArg UInt8.toNat e
            rw [hcc, UInt8.toNat_ofNat'] at this
            omega) ⟨l.toArray⟩ (by rw [hl])
          have hnone := fun (wx : World) (hx : Env m wx) => Read_none (s := ⟨l.toArray⟩) (by show l.toArray.size ≤ 400; simp; omega) hpn m wx hx
          have HNONE := Lib.hid hnone
          clear hnone hpn HNO hTi HC1 HRB qX hX
          rename World => W1
          go_upto_region 9 with (fail)
          have hbx := bytes_below W1 5 T
          have hcl : ∀ j, j < T.size → (bytesWorld W1 5 T).cell? ⟨W1.heap.size, j, none⟩ = some (.int .u8 (T.data.toList.getD j 0).toNat) := fun j hj => bytesWorld_cell W1 5 T j hj
          have hfz := bytes_frozen W1 5 T i hik
          have hlt : W1.heap.size < (bytesWorld W1 5 T).heap.size := by rw [bytesWorld_size]; omega
          obtain ⟨cp, hcp⟩ : ∃ cp, cp = grownCap W1 T.size 0 5 := ⟨_, rfl⟩
          rw [← hcp]
          clear hcp
          obtain ⟨g, hg9⟩ : ∃ g, g = W1.heap.size := ⟨_, rfl⟩
          have hBg : w.heap.size ≤ g := by rw [hg9]; exact hB.size
          replace hB := hB.trans (hbx.mono hB.size)
          rw [← hg9] at hcl hfz hlt ⊢
          clear hbx hg9
          generalize bytesWorld W1 5 T = W2 at *
          have hci := hcl i hik
          have hback : (convert 111 9 (.slice (some ⟨g, 0, none⟩) T.size cp)).run Tryz.prog (W2.setCell ⟨g, i, none⟩ (.int .u8 (48 + (dd : Int)))) = .ok (.string ⟨l.toArray⟩) (W2.setCell ⟨g, i, none⟩ (.int .u8 (48 + (dd : Int)))) := by
           rw [← hll]
           refine run_convert_bytes_back _ 111 9 5 ⟨g, 0, none⟩ cp l Tryz.underlying111 Tryz.underlying5 Tryz.underlying9 (fun j hj => ?_)
           have hadd : (Addr.add ⟨g, 0, none⟩ j) = ⟨g, j, none⟩ := by simp [Addr.add]; omega
           rw [hadd]
           have hjT : j < T.size := by omega
           by_cases hji : j = i
           ·subst hji
            rw [World.cell?_setCell_same' _ _ _ (by rw [hci]; rfl)]
            congr 2
            have e : l[j] = UInt8.ofNat (48 + dd) := by simp [hl]
            rw [e, UInt8.toNat_ofNat']
            omega
           ·rw [World.cell?_setCell_other _ _ _ _ (fun e => hji (by simp at e <;> omega)), hcl j hjT]
            congr 2
            have e : l[j] = T.data.toList[j]'(by rw [size_list]; exact hjT) := by simp [hl, List.getElem_set_ne (fun h => hji h.symm)]
            rw [e, List.getD_eq_getElem?_getD, List.getElem?_eq_getElem (by rw [size_list]; exact hjT)]
            rfl
          have hB2 := hB.setCell (p := ⟨g, i, none⟩) hBg (.int .u8 (48 + (dd : Int)))
          clear hcl hl
          go_upto_region 10 with (fail)
          clear hB hci hfz
          generalize W2.setCell ⟨g, i, none⟩ (.int .u8 (48 + (dd : Int))) = W3 at *
          have hE3 := hE.below hB2
          go_upto_region 11 with (go_at_call 75; refine (HNONE.out W3 hE3).mono ?_; rintro e w4 ⟨rfl, hb⟩; dsimp only; replace hB2 := hB2.trans (hb.mono hB2.size))
          have hX := Blk.new w4 24 #[.int .i64 0, .slice none 0 0]
          have hbx := (Below.refl w4.heap.size w4).alloc (Nat.le_refl _) (.cells #[.int .i64 0, .slice none 0 0] 24)
          replace hB2 := hB2.trans (hbx.mono hB2.size)
          clear HNONE hcv hback
          generalize w4.alloc (.cells #[.int .i64 0, .slice none 0 0] 24) = W5 at *
          generalize w4.heap.size = gX at hX ⊢
          clear hbx
          have qX := fun i => Blk.cell hX i
          go_wp2_with fail
          refine (sameBooks_nil _).mono ?_; rintro e w5 ⟨rfl, hb⟩; replace hB2 := hB2.trans (hb.mono hB2.size)
          go_wp2_with fail
          refine (known_true m _ (hE.below hB2)).mono ?_; rintro e w6 ⟨rfl, hb⟩; replace hB2 := hB2.trans (hb.mono hB2.size)
          go_wp2_with fail
          go_ret
          exact ⟨rfl, hB2⟩
end
section
open Go.ChangeShapes Go.WideShapes Go.ChangeAt Go.RowKit Go.Deep Go.Lib
set_option maxRecDepth 100000
section
variable {H : Type} {enc : TypeId × Value → H} {w : World} {base : Nat} {spare : Nat → Bool} {held : Bool} {r : Reach} {b0 : Nat} {v : Value} {d : DataW H} {p : List MemPlace}
theorem law_num (hv : Value.okWide Tryz.prog w r b0 3 v) (h : DataW.Trod enc Tryz.prog w base spare held 3 v d p) : ∃ k : Int, v = .int .i64 k ∧ -9223372036854775808 ≤ k ∧ k ≤ 9223372036854775807 := by
 obtain ⟨k, rfl, rfl, rfl, wk⟩ := open_int Tryz.underlying3 hv h
 have := wk
 simp [Lit.wf, IntKind.min, IntKind.max, IntKind.signed, IntKind.bits] at this
 exact ⟨k, rfl, by omega, by omega⟩
end
end
end Go.Proofs.YtekmnelpkogppaaGreatDoor
