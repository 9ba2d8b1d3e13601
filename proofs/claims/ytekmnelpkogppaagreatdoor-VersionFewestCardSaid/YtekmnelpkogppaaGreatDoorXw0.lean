import Derived.Test.YtekmnelpkogppaaGreatDoorKx11
set_option linter.unusedVariables false
set_option linter.unusedSimpArgs false
set_option maxRecDepth 100000
set_option maxHeartbeats 40000000
namespace Go.Proofs.YtekmnelpkogppaaGreatDoor
section
set_option linter.unusedVariables false
set_option linter.unusedSimpArgs false
section -- WkOp
open Go.ChangeShapes Go.WideShapes Go.ChangeAt Go.RowKit Go.Deep
section
variable {H : Type} {enc : TypeId × Value → H} {P : Program} {w : World} {base : Nat} {spare : Nat → Bool} {held : Bool} {r : Reach} {b0 : Nat} {v : Value} {d : DataW H} {p : List MemPlace}
theorem some_of_len {α : Type} {l : List α} {i n : Nat} (h : l.length = n) (hi : i < n) : (l[i]?).isSome = true := by
 rw [List.getElem?_eq_getElem (by omega)]; rfl
end
end
section -- WkOq
open Go.ChangeShapes Go.WideShapes Go.ChangeAt Go.RowKit Go.Deep
section
variable {H : Type} {enc : TypeId × Value → H} {P : Program} {w : World} {base : Nat} {spare : Nat → Bool} {held : Bool} {r : Reach} {b0 : Nat} {v : Value} {d : DataW H} {p : List MemPlace}
theorem allInt_struct {t : TypeId} {fs : Array Field} (ks : List Nat) (ht : P.underlying t = some (.struct fs)) (hC : P.cellsOf t = ks.sum) (hl : fs.size = ks.length)
  (hf : ∀ (i : Nat) (f : Field) (k : Nat), fs[i]? = some f → ks[i]? = some k → f.offset = (ks.take i).sum ∧ AllInt enc P w base spare held f.type k) : AllInt enc P w base spare held t ks.sum := by
 refine ⟨hC, fun n cs y hy h => ?_⟩
 obtain ⟨y', rfl⟩ := Option.isSome_iff_exists.1 hy
 obtain ⟨xs, m, _, _, hlen, hxl, hg⟩ := DataW.trod_struct ht h
 have each : ∀ j, j ≤ ks.length → ∃ ns : List Int, ns.length = (ks.take j).sum ∧ cs.take (ks.take j).sum = ns.map (Value.int .i64) := by
  intro j
  induction j with
  | zero => intro _; exact ⟨[], rfl, by simp⟩
  | succ j ih =>
   intro hj
   obtain ⟨ns, h1, h2⟩ := ih (by omega)
   have hfj : fs[j]? = some fs[j] := Array.getElem?_eq_getElem (by omega)
   have hkj : ks[j]? = some ks[j] := List.getElem?_eq_getElem (by omega)
   obtain ⟨ho, hc, ha⟩ := hf j _ _ hfj hkj
   obtain ⟨ms, h3, h4⟩ := ha _ _ _ (some_of_len hxl (by omega)) (hg j _ hfj)
   rw [ho, hc] at h4
   have hs : (ks.take (j + 1)).sum = (ks.take j).sum + ks[j] := by rw [List.take_succ_eq_append_getElem (by omega), List.sum_append]; simp
   refine ⟨ns ++ ms, by rw [List.length_append, h1, h3, hs], ?_⟩
   rw [hs, List.take_add, h2, h4, List.map_append]
 obtain ⟨ns, h1, h2⟩ := each ks.length (Nat.le_refl _)
 rw [List.take_length] at h1 h2
 rw [List.take_of_length_le (by rw [hlen, hC]; exact Nat.le_refl _)] at h2
 exact ⟨ns, h1, h2⟩
end
end
end
section
theorem ed_map {α β : Type} [DecidableEq α] [DecidableEq β] (f : α → β) : ∀ (a b : List α), (∀ x ∈ a, ∀ y ∈ b, f x = f y → x = y) → ed (a.map f) (b.map f) = ed a b
 | [], b, _ => by simp [ed_nil]
 | x :: xs, b, h => by
  have ih := fun b hb => ed_map f xs b hb
  induction b with
  | nil => simp [ed_nil_r]
  | cons y ys ihb =>
   rw [List.map_cons, List.map_cons, ed_cons, ed_cons, ← List.map_cons, ← List.map_cons]
   rw [ih ys (fun p hp q hq => h p (by simp [hp]) q (by simp [hq])), ih (y :: ys) (fun p hp q hq => h p (by simp [hp]) q hq), ihb (fun p hp q hq => h p hp q (by simp [hq]))]
   by_cases e : x = y
   ·rw [if_pos e, if_pos (by rw [e])]
   ·rw [if_neg e, if_neg (fun e2 => e (h x (by simp) y (by simp) e2))]
end
section
open Go.RowKit Go.Lib
theorem IA.toW {w w' : World} {A : Option Addr} {n cap : Nat} {l : List Int} (h : IA w A n cap l) (hb : Below w.heap.size w w') : IA w' A n cap l := ⟨h.1, h.2.1, rdB h.2.2 hb⟩
theorem IA.max {w : World} {A : Option Addr} {n cap : Nat} {l : List Int} (h : IA w A n cap l) : n ≤ maxLen := Nat.le_trans h.1 h.2.1
theorem IA.len {w : World} {A : Option Addr} {n cap : Nat} {l : List Int} (h : IA w A n cap l) : l.length = n := by simpa using h.2.2.len
theorem u8_inj {x y : Int} (hx : 0 ≤ x ∧ x ≤ 2) (hy : 0 ≤ y ∧ y ≤ 2) (e : UInt8.ofNat x.toNat = UInt8.ofNat y.toNat) : x = y := by
 have h := congrArg UInt8.toNat e
 simp only [UInt8.toNat_ofNat'] at h
 omega
theorem edB_int {a b : List Int} (ha : ∀ x ∈ a, 0 ≤ x ∧ x ≤ 2) (hb : ∀ x ∈ b, 0 ≤ x ∧ x ≤ 2) : edB (lbS a) (lbS b) = ed a b := by
 show ed (lbL a) (lbL b) = ed a b
 unfold lbL
 exact ed_map _ a b (fun x hx y hy e => u8_inj (ha x hx) (hb y hy) e)
theorem book_W {W : Int} {cs : List VC} (h : bookB W cs = true) : 1 ≤ W ∧ W ≤ 3 := by
 unfold bookB at h
 simp only [Bool.and_eq_true] at h
 simpa [inB] using h.1.1.1
section
variable {W : Int} {A : Option Addr} {n cap : Nat} {cs : List VC} {w : World} {A1 A2 : Option Addr} {n1 n2 c1 c2 : Nat} {l1 l2 : List Int}
theorem Line_I (h : BkI w A n cap cs) (hk : bookB W cs = true) (h1 : IA w A1 n1 c1 l1) : Calls Tryz.prog 28 #[.agg #[.int .i64 W, .slice A n cap], .slice A1 n1 c1] w fun e w' => e = .returned (.bool (lnB W l1)) ∧ Below w.heap.size w w' := refLine_any W A n cap A1 n1 c1 l1 w (by have := book_W hk; omega) (by have := book_W hk; omega) h1.max h1.2.2
theorem Changes_I (h : BkI w A n cap cs) (hk : bookB W cs = true) (h1 : IA w A1 n1 c1 l1) (h2 : IA w A2 n2 c2 l2) (k1 : lnB W l1 = true) (k2 : lnB W l2 = true) :
  Calls Tryz.prog 26 #[.agg #[.int .i64 W, .slice A n cap], .slice A1 n1 c1, .slice A2 n2 c2] w fun e w' => e = .returned (.tuple #[.int .i64 (ed l1 l2 : Nat), .int .i64 0]) ∧ Below w.heap.size w w' := by
 have h3 := Changes_yes W A n cap cs A1 n1 c1 l1 A2 n2 c2 l2 w h.max h.2.2.1 h.2.2.2 h1.max h1.2.2 h2.max h2.2.2 hk k1 k2
 rw [edB_int (ln_small (book_W hk) k1).2 (ln_small (book_W hk) k2).2] at h3
 exact h3
def RightB (W : Int) (cs : List VC) (e : Ending) : Prop := ∃ b : Bool, e = .returned (.bool b) ∧ (b = true → bookB W cs = true)
theorem right_any (h : BkI w A n cap cs) : Calls Tryz.prog 30 #[.agg #[.int .i64 W, .slice A n cap]] w fun e w' => RightB W cs e ∧ Below w.heap.size w w' := by
 have hX := Blk.new w 24 #[.int .i64 W, .slice A n cap]
 have hB : Below w.heap.size w (w.alloc (.cells #[.int .i64 W, .slice A n cap] 24)) := (Below.refl _ w).alloc (Nat.le_refl _) _
 have qX := fun i => hX.cell i
 go_enter Tryz.func30, Tryz.ntmps30
 go_wp2_with fail
 refine (short_any W A n cap cs _ (h.toW hB)).mono ?_; rintro e wc ⟨⟨b, rfl⟩, hb⟩
 replace hB := hB.trans (hb.mono hB.size); replace hX := hX.below hb hX.lt; clear hb qX; have qX := fun i => hX.cell i
 cases b with
 | false =>
  go_wp2_with fail
  go_ret
  exact ⟨⟨false, rfl, fun h => by cases h⟩, hB⟩
 | true =>
  have hbk := refBook_any W A n cap cs
  obtain ⟨R, hR⟩ : ∃ R, R = bookB W cs := ⟨_, rfl⟩
  rw [← hR] at hbk
  have HR := Lib.hid hR; clear hR
  go_wp2_with fail
  refine (hbk _ (h.toW hB)).mono ?_; rintro e wc ⟨rfl, hb⟩
  replace hB := hB.trans (hb.mono hB.size); clear hb qX
  go_wp2_with fail
  go_ret
  exact ⟨⟨R, rfl, fun h => by rw [← HR.out]; exact h⟩, hB⟩
end
end
section
open Go.RowKit Go.Lib
theorem lnB_len {W : Int} {l : List Int} (h : lnB W l = true) : l.length ≤ 4 := by
 unfold lnB at h
 simp only [Bool.and_eq_true, decide_eq_true_eq] at h
 exact h.1
end
section
open Go.RowKit Go.Lib Go.Maps
def stI (p : Int × Int) : List Value := [.int .i64 p.1, .int .i64 p.2]
theorem stI_len : ∀ l : List (Int × Int), (l.flatMap stI).length = l.length * 2
 | [] => rfl
 | x :: l => by rw [List.flatMap_cons, List.length_append, stI_len l]; simp [stI]; omega
def sF : Nat → List Int → List Int → List (Int × Int)
 | 0, _, _ => []
 | _ + 1, [], [] => []
 | k + 1, [], y :: ys => (3, y) :: sF k [] ys
 | k + 1, x :: xs, [] => (4, x) :: sF k xs []
 | k + 1, x :: xs, y :: ys =>
  if (if x = y then ed xs ys else 1 + ed xs ys) = ed (x :: xs) (y :: ys) then ((if x = y then 1 else 2), y) :: sF k xs ys
  else if 1 + ed (x :: xs) ys = ed (x :: xs) (y :: ys) then (3, y) :: sF k (x :: xs) ys else (4, x) :: sF k xs (y :: ys)
theorem sF_len : ∀ (k : Nat) (a b : List Int), (sF k a b).length ≤ a.length + b.length
 | 0, _, _ => Nat.zero_le _
 | _ + 1, [], [] => Nat.zero_le _
 | k + 1, [], y :: ys => by
  have := sF_len k [] ys
  rw [show sF (k + 1) [] (y :: ys) = (3, y) :: sF k [] ys from rfl]
  simp only [List.length_cons, List.length_nil] at this ⊢; omega
 | k + 1, x :: xs, [] => by
  have := sF_len k xs []
  rw [show sF (k + 1) (x :: xs) [] = (4, x) :: sF k xs [] from rfl]
  simp only [List.length_cons, List.length_nil] at this ⊢; omega
 | k + 1, x :: xs, y :: ys => by
  have h1 := sF_len k xs ys; have h2 := sF_len k (x :: xs) ys; have h3 := sF_len k xs (y :: ys)
  rw [sF]
  simp only [List.length_cons] at h2 h3 ⊢
  repeat' split
  all_goals (try simp only [List.length_cons])
  all_goals omega
end
section
open Go.RowKit Go.Lib Go.Maps
def toU (p : Int × Int) : Int × UInt8 := (p.1, UInt8.ofNat p.2.toNat)
theorem lbS_hd {x : Int} {xs : List Int} : hd (lbS (x :: xs)) = UInt8.ofNat x.toNat ∧ tl (lbS (x :: xs)) = lbS xs := by
 have h := sz_cons (lbS (x :: xs)) (by rw [lbS_size]; simp)
 have h1 : (lbS (x :: xs)).data.toList = UInt8.ofNat x.toNat :: lbL xs := rfl
 rw [h1] at h
 obtain ⟨h2, h3⟩ := List.cons.inj h
 refine ⟨h2.symm, ByteArray.ext (Array.ext' ?_)⟩
 exact h3.symm
theorem edB_lb {a b : List Int} (ha : ∀ x ∈ a, 0 ≤ x ∧ x ≤ 2) (hb : ∀ x ∈ b, 0 ≤ x ∧ x ≤ 2) : edB (lbS a) (lbS b) = ed a b := edB_int ha hb
theorem best3 {c0 c2 c3 E : Nat} (hE : E = min c0 (min c2 c3)) {m0 m2 m3 : MV} (h0 : costN m0 = c0) (h2 : costN m2 = c2) (h3 : costN m3 = c3) :
  bestF costN [m0, m2, m3] = some (if c0 = E then m0 else if c2 = E then m2 else m3) := by
 simp only [bestF, List.foldl_cons, List.foldl_nil, h0, h2]
 congr 1
 by_cases k1 : c2 < c0
 ·rw [if_pos k1, h2, h3, if_neg (by omega : ¬ c0 = E)]
  by_cases k2 : c3 < c2
  ·rw [if_pos k2, if_neg (by omega)]
  ·rw [if_neg k2, if_pos (by omega)]
 ·rw [if_neg k1, h0, h3]
  by_cases k2 : c3 < c0
  ·rw [if_pos k2, if_neg (by omega), if_neg (by omega)]
  ·rw [if_neg k2, if_pos (by omega)]
theorem stepsG_sF : ∀ (k : Nat) (a b : List Int), (∀ x ∈ a, 0 ≤ x ∧ x ≤ 2) → (∀ x ∈ b, 0 ≤ x ∧ x ≤ 2) → stepsG k (lbS a) (lbS b) = (sF k a b).map toU
 | 0, _, _, _, _ => rfl
 | k + 1, [], [], _, _ => by
  have e : movesP 4 (lbS []) (lbS []) = [] := by
   rw [movesP_four]
   simp only [mvO, lbS_size, List.length_nil, Nat.lt_irrefl, false_and, if_false, Option.toList_none, List.append_nil]
  rw [stepsG, e]
  rfl
 | k + 1, [], y :: ys, ha, hb => by
  have hy : ∀ x ∈ ys, 0 ≤ x ∧ x ≤ 2 := fun x hx => hb x (List.mem_cons_of_mem _ hx)
  have e : movesP 4 (lbS []) (lbS (y :: ys)) = [⟨3, UInt8.ofNat y.toNat, lbS [], lbS ys⟩] := by
   rw [movesP_four]
   simp only [mvO, lbS_size, lbS_hd, List.length_nil, List.length_cons, Nat.lt_irrefl, Nat.zero_lt_succ, false_and, if_false, if_true, Option.toList_none, Option.toList_some, List.append_nil, List.nil_append]
  rw [stepsG, e, show sF (k + 1) [] (y :: ys) = (3, y) :: sF k [] ys from rfl, List.map_cons, ← stepsG_sF k [] ys ha hy]
  rfl
 | k + 1, x :: xs, [], ha, hb => by
  have hx' : ∀ z ∈ xs, 0 ≤ z ∧ z ≤ 2 := fun z hz => ha z (List.mem_cons_of_mem _ hz)
  have e : movesP 4 (lbS (x :: xs)) (lbS []) = [⟨4, UInt8.ofNat x.toNat, lbS xs, lbS []⟩] := by
   rw [movesP_four]
   simp only [mvO, lbS_size, lbS_hd, List.length_nil, List.length_cons, Nat.lt_irrefl, Nat.zero_lt_succ, false_and, and_false, if_false, if_true, Option.toList_none, Option.toList_some, List.append_nil, List.nil_append]
  rw [stepsG, e, show sF (k + 1) (x :: xs) [] = (4, x) :: sF k xs [] from rfl, List.map_cons, ← stepsG_sF k xs [] hx' hb]
  rfl
 | k + 1, x :: xs, y :: ys, ha, hb => by
  have hx' : ∀ z ∈ xs, 0 ≤ z ∧ z ≤ 2 := fun z hz => ha z (List.mem_cons_of_mem _ hz)
  have hy : ∀ z ∈ ys, 0 ≤ z ∧ z ≤ 2 := fun z hz => hb z (List.mem_cons_of_mem _ hz)
  have hx0 := ha x List.mem_cons_self
  have hy0 := hb y List.mem_cons_self
  have hEm := ed_moves x y xs ys
  have s1 := stepsG_sF k xs ys hx' hy
  have s2 := stepsG_sF k (x :: xs) ys ha hy
  have s3 := stepsG_sF k xs (y :: ys) hx' hb
  have c1 := edB_lb hx' hy
  have c2 := edB_lb ha hy
  have c3 := edB_lb hx' hb
  rw [stepsG, movesP_four]
  rw [sF]
  by_cases hxy : x = y
  ·subst hxy
   rw [if_pos rfl] at hEm
   have e0 : mvO 0 (lbS (x :: xs)) (lbS (x :: ys)) = some ⟨1, UInt8.ofNat x.toNat, lbS xs, lbS ys⟩ := by simp [mvO, lbS_size, lbS_hd]
   have e1 : mvO 1 (lbS (x :: xs)) (lbS (x :: ys)) = none := by simp [mvO, lbS_size, lbS_hd]
   have e2 : mvO 2 (lbS (x :: xs)) (lbS (x :: ys)) = some ⟨3, UInt8.ofNat x.toNat, lbS (x :: xs), lbS ys⟩ := by simp [mvO, lbS_size, lbS_hd]
   have e3 : mvO 3 (lbS (x :: xs)) (lbS (x :: ys)) = some ⟨4, UInt8.ofNat x.toNat, lbS xs, lbS (x :: ys)⟩ := by simp [mvO, lbS_size, lbS_hd]
   rw [e0, e1, e2, e3]
   simp only [Option.toList_some, Option.toList_none, List.append_nil, List.cons_append, List.nil_append]
   rw [best3 hEm (by simp [costN, c1]) (by simp [costN, c2, Nat.add_comm]) (by simp [costN, c3, Nat.add_comm])]
   simp only [if_true]
   by_cases k1 : ed xs ys = ed (x :: xs) (x :: ys)
   ·rw [if_pos k1, if_pos k1]
    rw [List.map_cons, ← s1]; rfl
   ·rw [if_neg k1, if_neg k1]
    by_cases k2 : 1 + ed (x :: xs) ys = ed (x :: xs) (x :: ys)
    ·rw [if_pos k2, if_pos k2]
     rw [List.map_cons, ← s2]; rfl
    ·rw [if_neg k2, if_neg k2]
     rw [List.map_cons, ← s3]; rfl
  ·rw [if_neg hxy] at hEm
   have hne : UInt8.ofNat x.toNat ≠ UInt8.ofNat y.toNat := fun h => hxy (u8_inj hx0 hy0 h)
   have e0 : mvO 0 (lbS (x :: xs)) (lbS (y :: ys)) = none := by simp [mvO, lbS_size, lbS_hd, hne]
   have e1 : mvO 1 (lbS (x :: xs)) (lbS (y :: ys)) = some ⟨2, UInt8.ofNat y.toNat, lbS xs, lbS ys⟩ := by simp [mvO, lbS_size, lbS_hd, hne]
   have e2 : mvO 2 (lbS (x :: xs)) (lbS (y :: ys)) = some ⟨3, UInt8.ofNat y.toNat, lbS (x :: xs), lbS ys⟩ := by simp [mvO, lbS_size, lbS_hd]
   have e3 : mvO 3 (lbS (x :: xs)) (lbS (y :: ys)) = some ⟨4, UInt8.ofNat x.toNat, lbS xs, lbS (y :: ys)⟩ := by simp [mvO, lbS_size, lbS_hd]
   rw [e0, e1, e2, e3]
   simp only [Option.toList_some, Option.toList_none, List.append_nil, List.cons_append, List.nil_append]
   rw [best3 hEm (by simp [costN, c1, Nat.add_comm]) (by simp [costN, c2, Nat.add_comm]) (by simp [costN, c3, Nat.add_comm])]
   simp only [if_neg hxy]
   by_cases k1 : 1 + ed xs ys = ed (x :: xs) (y :: ys)
   ·rw [if_pos k1, if_pos k1]
    rw [List.map_cons, ← s1]; rfl
   ·rw [if_neg k1, if_neg k1]
    by_cases k2 : 1 + ed (x :: xs) ys = ed (x :: xs) (y :: ys)
    ·rw [if_pos k2, if_pos k2]
     rw [List.map_cons, ← s2]; rfl
    ·rw [if_neg k2, if_neg k2]
     rw [List.map_cons, ← s3]; rfl
theorem sF_small : ∀ (k : Nat) (a b : List Int), (∀ x ∈ a, 0 ≤ x ∧ x ≤ 2) → (∀ x ∈ b, 0 ≤ x ∧ x ≤ 2) → ∀ p ∈ sF k a b, 0 ≤ p.2 ∧ p.2 ≤ 2
 | 0, _, _, _, _ => fun p hp => absurd hp List.not_mem_nil
 | k + 1, [], [], _, _ => fun p hp => absurd hp List.not_mem_nil
 | k + 1, [], y :: ys, ha, hb => by
  rw [show sF (k + 1) [] (y :: ys) = (3, y) :: sF k [] ys from rfl]
  intro p hp
  rcases List.mem_cons.1 hp with rfl | hp
  ·exact hb y List.mem_cons_self
  ·exact sF_small k [] ys ha (fun x hx => hb x (List.mem_cons_of_mem _ hx)) p hp
 | k + 1, x :: xs, [], ha, hb => by
  rw [show sF (k + 1) (x :: xs) [] = (4, x) :: sF k xs [] from rfl]
  intro p hp
  rcases List.mem_cons.1 hp with rfl | hp
  ·exact ha x List.mem_cons_self
  ·exact sF_small k xs [] (fun z hz => ha z (List.mem_cons_of_mem _ hz)) hb p hp
 | k + 1, x :: xs, y :: ys, ha, hb => by
  have hx' : ∀ z ∈ xs, 0 ≤ z ∧ z ≤ 2 := fun z hz => ha z (List.mem_cons_of_mem _ hz)
  have hy : ∀ z ∈ ys, 0 ≤ z ∧ z ≤ 2 := fun z hz => hb z (List.mem_cons_of_mem _ hz)
  intro p hp
  rw [sF] at hp
  by_cases q1 : (if x = y then ed xs ys else 1 + ed xs ys) = ed (x :: xs) (y :: ys)
  ·rw [if_pos q1] at hp
   rcases List.mem_cons.1 hp with rfl | hp
   ·exact hb y List.mem_cons_self
   ·exact sF_small k xs ys hx' hy p hp
  ·rw [if_neg q1] at hp
   by_cases q2 : 1 + ed (x :: xs) ys = ed (x :: xs) (y :: ys)
   ·rw [if_pos q2] at hp
    rcases List.mem_cons.1 hp with rfl | hp
    ·exact hb y List.mem_cons_self
    ·exact sF_small k (x :: xs) ys ha hy p hp
   ·rw [if_neg q2] at hp
    rcases List.mem_cons.1 hp with rfl | hp
    ·exact ha x List.mem_cons_self
    ·exact sF_small k xs (y :: ys) hx' hb p hp
theorem stI_toU : ∀ L : List (Int × Int), (∀ p ∈ L, 0 ≤ p.2 ∧ p.2 ≤ 2) → L.flatMap stI = (L.map toU).flatMap stC
 | [], _ => rfl
 | p :: L, h => by
  rw [List.flatMap_cons, List.map_cons, List.flatMap_cons, stI_toU L (fun q hq => h q (List.mem_cons_of_mem _ hq))]
  congr 1
  have := h p List.mem_cons_self
  have e : (((UInt8.ofNat p.2.toNat).toNat : Nat) : Int) = p.2 := by simp only [UInt8.toNat_ofNat']; omega
  simp only [stI, stC, toU, e]
end
section
open Go.RowKit Go.Lib
def StA (w : World) (A : Option Addr) (n cap : Nat) (l : List (Int × Int)) : Prop := n ≤ cap ∧ cap ≤ maxLen ∧ Rd w w.heap.size 2 A n (l.flatMap stI)
theorem StA.toW {w w' : World} {A : Option Addr} {n cap : Nat} {l : List (Int × Int)} (h : StA w A n cap l) (hb : Below w.heap.size w w') : StA w' A n cap l := ⟨h.1, h.2.1, rdB h.2.2 hb⟩
theorem StA.len {w : World} {A : Option Addr} {n cap : Nat} {l : List (Int × Int)} (h : StA w A n cap l) : l.length = n := by have := h.2.2.1; rw [stI_len] at this; omega
theorem stI_at : ∀ (l : List (Int × Int)) (k j : Nat) (hk : k < l.length), j < 2 → (l.flatMap stI)[k * 2 + j]? = (stI l[k])[j]?
 | x :: l, 0, j, _, hj => by
  simp only [List.flatMap_cons, List.getElem_cons_zero, Nat.zero_mul, Nat.zero_add]
  rw [List.getElem?_append_left (by simp [stI]; omega)]
 | x :: l, k + 1, j, hk, hj => by
  simp only [List.flatMap_cons, List.getElem_cons_succ]
  rw [List.getElem?_append_right (by simp [stI]; omega), show (k + 1) * 2 + j - (stI x).length = k * 2 + j by simp [stI]; omega]
  exact stI_at l k j (by simpa using hk) hj
theorem StA.at_ {w : World} {A : Option Addr} {n cap k : Nat} {l : List (Int × Int)} (h : StA w A n cap l) (hk : k < n) : ∃ b off, ∃ hz : k < l.length, A = some ⟨b, off, none⟩ ∧ b < w.heap.size ∧ w.cell? ⟨b, off + k * 2, none⟩ = some (.int .i64 l[k].1) ∧ w.cell? ⟨b, off + k * 2 + 1, none⟩ = some (.int .i64 l[k].2) := by
 have hl := h.len
 obtain ⟨b, off, rfl, hb, hc⟩ := h.2.2.2 (by omega)
 refine ⟨b, off, by omega, rfl, hb, ?_, ?_⟩
 ·exact hc (k * 2) _ (by have := stI_at l k 0 (by omega) (by omega); rw [Nat.add_zero] at this; rw [this]; rfl)
 ·exact hc (k * 2 + 1) _ (by rw [stI_at l k 1 (by omega) (by omega)]; rfl)
def soonL : List (Int × Int) → List (Int × Int) → Bool
 | [], b => decide (0 < b.length)
 | _ :: _, [] => false
 | x :: xs, y :: ys => if x = y then soonL xs ys else decide (x.1 < y.1) || (decide (x.1 = y.1) && decide (x.2 < y.2))
theorem soonL_end : ∀ (a b : List (Int × Int)) (_ : a = [] ∨ b = []), soonL a b = decide (a.length < b.length)
 | [], b, _ => rfl
 | x :: xs, [], _ => by simp [soonL]
 | x :: xs, y :: ys, h => by rcases h with h | h <;> cases h
theorem sooner_any (A : Option Addr) (n cap : Nat) (xs : List (Int × Int)) (A2 : Option Addr) (n2 cap2 : Nat) (ys : List (Int × Int)) (w : World) (h1 : StA w A n cap xs) (h2 : StA w A2 n2 cap2 ys) (hn : n ≤ 1000000) (hn2 : n2 ≤ 1000000) :
  Calls Tryz.prog 37 #[.slice A n cap, .slice A2 n2 cap2] w fun e w' => e = .returned (.bool (soonL xs ys)) ∧ Below w.heap.size w w' := by
 have hl1 := h1.len; have hl2 := h2.len
 obtain ⟨R, hR⟩ : ∃ R, R = soonL xs ys := ⟨_, rfl⟩
 rw [← hR]
 have H1 := Lib.hid h1; have H2 := Lib.hid h2; clear h1 h2
 go_enter Tryz.func37, Tryz.ntmps37
 go_wp2_with fail
 go_loopg [5] n (fun g i wr => ∃ k : Nat, g = n - k ∧ k ≤ n ∧ k ≤ n2 ∧ i = .int .i64 k ∧ Hid (R = soonL (xs.drop k) (ys.drop k)) ∧ Below w.heap.size w wr)
 case atStart => exact ⟨0, rfl, Nat.zero_le _, Nat.zero_le _, rfl, Lib.hid hR, Below.refl _ _⟩
 case round =>
  clear hR
  obtain ⟨k, hg, hk, hk2, rfl, hpre, hB⟩ := hrel
  rename World => wr
  have HG := Lib.hid hg; clear hg
  by_cases hlt : k < n
  ·by_cases hlt2 : k < n2
   ·have hlti : (k : Int) < n := by omega
    have hlti2 : (k : Int) < n2 := by omega
    obtain ⟨b, off, hz, rfl, hb, hc1, hd1⟩ := (H1.out.toW hB).at_ hlt
    obtain ⟨b2, off2, hz2, rfl, hb2, hc2, hd2⟩ := (H2.out.toW hB).at_ hlt2
    have e1 : xs.drop k = xs[k] :: xs.drop (k + 1) := List.drop_eq_getElem_cons hz
    have e2 : ys.drop k = ys[k] :: ys.drop (k + 1) := List.drop_eq_getElem_cons hz2
    have hp := hpre.out
    rw [e1, e2, soonL] at hp
    generalize xs[k] = x at *
    generalize ys[k] = y at *
    obtain ⟨xk, xw⟩ := x
    obtain ⟨yk, yw⟩ := y
    simp only at hc1 hd1 hc2 hd2
    simp only [Prod.mk.injEq] at hp
    have HP := Lib.hid hp; clear hp e1 e2 hz hz2 hpre
    have hq1 := fun (p : Blw wr.heap.size wr) => ((Blw.h p).cell (p := ⟨b, off + k * 2, none⟩) hb).trans hc1
    have hq2 := fun (p : Blw wr.heap.size wr) => ((Blw.h p).cell (p := ⟨b2, off2 + k * 2, none⟩) hb2).trans hc2
    have hq3 := fun (p : Blw wr.heap.size wr) => ((Blw.h p).cell (p := ⟨b, off + k * 2 + 1, none⟩) hb).trans hd1
    have hq4 := fun (p : Blw wr.heap.size wr) => ((Blw.h p).cell (p := ⟨b2, off2 + k * 2 + 1, none⟩) hb2).trans hd2
    clear hq1 hq2 hq3 hq4
    rcases Int.lt_trichotomy xk yk with hx | hx | hx
    ·have HP2 : Hid (R = true) := Lib.hid (by rw [HP.out, if_neg (fun h => by omega), decide_eq_true hx]; rfl)
     have hne : ¬ xk = yk := by omega
     clear HP
     have hq1 := fun (p : Blw wr.heap.size wr) => ((Blw.h p).cell (p := ⟨b, off + k * 2, none⟩) hb).trans hc1
     have hq2 := fun (p : Blw wr.heap.size wr) => ((Blw.h p).cell (p := ⟨b2, off2 + k * 2, none⟩) hb2).trans hc2
     have hq3 := fun (p : Blw wr.heap.size wr) => ((Blw.h p).cell (p := ⟨b, off + k * 2 + 1, none⟩) hb).trans hd1
     have hq4 := fun (p : Blw wr.heap.size wr) => ((Blw.h p).cell (p := ⟨b2, off2 + k * 2 + 1, none⟩) hb2).trans hd2
     go_upto_region 4 with (fail)
     refine wp_region_blw (by kernel_rfl) (by kernel_rfl) ?_
     repeat (go_big_quiet_step (fail))
     refine wpQuiet_nil ?_
     rintro W3 ⟨⟨_, hb3⟩, rfl⟩
     clear hq1 hq2 hq3 hq4
     replace hc1 := (hb3.cell (p := ⟨b, off + k * 2, none⟩) hb).trans hc1
     replace hc2 := (hb3.cell (p := ⟨b2, off2 + k * 2, none⟩) hb2).trans hc2
     replace hd1 := (hb3.cell (p := ⟨b, off + k * 2 + 1, none⟩) hb).trans hd1
     replace hd2 := (hb3.cell (p := ⟨b2, off2 + k * 2 + 1, none⟩) hb2).trans hd2
     replace hb := Nat.lt_of_lt_of_le hb hb3.size
     replace hb2 := Nat.lt_of_lt_of_le hb2 hb3.size
     replace hB := hB.trans (hb3.mono hB.size)
     clear hb3
     have hq1 := fun (p : Blw W3.heap.size W3) => ((Blw.h p).cell (p := ⟨b, off + k * 2, none⟩) hb).trans hc1
     have hq2 := fun (p : Blw W3.heap.size W3) => ((Blw.h p).cell (p := ⟨b2, off2 + k * 2, none⟩) hb2).trans hc2
     have hq3 := fun (p : Blw W3.heap.size W3) => ((Blw.h p).cell (p := ⟨b, off + k * 2 + 1, none⟩) hb).trans hd1
     have hq4 := fun (p : Blw W3.heap.size W3) => ((Blw.h p).cell (p := ⟨b2, off2 + k * 2 + 1, none⟩) hb2).trans hd2
     go_upto_region 5 with (fail)
     refine wp_region_blw (by kernel_rfl) (by kernel_rfl) ?_
     repeat (go_big_quiet_step (fail))
     refine wpQuiet_nil ?_
     rintro W4 ⟨⟨_, hb3⟩, rfl⟩
     go_wp2_with fail
     go_ret
     exact ⟨by rw [HP2.out]; rfl, hB.trans (hb3.mono hB.size)⟩
    ·subst hx
     by_cases hw : xw = yw
     ·subst hw
      have HP2 : Hid (R = soonL (xs.drop (k + 1)) (ys.drop (k + 1))) := Lib.hid (by rw [HP.out, if_pos ⟨rfl, rfl⟩])
      clear HP
      have hq1 := fun (p : Blw wr.heap.size wr) => ((Blw.h p).cell (p := ⟨b, off + k * 2, none⟩) hb).trans hc1
      have hq2 := fun (p : Blw wr.heap.size wr) => ((Blw.h p).cell (p := ⟨b2, off2 + k * 2, none⟩) hb2).trans hc2
      have hq3 := fun (p : Blw wr.heap.size wr) => ((Blw.h p).cell (p := ⟨b, off + k * 2 + 1, none⟩) hb).trans hd1
      have hq4 := fun (p : Blw wr.heap.size wr) => ((Blw.h p).cell (p := ⟨b2, off2 + k * 2 + 1, none⟩) hb2).trans hd2
      go_upto_region 4 with (fail)
      refine wp_region_blw (by kernel_rfl) (by kernel_rfl) ?_
      repeat (go_big_quiet_step (fail))
      refine wpQuiet_nil ?_
      rintro W3 ⟨⟨_, hb3⟩, rfl⟩
      clear hq1 hq2 hq3 hq4
      replace hc1 := (hb3.cell (p := ⟨b, off + k * 2, none⟩) hb).trans hc1
      replace hc2 := (hb3.cell (p := ⟨b2, off2 + k * 2, none⟩) hb2).trans hc2
      replace hd1 := (hb3.cell (p := ⟨b, off + k * 2 + 1, none⟩) hb).trans hd1
      replace hd2 := (hb3.cell (p := ⟨b2, off2 + k * 2 + 1, none⟩) hb2).trans hd2
      replace hb := Nat.lt_of_lt_of_le hb hb3.size
      replace hb2 := Nat.lt_of_lt_of_le hb2 hb3.size
      replace hB := hB.trans (hb3.mono hB.size)
      clear hb3
      go_wp2_with fail
      go_roundg (n - (k + 1))
      case measure => rw [HG.out]; omega
      case rel => exact ⟨k + 1, rfl, by omega, by omega, by go_num, HP2, hB⟩
     ·have HP2 : Hid (R = decide (xw < yw)) := Lib.hid (by rw [HP.out, if_neg (fun h => hw h.2), decide_eq_false (Int.lt_irrefl _), decide_eq_true rfl]; rfl)
      clear HP
      have hq1 := fun (p : Blw wr.heap.size wr) => ((Blw.h p).cell (p := ⟨b, off + k * 2, none⟩) hb).trans hc1
      have hq2 := fun (p : Blw wr.heap.size wr) => ((Blw.h p).cell (p := ⟨b2, off2 + k * 2, none⟩) hb2).trans hc2
      have hq3 := fun (p : Blw wr.heap.size wr) => ((Blw.h p).cell (p := ⟨b, off + k * 2 + 1, none⟩) hb).trans hd1
      have hq4 := fun (p : Blw wr.heap.size wr) => ((Blw.h p).cell (p := ⟨b2, off2 + k * 2 + 1, none⟩) hb2).trans hd2
      go_upto_region 4 with (fail)
      refine wp_region_blw (by kernel_rfl) (by kernel_rfl) ?_
      repeat (go_big_quiet_step (fail))
      refine wpQuiet_nil ?_
      rintro W3 ⟨⟨_, hb3⟩, rfl⟩
      clear hq1 hq2 hq3 hq4
      replace hc1 := (hb3.cell (p := ⟨b, off + k * 2, none⟩) hb).trans hc1
      replace hc2 := (hb3.cell (p := ⟨b2, off2 + k * 2, none⟩) hb2).trans hc2
      replace hd1 := (hb3.cell (p := ⟨b, off + k * 2 + 1, none⟩) hb).trans hd1
      replace hd2 := (hb3.cell (p := ⟨b2, off2 + k * 2 + 1, none⟩) hb2).trans hd2
      replace hb := Nat.lt_of_lt_of_le hb hb3.size
      replace hb2 := Nat.lt_of_lt_of_le hb2 hb3.size
      replace hB := hB.trans (hb3.mono hB.size)
      clear hb3
      have hq1 := fun (p : Blw W3.heap.size W3) => ((Blw.h p).cell (p := ⟨b, off + k * 2, none⟩) hb).trans hc1
      have hq2 := fun (p : Blw W3.heap.size W3) => ((Blw.h p).cell (p := ⟨b2, off2 + k * 2, none⟩) hb2).trans hc2
      have hq3 := fun (p : Blw W3.heap.size W3) => ((Blw.h p).cell (p := ⟨b, off + k * 2 + 1, none⟩) hb).trans hd1
      have hq4 := fun (p : Blw W3.heap.size W3) => ((Blw.h p).cell (p := ⟨b2, off2 + k * 2 + 1, none⟩) hb2).trans hd2
      go_upto_region 5 with (fail)
      refine wp_region_blw (by kernel_rfl) (by kernel_rfl) ?_
      repeat (go_big_quiet_step (fail))
      refine wpQuiet_nil ?_
      rintro W4 ⟨⟨_, hb3⟩, rfl⟩
      go_wp2_with fail
      go_ret
      exact ⟨by rw [HP2.out]; rfl, hB.trans (hb3.mono hB.size)⟩
    ·have hne : ¬ xk = yk := by omega
     have hnl : ¬ xk < yk := by omega
     have HP2 : Hid (R = false) := Lib.hid (by rw [HP.out, if_neg (fun h => hne h.1), decide_eq_false hnl, decide_eq_false hne]; rfl)
     have hnd : decide (xk < yk) = false := decide_eq_false hnl
     have hnk : (xk == yk) = false := by simpa using hne
     clear HP
     have hq1 := fun (p : Blw wr.heap.size wr) => ((Blw.h p).cell (p := ⟨b, off + k * 2, none⟩) hb).trans hc1
     have hq2 := fun (p : Blw wr.heap.size wr) => ((Blw.h p).cell (p := ⟨b2, off2 + k * 2, none⟩) hb2).trans hc2
     have hq3 := fun (p : Blw wr.heap.size wr) => ((Blw.h p).cell (p := ⟨b, off + k * 2 + 1, none⟩) hb).trans hd1
     have hq4 := fun (p : Blw wr.heap.size wr) => ((Blw.h p).cell (p := ⟨b2, off2 + k * 2 + 1, none⟩) hb2).trans hd2
     go_upto_region 4 with (fail)
     refine wp_region_blw (by kernel_rfl) (by kernel_rfl) ?_
     repeat (go_big_quiet_step (fail))
     refine wpQuiet_nil ?_
     rintro W3 ⟨⟨_, hb3⟩, rfl⟩
     clear hq1 hq2 hq3 hq4
     replace hc1 := (hb3.cell (p := ⟨b, off + k * 2, none⟩) hb).trans hc1
     replace hc2 := (hb3.cell (p := ⟨b2, off2 + k * 2, none⟩) hb2).trans hc2
     replace hd1 := (hb3.cell (p := ⟨b, off + k * 2 + 1, none⟩) hb).trans hd1
     replace hd2 := (hb3.cell (p := ⟨b2, off2 + k * 2 + 1, none⟩) hb2).trans hd2
     replace hb := Nat.lt_of_lt_of_le hb hb3.size
     replace hb2 := Nat.lt_of_lt_of_le hb2 hb3.size
     replace hB := hB.trans (hb3.mono hB.size)
     clear hb3
     have hq1 := fun (p : Blw W3.heap.size W3) => ((Blw.h p).cell (p := ⟨b, off + k * 2, none⟩) hb).trans hc1
     have hq2 := fun (p : Blw W3.heap.size W3) => ((Blw.h p).cell (p := ⟨b2, off2 + k * 2, none⟩) hb2).trans hc2
     have hq3 := fun (p : Blw W3.heap.size W3) => ((Blw.h p).cell (p := ⟨b, off + k * 2 + 1, none⟩) hb).trans hd1
     have hq4 := fun (p : Blw W3.heap.size W3) => ((Blw.h p).cell (p := ⟨b2, off2 + k * 2 + 1, none⟩) hb2).trans hd2
     go_upto_region 5 with (fail)
     refine wp_region_blw (by kernel_rfl) (by kernel_rfl) ?_
     repeat (go_big_quiet_step (fail))
     refine wpQuiet_nil ?_
     rintro W4 ⟨⟨_, hb3⟩, rfl⟩
     go_wp2_with fail
     go_ret
     exact ⟨by rw [HP2.out]; rfl, hB.trans (hb3.mono hB.size)⟩
   ·have hge : ¬ (k : Int) < n2 := by omega
    have hlti : (k : Int) < n := by omega
    have hp := hpre.out
    rw [soonL_end _ _ (.inr (List.drop_eq_nil_of_le (by omega))), List.length_drop, List.length_drop, hl1, hl2] at hp
    have hp2 : R = false := by rw [hp, decide_eq_false (by omega)]
    have hno : ¬ (n : Int) < n2 := by omega
    have HP := Lib.hid hp2; clear hp hp2 hpre
    go_wp2_with fail
    go_ret
    refine ⟨?_, hB⟩
    rw [HP.out]
    first | rfl | (show Ending.returned (.bool (decide ((n : Int) < n2))) = _; rw [decide_eq_false hno])
  ·have hge : ¬ (k : Int) < n := by omega
   have hp := hpre.out
   rw [soonL_end _ _ (.inl (List.drop_eq_nil_of_le (by omega))), List.length_drop, List.length_drop, hl1, hl2] at hp
   have hp2 : R = decide (n < n2) := by rw [hp]; congr 1; apply propext; omega
   have HP := Lib.hid hp2; clear hp hp2 hpre
   go_wp2_with fail
   go_ret
   exact ⟨by rw [HP.out]; rfl, hB⟩
end
section
open Go.RowKit Go.Lib
def stepB : List (Int × Int) → List Int → List Int → Bool
 | [], xs, ys => decide (xs = []) && decide (ys = [])
 | p :: l, xs, ys =>
  if p.1 = 1 ∨ p.1 = 2 then
   match xs, ys with
   | x :: xs, y :: ys => if p.2 = y ∧ ((p.1 = 1) ↔ (x = y)) then stepB l xs ys else false
   | _, _ => false
  else if p.1 = 3 then
   match ys with
   | y :: ys => if p.2 = y then stepB l xs ys else false
   | [] => false
  else if p.1 = 4 then
   match xs with
   | x :: xs => if p.2 = x then stepB l xs ys else false
   | [] => false
  else false
theorem stepB_bad {p : Int × Int} {l : List (Int × Int)} {xs ys : List Int} (h : p.1 < 1 ∨ 4 < p.1) : stepB (p :: l) xs ys = false := by
 rw [stepB.eq_def]
 simp only
 rw [if_neg (by omega), if_neg (by omega), if_neg (by omega)]
theorem stepB_two {p : Int × Int} {l : List (Int × Int)} {x y : Int} {xs ys : List Int} (h : p.1 = 1 ∨ p.1 = 2) : stepB (p :: l) (x :: xs) (y :: ys) = if p.2 = y ∧ ((p.1 = 1) ↔ (x = y)) then stepB l xs ys else false := by
 rw [stepB.eq_def]
 simp only
 rw [if_pos h]
theorem stepB_two1 {p : Int × Int} {l : List (Int × Int)} {ys : List Int} (h : p.1 = 1 ∨ p.1 = 2) : stepB (p :: l) [] ys = false := by
 rw [stepB.eq_def]
 simp only
 rw [if_pos h]
theorem stepB_two2 {p : Int × Int} {l : List (Int × Int)} {xs : List Int} (h : p.1 = 1 ∨ p.1 = 2) : stepB (p :: l) xs [] = false := by
 rw [stepB.eq_def]
 simp only
 rw [if_pos h]
 try (cases xs <;> rfl)
theorem stepB_add {w : Int} {l : List (Int × Int)} {y : Int} {xs ys : List Int} : stepB ((3, w) :: l) xs (y :: ys) = if w = y then stepB l xs ys else false := by
 rw [stepB.eq_def]; rfl
theorem stepB_add1 {w : Int} {l : List (Int × Int)} {xs : List Int} : stepB ((3, w) :: l) xs [] = false := by
 rw [stepB.eq_def]; rfl
theorem stepB_drop {w : Int} {l : List (Int × Int)} {x : Int} {xs ys : List Int} : stepB ((4, w) :: l) (x :: xs) ys = if w = x then stepB l xs ys else false := by
 rw [stepB.eq_def]; rfl
theorem stepB_drop1 {w : Int} {l : List (Int × Int)} {ys : List Int} : stepB ((4, w) :: l) [] ys = false := by
 rw [stepB.eq_def]; rfl
theorem stepB_nil {xs ys : List Int} : stepB [] xs ys = (decide (xs = []) && decide (ys = [])) := by
 rw [stepB.eq_def]
theorem refStep_any (A : Option Addr) (n cap : Nat) (l : List (Int × Int)) (A1 : Option Addr) (n1 c1 : Nat) (xs : List Int) (A2 : Option Addr) (n2 c2 : Nat) (ys : List Int) (w : World) (h : StA w A n cap l) (h1 : IA w A1 n1 c1 xs) (h2 : IA w A2 n2 c2 ys) (hn : n ≤ 1000000) (hn1 : n1 ≤ 1000000) (hn2 : n2 ≤ 1000000) :
  Calls Tryz.prog 35 #[.slice A n cap, .slice A1 n1 c1, .slice A2 n2 c2] w fun e w' => e = .returned (.bool (stepB l xs ys)) ∧ Below w.heap.size w w' := by
 have hl := h.len; have hl1 := h1.len; have hl2 := h2.len
 obtain ⟨R, hR⟩ : ∃ R, R = stepB l xs ys := ⟨_, rfl⟩
 rw [← hR]
 have H := Lib.hid h; have H1 := Lib.hid h1; have H2 := Lib.hid h2; clear h h1 h2
 go_enter Tryz.func35, Tryz.ntmps35
 go_wp2_with fail
 go_loopg [7, 8, 9] n (fun g a b i wr => ∃ (k p q : Nat), g = n - k ∧ k ≤ n ∧ p ≤ n1 ∧ q ≤ n2 ∧ a = .int .i64 p ∧ b = .int .i64 q ∧ i = .int .i64 k ∧ Hid (R = stepB (l.drop k) (xs.drop p) (ys.drop q)) ∧ Below w.heap.size w wr)
 case atStart => exact ⟨0, 0, 0, rfl, Nat.zero_le _, Nat.zero_le _, Nat.zero_le _, rfl, rfl, rfl, Lib.hid hR, Below.refl _ _⟩
 case round =>
  clear hR
  obtain ⟨k, p, q, hg, hk, hp, hq, rfl, rfl, rfl, hpre, hB⟩ := hrel
  rename World => wr
  have HG := Lib.hid hg; clear hg
  by_cases hlt : k < n
  ·have hlti : (k : Int) < n := by omega
   obtain ⟨b, off, hz, rfl, hb, hc, hd⟩ := (H.out.toW hB).at_ hlt
   have e0 : l.drop k = l[k] :: l.drop (k + 1) := List.drop_eq_getElem_cons hz
   have hpr := hpre.out
   rw [e0] at hpr
   generalize l[k] = st at *
   obtain ⟨sk, sw⟩ := st
   simp only at hc hd hpr
   have HP := Lib.hid hpr; clear hpr e0 hz hpre
   have hX := Blk.new wr 116 #[.int .i64 sk, .int .i64 sw]
   have hB0 : Below w.heap.size w (wr.alloc (.cells #[.int .i64 sk, .int .i64 sw] 116)) := hB.alloc hB.size _
   by_cases k1 : sk < 1
   ·have HR0 : Hid (R = false) := Lib.hid (by rw [HP.out]; exact stepB_bad (by first | exact .inl k1 | exact .inr k4))
    clear HP
    go_upto_region 6 with (fail)
    clear hc hd
    generalize wr.alloc (.cells #[.int .i64 sk, .int .i64 sw] 116) = WB at *
    have hq3 := fun (p : Blw WB.heap.size WB) i => blw_blk hX p i
    refine wp_region_blw (by kernel_rfl) (by kernel_rfl) ?_
    repeat (go_big_quiet_step (fail))
    refine wpQuiet_nil ?_
    rintro W3 ⟨⟨_, hb3⟩, rfl⟩
    have hlX := hX.lt
    replace hX := hX.below hb3 hlX; replace hB0 := hB0.trans (hb3.mono hB0.size); clear hb3 hq3 hlX
    have qX := fun i => hX.cell i
    go_wp2_with fail
    go_ret
    exact ⟨by rw [HR0.out]; rfl, hB0⟩
   ·by_cases k4 : 4 < sk
    ·have HR0 : Hid (R = false) := Lib.hid (by rw [HP.out]; exact stepB_bad (by first | exact .inl k1 | exact .inr k4))
     clear HP
     go_upto_region 6 with (fail)
     clear hc hd
     generalize wr.alloc (.cells #[.int .i64 sk, .int .i64 sw] 116) = WB at *
     have hq3 := fun (p : Blw WB.heap.size WB) i => blw_blk hX p i
     refine wp_region_blw (by kernel_rfl) (by kernel_rfl) ?_
     repeat (go_big_quiet_step (fail))
     refine wpQuiet_nil ?_
     rintro W3 ⟨⟨_, hb3⟩, rfl⟩
     have hlX := hX.lt
     replace hX := hX.below hb3 hlX; replace hB0 := hB0.trans (hb3.mono hB0.size); clear hb3 hq3 hlX
     have qX := fun i => hX.cell i
     go_wp2_with fail
     go_ret
     exact ⟨by rw [HR0.out]; rfl, hB0⟩
    ·rcases (by omega : sk = 1 ∨ sk = 2 ∨ sk = 3 ∨ sk = 4) with rfl | rfl | rfl | rfl
     ·clear k1 k4
      go_upto_region 6 with (fail)
      clear hc hd
      generalize wr.alloc (.cells #[.int .i64 1, .int .i64 sw] 116) = WB at *
      have hq3 := fun (p : Blw WB.heap.size WB) i => blw_blk hX p i
      refine wp_region_blw (by kernel_rfl) (by kernel_rfl) ?_
      repeat (go_big_quiet_step (fail))
      refine wpQuiet_nil ?_
      rintro W3 ⟨⟨_, hb3⟩, rfl⟩
      have hlX := hX.lt
      replace hX := hX.below hb3 hlX; replace hB0 := hB0.trans (hb3.mono hB0.size); clear hb3 hq3 hlX
      have qX := fun i => hX.cell i
      by_cases hp1 : p < n1
      ·by_cases hq1 : q < n2
       ·obtain ⟨b1, o1, z1, rfl, hb1, hc1⟩ := (H1.out.toW hB0).2.2.atm hp1
        obtain ⟨b2, o2, z2, rfl, hb2, hc2⟩ := (H2.out.toW hB0).2.2.atm hq1
        have d1 : xs.drop p = xs[p] :: xs.drop (p + 1) := List.drop_eq_getElem_cons z1
        have d2 : ys.drop q = ys[q] :: ys.drop (q + 1) := List.drop_eq_getElem_cons z2
        have hpr := HP.out
        rw [d1, d2, stepB_two (.inl rfl)] at hpr
        generalize xs[p] = x at *
        generalize ys[q] = y at *
        simp only at hpr
        have HP2 := Lib.hid hpr; clear hpr d1 d2 z1 z2 HP
        have hpi : (p : Int) < n1 := by omega
        have hqi : (q : Int) < n2 := by omega
        by_cases hw : sw = y
        ·subst hw
         by_cases hxy : x = sw
         ·subst hxy
          have HR0 : Hid (R = stepB (l.drop (k + 1)) (xs.drop (p + 1)) (ys.drop (q + 1))) := Lib.hid (by rw [HP2.out, if_pos ⟨rfl, by simp⟩])
          have hq0 := fun (p' : Blw W3.heap.size W3) => ((Blw.h p').cell (p := ⟨b1, o1 + p, none⟩) hb1).trans hc1
          have hq1 := fun (p' : Blw W3.heap.size W3) => ((Blw.h p').cell (p := ⟨b2, o2 + q, none⟩) hb2).trans hc2
          have hqX := fun (p' : Blw W3.heap.size W3) i => blw_blk hX p' i
          go_upto_region 9 with (fail)
          refine wp_region_blw (by kernel_rfl) (by kernel_rfl) ?_
          repeat (go_big_quiet_step (fail))
          refine wpQuiet_nil ?_
          rintro W4 ⟨⟨_, hb4⟩, rfl⟩
          replace hB0 := hB0.trans (hb4.mono hB0.size)
          clear hq0 hq1 hqX
          go_wp2_with fail
          go_roundg (n - (k + 1))
          case measure => rw [HG.out]; omega
          case rel => exact ⟨k + 1, p + 1, q + 1, rfl, by omega, by omega, by omega, by go_num, by go_num, by go_num, HR0, hB0⟩
         ·have HR0 : Hid (R = false) := Lib.hid (by rw [HP2.out, if_neg (fun h => hxy (by simpa using h.2))])
          have hxb : (x == sw) = false := by simpa using hxy
          have hq0 := fun (p' : Blw W3.heap.size W3) => ((Blw.h p').cell (p := ⟨b1, o1 + p, none⟩) hb1).trans hc1
          have hq1 := fun (p' : Blw W3.heap.size W3) => ((Blw.h p').cell (p := ⟨b2, o2 + q, none⟩) hb2).trans hc2
          have hqX := fun (p' : Blw W3.heap.size W3) i => blw_blk hX p' i
          go_upto_region 9 with (fail)
          refine wp_region_blw (by kernel_rfl) (by kernel_rfl) ?_
          repeat (go_big_quiet_step (fail))
          refine wpQuiet_nil ?_
          rintro W4 ⟨⟨_, hb4⟩, rfl⟩
          replace hB0 := hB0.trans (hb4.mono hB0.size)
          clear hq0 hq1 hqX
          go_wp2_with fail
          go_ret
          exact ⟨by rw [HR0.out]; rfl, hB0⟩
        ·have HR0 : Hid (R = false) := Lib.hid (by rw [HP2.out, if_neg (fun h => hw h.1)])
         have hwb : (sw != y) = true := by simpa using hw
         have hq0 := fun (p' : Blw W3.heap.size W3) => ((Blw.h p').cell (p := ⟨b1, o1 + p, none⟩) hb1).trans hc1
         have hq1 := fun (p' : Blw W3.heap.size W3) => ((Blw.h p').cell (p := ⟨b2, o2 + q, none⟩) hb2).trans hc2
         have hqX := fun (p' : Blw W3.heap.size W3) i => blw_blk hX p' i
         go_upto_region 9 with (fail)
         refine wp_region_blw (by kernel_rfl) (by kernel_rfl) ?_
         repeat (go_big_quiet_step (fail))
         refine wpQuiet_nil ?_
         rintro W4 ⟨⟨_, hb4⟩, rfl⟩
         replace hB0 := hB0.trans (hb4.mono hB0.size)
         clear hq0 hq1 hqX
         go_wp2_with fail
         go_ret
         exact ⟨by rw [HR0.out]; rfl, hB0⟩
       ·have hqi : ¬ (q : Int) < n2 := by omega
        have hpi : (p : Int) < n1 := by omega
        rw [List.drop_eq_nil_of_le (by omega : ys.length ≤ q)] at HP
        have HR0 : Hid (R = false) := Lib.hid (by rw [HP.out]; exact stepB_two2 (.inl rfl))
        clear HP
        go_wp2_with fail
        go_ret
        exact ⟨by rw [HR0.out]; rfl, hB0⟩
      ·have hpi : ¬ (p : Int) < n1 := by omega
       rw [List.drop_eq_nil_of_le (by omega : xs.length ≤ p)] at HP
       have HR0 : Hid (R = false) := Lib.hid (by rw [HP.out]; exact stepB_two1 (.inl rfl))
       clear HP
       go_wp2_with fail
       go_ret
       exact ⟨by rw [HR0.out]; rfl, hB0⟩
     ·clear k1 k4
      go_upto_region 6 with (fail)
      clear hc hd
      generalize wr.alloc (.cells #[.int .i64 2, .int .i64 sw] 116) = WB at *
      have hq3 := fun (p : Blw WB.heap.size WB) i => blw_blk hX p i
      refine wp_region_blw (by kernel_rfl) (by kernel_rfl) ?_
      repeat (go_big_quiet_step (fail))
      refine wpQuiet_nil ?_
      rintro W3 ⟨⟨_, hb3⟩, rfl⟩
      have hlX := hX.lt
      replace hX := hX.below hb3 hlX; replace hB0 := hB0.trans (hb3.mono hB0.size); clear hb3 hq3 hlX
      have qX := fun i => hX.cell i
      by_cases hp1 : p < n1
      ·by_cases hq1 : q < n2
       ·obtain ⟨b1, o1, z1, rfl, hb1, hc1⟩ := (H1.out.toW hB0).2.2.atm hp1
        obtain ⟨b2, o2, z2, rfl, hb2, hc2⟩ := (H2.out.toW hB0).2.2.atm hq1
        have d1 : xs.drop p = xs[p] :: xs.drop (p + 1) := List.drop_eq_getElem_cons z1
        have d2 : ys.drop q = ys[q] :: ys.drop (q + 1) := List.drop_eq_getElem_cons z2
        have hpr := HP.out
        rw [d1, d2, stepB_two (.inr rfl)] at hpr
        generalize xs[p] = x at *
        generalize ys[q] = y at *
        simp only at hpr
        have HP2 := Lib.hid hpr; clear hpr d1 d2 z1 z2 HP
        have hpi : (p : Int) < n1 := by omega
        have hqi : (q : Int) < n2 := by omega
        by_cases hw : sw = y
        ·subst hw
         by_cases hxy : x = sw
         ·subst hxy
          have HR0 : Hid (R = false) := Lib.hid (by rw [HP2.out, if_neg (fun h => by simpa using h.2)])
          have hq0 := fun (p' : Blw W3.heap.size W3) => ((Blw.h p').cell (p := ⟨b1, o1 + p, none⟩) hb1).trans hc1
          have hq1 := fun (p' : Blw W3.heap.size W3) => ((Blw.h p').cell (p := ⟨b2, o2 + q, none⟩) hb2).trans hc2
          have hqX := fun (p' : Blw W3.heap.size W3) i => blw_blk hX p' i
          go_upto_region 9 with (fail)
          refine wp_region_blw (by kernel_rfl) (by kernel_rfl) ?_
          repeat (go_big_quiet_step (fail))
          refine wpQuiet_nil ?_
          rintro W4 ⟨⟨_, hb4⟩, rfl⟩
          replace hB0 := hB0.trans (hb4.mono hB0.size)
          clear hq0 hq1 hqX
          go_wp2_with fail
          go_ret
          exact ⟨by rw [HR0.out]; rfl, hB0⟩
         ·have HR0 : Hid (R = stepB (l.drop (k + 1)) (xs.drop (p + 1)) (ys.drop (q + 1))) := Lib.hid (by rw [HP2.out, if_pos ⟨rfl, by simpa using hxy⟩])
          have hxb : (x == sw) = false := by simpa using hxy
          have hq0 := fun (p' : Blw W3.heap.size W3) => ((Blw.h p').cell (p := ⟨b1, o1 + p, none⟩) hb1).trans hc1
          have hq1 := fun (p' : Blw W3.heap.size W3) => ((Blw.h p').cell (p := ⟨b2, o2 + q, none⟩) hb2).trans hc2
          have hqX := fun (p' : Blw W3.heap.size W3) i => blw_blk hX p' i
          go_upto_region 9 with (fail)
          refine wp_region_blw (by kernel_rfl) (by kernel_rfl) ?_
          repeat (go_big_quiet_step (fail))
          refine wpQuiet_nil ?_
          rintro W4 ⟨⟨_, hb4⟩, rfl⟩
          replace hB0 := hB0.trans (hb4.mono hB0.size)
          clear hq0 hq1 hqX
          go_wp2_with fail
          go_roundg (n - (k + 1))
          case measure => rw [HG.out]; omega
          case rel => exact ⟨k + 1, p + 1, q + 1, rfl, by omega, by omega, by omega, by go_num, by go_num, by go_num, HR0, hB0⟩
        ·have HR0 : Hid (R = false) := Lib.hid (by rw [HP2.out, if_neg (fun h => hw h.1)])
         have hwb : (sw != y) = true := by simpa using hw
         have hq0 := fun (p' : Blw W3.heap.size W3) => ((Blw.h p').cell (p := ⟨b1, o1 + p, none⟩) hb1).trans hc1
         have hq1 := fun (p' : Blw W3.heap.size W3) => ((Blw.h p').cell (p := ⟨b2, o2 + q, none⟩) hb2).trans hc2
         have hqX := fun (p' : Blw W3.heap.size W3) i => blw_blk hX p' i
         go_upto_region 9 with (fail)
         refine wp_region_blw (by kernel_rfl) (by kernel_rfl) ?_
         repeat (go_big_quiet_step (fail))
         refine wpQuiet_nil ?_
         rintro W4 ⟨⟨_, hb4⟩, rfl⟩
         replace hB0 := hB0.trans (hb4.mono hB0.size)
         clear hq0 hq1 hqX
         go_wp2_with fail
         go_ret
         exact ⟨by rw [HR0.out]; rfl, hB0⟩
       ·have hqi : ¬ (q : Int) < n2 := by omega
        have hpi : (p : Int) < n1 := by omega
        rw [List.drop_eq_nil_of_le (by omega : ys.length ≤ q)] at HP
        have HR0 : Hid (R = false) := Lib.hid (by rw [HP.out]; exact stepB_two2 (.inr rfl))
        clear HP
        go_wp2_with fail
        go_ret
        exact ⟨by rw [HR0.out]; rfl, hB0⟩
      ·have hpi : ¬ (p : Int) < n1 := by omega
       rw [List.drop_eq_nil_of_le (by omega : xs.length ≤ p)] at HP
       have HR0 : Hid (R = false) := Lib.hid (by rw [HP.out]; exact stepB_two1 (.inr rfl))
       clear HP
       go_wp2_with fail
       go_ret
       exact ⟨by rw [HR0.out]; rfl, hB0⟩
     ·clear k1 k4
      go_upto_region 6 with (fail)
      clear hc hd
      generalize wr.alloc (.cells #[.int .i64 3, .int .i64 sw] 116) = WB at *
      have hq3 := fun (p : Blw WB.heap.size WB) i => blw_blk hX p i
      refine wp_region_blw (by kernel_rfl) (by kernel_rfl) ?_
      repeat (go_big_quiet_step (fail))
      refine wpQuiet_nil ?_
      rintro W3 ⟨⟨_, hb3⟩, rfl⟩
      have hlX := hX.lt
      replace hX := hX.below hb3 hlX; replace hB0 := hB0.trans (hb3.mono hB0.size); clear hb3 hq3 hlX
      have qX := fun i => hX.cell i
      by_cases hp1 : q < n2
      ·obtain ⟨b2, o2, z2, rfl, hb2, hc2⟩ := (H2.out.toW hB0).2.2.atm hp1
       have d1 : ys.drop q = ys[q] :: ys.drop (q + 1) := List.drop_eq_getElem_cons z2
       have hpr := HP.out
       rw [d1, stepB_add] at hpr
       generalize ys[q] = y at *
       have HP2 := Lib.hid hpr; clear hpr d1 z2 HP
       have hpi : (q : Int) < n2 := by omega
       by_cases hw : sw = y
       ·subst hw
        have HR0 : Hid (R = stepB (l.drop (k + 1)) (xs.drop p) (ys.drop (q + 1))) := Lib.hid (by rw [HP2.out, if_pos rfl])
        have hq0 := fun (p' : Blw W3.heap.size W3) => ((Blw.h p').cell (p := ⟨b2, o2 + q, none⟩) hb2).trans hc2
        have hqX := fun (p' : Blw W3.heap.size W3) i => blw_blk hX p' i
        go_upto_region 9 with (fail)
        refine wp_region_blw (by kernel_rfl) (by kernel_rfl) ?_
        repeat (go_big_quiet_step (fail))
        refine wpQuiet_nil ?_
        rintro W4 ⟨⟨_, hb4⟩, rfl⟩
        replace hB0 := hB0.trans (hb4.mono hB0.size)
        clear hq0 hqX
        go_wp2_with fail
        go_roundg (n - (k + 1))
        case measure => rw [HG.out]; omega
        case rel => exact ⟨k + 1, p, q + 1, rfl, by omega, by omega, by omega, by go_num, by go_num, by go_num, HR0, hB0⟩
       ·have HR0 : Hid (R = false) := Lib.hid (by rw [HP2.out, if_neg hw])
        have hwb : (sw != y) = true := by simpa using hw
        have hq0 := fun (p' : Blw W3.heap.size W3) => ((Blw.h p').cell (p := ⟨b2, o2 + q, none⟩) hb2).trans hc2
        have hqX := fun (p' : Blw W3.heap.size W3) i => blw_blk hX p' i
        go_upto_region 9 with (fail)
        refine wp_region_blw (by kernel_rfl) (by kernel_rfl) ?_
        repeat (go_big_quiet_step (fail))
        refine wpQuiet_nil ?_
        rintro W4 ⟨⟨_, hb4⟩, rfl⟩
        replace hB0 := hB0.trans (hb4.mono hB0.size)
        clear hq0 hqX
        go_wp2_with fail
        go_ret
        exact ⟨by rw [HR0.out]; rfl, hB0⟩
      ·have hpi : ¬ (q : Int) < n2 := by omega
       rw [List.drop_eq_nil_of_le (by omega : ys.length ≤ q)] at HP
       have HR0 : Hid (R = false) := Lib.hid (by rw [HP.out]; exact stepB_add1)
       clear HP
       go_wp2_with fail
       go_ret
       exact ⟨by rw [HR0.out]; rfl, hB0⟩
     ·clear k1 k4
      go_upto_region 6 with (fail)
      clear hc hd
      generalize wr.alloc (.cells #[.int .i64 4, .int .i64 sw] 116) = WB at *
      have hq3 := fun (p : Blw WB.heap.size WB) i => blw_blk hX p i
      refine wp_region_blw (by kernel_rfl) (by kernel_rfl) ?_
      repeat (go_big_quiet_step (fail))
      refine wpQuiet_nil ?_
      rintro W3 ⟨⟨_, hb3⟩, rfl⟩
      have hlX := hX.lt
      replace hX := hX.below hb3 hlX; replace hB0 := hB0.trans (hb3.mono hB0.size); clear hb3 hq3 hlX
      have qX := fun i => hX.cell i
      by_cases hp1 : p < n1
      ·obtain ⟨b1, o1, z1, rfl, hb1, hc1⟩ := (H1.out.toW hB0).2.2.atm hp1
       have d1 : xs.drop p = xs[p] :: xs.drop (p + 1) := List.drop_eq_getElem_cons z1
       have hpr := HP.out
       rw [d1, stepB_drop] at hpr
       generalize xs[p] = x at *
       have HP2 := Lib.hid hpr; clear hpr d1 z1 HP
       have hpi : (p : Int) < n1 := by omega
       by_cases hw : sw = x
       ·subst hw
        have HR0 : Hid (R = stepB (l.drop (k + 1)) (xs.drop (p + 1)) (ys.drop q)) := Lib.hid (by rw [HP2.out, if_pos rfl])
        have hq0 := fun (p' : Blw W3.heap.size W3) => ((Blw.h p').cell (p := ⟨b1, o1 + p, none⟩) hb1).trans hc1
        have hqX := fun (p' : Blw W3.heap.size W3) i => blw_blk hX p' i
        go_upto_region 9 with (fail)
        refine wp_region_blw (by kernel_rfl) (by kernel_rfl) ?_
        repeat (go_big_quiet_step (fail))
        refine wpQuiet_nil ?_
        rintro W4 ⟨⟨_, hb4⟩, rfl⟩
        replace hB0 := hB0.trans (hb4.mono hB0.size)
        clear hq0 hqX
        go_wp2_with fail
        go_roundg (n - (k + 1))
        case measure => rw [HG.out]; omega
        case rel => exact ⟨k + 1, p + 1, q, rfl, by omega, by omega, by omega, by go_num, by go_num, by go_num, HR0, hB0⟩
       ·have HR0 : Hid (R = false) := Lib.hid (by rw [HP2.out, if_neg hw])
        have hwb : (sw != x) = true := by simpa using hw
        have hq0 := fun (p' : Blw W3.heap.size W3) => ((Blw.h p').cell (p := ⟨b1, o1 + p, none⟩) hb1).trans hc1
        have hqX := fun (p' : Blw W3.heap.size W3) i => blw_blk hX p' i
        go_upto_region 9 with (fail)
        refine wp_region_blw (by kernel_rfl) (by kernel_rfl) ?_
        repeat (go_big_quiet_step (fail))
        refine wpQuiet_nil ?_
        rintro W4 ⟨⟨_, hb4⟩, rfl⟩
        replace hB0 := hB0.trans (hb4.mono hB0.size)
        clear hq0 hqX
        go_wp2_with fail
        go_ret
        exact ⟨by rw [HR0.out]; rfl, hB0⟩
      ·have hpi : ¬ (p : Int) < n1 := by omega
       rw [List.drop_eq_nil_of_le (by omega : xs.length ≤ p)] at HP
       have HR0 : Hid (R = false) := Lib.hid (by rw [HP.out]; exact stepB_drop1)
       clear HP
       go_wp2_with fail
       go_ret
       exact ⟨by rw [HR0.out]; rfl, hB0⟩
  ·obtain rfl : k = n := by omega
   have hge : ¬ (k : Int) < k := by omega
   have hpr := hpre.out
   rw [List.drop_eq_nil_of_le (by omega : l.length ≤ k), stepB_nil] at hpr
   have e1 : decide (xs.drop p = []) = decide (p = n1) := by congr 1; rw [List.drop_eq_nil_iff]; apply propext; omega
   have e2 : decide (ys.drop q = []) = decide (q = n2) := by congr 1; rw [List.drop_eq_nil_iff]; apply propext; omega
   rw [e1, e2] at hpr
   have HP := Lib.hid hpr; clear hpr e1 e2 hpre
   by_cases hpn : p = n1
   ·subst hpn
    by_cases hqn : q = n2
    ·subst hqn
     have HR0 : Hid (R = true) := Lib.hid (by rw [HP.out]; simp)
     go_wp2_with fail
     go_ret
     exact ⟨by rw [HR0.out]; first | rfl | (simp; done), hB⟩
    ·have HR0 : Hid (R = false) := Lib.hid (by rw [HP.out]; simp [hqn])
     have hqi : ((q : Int) == (n2 : Int)) = false := by rw [beq_eq_false_iff_ne]; omega
     go_wp2_with fail
     go_ret
     exact ⟨by rw [HR0.out]; first | rfl | (rw [← hqi]; rfl), hB⟩
   ·have HR0 : Hid (R = false) := Lib.hid (by rw [HP.out]; simp [hpn])
    have hpi : ((p : Int) == (n1 : Int)) = false := by rw [beq_eq_false_iff_ne]; omega
    go_wp2_with fail
    go_ret
    exact ⟨by rw [HR0.out]; first | rfl | (rw [← hpi]; rfl), hB⟩
end
section
open Go.RowKit Go.Lib
def costI (l : List (Int × Int)) : Nat := (l.filter fun p => p.1 != 1).length
theorem costI_cons (p : Int × Int) (l : List (Int × Int)) : costI (p :: l) = (if p.1 = 1 then 0 else 1) + costI l := by
 unfold costI
 by_cases h : p.1 = 1
 ·rw [List.filter_cons_of_neg (by simp [h]), if_pos h, Nat.zero_add]
 ·rw [List.filter_cons_of_pos (by simp [h]), if_neg h, List.length_cons, Nat.add_comm]
theorem sF_cost : ∀ (k : Nat) (a b : List Int), a.length + b.length < k → costI (sF k a b) = ed a b
 | 0, _, _, h => absurd h (Nat.not_lt_zero _)
 | _ + 1, [], [], _ => rfl
 | k + 1, [], y :: ys, h => by
  rw [show sF (k + 1) [] (y :: ys) = (3, y) :: sF k [] ys from rfl, costI_cons, sF_cost k [] ys (by simp only [List.length_cons, List.length_nil] at h ⊢; omega), if_neg (by simp), ed_nil, ed_nil, List.length_cons, Nat.add_comm]
 | k + 1, x :: xs, [], h => by
  rw [show sF (k + 1) (x :: xs) [] = (4, x) :: sF k xs [] from rfl, costI_cons, sF_cost k xs [] (by simp only [List.length_cons, List.length_nil] at h ⊢; omega), if_neg (by simp), ed_nil_r, ed_nil_r, List.length_cons, Nat.add_comm]
 | k + 1, x :: xs, y :: ys, h => by
  simp only [List.length_cons] at h
  have h1 := sF_cost k xs ys (by omega)
  have h2 := sF_cost k (x :: xs) ys (by simp only [List.length_cons]; omega)
  have h3 := sF_cost k xs (y :: ys) (by simp only [List.length_cons]; omega)
  have hEm := ed_moves x y xs ys
  rw [sF]
  by_cases q1 : (if x = y then ed xs ys else 1 + ed xs ys) = ed (x :: xs) (y :: ys)
  ·rw [if_pos q1, costI_cons, h1, ← q1]
   by_cases hxy : x = y
   ·simp [hxy]
   ·simp [hxy]
  ·rw [if_neg q1]
   by_cases q2 : 1 + ed (x :: xs) ys = ed (x :: xs) (y :: ys)
   ·rw [if_pos q2, costI_cons, h2, ← q2, if_neg (by simp)]
   ·rw [if_neg q2, costI_cons, h3, if_neg (by simp)]
    generalize (if x = y then ed xs ys else 1 + ed xs ys) = c at *
    omega
theorem sF_step : ∀ (k : Nat) (a b : List Int), a.length + b.length < k → stepB (sF k a b) a b = true
 | 0, _, _, h => absurd h (Nat.not_lt_zero _)
 | _ + 1, [], [], _ => rfl
 | k + 1, [], y :: ys, h => by
  rw [show sF (k + 1) [] (y :: ys) = (3, y) :: sF k [] ys from rfl, stepB_add, if_pos rfl, sF_step k [] ys (by simp only [List.length_cons, List.length_nil] at h ⊢; omega)]
 | k + 1, x :: xs, [], h => by
  rw [show sF (k + 1) (x :: xs) [] = (4, x) :: sF k xs [] from rfl, stepB_drop, if_pos rfl, sF_step k xs [] (by simp only [List.length_cons, List.length_nil] at h ⊢; omega)]
 | k + 1, x :: xs, y :: ys, h => by
  simp only [List.length_cons] at h
  have h1 := sF_step k xs ys (by omega)
  have h2 := sF_step k (x :: xs) ys (by simp only [List.length_cons]; omega)
  have h3 := sF_step k xs (y :: ys) (by simp only [List.length_cons]; omega)
  rw [sF]
  by_cases q1 : (if x = y then ed xs ys else 1 + ed xs ys) = ed (x :: xs) (y :: ys)
  ·rw [if_pos q1]
   by_cases hxy : x = y
   ·rw [if_pos hxy, stepB_two (.inl rfl), if_pos ⟨rfl, by simp [hxy]⟩, h1]
   ·rw [if_neg hxy, stepB_two (.inr rfl), if_pos ⟨rfl, by simp [hxy]⟩, h1]
  ·rw [if_neg q1]
   by_cases q2 : 1 + ed (x :: xs) ys = ed (x :: xs) (y :: ys)
   ·rw [if_pos q2, stepB_add, if_pos rfl, h2]
   ·rw [if_neg q2, stepB_drop, if_pos rfl, h3]
theorem stepB_inv {p : Int × Int} {l : List (Int × Int)} {a b : List Int} (h : stepB (p :: l) a b = true) :
  (∃ x xs y ys, a = x :: xs ∧ b = y :: ys ∧ p = ((if x = y then 1 else 2), y) ∧ stepB l xs ys = true) ∨ (∃ y ys, b = y :: ys ∧ p = (3, y) ∧ stepB l a ys = true) ∨ (∃ x xs, a = x :: xs ∧ p = (4, x) ∧ stepB l xs b = true) := by
 obtain ⟨k, w⟩ := p
 by_cases h1 : k = 1 ∨ k = 2
 ·left
  cases a with
  | nil => rw [stepB_two1 h1] at h; cases h
  | cons x xs =>
   cases b with
   | nil => rw [stepB_two2 h1] at h; cases h
   | cons y ys =>
    rw [stepB_two h1] at h
    by_cases hc : w = y ∧ ((k = 1) ↔ (x = y))
    ·rw [if_pos hc] at h
     refine ⟨x, xs, y, ys, rfl, rfl, ?_, h⟩
     obtain ⟨rfl, hk⟩ := hc
     by_cases hxy : x = w
     ·rw [if_pos hxy, hk.2 hxy]
     ·rw [if_neg hxy]
      rcases h1 with h1 | h1
      ·exact absurd (hk.1 h1) hxy
      ·rw [h1]
    ·rw [if_neg hc] at h; cases h
 ·by_cases h3 : k = 3
  ·subst h3
   right; left
   cases b with
   | nil => rw [stepB_add1] at h; cases h
   | cons y ys =>
    rw [stepB_add] at h
    by_cases hw : w = y
    ·rw [if_pos hw] at h; exact ⟨y, ys, rfl, by rw [hw], h⟩
    ·rw [if_neg hw] at h; cases h
  ·by_cases h4 : k = 4
   ·subst h4
    right; right
    cases a with
    | nil => rw [stepB_drop1] at h; cases h
    | cons x xs =>
     rw [stepB_drop] at h
     by_cases hw : w = x
     ·rw [if_pos hw] at h; exact ⟨x, xs, rfl, by rw [hw], h⟩
     ·rw [if_neg hw] at h; cases h
   ·rw [stepB_bad (p := (k, w)) (by show k < 1 ∨ 4 < k; omega)] at h; cases h
theorem step_ed : ∀ (l : List (Int × Int)) (a b : List Int), stepB l a b = true → ed a b ≤ costI l
 | [], a, b, h => by
  rw [stepB_nil, Bool.and_eq_true, decide_eq_true_eq, decide_eq_true_eq] at h
  obtain ⟨rfl, rfl⟩ := h
  exact Nat.le_refl _
 | p :: l, a, b, h => by
  rw [costI_cons]
  rcases stepB_inv h with ⟨x, xs, y, ys, rfl, rfl, rfl, h'⟩ | ⟨y, ys, rfl, rfl, h'⟩ | ⟨x, xs, rfl, rfl, h'⟩
  ·have h1 := step_ed l xs ys h'
   have hEm := ed_moves x y xs ys
   by_cases hxy : x = y
   ·rw [if_pos hxy] at hEm; simp [hxy]; subst hxy; omega
   ·rw [if_neg hxy] at hEm; simp [hxy]; omega
  ·have h1 := step_ed l a ys h'
   have h2 := ed_add a y ys
   rw [if_neg (by simp)]; omega
  ·have h1 := step_ed l xs b h'
   have h2 := ed_drop x xs b
   rw [if_neg (by simp)]; omega
theorem soonL_refl_tail {p : Int × Int} {l m : List (Int × Int)} : soonL (p :: l) (p :: m) = soonL l m := by
 rw [soonL, if_pos rfl]
theorem soonL_later {p q : Int × Int} {l m : List (Int × Int)} (h : q.1 < p.1) : soonL (p :: l) (q :: m) = false := by
 rw [soonL, if_neg (fun e => by rw [e] at h; omega), decide_eq_false (by omega), decide_eq_false (by omega)]; rfl
theorem sF_first : ∀ (k : Nat) (l : List (Int × Int)) (a b : List Int), a.length + b.length < k → stepB l a b = true → costI l = ed a b → soonL l (sF k a b) = false
 | 0, _, _, _, h, _, _ => absurd h (Nat.not_lt_zero _)
 | k + 1, [], a, b, _, h, _ => by
  rw [stepB_nil, Bool.and_eq_true, decide_eq_true_eq, decide_eq_true_eq] at h
  obtain ⟨rfl, rfl⟩ := h
  rfl
 | k + 1, p :: l, a, b, hk, h, hc => by
  rw [costI_cons] at hc
  rcases stepB_inv h with ⟨x, xs, y, ys, rfl, rfl, rfl, h'⟩ | ⟨y, ys, rfl, rfl, h'⟩ | ⟨x, xs, rfl, rfl, h'⟩
  ·simp only [List.length_cons] at hk
   have he := step_ed l xs ys h'
   have hEm := ed_moves x y xs ys
   have q1 : (if x = y then ed xs ys else 1 + ed xs ys) = ed (x :: xs) (y :: ys) := by
    by_cases hxy : x = y
    ·rw [if_pos hxy] at hEm ⊢; simp [hxy] at hc; subst hxy; omega
    ·rw [if_neg hxy] at hEm ⊢; simp [hxy] at hc; omega
   have hl : costI l = ed xs ys := by
    by_cases hxy : x = y
    ·rw [if_pos hxy] at q1; simp [hxy] at hc; subst hxy; omega
    ·rw [if_neg hxy] at q1; simp [hxy] at hc; omega
   rw [sF, if_pos q1, soonL_refl_tail]
   exact sF_first k l xs ys (by omega) h' hl
  ·have he := step_ed l a ys h'
   rw [if_neg (by simp)] at hc
   cases a with
   | nil =>
    rw [show sF (k + 1) [] (y :: ys) = (3, y) :: sF k [] ys from rfl, soonL_refl_tail]
    refine sF_first k l [] ys (by simp only [List.length_cons, List.length_nil] at hk ⊢; omega) h' ?_
    rw [ed_nil] at hc he ⊢; simp only [List.length_cons] at hc; omega
   | cons x xs =>
    have hEm := ed_moves x y xs ys
    have q2 : 1 + ed (x :: xs) ys = ed (x :: xs) (y :: ys) := by
     generalize (if x = y then ed xs ys else 1 + ed xs ys) = c at *; omega
    rw [sF]
    by_cases q1 : (if x = y then ed xs ys else 1 + ed xs ys) = ed (x :: xs) (y :: ys)
    ·rw [if_pos q1]
     exact soonL_later (by show (if x = y then (1 : Int) else 2) < 3; split <;> omega)
    ·rw [if_neg q1, if_pos q2, soonL_refl_tail]
     exact sF_first k l (x :: xs) ys (by simp only [List.length_cons] at hk ⊢; omega) h' (by omega)
  ·have he := step_ed l xs b h'
   rw [if_neg (by simp)] at hc
   cases b with
   | nil =>
    rw [show sF (k + 1) (x :: xs) [] = (4, x) :: sF k xs [] from rfl, soonL_refl_tail]
    refine sF_first k l xs [] (by simp only [List.length_cons, List.length_nil] at hk ⊢; omega) h' ?_
    rw [ed_nil_r] at hc he ⊢; simp only [List.length_cons] at hc; omega
   | cons y ys =>
    rw [sF]
    by_cases q1 : (if x = y then ed xs ys else 1 + ed xs ys) = ed (x :: xs) (y :: ys)
    ·rw [if_pos q1]
     exact soonL_later (by show (if x = y then (1 : Int) else 2) < 4; split <;> omega)
    ·rw [if_neg q1]
     by_cases q2 : 1 + ed (x :: xs) ys = ed (x :: xs) (y :: ys)
     ·rw [if_pos q2]
      exact soonL_later (by show (3 : Int) < 4; omega)
     ·rw [if_neg q2, soonL_refl_tail]
      have hEm := ed_moves x y xs ys
      exact sF_first k l xs (y :: ys) (by simp only [List.length_cons] at hk ⊢; omega) h' (by
        generalize (if x = y then ed xs ys else 1 + ed xs ys) = c at *; omega)
end
section
open Go.ChangeShapes Go.WideShapes Go.ChangeAt Go.RowKit Go.Deep Go.Lib
set_option maxRecDepth 100000
section
variable {H : Type} {enc : TypeId × Value → H} {P : Program} {w : World} {base : Nat} {spare : Nat → Bool} {held : Bool}
theorem law_four {s0 s1 s2 s3 : TypeId} {args : Array Value} {ds : List (DataW H)} {ps : List MemPlace} (h : DataW.TrodAll enc P w base spare held [s0, s1, s2, s3] args.toList ds ps) :
  ∃ v0 v1 v2 v3 d0 d1 d2 d3 p0 p1 p2 p3, args = #[v0, v1, v2, v3] ∧ ds = [d0, d1, d2, d3] ∧ DataW.Trod enc P w base spare held s0 v0 d0 p0 ∧ DataW.Trod enc P w base spare held s1 v1 d1 p1 ∧ DataW.Trod enc P w base spare held s2 v2 d2 p2 ∧ DataW.Trod enc P w base spare held s3 v3 d3 p3 := by
 obtain ⟨v0, r0, d0, e0, p0, q0, hargs, rfl, rfl, t0, h0⟩ := trodAll_cons h
 obtain ⟨v1, r1, d1, e1, p1, q1, rfl, rfl, rfl, t1, h1⟩ := trodAll_cons h0
 obtain ⟨v2, r2, d2, e2, p2, q2, rfl, rfl, rfl, t2, h2⟩ := trodAll_cons h1
 obtain ⟨v3, r3, d3, e3, p3, q3, rfl, rfl, rfl, t3, h3⟩ := trodAll_cons h2
 obtain ⟨rfl, rfl, rfl⟩ := trodAll_nil h3
 exact ⟨v0, v1, v2, v3, d0, d1, d2, d3, p0, p1, p2, p3, by cases args; simp_all, rfl, t0, t1, t2, t3⟩
end
end
section
open Go.RowKit Go.Lib
theorem costI_snoc (l : List (Int × Int)) (p : Int × Int) : costI (l ++ [p]) = costI l + if p.1 != 1 then 1 else 0 := by
 unfold costI
 rw [List.filter_append, List.length_append]
 cases h : (p.1 != 1) <;> simp [h]
theorem costI_le (l : List (Int × Int)) : costI l ≤ l.length := List.length_filter_le _ _
theorem costA_any (A : Option Addr) (n cap : Nat) (xs : List (Int × Int)) (w : World) (h : StA w A n cap xs) (hn : n ≤ 1000000) :
  Calls Tryz.prog 36 #[.slice A n cap] w fun e w' => e = .returned (.int .i64 (costI xs : Nat)) ∧ Below w.heap.size w w' := by
 have hl1 := h.len
 have HL1 := Lib.hid hl1; have H := Lib.hid h; clear hl1 h
 go_enter Tryz.func36, Tryz.ntmps36
 go_wp2_with (fail)
 go_loopg [3, 4] n (fun g c i wr => ∃ (k z : Nat), g = n - k ∧ k ≤ n ∧ i = .int .i64 k ∧ c = .int .i64 z ∧ z ≤ k ∧ Hid (z = costI (xs.take k)) ∧ Below w.heap.size w wr)
 case atStart => exact ⟨0, 0, rfl, Nat.zero_le _, rfl, rfl, Nat.le_refl _, Lib.hid rfl, Below.refl _ _⟩
 case round =>
  obtain ⟨k, z, hg, hk, rfl, rfl, hzk, hz0, hB⟩ := hrel
  rename World => wr
  have HG := Lib.hid hg; clear hg
  by_cases hlt : k < n
  ·have hlti : (k : Int) < n := by omega
   obtain ⟨b, off, hz, rfl, hb, hc1, hc1b⟩ := (H.out.toW hB).at_ hlt
   have htk : xs.take (k + 1) = xs.take k ++ [xs[k]] := List.take_succ_eq_append_getElem hz
   generalize xs[k] = x at *
   obtain ⟨x0, x1⟩ := x
   have hcs := costI_snoc (xs.take k) (x0, x1)
   rw [← htk] at hcs
   dsimp only at hc1 hc1b hcs
   have HCS := Lib.hid hcs; clear hcs htk hz
   cases he : (x0 != 1)
   ·have HE := Lib.hid he
    go_wp2_with (fail)
    go_roundg (n - (k + 1))
    case measure => rw [HG.out]; omega
    case rel => exact ⟨k + 1, z, rfl, by omega, by go_num, rfl, by omega, Lib.hid (by rw [HCS.out, HE.out, ← hz0.out]; rfl), hB⟩
   ·have HE := Lib.hid he
    go_wp2_with (fail)
    go_roundg (n - (k + 1))
    case measure => rw [HG.out]; omega
    case rel => exact ⟨k + 1, z + 1, rfl, by omega, by go_num, by go_num, by omega, Lib.hid (by rw [HCS.out, HE.out, ← hz0.out]; rfl), hB⟩
  ·obtain rfl : k = n := by omega
   have hge : ¬ (k : Int) < k := by omega
   have hf : z = costI xs := by
    have := hz0.out
    rwa [List.take_of_length_le (by rw [HL1.out]; exact Nat.le_refl _)] at this
   have HF := Lib.hid hf; clear hf
   go_wp2_with (fail)
   go_ret
   exact ⟨by rw [← HF.out]; rfl, hB⟩
section
variable {W : Int} {A : Option Addr} {n cap : Nat} {cs : List VC} {w : World} {A1 A2 : Option Addr} {n1 n2 c1 c2 : Nat} {l1 l2 : List Int}
theorem Steps_J (h : BkI w A n cap cs) (hk : bookB W cs = true) (h1 : IA w A1 n1 c1 l1) (h2 : IA w A2 n2 c2 l2) (k1 : lnB W l1 = true) (k2 : lnB W l2 = true) :
  Calls Tryz.prog 32 #[.agg #[.int .i64 W, .slice A n cap], .slice A1 n1 c1, .slice A2 n2 c2] w fun e w' => (∃ A4 c4, e = .returned (.tuple #[.slice A4 (sF (l1.length + l2.length + 1) l1 l2).length c4, .int .i64 0]) ∧ StA w' A4 (sF (l1.length + l2.length + 1) l1 l2).length c4 (sF (l1.length + l2.length + 1) l1 l2)) ∧ Below w.heap.size w w' := by
 refine (Steps_yes W A n cap cs A1 n1 c1 l1 A2 n2 c2 l2 w h.max h.2.2.1 h.2.2.2 h1.max h1.2.2 h2.max h2.2.2 hk k1 k2).mono ?_
 rintro e w' ⟨⟨v, rfl, hown⟩, hb⟩
 have hw := book_W hk
 have e0 : stepsG ((lbS l1).size + (lbS l2).size + 1) (lbS l1) (lbS l2) = (sF (l1.length + l2.length + 1) l1 l2).map toU := by
  rw [lbS_size, lbS_size]; exact stepsG_sF _ l1 l2 (ln_small hw k1).2 (ln_small hw k2).2
 rw [e0, List.length_map, ← stI_toU _ (sF_small _ _ _ (ln_small hw k1).2 (ln_small hw k2).2)] at hown
 obtain ⟨A4, c4, rfl⟩ := own_slice hown
 exact ⟨⟨A4, c4, rfl, own_le0 hown, own_cap hown, Rd.of_own hown⟩, hb⟩
end
open Go.ChangeShapes Go.WideShapes Go.ChangeAt Go.Deep in
theorem law_steps {H : Type} {enc : TypeId × Value → H} {w : World} {base : Nat} {spare : Nat → Bool} {held : Bool} {r : Reach} {b0 : Nat} {v : Value} {d : DataW H} {p : List MemPlace} (hv : Value.okWide Tryz.prog w r b0 37 v) (h : DataW.Trod enc Tryz.prog w base spare held 37 v d p) : ∃ (A : Option Addr) (n cap : Nat) (l : List (Int × Int)), v = .slice A n cap ∧ StA w A n cap l := by
 obtain ⟨a, n, c, rfl⟩ := okWide_slice Tryz.underlying37 hv
 obtain ⟨fuel, hf⟩ := h
 have all : AllInt enc Tryz.prog w base spare held 116 2 := allInt_struct [1, 1] Tryz.underlying116 (by kernel_rfl) rfl (fun i f k hf hk => by
   match i, hf, hk with
   | 0, hf, hk => cases hf; cases hk; exact ⟨rfl, allInt_int Tryz.underlying114 (by kernel_rfl)⟩
   | 1, hf, hk => cases hf; cases hk; exact ⟨rfl, law_all3⟩
   | i + 2, hf, hk => simp at hf)
 obtain ⟨A, n', cap, gs, e, h1, h2, h3⟩ := slice_ints_in (by decide) Tryz.underlying37 all (by simpa [Value.cells] using hf)
 refine ⟨A, n', cap, gs.map fun g => (g 0, g 1), e, h1, h2, ?_⟩
 have he : (gs.map fun g => (g 0, g 1)).flatMap stI = gs.flatMap (rowC 2) := by rw [List.flatMap_map]; rfl
 rw [he]; exact h3
theorem fewest_law (W : Int) (A : Option Addr) (n cap : Nat) (cs : List VC) (A1 : Option Addr) (n1 c1 : Nat) (l1 : List Int) (A2 : Option Addr) (n2 c2 : Nat) (l2 : List Int) (A3 : Option Addr) (n3 c3 : Nat) (l3 : List (Int × Int)) (m : Int) (w : World) (hE : Env m w) (h : BkI w A n cap cs) (h1 : IA w A1 n1 c1 l1) (h2 : IA w A2 n2 c2 l2) (h3 : StA w A3 n3 c3 l3) :
  Calls Tryz.prog 6 #[.agg #[.int .i64 W, .slice A n cap], .slice A1 n1 c1, .slice A2 n2 c2, .slice A3 n3 c3] w fun e w' => e = .returned (.bool true) ∧ Below w.heap.size w w' := by
 have hX := Blk.new w 24 #[.int .i64 W, .slice A n cap]
 have hB : Below w.heap.size w (w.alloc (.cells #[.int .i64 W, .slice A n cap] 24)) := (Below.refl _ w).alloc (Nat.le_refl _) _
 have qX := fun i => hX.cell i
 go_enter Tryz.func6, Tryz.ntmps6
 go_wp2_with fail
 refine (right_any (h.toW hB)).mono ?_; rintro e wc ⟨⟨b, rfl, hrb⟩, hb⟩
 replace hB := hB.trans (hb.mono hB.size); replace hX := hX.below hb hX.lt; clear hb qX; have qX := fun i => hX.cell i
 cases b with
 | false =>
  clear h1 h2 h3
  go_wp2_with fail
  refine (known_true m _ (hE.below hB)).mono ?_; rintro e wc ⟨rfl, hb⟩
  replace hB := hB.trans (hb.mono hB.size); clear hb
  go_wp2_with fail
  go_ret
  exact ⟨rfl, hB⟩
 | true =>
  have hbk := hrb rfl; clear hrb
  by_cases hn1 : (6 : Int) < (n1 : Int)
  ·clear h1 h2 h3
   go_wp2_with fail
   refine (known_true m _ (hE.below hB)).mono ?_; rintro e wc ⟨rfl, hb⟩
   replace hB := hB.trans (hb.mono hB.size); clear hb
   go_wp2_with fail
   go_ret
   exact ⟨rfl, hB⟩
  ·by_cases hn2 : (6 : Int) < (n2 : Int)
   ·clear h1 h2 h3
    go_wp2_with fail
    refine (known_true m _ (hE.below hB)).mono ?_; rintro e wc ⟨rfl, hb⟩
    replace hB := hB.trans (hb.mono hB.size); clear hb
    go_wp2_with fail
    go_ret
    exact ⟨rfl, hB⟩
   ·have hl1 := fun wx hx => Line_I (w := wx) (h.toW hx) hbk (h1.toW hx)
    have hl2 := fun wx hx => Line_I (w := wx) (h.toW hx) hbk (h2.toW hx)
    cases hk1 : lnB W l1 with
    | false =>
     simp only [hk1] at hl1
     have HL1 := Lib.hid hl1; clear hl1 hl2 hbk hk1 h h1 h2 h3
     go_wp2_with fail
     refine (HL1.out _ hB).mono ?_; rintro e wc ⟨rfl, hb⟩
     replace hB := hB.trans (hb.mono hB.size); replace hX := hX.below hb hX.lt; clear hb qX; have qX := fun i => hX.cell i
     go_wp2_with fail
     refine (known_true m _ (hE.below hB)).mono ?_; rintro e wc ⟨rfl, hb⟩
     replace hB := hB.trans (hb.mono hB.size); clear hb
     go_wp2_with fail
     go_ret
     exact ⟨rfl, hB⟩
    | true =>
     cases hk2 : lnB W l2 with
     | false =>
      simp only [hk1] at hl1
      simp only [hk2] at hl2
      have HL1 := Lib.hid hl1; have HL2 := Lib.hid hl2; clear hl1 hl2 hbk hk1 hk2 h h1 h2 h3
      go_wp2_with fail
      refine (HL1.out _ hB).mono ?_; rintro e wc ⟨rfl, hb⟩
      replace hB := hB.trans (hb.mono hB.size); replace hX := hX.below hb hX.lt; clear hb qX; have qX := fun i => hX.cell i
      go_wp2_with fail
      refine (HL2.out _ hB).mono ?_; rintro e wc ⟨rfl, hb⟩
      replace hB := hB.trans (hb.mono hB.size); replace hX := hX.below hb hX.lt; clear hb qX; have qX := fun i => hX.cell i
      go_wp2_with fail
      refine (known_true m _ (hE.below hB)).mono ?_; rintro e wc ⟨rfl, hb⟩
      replace hB := hB.trans (hb.mono hB.size); clear hb
      go_wp2_with fail
      go_ret
      exact ⟨rfl, hB⟩
     | true =>
      simp only [hk1] at hl1
      simp only [hk2] at hl2
      by_cases hn3 : (10 : Int) < (n3 : Int)
      ·have HL1 := Lib.hid hl1; have HL2 := Lib.hid hl2; clear hl1 hl2 hbk hk1 hk2 h h1 h2 h3
       go_wp2_with fail
       refine (HL1.out _ hB).mono ?_; rintro e wc ⟨rfl, hb⟩
       replace hB := hB.trans (hb.mono hB.size); replace hX := hX.below hb hX.lt; clear hb qX; have qX := fun i => hX.cell i
       go_wp2_with fail
       refine (HL2.out _ hB).mono ?_; rintro e wc ⟨rfl, hb⟩
       replace hB := hB.trans (hb.mono hB.size); replace hX := hX.below hb hX.lt; clear hb qX; have qX := fun i => hX.cell i
       go_wp2_with fail
       refine (known_true m _ (hE.below hB)).mono ?_; rintro e wc ⟨rfl, hb⟩
       replace hB := hB.trans (hb.mono hB.size); clear hb
       go_wp2_with fail
       go_ret
       exact ⟨rfl, hB⟩
      ·have hst := fun wx hx => Steps_J (w := wx) (h.toW hx) hbk (h1.toW hx) (h2.toW hx) hk1 hk2
       have hch := fun wx hx => Changes_I (w := wx) (h.toW hx) hbk (h1.toW hx) (h2.toW hx) hk1 hk2
       have q3 := h3.len
       have m1 := lnB_len hk1; have m2 := lnB_len hk2
       have q1 := h1.len; have q2 := h2.len
       have hfu : l1.length + l2.length < l1.length + l2.length + 1 := Nat.lt_succ_self _
       have s1 := sF_step _ l1 l2 hfu
       have s2 := sF_cost _ l1 l2 hfu
       have s3 := fun hs hc => sF_first _ l3 l1 l2 hfu hs hc
       have s4 := step_ed l3 l1 l2
       have hfl := sF_len (l1.length + l2.length + 1) l1 l2
       have hed := ed_le l1 l2
       have hcl := costI_le l3
       generalize sF (l1.length + l2.length + 1) l1 l2 = S at *
       have hS8 : S.length ≤ 8 := by omega
       have hstp := fun (wx : World) (hx : Below w.heap.size w wx) (A4 : Option Addr) (c4 : Nat) (hu : StA wx A4 S.length c4 S) => refStep_any A4 S.length c4 S A1 n1 c1 l1 A2 n2 c2 l2 wx hu (h1.toW hx) (h2.toW hx) (by omega) (by omega) (by omega)
       have hcst := fun (wx : World) (hx : Below w.heap.size w wx) (A4 : Option Addr) (c4 : Nat) (hu : StA wx A4 S.length c4 S) => costA_any A4 S.length c4 S wx hu (by omega)
       have hstp3 := fun (wx : World) (hx : Below w.heap.size w wx) => refStep_any A3 n3 c3 l3 A1 n1 c1 l1 A2 n2 c2 l2 wx (h3.toW hx) (h1.toW hx) (h2.toW hx) (by omega) (by omega) (by omega)
       have hcst3 := fun (wx : World) (hx : Below w.heap.size w wx) => costA_any A3 n3 c3 l3 wx (h3.toW hx) (by omega)
       have hsoo := fun (wx : World) (hx : Below w.heap.size w wx) (A4 : Option Addr) (c4 : Nat) (hu : StA wx A4 S.length c4 S) => sooner_any A3 n3 c3 l3 A4 S.length c4 S wx (h3.toW hx) hu (by omega) (by omega)
       rw [s1] at hstp
       rw [s2] at hcst
       have hD4 : ed l1 l2 ≤ 6 := by omega
       have hM : costI l3 ≤ 10 := by omega
       generalize ed l1 l2 = D at *
       generalize costI l3 = M at *
       have hS0 : ¬ (8 : Int) < (S.length : Int) := by omega
       generalize S.length = SN at *
       have HL1 := Lib.hid hl1; have HL2 := Lib.hid hl2; have HST := Lib.hid hst; have HCH := Lib.hid hch; have HSTP := Lib.hid hstp; have HCST := Lib.hid hcst; have HCST3 := Lib.hid hcst3
       clear hl1 hl2 hst hch hstp hcst hcst3 hbk hk1 hk2 h q1 q2 q3 m1 m2 hfu s1 s2 hfl hed hcl h1 h2 h3 hS8
       cases hsb : stepB l3 l1 l2 with
       | false =>
        rw [hsb] at hstp3
        have HSTP3 := Lib.hid hstp3
        clear hstp3 hsoo s3 s4 hsb
        go_wp2_with fail
        refine (HL1.out _ hB).mono ?_; rintro e wc ⟨rfl, hb⟩
        replace hB := hB.trans (hb.mono hB.size); replace hX := hX.below hb hX.lt; clear hb qX; have qX := fun i => hX.cell i
        go_wp2_with fail
        refine (HL2.out _ hB).mono ?_; rintro e wc ⟨rfl, hb⟩
        replace hB := hB.trans (hb.mono hB.size); replace hX := hX.below hb hX.lt; clear hb qX; have qX := fun i => hX.cell i
        go_wp2_with fail
        refine (HST.out _ hB).mono ?_; rintro e wc ⟨⟨A4, c4, rfl, hU⟩, hb⟩
        replace hB := hB.trans (hb.mono hB.size); replace hX := hX.below hb hX.lt; clear hb qX; have qX := fun i => hX.cell i
        go_wp2_with fail
        refine (HCH.out _ hB).mono ?_; rintro e wc ⟨rfl, hb⟩
        replace hB := hB.trans (hb.mono hB.size); replace hX := hX.below hb hX.lt; replace hU := hU.toW hb; clear hb qX; have qX := fun i => hX.cell i
        go_wp2_with fail
        refine (HSTP.out _ hB _ _ hU).mono ?_; rintro e wc ⟨rfl, hb⟩
        replace hB := hB.trans (hb.mono hB.size); replace hX := hX.below hb hX.lt; replace hU := hU.toW hb; clear hb qX; have qX := fun i => hX.cell i
        go_wp2_with fail
        refine (HCST.out _ hB _ _ hU).mono ?_; rintro e wc ⟨rfl, hb⟩
        replace hB := hB.trans (hb.mono hB.size); replace hX := hX.below hb hX.lt; replace hU := hU.toW hb; clear hb qX; have qX := fun i => hX.cell i
        go_wp2_with fail
        refine (HCST3.out _ hB).mono ?_; rintro e wc ⟨rfl, hb⟩
        replace hB := hB.trans (hb.mono hB.size); replace hX := hX.below hb hX.lt; replace hU := hU.toW hb; clear hb qX; have qX := fun i => hX.cell i
        go_wp2_with fail
        refine (HSTP3.out _ hB).mono ?_; rintro e wc ⟨rfl, hb⟩
        replace hB := hB.trans (hb.mono hB.size); replace hX := hX.below hb hX.lt; replace hU := hU.toW hb; clear hb qX; have qX := fun i => hX.cell i
        go_wp2_with fail
        refine (known_true m _ (hE.below hB)).mono ?_; rintro e wc ⟨rfl, hb⟩
        replace hB := hB.trans (hb.mono hB.size); clear hb
        go_wp2_with fail
        go_ret
        exact ⟨rfl, hB⟩
       | true =>
        rw [hsb] at hstp3
        have hDM := s4 hsb
        have HSTP3 := Lib.hid hstp3
        clear hstp3 s4
        by_cases hlt : D < M
        ·clear hsoo s3 hsb
         go_wp2_with fail
         refine (HL1.out _ hB).mono ?_; rintro e wc ⟨rfl, hb⟩
         replace hB := hB.trans (hb.mono hB.size); replace hX := hX.below hb hX.lt; clear hb qX; have qX := fun i => hX.cell i
         go_wp2_with fail
         refine (HL2.out _ hB).mono ?_; rintro e wc ⟨rfl, hb⟩
         replace hB := hB.trans (hb.mono hB.size); replace hX := hX.below hb hX.lt; clear hb qX; have qX := fun i => hX.cell i
         go_wp2_with fail
         refine (HST.out _ hB).mono ?_; rintro e wc ⟨⟨A4, c4, rfl, hU⟩, hb⟩
         replace hB := hB.trans (hb.mono hB.size); replace hX := hX.below hb hX.lt; clear hb qX; have qX := fun i => hX.cell i
         go_wp2_with fail
         refine (HCH.out _ hB).mono ?_; rintro e wc ⟨rfl, hb⟩
         replace hB := hB.trans (hb.mono hB.size); replace hX := hX.below hb hX.lt; replace hU := hU.toW hb; clear hb qX; have qX := fun i => hX.cell i
         go_wp2_with fail
         refine (HSTP.out _ hB _ _ hU).mono ?_; rintro e wc ⟨rfl, hb⟩
         replace hB := hB.trans (hb.mono hB.size); replace hX := hX.below hb hX.lt; replace hU := hU.toW hb; clear hb qX; have qX := fun i => hX.cell i
         go_wp2_with fail
         refine (HCST.out _ hB _ _ hU).mono ?_; rintro e wc ⟨rfl, hb⟩
         replace hB := hB.trans (hb.mono hB.size); replace hX := hX.below hb hX.lt; replace hU := hU.toW hb; clear hb qX; have qX := fun i => hX.cell i
         go_wp2_with fail
         refine (HCST3.out _ hB).mono ?_; rintro e wc ⟨rfl, hb⟩
         replace hB := hB.trans (hb.mono hB.size); replace hX := hX.below hb hX.lt; replace hU := hU.toW hb; clear hb qX; have qX := fun i => hX.cell i
         go_wp2_with fail
         refine (HSTP3.out _ hB).mono ?_; rintro e wc ⟨rfl, hb⟩
         replace hB := hB.trans (hb.mono hB.size); replace hX := hX.below hb hX.lt; replace hU := hU.toW hb; clear hb qX; have qX := fun i => hX.cell i
         go_wp2_with fail
         refine (known_true m _ (hE.below hB)).mono ?_; rintro e wc ⟨rfl, hb⟩
         replace hB := hB.trans (hb.mono hB.size); clear hb
         go_wp2_with fail
         go_ret
         exact ⟨rfl, hB⟩
        ·have hle : M ≤ D := by omega
         have hmb : ((M : Int) == (D : Int)) = true := by simp; omega
         rw [s3 hsb (by omega)] at hsoo
         have HSOO := Lib.hid hsoo
         clear hsoo s3 hsb
         go_wp2_with fail
         refine (HL1.out _ hB).mono ?_; rintro e wc ⟨rfl, hb⟩
         replace hB := hB.trans (hb.mono hB.size); replace hX := hX.below hb hX.lt; clear hb qX; have qX := fun i => hX.cell i
         go_wp2_with fail
         refine (HL2.out _ hB).mono ?_; rintro e wc ⟨rfl, hb⟩
         replace hB := hB.trans (hb.mono hB.size); replace hX := hX.below hb hX.lt; clear hb qX; have qX := fun i => hX.cell i
         go_wp2_with fail
         refine (HST.out _ hB).mono ?_; rintro e wc ⟨⟨A4, c4, rfl, hU⟩, hb⟩
         replace hB := hB.trans (hb.mono hB.size); replace hX := hX.below hb hX.lt; clear hb qX; have qX := fun i => hX.cell i
         go_wp2_with fail
         refine (HCH.out _ hB).mono ?_; rintro e wc ⟨rfl, hb⟩
         replace hB := hB.trans (hb.mono hB.size); replace hX := hX.below hb hX.lt; replace hU := hU.toW hb; clear hb qX; have qX := fun i => hX.cell i
         go_wp2_with fail
         refine (HSTP.out _ hB _ _ hU).mono ?_; rintro e wc ⟨rfl, hb⟩
         replace hB := hB.trans (hb.mono hB.size); replace hX := hX.below hb hX.lt; replace hU := hU.toW hb; clear hb qX; have qX := fun i => hX.cell i
         go_wp2_with fail
         refine (HCST.out _ hB _ _ hU).mono ?_; rintro e wc ⟨rfl, hb⟩
         replace hB := hB.trans (hb.mono hB.size); replace hX := hX.below hb hX.lt; replace hU := hU.toW hb; clear hb qX; have qX := fun i => hX.cell i
         go_wp2_with fail
         refine (HCST3.out _ hB).mono ?_; rintro e wc ⟨rfl, hb⟩
         replace hB := hB.trans (hb.mono hB.size); replace hX := hX.below hb hX.lt; replace hU := hU.toW hb; clear hb qX; have qX := fun i => hX.cell i
         go_wp2_with fail
         refine (HSTP3.out _ hB).mono ?_; rintro e wc ⟨rfl, hb⟩
         replace hB := hB.trans (hb.mono hB.size); replace hX := hX.below hb hX.lt; replace hU := hU.toW hb; clear hb qX; have qX := fun i => hX.cell i
         go_wp2_with fail
         refine (HSOO.out _ hB _ _ hU).mono ?_; rintro e wc ⟨rfl, hb⟩
         replace hB := hB.trans (hb.mono hB.size); replace hX := hX.below hb hX.lt; clear hU; clear hb qX; have qX := fun i => hX.cell i
         go_wp2_with fail
         refine (known_true m _ (hE.below hB)).mono ?_; rintro e wc ⟨rfl, hb⟩
         replace hB := hB.trans (hb.mono hB.size); clear hb
         go_wp2_with fail
         go_ret
         exact ⟨rfl, hB⟩
end
end Go.Proofs.YtekmnelpkogppaaGreatDoor
