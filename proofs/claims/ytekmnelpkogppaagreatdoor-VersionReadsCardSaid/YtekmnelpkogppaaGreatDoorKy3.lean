import Derived.Test.YtekmnelpkogppaaGreatDoorProg
import Derived.Test.YtekmnelpkogppaaGreatDoorKy1
import Derived.Test.YtekmnelpkogppaaGreatDoorKy2
set_option linter.unusedVariables false
set_option linter.unusedSimpArgs false
set_option maxRecDepth 100000
set_option maxHeartbeats 40000000
namespace Go.Proofs.YtekmnelpkogppaaGreatDoor
section
open Go.RowKit Go.Lib Go.Maps
def bestF {α : Type} (cost : α → Nat) : List α → Option α
 | [] => none
 | x :: xs => some (xs.foldl (fun acc y => if cost y < cost acc then y else acc) x)
theorem bestF_snoc {α : Type} (cost : α → Nat) (l : List α) (y : α) : bestF cost (l ++ [y]) = match bestF cost l with | none => some y | some a => some (if cost y < cost a then y else a) := by
 cases l with
 | nil => rfl
 | cons x xs => simp [bestF, List.foldl_append]
theorem bestF_none {α : Type} (cost : α → Nat) (l : List α) : bestF cost l = none ↔ l = [] := by cases l <;> simp [bestF]
theorem bestF_some {α : Type} (cost : α → Nat) {l : List α} (h : l ≠ []) : ∃ a, bestF cost l = some a := by
 cases l with
 | nil => exact absurd rfl h
 | cons x xs => exact ⟨_, rfl⟩
theorem flatM : ∀ (l : List MV) (k j : Nat) (hk : k < l.length), j < 4 → (l.flatMap MV.cells)[k * 4 + j]? = (MV.cells l[k])[j]?
 | x :: l, 0, j, _, hj => by
  simp only [List.flatMap_cons, List.getElem_cons_zero, Nat.zero_mul, Nat.zero_add]
  rw [List.getElem?_append_left (by simp [MV.cells]; omega)]
 | x :: l, k + 1, j, hk, hj => by
  simp only [List.flatMap_cons, List.getElem_cons_succ]
  rw [List.getElem?_append_right (by simp [MV.cells]; omega), show (k + 1) * 4 + j - (MV.cells x).length = k * 4 + j by simp [MV.cells]; omega]
  exact flatM l k j (by simpa using hk) hj
theorem Rd.atM {w : World} {B : Nat} {A : Option Addr} {n k : Nat} {l : List MV} (h : Rd w B 4 A n (l.flatMap MV.cells)) (hn : l.length = n) (hk : k < n) : ∃ b off, ∃ hz : k < l.length, A = some ⟨b, off, none⟩ ∧ b < B ∧ w.cell? ⟨b, off + k * 4, none⟩ = some (.int .i64 l[k].kind) ∧ w.cell? ⟨b, off + k * 4 + 1, none⟩ = some (.int .i64 (l[k].word.toNat : Int)) ∧ w.cell? ⟨b, off + k * 4 + 2, none⟩ = some (.string l[k].one) ∧ w.cell? ⟨b, off + k * 4 + 3, none⟩ = some (.string l[k].other) := by
 obtain ⟨b, off, rfl, hb, hc⟩ := h.2 (by omega)
 refine ⟨b, off, by omega, rfl, hb, ?_, ?_, ?_, ?_⟩
 ·exact hc (k * 4) _ (by have := flatM l k 0 (by omega) (by omega); rw [Nat.add_zero] at this; rw [this]; rfl)
 ·exact hc (k * 4 + 1) _ (by rw [flatM l k 1 (by omega) (by omega)]; rfl)
 ·exact hc (k * 4 + 2) _ (by rw [flatM l k 2 (by omega) (by omega)]; rfl)
 ·exact hc (k * 4 + 3) _ (by rw [flatM l k 3 (by omega) (by omega)]; rfl)
theorem grown_set (w : World) (a : Addr) (u : Value) : w.grownBy (w.setCell a u) (some a.block) :=
 ⟨rfl, rfl, rfl, by simp, fun k _ hn => Below.heap_setCell w a u k (fun e => hn (by rw [e]))⟩
theorem own_lt {w : World} {base : Nat} {e : TypeId} {size n cap : Nat} {A : Option Addr} {xs : List Value} (h : w.ownsRow base e size (.slice A n cap) n xs) {ad : Addr} (he : A = some ad) : ad.block < w.heap.size := by
 subst he
 rcases h.2 with ⟨h2, _⟩ | ⟨g, cap', cur, h3, _, h5, _⟩
 ·cases h2
 ·cases h3
  exact (Array.getElem?_eq_some_iff.1 h5).1
theorem own_set {w : World} {base : Nat} {e : TypeId} {size n : Nat} {v : Value} {xs : List Value} (h : w.ownsRow base e size v n xs) {p : Addr} (hp : v.ownBlock ≠ some p.block) (u : Value) : (w.setCell p u).ownsRow base e size v n xs :=
 h.kept (grown_set w p u) (.inr hp)
theorem Memo.set {w : World} {b n : Nat} (h : Memo w b n) {p : Addr} (hp : b ≠ p.block) (u : Value) : Memo (w.setCell p u) b n := h.kept (grown_set w p u) (fun e => hp (by injection e))
def accC (o : Option MV) : Array Value := match o with | some m => #[.int .i64 m.kind, .int .i64 (m.word.toNat : Int), .string m.one, .string m.other] | none => #[.int .i64 0, .int .i64 0, .string ⟨#[]⟩, .string ⟨#[]⟩]
def accN (o : Option MV) : Int := match o with | some m => (costN m : Nat) | none => 0
theorem best_mv (b base N K : Nat) (A : Option Addr) (n cap : Nat) (ms : List MV) (w : World) (N' : Nat) (hm : Memo w b N') (hb : b < base) (hn : n ≤ 1000) (hlen : ms.length = n) (hown : w.ownsRow base 184 4 (.slice A n cap) n (ms.flatMap MV.cells))
  (hc : Hid (∀ m ∈ ms, CallsCost b N K m)) (hN : N' + n * K ≤ N) (hbs : base ≤ w.heap.size) (hcs : ∀ m ∈ ms, costN m ≤ 1000000) :
  Calls Tryz.prog 131 #[.slice A n cap, .func (.func 133) #[.map (some b)] #[]] w fun e w' => e = mvR (bestF costN ms) ∧ Memo w' b (N' + n * K) ∧ GB w.heap.size b w w' := by
 have hcf : ∀ (a : Array Value) (w : World), Sem.run Tryz.prog (callFunc 133 a) w = .ok (Next.enter 133 a) w := fun _ _ => rfl
 have hG : GB w.heap.size b w ((w.alloc (.cells #[.int .i64 0, .int .i64 0, .string ⟨#[]⟩, .string ⟨#[]⟩] 184)).alloc (.cells #[.int .i64 0, .int .i64 0, .string ⟨#[]⟩, .string ⟨#[]⟩] 184)) := ((GB.refl _ _ _).alloc (Nat.le_refl _) _).alloc (by simp only [World.size_alloc]; omega) _
 have h4 : Blk ((w.alloc (.cells #[.int .i64 0, .int .i64 0, .string ⟨#[]⟩, .string ⟨#[]⟩] 184)).alloc (.cells #[.int .i64 0, .int .i64 0, .string ⟨#[]⟩, .string ⟨#[]⟩] 184)) w.heap.size 184 #[.int .i64 0, .int .i64 0, .string ⟨#[]⟩, .string ⟨#[]⟩] := (Blk.new w 184 _).alloc _
 have h6 : Blk ((w.alloc (.cells #[.int .i64 0, .int .i64 0, .string ⟨#[]⟩, .string ⟨#[]⟩] 184)).alloc (.cells #[.int .i64 0, .int .i64 0, .string ⟨#[]⟩, .string ⟨#[]⟩] 184)) (w.heap.size + 1) 184 (accC none) := blk2 w _ 184 _
 have hm2 := (hm.alloc (.cells #[.int .i64 0, .int .i64 0, .string ⟨#[]⟩, .string ⟨#[]⟩] 184)).alloc (.cells #[.int .i64 0, .int .i64 0, .string ⟨#[]⟩, .string ⟨#[]⟩] 184)
 have ho2 := (hown.alloc (.cells #[.int .i64 0, .int .i64 0, .string ⟨#[]⟩, .string ⟨#[]⟩] 184)).alloc (.cells #[.int .i64 0, .int .i64 0, .string ⟨#[]⟩, .string ⟨#[]⟩] 184)
 have hbl := hm.lt
 have hA := fun ad (e : A = some ad) => own_lt hown e
 have HA := Lib.hid hA; clear hA
 have HLEN := Lib.hid hlen; have HCS := Lib.hid hcs; clear hlen hm hown hcs
 go_enter Tryz.func131, Tryz.ntmps131
 go_wp2_with fail
 generalize (w.alloc (.cells #[.int .i64 0, .int .i64 0, .string ⟨#[]⟩, .string ⟨#[]⟩] 184)).alloc (.cells #[.int .i64 0, .int .i64 0, .string ⟨#[]⟩, .string ⟨#[]⟩] 184) = W0 at *
 go_loopg [7, 13] n (fun g l i wr => ∃ (k : Nat) (acc : Option MV) (z : Int), g = n - k ∧ k ≤ n ∧ i = .int .i64 k ∧ l = .int .i64 z ∧ Hid (acc = bestF costN (ms.take k)) ∧ Hid (z = accN acc) ∧ 0 ≤ z ∧ z ≤ 1000000 ∧ Blk wr w.heap.size 184 #[.int .i64 0, .int .i64 0, .string ⟨#[]⟩, .string ⟨#[]⟩] ∧ (∃ x0 x1 x2 x3, Hid (accC acc = #[x0, x1, x2, x3]) ∧ Blk wr (w.heap.size + 1) 184 #[x0, x1, x2, x3]) ∧ wr.ownsRow base 184 4 (.slice A n cap) n (ms.flatMap MV.cells) ∧ Memo wr b (N' + k * K) ∧ GB w.heap.size b w wr)
 case atStart => exact ⟨0, none, 0, rfl, Nat.zero_le _, rfl, rfl, Lib.hid rfl, Lib.hid rfl, by omega, by omega, h4, ⟨_, _, _, _, Lib.hid rfl, h6⟩, ho2, by rw [Nat.zero_mul, Nat.add_zero]; exact hm2, hG⟩
 case round =>
  clear h4 h6 ho2 hm2 hG
  obtain ⟨k, acc, z, hg, hk, rfl, rfl, hacc, hz, hz0, hz1, h4, ⟨x0, x1, x2, x3, hxx, h6⟩, hown, hm, hG⟩ := hrel
  have HG := Lib.hid hg; clear hg
  rename World => wr
  by_cases hlt : k < n
  ·have hlti : (k : Int) < n := by omega
   obtain ⟨gb, off, hzl, rfl, hgb, c0, c1, c2, c3⟩ := (Rd.of_own hown).atM HLEN.out hlt
   have hin := List.getElem_mem hzl
   have htk : ms.take (k + 1) = ms.take k ++ [ms[k]] := List.take_succ_eq_append_getElem hzl
   generalize ms[k] = m at *
   have hcc := hc.out m hin
   have hcost := HCS.out m hin
   have hKle : N' + k * K + K ≤ N := by
    have : (k + 1) * K ≤ n * K := Nat.mul_le_mul_right K hlt
    rw [Nat.add_mul, Nat.one_mul] at this
    omega
   have HCC := Lib.hid hcc; have HTK := Lib.hid htk; clear hcc htk hin hzl
   have hms : N' + k * K + K = N' + (k + 1) * K := by rw [Nat.add_mul, Nat.one_mul]; omega
   have HMS := Lib.hid hms; clear hms
   obtain ⟨kd, wd, o1, o2⟩ := m
   dsimp only at c0 c1 c2 c3
   obtain ⟨cz, hcz⟩ : ∃ cz, cz = costN ⟨kd, wd, o1, o2⟩ := ⟨_, rfl⟩
   rw [← hcz] at hcost
   have hcall : ∀ wx, Memo wx b (N' + k * K) → Calls Tryz.prog 133 #[.map (some b), .agg #[.int .i64 kd, .int .i64 (wd.toNat : Int), .string o1, .string o2]] wx fun e w' => e = .returned (.int .i64 cz) ∧ Memo w' b (N' + k * K + K) ∧ GB wx.heap.size b wx w' := fun wx h => by rw [hcz]; exact HCC.out wx _ h hKle
   have HCZ := Lib.hid hcz; have HCALL := Lib.hid hcall; clear hcz hcall
   have hl4 := h4.lt; have hl6 := h6.lt
   have hgl := HA.out _ rfl
   dsimp only at hgl
   by_cases hk0 : k = 0
   ·have hk0b : ((k : Int) == 0) = true := by rw [beq_iff_eq]; omega
    have hac : acc = none := by rw [hacc.out, hk0]; rfl
    have HAC := Lib.hid hac; clear hac hk0
    go_wp2_with (go_at_call 133; refine (HCALL.out _ (hm.alloc _)).mono ?_; rintro e w1 ⟨rfl, hm1, hg⟩; have hX := (Blk.new wr 184 #[.int .i64 kd, .int .i64 (wd.toNat : Int), .string o1, .string o2]).gb hg (by omega); replace h4 := (h4.alloc (.cells #[.int .i64 kd, .int .i64 (wd.toNat : Int), .string o1, .string o2] 184)).gb hg (by omega); replace h6 := (h6.alloc (.cells #[.int .i64 kd, .int .i64 (wd.toNat : Int), .string o1, .string o2] 184)).gb hg (by omega); replace hown := own_gb (hown.alloc (.cells #[.int .i64 kd, .int .i64 (wd.toNat : Int), .string o1, .string o2] 184)) hg hb; replace hG := (hG.alloc hG.size (.cells #[.int .i64 kd, .int .i64 (wd.toNat : Int), .string o1, .string o2] 184)).call hg (by have := hG.size; simp only [World.size_alloc]; omega); have qX := fun i => hX.cell i; have q6 := fun i => h6.cell i; have f6 := fun i => h6.frozen i; have l6 := h6.lt; clear hg)
    clear qX q6 f6 l6
    replace h6 := h6.set_ 0 (.int .i64 kd); replace h4 := h4.far (p := ⟨w.heap.size + 1, 0, none⟩) (show w.heap.size ≠ w.heap.size + 1 by omega) (.int .i64 kd); replace hown := own_set (p := ⟨w.heap.size + 1, 0, none⟩) hown (by simp [Value.ownBlock]; omega) (.int .i64 kd); replace hm1 := hm1.set (p := ⟨w.heap.size + 1, 0, none⟩) (show b ≠ w.heap.size + 1 by omega) (.int .i64 kd); replace hG := hG.setCell (p := ⟨w.heap.size + 1, 0, none⟩) (Nat.le_succ _) (.int .i64 kd)
    replace h6 := h6.set_ 1 (.int .i64 (wd.toNat : Int)); replace h4 := h4.far (p := ⟨w.heap.size + 1, 1, none⟩) (show w.heap.size ≠ w.heap.size + 1 by omega) (.int .i64 (wd.toNat : Int)); replace hown := own_set (p := ⟨w.heap.size + 1, 1, none⟩) hown (by simp [Value.ownBlock]; omega) (.int .i64 (wd.toNat : Int)); replace hm1 := hm1.set (p := ⟨w.heap.size + 1, 1, none⟩) (show b ≠ w.heap.size + 1 by omega) (.int .i64 (wd.toNat : Int)); replace hG := hG.setCell (p := ⟨w.heap.size + 1, 1, none⟩) (Nat.le_succ _) (.int .i64 (wd.toNat : Int))
    replace h6 := h6.set_ 2 (.string o1); replace h4 := h4.far (p := ⟨w.heap.size + 1, 2, none⟩) (show w.heap.size ≠ w.heap.size + 1 by omega) (.string o1); replace hown := own_set (p := ⟨w.heap.size + 1, 2, none⟩) hown (by simp [Value.ownBlock]; omega) (.string o1); replace hm1 := hm1.set (p := ⟨w.heap.size + 1, 2, none⟩) (show b ≠ w.heap.size + 1 by omega) (.string o1); replace hG := hG.setCell (p := ⟨w.heap.size + 1, 2, none⟩) (Nat.le_succ _) (.string o1)
    replace h6 := h6.set_ 3 (.string o2); replace h4 := h4.far (p := ⟨w.heap.size + 1, 3, none⟩) (show w.heap.size ≠ w.heap.size + 1 by omega) (.string o2); replace hown := own_set (p := ⟨w.heap.size + 1, 3, none⟩) hown (by simp [Value.ownBlock]; omega) (.string o2); replace hm1 := hm1.set (p := ⟨w.heap.size + 1, 3, none⟩) (show b ≠ w.heap.size + 1 by omega) (.string o2); replace hG := hG.setCell (p := ⟨w.heap.size + 1, 3, none⟩) (Nat.le_succ _) (.string o2)
    go_roundg (n - (k + 1))
    case measure => rw [HG.out]; omega
    case rel => exact ⟨k + 1, some ⟨kd, wd, o1, o2⟩, cz, rfl, by omega, by go_num, rfl, Lib.hid (by rw [HTK.out, bestF_snoc, ← hacc.out]; rw [HAC.out]), Lib.hid (by rw [HCZ.out]; rfl), by omega, by omega, h4, ⟨_, _, _, _, Lib.hid rfl, h6⟩, hown, by rw [← HMS.out]; exact hm1, hG⟩
   ·have hk0b : ((k : Int) == 0) = false := by rw [beq_eq_false_iff_ne]; omega
    have hne : ms.take k ≠ [] := fun e => by have := congrArg List.length e; rw [List.length_take, List.length_nil, HLEN.out] at this; omega
    obtain ⟨am, hac⟩ := bestF_some costN hne
    rw [← hacc.out] at hac
    have hzc : z = (costN am : Nat) := by rw [hz.out, hac]; rfl
    have HAC := Lib.hid hac; clear hac hne hk0
    by_cases hcl : (cz : Int) < z
    ·have hnl : costN ⟨kd, wd, o1, o2⟩ < costN am := by have := HCZ.out; omega
     have HNL := Lib.hid hnl; clear hnl hzc
     go_wp2_with (go_at_call 133; refine (HCALL.out _ (hm.alloc _)).mono ?_; rintro e w1 ⟨rfl, hm1, hg⟩; have hX := (Blk.new wr 184 #[.int .i64 kd, .int .i64 (wd.toNat : Int), .string o1, .string o2]).gb hg (by omega); replace h4 := (h4.alloc (.cells #[.int .i64 kd, .int .i64 (wd.toNat : Int), .string o1, .string o2] 184)).gb hg (by omega); replace h6 := (h6.alloc (.cells #[.int .i64 kd, .int .i64 (wd.toNat : Int), .string o1, .string o2] 184)).gb hg (by omega); replace hown := own_gb (hown.alloc (.cells #[.int .i64 kd, .int .i64 (wd.toNat : Int), .string o1, .string o2] 184)) hg hb; replace hG := (hG.alloc hG.size (.cells #[.int .i64 kd, .int .i64 (wd.toNat : Int), .string o1, .string o2] 184)).call hg (by have := hG.size; simp only [World.size_alloc]; omega); have qX := fun i => hX.cell i; have q6 := fun i => h6.cell i; have f6 := fun i => h6.frozen i; have l6 := h6.lt; clear hg)
     clear qX q6 f6 l6
     replace h6 := h6.set_ 0 (.int .i64 kd); replace h4 := h4.far (p := ⟨w.heap.size + 1, 0, none⟩) (show w.heap.size ≠ w.heap.size + 1 by omega) (.int .i64 kd); replace hown := own_set (p := ⟨w.heap.size + 1, 0, none⟩) hown (by simp [Value.ownBlock]; omega) (.int .i64 kd); replace hm1 := hm1.set (p := ⟨w.heap.size + 1, 0, none⟩) (show b ≠ w.heap.size + 1 by omega) (.int .i64 kd); replace hG := hG.setCell (p := ⟨w.heap.size + 1, 0, none⟩) (Nat.le_succ _) (.int .i64 kd)
     replace h6 := h6.set_ 1 (.int .i64 (wd.toNat : Int)); replace h4 := h4.far (p := ⟨w.heap.size + 1, 1, none⟩) (show w.heap.size ≠ w.heap.size + 1 by omega) (.int .i64 (wd.toNat : Int)); replace hown := own_set (p := ⟨w.heap.size + 1, 1, none⟩) hown (by simp [Value.ownBlock]; omega) (.int .i64 (wd.toNat : Int)); replace hm1 := hm1.set (p := ⟨w.heap.size + 1, 1, none⟩) (show b ≠ w.heap.size + 1 by omega) (.int .i64 (wd.toNat : Int)); replace hG := hG.setCell (p := ⟨w.heap.size + 1, 1, none⟩) (Nat.le_succ _) (.int .i64 (wd.toNat : Int))
     replace h6 := h6.set_ 2 (.string o1); replace h4 := h4.far (p := ⟨w.heap.size + 1, 2, none⟩) (show w.heap.size ≠ w.heap.size + 1 by omega) (.string o1); replace hown := own_set (p := ⟨w.heap.size + 1, 2, none⟩) hown (by simp [Value.ownBlock]; omega) (.string o1); replace hm1 := hm1.set (p := ⟨w.heap.size + 1, 2, none⟩) (show b ≠ w.heap.size + 1 by omega) (.string o1); replace hG := hG.setCell (p := ⟨w.heap.size + 1, 2, none⟩) (Nat.le_succ _) (.string o1)
     replace h6 := h6.set_ 3 (.string o2); replace h4 := h4.far (p := ⟨w.heap.size + 1, 3, none⟩) (show w.heap.size ≠ w.heap.size + 1 by omega) (.string o2); replace hown := own_set (p := ⟨w.heap.size + 1, 3, none⟩) hown (by simp [Value.ownBlock]; omega) (.string o2); replace hm1 := hm1.set (p := ⟨w.heap.size + 1, 3, none⟩) (show b ≠ w.heap.size + 1 by omega) (.string o2); replace hG := hG.setCell (p := ⟨w.heap.size + 1, 3, none⟩) (Nat.le_succ _) (.string o2)
     go_roundg (n - (k + 1))
     case measure => rw [HG.out]; omega
     case rel => exact ⟨k + 1, some ⟨kd, wd, o1, o2⟩, cz, rfl, by omega, by go_num, rfl, Lib.hid (by rw [HTK.out, bestF_snoc, ← hacc.out]; rw [HAC.out]; simp only; rw [if_pos HNL.out]), Lib.hid (by rw [HCZ.out]; rfl), by omega, by omega, h4, ⟨_, _, _, _, Lib.hid rfl, h6⟩, hown, by rw [← HMS.out]; exact hm1, hG⟩
    ·have hnl : ¬ costN ⟨kd, wd, o1, o2⟩ < costN am := by have := HCZ.out; omega
     have HNL := Lib.hid hnl; clear hnl hzc
     go_wp2_with (go_at_call 133; refine (HCALL.out _ (hm.alloc _)).mono ?_; rintro e w1 ⟨rfl, hm1, hg⟩; have hX := (Blk.new wr 184 #[.int .i64 kd, .int .i64 (wd.toNat : Int), .string o1, .string o2]).gb hg (by omega); replace h4 := (h4.alloc (.cells #[.int .i64 kd, .int .i64 (wd.toNat : Int), .string o1, .string o2] 184)).gb hg (by omega); replace h6 := (h6.alloc (.cells #[.int .i64 kd, .int .i64 (wd.toNat : Int), .string o1, .string o2] 184)).gb hg (by omega); replace hown := own_gb (hown.alloc (.cells #[.int .i64 kd, .int .i64 (wd.toNat : Int), .string o1, .string o2] 184)) hg hb; replace hG := (hG.alloc hG.size (.cells #[.int .i64 kd, .int .i64 (wd.toNat : Int), .string o1, .string o2] 184)).call hg (by have := hG.size; simp only [World.size_alloc]; omega); have qX := fun i => hX.cell i; have q6 := fun i => h6.cell i; have f6 := fun i => h6.frozen i; have l6 := h6.lt; clear hg)
     clear qX q6 f6 l6
     go_roundg (n - (k + 1))
     case measure => rw [HG.out]; omega
     case rel => exact ⟨k + 1, acc, z, rfl, by omega, by go_num, rfl, Lib.hid (by rw [HTK.out, bestF_snoc, ← hacc.out, HAC.out]; simp only; rw [if_neg HNL.out]), hz, by omega, by omega, h4, ⟨_, _, _, _, hxx, h6⟩, hown, by rw [← HMS.out]; exact hm1, hG⟩
  ·obtain rfl : k = n := by omega
   have htk : ms.take k = ms := List.take_of_length_le (by have := HLEN.out; omega)
   have hfin : acc = bestF costN ms := by rw [hacc.out, htk]
   have HFIN := Lib.hid hfin; clear hfin htk
   cases acc with
   | none =>
    have hk0 : k = 0 := by
     have h1 : ms = [] := (bestF_none costN ms).1 HFIN.out.symm
     have := HLEN.out
     rw [h1] at this
     exact this.symm
    have h := hxx.out
    simp only [accC, Array.mk.injEq, List.cons.injEq, and_true] at h
    obtain ⟨rfl, rfl, rfl, rfl⟩ := h
    have hk0i : ¬ (0 : Int) < k := by omega
    have HK0 := Lib.hid hk0; clear hk0
    have q6 := fun i => h6.cell i
    have q4 := fun i => h4.cell i; have f4 := fun i => h4.frozen i; have l4 := h4.lt
    go_wp2_with fail
    clear q6 q4 f4 l4
    replace h4 := h4.set_ 0 (.int .i64 0); replace hm := hm.set (p := ⟨w.heap.size, 0, none⟩) (show b ≠ w.heap.size by omega) (.int .i64 0); replace hG := hG.setCell (p := ⟨w.heap.size, 0, none⟩) (Nat.le_refl _) (.int .i64 0)
    replace h4 := h4.set_ 1 (.int .i64 0); replace hm := hm.set (p := ⟨w.heap.size, 1, none⟩) (show b ≠ w.heap.size by omega) (.int .i64 0); replace hG := hG.setCell (p := ⟨w.heap.size, 1, none⟩) (Nat.le_refl _) (.int .i64 0)
    replace h4 := h4.set_ 2 (.string ⟨#[]⟩); replace hm := hm.set (p := ⟨w.heap.size, 2, none⟩) (show b ≠ w.heap.size by omega) (.string ⟨#[]⟩); replace hG := hG.setCell (p := ⟨w.heap.size, 2, none⟩) (Nat.le_refl _) (.string ⟨#[]⟩)
    replace h4 := h4.set_ 3 (.string ⟨#[]⟩); replace hm := hm.set (p := ⟨w.heap.size, 3, none⟩) (show b ≠ w.heap.size by omega) (.string ⟨#[]⟩); replace hG := hG.setCell (p := ⟨w.heap.size, 3, none⟩) (Nat.le_refl _) (.string ⟨#[]⟩)
    replace h4 : Blk (((((wr).setCell ⟨w.heap.size, 0, none⟩ (.int .i64 0)).setCell ⟨w.heap.size, 1, none⟩ (.int .i64 0)).setCell ⟨w.heap.size, 2, none⟩ (.string ⟨#[]⟩)).setCell ⟨w.heap.size, 3, none⟩ (.string ⟨#[]⟩)) w.heap.size 184 #[.int .i64 0, .int .i64 0, .string ⟨#[]⟩, .string ⟨#[]⟩] := h4
    generalize ((((wr).setCell ⟨w.heap.size, 0, none⟩ (.int .i64 0)).setCell ⟨w.heap.size, 1, none⟩ (.int .i64 0)).setCell ⟨w.heap.size, 2, none⟩ (.string ⟨#[]⟩)).setCell ⟨w.heap.size, 3, none⟩ (.string ⟨#[]⟩) = w9 at *
    have hq9 := fun i => h4.cell i
    refine bodyPost_ret (v := .tuple #[.agg #[.int .i64 0, .int .i64 0, .string ⟨#[]⟩, .string ⟨#[]⟩], .bool false]) ?_ rfl ⟨by rw [← HFIN.out]; rfl, hm, hG⟩
    simp [results, Tryz.results131, go_sem, hq9, HK0.out]
   | some m =>
    obtain ⟨kd, wd, o1, o2⟩ := m
    have hk0 : 0 < k := by
     rcases Nat.eq_zero_or_pos k with h | h
     ·have h1 : ms = [] := List.length_eq_zero_iff.1 (by have := HLEN.out; omega)
      have h2 := HFIN.out
      rw [h1] at h2
      cases h2
     ·exact h
    have h := hxx.out
    simp only [accC, Array.mk.injEq, List.cons.injEq, and_true] at h
    obtain ⟨rfl, rfl, rfl, rfl⟩ := h
    have hk0i : (0 : Int) < k := by omega
    have q6 := fun i => h6.cell i
    have q4 := fun i => h4.cell i; have f4 := fun i => h4.frozen i; have l4 := h4.lt
    go_wp2_with fail
    clear q6 q4 f4 l4
    replace h4 := h4.set_ 0 (.int .i64 kd); replace hm := hm.set (p := ⟨w.heap.size, 0, none⟩) (show b ≠ w.heap.size by omega) (.int .i64 kd); replace hG := hG.setCell (p := ⟨w.heap.size, 0, none⟩) (Nat.le_refl _) (.int .i64 kd)
    replace h4 := h4.set_ 1 (.int .i64 (wd.toNat : Int)); replace hm := hm.set (p := ⟨w.heap.size, 1, none⟩) (show b ≠ w.heap.size by omega) (.int .i64 (wd.toNat : Int)); replace hG := hG.setCell (p := ⟨w.heap.size, 1, none⟩) (Nat.le_refl _) (.int .i64 (wd.toNat : Int))
    replace h4 := h4.set_ 2 (.string o1); replace hm := hm.set (p := ⟨w.heap.size, 2, none⟩) (show b ≠ w.heap.size by omega) (.string o1); replace hG := hG.setCell (p := ⟨w.heap.size, 2, none⟩) (Nat.le_refl _) (.string o1)
    replace h4 := h4.set_ 3 (.string o2); replace hm := hm.set (p := ⟨w.heap.size, 3, none⟩) (show b ≠ w.heap.size by omega) (.string o2); replace hG := hG.setCell (p := ⟨w.heap.size, 3, none⟩) (Nat.le_refl _) (.string o2)
    replace h4 : Blk (((((wr).setCell ⟨w.heap.size, 0, none⟩ (.int .i64 kd)).setCell ⟨w.heap.size, 1, none⟩ (.int .i64 (wd.toNat : Int))).setCell ⟨w.heap.size, 2, none⟩ (.string o1)).setCell ⟨w.heap.size, 3, none⟩ (.string o2)) w.heap.size 184 #[.int .i64 kd, .int .i64 (wd.toNat : Int), .string o1, .string o2] := h4
    generalize ((((wr).setCell ⟨w.heap.size, 0, none⟩ (.int .i64 kd)).setCell ⟨w.heap.size, 1, none⟩ (.int .i64 (wd.toNat : Int))).setCell ⟨w.heap.size, 2, none⟩ (.string o1)).setCell ⟨w.heap.size, 3, none⟩ (.string o2) = w9 at *
    have hq9 := fun i => h4.cell i
    refine bodyPost_ret (v := .tuple #[.agg #[.int .i64 kd, .int .i64 (wd.toNat : Int), .string o1, .string o2], .bool true]) ?_ rfl ⟨by rw [← HFIN.out]; rfl, hm, hG⟩
    simp [results, Tryz.results131, go_sem, hq9]
end
section
open Go.RowKit Go.Lib Go.Maps
theorem movesP_four (a b : ByteArray) : movesP 4 a b = (mvO 0 a b).toList ++ (mvO 1 a b).toList ++ (mvO 2 a b).toList ++ (mvO 3 a b).toList := by
 rw [movesP_succ, movesP_succ, movesP_succ, movesP_succ]
 simp [movesP]
theorem edB_empty_l {a b : ByteArray} (ha : ¬ 0 < a.size) : edB a b = b.size := by
 obtain rfl := size0 ha
 unfold edB
 rw [show (⟨#[]⟩ : ByteArray).data.toList = [] from rfl, ed_nil]
 rfl
theorem edB_empty_r {a b : ByteArray} (hb : ¬ 0 < b.size) : edB a b = a.size := by
 obtain rfl := size0 hb
 unfold edB
 rw [show (⟨#[]⟩ : ByteArray).data.toList = [] from rfl, ed_nil_r]
 rfl
theorem edB_both {a b : ByteArray} (ha : 0 < a.size) (hb : 0 < b.size) : edB a b = min (if hd a = hd b then edB (tl a) (tl b) else 1 + edB (tl a) (tl b)) (min (1 + edB a (tl b)) (1 + edB (tl a) b)) := by
 unfold edB
 rw [sz_cons a ha, sz_cons b hb, ed_moves]
theorem moves_le {a b : ByteArray} {m : MV} (h : m ∈ movesP 4 a b) : m.one.size + m.other.size < a.size + b.size ∧ m.one.size ≤ a.size ∧ m.other.size ≤ b.size := by
 rw [movesP_four] at h
 have ta := tl_size a
 have tb := tl_size b
 simp only [List.mem_append, Option.mem_toList, mvO] at h
 rcases h with ((h | h) | h) | h
 all_goals
  split at h
  ·rename_i hc
   simp only [Option.some.injEq, Option.mem_def] at h
   subst h
   dsimp only
   omega
  ·simp at h
theorem best_ed {a b : ByteArray} {m : MV} (h : bestF costN (movesP 4 a b) = some m) : costN m = edB a b := by
 rw [movesP_four] at h
 by_cases ha : 0 < a.size
 ·by_cases hb : 0 < b.size
  ·rw [edB_both ha hb]
   by_cases hh : hd a = hd b
   ·have e0 : mvO 0 a b = some ⟨1, hd a, tl a, tl b⟩ := if_pos ⟨ha, hb, hh⟩
    have e1 : mvO 1 a b = none := if_neg (fun h => h.2.2 hh)
    have e2 : mvO 2 a b = some ⟨3, hd b, a, tl b⟩ := if_pos hb
    have e3 : mvO 3 a b = some ⟨4, hd a, tl a, b⟩ := if_pos ha
    rw [e0, e1, e2, e3] at h
    simp only [Option.toList_some, Option.toList_none, List.append_nil, List.cons_append, List.nil_append, bestF, List.foldl_cons, List.foldl_nil, Option.some.injEq] at h
    rw [if_pos hh]
    have c0 : costN ⟨1, hd a, tl a, tl b⟩ = edB (tl a) (tl b) := rfl
    have c2 : costN ⟨3, hd b, a, tl b⟩ = edB a (tl b) + 1 := rfl
    have c3 : costN ⟨4, hd a, tl a, b⟩ = edB (tl a) b + 1 := rfl
    subst h
    split <;> split <;> omega
   ·have e0 : mvO 0 a b = none := if_neg (fun h => hh h.2.2)
    have e1 : mvO 1 a b = some ⟨2, hd b, tl a, tl b⟩ := if_pos ⟨ha, hb, hh⟩
    have e2 : mvO 2 a b = some ⟨3, hd b, a, tl b⟩ := if_pos hb
    have e3 : mvO 3 a b = some ⟨4, hd a, tl a, b⟩ := if_pos ha
    rw [e0, e1, e2, e3] at h
    simp only [Option.toList_some, Option.toList_none, List.append_nil, List.cons_append, List.nil_append, bestF, List.foldl_cons, List.foldl_nil, Option.some.injEq] at h
    rw [if_neg hh]
    have c0 : costN ⟨2, hd b, tl a, tl b⟩ = edB (tl a) (tl b) + 1 := rfl
    have c2 : costN ⟨3, hd b, a, tl b⟩ = edB a (tl b) + 1 := rfl
    have c3 : costN ⟨4, hd a, tl a, b⟩ = edB (tl a) b + 1 := rfl
    subst h
    split <;> split <;> omega
  ·have e0 : mvO 0 a b = none := if_neg (fun h => hb h.2.1)
   have e1 : mvO 1 a b = none := if_neg (fun h => hb h.2.1)
   have e2 : mvO 2 a b = none := if_neg hb
   have e3 : mvO 3 a b = some ⟨4, hd a, tl a, b⟩ := if_pos ha
   rw [e0, e1, e2, e3] at h
   simp only [Option.toList_some, Option.toList_none, List.append_nil, List.nil_append, bestF, List.foldl_nil, Option.some.injEq] at h
   subst h
   show edB (tl a) b + 1 = _
   rw [edB_empty_r hb, edB_empty_r hb, tl_size]
   omega
 ·by_cases hb : 0 < b.size
  ·have e0 : mvO 0 a b = none := if_neg (fun h => ha h.1)
   have e1 : mvO 1 a b = none := if_neg (fun h => ha h.1)
   have e2 : mvO 2 a b = some ⟨3, hd b, a, tl b⟩ := if_pos hb
   have e3 : mvO 3 a b = none := if_neg ha
   rw [e0, e1, e2, e3] at h
   simp only [Option.toList_some, Option.toList_none, List.append_nil, List.nil_append, bestF, List.foldl_nil, Option.some.injEq] at h
   subst h
   show edB a (tl b) + 1 = _
   rw [edB_empty_l ha, edB_empty_l ha, tl_size]
   omega
  ·have e0 : mvO 0 a b = none := if_neg (fun h => ha h.1)
   have e1 : mvO 1 a b = none := if_neg (fun h => ha h.1)
   have e2 : mvO 2 a b = none := if_neg hb
   have e3 : mvO 3 a b = none := if_neg ha
   rw [e0, e1, e2, e3] at h
   cases h
theorem best_empty {a b : ByteArray} (h : bestF costN (movesP 4 a b) = none) : edB a b = 0 := by
 have h1 := (bestF_none _ _).1 h
 by_cases ha : 0 < a.size
 ·have e3 : mvO 3 a b = some ⟨4, hd a, tl a, b⟩ := if_pos ha
  rw [movesP_four, e3] at h1
  simp at h1
 ·by_cases hb : 0 < b.size
  ·have e2 : mvO 2 a b = some ⟨3, hd b, a, tl b⟩ := if_pos hb
   rw [movesP_four, e2] at h1
   simp at h1
  ·rw [edB_empty_l ha]; omega
theorem edB_le (a b : ByteArray) : edB a b ≤ max a.size b.size := ed_le _ _
def KK : Nat → Nat
 | 0 => 1
 | s + 1 => 5 * KK s + 1
theorem KK_pos (s : Nat) : 1 ≤ KK s := by cases s <;> simp [KK]
theorem KK_mono {s t : Nat} (h : s ≤ t) : KK s ≤ KK t := by
 induction h with
 | refl => exact Nat.le_refl _
 | step _ ih => simp only [KK]; omega
theorem best_mem {α : Type} (cost : α → Nat) {l : List α} {m : α} (h : bestF cost l = some m) : m ∈ l := by
 cases l with
 | nil => cases h
 | cons x xs =>
  simp only [bestF, Option.some.injEq] at h
  have : ∀ (xs : List α) (acc : α), xs.foldl (fun acc y => if cost y < cost acc then y else acc) acc ∈ acc :: xs := by
   intro xs
   induction xs with
   | nil => intro acc; simp
   | cons y ys ih =>
    intro acc
    rw [List.foldl_cons]
    have := ih (if cost y < cost acc then y else acc)
    rcases List.mem_cons.1 this with h | h
    ·rw [h]; split <;> simp
    ·simp [h]
  rw [← h]
  exact this xs x
theorem memo_hit {D : DataW Unit} {p q : ByteArray} {kl : Lit} {c : Int} (h2 : ∀ (p q : ByteArray) (kl : Lit), keyOf Tryz.prog 124 (.agg #[.string p, .string q]) = some kl → Maps.has D kl = true → D.atKey kl (.lit (.int .i64 0)) = .lit (.int .i64 (edB p q)))
  (hk : keyOf Tryz.prog 124 (.agg #[.string p, .string q]) = some kl) (hh : Maps.has D kl = true) (hat : D.atKey kl (.lit (.int .i64 0)) = .lit (.int .i64 c)) : c = edB p q := by
 have h := (h2 p q kl hk hh).symm.trans hat
 simp only [DataW.lit.injEq, Lit.int.injEq, true_and] at h
 exact h.symm
theorem changes_any (s : Nat) : ∀ (a b : ByteArray) (mb N' : Nat) (w : World), a.size + b.size ≤ s → a.size ≤ 1000 → b.size ≤ 1000 → Memo w mb N' → N' + KK s ≤ maxLen →
  Calls Tryz.prog 83 #[.map (some mb), .agg #[.string a, .string b]] w fun e w' => e = .returned (.int .i64 (edB a b)) ∧ Memo w' mb (N' + KK s) ∧ GB w.heap.size mb w w' := by
 induction s using Nat.strongRecOn with
 | ind s ih =>
 intro a b mb N' w hs ha1 hb1 hm hN
 have hmf : ∀ (fn : Fn) (first cap : Array Value) (w : World), (Instr.makeFunc fn first cap).run Tryz.prog w = .ok (.func fn first cap) w := fun _ _ _ _ => rfl
 obtain ⟨kl, hkl⟩ := key124 a b (by unfold maxLen; omega) (by unfold maxLen; omega)
 have hbl := hm.lt
 obtain ⟨D, hown, h2⟩ := hm
 have hwf : (Lit.int .i64 (edB a b : Nat)).wf = true := WalkArith.wf_i64 (by have := edB_le a b; omega)
 have hX := Blk.new w 124 #[.string a, .string b]
 have hG : GB w.heap.size mb w (w.alloc (.cells #[.string a, .string b] 124)) := (GB.refl _ _ _).alloc (Nat.le_refl _) _
 have hown1 := hown.alloc (.cells #[.string a, .string b] 124)
 have H2 := Lib.hid h2; have HKL := Lib.hid hkl; clear h2 hkl hown
 have qX := fun i => hX.cell i
 cases hh : Maps.has D kl
 ·obtain ⟨ms, hmse⟩ : ∃ ms, ms = movesP 4 a b := ⟨_, rfl⟩
  obtain ⟨n, hn⟩ : ∃ n, n = ms.length := ⟨_, rfl⟩
  have hn4 : n ≤ 4 := by rw [hn, hmse]; exact movesP_len 4 a b
  have hmv := fun wx => moves_any a b wx
  have hle := fun m (h : m ∈ ms) => @moves_le a b m (by rw [← hmse]; exact h)
  have hbe := fun m (h : bestF costN ms = some m) => @best_ed a b m (by rw [← hmse]; exact h)
  have hbn := fun (h : bestF costN ms = none) => @best_empty a b (by rw [← hmse]; exact h)
  rw [← hmse, ← hn] at hmv
  have hcost : ∀ m ∈ ms, CallsCost mb maxLen (KK (s - 1)) m := fun m hm => by
   have hl := hle m hm
   exact cost_of mb maxLen (KK (s - 1)) m (by have := edB_le m.one m.other; omega) (fun wx N2 hm2 hN2 => ih (s - 1) (by omega) m.one m.other mb N2 wx (by omega) (by omega) (by omega) hm2 hN2)
  have hcs : ∀ m ∈ ms, costN m ≤ 1000000 := fun m hm => by
   have hl := hle m hm
   have := edB_le m.one m.other
   unfold costN
   split <;> omega
  have hbest : ∀ (wx : World) (A : Option Addr) (cap : Nat), Memo wx mb N' → N' + n * KK (s - 1) ≤ maxLen → wx.ownsRow (w.heap.size + 1) 184 4 (.slice A n cap) n (ms.flatMap MV.cells) → w.heap.size + 1 ≤ wx.heap.size → Calls Tryz.prog 131 #[.slice A n cap, .func (.func 133) #[.map (some mb)] #[]] wx fun e w' => e = mvR (bestF costN ms) ∧ Memo w' mb (N' + n * KK (s - 1)) ∧ GB wx.heap.size mb wx w' :=
   fun wx A cap h1 h2 h3 h4 => best_mv mb (w.heap.size + 1) maxLen (KK (s - 1)) A n cap ms wx N' h1 (by omega) (by omega) hn.symm h3 (Lib.hid hcost) h2 h4 hcs
  have HN := Lib.hid hn; have HMSE := Lib.hid hmse; have HLE := Lib.hid hle; have HMV := Lib.hid hmv; clear hn hmse hle hmv hcs
  have hz8 := Tryz.underlying3
  cases ho : bestF costN ms with
  | none =>
   have hms0 : n = 0 := by rw [HN.out, (bestF_none _ _).1 ho]; rfl
   have he0 := hbn ho
   have HB2 : Hid (∀ (wx : World) (A : Option Addr) (cap : Nat), Memo wx mb N' → wx.ownsRow (w.heap.size + 1) 184 4 (.slice A n cap) n (ms.flatMap MV.cells) → w.heap.size + 1 ≤ wx.heap.size → Calls Tryz.prog 131 #[.slice A n cap, .func (.func 133) #[.map (some mb)] #[]] wx fun e w' => e = .returned (.tuple #[.agg #[.int .i64 0, .int .i64 0, .string ⟨#[]⟩, .string ⟨#[]⟩], .bool false]) ∧ Memo w' mb N' ∧ GB wx.heap.size mb wx w') :=
    Lib.hid fun wx A cap h1 h3 h4 => by
     have h := hbest wx A cap h1 (by rw [hms0]; omega) h3 h4
     rw [ho] at h
     exact h.mono fun e w' ⟨q1, q2, q3⟩ => ⟨q1, q2.mono (by rw [hms0]; omega), q3⟩
   have HE0 := Lib.hid he0; clear he0 hms0 hbest hbe hbn hcost ho ih
   have hpos := KK_pos s
   have hN1 : N' < maxLen := by omega
   have hwf0 : (Lit.int .i64 0).wf = true := by decide
   go_enter Tryz.func83, Tryz.ntmps83
   go_wp2_with (first
     | (at_lookup; refine wpList_lookup_own_ok_int _ rfl _ _ 119 rfl 124 3 .i64 law124 Tryz.underlying119 Tryz.underlying3 (zero3 _) mb N' D rfl hown1 _ kl rfl HKL.out ?_; intro c hat hwc; clear hat hwc; rw [hh])
     | (go_at_call 132; refine (HMV.out _).mono ?_; rintro e w1 ⟨v, rfl, hrow, hb⟩; obtain ⟨mA, mC, rfl⟩ := own_slice hrow; have hm1 := Memo.below ⟨D, hown1, H2.out⟩ hb; replace hX := hX.below hb hX.lt; replace hG := hG.call (GB.of_below hb) hG.size; have hsz1 := hb.size; simp only [World.size_alloc] at hrow hsz1; clear hb qX; have qX := fun i => hX.cell i)
     | (go_at_call 131; refine (HB2.out _ _ _ hm1 hrow hsz1).mono ?_; rintro e w2 ⟨rfl, hm2, hg⟩; replace hX := hX.gb hg (by omega); replace hG := hG.call hg hG.size; clear hg hrow qX; replace hm2 := hm2.alloc (.cells #[.int .i64 0, .int .i64 0, .string ⟨#[]⟩, .string ⟨#[]⟩] 184); replace hX := hX.alloc (.cells #[.int .i64 0, .int .i64 0, .string ⟨#[]⟩, .string ⟨#[]⟩] 184); replace hG := hG.alloc hG.size (.cells #[.int .i64 0, .int .i64 0, .string ⟨#[]⟩, .string ⟨#[]⟩] 184); have qX := fun i => hX.cell i; obtain ⟨D2, hown2, h22⟩ := hm2; have H22 := Lib.hid h22; clear h22)
     | (at_mapUpdate; refine wpList_mapUpdate_own _ rfl _ _ _ 119 rfl 124 3 law124 Tryz.underlying119 _ mb N' D2 rfl hown2 hN1 _ _ kl rfl rfl HKL.out (.lit (.int .i64 0)) [] (plainElem_int Tryz.underlying3 hwf0) ?_; intro w3 hown3 hgrow3; replace hG := hG.put hgrow3 hG.size; clear hgrow3))
   go_ret
   refine ⟨by rw [HE0.out]; rfl, ?_, hG⟩
   refine Memo.mono (Memo.put (p := a) (q := b) hown2 H22.out HKL.out ?_) (show N' + 1 ≤ _ by omega)
   rw [HE0.out]
   exact hown3
  | some m =>
   have hmm : m ∈ ms := best_mem costN ho
   have hs1 : 1 ≤ s := by have := HLE.out m hmm; omega
   have hKs : KK s = 5 * KK (s - 1) + 1 := by
    obtain ⟨t, rfl⟩ : ∃ t, s = t + 1 := ⟨s - 1, by omega⟩
    rfl
   have hne := hbe m ho
   have hcm := hcost m hmm
   obtain ⟨K, hK⟩ : ∃ K, K = KK (s - 1) := ⟨_, rfl⟩
   rw [← hK] at hKs hcm hbest
   have hnK : n * K ≤ 4 * K := Nat.mul_le_mul_right K hn4
   have hK1 := KK_pos (s - 1)
   rw [← hK] at hK1
   rw [hKs] at hN ⊢
   obtain ⟨kd, wd, o1, o2⟩ := m
   have HB2 : Hid (∀ (wx : World) (A : Option Addr) (cap : Nat), Memo wx mb N' → wx.ownsRow (w.heap.size + 1) 184 4 (.slice A n cap) n (ms.flatMap MV.cells) → w.heap.size + 1 ≤ wx.heap.size → Calls Tryz.prog 131 #[.slice A n cap, .func (.func 133) #[.map (some mb)] #[]] wx fun e w' => e = .returned (.tuple #[.agg #[.int .i64 kd, .int .i64 (wd.toNat : Int), .string o1, .string o2], .bool true]) ∧ Memo w' mb (N' + 4 * K) ∧ GB wx.heap.size mb wx w') :=
    Lib.hid fun wx A cap h1 h3 h4 => by
     have h := hbest wx A cap h1 (by omega) h3 h4
     rw [ho] at h
     exact h.mono fun e w' ⟨q1, q2, q3⟩ => ⟨q1, q2.mono (by omega), q3⟩
   have HCM : Hid (∀ wx : World, Memo wx mb (N' + 4 * K) → Calls Tryz.prog 133 #[.map (some mb), .agg #[.int .i64 kd, .int .i64 (wd.toNat : Int), .string o1, .string o2]] wx fun e w' => e = .returned (.int .i64 (edB a b)) ∧ Memo w' mb (N' + 4 * K + K) ∧ GB wx.heap.size mb wx w') :=
    Lib.hid fun wx h1 => by
     have h := hcm wx _ h1 (by omega)
     rw [hne] at h
     exact h
   clear hne hcm hbest hbe hbn hcost ho ih hmm hs1 hKs hK
   have hN1 : N' + 4 * K + K < maxLen := by omega
   go_enter Tryz.func83, Tryz.ntmps83
   go_wp2_with (first
     | (at_lookup; refine wpList_lookup_own_ok_int _ rfl _ _ 119 rfl 124 3 .i64 law124 Tryz.underlying119 Tryz.underlying3 (zero3 _) mb N' D rfl hown1 _ kl rfl HKL.out ?_; intro c hat hwc; clear hat hwc; rw [hh])
     | (go_at_call 132; refine (HMV.out _).mono ?_; rintro e w1 ⟨v, rfl, hrow, hb⟩; obtain ⟨mA, mC, rfl⟩ := own_slice hrow; have hm1 := Memo.below ⟨D, hown1, H2.out⟩ hb; replace hX := hX.below hb hX.lt; replace hG := hG.call (GB.of_below hb) hG.size; have hsz1 := hb.size; simp only [World.size_alloc] at hrow hsz1; clear hb qX; have qX := fun i => hX.cell i)
     | (go_at_call 131; refine (HB2.out _ _ _ hm1 hrow hsz1).mono ?_; rintro e w2 ⟨rfl, hm2, hg⟩; replace hX := hX.gb hg (by omega); replace hG := hG.call hg hG.size; have hbl2 := hm2.lt; have hM := Blk.new w2 184 #[.int .i64 kd, .int .i64 (wd.toNat : Int), .string o1, .string o2]; clear hg hrow qX; replace hm2 := hm2.alloc (.cells #[.int .i64 kd, .int .i64 (wd.toNat : Int), .string o1, .string o2] 184); replace hX := hX.alloc (.cells #[.int .i64 kd, .int .i64 (wd.toNat : Int), .string o1, .string o2] 184); replace hG := hG.alloc hG.size (.cells #[.int .i64 kd, .int .i64 (wd.toNat : Int), .string o1, .string o2] 184); have qX := fun i => hX.cell i; have qM := fun i => hM.cell i)
     | (go_at_call 133; refine (HCM.out _ hm2).mono ?_; rintro e w4 ⟨rfl, hm4, hg⟩; replace hX := hX.gb hg (by omega); replace hG := hG.call hg hG.size; clear hg qX qM; have qX := fun i => hX.cell i; obtain ⟨D2, hown2, h22⟩ := hm4; have H22 := Lib.hid h22; clear h22)
     | (at_mapUpdate; refine wpList_mapUpdate_own _ rfl _ _ _ 119 rfl 124 3 law124 Tryz.underlying119 _ mb (N' + 4 * K + K) D2 rfl hown2 hN1 _ _ kl rfl rfl HKL.out (.lit (.int .i64 (edB a b))) [] (plainElem_int Tryz.underlying3 hwf) ?_; intro w3 hown3 hgrow3; replace hG := hG.put hgrow3 hG.size; clear hgrow3))
   go_ret
   exact ⟨rfl, Memo.mono (Memo.put (p := a) (q := b) hown2 H22.out HKL.out hown3) (by omega), hG⟩
 ·have HIT := Lib.hid (fun c => @memo_hit D a b kl c H2.out HKL.out hh)
  go_enter Tryz.func83, Tryz.ntmps83
  go_wp2_with (at_lookup; refine wpList_lookup_own_ok_int _ rfl _ _ 119 rfl 124 3 .i64 law124 Tryz.underlying119 Tryz.underlying3 (zero3 _) mb N' D rfl hown1 _ kl rfl HKL.out ?_; intro c hat hwc; have hce := HIT.out c hat; clear hat hwc; rw [hce]; clear hce; rw [hh])
  go_ret
  exact ⟨rfl, (Memo.mono ⟨D, hown1, H2.out⟩ (by omega)), hG⟩
end
section
open Go.RowKit Go.Lib Go.Maps
theorem GB.row {B b : Nat} {a w w' : World} {row : Option Nat} (h : GB B b a w) (hg : w.grownBy w' row) (hB : B ≤ w.heap.size) (hr : ∀ k, row = some k → B ≤ k) : GB B b a w' :=
 h.trans ⟨hg.os, hg.tape, hg.output, hg.size, fun k hk hn => hg.block k (by omega) (fun e => by have := hr k e.symm; omega)⟩
theorem info116 : (Tryz.prog.info? 116).map (fun i => (i.zero, i.size, i.bytes)) = some (some (.agg #[.int .i64 0, .int .i64 0]), 2, 16) := by kernel_rfl
def stC (p : Int × UInt8) : List Value := [.int .i64 p.1, .int .i64 (p.2.toNat : Int)]
def stepsG : Nat → ByteArray → ByteArray → List (Int × UInt8)
 | 0, _, _ => []
 | k + 1, a, b => match bestF costN (movesP 4 a b) with | none => [] | some m => (m.kind, m.word) :: stepsG k m.one m.other
theorem stC_len : ∀ l : List (Int × UInt8), (l.flatMap stC).length = l.length * 2
 | [] => rfl
 | x :: l => by rw [List.flatMap_cons, List.length_append, stC_len l]; simp [stC]; omega
theorem steps_any (a b : ByteArray) (mb N' : Nat) (w : World) (ha1 : a.size ≤ 100) (hb1 : b.size ≤ 100) (hm : Memo w mb N') (hN : N' + (a.size + b.size + 1) * (4 * KK (a.size + b.size)) ≤ maxLen) :
  Calls Tryz.prog 86 #[.map (some mb), .agg #[.string a, .string b]] w fun e w' => ∃ v, e = .returned v ∧ w'.ownsRow w.heap.size 116 2 v (stepsG (a.size + b.size + 1) a b).length ((stepsG (a.size + b.size + 1) a b).flatMap stC) ∧ GB w.heap.size mb w w' := by
 have hmf : ∀ (fn : Fn) (first cap : Array Value) (w : World), (Instr.makeFunc fn first cap).run Tryz.prog w = .ok (.func fn first cap) w := fun _ _ _ _ => rfl
 obtain ⟨i116, hi, hz0, hz1', hz2'⟩ := info_parts info116
 have hbl := hm.lt
 have hX := Blk.new w 124 #[.string a, .string b]
 have hG : GB w.heap.size mb w (w.alloc (.cells #[.string a, .string b] 124)) := (GB.refl _ _ _).alloc (Nat.le_refl _) _
 have hm0 := hm.alloc (.cells #[.string a, .string b] 124)
 obtain ⟨S, hS⟩ : ∃ S, S = a.size + b.size := ⟨_, rfl⟩
 obtain ⟨T, hT⟩ : ∃ T, T = stepsG (S + 1) a b := ⟨_, rfl⟩
 rw [← hS] at hN ⊢
 rw [← hT]
 obtain ⟨K, hK⟩ : ∃ K, K = KK S := ⟨_, rfl⟩
 rw [← hK] at hN
 have HK := Lib.hid hK; have HT := Lib.hid hT; clear hK hT hm
 go_enter Tryz.func86, Tryz.ntmps86
 go_wp2_with fail
 go_loopg [5] (S + 1) (fun g l wr => ∃ (k : Nat) (a2 b2 : ByteArray) (done : List (Int × UInt8)) (v0 : Value), g = S + 1 - k ∧ k ≤ S ∧ l = v0 ∧ a2.size + b2.size ≤ S - k ∧ a2.size ≤ 100 ∧ b2.size ≤ 100 ∧ Hid (T = done ++ stepsG (S + 1 - k) a2 b2) ∧ Hid (done.length = k) ∧ Blk wr w.heap.size 124 #[.string a2, .string b2] ∧ wr.ownsRow w.heap.size 116 2 v0 k (done.flatMap stC) ∧ Memo wr mb (N' + k * (4 * K)) ∧ GB w.heap.size mb w wr)
 case atStart => exact ⟨0, a, b, [], _, by omega, Nat.zero_le _, rfl, by omega, ha1, hb1, Lib.hid (by rw [HT.out]; rfl), Lib.hid rfl, hX, World.ownsRow_nil _ _ _ _, by rw [Nat.zero_mul, Nat.add_zero]; exact hm0, hG⟩
 case round =>
  clear hX hm0 hG
  obtain ⟨k, a2, b2, done, v0, hg, hk, rfl, hab, ha2, hb2, HTD, HDL, hX, hown, hm, hG⟩ := hrel
  obtain ⟨va, vc, rfl⟩ := own_slice hown
  have HG := Lib.hid hg; clear hg
  rename World => wr
  have hbl2 := hm.lt
  have qX := fun i => hX.cell i
  obtain ⟨ms, hmse⟩ : ∃ ms, ms = movesP 4 a2 b2 := ⟨_, rfl⟩
  obtain ⟨n, hn⟩ : ∃ n, n = ms.length := ⟨_, rfl⟩
  have hn4 : n ≤ 4 := by rw [hn, hmse]; exact movesP_len 4 a2 b2
  have hmv := fun wx => moves_any a2 b2 wx
  have hle := fun m (h : m ∈ ms) => @moves_le a2 b2 m (by rw [← hmse]; exact h)
  rw [← hmse, ← hn] at hmv
  have hcost : ∀ m ∈ ms, CallsCost mb maxLen K m := fun m hm => by
   have hl := hle m hm
   rw [HK.out]
   exact cost_of mb maxLen (KK S) m (by have := edB_le m.one m.other; omega) (fun wx N2 hm2 hN2 => changes_any S m.one m.other mb N2 wx (by omega) (by omega) (by omega) hm2 hN2)
  have hcs : ∀ m ∈ ms, costN m ≤ 1000000 := fun m hm => by
   have hl := hle m hm
   have := edB_le m.one m.other
   unfold costN
   split <;> omega
  have hnK : n * K ≤ 4 * K := Nat.mul_le_mul_right K hn4
  have hkK : k * (4 * K) + 4 * K ≤ (S + 1) * (4 * K) := by
   have : (k + 1) * (4 * K) ≤ (S + 1) * (4 * K) := Nat.mul_le_mul_right _ (by omega)
   rwa [Nat.add_mul, Nat.one_mul] at this
  have hkk1 : N' + k * (4 * K) + 4 * K = N' + (k + 1) * (4 * K) := by rw [Nat.add_mul, Nat.one_mul]; omega
  have HKK := Lib.hid hkk1; clear hkk1
  have hbest : ∀ (base : Nat) (wx : World) (A : Option Addr) (cap : Nat), mb < base → Memo wx mb (N' + k * (4 * K)) → wx.ownsRow base 184 4 (.slice A n cap) n (ms.flatMap MV.cells) → base ≤ wx.heap.size → Calls Tryz.prog 131 #[.slice A n cap, .func (.func 133) #[.map (some mb)] #[]] wx fun e w' => e = mvR (bestF costN ms) ∧ Memo w' mb (N' + k * (4 * K) + n * K) ∧ GB wx.heap.size mb wx w' :=
   fun base wx A cap h0 h1 h3 h4 => best_mv mb base maxLen K A n cap ms wx _ h1 h0 (by omega) hn.symm h3 (Lib.hid hcost) (by omega) h4 hcs
  have HN := Lib.hid hn; have HMSE := Lib.hid hmse; have HLE := Lib.hid hle; have HMV := Lib.hid hmv; clear hn hmse hle hmv hcs hcost
  cases ho : bestF costN ms with
  | none =>
   have HB2 : Hid (∀ (base : Nat) (wx : World) (A : Option Addr) (cap : Nat), mb < base → Memo wx mb (N' + k * (4 * K)) → wx.ownsRow base 184 4 (.slice A n cap) n (ms.flatMap MV.cells) → base ≤ wx.heap.size → Calls Tryz.prog 131 #[.slice A n cap, .func (.func 133) #[.map (some mb)] #[]] wx fun e w' => e = .returned (.tuple #[.agg #[.int .i64 0, .int .i64 0, .string ⟨#[]⟩, .string ⟨#[]⟩], .bool false]) ∧ Memo w' mb (N' + k * (4 * K) + 4 * K) ∧ GB wx.heap.size mb wx w') :=
    Lib.hid fun base wx A cap h0 h1 h3 h4 => by
     have h := hbest base wx A cap h0 h1 h3 h4
     rw [ho] at h
     exact h.mono fun e w' ⟨q1, q2, q3⟩ => ⟨q1, q2.mono (by omega), q3⟩
   have hfin : T = done := by
    rw [HTD.out, show S + 1 - k = (S - k) + 1 by omega]
    simp only [stepsG]
    rw [← HMSE.out, ho, List.append_nil]
   have HFIN := Lib.hid hfin; clear hfin hbest ho
   go_wp2_with (first
     | (go_at_call 132; refine (HMV.out _).mono ?_; rintro e w1 ⟨v, rfl, hrow, hb⟩; obtain ⟨mA, mC, rfl⟩ := own_slice hrow; replace hm := hm.below hb; replace hX := hX.below hb hX.lt; replace hown := ownsRow_below' hown hb; replace hG := hG.call (GB.of_below hb) hG.size; have hsz1 := hb.size; clear hb qX)
     | (go_at_call 131; refine (HB2.out _ _ _ _ hbl2 hm hrow hsz1).mono ?_; rintro e w2 ⟨rfl, hm2, hg⟩; replace hX := hX.gb hg (by omega); replace hown := own_gb hown hg hbl; replace hG := hG.call hg hG.size; clear hg hrow))
   go_ret
   refine ⟨_, rfl, ?_, hG.alloc hG.size _⟩
   rw [HFIN.out, HDL.out]
   exact hown.alloc _
  | some m =>
   have hmm : m ∈ ms := best_mem costN ho
   have hml := HLE.out m hmm
   obtain ⟨kd, wd, o1, o2⟩ := m
   dsimp only at hml
   have HB2 : Hid (∀ (base : Nat) (wx : World) (A : Option Addr) (cap : Nat), mb < base → Memo wx mb (N' + k * (4 * K)) → wx.ownsRow base 184 4 (.slice A n cap) n (ms.flatMap MV.cells) → base ≤ wx.heap.size → Calls Tryz.prog 131 #[.slice A n cap, .func (.func 133) #[.map (some mb)] #[]] wx fun e w' => e = .returned (.tuple #[.agg #[.int .i64 kd, .int .i64 (wd.toNat : Int), .string o1, .string o2], .bool true]) ∧ Memo w' mb (N' + k * (4 * K) + 4 * K) ∧ GB wx.heap.size mb wx w') :=
    Lib.hid fun base wx A cap h0 h1 h3 h4 => by
     have h := hbest base wx A cap h0 h1 h3 h4
     rw [ho] at h
     exact h.mono fun e w' ⟨q1, q2, q3⟩ => ⟨q1, q2.mono (by omega), q3⟩
   have htd : T = (done ++ [(kd, wd)]) ++ stepsG (S + 1 - (k + 1)) o1 o2 := by
    rw [HTD.out, show S + 1 - k = (S + 1 - (k + 1)) + 1 by omega]
    simp only [stepsG]
    rw [← HMSE.out, ho, List.append_assoc]
    simp
   have HTD2 := Lib.hid htd; clear htd hbest ho hmm
   obtain ⟨ys, hys⟩ : ∃ ys, ys = done.flatMap stC := ⟨_, rfl⟩
   rw [← hys] at hown
   have HYS := Lib.hid hys; clear hys
   go_wp2_with (first
     | (go_at_call 132; refine (HMV.out _).mono ?_; rintro e w1 ⟨v, rfl, hrow, hb⟩; obtain ⟨mA, mC, rfl⟩ := own_slice hrow; replace hm := hm.below hb; replace hX := hX.below hb hX.lt; replace hown := ownsRow_below' hown hb; replace hG := hG.call (GB.of_below hb) hG.size; have hsz1 := hb.size; clear hb qX)
     | (go_at_call 131; refine (HB2.out _ _ _ _ hbl2 hm hrow hsz1).mono ?_; rintro e w2 ⟨rfl, hm2, hg⟩; replace hX := hX.gb hg (by omega); replace hown := own_gb hown hg hbl; replace hG := hG.call hg hG.size; clear hg hrow; have hM := Blk.new w2 184 #[.int .i64 kd, .int .i64 (wd.toNat : Int), .string o1, .string o2]; have qM := fun i => hM.cell i)
     | (at_builtin; replace hm2 := (hm2.alloc (.cells #[.int .i64 kd, .int .i64 (wd.toNat : Int), .string o1, .string o2] 184)).alloc (.cells #[.int .i64 kd, .int .i64 (wd.toNat : Int)] 116); replace hX := (hX.alloc (.cells #[.int .i64 kd, .int .i64 (wd.toNat : Int), .string o1, .string o2] 184)).alloc (.cells #[.int .i64 kd, .int .i64 (wd.toNat : Int)] 116); replace hM := hM.alloc (.cells #[.int .i64 kd, .int .i64 (wd.toNat : Int)] 116); replace hown := (hown.alloc (.cells #[.int .i64 kd, .int .i64 (wd.toNat : Int), .string o1, .string o2] 184)).alloc (.cells #[.int .i64 kd, .int .i64 (wd.toNat : Int)] 116); replace hG := (hG.alloc hG.size (.cells #[.int .i64 kd, .int .i64 (wd.toNat : Int), .string o1, .string o2] 184)).alloc (by have := hG.size; simp only [World.size_alloc]; omega) (.cells #[.int .i64 kd, .int .i64 (wd.toNat : Int)] 116); refine wpList_append_any _ rfl _ _ 37 rfl w.heap.size 116 i116 (.agg #[.int .i64 0, .int .i64 0]) 2 16 Tryz.underlying37 hi hz0 hz1' hz2' rfl (by decide) (.slice va k vc) k ys rfl hown (w2.heap.size + 1 + 1) (some ⟨w2.heap.size + 1, 0, none⟩) 1 1 [.int .i64 kd, .int .i64 (wd.toNat : Int)] rfl (Rd.blkN (cs := #[.int .i64 kd, .int .i64 (wd.toNat : Int)]) (blk2 w2 _ 116 _) rfl (Nat.lt_succ_self _)).reads (by simp [Value.oneCell']) (by unfold maxLen; omega) (by omega) (by have := hG.size; simp only [World.size_alloc] at this ⊢; omega) (fun v' w' hown' hgrow hob => ?_); clear qM; replace hM := hM.kept_own hown (by decide) hgrow; replace hX := hX.kept_own hown (by decide) hgrow; replace hm2 := hm2.kept hgrow (by intro e; have := (hown.lt mb e.symm).1; omega); replace hG := hG.row hgrow hG.size (fun g hg => (hown.lt g hg).1); have qM := fun i => hM.cell i; have fX := fun i => hX.frozen i; have lX := hX.lt; have qX2 := fun i => hX.cell i))
   clear qM fX lX qX2
   have hob1 := own_blk_ne hown' hX (by decide)
   replace hX := hX.set_ 0 (.string o1); replace hown' := own_set (p := ⟨w.heap.size, 0, none⟩) hown' hob1 (.string o1); replace hm2 := hm2.set (p := ⟨w.heap.size, 0, none⟩) (show mb ≠ w.heap.size by omega) (.string o1); replace hG := hG.setCell (p := ⟨w.heap.size, 0, none⟩) (Nat.le_refl _) (.string o1)
   replace hX := hX.set_ 1 (.string o2); replace hown' := own_set (p := ⟨w.heap.size, 1, none⟩) hown' hob1 (.string o2); replace hm2 := hm2.set (p := ⟨w.heap.size, 1, none⟩) (show mb ≠ w.heap.size by omega) (.string o2); replace hG := hG.setCell (p := ⟨w.heap.size, 1, none⟩) (Nat.le_refl _) (.string o2)
   go_roundg (S + 1 - (k + 1))
   case measure => rw [HG.out]; omega
   case rel => exact ⟨k + 1, o1, o2, done ++ [(kd, wd)], _, rfl, by omega, rfl, by omega, by omega, by omega, HTD2, Lib.hid (by rw [List.length_append, HDL.out]; rfl), hX, by rw [List.flatMap_append, ← HYS.out]; exact hown', by rw [← HKK.out]; exact hm2, hG⟩
end
section
open Go.RowKit Go.Lib Go.Maps
theorem ln_small {W : Int} {l : List Int} (hW : 1 ≤ W ∧ W ≤ 3) (h : lnB W l = true) : l.length ≤ 4 ∧ ∀ x ∈ l, 0 ≤ x ∧ x ≤ 2 := by
 unfold lnB at h
 rw [Bool.and_eq_true, decide_eq_true_eq, List.all_eq_true] at h
 refine ⟨h.1, fun x hx => ?_⟩
 have := h.2 x hx
 simp [inB] at this
 omega
theorem lbS_size (l : List Int) : (lbS l).size = l.length := by unfold lbS lbL; simp [ByteArray.size]
theorem below_gb {B b : Nat} {a w w' : World} (h : Below B a w) (hg : GB w.heap.size b w w') (hb : B ≤ b) (hB : B ≤ w.heap.size) : Below B a w' := h.trans (hg.below hb hB)
theorem KK_8 : KK 8 = 488281 := by decide
theorem Changes_yes (W : Int) (A : Option Addr) (n cap : Nat) (cs : List VC) (A1 : Option Addr) (n1 c1 : Nat) (l1 : List Int) (A2 : Option Addr) (n2 c2 : Nat) (l2 : List Int) (w : World) (hn : n ≤ maxLen) (hr : Rd w w.heap.size 1 A n (cs.map VC.val)) (hc : ∀ c ∈ cs, c.ok w w.heap.size) (hn1 : n1 ≤ maxLen) (hr1 : Rd w w.heap.size 1 A1 n1 (l1.map (Value.int .i64))) (hn2 : n2 ≤ maxLen) (hr2 : Rd w w.heap.size 1 A2 n2 (l2.map (Value.int .i64))) (h1 : bookB W cs = true) (h2 : lnB W l1 = true) (h3 : lnB W l2 = true) :
  Calls Tryz.prog 26 #[.agg #[.int .i64 W, .slice A n cap], .slice A1 n1 c1, .slice A2 n2 c2] w fun e w' => e = .returned (.tuple #[.int .i64 (edB (lbS l1) (lbS l2)), .int .i64 0]) ∧ Below w.heap.size w w' := by
 have hX := Blk.new w 24 #[.int .i64 W, .slice A n cap]
 have hB : Below w.heap.size w (w.alloc (.cells #[.int .i64 W, .slice A n cap] 24)) := (Below.refl _ w).alloc (Nat.le_refl _) _
 have qX := fun i => hX.cell i
 have hmm := @run_makeMap Tryz.prog
 have hgb := fun (wx : World) (hx : Below w.heap.size w wx) => goodBook_any W A n cap cs wx hn (rdB hr hx) (fun c h => okB (hc c h) hx)
 have hW : 1 ≤ W ∧ W ≤ 3 := by have := h1; unfold bookB at this; simp only [Bool.and_eq_true] at this; simpa [inB] using this.1.1.1
 simp only [h1] at hgb
 have hg1 := fun (wx : World) (hx : Below w.heap.size w wx) => goodLine_any W A n cap A1 n1 c1 l1 wx hW.1 hW.2 hn1 (rdB hr1 hx)
 have hg2 := fun (wx : World) (hx : Below w.heap.size w wx) => goodLine_any W A n cap A2 n2 c2 l2 wx hW.1 hW.2 hn2 (rdB hr2 hx)
 simp only [h2] at hg1
 simp only [h3] at hg2
 obtain ⟨s1, s2⟩ := ln_small hW h2
 obtain ⟨t1, t2⟩ := ln_small hW h3
 have hz1 : l1.length = n1 := by simpa using hr1.len
 have hz2 : l2.length = n2 := by simpa using hr2.len
 have hl1 := fun (wx : World) (hx : Below w.heap.size w wx) => lineOf_any A1 n1 c1 l1 wx (by omega) (fun x h => by have := s2 x h; omega) (rdB hr1 hx)
 have hl2 := fun (wx : World) (hx : Below w.heap.size w wx) => lineOf_any A2 n2 c2 l2 wx (by omega) (fun x h => by have := t2 x h; omega) (rdB hr2 hx)
 have hb1 : (lbS l1).size ≤ 4 := by rw [lbS_size]; exact s1
 have hb2 : (lbS l2).size ≤ 4 := by rw [lbS_size]; exact t1
 obtain ⟨S1, hS1⟩ : ∃ S, S = lbS l1 := ⟨_, rfl⟩
 obtain ⟨S2, hS2⟩ : ∃ S, S = lbS l2 := ⟨_, rfl⟩
 rw [← hS1] at hl1 hb1
 rw [← hS2] at hl2 hb2
 have HGB := Lib.hid hgb; have HG1 := Lib.hid hg1; have HG2 := Lib.hid hg2; have HL1 := Lib.hid hl1; have HL2 := Lib.hid hl2; have HS1 := Lib.hid hS1; have HS2 := Lib.hid hS2; clear hgb hg1 hg2 h1 h2 h3 hl1 hl2 hz1 hz2 s1 s2 t1 t2 hS1 hS2
 have HCH := Lib.hid (fun (mb : Nat) (wx : World) (h : Memo wx mb 0) => changes_any 8 S1 S2 mb 0 wx (by omega) (by omega) (by omega) h (by rw [KK_8]; unfold maxLen; omega))
 go_enter Tryz.func26, Tryz.ntmps26
 go_wp2_with fail
 refine (HGB.out _ hB).mono ?_; rintro e w1 ⟨rfl, hb⟩; replace hX := hX.below hb hX.lt; replace hB := hB.trans (hb.mono hB.size); clear hb qX; have qX := fun i => hX.cell i
 go_wp2_with fail
 refine (HG1.out _ hB).mono ?_; rintro e w1 ⟨rfl, hb⟩; replace hX := hX.below hb hX.lt; replace hB := hB.trans (hb.mono hB.size); clear hb qX; have qX := fun i => hX.cell i
 go_wp2_with fail
 refine (HG2.out _ hB).mono ?_; rintro e w2 ⟨rfl, hb⟩; replace hX := hX.below hb hX.lt; replace hB := hB.trans (hb.mono hB.size); clear hb qX
 go_wp2_with fail
 have hm := Memo.made w2
 have hmB := hB.size
 replace hB := hB.alloc hB.size (.map #[] 0)
 refine (HL1.out _ hB).mono ?_; rintro e w3 ⟨rfl, hb⟩; replace hm := hm.below hb; replace hB := hB.trans (hb.mono hB.size); clear hb
 go_wp2_with fail
 refine (HL2.out _ hB).mono ?_; rintro e w4 ⟨rfl, hb⟩; replace hm := hm.below hb; replace hB := hB.trans (hb.mono hB.size); clear hb
 go_wp2_with fail
 refine (HCH.out _ _ hm).mono ?_; rintro e w5 ⟨rfl, _, hg⟩; replace hB := below_gb hB hg hmB hB.size; clear hg
 go_wp2_with fail
 go_ret2
 exact ⟨by rw [← HS1.out, ← HS2.out]; rfl, hB⟩
theorem Steps_yes (W : Int) (A : Option Addr) (n cap : Nat) (cs : List VC) (A1 : Option Addr) (n1 c1 : Nat) (l1 : List Int) (A2 : Option Addr) (n2 c2 : Nat) (l2 : List Int) (w : World) (hn : n ≤ maxLen) (hr : Rd w w.heap.size 1 A n (cs.map VC.val)) (hc : ∀ c ∈ cs, c.ok w w.heap.size) (hn1 : n1 ≤ maxLen) (hr1 : Rd w w.heap.size 1 A1 n1 (l1.map (Value.int .i64))) (hn2 : n2 ≤ maxLen) (hr2 : Rd w w.heap.size 1 A2 n2 (l2.map (Value.int .i64))) (h1 : bookB W cs = true) (h2 : lnB W l1 = true) (h3 : lnB W l2 = true) :
  Calls Tryz.prog 32 #[.agg #[.int .i64 W, .slice A n cap], .slice A1 n1 c1, .slice A2 n2 c2] w fun e w' => (∃ v, e = .returned (.tuple #[v, .int .i64 0]) ∧ w'.ownsRow w.heap.size 116 2 v (stepsG ((lbS l1).size + (lbS l2).size + 1) (lbS l1) (lbS l2)).length ((stepsG ((lbS l1).size + (lbS l2).size + 1) (lbS l1) (lbS l2)).flatMap stC)) ∧ Below w.heap.size w w' := by
 have hX := Blk.new w 24 #[.int .i64 W, .slice A n cap]
 have hB : Below w.heap.size w (w.alloc (.cells #[.int .i64 W, .slice A n cap] 24)) := (Below.refl _ w).alloc (Nat.le_refl _) _
 have qX := fun i => hX.cell i
 have hmm := @run_makeMap Tryz.prog
 have hgb := fun (wx : World) (hx : Below w.heap.size w wx) => goodBook_any W A n cap cs wx hn (rdB hr hx) (fun c h => okB (hc c h) hx)
 have hW : 1 ≤ W ∧ W ≤ 3 := by have := h1; unfold bookB at this; simp only [Bool.and_eq_true] at this; simpa [inB] using this.1.1.1
 simp only [h1] at hgb
 have hg1 := fun (wx : World) (hx : Below w.heap.size w wx) => goodLine_any W A n cap A1 n1 c1 l1 wx hW.1 hW.2 hn1 (rdB hr1 hx)
 have hg2 := fun (wx : World) (hx : Below w.heap.size w wx) => goodLine_any W A n cap A2 n2 c2 l2 wx hW.1 hW.2 hn2 (rdB hr2 hx)
 simp only [h2] at hg1
 simp only [h3] at hg2
 obtain ⟨s1, s2⟩ := ln_small hW h2
 obtain ⟨t1, t2⟩ := ln_small hW h3
 have hz1 : l1.length = n1 := by simpa using hr1.len
 have hz2 : l2.length = n2 := by simpa using hr2.len
 have hl1 := fun (wx : World) (hx : Below w.heap.size w wx) => lineOf_any A1 n1 c1 l1 wx (by omega) (fun x h => by have := s2 x h; omega) (rdB hr1 hx)
 have hl2 := fun (wx : World) (hx : Below w.heap.size w wx) => lineOf_any A2 n2 c2 l2 wx (by omega) (fun x h => by have := t2 x h; omega) (rdB hr2 hx)
 have hb1 : (lbS l1).size ≤ 4 := by rw [lbS_size]; exact s1
 have hb2 : (lbS l2).size ≤ 4 := by rw [lbS_size]; exact t1
 obtain ⟨S1, hS1⟩ : ∃ S, S = lbS l1 := ⟨_, rfl⟩
 obtain ⟨S2, hS2⟩ : ∃ S, S = lbS l2 := ⟨_, rfl⟩
 rw [← hS1] at hl1 hb1
 rw [← hS2] at hl2 hb2
 have HGB := Lib.hid hgb; have HG1 := Lib.hid hg1; have HG2 := Lib.hid hg2; have HL1 := Lib.hid hl1; have HL2 := Lib.hid hl2; have HS1 := Lib.hid hS1; have HS2 := Lib.hid hS2; clear hgb hg1 hg2 h1 h2 h3 hl1 hl2 hz1 hz2 s1 s2 t1 t2 hS1 hS2
 have HCH := Lib.hid (fun (mb : Nat) (wx : World) (h : Memo wx mb 0) => steps_any S1 S2 mb 0 wx (by omega) (by omega) h (by have := Nat.mul_le_mul (show S1.size + S2.size + 1 ≤ 9 by omega) (Nat.mul_le_mul_left 4 (KK_mono (show S1.size + S2.size ≤ 8 by omega))); rw [KK_8] at this; unfold maxLen; omega))
 go_enter Tryz.func32, Tryz.ntmps32
 go_wp2_with fail
 refine (HGB.out _ hB).mono ?_; rintro e w1 ⟨rfl, hb⟩; replace hX := hX.below hb hX.lt; replace hB := hB.trans (hb.mono hB.size); clear hb qX; have qX := fun i => hX.cell i
 go_wp2_with fail
 refine (HG1.out _ hB).mono ?_; rintro e w1 ⟨rfl, hb⟩; replace hX := hX.below hb hX.lt; replace hB := hB.trans (hb.mono hB.size); clear hb qX; have qX := fun i => hX.cell i
 go_wp2_with fail
 refine (HG2.out _ hB).mono ?_; rintro e w2 ⟨rfl, hb⟩; replace hX := hX.below hb hX.lt; replace hB := hB.trans (hb.mono hB.size); clear hb qX
 go_wp2_with fail
 have hm := Memo.made w2
 have hmB := hB.size
 replace hB := hB.alloc hB.size (.map #[] 0)
 refine (HL1.out _ hB).mono ?_; rintro e w3 ⟨rfl, hb⟩; replace hm := hm.below hb; replace hB := hB.trans (hb.mono hB.size); clear hb
 go_wp2_with fail
 refine (HL2.out _ hB).mono ?_; rintro e w4 ⟨rfl, hb⟩; replace hm := hm.below hb; replace hB := hB.trans (hb.mono hB.size); clear hb
 go_wp2_with fail
 refine (HCH.out _ _ hm).mono ?_; rintro e w5 ⟨v, rfl, hrow, hg⟩; obtain ⟨va, vc, rfl⟩ := own_slice hrow; replace hrow := own_mono hrow hB.size; replace hB := below_gb hB hg hmB hB.size; clear hg
 go_wp2_with fail
 go_ret2
 exact ⟨⟨_, rfl, by rw [← HS1.out, ← HS2.out]; exact hrow⟩, hB⟩
end
section
open Go.RowKit Go.Lib Go.Maps
theorem info132 : (Tryz.prog.info? 132).map (fun i => (i.zero, i.size, i.bytes)) = some (some (.agg #[.int .i64 0, .slice none 0 0, .int .i64 0, .map none]), 4, 48) := by kernel_rfl
def olC (W : Int) (A : Option Addr) (n cap mb k : Nat) : List Value := [.int .i64 W, .slice A n cap, .int .i64 (k : Int), .map (some mb)]
theorem each_any (W : Int) (A : Option Addr) (n cap : Nat) (cs : List VC) (w : World) (hn : 1 ≤ n) (hr : Rd w w.heap.size 1 A n (cs.map VC.val)) (hc : ∀ c ∈ cs, c.ok w w.heap.size) (hh : headN cs ≤ 100) :
  Calls Tryz.prog 142 #[.agg #[.int .i64 W, .slice A n cap]] w fun e w' => ∃ v mb, e = .returned v ∧ w.heap.size ≤ mb ∧ Memo w' mb 0 ∧ w'.ownsRow w.heap.size 132 4 v (headN cs) ((List.range (headN cs)).flatMap (olC W A n cap mb)) ∧ Below w.heap.size w w' := by
 obtain ⟨i132, hi, hz0, hz1', hz2'⟩ := info_parts info132
 have hmm := @run_makeMap Tryz.prog
 have hB0 : Below w.heap.size w (w.alloc (.cells #[.int .i64 W, .slice A n cap] 24)) := (Below.refl _ w).alloc (Nat.le_refl _) _
 have hX := (Blk.new w 24 #[.int .i64 W, .slice A n cap]).alloc (.map #[] 0)
 have qX := fun i => hX.cell i
 have hm := Memo.made (w.alloc (.cells #[.int .i64 W, .slice A n cap] 24))
 have hB : Below w.heap.size w ((w.alloc (.cells #[.int .i64 W, .slice A n cap] 24)).alloc (.map #[] 0)) := hB0.alloc hB0.size _
 have hlc := fun (wx : World) (hx : Below w.heap.size w wx) => lineCount_any W A n cap cs wx hn (rdB hr hx) (fun c h => okB (hc c h) hx)
 obtain ⟨L, hL⟩ : ∃ L, L = headN cs := ⟨_, rfl⟩
 rw [← hL] at hh hlc ⊢
 have HLC := Lib.hid hlc; clear hlc hB0 hL
 go_enter Tryz.func142, Tryz.ntmps142
 go_wp2_with (go_at_call 126; refine (HLC.out _ hB).mono ?_; rintro e w1 ⟨rfl, hb⟩; replace hX := hX.below hb hX.lt; replace hm := hm.below hb; replace hB := hB.trans (hb.mono hB.size); clear hb qX; have qX := fun i => hX.cell i)
 go_loopg [3, 9] L (fun g v i wr => ∃ (k : Nat) (v0 : Value), g = L - k ∧ k ≤ L ∧ v = v0 ∧ i = .int .i64 k ∧ wr.ownsRow w.heap.size 132 4 v0 k ((List.range k).flatMap (olC W A n cap (w.heap.size + 1))) ∧ Blk wr w.heap.size 24 #[.int .i64 W, .slice A n cap] ∧ Memo wr (w.heap.size + 1) 0 ∧ Below w.heap.size w wr)
 case atStart => exact ⟨0, _, rfl, Nat.zero_le _, rfl, rfl, World.ownsRow_nil _ _ _ _, hX, by simpa using hm, hB⟩
 case round =>
  clear hX qX hm hB
  obtain ⟨k, v0, hg, hk, rfl, rfl, hown, hX, hm, hB⟩ := hrel
  rename World => wr
  obtain ⟨va, vc, rfl⟩ := own_slice hown
  have HG := Lib.hid hg; clear hg
  have qX := fun i => hX.cell i
  by_cases hlt : k < L
  ·have hlti : (k : Int) < L := by omega
   have hap : (List.range (k + 1)).flatMap (olC W A n cap (w.heap.size + 1)) = (List.range k).flatMap (olC W A n cap (w.heap.size + 1)) ++ [.int .i64 W, .slice A n cap, .int .i64 (k : Int), .map (some (w.heap.size + 1))] := by rw [List.range_succ, List.flatMap_append]; rfl
   have HAP := Lib.hid hap; clear hap
   generalize (List.range k).flatMap (olC W A n cap (w.heap.size + 1)) = ys at *
   have hl := hm.lt
   go_wp2_with (at_builtin; refine wpList_append_any _ rfl _ _ 199 rfl w.heap.size 132 i132 (.agg #[.int .i64 0, .slice none 0 0, .int .i64 0, .map none]) 4 48 Tryz.underlying199 hi hz0 hz1' hz2' rfl (by decide) (.slice va k vc) k ys rfl (hown.alloc (.cells #[.int .i64 W, .slice A n cap, .int .i64 (k : Int), .map (some (w.heap.size + 1))] 132)) (wr.heap.size + 1) (some ⟨wr.heap.size, 0, none⟩) 1 1 [.int .i64 W, .slice A n cap, .int .i64 (k : Int), .map (some (w.heap.size + 1))] rfl (Rd.blkN (Blk.new wr 132 #[.int .i64 W, .slice A n cap, .int .i64 (k : Int), .map (some (w.heap.size + 1))]) rfl (by omega)).reads (by simp [Value.oneCell']) (by unfold maxLen; omega) (by omega) (by have := hB.size; simp only [World.size_alloc]; omega) (fun v' w' hown' hgrow hob => ?_))
   have hB2 := (hB.alloc hB.size (.cells #[.int .i64 W, .slice A n cap, .int .i64 (k : Int), .map (some (w.heap.size + 1))] 132)).grown hgrow (by have := hB.size; simp only [World.size_alloc]; omega) (fun g hg => ((hown.alloc (.cells #[.int .i64 W, .slice A n cap, .int .i64 (k : Int), .map (some (w.heap.size + 1))] 132)).lt g hg).1)
   have hX2 := (hX.alloc (.cells #[.int .i64 W, .slice A n cap, .int .i64 (k : Int), .map (some (w.heap.size + 1))] 132)).kept_own (hown.alloc (.cells #[.int .i64 W, .slice A n cap, .int .i64 (k : Int), .map (some (w.heap.size + 1))] 132)) (by decide) hgrow
   have hm2 := (hm.alloc (.cells #[.int .i64 W, .slice A n cap, .int .i64 (k : Int), .map (some (w.heap.size + 1))] 132)).kept hgrow (by
     intro e
     have hh := hown.alloc (.cells #[.int .i64 W, .slice A n cap, .int .i64 (k : Int), .map (some (w.heap.size + 1))] 132)
     rcases hh.2 with ⟨h1, _⟩ | ⟨g, cp, cur, h1, _, h3, _⟩
     · rw [h1] at e; cases e
     · rw [h1] at e
       injection e with e
       obtain ⟨D, hD, _⟩ := hm.alloc (.cells #[.int .i64 W, .slice A n cap, .int .i64 (k : Int), .map (some (w.heap.size + 1))] 132)
       obtain ⟨es, c, hmap, _⟩ := hD
       have e' : w.heap.size + 1 = g := e
       rw [← e'] at h3
       rw [hmap] at h3
       cases h3)
   go_roundg (L - (k + 1))
   case measure => rw [HG.out]; omega
   case rel => exact ⟨k + 1, v', rfl, by omega, rfl, by go_num, by rw [HAP.out]; exact hown', hX2, hm2, hB2⟩
  ·obtain rfl : k = L := by omega
   have hge : ¬ (k : Int) < k := by omega
   go_wp2_with fail
   go_ret
   exact ⟨_, rfl, _, Nat.le_succ _, hm, hown, hB⟩
end
section
open Go.RowKit Go.Lib Go.Maps
def edO (q : Nat) (l : ByteArray) (c : VC) : List Int := match c.ls[q]? with | some v => if v.lost then [] else [(edB l (lbS v.ws) : Int)] | none => []
def olL (q : Nat) (l : ByteArray) (cs : List VC) : List Int := cs.flatMap (edO q l)
theorem edO_len (q : Nat) (l : ByteArray) (c : VC) : (edO q l c).length ≤ 1 := by
 unfold edO
 split
 ·split <;> simp
 ·simp
theorem olL_len (q : Nat) (l : ByteArray) : ∀ cs : List VC, (olL q l cs).length ≤ cs.length
 | [] => Nat.le_refl _
 | c :: cs => by
  have h := olL_len q l cs
  have h1 := edO_len q l c
  unfold olL at h ⊢
  rw [List.flatMap_cons, List.length_append, List.length_cons]
  omega
theorem olL_snoc (q : Nat) (l : ByteArray) (cs : List VC) (c : VC) : olL q l (cs ++ [c]) = olL q l cs ++ edO q l c := by unfold olL; rw [List.flatMap_append]; simp
theorem olChanges_any (W : Int) (A : Option Addr) (n cap : Nat) (cs : List VC) (q mb N' B : Nat) (l : ByteArray) (w : World) (hn : n ≤ 5) (hBm : B ≤ mb) (hr : Rd w B 1 A n (cs.map VC.val)) (hc : ∀ c ∈ cs, c.ok w B) (hq : ∀ c ∈ cs, q < c.n) (hq5 : q ≤ 100) (hl : l.size ≤ 4)
  (hws : ∀ c ∈ cs, ∀ v ∈ c.ls, v.ws.length ≤ 4 ∧ ∀ x ∈ v.ws, 0 ≤ x ∧ x ≤ 255) (hm : Memo w mb N') (hN : N' + 5 * KK 8 ≤ maxLen) :
  Calls Tryz.prog 181 #[.agg #[.int .i64 W, .slice A n cap, .int .i64 (q : Int), .map (some mb)], .string l] w fun e w' => e = .returned (.int .i64 (sumI (olL q l cs))) ∧ Memo w' mb (N' + n * KK 8) ∧ GB w.heap.size mb w w' := by
 obtain ⟨i3, hi, hz0, hz1', hz2'⟩ := info_parts info3
 have hmb := hm.lt
 have hlen : cs.length = n := by simpa using hr.len
 obtain ⟨K, hK⟩ : ∃ K, K = KK 8 := ⟨_, rfl⟩
 rw [← hK] at hN ⊢
 have HK := Lib.hid hK; clear hK
 have hX := Blk.new w 132 #[.int .i64 W, .slice A n cap, .int .i64 (q : Int), .map (some mb)]
 have qX := fun i => hX.cell i
 have hG : GB w.heap.size mb w (w.alloc (.cells #[.int .i64 W, .slice A n cap, .int .i64 (q : Int), .map (some mb)] 132)) := (GB.refl _ _ _).alloc (Nat.le_refl _) _
 have hm0 := hm.alloc (.cells #[.int .i64 W, .slice A n cap, .int .i64 (q : Int), .map (some mb)] 132)
 obtain ⟨S, hS⟩ : ∃ S, S = sumI (olL q l cs) := ⟨_, rfl⟩
 rw [← hS]
 have HL := Lib.hid hlen; have HS := Lib.hid hS; have HWS := Lib.hid hws; have HQ := Lib.hid hq; have HC := Lib.hid hc; clear hlen hS hws hq hc hm
 go_enter Tryz.func181, Tryz.ntmps181
 go_wp2_with fail
 clear qX
 go_loopg [5, 12] n (fun g v i wr => ∃ (k j : Nat) (v0 : Value), g = n - k ∧ k ≤ n ∧ v = v0 ∧ i = .int .i64 k ∧ Hid (j = (olL q l (cs.take k)).length) ∧ j ≤ k ∧ wr.ownsRow w.heap.size 3 1 v0 j ((olL q l (cs.take k)).map (Value.int .i64)) ∧ Blk wr w.heap.size 132 #[.int .i64 W, .slice A n cap, .int .i64 (q : Int), .map (some mb)] ∧ Memo wr mb (N' + k * K) ∧ GB w.heap.size mb w wr)
 case atStart => exact ⟨0, 0, _, rfl, Nat.zero_le _, rfl, rfl, Lib.hid rfl, Nat.le_refl _, World.ownsRow_nil _ _ _ _, hX, by rw [Nat.zero_mul, Nat.add_zero]; exact hm0, hG⟩
 case round =>
  clear hX hm0 hG
  obtain ⟨k, j, v0, hg, hk, rfl, rfl, hj, hjk, hown, hX, hm, hG⟩ := hrel
  rename World => wr
  obtain ⟨va, vcp, rfl⟩ := own_slice hown
  have HG := Lib.hid hg; clear hg
  have qX := fun i => hX.cell i
  have hBB : ∀ wx, GB w.heap.size mb w wx → Below B w wx := fun wx h => h.below hBm (by omega)
  by_cases hlt : k < n
  ·have hlti : (k : Int) < n := by omega
   obtain ⟨b, off, hz, rfl, hb, hcell⟩ := (hr.below (hBB _ hG)).atm hlt
   have htk : cs.take (k + 1) = cs.take k ++ [cs[k]] := List.take_succ_eq_append_getElem hz
   have hin := List.getElem_mem hz
   generalize cs[k] = c at *
   have hco := HC.out c hin
   have hqn := HQ.out c hin
   have hwc := HWS.out c hin
   obtain ⟨cA, cn, cc, vls⟩ := c
   obtain ⟨c1, c2, c3, c4⟩ := hco
   dsimp only at c1 c2 c3 c4 hqn hwc
   simp only [VC.val] at hcell
   have hq1 : (q : Int) < cn := by omega
   obtain ⟨b2, off2, hz2, rfl, hb2, hv0, hv1⟩ := (c4.below (hBB _ hG)).at2 hqn
   have hcl : ∀ wx, GB w.heap.size mb w wx → wx.cell? ⟨b2, off2 + q * 2 + 1, none⟩ = some (.slice vls[q].A vls[q].n vls[q].cap) := fun wx h => by
    obtain ⟨b3, off3, _, e, _, _, h3⟩ := (c4.below (hBB _ h)).at2 hqn
    cases e
    exact h3
   have hvin := List.getElem_mem hz2
   have hvok := c3 _ hvin
   have hvw := hwc _ hvin
   have hedo : edO q l ⟨some ⟨b2, off2, none⟩, cn, cc, vls⟩ = if vls[q].lost then [] else [(edB l (lbS vls[q].ws) : Int)] := by
    unfold edO
    simp only [List.getElem?_eq_getElem hz2]
   generalize vls[q] = v at *
   obtain ⟨lost, vA, vn, vc, vws⟩ := v
   dsimp only at hv0 hv1 hcl hvok hvw hedo
   obtain ⟨v1, v2, v3⟩ := hvok
   dsimp only at v1 v2 v3
   have hvl : vws.length = vn := by simpa using v3.len
   have hap := olL_snoc q l (cs.take k) ⟨some ⟨b2, off2, none⟩, cn, cc, vls⟩
   rw [← htk, hedo] at hap
   have HCL := Lib.hid hcl; have HVW := Lib.hid hvw.2; have HAP := Lib.hid hap; have HJ := Lib.hid hj.out
   have HVR : Hid (∀ wx, GB w.heap.size mb w wx → Rd wx B 1 vA vn (vws.map (Value.int .i64))) := Lib.hid fun wx h => v3.below (hBB _ h)
   have hvn : vn ≤ 4 := by rw [← hvl]; exact hvw.1
   have HSZ : Hid (l.size + (lbS vws).size ≤ 8 ∧ l.size ≤ 1000 ∧ (lbS vws).size ≤ 1000) := Lib.hid (by rw [lbS_size, hvl]; omega)
   have hkK : k * K + K ≤ 5 * K := by
    have : (k + 1) * K ≤ 5 * K := Nat.mul_le_mul_right _ (by omega)
    rwa [Nat.add_mul, Nat.one_mul] at this
   have HKL : Hid (N' + k * K + KK 8 ≤ maxLen) := Lib.hid (by rw [← HK.out]; omega)
   have hkk1 : N' + k * K + K = N' + (k + 1) * K := by rw [Nat.add_mul, Nat.one_mul]; omega
   have HKK := Lib.hid hkk1
   clear htk hin
   obtain ⟨ys, hys⟩ : ∃ ys, ys = (olL q l (cs.take k)).map (Value.int .i64) := ⟨_, rfl⟩
   rw [← hys] at hown
   have HYS := Lib.hid hys
   clear hys hj hap hedo hvw hvl hz2 hvin c3 c4 hwc hcl hkk1 hkK v3 hz
   cases lost
   ·obtain ⟨ed0, hed⟩ : ∃ ed0, ed0 = edB l (lbS vws) := ⟨_, rfl⟩
    have HED := Lib.hid hed; clear hed
    go_upto_region 6 with fail
    clear qX
    rename World => WR
    refine wp_region_G (fun w' => Blk w' w.heap.size 132 #[.int .i64 W, .slice (some ⟨b, off, none⟩) n cap, .int .i64 (q : Int), .map (some mb)] ∧ w'.cell? ⟨b2, off2 + q * 2 + 1, none⟩ = some (.slice vA vn vc)) 15 (by kernel_rfl) ?_
    replace hX := hX.drew; replace hown := hown.drew; replace hm : Memo WR.drew mb (N' + k * K) := hm; replace hG := hG.drew
    generalize WR.drew = WD at *
    have hTT : Blk WD w.heap.size 132 #[.int .i64 W, .slice (some ⟨b, off, none⟩) n cap, .int .i64 (q : Int), .map (some mb)] ∧ WD.cell? ⟨b2, off2 + q * 2 + 1, none⟩ = some (.slice vA vn vc) := ⟨hX, HCL.out _ hG⟩
    refine tk 0 (v := ?_) rfl (Or.inl ⟨by rfl, ?h⟩) hTT ?_
    case h => intro wq hSw; have q0 := fun i => hSw.1.cell i; have q2 := hSw.2; go_simp <;> with_reducible rfl
    simp only [LS, Act.put]
    refine tk 1 (v := ?_) rfl (Or.inl ⟨by rfl, ?h⟩) hTT ?_
    case h => intro wq hSw; have q0 := fun i => hSw.1.cell i; have q2 := hSw.2; go_simp <;> with_reducible rfl
    simp only [LS, Act.put]
    refine tk 2 (v := ?_) rfl (Or.inl ⟨by rfl, ?h⟩) hTT ?_
    case h => intro wq hSw; have q0 := fun i => hSw.1.cell i; have q2 := hSw.2; go_simp <;> with_reducible rfl
    simp only [LS, Act.put]
    refine tk 3 (v := ?_) rfl (Or.inl ⟨by rfl, ?h⟩) hTT ?_
    case h => intro wq hSw; have q0 := fun i => hSw.1.cell i; have q2 := hSw.2; go_simp <;> with_reducible rfl
    simp only [LS, Act.put]
    refine tk 4 (v := ?_) rfl (Or.inl ⟨by rfl, ?h⟩) hTT ?_
    case h => intro wq hSw; have q0 := fun i => hSw.1.cell i; have q2 := hSw.2; go_simp <;> with_reducible rfl
    simp only [LS, Act.put]
    refine tk 5 (v := ?_) rfl (Or.inl ⟨by rfl, ?h⟩) hTT ?_
    case h => intro wq hSw; have q0 := fun i => hSw.1.cell i; have q2 := hSw.2; go_simp <;> with_reducible rfl
    simp only [LS, Act.put]
    refine tk 6 (v := ?_) rfl (Or.inl ⟨by rfl, ?h⟩) hTT ?_
    case h => intro wq hSw; have q0 := fun i => hSw.1.cell i; have q2 := hSw.2; go_simp <;> with_reducible rfl
    simp only [LS, Act.put]
    refine tk 7 (v := ?_) rfl (Or.inl ⟨by rfl, ?h⟩) hTT ?_
    case h => intro wq hSw; have q0 := fun i => hSw.1.cell i; have q2 := hSw.2; go_simp <;> with_reducible rfl
    simp only [LS, Act.put]
    refine tk 8 (v := ?_) rfl (Or.inl ⟨by rfl, ?h⟩) hTT ?_
    case h => intro wq hSw; have q0 := fun i => hSw.1.cell i; have q2 := hSw.2; go_simp <;> with_reducible rfl
    simp only [LS, Act.put]
    refine tk 9 (v := ?_) rfl (Or.inl ⟨by rfl, ?h⟩) hTT ?_
    case h => intro wq hSw; have q0 := fun i => hSw.1.cell i; have q2 := hSw.2; go_simp <;> with_reducible rfl
    simp only [LS, Act.put]
    refine o1 10 rfl fun K hK => ?_
    go_simp
    refine (lineOf_any vA vn vc vws _ (by omega) HVW.out ((HVR.out _ hG).more (by have := hX.lt; omega))).mono ?_
    rintro e w1 ⟨rfl, hb⟩
    replace hX := hX.below hb hX.lt; replace hown := ownsRow_below' hown hb; replace hm := hm.below hb; replace hG := hG.call (GB.of_below hb) hG.size; replace hTT := And.intro hX (HCL.out _ hG); clear hb
    refine hK _ _ (.inr hTT) ?_
    clear hK K
    try simp only [LS, Act.put]
    refine tk 11 (v := ?_) rfl (Or.inl ⟨by rfl, ?h⟩) hTT ?_
    case h => intro wq hSw; have q0 := fun i => hSw.1.cell i; have q2 := hSw.2; go_simp <;> with_reducible rfl
    simp only [LS, Act.put]
    refine o1 12 rfl fun K hK => ?_
    go_simp
    refine (changes_any 8 l (lbS vws) mb _ _ HSZ.out.1 HSZ.out.2.1 HSZ.out.2.2 hm HKL.out).mono ?_
    rintro e w2 ⟨rfl, hm1, hg⟩
    replace hX := hX.gb hg (by omega); replace hown := own_gb hown hg hmb; replace hG := hG.call hg hG.size; replace hTT := And.intro hX (HCL.out _ hG); clear hg hm
    rw [← HED.out]
    refine hK _ _ (.inr hTT) ?_
    clear hK K
    try simp only [LS, Act.put]
    refine o1 13 rfl fun K hK => ?_
    go_simp
    replace hX := hX.alloc (.cells #[.int .i64 (ed0 : Int)] 3); replace hown := hown.alloc (.cells #[.int .i64 (ed0 : Int)] 3); replace hm1 := hm1.alloc (.cells #[.int .i64 (ed0 : Int)] 3); replace hG := hG.alloc hG.size (.cells #[.int .i64 (ed0 : Int)] 3); replace hTT := And.intro hX (HCL.out _ hG)
    have hn3 := Blk.new w2 3 #[.int .i64 (ed0 : Int)]
    refine hK _ _ (.inr hTT) ?_
    clear hK K
    try simp only [LS, Act.put]
    refine o1 14 rfl fun K hK => ?_
    rw [if_pos (by rfl)]
    refine wp_append_any _ _ _ 25 rfl w.heap.size 3 i3 (.int .i64 0) 1 8 Tryz.underlying25 hi hz0 hz1' hz2' rfl (by decide) (.slice va j vcp) j ys rfl hown (w2.heap.size + 1) (some ⟨w2.heap.size, 0, none⟩) 1 1 [.int .i64 (ed0 : Int)] rfl (Rd.blkN hn3 rfl (Nat.lt_succ_self _)).reads (by simp [Value.oneCell']) (by unfold maxLen; omega) (by omega) (by have := hG.size; omega) (fun v' w' hown' hgrow hob => ?_)
    have hX' := hX.kept_own hown (by decide) hgrow
    have hm' := hm1.kept hgrow (fun e => by have := (hown.lt mb e.symm).1; omega)
    have hG' := GB.row hG hgrow hG.size (fun k hk => (hown.lt k hk).1)
    replace hTT := And.intro hX' (HCL.out _ hG')
    refine hK _ _ (.inr hTT) ?_
    clear hK K
    try simp only [LS, Act.put]
    refine o1 15 rfl fun K hK => ?_
    go_simp
    refine hK _ _ (.inl rfl) ?_
    clear hK K
    try simp only [LS, Act.put]
    refine wpG_done (by kernel_rfl) ?_ _
    clear hTT
    go_wp2_with fail
    go_roundg (n - (k + 1))
    case measure => rw [HG.out]; omega
    case rel => exact ⟨k + 1, j + 1, v', rfl, by omega, rfl, by go_num, Lib.hid (by rw [HAP.out, List.length_append, ← HJ.out]; rfl), by omega, by rw [HAP.out, List.map_append, ← HYS.out, HED.out] at *; exact hown', hX', by rw [← HKK.out, HK.out] at *; exact hm', hG'⟩
   ·go_wp2_with fail
    go_roundg (n - (k + 1))
    case measure => rw [HG.out]; omega
    case rel => exact ⟨k + 1, j, _, rfl, by omega, rfl, by go_num, Lib.hid (by rw [HAP.out, List.length_append, ← HJ.out]; rfl), by omega, by rw [HAP.out, List.map_append, ← HYS.out]; simpa using hown, hX, hm.mono (by rw [← HKK.out]; omega), hG⟩
  ·obtain rfl : k = n := by omega
   have hge : ¬ (k : Int) < k := by omega
   have htk : cs.take k = cs := List.take_of_length_le (by rw [HL.out]; exact Nat.le_refl _)
   rw [htk] at hown
   have hsum := fun wx (hx : wx.ownsRow w.heap.size 3 1 (.slice va j vcp) j ((olL q l cs).map (Value.int .i64))) => sum_any va j vcp (olL q l cs) wx (by omega) (fun x hx => by
     obtain ⟨c, hc, hx⟩ := List.mem_flatMap.1 hx
     unfold edO at hx
     split at hx
     · rename_i v hv
       split at hx
       · cases hx
       · have := List.mem_singleton.1 hx
         have h1 := edB_le l (lbS v.ws)
         have h2 := (HWS.out c hc v (List.mem_of_getElem? hv)).1
         rw [lbS_size] at h1
         omega
     · cases hx) (Rd.of_own hx)
   rw [← HS.out] at hsum
   have HSUM := Lib.hid hsum; clear hsum htk
   go_wp2_with (go_at_call 98; refine (HSUM.out _ hown).mono ?_; rintro e w1 ⟨rfl, rfl⟩)
   go_ret
   exact ⟨rfl, hm, hG⟩
end
section
open Go.RowKit Go.Lib Go.Maps
def cgO (p : ByteArray × VL) : List Int := if p.2.lost then [] else [(edB p.1 (lbS p.2.ws) : Int)]
theorem cgO_len (p : ByteArray × VL) : (cgO p).length ≤ 1 := by unfold cgO; split <;> simp
def cgL (z : List (ByteArray × VL)) : List Int := z.flatMap cgO
theorem cgL_len : ∀ z : List (ByteArray × VL), (cgL z).length ≤ z.length
 | [] => Nat.le_refl _
 | c :: cs => by
  have h := cgL_len cs
  have h1 := cgO_len c
  unfold cgL at h ⊢
  rw [List.flatMap_cons, List.length_append, List.length_cons]
  omega
theorem cgL_snoc (z : List (ByteArray × VL)) (p : ByteArray × VL) : cgL (z ++ [p]) = cgL z ++ cgO p := by unfold cgL; rw [List.flatMap_append]; simp
theorem copiedChanges_any (W : Int) (A : Option Addr) (n cap : Nat) (cs : List VC) (tA : Option Addr) (tn tc q mb N' B lbase : Nat) (c : VC) (lA : Option Addr) (lc : Nat) (ls : List ByteArray) (w : World) (hBm : B ≤ mb) (hr : Rd w B 1 A n (cs.map VC.val)) (hc : ∀ c ∈ cs, c.ok w B) (hqn : q < n) (hq : cs[q]? = some c) (hn4 : c.n ≤ 5) (hll : ls.length = c.n) (hl4 : ∀ l ∈ ls, l.size ≤ 4)
  (hws : ∀ v ∈ c.ls, v.ws.length ≤ 4 ∧ ∀ x ∈ v.ws, 0 ≤ x ∧ x ≤ 255) (hlo : w.ownsRow lbase 121 1 (.slice lA c.n lc) c.n (ls.map Value.string)) (hml : mb < lbase) (hm : Memo w mb N') (hN : N' + 5 * KK 8 ≤ maxLen) :
  Calls Tryz.prog 150 #[.agg #[.int .i64 W, .slice A n cap, .slice tA tn tc, .map (some mb)], .slice lA c.n lc, .int .i64 (q : Int)] w fun e w' => e = .returned (.int .i64 (sumI (cgL (ls.zip c.ls)))) ∧ Memo w' mb (N' + c.n * KK 8) ∧ GB w.heap.size mb w w' := by
 obtain ⟨i3, hi, hz0, hz1', hz2'⟩ := info_parts info3
 have hmb := hm.lt
 obtain ⟨b, off, hz, rfl, hb, hcell⟩ := hr.atm hqn
 have hce : cs[q] = c := by rw [List.getElem?_eq_getElem hz] at hq; injection hq
 rw [hce] at hcell
 obtain ⟨c1, c2, c3, c4⟩ := hc c (List.mem_of_getElem? hq)
 obtain ⟨cA, cn, cc, vls⟩ := c
 dsimp only at c1 c2 c3 c4 hn4 hll hws hlo ⊢
 simp only [VC.val] at hcell
 have hvll := c4.len2
 obtain ⟨Z, hZ⟩ : ∃ Z, Z = ls.zip vls := ⟨_, rfl⟩
 rw [← hZ]
 have hZl : Z.length = cn := by rw [hZ, List.length_zip]; omega
 obtain ⟨K, hK⟩ : ∃ K, K = KK 8 := ⟨_, rfl⟩
 rw [← hK] at hN ⊢
 have HK := Lib.hid hK; clear hK
 have hX := Blk.new w 149 #[.int .i64 W, .slice (some ⟨b, off, none⟩) n cap, .slice tA tn tc, .map (some mb)]
 have qX := fun i => hX.cell i
 have hG : GB w.heap.size mb w (w.alloc (.cells #[.int .i64 W, .slice (some ⟨b, off, none⟩) n cap, .slice tA tn tc, .map (some mb)] 149)) := (GB.refl _ _ _).alloc (Nat.le_refl _) _
 have hm0 := hm.alloc (.cells #[.int .i64 W, .slice (some ⟨b, off, none⟩) n cap, .slice tA tn tc, .map (some mb)] 149)
 have hlo0 := hlo.alloc (.cells #[.int .i64 W, .slice (some ⟨b, off, none⟩) n cap, .slice tA tn tc, .map (some mb)] 149)
 have hcell0 := (hr.alloc (by omega) (.cells #[.int .i64 W, .slice (some ⟨b, off, none⟩) n cap, .slice tA tn tc, .map (some mb)] 149)).atm hqn
 have hcellW : (w.alloc (.cells #[.int .i64 W, .slice (some ⟨b, off, none⟩) n cap, .slice tA tn tc, .map (some mb)] 149)).cell? ⟨b, off + q, none⟩ = some (.slice cA cn cc) := Lib.cell?_alloc_some _ hcell
 have hqi : (q : Int) < n := by omega
 obtain ⟨S, hS⟩ : ∃ S, S = sumI (cgL Z) := ⟨_, rfl⟩
 rw [← hS]
 have HL := Lib.hid hZl; have HS := Lib.hid hS; have HWS := Lib.hid hws; have HL4 := Lib.hid hl4; have HZZ := Lib.hid hZ; have HLL := Lib.hid hll; have HVL := Lib.hid hvll; clear hZl hS hws hm hZ hll hvll hlo hl4 hce hcell0 hcell hq hz
 go_enter Tryz.func150, Tryz.ntmps150
 go_wp2_with fail
 clear qX hcellW
 go_loopg [7, 17] cn (fun g v i wr => ∃ (k j : Nat) (v0 : Value), g = cn - k ∧ k ≤ cn ∧ v = v0 ∧ i = .int .i64 k ∧ Hid (j = (cgL (Z.take k)).length) ∧ j ≤ k ∧ wr.ownsRow w.heap.size 3 1 v0 j ((cgL (Z.take k)).map (Value.int .i64)) ∧ Blk wr w.heap.size 149 #[.int .i64 W, .slice (some ⟨b, off, none⟩) n cap, .slice tA tn tc, .map (some mb)] ∧ wr.ownsRow lbase 121 1 (.slice lA cn lc) cn (ls.map Value.string) ∧ Memo wr mb (N' + k * K) ∧ GB w.heap.size mb w wr)
 case atStart => exact ⟨0, 0, _, rfl, Nat.zero_le _, rfl, rfl, Lib.hid rfl, Nat.le_refl _, World.ownsRow_nil _ _ _ _, hX, hlo0, by rw [Nat.zero_mul, Nat.add_zero]; exact hm0, hG⟩
 case round =>
  clear hX hm0 hG hlo0
  obtain ⟨k, j, v0, hg, hk, rfl, rfl, hj, hjk, hown, hX, hlo, hm, hG⟩ := hrel
  rename World => wr
  obtain ⟨va, vcp, rfl⟩ := own_slice hown
  have HG := Lib.hid hg; clear hg
  have qX := fun i => hX.cell i
  have hBB : ∀ wx, GB w.heap.size mb w wx → Below B w wx := fun wx h => h.below hBm (by omega)
  by_cases hlt : k < cn
  ·have hlti : (k : Int) < cn := by omega
   obtain ⟨b2, off2, hz2, rfl, hb2, hv0, hv1⟩ := (c4.below (hBB _ hG)).at2 hlt
   obtain ⟨lb, loff, hzl, rfl, hlb, hlcell⟩ := (Rd.of_own hlo).atm hlt
   have hlc : ∀ wx : World, wx.ownsRow lbase 121 1 (.slice (some ⟨lb, loff, none⟩) cn lc) cn (ls.map Value.string) → wx.cell? ⟨lb, loff + k, none⟩ = some (.string ls[k]) := fun wx h => by
    obtain ⟨b3, off3, _, e, _, h3⟩ := (Rd.of_own h).atm hlt
    cases e
    exact h3
   have hzk : k < Z.length := by rw [HL.out]; exact hlt
   have htk : Z.take (k + 1) = Z.take k ++ [Z[k]] := List.take_succ_eq_append_getElem hzk
   have hzz : Z[k] = (ls[k], vls[k]) := by rw [List.getElem_of_eq HZZ.out, List.getElem_zip]
   rw [hzz] at htk
   have hls := HL4.out _ (List.getElem_mem hzl)
   have hvin := List.getElem_mem hz2
   have hvok := c3 _ hvin
   have hvw := HWS.out _ hvin
   clear hzz hvin hzk
   generalize vls[k] = v at *
   generalize ls[k] = l at *
   obtain ⟨lost, vA, vn, vc, vws⟩ := v
   dsimp only at hv0 hv1 hvok hvw
   obtain ⟨v1, v2, v3⟩ := hvok
   dsimp only at v1 v2 v3
   have hvl : vws.length = vn := by simpa using v3.len
   have hap := cgL_snoc (Z.take k) (l, ⟨lost, vA, vn, vc, vws⟩)
   rw [← htk] at hap
   simp only [cgO] at hap
   have HLC := Lib.hid hlc; have HVW := Lib.hid hvw.2; have HAP := Lib.hid hap; have HJ := Lib.hid hj.out
   have HVR : Hid (∀ wx, GB w.heap.size mb w wx → Rd wx B 1 vA vn (vws.map (Value.int .i64))) := Lib.hid fun wx h => v3.below (hBB _ h)
   have hvn : vn ≤ 4 := by rw [← hvl]; exact hvw.1
   have HSZ : Hid (l.size + (lbS vws).size ≤ 8 ∧ l.size ≤ 1000 ∧ (lbS vws).size ≤ 1000) := Lib.hid (by rw [lbS_size, hvl]; omega)
   have hkK : k * K + K ≤ 5 * K := by
    have : (k + 1) * K ≤ 5 * K := Nat.mul_le_mul_right _ (by omega)
    rwa [Nat.add_mul, Nat.one_mul] at this
   have HKL : Hid (N' + k * K + KK 8 ≤ maxLen) := Lib.hid (by rw [← HK.out]; omega)
   have hkk1 : N' + k * K + K = N' + (k + 1) * K := by rw [Nat.add_mul, Nat.one_mul]; omega
   have HKK := Lib.hid hkk1
   obtain ⟨ys, hys⟩ : ∃ ys, ys = (cgL (Z.take k)).map (Value.int .i64) := ⟨_, rfl⟩
   rw [← hys] at hown
   have HYS := Lib.hid hys
   clear hys hj hap hvw hvl hz2 hlc hkk1 hkK v3 htk
   have hV := Blk.new wr 76 #[.bool lost, .slice vA vn vc]
   have qV := fun i => hV.cell i
   have hX1 := hX.alloc (.cells #[.bool lost, .slice vA vn vc] 76); have hlo1 := hlo.alloc (.cells #[.bool lost, .slice vA vn vc] 76); have hown1 := hown.alloc (.cells #[.bool lost, .slice vA vn vc] 76); have hm1 := hm.alloc (.cells #[.bool lost, .slice vA vn vc] 76); have hG1 := hG.alloc hG.size (.cells #[.bool lost, .slice vA vn vc] 76)
   obtain ⟨wsz, hwsz⟩ : ∃ s, s = wr.heap.size := ⟨_, rfl⟩
   have hws2 : w.heap.size ≤ wsz := by rw [hwsz]; exact hG.size
   cases lost
   ·obtain ⟨ed0, hed⟩ : ∃ ed0, ed0 = edB l (lbS vws) := ⟨_, rfl⟩
    have HED := Lib.hid hed; clear hed
    go_upto_region 6 with fail
    clear qX qV hX hlo hown hm hG hlcell hv0 hv1
    have hX := hX1; have hlo := hlo1; have hown := hown1; have hm := hm1; have hG := hG1
    clear hX1 hlo1 hown1 hm1 hG1
    rw [← hwsz] at hV ⊢
    generalize wr.alloc (.cells #[.bool false, .slice vA vn vc] 76) = wr2 at *
    clear hwsz
    rename World => WR
    refine wp_region_G (fun w' => Blk w' w.heap.size 149 #[.int .i64 W, .slice (some ⟨b, off, none⟩) n cap, .slice tA tn tc, .map (some mb)] ∧ Blk w' wsz 76 #[.bool false, .slice vA vn vc] ∧ w'.cell? ⟨lb, loff + k, none⟩ = some (.string l)) 14 (by kernel_rfl) ?_
    replace hX := hX.drew; replace hV := hV.drew; replace hlo := hlo.drew; replace hown := hown.drew; replace hm : Memo WR.drew mb (N' + k * K) := hm; replace hG := hG.drew
    generalize WR.drew = WD at *
    have hTT : Blk WD w.heap.size 149 #[.int .i64 W, .slice (some ⟨b, off, none⟩) n cap, .slice tA tn tc, .map (some mb)] ∧ Blk WD wsz 76 #[.bool false, .slice vA vn vc] ∧ WD.cell? ⟨lb, loff + k, none⟩ = some (.string l) := ⟨hX, hV, HLC.out _ hlo⟩
    refine tk 0 (v := ?_) rfl (Or.inl ⟨by rfl, ?h⟩) hTT ?_
    case h => intro wq hSw; have q0 := fun i => hSw.1.cell i; have q1 := fun i => hSw.2.1.cell i; have q2 := hSw.2.2; go_simp <;> with_reducible rfl
    simp only [LS, Act.put]
    refine tk 1 (v := ?_) rfl (Or.inl ⟨by rfl, ?h⟩) hTT ?_
    case h => intro wq hSw; have q0 := fun i => hSw.1.cell i; have q1 := fun i => hSw.2.1.cell i; have q2 := hSw.2.2; go_simp <;> with_reducible rfl
    simp only [LS, Act.put]
    refine tk 2 (v := ?_) rfl (Or.inl ⟨by rfl, ?h⟩) hTT ?_
    case h => intro wq hSw; have q0 := fun i => hSw.1.cell i; have q1 := fun i => hSw.2.1.cell i; have q2 := hSw.2.2; go_simp <;> with_reducible rfl
    simp only [LS, Act.put]
    refine tk 3 (v := ?_) rfl (Or.inl ⟨by rfl, ?h⟩) hTT ?_
    case h => intro wq hSw; have q0 := fun i => hSw.1.cell i; have q1 := fun i => hSw.2.1.cell i; have q2 := hSw.2.2; go_simp <;> with_reducible rfl
    simp only [LS, Act.put]
    refine tk 4 (v := ?_) rfl (Or.inl ⟨by rfl, ?h⟩) hTT ?_
    case h => intro wq hSw; have q0 := fun i => hSw.1.cell i; have q1 := fun i => hSw.2.1.cell i; have q2 := hSw.2.2; go_simp <;> with_reducible rfl
    simp only [LS, Act.put]
    refine tk 5 (v := ?_) rfl (Or.inl ⟨by rfl, ?h⟩) hTT ?_
    case h => intro wq hSw; have q0 := fun i => hSw.1.cell i; have q1 := fun i => hSw.2.1.cell i; have q2 := hSw.2.2; go_simp <;> with_reducible rfl
    simp only [LS, Act.put]
    refine tk 6 (v := ?_) rfl (Or.inl ⟨by rfl, ?h⟩) hTT ?_
    case h => intro wq hSw; have q0 := fun i => hSw.1.cell i; have q1 := fun i => hSw.2.1.cell i; have q2 := hSw.2.2; go_simp <;> with_reducible rfl
    simp only [LS, Act.put]
    refine tk 7 (v := ?_) rfl (Or.inl ⟨by rfl, ?h⟩) hTT ?_
    case h => intro wq hSw; have q0 := fun i => hSw.1.cell i; have q1 := fun i => hSw.2.1.cell i; have q2 := hSw.2.2; go_simp <;> with_reducible rfl
    simp only [LS, Act.put]
    refine tk 8 (v := ?_) rfl (Or.inl ⟨by rfl, ?h⟩) hTT ?_
    case h => intro wq hSw; have q0 := fun i => hSw.1.cell i; have q1 := fun i => hSw.2.1.cell i; have q2 := hSw.2.2; go_simp <;> with_reducible rfl
    simp only [LS, Act.put]
    refine o1 9 rfl fun K hK => ?_
    go_simp
    refine (lineOf_any vA vn vc vws _ (by omega) HVW.out ((HVR.out _ hG).more (by have := hX.lt; omega))).mono ?_
    rintro e w1 ⟨rfl, hb⟩
    replace hX := hX.below hb hX.lt; replace hV := hV.below hb hV.lt; replace hlo := ownsRow_below' hlo hb; replace hown := ownsRow_below' hown hb; replace hm := hm.below hb; replace hG := hG.call (GB.of_below hb) hG.size; replace hTT := And.intro hX (And.intro hV (HLC.out _ hlo)); clear hb
    refine hK _ _ (.inr hTT) ?_
    clear hK K
    try simp only [LS, Act.put]
    refine tk 10 (v := ?_) rfl (Or.inl ⟨by rfl, ?h⟩) hTT ?_
    case h => intro wq hSw; have q0 := fun i => hSw.1.cell i; have q1 := fun i => hSw.2.1.cell i; have q2 := hSw.2.2; go_simp <;> with_reducible rfl
    simp only [LS, Act.put]
    refine o1 11 rfl fun K hK => ?_
    go_simp
    refine (changes_any 8 l (lbS vws) mb _ _ HSZ.out.1 HSZ.out.2.1 HSZ.out.2.2 hm HKL.out).mono ?_
    rintro e w2 ⟨rfl, hm1, hg⟩
    replace hX := hX.gb hg (by omega); replace hV := hV.gb hg (by omega); replace hlo := own_gb hlo hg hml; replace hown := own_gb hown hg hmb; replace hG := hG.call hg hG.size; replace hTT := And.intro hX (And.intro hV (HLC.out _ hlo)); clear hg hm
    rw [← HED.out]
    refine hK _ _ (.inr hTT) ?_
    clear hK K
    try simp only [LS, Act.put]
    refine o1 12 rfl fun K hK => ?_
    go_simp
    replace hX := hX.alloc (.cells #[.int .i64 (ed0 : Int)] 3); replace hV := hV.alloc (.cells #[.int .i64 (ed0 : Int)] 3); replace hlo := hlo.alloc (.cells #[.int .i64 (ed0 : Int)] 3); replace hown := hown.alloc (.cells #[.int .i64 (ed0 : Int)] 3); replace hm1 := hm1.alloc (.cells #[.int .i64 (ed0 : Int)] 3); replace hG := hG.alloc hG.size (.cells #[.int .i64 (ed0 : Int)] 3); replace hTT := And.intro hX (And.intro hV (HLC.out _ hlo))
    have hn3 := Blk.new w2 3 #[.int .i64 (ed0 : Int)]
    refine hK _ _ (.inr hTT) ?_
    clear hK K
    try simp only [LS, Act.put]
    refine o1 13 rfl fun K hK => ?_
    rw [if_pos (by rfl)]
    refine wp_append_any _ _ _ 25 rfl w.heap.size 3 i3 (.int .i64 0) 1 8 Tryz.underlying25 hi hz0 hz1' hz2' rfl (by decide) (.slice va j vcp) j ys rfl hown (w2.heap.size + 1) (some ⟨w2.heap.size, 0, none⟩) 1 1 [.int .i64 (ed0 : Int)] rfl (Rd.blkN hn3 rfl (Nat.lt_succ_self _)).reads (by simp [Value.oneCell']) (by unfold maxLen; omega) (by omega) (by have := hG.size; omega) (fun v' w' hown' hgrow hob => ?_)
    have hX' := hX.kept_own hown (by decide) hgrow
    have hV' := hV.kept_own hown (by decide) hgrow
    have hlo' := hlo.kept hgrow (own_ne hlo hown (by decide))
    have hm' := hm1.kept hgrow (fun e => by have := (hown.lt mb e.symm).1; omega)
    have hG' := GB.row hG hgrow hG.size (fun k hk => (hown.lt k hk).1)
    replace hTT := And.intro hX' (And.intro hV' (HLC.out _ hlo'))
    refine hK _ _ (.inr hTT) ?_
    clear hK K
    try simp only [LS, Act.put]
    refine o1 14 rfl fun K hK => ?_
    go_simp
    refine hK _ _ (.inl rfl) ?_
    clear hK K
    try simp only [LS, Act.put]
    refine wpG_done (by kernel_rfl) ?_ _
    clear hTT
    go_wp2_with fail
    go_roundg (cn - (k + 1))
    case measure => rw [HG.out]; omega
    case rel => exact ⟨k + 1, j + 1, v', rfl, by omega, rfl, by go_num, Lib.hid (by rw [HAP.out, List.length_append, ← HJ.out]; rfl), by omega, by rw [HAP.out, List.map_append, ← HYS.out, HED.out] at *; exact hown', hX', hlo', by rw [← HKK.out, HK.out] at *; exact hm', hG'⟩
   ·go_wp2_with fail
    go_roundg (cn - (k + 1))
    case measure => rw [HG.out]; omega
    case rel => exact ⟨k + 1, j, _, rfl, by omega, rfl, by go_num, Lib.hid (by rw [HAP.out, List.length_append, ← HJ.out]; rfl), by omega, by rw [HAP.out, List.map_append, ← HYS.out]; simpa using hown1, hX1, hlo1, hm1.mono (by rw [← HKK.out]; omega), hG1⟩
  ·obtain rfl : k = cn := by omega
   have hge : ¬ (k : Int) < k := by omega
   have htk : Z.take k = Z := List.take_of_length_le (by rw [HL.out]; exact Nat.le_refl _)
   rw [htk] at hown
   have hsum := fun wx (hx : wx.ownsRow w.heap.size 3 1 (.slice va j vcp) j ((cgL Z).map (Value.int .i64))) => sum_any va j vcp (cgL Z) wx (by omega) (fun x hx => by
     obtain ⟨p, hp, hx⟩ := List.mem_flatMap.1 hx
     rw [HZZ.out] at hp
     obtain ⟨l, v⟩ := p
     have hp1 := HL4.out l (List.of_mem_zip hp).1
     have hp2 := (HWS.out v (List.of_mem_zip hp).2).1
     unfold cgO at hx
     split at hx
     · cases hx
     · have := List.mem_singleton.1 hx
       have h1 := edB_le l (lbS v.ws)
       rw [lbS_size] at h1
       dsimp only at this
       omega) (Rd.of_own hx)
   rw [← HS.out] at hsum
   have HSUM := Lib.hid hsum; clear hsum htk
   go_wp2_with (go_at_call 98; refine (HSUM.out _ hown).mono ?_; rintro e w1 ⟨rfl, rfl⟩)
   go_ret
   exact ⟨rfl, hm, hG⟩
end
section
open Go.RowKit Go.Lib Go.Maps
theorem take_eq_succ {α : Type} {xs ys : List α} {k : Nat} (h1 : k < xs.length) (h2 : k < ys.length) (h : xs.take k = ys.take k) (he : xs[k] = ys[k]) : xs.take (k + 1) = ys.take (k + 1) := by
 rw [List.take_succ_eq_append_getElem h1, List.take_succ_eq_append_getElem h2, h, he]
theorem same_any (A : Option Addr) (n cap : Nat) (xs : List Int) (A2 : Option Addr) (n2 cap2 : Nat) (ys : List Int) (w : World) (hn : n ≤ 1000000) (hn2 : n2 ≤ 1000000) (hr : Rd w w.heap.size 1 A n (xs.map (Value.int .i64))) (hr2 : Rd w w.heap.size 1 A2 n2 (ys.map (Value.int .i64))) :
  Calls Tryz.prog 31 #[.slice A n cap, .slice A2 n2 cap2] w fun e w' => e = .returned (.bool (decide (xs = ys))) ∧ Below w.heap.size w w' := by
 have hl1 : xs.length = n := by simpa using hr.len
 have hl2 : ys.length = n2 := by simpa using hr2.len
 have HL1 := Lib.hid hl1; have HL2 := Lib.hid hl2; clear hl1 hl2
 by_cases hne : n = n2
 ·subst hne
  obtain ⟨R, hR⟩ : ∃ R, R = decide (xs = ys) := ⟨_, rfl⟩
  rw [← hR]
  have HR := Lib.hid hR; clear hR
  go_enter Tryz.func31, Tryz.ntmps31
  go_wp2_with fail
  go_loopg [5] n (fun g i wr => ∃ k : Nat, g = n - k ∧ k ≤ n ∧ i = .int .i64 k ∧ Hid (xs.take k = ys.take k) ∧ Below w.heap.size w wr)
  case atStart => exact ⟨0, rfl, Nat.zero_le _, rfl, Lib.hid rfl, Below.refl _ _⟩
  case round =>
   obtain ⟨k, hg, hk, rfl, hpre, hB⟩ := hrel
   rename World => wr
   have HG := Lib.hid hg; clear hg
   by_cases hlt : k < n
   ·have hlti : (k : Int) < n := by omega
    have hlt2 : k < n := hlt
    obtain ⟨b, off, hz, rfl, hb, hc1⟩ := (hr.below hB).atm hlt
    obtain ⟨b2, off2, hz2, rfl, hb2, hc2⟩ := (hr2.below hB).atm hlt
    have hsu := fun he => take_eq_succ hz hz2 hpre.out he
    have hno : xs[k] ≠ ys[k] → R = false := fun h => by
     rw [HR.out, decide_eq_false_iff_not]
     intro e
     exact h (List.getElem_of_eq e hz)
    have HSU := Lib.hid hsu; have HNO := Lib.hid hno; clear hsu hno
    generalize xs[k] = x at *
    generalize ys[k] = y at *
    clear hz hz2
    go_upto_region 6 with fail
    rename World => WR
    refine wp_region_G (fun w' => w'.cell? ⟨b, off + k, none⟩ = some (.int .i64 x) ∧ w'.cell? ⟨b2, off2 + k, none⟩ = some (.int .i64 y)) 9 (by kernel_rfl) ?_
    replace hB := hB.drew; replace hc1 : WR.drew.cell? ⟨b, off + k, none⟩ = _ := hc1; replace hc2 : WR.drew.cell? ⟨b2, off2 + k, none⟩ = _ := hc2
    generalize WR.drew = WD at *
    have hTT : WD.cell? ⟨b, off + k, none⟩ = some (.int .i64 x) ∧ WD.cell? ⟨b2, off2 + k, none⟩ = some (.int .i64 y) := ⟨hc1, hc2⟩
    refine tk2 0 (v := ?_) rfl rfl (Or.inl ⟨by rfl, ?h⟩) hTT ?_
    case h => intro wq hSw; have q1 := hSw.1; have q2 := hSw.2; have e1 := hlti; have e2 := hlt2; go_simp <;> with_reducible rfl
    simp only [LS, Act.put]
    refine tk2 1 (v := ?_) rfl rfl (Or.inl ⟨by rfl, ?h⟩) hTT ?_
    case h => intro wq hSw; have q1 := hSw.1; have q2 := hSw.2; have e1 := hlti; have e2 := hlt2; go_simp <;> with_reducible rfl
    simp only [LS, Act.put]
    refine tk2 2 (v := ?_) rfl rfl (Or.inl ⟨by rfl, ?h⟩) hTT ?_
    case h => intro wq hSw; have q1 := hSw.1; have q2 := hSw.2; have e1 := hlti; have e2 := hlt2; go_simp <;> with_reducible rfl
    simp only [LS, Act.put]
    refine tk2 3 (v := ?_) rfl rfl (Or.inl ⟨by rfl, ?h⟩) hTT ?_
    case h => intro wq hSw; have q1 := hSw.1; have q2 := hSw.2; have e1 := hlti; have e2 := hlt2; go_simp <;> with_reducible rfl
    simp only [LS, Act.put]
    refine tk2 4 (v := ?_) rfl rfl (Or.inl ⟨by rfl, ?h⟩) hTT ?_
    case h => intro wq hSw; have q1 := hSw.1; have q2 := hSw.2; have e1 := hlti; have e2 := hlt2; go_simp <;> with_reducible rfl
    simp only [LS, Act.put]
    refine tk2 5 (v := ?_) rfl rfl (Or.inl ⟨by rfl, ?h⟩) hTT ?_
    case h => intro wq hSw; have q1 := hSw.1; have q2 := hSw.2; have e1 := hlti; have e2 := hlt2; go_simp <;> with_reducible rfl
    simp only [LS, Act.put]
    refine tk2 6 (v := ?_) rfl rfl (Or.inl ⟨by rfl, ?h⟩) hTT ?_
    case h => intro wq hSw; have q1 := hSw.1; have q2 := hSw.2; have e1 := hlti; have e2 := hlt2; go_simp <;> with_reducible rfl
    simp only [LS, Act.put]
    refine tk2 7 (v := ?_) rfl rfl (Or.inl ⟨by rfl, ?h⟩) hTT ?_
    case h => intro wq hSw; have q1 := hSw.1; have q2 := hSw.2; have e1 := hlti; have e2 := hlt2; go_simp <;> with_reducible rfl
    simp only [LS, Act.put]
    refine o1 8 rfl fun K hK => ?_
    go_simp
    refine hK _ _ (.inr hTT) ?_
    clear hK K
    try simp only [LS, Act.put]
    refine wpG_done (by kernel_rfl) ?_ _
    clear hTT
    by_cases he : x = y
    ·have he1 : (x != y) = false := by rw [he]; simp
     have HE := Lib.hid he; clear he hc1 hc2
     go_wp2_with fail
     go_roundg (n - (k + 1))
     case measure => rw [HG.out]; omega
     case rel => exact ⟨k + 1, rfl, by omega, by go_num, Lib.hid (HSU.out HE.out), hB⟩
    ·have he1 : (x != y) = true := by rw [bne_iff_ne]; exact he
     have HE := Lib.hid he; clear he hc1 hc2
     go_wp2_with fail
     go_ret
     exact ⟨by rw [HNO.out HE.out]; rfl, hB⟩
   ·obtain rfl : k = n := by omega
    have hge : ¬ (k : Int) < k := by omega
    have hf : R = true := by
     rw [HR.out, decide_eq_true_eq]
     have := hpre.out
     rwa [List.take_of_length_le (by rw [HL1.out]; exact Nat.le_refl _), List.take_of_length_le (by rw [HL2.out]; exact Nat.le_refl _)] at this
    have HF := Lib.hid hf; clear hf
    go_wp2_with fail
    go_ret
    exact ⟨by rw [HF.out]; rfl, hB⟩
 ·have hf : decide (xs = ys) = false := by
   rw [decide_eq_false_iff_not]
   intro e
   have := congrArg List.length e
   rw [HL1.out, HL2.out] at this
   exact hne this
  rw [hf]
  have hni : ((n : Int) != n2) = true := by rw [bne_iff_ne]; omega
  clear hf
  go_enter Tryz.func31, Tryz.ntmps31
  go_wp2_with fail
  go_ret
  exact ⟨rfl, Below.refl _ _⟩
end
end Go.Proofs.YtekmnelpkogppaaGreatDoor
